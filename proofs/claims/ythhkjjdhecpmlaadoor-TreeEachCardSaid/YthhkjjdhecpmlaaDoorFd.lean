/-
  girandolelaw02.TreeEach, walked: true for whatever tree comes in: the contracts of flat (a row of an expression and all below it) and of what is called with each expression, and the walk.
-/
import Derived.Test.YthhkjjdhecpmlaaDoorEc
import Derived.Test.YthhkjjdhecpmlaaDoorCq
import Derived.Test.YthhkjjdhecpmlaaDoorSo
import Derived.Test.YthhkjjdhecpmlaaDoorRtL
import Derived.Test.YthhkjjdhecpmlaaDoorTrL
import Derived.Deep.RegionHeld3
import Derived.Deep.DeepCutAuto
import Derived.Test.YthhkjjdhecpmlaaDoorTu
namespace Go.Proofs.YthhkjjdhecpmlaaDoor
open Go.RowKit
set_option linter.unusedVariables false
set_option linter.unusedSimpArgs false
theorem RepP.up {w : World} {P : Nat → Prop} : ∀ {d : Nat} {e : Ex} {v : Value}, RepP w P d e v → RepP w P (d + 1) e v
  | 0, _, _, h => h.elim
  | d + 1, .mk k a n nm off kids, v, h => by
    obtain ⟨s, hv, hor⟩ := h
    refine ⟨s, hv, ?_⟩
    rcases hor with h | ⟨b, o, cap, hss, hB, hl, h⟩
    · exact Or.inl h
    · refine Or.inr ⟨b, o, cap, hss, hB, hl, fun i hi => ?_⟩
      obtain ⟨c0, c1, c2, c3, c4, c5, h6, hr⟩ := h i hi
      exact ⟨c0, c1, c2, c3, c4, c5, h6, RepP.up hr⟩
theorem RepP.upto {w : World} {P : Nat → Prop} {d d' : Nat} {e : Ex} {v : Value} (h : d ≤ d') (hr : RepP w P d e v) : RepP w P d' e v := by
  induction h with
  | refl => exact hr
  | step _ ih => exact ih.up
theorem Rep.upto {w : World} {B d d' : Nat} {e : Ex} {v : Value} (h : d ≤ d') (hr : Rep w B d e v) : Rep w B d' e v :=
  (hr.repP.upto h).rep (fun _ hb => hb)
theorem Good.up : ∀ {d : Nat} {e : Ex}, Good d e → Good (d + 1) e
  | 0, _, h => h.elim
  | d + 1, .mk k a n nm off kids, h => ⟨h.1, h.2.1, h.2.2.1, fun i hi => Good.up (h.2.2.2 i hi)⟩
theorem Good.flat : ∀ {d : Nat} {e : Ex}, Good d e → ∀ x ∈ flatN d e, Good d x
  | 0, _, h, _, _ => h.elim
  | d + 1, .mk k a n nm off kids, h, x, hx => by
    have hx' : x ∈ (.mk k a n nm off kids :: (kids.map (flatN d)).flatten : List Ex) := hx
    rcases List.mem_cons.1 hx' with rfl | hx2
    · exact h
    · obtain ⟨l, hl, hxl⟩ := List.mem_flatten.1 hx2
      obtain ⟨e, he, rfl⟩ := List.mem_map.1 hl
      obtain ⟨i, hi, rfl⟩ := List.getElem_of_mem he
      exact ((h.2.2.2 i hi).flat x hxl).up
/-- A row of cells is that of these expressions, all that is below them lying in blocks of a set. -/
def RowAt (w : World) (P : Nat → Prop) (xs : List Value) (es : List Ex) : Prop :=
  xs.length = es.length * 6 ∧ (∀ u ∈ xs, u.oneCell' = true) ∧ ∀ i (h : i < es.length), ∃ c0 c1 c2 c3 c4 c5, Sub6 xs (i * 6) c0 c1 c2 c3 c4 c5 ∧ RepP w P 6 es[i] (.agg #[c0, c1, c2, c3, c4, c5])
theorem RowAt.keep {w w' : World} {P : Nat → Prop} {B : Nat} {xs : List Value} {es : List Ex} (h : RowAt w P xs es) (hP : ∀ b, P b → b < B) (hb : Below B w w') : RowAt w' P xs es := by
  refine ⟨h.1, h.2.1, fun i hi => ?_⟩
  obtain ⟨c0, c1, c2, c3, c4, c5, h6, hr⟩ := h.2.2 i hi
  exact ⟨c0, c1, c2, c3, c4, c5, h6, hr.keep (fun _ h => h) (fun b hb' => hb.block b (hP b hb'))⟩
theorem RowAt.append {w : World} {P : Nat → Prop} {xs ys : List Value} {es fs : List Ex} (h : RowAt w P xs es) (h' : RowAt w P ys fs) : RowAt w P (xs ++ ys) (es ++ fs) := by
  refine ⟨by rw [List.length_append, List.length_append, h.1, h'.1, Nat.add_mul], fun u hu => ?_, fun i hi => ?_⟩
  · rcases List.mem_append.1 hu with h1 | h1
    · exact h.2.1 u h1
    · exact h'.2.1 u h1
  · by_cases hl : i < es.length
    · obtain ⟨c0, c1, c2, c3, c4, c5, h6, hr⟩ := h.2.2 i hl
      refine ⟨c0, c1, c2, c3, c4, c5, h6.left, ?_⟩
      rw [List.getElem_append_left hl]; exact hr
    · rw [List.length_append] at hi
      have hj : i - es.length < fs.length := by omega
      obtain ⟨c0, c1, c2, c3, c4, c5, h6, hr⟩ := h'.2.2 (i - es.length) hj
      refine ⟨c0, c1, c2, c3, c4, c5, ?_, ?_⟩
      · have R : ∀ {k : Nat} {c : Value}, ys[(i - es.length) * 6 + k]? = some c → (xs ++ ys)[i * 6 + k]? = some c := fun {k c} hc => by
          rw [List.getElem?_append_right (by rw [h.1]; have : es.length * 6 ≤ i * 6 := Nat.mul_le_mul_right 6 (by omega); omega), h.1]
          rw [show i * 6 + k - es.length * 6 = (i - es.length) * 6 + k by rw [Nat.sub_mul]; have : es.length * 6 ≤ i * 6 := Nat.mul_le_mul_right 6 (by omega); omega]
          exact hc
        obtain ⟨h0, h1, h2, h3, h4, h5⟩ := h6
        exact ⟨R (k := 0) h0, R h1, R h2, R h3, R h4, R h5⟩
      · rw [List.getElem_append_right (by omega)]; exact hr
theorem RowAt.one {w : World} {P : Nat → Prop} {e : Ex} {k a n : Int} {nm : ByteArray} {off : Bool} {p : Option Addr} {l c : Nat} {d : Nat} (hd : d ≤ 6) (h : RepP w P d e (exVal k a n nm off (.slice p l c))) :
    RowAt w P [.int .i64 k, .int .i64 a, .int .i64 n, .string nm, .bool off, .slice p l c] [e] := by
  refine ⟨rfl, by simp [Value.oneCell'], fun i hi => ?_⟩
  obtain rfl : i = 0 := by simpa using hi
  exact ⟨_, _, _, _, _, _, ⟨rfl, rfl, rfl, rfl, rfl, rfl⟩, h.upto hd⟩
/-- What flat answers. -/
def FlatOut (w : World) (P : Nat → Prop) (es : List Ex) (x : Ending) (w' : World) : Prop :=
  ∃ (g c : Nat) (xs : List Value), x = .returned (.slice (some ⟨g, 0, none⟩) es.length c) ∧ w'.ownsRow w.heap.size 45 6 (.slice (some ⟨g, 0, none⟩) es.length c) es.length xs ∧ RowAt w' P xs es ∧ Below w.heap.size w w'
/-- What holds at the head of a round of flat. -/
def FlSt (w : World) (P : Nat → Prop) (g n c : Nat) (es : List Ex) (wr : World) : Prop :=
  Below w.heap.size w wr ∧ n = es.length ∧ ∃ xs : List Value, wr.ownsRow w.heap.size 45 6 (.slice (some ⟨g, 0, none⟩) n c) n xs ∧ RowAt wr P xs es
theorem FlSt.step {w wr w2 w3 : World} {P : Nat → Prop} {g n c : Nat} {es fs : List Ex} {xs ys : List Value} {v' : Value} (hP : ∀ b, P b → b < w.heap.size) (hn : n = es.length) (hb : Below w.heap.size w wr)
    (ho : w2.ownsRow w.heap.size 45 6 (.slice (some ⟨g, 0, none⟩) n c) n xs) (hx : RowAt w2 P xs es) (h2 : Below wr.heap.size wr w2) (hy : RowAt w2 P ys fs)
    (hown : w3.ownsRow w.heap.size 45 6 v' (n + fs.length) (xs ++ ys)) (hg : w2.grownBy w3 (Value.ownBlock (.slice (some ⟨g, 0, none⟩) n c)))
    (hnil : v' = .slice none 0 0 ↔ (Value.slice (some ⟨g, 0, none⟩) n c) = .slice none 0 0 ∧ fs.length = 0) :
    ∃ g' c', v' = .slice (some ⟨g', 0, none⟩) (n + fs.length) c' ∧ FlSt w P g' (n + fs.length) c' (es ++ fs) w3 := by
  have hb3 : Below w.heap.size w w3 := (hb.trans (h2.mono hb.size)).grown hg (by have := hb.size; have := h2.size; omega) (fun k hk => (ho.lt k hk).1)
  have hb23 : Below w.heap.size w2 w3 := (Below.refl _ _).grown hg (by have := hb.size; have := h2.size; omega) (fun k hk => (ho.lt k hk).1)
  have hR : RowAt w3 P (xs ++ ys) (es ++ fs) := (hx.append hy).keep hP hb23
  rcases hown.2 with ⟨hv, h0⟩ | ⟨g', c', cur, hv, hr⟩
  · exact absurd hv (by rw [hnil]; simp)
  · subst hv
    exact ⟨g', c', rfl, hb3, by rw [List.length_append, hn], xs ++ ys, hown, hR⟩
theorem FlSt.start {w wr : World} {P : Nat → Prop} {g : Nat} {d : Nat} {e : Ex} {k a n : Int} {nm : ByteArray} {off : Bool} {p : Option Addr} {l c : Nat} (hd : d ≤ 6) (hb : Below w.heap.size w wr) (hg : w.heap.size ≤ g)
    (hB : Blk wr g 45 #[.int .i64 k, .int .i64 a, .int .i64 n, .string nm, .bool off, .slice p l c]) (hr : RepP wr P d e (exVal k a n nm off (.slice p l c))) : FlSt w P g 1 1 [e] wr :=
  ⟨hb, rfl, _, ⟨rfl, .inr ⟨g, 1, _, rfl, hg, hB, Nat.le_refl _, by unfold maxLen; omega, rfl, rfl⟩⟩, RowAt.one hd hr⟩
theorem flat_part_le {d : Nat} {kids : List Ex} {j : Nat} (h : j < kids.length) : ((kids.take j).map (flatN d)).flatten.length + (flatN d kids[j]).length ≤ ((kids.map (flatN d)).flatten).length := by
  have e : kids.map (flatN d) = (kids.take (j + 1)).map (flatN d) ++ (kids.drop (j + 1)).map (flatN d) := by rw [← List.map_append, List.take_append_drop]
  rw [e, List.flatten_append, flat_take h, List.length_append, List.length_append]
  omega
theorem info45f : (Tryd.prog.info? 45).map (fun i => (i.zero, i.size, i.bytes)) = some (some (.agg #[.int .i64 0, .int .i64 0, .int .i64 0, .string ⟨#[]⟩, .bool false, .slice none 0 0]), 6, 72) := by kernel_rfl
set_option maxHeartbeats 4000000 in
set_option maxRecDepth 100000 in
theorem flat_step (d : Nat) (hd : d + 1 ≤ 6) (k a n : Int) (nm : ByteArray) (off : Bool) (kids : List Ex) (s : Value) (w : World) (P : Nat → Prop) (B : Nat) (hP : ∀ b, P b → b < B) (hB : B ≤ w.heap.size)
    (hr : RepP w P (d + 1) (.mk k a n nm off kids) (exVal k a n nm off s)) (hlen : (flatN (d + 1) (.mk k a n nm off kids)).length ≤ 100000)
    (ih : ∀ j (h : j < kids.length) v w1, RepP w1 P d kids[j] v → B ≤ w1.heap.size → (flatN d kids[j]).length ≤ 100000 → Calls Tryd.prog 43 #[v] w1 (FlatOut w1 P (flatN d kids[j]))) :
    Calls Tryd.prog 43 #[exVal k a n nm off s] w (FlatOut w P (flatN (d + 1) (.mk k a n nm off kids))) := by
  obtain ⟨i0, hi, hz0, hz1, hz2⟩ := info_parts info45f
  obtain ⟨sp, sl, sc, rfl, hsl⟩ : ∃ sp sl sc, s = .slice sp sl sc ∧ sl = kids.length := by
    obtain ⟨s2, hv, h⟩ := hr
    injection hv with hv
    obtain rfl : s = s2 := by simpa using hv
    rcases h with ⟨rfl, rfl⟩ | ⟨b, o, cap, rfl, _⟩
    · exact ⟨none, 0, 0, rfl, rfl⟩
    · exact ⟨_, _, _, rfl, rfl⟩
  have hlen2 : 1 + ((kids.map (flatN d)).flatten).length ≤ 100000 := by
    have e : (flatN (d + 1) (.mk k a n nm off kids)).length = ((kids.map (flatN d)).flatten).length + 1 := rfl
    omega
  have HQ := Lib.hid hr; have IH := Lib.hid ih; have HSL := Lib.hid hsl; have HPP := Lib.hid hP; have HLEN := Lib.hid hlen2
  clear hr ih hsl hlen hlen2 hP
  go_enter Tryd.func43, Tryd.ntmps43
  go_wp2_with fail
  generalize hW : (w.alloc _).alloc _ = W0
  have HB0 := Lib.hid (show Below w.heap.size w W0 by rw [← hW]; exact ((Below.refl _ _).alloc (Nat.le_refl _) _).alloc (by simp) _)
  have HX0 := Lib.hid (show Blk W0 (w.heap.size + 1) 45 #[.int .i64 k, .int .i64 a, .int .i64 n, .string nm, .bool off, .slice sp sl sc] by rw [← hW]; simpa using Blk.new (w.alloc (.cells #[.int .i64 k, .int .i64 a, .int .i64 n, .string nm, .bool off, .slice sp sl sc] 45)) 45 #[.int .i64 k, .int .i64 a, .int .i64 n, .string nm, .bool off, .slice sp sl sc])
  clear hW
  have HS0 := Lib.hid (FlSt.start (e := .mk k a n nm off kids) hd HB0.out (by omega) HX0.out (HQ.out.keep (fun _ h => h) (fun b hb => HB0.out.block b (Nat.lt_of_lt_of_le (HPP.out b hb) hB))))
  go_loopw [3, 11] (fun v t wr => ∃ (j g m c : Nat), t = .int .i64 j ∧ j ≤ kids.length ∧ v = .slice (some ⟨g, 0, none⟩) m c ∧ FlSt w P g m c (.mk k a n nm off kids :: ((kids.take j).map (flatN d)).flatten) wr) (fun _ t _ => kids.length - (intOf t).toNat)
  case atStart => exact ⟨0, _, 1, 1, rfl, Nat.zero_le _, rfl, HS0.out⟩
  case round =>
    obtain ⟨j, g, m, c, rfl, hj, rfl, hst⟩ := hrel
    have HS := Lib.hid hst
    clear hst
    by_cases hl1 : j < kids.length
    · obtain ⟨s2, hv, hor⟩ := HQ.out
      injection hv with hv
      obtain rfl : Value.slice sp sl sc = s2 := by simpa using hv
      have hor2 : ∃ b o cap, Value.slice sp sl sc = .slice (some ⟨b, o, none⟩) kids.length cap ∧ P b ∧ kids.length ≤ 1000000 ∧ ∀ i (h : i < kids.length), ∃ c0 c1 c2 c3 c4 c5, Six w b (o + i * 6) c0 c1 c2 c3 c4 c5 ∧ RepP w P d kids[i] (.agg #[c0, c1, c2, c3, c4, c5]) := by
        rcases hor with ⟨h0, _⟩ | h
        · subst h0; simp at hl1
        · exact h
      obtain ⟨b, o, cap, hv2, hPb, hlk, hcell⟩ := hor2
      injection hv2 with e1 e2 e3
      subst e1 e2 e3
      obtain ⟨c0, c1', c2', c3', c4, c5, h6, hrp⟩ := hcell j hl1
      have hPw : ∀ b, P b → b < w.heap.size := fun b hb => Nat.lt_of_lt_of_le (HPP.out b hb) hB
      obtain ⟨k1, a1, n1, nm1, off1, sp1, sl1, sc1, rfl, rfl, rfl, rfl, rfl, rfl⟩ := (hrp.rep (B := w.heap.size) hPw).shape
      obtain ⟨e0, e1, e2, e3, e4, e5⟩ := six_parts (h6.below HS.out.1 (hPw b hPb))
      have HRK := Lib.hid hrp
      have HPW := Lib.hid hPw
      have HLJ := Lib.hid (flat_part_le (d := d) hl1)
      clear hcell h6 hrp hor hv hPw
      go_wp2_with fail
      generalize hV : wr.alloc _ = V1
      have HBV := Lib.hid (show Below wr.heap.size wr V1 by rw [← hV]; exact (Below.refl _ _).alloc (Nat.le_refl _) _)
      clear hV e0 e1 e2 e3 e4 e5
      have HRV := Lib.hid (HRK.out.keep (w' := V1) (fun _ h => h) (fun b hb => (HS.out.1.trans (HBV.out.mono HS.out.1.size)).block b (HPW.out b hb)))
      refine (IH.out j hl1 _ V1 HRV.out (Nat.le_trans hB (Nat.le_trans HS.out.1.size HBV.out.size)) (by have := HLJ.out; have := HLEN.out; omega)).mono ?_
      rintro x w2 ⟨g2, c2, ys, rfl, ho2, hy2, hb2⟩
      obtain ⟨xs, ho, hx⟩ := HS.out.2.2
      have HB2 := Lib.hid (HBV.out.trans (hb2.mono HBV.out.size))
      have HO := Lib.hid (ownsRow_below ho HB2.out)
      have HX := Lib.hid (hx.keep (B := wr.heap.size) (fun b hb => Nat.lt_of_lt_of_le (HPW.out b hb) HS.out.1.size) HB2.out)
      have HO2 := Lib.hid ho2; have HY := Lib.hid hy2
      have HM := Lib.hid (show m + (flatN d kids[j]).length ≤ 100000 by have := HS.out.2.1; have := HLJ.out; have := HLEN.out; simp only [List.length_cons] at *; omega)
      clear hb2 ho hx ho2 hy2
      go_wp2_with (at_builtin; refine wpList_append_own _ rfl (.tmp 15) (.tmp 17) 43 rfl w.heap.size 45 i0 _ 6 72 Tryd.underlying43 hi hz0 hz1 hz2 rfl (by decide) (.slice (some ⟨g, 0, none⟩) m c) m xs rfl HO.out ⟨g2, 0, none⟩ (flatN d kids[j]).length c2 ys rfl HY.out.1 (HO2.out.cells (g := g2) rfl) HY.out.2.1 (by have := HM.out; unfold maxLen; omega) (by have := HM.out; omega) (by have := HS.out.1.size; have := HB2.out.size; omega) ?_; intro v' w3 hown hg hnil; obtain ⟨g3, c3, rfl, hS3⟩ := FlSt.step HPW.out HS.out.2.1 HS.out.1 HO.out HX.out HB2.out HY.out hown hg hnil; have HS3 := Lib.hid hS3; clear hown hg hnil hS3)
      go_wp2_with fail
      go_roundw
      case rel => exact ⟨j + 1, g3, _, c3, by go_num, by omega, rfl, by rw [flat_take hl1, ← List.cons_append]; exact HS3.out⟩
      case measure => simp [intOf]; omega
    · have hje : j = kids.length := by omega
      subst hje
      rw [List.take_length] at HS
      have hs1 := HSL.out
      subst hs1
      go_wp2_with fail
      go_ret
      obtain ⟨hb, hm, xs, ho, hx⟩ := HS.out
      have hm2 : m = (flatN (d + 1) (.mk k a n nm off kids)).length := hm
      subst hm2
      exact ⟨g, c, xs, rfl, ho, hx, hb⟩
theorem flat_all : ∀ (d : Nat), d ≤ 6 → ∀ (e : Ex) (v : Value) (w : World) (P : Nat → Prop) (B : Nat), RepP w P d e v → (∀ b, P b → b < B) → B ≤ w.heap.size → (flatN d e).length ≤ 100000 → Calls Tryd.prog 43 #[v] w (FlatOut w P (flatN d e))
  | 0, _, _, _, _, _, _, h, _, _, _ => h.elim
  | d + 1, hd, .mk k a n nm off kids, v, w, P, B, h, hP, hB, hl => by
    have h0 := h
    obtain ⟨s, rfl, _⟩ := h
    exact flat_step d hd k a n nm off kids s w P B hP hB h0 hl (fun j hj v w1 h1 h2 h3 => flat_all d (by omega) _ v w1 P B h1 hP h2 h3)
/-- A store of what stands there. -/
theorem Below.setSame {W w' : World} {b T : Nat} {x : Value} (h : Below W.heap.size W w') (hb : Blk W b T #[x]) : Below W.heap.size W (w'.setCell ⟨b, 0, none⟩ x) := by
  refine ⟨h.os, h.tape, h.output, by simpa using h.size, fun b' hb' => ?_⟩
  by_cases e : b' = b
  · subst e
    have h1 : Blk (w'.setCell ⟨b', 0, none⟩ x) b' T (#[x].setIfInBounds 0 x) := (hb.below h).set (o := 0) x
    exact h1.trans hb.symm
  · rw [Below.heap_setCell _ _ _ _ e]
    exact h.block b' hb'
theorem Foot.set1 {S : Nat → Prop} {w w1 : World} {b o : Nat} {x : Value} (h : Foot S w w1) (hb : S b) : Foot S w (w1.setCell ⟨b, o, none⟩ x) :=
  h.trans ⟨rfl, rfl, rfl, by simp, fun b' _ hs => Below.heap_setCell _ _ _ _ (fun e => hs (e ▸ hb))⟩
theorem look_end44 {w W1 w' : World} {bf ba : Nat} {x y : Value} (hne : ba ≠ bf) (hF : Blk w bf 4 #[x]) (hA : Blk w ba 3 #[y]) (h1 : Below w.heap.size w W1) (h : Below W1.heap.size W1 w') (z : Value) :
    Blk (w'.setCell ⟨ba, 0, none⟩ z) bf 4 #[x] ∧ Blk (w'.setCell ⟨ba, 0, none⟩ z) ba 3 #[z] ∧ Foot (fun b => b = ba) w (w'.setCell ⟨ba, 0, none⟩ z) :=
  ⟨((hF.below h1).below h).other (Ne.symm hne), ((hA.below h1).below h).set z, (Foot.of_below (h1.trans (h.mono h1.size))).set1 rfl⟩
set_option maxHeartbeats 8000000 in
set_option maxRecDepth 100000 in
theorem look44 (bf ba bw b o cap i n : Nat) (E : Ex) (k a m : Int) (nm : ByteArray) (off : Bool) (sp sp2 : Option Addr) (sl sc sl2 sc2 : Nat) (w : World) (hne : ba ≠ bf)
    (hF : Blk w bf 4 #[.bool true]) (hA : Blk w ba 3 #[.int .i64 i]) (hN : Blk w bw 43 #[.slice (some ⟨b, o, none⟩) n cap]) (hi : i < n) (hn : n ≤ 100000)
    (h6 : Six w b (o + i * 6) (.int .i64 k) (.int .i64 a) (.int .i64 m) (.string nm) (.bool off) (.slice sp2 sl2 sc2)) (hbw : b < w.heap.size)
    (hE : Good 6 E) (hr : Rep w w.heap.size 6 E (exVal k a m nm off (.slice sp sl sc))) (hr2 : Rep w w.heap.size 6 E (exVal k a m nm off (.slice sp2 sl2 sc2))) (hp : Pow w) :
    Calls Tryd.prog 44 #[exVal k a m nm off (.slice sp sl sc), .pointer (some ⟨bf, 0, none⟩), .pointer (some ⟨ba, 0, none⟩), .pointer (some ⟨bw, 0, none⟩)] w fun x w' =>
      x = .returned (.tuple #[]) ∧ Blk w' bf 4 #[.bool true] ∧ Blk w' ba 3 #[.int .i64 ((i + 1 : Nat) : Int)] ∧ Foot (fun b => b = ba) w w' := by
  have HF := Lib.hid hF; have HA := Lib.hid hA; have HN := Lib.hid hN; have H6 := Lib.hid h6; have HE := Lib.hid hE; have HR := Lib.hid hr; have HR2 := Lib.hid hr2; have HP := Lib.hid hp; have HNE := Lib.hid hne; have HBW := Lib.hid hbw
  clear hF hA hN h6 hE hr hr2 hp hne hbw
  go_enter Tryd.func44, Tryd.ntmps44
  go_upto_region 1 with fail
  generalize hW : w.alloc _ = W1
  have HB1 := Lib.hid (show Below w.heap.size w W1 by rw [← hW]; exact (Below.refl _ _).alloc (Nat.le_refl _) _)
  have hX : Blk W1 w.heap.size 49 #[.int .i64 k, .int .i64 a, .int .i64 m, .string nm, .bool off, .slice sp sl sc] := by rw [← hW]; exact Blk.new _ _ _
  clear hW
  have yx := fun w' (h : Below W1.heap.size W1 w') => (hX.below h).six
  clear hX
  have HFW := Lib.hid (HF.out.below HB1.out)
  have HAW := Lib.hid (HA.out.below HB1.out)
  have yf := keep_cell (o := 0) HFW.out.lt (HFW.out.cell (v := .bool true) rfl)
  have ya := keep_cell (o := 0) HAW.out.lt (HAW.out.cell (v := .int .i64 i) rfl)
  have yn := keep_cell (o := 0) (HN.out.below HB1.out).lt ((HN.out.below HB1.out).cell (v := .slice (some ⟨b, o, none⟩) n cap) rfl)
  have y6 := keep_six (Nat.lt_of_lt_of_le HBW.out HB1.out.size) (H6.out.below HB1.out HBW.out)
  have ff := fun w' (h : Below W1.heap.size W1 w') => (HFW.out.below h).free 0
  have fa := fun w' (h : Below W1.heap.size W1 w') => (HAW.out.below h).free 0
  have hP1 : Pow W1 := HP.out.below HB1.out
  have hRx : Rep W1 W1.heap.size 6 E (exVal k a m nm off (.slice sp sl sc)) := (HR.out.below HB1.out).repP.rep (fun b hb => Nat.lt_of_lt_of_le hb HB1.out.size)
  have hRe : Rep W1 W1.heap.size 6 E (exVal k a m nm off (.slice sp2 sl2 sc2)) := (HR2.out.below HB1.out).repP.rep (fun b hb => Nat.lt_of_lt_of_le hb HB1.out.size)
  have hw1 : 0 < W1.heap.size := hP1.size
  have HC24 := Lib.hid (show ∀ w1, Below W1.heap.size W1 w1 → Calls Tryd.prog 24 _ w1 fun e w' => e = .returned (.string (txtN 6 E)) ∧ Below w1.heap.size w1 w' from text_all 6 (by decide) _ _ W1 W1.heap.size HE.out.fit hRx (Nat.le_refl _) hw1 hP1)
  have HC25 := Lib.hid (show ∀ w1, Below W1.heap.size W1 w1 → Calls Tryd.prog 25 _ w1 fun e w' => e = .returned (.string (txtN 6 E)) ∧ Below w1.heap.size w1 w' from rtext_all 6 (by decide) _ _ W1 W1.heap.size HE.out hRe (Nat.le_refl _))
  generalize txtN 6 E = T at HC24 HC25
  clear hP1 hRx hRe hw1 HR HR2 HP HE H6 HN HBW
  go_region_held3 (fun w' => Below W1.heap.size W1 w')
    (first | with_reducible exact (Below.refl _ _).drew | with_reducible assumption | (refine Below.trans ?_ (hb2.mono ?_); assumption; exact Below.size (by assumption)) | (with_reducible refine Below.setSame ?_ HFW.out; with_reducible assumption))
    (first | (go_at_call 24; (with_reducible refine (HC24.out _ ?_).mono ?_); assumption; rintro e w6 ⟨rfl, hb2⟩) | (go_at_call 25; (with_reducible refine (HC25.out _ ?_).mono ?_); assumption; rintro e w6 ⟨rfl, hb2⟩))
  all_goals
    go_wp2_with fail
    go_end0
    exact ⟨rfl, look_end44 HNE.out HF.out HA.out HB1.out (by assumption) _⟩
theorem Rep.whole {w : World} {B d : Nat} {e : Ex} {v : Value} (h : Rep w B d e v) : ∃ k a n nm off kids sp sl sc, e = .mk k a n nm off kids ∧ v = exVal k a n nm off (.slice sp sl sc) := by
  obtain ⟨k, a, n, nm, off, ks⟩ := e
  cases d with
  | zero => exact h.elim
  | succ d =>
    obtain ⟨s, hv, hs⟩ := h
    rcases hs with ⟨_, rfl⟩ | ⟨b, o, cap, rfl, _⟩
    · exact ⟨k, a, n, nm, off, ks, _, _, _, rfl, hv⟩
    · exact ⟨k, a, n, nm, off, ks, _, _, _, rfl, hv⟩
theorem Good.to6 {d : Nat} {e : Ex} (hd : d ≤ 6) (h : Good d e) : Good 6 e := by
  have : ∀ m, Good (d + m) e := fun m => by
    induction m with
    | zero => exact h
    | succ m ih => exact ih.up
  have h6 := this (6 - d)
  rwa [show d + (6 - d) = 6 by omega] at h6
/-- The looks of TreeEach. -/
theorem looks44 (bf ba bw g c base : Nat) (L : List Ex) (P : Nat → Prop) (xs : List Value) (w0 : World) (hW : Blk w0 bw 43 #[.slice (some ⟨g, 0, none⟩) L.length c]) (hX : w0.ownsRow base 45 6 (.slice (some ⟨g, 0, none⟩) L.length c) L.length xs)
    (hR : RowAt w0 P xs L) (hP : ∀ b, P b → b < w0.heap.size) (hpw : Pow w0) (hG : ∀ x ∈ L, Good 6 x) (hL : L.length ≤ 100000) (hba : w0.heap.size ≤ ba) (hbf : w0.heap.size ≤ bf) (hne : ba ≠ bf) :
    Looks 44 (.pointer (some ⟨bf, 0, none⟩)) (.pointer (some ⟨ba, 0, none⟩)) (.pointer (some ⟨bw, 0, none⟩)) (fun b => b = ba)
      (fun i w => Below w0.heap.size w0 w ∧ Blk w bf 4 #[.bool true] ∧ Blk w ba 3 #[.int .i64 i]) L where
  below := fun i w1 w2 h hb => ⟨h.1.trans (hb.mono h.1.size), h.2.1.below hb, h.2.2.below hb⟩
  see := fun i hi d v w1 hd hI hr => by
    obtain ⟨hb, hF, hA⟩ := hI
    obtain ⟨c0, c1, c2, c3, c4, c5, h6, hrp⟩ := hR.2.2 i hi
    have hrp1 : Rep w1 w1.heap.size 6 L[i] (.agg #[c0, c1, c2, c3, c4, c5]) := (hrp.keep (w' := w1) (fun _ h => h) (fun b h => hb.block b (hP b h))).rep (fun b h => Nat.lt_of_lt_of_le (hP b h) hb.size)
    have hr6 := hr.upto hd
    have hGi := hG _ (List.getElem_mem hi)
    have hglt := (hX.lt g rfl).2
    have C : ∀ {j : Nat} {u : Value}, xs[j]? = some u → w1.cell? ⟨g, 0 + j, none⟩ = some u := fun {j u} h => by
      have h2 := (ownsRow_below hX hb).cells (g := g) rfl j u h
      rw [add_at] at h2
      exact h2
    have h6w : Six w1 g (0 + i * 6) c0 c1 c2 c3 c4 c5 := ⟨C h6.1, C h6.2.1, C h6.2.2.1, C h6.2.2.2.1, C h6.2.2.2.2.1, C h6.2.2.2.2.2⟩
    generalize L[i] = E at *
    obtain ⟨k, a, n, nm, off, kids, sp, sl, sc, rfl, rfl⟩ := hr.whole
    obtain ⟨k2, a2, n2, nm2, off2, kids2, sp2, sl2, sc2, he, hv⟩ := hrp1.whole
    injection he with e1 e2 e3 e4 e5 e6
    subst e1 e2 e3 e4 e5 e6
    injection hv with hv
    obtain ⟨rfl, rfl, rfl, rfl, rfl, rfl⟩ : c0 = .int .i64 k ∧ c1 = .int .i64 a ∧ c2 = .int .i64 n ∧ c3 = .string nm ∧ c4 = .bool off ∧ c5 = .slice sp2 sl2 sc2 := by simpa using hv
    refine (look44 bf ba bw g 0 c i L.length _ k a n nm off sp sp2 sl sc sl2 sc2 w1 hne hF hA (hW.below hb) hi hL h6w (Nat.lt_of_lt_of_le hglt hb.size) hGi hr6 hrp1 (hpw.below hb)).mono ?_
    rintro x w2 ⟨rfl, h1, h2, h3⟩
    exact ⟨rfl, ⟨hb.trans (h3.below hb.size (fun b hb' => by subst hb'; exact hba)), h1, h2⟩, h3⟩
set_option maxHeartbeats 8000000 in
set_option maxRecDepth 100000 in
theorem treeEach_walk (rk ra rn : Int) (rnm : ByteArray) (roff : Bool) (rsp : Option Addr) (rsl rsc : Nat) (w : World) (B : Nat) (hB : B ≤ w.heap.size) (hraw : Raw w B 5 (exVal rk ra rn rnm roff (.slice rsp rsl rsc))) (hp : Pow w) :
    Calls Tryd.prog 10 #[exVal rk ra rn rnm roff (.slice rsp rsl rsc)] w fun x w' => x = .returned (.bool true) ∧ Below w.heap.size w w' := by
  have HRAW := Lib.hid hraw; have HP := Lib.hid hp
  have HW0 := Lib.hid hp.size
  clear hraw hp
  go_enter Tryd.func10, Tryd.ntmps10
  go_wp2_with fail
  generalize hW : w.alloc _ = W0
  have HB0 := Lib.hid (show Below w.heap.size w W0 by rw [← hW]; exact (Below.refl _ _).alloc (Nat.le_refl _) _)
  have HX0 := Lib.hid (show Blk W0 w.heap.size 45 #[.int .i64 rk, .int .i64 ra, .int .i64 rn, .string rnm, .bool roff, .slice rsp rsl rsc] by rw [← hW]; exact Blk.new _ _ _)
  clear hW
  refine (awakeTree W0 (HP.out.below HB0.out)).mono ?_
  rintro x w1 ⟨rfl, hb1⟩
  have HB1 := Lib.hid (HB0.out.trans (hb1.mono HB0.out.size))
  obtain ⟨x0, x1, x2, x3, x4, x5⟩ := (HX0.out.below hb1).six
  clear hb1
  go_wp2_with fail
  refine (some_any 5 (by decide) _ w1 B (HRAW.out.below (HB1.out.mono hB)) (Nat.le_trans hB HB1.out.size)).mono ?_
  rintro x w2 ⟨E, hgE, k, a, n, nm, off, sp, sl, sc, rfl, hr2, hb2⟩
  have HGE := Lib.hid hgE; have HR2 := Lib.hid hr2; have HB2 := Lib.hid (HB1.out.trans (hb2.mono HB1.out.size))
  clear hgE hr2 hb2 x0 x1 x2 x3 x4 x5
  go_wp2_with fail
  generalize hV : w2.alloc _ = V2
  have HBV := Lib.hid (show Below w2.heap.size w2 V2 by rw [← hV]; exact (Below.refl _ _).alloc (Nat.le_refl _) _)
  have HXV := Lib.hid (show Blk V2 w2.heap.size 45 #[.int .i64 k, .int .i64 a, .int .i64 n, .string nm, .bool off, .slice sp sl sc] by rw [← hV]; exact Blk.new _ _ _)
  clear hV
  have HRV := Lib.hid (HR2.out.keep (w' := V2) (fun _ h => h) (fun b hb => HBV.out.block b hb.2))
  have HLEN := Lib.hid (show (flatN 6 E).length ≤ 100000 from by rw [flat_len]; exact Nat.le_trans (cntN_small HGE.out (by decide)) (by decide))
  refine (flat_all 6 (by decide) E _ V2 _ w2.heap.size HRV.out (fun b hb => hb.2) HBV.out.size HLEN.out).mono ?_
  rintro x w3 ⟨g, c, xs, rfl, ho3, hrow3, hb3⟩
  have HO3 := Lib.hid ho3; have HROW3 := Lib.hid hrow3; have HB3 := Lib.hid hb3
  clear ho3 hrow3 hb3
  go_upto_region 7 with fail
  generalize hY : w3.alloc _ = W3
  have HB33 := Lib.hid (show Below w3.heap.size w3 W3 by rw [← hY]; exact (Below.refl _ _).alloc (Nat.le_refl _) _)
  have HZ3 := Lib.hid (show W3.heap.size = w3.heap.size + 1 by rw [← hY]; simp)
  have HW3 := Lib.hid (show Blk W3 w3.heap.size 43 #[.slice (some ⟨g, 0, none⟩) (flatN 6 E).length c] by rw [← hY]; exact Blk.new _ _ _)
  clear hY
  generalize hU : (W3.alloc _).alloc _ = W4
  have HB4 := Lib.hid (show Below W3.heap.size W3 W4 by rw [← hU]; exact ((Below.refl _ _).alloc (Nat.le_refl _) _).alloc (by simp) _)
  have HZ4 := Lib.hid (show W4.heap.size = W3.heap.size + 2 by rw [← hU]; simp)
  have HA4 := Lib.hid (show Blk W4 W3.heap.size 3 #[.int .i64 ((0 : Nat) : Int)] by rw [← hU]; exact (Blk.new W3 3 #[.int .i64 0]).alloc (.cells #[.bool true] 4))
  have HF4 := Lib.hid (show Blk W4 (W3.heap.size + 1) 4 #[.bool true] by rw [← hU]; simpa using (Blk.new (W3.alloc (.cells #[.int .i64 0] 3)) 4 #[.bool true]))
  clear hU
  have HB34 := Lib.hid (HB33.out.trans (HB4.out.mono HB33.out.size))
  obtain ⟨x0, x1, x2, x3, x4, x5⟩ := ((HXV.out.below HB3.out).below HB34.out).six
  rw [← HZ3.out]
  have HV4 := Lib.hid (show Below V2.heap.size V2 W4 from HB3.out.trans (HB34.out.mono HB3.out.size))
  have HR4 := Lib.hid (show Rep W4 w2.heap.size 6 E (exVal k a n nm off (.slice sp sl sc)) from (HRV.out.keep (w' := W4) (fun _ h => h) (fun b hb => HV4.out.block b (Nat.lt_of_lt_of_le hb.2 HBV.out.size))).rep (fun b hb => hb.2))
  go_wp2_with fail
  refine (own_all 6 E _ W4 w2.heap.size HR4.out (Nat.le_trans HBV.out.size HV4.out.size)).mono ?_
  rintro x w5 ⟨k5, a5, n5, nm5, off5, sp5, sl5, sc5, rfl, hr5, hb5⟩
  have HR5 := Lib.hid hr5; have HB5 := Lib.hid hb5
  clear hr5 hb5 x0 x1 x2 x3 x4 x5
  go_wp2_with fail
  have hL := looks44 (W3.heap.size + 1) W3.heap.size w3.heap.size g c V2.heap.size (flatN 6 E) _ xs W3 HW3.out (ownsRow_below HO3.out HB33.out) (HROW3.out.keep (B := w2.heap.size) (fun b hb => hb.2) (HB33.out.mono (Nat.le_trans HBV.out.size HB3.out.size))) (fun b hb => by have := hb.2; have := HBV.out.size; have := HB3.out.size; have := HB33.out.size; omega) (HP.out.below (HB2.out.trans ((HBV.out.trans ((HB3.out.trans (HB33.out.mono HB3.out.size)).mono HBV.out.size)).mono HB2.out.size))) (fun x hx => HGE.out.flat x hx) HLEN.out (Nat.le_refl _) (by omega) (by omega)
  refine (each_all44 _ _ _ (fun b => b = W3.heap.size) _ (flatN 6 E) hL 6 (by decide) E _ w5 (fun b => W4.heap.size ≤ b ∧ b < w5.heap.size) 0 HR5.out (fun b hb => ⟨hb.2, by have := HZ4.out; omega⟩) (fun b hb => by have := HZ4.out; have := HB5.out.size; omega) (part_all _ _) ⟨HB4.out.trans (HB5.out.mono HB4.out.size), HF4.out.below HB5.out, HA4.out.below HB5.out⟩).mono ?_
  rintro x w6 ⟨rfl, ⟨hb6, hf6, ha6⟩, hF6⟩
  have HBW := Lib.hid (HB2.out.trans ((HBV.out.trans ((HB3.out.trans ((HB33.out.trans (hb6.mono HB33.out.size)).mono HB3.out.size)).mono HBV.out.size)).mono HB2.out.size))
  have yf := hf6.cell (o := 0) (v := .bool true) rfl
  have ya := ha6.cell (o := 0) (v := .int .i64 ((0 + (flatN 6 E).length : Nat) : Int)) rfl
  rw [Nat.zero_add] at ya
  have yw := (HW3.out.below hb6).cell (o := 0) (v := .slice (some ⟨g, 0, none⟩) (flatN 6 E).length c) rfl
  clear hb6 hf6 ha6 hF6 hL
  go_wp2_with fail
  go_ret
  exact ⟨by simp, HBW.out⟩
end Go.Proofs.YthhkjjdhecpmlaaDoor
