/-
  The contract of tree.copyExpr: a copy, in new memory.
-/
import Derived.Test.YthhkjjdhecpmlaaDoorCq
import Derived.Deep.RegionHeld3
namespace Go.Proofs.YthhkjjdhecpmlaaDoor
open Go.RowKit
set_option linter.unusedVariables false
set_option linter.unusedSimpArgs false
theorem rep_one {w : World} {B d : Nat} {e : Ex} {c0 c1 c2 c3 c4 c5 : Value} (h : Rep w B d e (.agg #[c0, c1, c2, c3, c4, c5])) : ∀ u ∈ [c0, c1, c2, c3, c4, c5], u.oneCell' = true := by
  obtain ⟨k1, a1, n1, nm1, off1, sp1, sl1, sc1, rfl, rfl, rfl, rfl, rfl, rfl⟩ := h.shape
  simp [Value.oneCell']
/-- The kids' cells, one behind the other. -/
theorem kid_cells {w : World} {B d b o : Nat} : ∀ (m : Nat) (kids : List Ex) (hm : m ≤ kids.length),
    (∀ i (h : i < kids.length), ∃ c0 c1 c2 c3 c4 c5, Six w b (o + i * 6) c0 c1 c2 c3 c4 c5 ∧ Rep w B d kids[i] (.agg #[c0, c1, c2, c3, c4, c5])) →
    ∃ xs : List Value, xs.length = m * 6 ∧ (∀ j u, xs[j]? = some u → w.cell? ⟨b, o + j, none⟩ = some u) ∧ (∀ u ∈ xs, u.oneCell' = true) ∧
      ∀ i (h : i < m), ∃ c0 c1 c2 c3 c4 c5, Sub6 xs (i * 6) c0 c1 c2 c3 c4 c5 ∧ Rep w B d (kids[i]'(Nat.lt_of_lt_of_le h hm)) (.agg #[c0, c1, c2, c3, c4, c5])
  | 0, kids, _, _ => ⟨[], rfl, fun j u h => (by simp at h), fun u h => (by cases h), fun i h => (by omega)⟩
  | m + 1, kids, hm, hk => by
    obtain ⟨xs, h1, h2, h3, h4⟩ := kid_cells m kids (by omega) hk
    obtain ⟨c0, c1, c2, c3, c4, c5, h6, hr⟩ := hk m (by omega)
    refine ⟨xs ++ [c0, c1, c2, c3, c4, c5], by rw [List.length_append, h1]; show m * 6 + 6 = _; omega, fun j u hj => ?_, fun u hu => ?_, fun i hi => ?_⟩
    · by_cases hl : j < xs.length
      · rw [List.getElem?_append_left hl] at hj
        exact h2 j u hj
      · rw [List.getElem?_append_right (by omega)] at hj
        obtain ⟨q0, q1, q2, q3, q4, q5⟩ := h6
        obtain ⟨t, ht⟩ : ∃ t, j = xs.length + t := ⟨j - xs.length, by omega⟩
        subst ht
        rw [Nat.add_sub_cancel_left] at hj
        have htl : t < 6 := (List.getElem?_eq_some_iff.1 hj).1
        have ht6 : t = 0 ∨ t = 1 ∨ t = 2 ∨ t = 3 ∨ t = 4 ∨ t = 5 := by omega
        rw [h1]
        rcases ht6 with rfl | rfl | rfl | rfl | rfl | rfl <;> (simp at hj; subst hj; first | assumption | (rw [← Nat.add_assoc]; assumption))
    · rcases List.mem_append.1 hu with hu | hu
      · exact h3 u hu
      · exact rep_one hr u hu
    · by_cases hil : i < m
      · obtain ⟨d0, d1, d2, d3, d4, d5, g6, gr⟩ := h4 i hil
        exact ⟨d0, d1, d2, d3, d4, d5, g6.left, gr⟩
      · obtain rfl : i = m := by omega
        refine ⟨c0, c1, c2, c3, c4, c5, ?_, hr⟩
        rw [← h1]
        refine ⟨?_, ?_, ?_, ?_, ?_, ?_⟩ <;> simp [List.getElem?_append_right]
theorem keep_six2 {W : World} {b g : Nat} {c0 c1 c2 c3 c4 c5 : Value} (h : Blk W b 49 #[c0, c1, c2, c3, c4, c5]) (hne : b ≠ g) :
    ∀ w', Exc g W w' → w'.cell? ⟨b, 0, none⟩ = some c0 ∧ w'.cell? ⟨b, 1, none⟩ = some c1 ∧ w'.cell? ⟨b, 2, none⟩ = some c2 ∧ w'.cell? ⟨b, 3, none⟩ = some c3 ∧ w'.cell? ⟨b, 4, none⟩ = some c4 ∧ w'.cell? ⟨b, 5, none⟩ = some c5 :=
  fun w' h' => (h.same (h'.2 b h.lt hne)).six
/-- A place of a row may be written. -/
theorem Blk.place {w : World} {g T i : Nat} {cs : Array Value} (h : Blk w g T cs) (hi : i + 6 ≤ cs.size) :
    ∃ u0 u1 u2 u3 u4 u5, w.cell? ⟨g, i, none⟩ = some u0 ∧ w.cell? ⟨g, i + 1, none⟩ = some u1 ∧ w.cell? ⟨g, i + 2, none⟩ = some u2 ∧ w.cell? ⟨g, i + 3, none⟩ = some u3 ∧ w.cell? ⟨g, i + 4, none⟩ = some u4 ∧ w.cell? ⟨g, i + 5, none⟩ = some u5 ∧
      w.frozen? ⟨g, i, none⟩ = false ∧ w.frozen? ⟨g, i + 1, none⟩ = false ∧ w.frozen? ⟨g, i + 2, none⟩ = false ∧ w.frozen? ⟨g, i + 3, none⟩ = false ∧ w.frozen? ⟨g, i + 4, none⟩ = false ∧ w.frozen? ⟨g, i + 5, none⟩ = false :=
  ⟨_, _, _, _, _, _, h.cell (Array.getElem?_eq_getElem (by omega)), h.cell (Array.getElem?_eq_getElem (by omega)), h.cell (Array.getElem?_eq_getElem (by omega)), h.cell (Array.getElem?_eq_getElem (by omega)), h.cell (Array.getElem?_eq_getElem (by omega)), h.cell (Array.getElem?_eq_getElem (by omega)), h.free _, h.free _, h.free _, h.free _, h.free _, h.free _⟩
theorem cp_step' {w w2 : World} {B d : Nat} {k a n : Int} {nm : ByteArray} {off : Bool} {kids : List Ex} {g c j m p : Nat} {c0 c1 c2 c3 c4 c5 : Value} (hp : j * 6 = p) (h : CpSt w B d k a n nm off kids g c m (set6 w2 g (j * 6) c0 c1 c2 c3 c4 c5)) :
    CpSt w B d k a n nm off kids g c m ((((((w2.setCell ⟨g, p, none⟩ c0).setCell ⟨g, p + 1, none⟩ c1).setCell ⟨g, p + 2, none⟩ c2).setCell ⟨g, p + 3, none⟩ c3).setCell ⟨g, p + 4, none⟩ c4).setCell ⟨g, p + 5, none⟩ c5) := by
  subst hp; exact h
theorem cp_start {w W0 W1 : World} {B d : Nat} {k a n : Int} {nm : ByteArray} {off : Bool} {kids : List Ex} {g c : Nat} {s : Value} {xs : List Value} (hz : W0.heap.size = w.heap.size + 2) (hb0 : Below w.heap.size w W0)
    (hA : Blk W0 w.heap.size 49 #[.int .i64 k, .int .i64 a, .int .i64 n, .string nm, .bool off, s])
    (hR : Blk W0 (w.heap.size + 1) 49 #[.int .i64 0, .int .i64 0, .int .i64 0, .string ⟨#[]⟩, .bool false, .slice none 0 0])
    (hb1 : Below W0.heap.size W0 W1) (hown : W1.ownsRow W0.heap.size 49 6 (.slice (some ⟨g, 0, none⟩) kids.length c) kids.length xs)
    (hk : ∀ i (h : i < kids.length), ∃ c0 c1 c2 c3 c4 c5, Sub6 xs (i * 6) c0 c1 c2 c3 c4 c5 ∧ Rep w B d kids[i] (.agg #[c0, c1, c2, c3, c4, c5])) :
    CpSt w B d k a n nm off kids g c 0 (W1.setCell ⟨w.heap.size, 5, none⟩ (.slice (some ⟨g, 0, none⟩) kids.length c)) := by
  have hg := (hown.lt g rfl).1
  have hx : xs.length = kids.length * 6 := hown.1
  rcases hown.2 with ⟨hv, _⟩ | ⟨g2, cap, cur, hv, _, hgc, _, _, hcs, htk⟩
  · exact absurd hv (by simp)
  · injection hv with hv1 hv2 hv3
    injection hv1 with hv1
    injection hv1 with hv1
    subst hv1
    have hc : Blk W1 g 49 cur := hgc
    have hsz : kids.length * 6 ≤ cur.size := by
      have := congrArg List.length htk
      rw [List.length_take, hx, Array.length_toList] at this
      omega
    have C : ∀ {i : Nat} {u : Value}, xs[i]? = some u → cur[i]? = some u := fun {i u} h => by
      rw [← htk, List.getElem?_take] at h
      split at h
      · simpa using h
      · cases h
    have hne : g ≠ w.heap.size := by omega
    refine ⟨(hb0.trans (hb1.mono hb0.size)).setCell (Nat.le_refl _) _, (hA.below hb1).set _, (hR.below hb1).other (by omega), by omega, cur, hc.other hne, hsz, fun i hi => ?_⟩
    obtain ⟨c0, c1, c2, c3, c4, c5, ⟨q0, q1, q2, q3, q4, q5⟩, hr⟩ := hk i hi
    exact ⟨c0, c1, c2, c3, c4, c5, ⟨C q0, C q1, C q2, C q3, C q4, C q5⟩, fun h => (by omega), fun _ => hr⟩
set_option maxHeartbeats 4000000 in
set_option maxRecDepth 100000 in
theorem copy_step (d : Nat) (k a n : Int) (nm : ByteArray) (off : Bool) (kids : List Ex) (b o cap : Nat) (w : World) (B : Nat) (hB : B ≤ w.heap.size) (hbB : b < B) (hl : kids.length ≤ 1000000)
    (hcell : ∀ i (h : i < kids.length), ∃ c0 c1 c2 c3 c4 c5, Six w b (o + i * 6) c0 c1 c2 c3 c4 c5 ∧ Rep w B d kids[i] (.agg #[c0, c1, c2, c3, c4, c5]))
    (ih : ∀ e v w1, Rep w1 B d e v → B ≤ w1.heap.size → Calls Tryd.prog 50 #[v] w1 (TreeOut w1 d e)) :
    Calls Tryd.prog 50 #[exVal k a n nm off (.slice (some ⟨b, o, none⟩) kids.length cap)] w (TreeOut w (d + 1) (.mk k a n nm off kids)) := by
  obtain ⟨xs, hx1, hx2, hx3, hx4⟩ := kid_cells kids.length kids (Nat.le_refl _) hcell
  have hbw : b < w.heap.size := by omega
  have IH := Lib.hid ih
  have HX1 := Lib.hid hx1; have HX2 := Lib.hid hx2; have HX3 := Lib.hid hx3; have HX4 := Lib.hid hx4
  clear hx1 hx2 hx3 hx4 hcell ih
  go_enter Tryd.func50, Tryd.ntmps50
  go_wp2_with fail
  generalize hW : (w.alloc _).alloc _ = W0
  have hz0 : W0.heap.size = w.heap.size + 2 := by rw [← hW]; simp
  have hb0 : Below w.heap.size w W0 := by rw [← hW]; exact ((Below.refl _ _).alloc (Nat.le_refl _) _).alloc (by simp) _
  have hA : Blk W0 w.heap.size 49 #[.int .i64 k, .int .i64 a, .int .i64 n, .string nm, .bool off, .slice (some ⟨b, o, none⟩) kids.length cap] := by rw [← hW]; exact (Blk.new _ _ _).alloc _
  have hR : Blk W0 (w.heap.size + 1) 49 #[.int .i64 0, .int .i64 0, .int .i64 0, .string ⟨#[]⟩, .bool false, .slice none 0 0] := by rw [← hW]; simpa using Blk.new (w.alloc (.cells #[.int .i64 k, .int .i64 a, .int .i64 n, .string nm, .bool off, .slice (some ⟨b, o, none⟩) kids.length cap] 49)) 49 #[.int .i64 0, .int .i64 0, .int .i64 0, .string ⟨#[]⟩, .bool false, .slice none 0 0]
  have HZ0 := Lib.hid hz0; have HB0 := Lib.hid hb0; have HA := Lib.hid hA; have HR := Lib.hid hR
  clear hW hz0 hb0 hA hR
  refine (clone_any b o kids.length cap W0 xs HX1.out hl (fun j u h => (HB0.out.cell (p := ⟨b, o + j, none⟩) hbw).trans (HX2.out j u h)) HX3.out (by have := HZ0.out; omega)).mono ?_
  rintro x W1 ⟨g, c, rfl, hown, hb1⟩
  have a5 := (HA.out.below hb1).cell (o := 5) (v := .slice (some ⟨b, o, none⟩) kids.length cap) rfl
  have f5 := (HA.out.below hb1).free 5
  have HB1 := Lib.hid hb1; have HOW := Lib.hid hown
  clear hb1 hown
  go_wp2_with fail
  have HST := Lib.hid (cp_start (B := B) (d := d) HZ0.out HB0.out HA.out HR.out HB1.out HOW.out HX4.out)
  clear HA HR HB1 HOW HX1 HX2 HX3 HX4 a5 f5
  generalize W1.setCell _ _ = W2 at HST ⊢
  go_loopw [12] (fun t wr => ∃ j : Nat, t = .int .i64 j ∧ j ≤ kids.length ∧ CpSt w B d k a n nm off kids g c j wr) (fun t _ => kids.length - (intOf t).toNat)
  case atStart => exact ⟨0, rfl, Nat.zero_le _, HST.out⟩
  case round =>
    obtain ⟨j, rfl, hj, hst⟩ := hrel
    have HS := Lib.hid hst
    by_cases hl1 : j < kids.length
    · obtain ⟨hbw', hA, hR, hg, cur, hc, hsz, hk⟩ := hst
      obtain ⟨c0, c1, c2, c3, c4, c5, h6, _, hrp⟩ := hk j hl1
      have hrp := hrp (Nat.le_refl _)
      obtain ⟨k1, a1, n1, nm1, off1, sp1, sl1, sc1, rfl, rfl, rfl, rfl, rfl, rfl⟩ := hrp.shape
      obtain ⟨q0, q1, q2, q3, q4, q5⟩ := h6
      have e0 := hc.cell q0
      have e1 := hc.cell q1
      have e2 := hc.cell q2
      have e3 := hc.cell q3
      have e4 := hc.cell q4
      have e5 := hc.cell q5
      have HC := Lib.hid hc; have HG := Lib.hid hg; have HRP := Lib.hid hrp; have HBW := Lib.hid hbw'; have HA := Lib.hid hA; have HSZ := Lib.hid hsz
      clear hc hg hrp hbw' hA hR hk q0 q1 q2 q3 q4 q5 hsz
      go_wp2_with fail
      generalize hV : wr.alloc _ = V1
      have HBX := Lib.hid (show Below wr.heap.size wr V1 by rw [← hV]; exact (Below.refl _ _).alloc (Nat.le_refl _) _)
      have HZV := Lib.hid (show V1.heap.size = wr.heap.size + 1 by rw [← hV]; simp)
      have HBK := Lib.hid (show Blk V1 wr.heap.size 49 #[.int .i64 k1, .int .i64 a1, .int .i64 n1, .string nm1, .bool off1, .slice sp1 sl1 sc1] by rw [← hV]; exact Blk.new _ _ _)
      clear hV e0 e1 e2 e3 e4 e5
      have hgl := HC.out.lt
      have hgg := HG.out
      have hal := HA.out.lt
      have y := keep_six2 (g := g) HBK.out (by omega)
      have x5 := Exc.cell (g := g) (o := 5) (HA.out.below HBX.out).lt (by omega) ((HA.out.below HBX.out).cell (v := .slice (some ⟨g, 0, none⟩) kids.length c) rfl)
      have HBD := Lib.hid (HBX.out.trans (((Below.refl V1.heap.size V1).drew).mono HBX.out.size))
      have HRW := Lib.hid ((HRP.out.below (HBW.out.mono hB)).below (HBD.out.mono (Nat.le_trans hB HBW.out.size)))
      have HSB := Lib.hid (show B ≤ V1.drew.heap.size from Nat.le_trans hB (Nat.le_trans HBW.out.size HBD.out.size))
      have HCD := Lib.hid (HC.out.below HBD.out)
      have hs6 := HSZ.out
      obtain ⟨p, hp⟩ : ∃ p, j * 6 = p := ⟨_, rfl⟩
      clear hal
      go_region_held3 (fun w' => Exc g V1 w')
        (first | (with_reducible exact Exc.drew _ _) | (with_reducible refine Exc.set (Exc.set (Exc.set (Exc.set (Exc.set (Exc.set ?_))))); with_reducible assumption) | (with_reducible refine Exc.trans ?_ (Exc.below hb2); with_reducible assumption) | (with_reducible assumption))
        (first | (go_at_call 50; (with_reducible refine (IH.out _ _ _ HRW.out HSB.out).mono ?_); rintro x w2 ⟨k2, a2, n2, nm2, off2, sp2, sl2, sc2, rfl, hr2, hb2⟩; have HS2 := Lib.hid (cp_step' hp (CpSt.step HS.out hl1 HBD.out hb2 hr2)); obtain ⟨u0, u1, u2, u3, u4, u5, s0, s1, s2, s3, s4, s5, z0, z1, z2, z3, z4, z5⟩ := Blk.place (HCD.out.below hb2) (i := p) (by omega); clear x5 y hs6))
      go_wp2_with fail
      go_roundw
      case rel => with_reducible exact ⟨j + 1, by go_num, by omega, HS2.out⟩
      case measure => simp [intOf]; omega
    · have hje : j = kids.length := by omega
      subst hje
      obtain ⟨g0, g1, g2, g3, g4, g5⟩ := hst.2.1.six
      obtain ⟨r0, r1, r2, r3, r4, r5⟩ := hst.2.2.1.six
      have f0 := hst.2.2.1.free 0
      have f1 := hst.2.2.1.free 1
      have f2 := hst.2.2.1.free 2
      have f3 := hst.2.2.1.free 3
      have f4 := hst.2.2.1.free 4
      have f5 := hst.2.2.1.free 5
      clear hst
      go_wp2_with fail
      refine bodyPost_ret (v := exVal k a n nm off (.slice (some ⟨g, 0, none⟩) kids.length c)) ?_ rfl ?_
      · simp [results, Tryd.results50, go_sem, *]
      · exact HS.out.finish hl
theorem leaf_out (d : Nat) (k a n : Int) (nm : ByteArray) (off : Bool) {w W2 : World} (hb : Below w.heap.size w W2) {x0 x1 x2 x3 x4 x5 : Value} :
    TreeOut w (d + 1) (.mk k a n nm off []) (.returned (exVal k a n nm off (.slice none 0 0))) (set6 W2 (w.heap.size + 1) 0 x0 x1 x2 x3 x4 x5) := by
  have hgw : w.heap.size ≤ w.heap.size + 1 := by omega
  exact ⟨k, a, n, nm, off, none, 0, 0, rfl, ⟨_, rfl, Or.inl ⟨rfl, rfl⟩⟩, (((((hb.setCell hgw _).setCell hgw _).setCell hgw _).setCell hgw _).setCell hgw _).setCell hgw _⟩
set_option maxHeartbeats 1000000 in
set_option maxRecDepth 100000 in
theorem copy_leaf (d : Nat) (k a n : Int) (nm : ByteArray) (off : Bool) (w : World) :
    Calls Tryd.prog 50 #[exVal k a n nm off (.slice none 0 0)] w (TreeOut w (d + 1) (.mk k a n nm off [])) := by
  go_enter Tryd.func50, Tryd.ntmps50
  go_wp2_with fail
  generalize hW : (w.alloc _).alloc _ = W0
  have hz0 : W0.heap.size = w.heap.size + 2 := by rw [← hW]; simp
  have hb0 : Below w.heap.size w W0 := by rw [← hW]; exact ((Below.refl _ _).alloc (Nat.le_refl _) _).alloc (by simp) _
  have hA : Blk W0 w.heap.size 49 #[.int .i64 k, .int .i64 a, .int .i64 n, .string nm, .bool off, .slice none 0 0] := by rw [← hW]; exact (Blk.new _ _ _).alloc _
  have hR : Blk W0 (w.heap.size + 1) 49 #[.int .i64 0, .int .i64 0, .int .i64 0, .string ⟨#[]⟩, .bool false, .slice none 0 0] := by rw [← hW]; simpa using Blk.new (w.alloc (.cells #[.int .i64 k, .int .i64 a, .int .i64 n, .string nm, .bool off, .slice none 0 0] 49)) 49 #[.int .i64 0, .int .i64 0, .int .i64 0, .string ⟨#[]⟩, .bool false, .slice none 0 0]
  clear hW
  refine (clone_nil W0).mono ?_
  rintro x W1 ⟨rfl, rfl⟩
  have HB0 := Lib.hid hb0; have HZ0 := Lib.hid hz0
  obtain ⟨a0, a1, a2, a3, a4, a5⟩ := hA.six
  have f5 := hA.free 5
  obtain ⟨r0, r1, r2, r3, r4, r5⟩ := ((hR.other (b' := w.heap.size) (o := 5) (x := .slice none 0 0) (by omega))).six
  have g0 := (hR.other (b' := w.heap.size) (o := 5) (x := .slice none 0 0) (by omega)).free 0
  have g1 := (hR.other (b' := w.heap.size) (o := 5) (x := .slice none 0 0) (by omega)).free 1
  have g2 := (hR.other (b' := w.heap.size) (o := 5) (x := .slice none 0 0) (by omega)).free 2
  have g3 := (hR.other (b' := w.heap.size) (o := 5) (x := .slice none 0 0) (by omega)).free 3
  have g4 := (hR.other (b' := w.heap.size) (o := 5) (x := .slice none 0 0) (by omega)).free 4
  have g5 := (hR.other (b' := w.heap.size) (o := 5) (x := .slice none 0 0) (by omega)).free 5
  obtain ⟨p0, p1, p2, p3, p4, p5⟩ := (hA.set (o := 5) (.slice none 0 0)).six
  have HB1 := Lib.hid (hb0.setCell (p := ⟨w.heap.size, 5, none⟩) (Nat.le_refl _) (.slice none 0 0))
  clear hb0 hz0 hA hR a0 a1 a2 a3 a4
  go_wp2_with fail
  generalize W1.setCell ⟨w.heap.size, 5, none⟩ (Value.slice none 0 0) = W2 at *
  go_loopw [12] (fun t wr => t = .int .i64 0 ∧ wr = W2) (fun _ _ => 0)
  case atStart => exact ⟨rfl, rfl⟩
  case round =>
    obtain ⟨rfl, rfl⟩ := hrel
    go_wp2_with fail
    refine bodyPost_ret (v := exVal k a n nm off (.slice none 0 0)) ?_ rfl ?_
    · simp [results, Tryd.results50, go_sem, *]
    · exact leaf_out d k a n nm off HB1.out
theorem copy_all : ∀ (d : Nat) (e : Ex) (v : Value) (w : World) (B : Nat), Rep w B d e v → B ≤ w.heap.size → Calls Tryd.prog 50 #[v] w (TreeOut w d e)
  | 0, _, _, _, _, h, _ => h.elim
  | d + 1, .mk k a n nm off kids, v, w, B, h, hB => by
    obtain ⟨s, rfl, hs⟩ := h
    rcases hs with ⟨rfl, rfl⟩ | ⟨b, o, cap, rfl, hbB, hl, hcell⟩
    · exact copy_leaf d k a n nm off w
    · exact copy_step d k a n nm off kids b o cap w B hB hbB hl hcell (fun e v w1 h h1 => copy_all d e v w1 B h h1)
end Go.Proofs.YthhkjjdhecpmlaaDoor
