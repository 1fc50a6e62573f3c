/-
  The contract of girandolelaw02.Own: the program's own expression, in new memory.
-/
import Derived.Test.YthhkjjdhecpmlaaDoorTmB
import Derived.Test.YthhkjjdhecpmlaaDoorLxJ
import Derived.Deep.RegionWith
import Derived.Deep.RegionLaw
import Derived.Test.YthhkjjdhecpmlaaDoorRtD
namespace Go.Proofs.YthhkjjdhecpmlaaDoor
open Go.RowKit
set_option linter.unusedVariables false
set_option linter.unusedSimpArgs false
theorem info49 : (Tryd.prog.info? 49).map (fun i => (i.zero, i.size, i.bytes)) = some (some (.agg #[.int .i64 0, .int .i64 0, .int .i64 0, .string ⟨#[]⟩, .bool false, .slice none 0 0]), 6, 72) := by kernel_rfl
theorem Rep.shape {w : World} {B d : Nat} {e : Ex} {c0 c1 c2 c3 c4 c5 : Value} (h : Rep w B d e (.agg #[c0, c1, c2, c3, c4, c5])) :
    ∃ k a n nm off sp sl sc, c0 = .int .i64 k ∧ c1 = .int .i64 a ∧ c2 = .int .i64 n ∧ c3 = .string nm ∧ c4 = .bool off ∧ c5 = .slice sp sl sc := by
  obtain ⟨k, a, n, nm, off, ks⟩ := e
  cases d with
  | zero => exact h.elim
  | succ d =>
    obtain ⟨s, hv, hs⟩ := h
    injection hv with hv
    obtain ⟨rfl, rfl, rfl, rfl, rfl, rfl⟩ : c0 = .int .i64 k ∧ c1 = .int .i64 a ∧ c2 = .int .i64 n ∧ c3 = .string nm ∧ c4 = .bool off ∧ c5 = s := by simpa using hv
    rcases hs with ⟨_, rfl⟩ | ⟨b2, o2, cap2, rfl, _⟩
    · exact ⟨k, a, n, nm, off, none, 0, 0, rfl, rfl, rfl, rfl, rfl, rfl⟩
    · exact ⟨k, a, n, nm, off, _, _, _, rfl, rfl, rfl, rfl, rfl, rfl⟩
/-- What holds at the head of a round that appends trees to a block's last cell. -/
def AppSt (w : World) (R U base T d : Nat) (k a n : Int) (nm : ByteArray) (off : Bool) (zs : Array Value) (es : List Ex) (v : Value) (wr : World) : Prop :=
  Below w.heap.size w wr ∧ base ≤ wr.heap.size ∧ Blk wr U T #[.int .i64 k, .int .i64 a, .int .i64 n, .string nm, .bool off, v] ∧ Blk wr R T zs ∧ TreeRow wr base T d v es
/-- A round's end. -/
theorem AppSt.step {w wr w1 w2 w3 : World} {R U base T d : Nat} {k a n : Int} {nm : ByteArray} {off : Bool} {zs : Array Value} {es : List Ex} {v v' : Value} {e : Ex} {c0 c1 c2 c3 c4 c5 : Value} {xs : List Value} {X : Obj} {m : Nat} (hm : es.length = m)
    (h : AppSt w R U base T d k a n nm off zs es v wr) (hw : w.heap.size ≤ R) (hR : R < base) (hU : U < base) (hwU : w.heap.size ≤ U) (hRU : R ≠ U)
    (h1 : Below wr.heap.size wr w1) (h2 : Below w1.heap.size w1 w2)
    (hr : RepP w2 (fun b => w1.heap.size ≤ b ∧ b < w2.heap.size) d e (.agg #[c0, c1, c2, c3, c4, c5]))
    (hx : (w2.alloc X).ownsRow base T 6 v m xs) (hk : ∀ i (h : i < es.length), ∃ c0 c1 c2 c3 c4 c5, Sub6 xs (i * 6) c0 c1 c2 c3 c4 c5 ∧ RepP (w2.alloc X) (fun b => base ≤ b ∧ b < (w2.alloc X).heap.size ∧ v.ownBlock ≠ some b) d es[i] (.agg #[c0, c1, c2, c3, c4, c5]))
    (hg : Grown base T (m + 1) v (xs ++ [c0, c1, c2, c3, c4, c5]) (w2.alloc X) v' w3) :
    AppSt w R U base T d k a n nm off zs (es ++ [e]) v' (w3.setCell ⟨U, 5, none⟩ v') := by
  subst hm
  obtain ⟨hb, hbase, hu, hrz, ht⟩ := h
  have b12 : Below wr.heap.size wr (w2.alloc X) := h1.trans ((h2.trans ((Below.refl _ _).alloc h2.size X)).mono h1.size)
  have hv : v.ownBlock ≠ some U := ht.own_ge hU
  have hvR : v.ownBlock ≠ some R := ht.own_ge hR
  have hlt : ∀ g, v.ownBlock = some g → base ≤ g ∧ g < wr.heap.size := fun g hg => by obtain ⟨xs2, ho, _⟩ := ht; exact ho.lt g hg
  have hg' := hg
  obtain ⟨g1, g2, g3, g4⟩ := hg
  have hz3 := g2.size
  have hz2 := b12.size
  have hz1 := h1.size
  have bw3 : Below w.heap.size w w3 := (hb.trans (b12.mono hb.size)).grown g2 (by have := hb.size; omega) (fun g hg => by have := hlt g hg; omega)
  have T3 : TreeRow w3 base T d v' (es ++ [e]) := TreeRow.snoc hx hk ((hr.keep (Q := fun b => base ≤ b ∧ b < (w2.alloc X).heap.size ∧ v.ownBlock ≠ some b) (fun b hb => ⟨by have := hb.1; omega, by have := hb.2; simp; omega, fun e => by have := hlt b e; have := hb.1; omega⟩) (fun b hb => heap_alloc_old w2 X hb.2))) hg'
  have hu3 : Blk w3 U T #[.int .i64 k, .int .i64 a, .int .i64 n, .string nm, .bool off, v] := (hu.below b12).grown g2 hv
  have hr3 : Blk w3 R T zs := (hrz.below b12).grown g2 hvR
  refine ⟨bw3.trans ((Below.refl _ _).setCell hwU _), by simp; omega, hu3.set v', hr3.other hRU, T3.keep (Above.setCell hU)⟩
/-- What a call that has stored its answer's six cells leaves. -/
theorem AppSt.finish {w wr : World} {R U base T d : Nat} {k a n : Int} {nm : ByteArray} {off : Bool} {zs : Array Value} {es : List Ex} {sp : Option Addr} {sl sc : Nat} (h : AppSt w R U base T d k a n nm off zs es (.slice sp sl sc) wr) (hl : es.length ≤ 1000000)
    (hw : w.heap.size ≤ R) (hR : R < base) {x0 x1 x2 x3 x4 x5 : Value} :
    TreeOut w (d + 1) (.mk k a n nm off es) (.returned (exVal k a n nm off (.slice sp sl sc))) ((((((wr.setCell ⟨R, 0, none⟩ x0).setCell ⟨R, 1, none⟩ x1).setCell ⟨R, 2, none⟩ x2).setCell ⟨R, 3, none⟩ x3).setCell ⟨R, 4, none⟩ x4).setCell ⟨R, 5, none⟩ x5) := by
  obtain ⟨hb, hbase, _, _, ht⟩ := h
  have A : Above base wr ((((((wr.setCell ⟨R, 0, none⟩ x0).setCell ⟨R, 1, none⟩ x1).setCell ⟨R, 2, none⟩ x2).setCell ⟨R, 3, none⟩ x3).setCell ⟨R, 4, none⟩ x4).setCell ⟨R, 5, none⟩ x5) :=
    (((((Above.setCell hR).trans (Above.setCell hR)).trans (Above.setCell hR)).trans (Above.setCell hR)).trans (Above.setCell hR)).trans (Above.setCell hR)
  refine ⟨k, a, n, nm, off, sp, sl, sc, rfl, (ht.rep hl k a n nm off).keep (fun b hb => ⟨by omega, Nat.lt_of_lt_of_le hb.2 A.1⟩) (fun b hb => A.2 b hb.1 hb.2), ?_⟩
  exact (((((hb.setCell hw _).setCell hw _).setCell hw _).setCell hw _).setCell hw _).setCell hw _
set_option maxHeartbeats 1000000 in
set_option maxRecDepth 100000 in
theorem own_leaf (d : Nat) (k a n : Int) (nm : ByteArray) (off : Bool) (w : World) :
    Calls Tryd.prog 21 #[exVal k a n nm off (.slice none 0 0)] w (TreeOut w (d + 1) (.mk k a n nm off [])) := by
  go_enter Tryd.func21, Tryd.ntmps21
  go_wp2_with fail
  generalize hW : ((w.alloc _).alloc _).alloc _ = W0
  have hst : AppSt w (w.heap.size + 1) (w.heap.size + 1 + 1) (w.heap.size + 3) 49 d k a n nm off #[.int .i64 0, .int .i64 0, .int .i64 0, .string ⟨#[]⟩, .bool false, .slice none 0 0] [] (.slice none 0 0) W0 := by
    rw [← hW]
    refine ⟨(((Below.refl _ _).alloc (Nat.le_refl _) _).alloc (by simp) _).alloc (by simp; omega) _, by simp, ?_, ?_, TreeRow.nil _ _ _ _⟩
    · have := Blk.new (((w.alloc (.cells #[.int .i64 k, .int .i64 a, .int .i64 n, .string nm, .bool off, .slice none 0 0] 45))).alloc (.cells #[.int .i64 0, .int .i64 0, .int .i64 0, .string ⟨#[]⟩, .bool false, .slice none 0 0] 49)) 49 #[.int .i64 k, .int .i64 a, .int .i64 n, .string nm, .bool off, .slice none 0 0]
      simpa using this
    · have := (Blk.new (w.alloc (.cells #[.int .i64 k, .int .i64 a, .int .i64 n, .string nm, .bool off, .slice none 0 0] 45)) 49 #[.int .i64 0, .int .i64 0, .int .i64 0, .string ⟨#[]⟩, .bool false, .slice none 0 0]).alloc (.cells #[.int .i64 k, .int .i64 a, .int .i64 n, .string nm, .bool off, .slice none 0 0] 49)
      simpa using this
  clear hW
  have HS := Lib.hid hst
  obtain ⟨g0, g1, g2, g3, g4, g5⟩ := HS.out.2.2.1.six
  obtain ⟨r0, r1, r2, r3, r4, r5⟩ := HS.out.2.2.2.1.six
  have f0 := HS.out.2.2.2.1.free 0
  have f1 := HS.out.2.2.2.1.free 1
  have f2 := HS.out.2.2.2.1.free 2
  have f3 := HS.out.2.2.2.1.free 3
  have f4 := HS.out.2.2.2.1.free 4
  have f5 := HS.out.2.2.2.1.free 5
  clear hst
  go_loopw [20] (fun t wr => t = .int .i64 0 ∧ wr = W0) (fun _ _ => 0)
  case atStart => exact ⟨rfl, rfl⟩
  case round =>
    obtain ⟨rfl, rfl⟩ := hrel
    go_wp2_with fail
    refine bodyPost_ret (v := exVal k a n nm off (.slice none 0 0)) ?_ rfl ?_
    · simp [results, Tryd.results21, go_sem, *]
    · exact AppSt.finish HS.out (by decide) (by omega) (by omega)
set_option maxHeartbeats 4000000 in
set_option maxRecDepth 100000 in
theorem own_step (d : Nat) (k a n : Int) (nm : ByteArray) (off : Bool) (kids : List Ex) (b o cap : Nat) (w : World) (B : Nat) (hB : B ≤ w.heap.size) (hbB : b < B) (hl : kids.length ≤ 1000000)
    (hcell : ∀ i (h : i < kids.length), ∃ c0 c1 c2 c3 c4 c5, Six w b (o + i * 6) c0 c1 c2 c3 c4 c5 ∧ Rep w B d kids[i] (.agg #[c0, c1, c2, c3, c4, c5]))
    (ih : ∀ e v w1, Rep w1 B d e v → B ≤ w1.heap.size → Calls Tryd.prog 21 #[v] w1 (TreeOut w1 d e)) :
    Calls Tryd.prog 21 #[exVal k a n nm off (.slice (some ⟨b, o, none⟩) kids.length cap)] w (TreeOut w (d + 1) (.mk k a n nm off kids)) := by
  obtain ⟨i0, hi, hz0, hz1, hz2⟩ := info_parts info49
  have HC := Lib.hid hcell; have IH := Lib.hid ih; clear hcell ih
  go_enter Tryd.func21, Tryd.ntmps21
  go_wp2_with fail
  go_loopw [20] (fun t wr => ∃ (j : Nat) (sp : Option Addr) (sl sc : Nat), t = .int .i64 j ∧ j ≤ kids.length ∧ AppSt w (w.heap.size + 1) (w.heap.size + 1 + 1) (w.heap.size + 3) 49 d k a n nm off #[.int .i64 0, .int .i64 0, .int .i64 0, .string ⟨#[]⟩, .bool false, .slice none 0 0] (kids.take j) (.slice sp sl sc) wr) (fun t _ => kids.length - (intOf t).toNat)
  case atStart =>
    refine ⟨0, none, 0, 0, rfl, Nat.zero_le _, ?_⟩
    refine ⟨(((Below.refl _ _).alloc (Nat.le_refl _) _).alloc (by simp) _).alloc (by simp; omega) _, by simp, ?_, ?_, TreeRow.nil _ _ _ _⟩
    · have := Blk.new (((w.alloc (.cells #[.int .i64 k, .int .i64 a, .int .i64 n, .string nm, .bool off, .slice (some ⟨b, o, none⟩) kids.length cap] 45))).alloc (.cells #[.int .i64 0, .int .i64 0, .int .i64 0, .string ⟨#[]⟩, .bool false, .slice none 0 0] 49)) 49 #[.int .i64 k, .int .i64 a, .int .i64 n, .string nm, .bool off, .slice none 0 0]
      simpa using this
    · have := (Blk.new (w.alloc (.cells #[.int .i64 k, .int .i64 a, .int .i64 n, .string nm, .bool off, .slice (some ⟨b, o, none⟩) kids.length cap] 45)) 49 #[.int .i64 0, .int .i64 0, .int .i64 0, .string ⟨#[]⟩, .bool false, .slice none 0 0]).alloc (.cells #[.int .i64 k, .int .i64 a, .int .i64 n, .string nm, .bool off, .slice none 0 0] 49)
      simpa using this
  case round =>
    obtain ⟨j, sp, sl, sc, rfl, hj, hst⟩ := hrel
    have HS := Lib.hid hst
    by_cases hl1 : j < kids.length
    · obtain ⟨c0, c1, c2, c3, c4, c5, h6, hrp⟩ := HC.out j hl1
      obtain ⟨k1, a1, n1, nm1, off1, sp1, sl1, sc1, rfl, rfl, rfl, rfl, rfl, rfl⟩ := hrp.shape
      have hbw : b < w.heap.size := by omega
      obtain ⟨e0, e1, e2, e3, e4, e5⟩ := six_parts (h6.below hst.1 hbw)
      have HR := Lib.hid hrp
      clear hrp h6 hst
      go_wp2_with fail
      generalize hW : wr.alloc _ = W1
      have HBX := Lib.hid (show Below wr.heap.size wr W1 by rw [← hW]; exact (Below.refl _ _).alloc (Nat.le_refl _) _)
      have HZ1 := Lib.hid (show W1.heap.size = wr.heap.size + 1 by rw [← hW]; simp)
      obtain ⟨y0, y1, y2, y3, y4, y5⟩ := (show Blk W1 wr.heap.size 45 #[.int .i64 k1, .int .i64 a1, .int .i64 n1, .string nm1, .bool off1, .slice sp1 sl1 sc1] by rw [← hW]; exact Blk.new _ _ _).six
      clear hW e0 e1 e2 e3 e4 e5
      have hu1 := HS.out.2.2.1.below HBX.out
      have HUD := Lib.hid (HS.out.2.2.1.below (HBX.out.trans (((Below.refl W1.heap.size W1).drew).mono HBX.out.size)))
      have u5 := hu1.cell (o := 5) (v := .slice sp sl sc) rfl
      have hU1 := hu1.lt
      have HU1 := Lib.hid hu1
      have HBD := Lib.hid (HBX.out.trans (((Below.refl W1.heap.size W1).drew).mono HBX.out.size))
      have HRW := Lib.hid ((HR.out.below (HS.out.1.mono hB)).below (HBD.out.mono (Nat.le_trans hB HS.out.1.size)))
      have HBW := Lib.hid (show B ≤ W1.drew.heap.size from Nat.le_trans hB (Nat.le_trans HS.out.1.size HBD.out.size))
      have HT1 := Lib.hid (HS.out.2.2.2.2.keep (Above.of_below HBD.out))
      have HLT := Lib.hid (show (kids.take j).length = j by rw [List.length_take]; omega)
      clear hu1
      have HTK := Lib.hid (show kids.take (j + 1) = kids.take j ++ [kids[j]] by rw [List.take_add_one, List.getElem?_eq_getElem hl1]; rfl)
      go_region_law
        (first
          | (go_simp; go_at_call 21; (with_reducible refine (IH.out _ _ _ HRW.out HBW.out).mono ?_); rintro x w2 ⟨k2, a2, n2, nm2, off2, sp2, sl2, sc2, rfl, hr2, hb2⟩; have v5 := ((HUD.out.below hb2).cell (o := 5) (v := .slice sp sl sc) rfl); have v5a := alloc_cell (by have := hb2.size; simp at this; omega) v5; have HT2 := Lib.hid (HT1.out.keep (Above.of_below hb2)); have HR2 := Lib.hid hr2; have HB2 := Lib.hid hb2; clear hr2 hb2)
          | (rw [if_pos (by rfl)]; obtain ⟨xs, ho, hk⟩ := HT2.out.keep (Above.of_below ((Below.refl _ _).alloc (Nat.le_refl _) (.cells #[.int .i64 k2, .int .i64 a2, .int .i64 n2, .string nm2, .bool off2, .slice sp2 sl2 sc2] 49))); rw [HLT.out] at ho; refine wp_append_tree (.tmp 25) (.tmp 28) 47 rfl (w.heap.size + 3) 49 i0 _ 72 Tryd.underlying47 hi hz0 hz1 hz2 rfl (.slice sp sl sc) j xs rfl ho ⟨w2.heap.size, 0, none⟩ 1 _ _ _ _ _ _ rfl (new_cells _ _ _ _ rfl) (by simp [Value.oneCell']) (by omega) (by decide) (by have := HB2.out.size; have := HBD.out.size; have := HS.out.2.1; simp; omega) ?_; intro v' w3 hg; obtain ⟨av, cv, rfl⟩ := hg.2.2.2; have B3 := ((HUD.out.below HB2.out).alloc (.cells #[.int .i64 k2, .int .i64 a2, .int .i64 n2, .string nm2, .bool off2, .slice sp2 sl2 sc2] 49)).grown hg.2.1 (HT2.out.own_ge (by omega)); have q5 := B3.cell (o := 5) (v := .slice sp sl sc) rfl; have qf := B3.free 5; have HST := Lib.hid (AppSt.step HLT.out HS.out (by omega) (by omega) (by omega) (by omega) (by omega) HBD.out HB2.out HR2.out ho hk hg); clear B3 hg ho hk))
      all_goals
        go_wp2_with fail
        go_roundw
        case rel => exact ⟨j + 1, _, _, _, by go_num, by omega, by rw [HTK.out]; exact HST.out⟩
        case measure => simp [intOf]; omega
    · have hje : j = kids.length := by omega
      subst hje
      rw [List.take_length] at HS
      obtain ⟨g0, g1, g2, g3, g4, g5⟩ := HS.out.2.2.1.six
      obtain ⟨r0, r1, r2, r3, r4, r5⟩ := HS.out.2.2.2.1.six
      have f0 := HS.out.2.2.2.1.free 0
      have f1 := HS.out.2.2.2.1.free 1
      have f2 := HS.out.2.2.2.1.free 2
      have f3 := HS.out.2.2.2.1.free 3
      have f4 := HS.out.2.2.2.1.free 4
      have f5 := HS.out.2.2.2.1.free 5
      clear hst
      go_wp2_with fail
      refine bodyPost_ret (v := exVal k a n nm off (.slice sp sl sc)) ?_ rfl ?_
      · simp [results, Tryd.results21, go_sem, *]
      · exact AppSt.finish HS.out hl (by omega) (by omega)
theorem own_all : ∀ (d : Nat) (e : Ex) (v : Value) (w : World) (B : Nat), Rep w B d e v → B ≤ w.heap.size → Calls Tryd.prog 21 #[v] w (TreeOut w d e)
  | 0, _, _, _, _, h, _ => h.elim
  | d + 1, .mk k a n nm off kids, v, w, B, h, hB => by
    obtain ⟨s, rfl, hs⟩ := h
    rcases hs with ⟨rfl, rfl⟩ | ⟨b, o, cap, rfl, hbB, hl, hcell⟩
    · exact own_leaf d k a n nm off w
    · exact own_step d k a n nm off kids b o cap w B hB hbB hl hcell (fun e v w1 h h1 => own_all d e v w1 B h h1)
end Go.Proofs.YthhkjjdhecpmlaaDoor
