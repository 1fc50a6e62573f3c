/-
  girandolelaw02.TreeTexts, walked: true for whatever tree comes in.
-/
import Derived.Test.YthhkjjdhecpmlaaDoorTu
namespace Go.Proofs.YthhkjjdhecpmlaaDoor
open Go.RowKit
set_option linter.unusedVariables false
set_option linter.unusedSimpArgs false
set_option maxHeartbeats 8000000 in
set_option maxRecDepth 100000 in
theorem treeTexts_walk (rk ra rn : Int) (rnm : ByteArray) (roff : Bool) (rsp : Option Addr) (rsl rsc : Nat) (w : World) (B : Nat) (hB : B ≤ w.heap.size) (hraw : Raw w B 5 (exVal rk ra rn rnm roff (.slice rsp rsl rsc))) (hp : Pow w) :
    Calls Tryd.prog 7 #[exVal rk ra rn rnm roff (.slice rsp rsl rsc)] w fun x w' => x = .returned (.bool true) ∧ Below w.heap.size w w' := by
  have HRAW := Lib.hid hraw; have HP := Lib.hid hp
  have HW0 := Lib.hid hp.size
  clear hraw hp
  go_enter Tryd.func7, Tryd.ntmps7
  go_wp2_with fail
  generalize hW : w.alloc _ = W0
  have HB0 := Lib.hid (show Below w.heap.size w W0 by rw [← hW]; exact (Below.refl _ _).alloc (Nat.le_refl _) _)
  have HX0 := Lib.hid (show Blk W0 w.heap.size 45 #[.int .i64 rk, .int .i64 ra, .int .i64 rn, .string rnm, .bool roff, .slice rsp rsl rsc] by rw [← hW]; exact Blk.new _ _ _)
  clear hW
  refine (awakeTree W0 (HP.out.below HB0.out)).mono ?_
  rintro x w1 ⟨rfl, hb1⟩
  have HB1 := Lib.hid (HB0.out.trans (hb1.mono HB0.out.size))
  obtain ⟨x0, x1, x2, x3, x4, x5⟩ := (HX0.out.below hb1).six
  clear hb1
  go_wp2_with fail
  refine (some_any 5 (by decide) _ w1 B (HRAW.out.below (HB1.out.mono hB)) (Nat.le_trans hB HB1.out.size)).mono ?_
  rintro x w2 ⟨E, hgE, k, a, n, nm, off, sp, sl, sc, rfl, hr2, hb2⟩
  obtain ⟨ke, ae, ne, nme, offe, kse⟩ := E
  obtain ⟨rfl, rfl, rfl, rfl, rfl⟩ := hr2.head
  have HGE := Lib.hid hgE; have HR2 := Lib.hid hr2; have HB2 := Lib.hid (HB1.out.trans (hb2.mono HB1.out.size))
  clear hgE hr2 hb2 x0 x1 x2 x3 x4 x5
  go_wp2_with fail
  generalize hV : w2.alloc _ = V2
  have HBV := Lib.hid (show Below w2.heap.size w2 V2 by rw [← hV]; exact (Below.refl _ _).alloc (Nat.le_refl _) _)
  have HZV := Lib.hid (show V2.heap.size = w2.heap.size + 1 by rw [← hV]; simp)
  have HXV := Lib.hid (show Blk V2 w2.heap.size 45 #[.int .i64 ke, .int .i64 ae, .int .i64 ne, .string nme, .bool offe, .slice sp sl sc] by rw [← hV]; exact Blk.new _ _ _)
  clear hV
  have HRV := Lib.hid ((HR2.out.rep (B := w2.heap.size) (fun b hb => hb.2)).below HBV.out)
  refine (own_all 6 _ _ V2 w2.heap.size HRV.out HBV.out.size).mono ?_
  rintro x w3 ⟨k3, a3, n3, nm3, off3, sp3, sl3, sc3, rfl, hr3, hb3⟩
  obtain ⟨rfl, rfl, rfl, rfl, rfl⟩ := hr3.head
  have HR3 := Lib.hid hr3; have HB3 := Lib.hid hb3
  clear hr3 hb3
  go_wp2_with fail
  generalize hU : ((w3.alloc _).alloc _).alloc _ = W4
  have HB4 := Lib.hid (show Below w3.heap.size w3 W4 by rw [← hU]; exact (((Below.refl _ _).alloc (Nat.le_refl _) _).alloc (by simp) _).alloc (by simp; omega) _)
  have HZ4 := Lib.hid (show W4.heap.size = w3.heap.size + 3 by rw [← hU]; simp)
  have HX4 := Lib.hid (show Blk W4 w3.heap.size 49 #[.int .i64 ke, .int .i64 ae, .int .i64 ne, .string nme, .bool offe, .slice sp3 sl3 sc3] by rw [← hU]; exact ((Blk.new _ _ _).alloc _).alloc _)
  have HN4 := Lib.hid (show Blk W4 (w3.heap.size + 1) 3 #[.int .i64 ((0 : Nat) : Int)] by rw [← hU]; simpa using (Blk.new (w3.alloc (.cells #[.int .i64 ke, .int .i64 ae, .int .i64 ne, .string nme, .bool offe, .slice sp3 sl3 sc3] 49)) 3 #[.int .i64 0]).alloc (.cells #[.bool true] 4))
  have HF4 := Lib.hid (show Blk W4 (w3.heap.size + 1 + 1) 4 #[.bool true] by rw [← hU]; simpa using (Blk.new ((w3.alloc (.cells #[.int .i64 ke, .int .i64 ae, .int .i64 ne, .string nme, .bool offe, .slice sp3 sl3 sc3] 49)).alloc (.cells #[.int .i64 0] 3)) 4 #[.bool true]))
  clear hU
  have HLEN := Lib.hid (show (flatN 6 (.mk ke ae ne nme offe kse)).length ≤ 100000 from by rw [flat_len]; exact Nat.le_trans (cntN_small HGE.out (by decide)) (by decide))
  refine (each_all23 _ _ _ (fun b => b = w3.heap.size + 1 ∨ b = w3.heap.size + 1 + 1) _ (flatN 6 (.mk ke ae ne nme offe kse)) (looks23 (w3.heap.size + 1) w3.heap.size (w3.heap.size + 1 + 1) _ ke ae ne nme offe (.slice sp3 sl3 sc3) HLEN.out (fun h => by rw [flat_head h]; exact ⟨rfl, rfl⟩) (by omega) (by omega) (by omega)) 6 (by decide) (.mk ke ae ne nme offe kse) _ W4 (fun b => V2.heap.size ≤ b ∧ b < w3.heap.size) 0
    (HR3.out.keep (fun _ h => h) (fun b hb => HB4.out.block b hb.2)) (fun b hb => ⟨by have := HZ4.out; omega, by omega⟩) (fun b hb => by have := HZ4.out; omega) (part_all _ _) ⟨HN4.out, HF4.out, HX4.out⟩).mono ?_
  rintro x w5 ⟨rfl, ⟨hn5, hf5, hx5⟩, hF5⟩
  have HB35 := Lib.hid (hF5.below (B := w3.heap.size) (by have := HZ4.out; omega) (fun b hb => by omega))
  have HB5 := Lib.hid (HB4.out.trans HB35.out)
  have HS5 := Lib.hid hF5.2.2.2.1
  have HN5 := Lib.hid hn5; have HFF5 := Lib.hid hf5; have HX5 := Lib.hid hx5
  have HY5 := Lib.hid ((HXV.out.below HB3.out).same (HB5.out.block w2.heap.size (by have := HB3.out.size; have := HZV.out; omega)))
  have HBW := Lib.hid (HB2.out.trans ((HBV.out.trans ((HB3.out.trans (HB5.out.mono HB3.out.size)).mono HBV.out.size)).mono HB2.out.size))
  clear hn5 hf5 hx5 hF5
  go_wp2_with fail
  generalize hT : txtN 6 (.mk ke ae ne nme offe kse) = T at *
  have HTX := Lib.hid hT
  clear hT
  have hRx : Rep w5 w5.heap.size 6 (.mk ke ae ne nme offe kse) (exVal ke ae ne nme offe (.slice sp3 sl3 sc3)) := (HR3.out.keep (fun _ h => h) (fun b hb => HB5.out.block b hb.2)).rep (fun b hb => by have := HB5.out.size; omega)
  have hRe : Rep w5 w5.heap.size 6 (.mk ke ae ne nme offe kse) (exVal ke ae ne nme offe (.slice sp sl sc)) := ((HRV.out.below ((HB3.out.mono HBV.out.size).trans (HB5.out.mono (Nat.le_trans HBV.out.size HB3.out.size)))).repP).rep (fun b hb => by have := HBV.out.size; have := HB3.out.size; have := HB5.out.size; omega)
  have hP5 : Pow w5 := HP.out.below HBW.out
  have hw5 : 0 < w5.heap.size := hP5.size
  have HC24 := Lib.hid (show ∀ w1, Below w5.heap.size w5 w1 → Calls Tryd.prog 24 _ w1 fun e w' => e = .returned (.string (txtN 6 (.mk ke ae ne nme offe kse))) ∧ Below w1.heap.size w1 w' from text_all 6 (by decide) _ _ w5 w5.heap.size HGE.out.fit hRx (Nat.le_refl _) hw5 hP5)
  have HC25 := Lib.hid (show ∀ w1, Below w5.heap.size w5 w1 → Calls Tryd.prog 25 _ w1 fun e w' => e = .returned (.string (txtN 6 (.mk ke ae ne nme offe kse))) ∧ Below w1.heap.size w1 w' from rtext_all 6 (by decide) _ _ w5 w5.heap.size HGE.out hRe (Nat.le_refl _))
  rw [HTX.out] at HC24 HC25
  have HC26 := Lib.hid (fun w1 (h : Below w5.heap.size w5 w1) => deep_own_all 6 (by decide) _ _ w1 w5.heap.size (hRx.below h) h.size)
  have HC27 := Lib.hid (fun w1 (h : Below w5.heap.size w5 w1) => deep_ref_all 6 (by decide) _ _ w1 w5.heap.size (hRe.below h) h.size)
  have HC29 := Lib.hid (fun w1 (h : Below w5.heap.size w5 w1) => count_all 6 (by decide) _ _ w1 w5.heap.size HGE.out (hRe.below h) h.size)
  have HKD := Lib.hid (show 1 ≤ ke ∧ ke ≤ 14 from HGE.out.fit.kind)
  have HFL := Lib.hid (flat_len 6 (.mk ke ae ne nme offe kse))
  have yx := keepB6 HX5.out
  have ye := keepB6 HY5.out
  have yf := keep_cell (o := 0) HFF5.out.lt (HFF5.out.cell (v := .bool true) rfl)
  have yn := keep_cell (o := 0) HN5.out.lt (HN5.out.cell (v := .int .i64 ((0 + (flatN 6 (.mk ke ae ne nme offe kse)).length : Nat) : Int)) rfl)
  rw [HFL.out, Nat.zero_add] at yn
  generalize cntN 6 (.mk ke ae ne nme offe kse) = cn at *
  generalize deepN 6 (.mk ke ae ne nme offe kse) = dn at *
  clear hRx hRe hP5 hw5 HFL HTX HN5 HFF5
  go_region_held3 (fun w' => Below w5.heap.size w5 w')
    (first | exact (Below.refl _ _).drew | (refine Below.trans ?_ (hb2.mono ?_); assumption; exact Below.size (by assumption)) | assumption)
    (first | (go_at_call 24; (with_reducible refine (HC24.out _ ?_).mono ?_); assumption; rintro e w6 ⟨rfl, hb2⟩) | (go_at_call 25; (with_reducible refine (HC25.out _ ?_).mono ?_); assumption; rintro e w6 ⟨rfl, hb2⟩) | (go_at_call 26; (with_reducible refine (HC26.out _ ?_).mono ?_); assumption; rintro e w6 ⟨rfl, hb2⟩) | (go_at_call 27; (with_reducible refine (HC27.out _ ?_).mono ?_); assumption; rintro e w6 ⟨rfl, hb2⟩) | (go_at_call 28; (with_reducible refine (const_any _ _ _ _ _ _ _ HKD.out).mono ?_); rintro e w6 ⟨rfl, hb2⟩) | (go_at_call 29; (with_reducible refine (HC29.out _ ?_).mono ?_); assumption; rintro e w6 ⟨rfl, hb2⟩))
  all_goals
    go_wp2_with fail
    go_ret
    exact ⟨by simp, HBW.out.trans (Below.mono (by assumption) HBW.out.size)⟩
end Go.Proofs.YthhkjjdhecpmlaaDoor
