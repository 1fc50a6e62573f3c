/-
  The contracts of tree.Deep, girandoleref02.Deep, girandolelaw02.count, tree.Const.
-/
import Derived.Test.YthhkjjdhecpmlaaDoorOw
import Derived.Test.YthhkjjdhecpmlaaDoorRtJ
namespace Go.Proofs.YthhkjjdhecpmlaaDoor
open Go.RowKit
set_option linter.unusedVariables false
set_option linter.unusedSimpArgs false
def maxN : List Nat → Nat
  | [] => 0
  | x :: r => max x (maxN r)
theorem maxN_snoc : ∀ (l : List Nat) (x : Nat), maxN (l ++ [x]) = max (maxN l) x
  | [], x => by simp [maxN]
  | y :: r, x => by
    show max y (maxN (r ++ [x])) = max (max y (maxN r)) x
    rw [maxN_snoc r x]
    omega
theorem maxN_le {M : Nat} : ∀ {l : List Nat}, (∀ x ∈ l, x ≤ M) → maxN l ≤ M
  | [], _ => Nat.zero_le _
  | y :: r, h => Nat.max_le.2 ⟨h y (List.mem_cons_self ..), maxN_le fun x hx => h x (List.mem_cons_of_mem _ hx)⟩
/-- How many levels, looking so many down. -/
def deepN : Nat → Ex → Nat
  | 0, _ => 0
  | d + 1, .mk _ _ _ _ _ kids => 1 + maxN (kids.map (deepN d))
/-- How many expressions, looking so many levels down. -/
def cntN : Nat → Ex → Nat
  | 0, _ => 0
  | d + 1, .mk _ _ _ _ _ kids => 1 + (kids.map (cntN d)).sum
theorem deepN_le : ∀ (d : Nat) (e : Ex), deepN d e ≤ d
  | 0, _ => Nat.le_refl _
  | d + 1, .mk _ _ _ _ _ kids => by
    show 1 + maxN (kids.map (deepN d)) ≤ d + 1
    have : maxN (kids.map (deepN d)) ≤ d := maxN_le fun x hx => by
      obtain ⟨e, _, rfl⟩ := List.mem_map.1 hx
      exact deepN_le d e
    omega
theorem take_map_snoc {α : Type} (f : Ex → α) (kids : List Ex) (j : Nat) (h : j < kids.length) : (kids.take (j + 1)).map f = (kids.take j).map f ++ [f kids[j]] := by
  rw [List.take_add_one, List.getElem?_eq_getElem h, List.map_append]
  rfl
theorem sum_le3 {f : Ex → Nat} {M : Nat} : ∀ (l : List Ex), (∀ e ∈ l, f e ≤ M) → (l.map f).sum ≤ l.length * M
  | [], _ => by simp
  | e :: r, h => by
    rw [List.map_cons, List.sum_cons, List.length_cons, Nat.succ_mul]
    have := sum_le3 r (fun x hx => h x (List.mem_cons_of_mem _ hx))
    have := h e (List.mem_cons_self ..)
    omega
theorem cntN_le : ∀ (d : Nat) (e : Ex), Good d e → cntN d e + 1 ≤ 2 * 4 ^ d
  | 0, _, h => h.elim
  | d + 1, .mk _ _ _ _ _ kids, h => by
    have h1 : (kids.map (cntN d)).sum ≤ kids.length * (2 * 4 ^ d - 1) := sum_le3 kids fun e he => by
      obtain ⟨i, hi, rfl⟩ := List.getElem_of_mem he
      have := cntN_le d _ (h.2.2.2 i hi)
      omega
    have h2 : kids.length * (2 * 4 ^ d - 1) ≤ 3 * (2 * 4 ^ d - 1) := Nat.mul_le_mul_right _ (need_le h.2.1)
    have h3 : 1 ≤ 4 ^ d := Nat.one_le_pow _ _ (by decide)
    show 1 + (kids.map (cntN d)).sum + 1 ≤ 2 * 4 ^ (d + 1)
    rw [Nat.pow_succ]
    omega
set_option maxHeartbeats 4000000 in
set_option maxRecDepth 100000 in
theorem deep_own_step (d : Nat) (k a n : Int) (nm : ByteArray) (off : Bool) (kids : List Ex) (b o cap : Nat) (w : World) (B : Nat) (hB : B ≤ w.heap.size) (hbB : b < B) (hl : kids.length ≤ 1000000) (hd : d ≤ 6)
    (hcell : ∀ i (h : i < kids.length), ∃ c0 c1 c2 c3 c4 c5, Six w b (o + i * 6) c0 c1 c2 c3 c4 c5 ∧ Rep w B d kids[i] (.agg #[c0, c1, c2, c3, c4, c5]))
    (ih : ∀ i (h : i < kids.length) v w1, Rep w1 B d kids[i] v → B ≤ w1.heap.size → Calls Tryd.prog 26 #[v] w1 fun e w' => e = .returned (.int .i64 ((deepN d kids[i] : Nat) : Int)) ∧ Below w1.heap.size w1 w') :
    Calls Tryd.prog 26 #[exVal k a n nm off (.slice (some ⟨b, o, none⟩) kids.length cap)] w fun e w' => e = .returned (.int .i64 ((deepN (d + 1) (.mk k a n nm off kids) : Nat) : Int)) ∧ Below w.heap.size w w' := by
  have HC := Lib.hid hcell; have IH := Lib.hid ih; clear hcell ih
  have HF := Lib.hid (show deepN (d + 1) (.mk k a n nm off kids) = 1 + maxN (List.map (deepN d) kids) from rfl)
  have hbw : b < w.heap.size := by omega
  go_enter Tryd.func26, Tryd.ntmps26
  go_wp2_with fail
  go_loopw [3, 9] (fun v t wr => ∃ j : Nat, t = .int .i64 j ∧ j ≤ kids.length ∧ v = .int .i64 ((maxN (List.map (deepN d) (kids.take j)) : Nat) : Int) ∧ Below w.heap.size w wr) (fun _ t _ => kids.length - (intOf t).toNat)
  case atStart => exact ⟨0, rfl, Nat.zero_le _, rfl, (Below.refl _ _).alloc (Nat.le_refl _) _⟩
  case round =>
    obtain ⟨j, rfl, hj, rfl, hbr⟩ := hrel
    have HBR := Lib.hid hbr
    have hbs := hbr.size
    by_cases hl1 : j < kids.length
    · obtain ⟨c0, c1, c2, c3, c4, c5, h6, hrp⟩ := HC.out j hl1
      obtain ⟨k1, a1, n1, nm1, off1, sp1, sl1, sc1, rfl, rfl, rfl, rfl, rfl, rfl⟩ := hrp.shape
      obtain ⟨e0, e1, e2, e3, e4, e5⟩ := six_parts (h6.below hbr hbw)
      have HR := Lib.hid ((hrp.below (hbr.mono hB)).below (w' := wr.alloc (.cells #[.int .i64 k1, .int .i64 a1, .int .i64 n1, .string nm1, .bool off1, .slice sp1 sl1 sc1] 49)) ((Below.refl _ _).alloc (by omega) _))
      have hx : deepN d kids[j] ≤ d := deepN_le d _
      have hy : maxN ((kids.take j).map (deepN d)) ≤ d := maxN_le fun x hx => by
        obtain ⟨e, _, rfl⟩ := List.mem_map.1 hx
        exact deepN_le d e
      have hn : maxN ((kids.take (j + 1)).map (deepN d)) = max (maxN ((kids.take j).map (deepN d))) (deepN d kids[j]) := by rw [take_map_snoc _ _ _ hl1, maxN_snoc]
      obtain ⟨x, HXE⟩ : ∃ x, deepN d kids[j] = x := ⟨_, rfl⟩
      have HX := Lib.hid HXE
      rw [HXE] at hx hn
      generalize maxN ((kids.take j).map (deepN d)) = y at hy hn ⊢
      have HN := Lib.hid hn
      clear hn HXE
      clear hrp h6 hbr
      go_wp2_with fail
      refine (IH.out j hl1 _ _ HR.out (by simp; omega)).mono ?_
      rintro e w2 ⟨rfl, hb2⟩
      rw [HX.out]
      have HB2 := Lib.hid (HBR.out.trans ((((Below.refl _ _).alloc (Nat.le_refl _) _).trans (hb2.mono (by simp))).mono hbs))
      clear hb2 e0 e1 e2 e3 e4 e5
      go_wp2_with fail
      all_goals
        go_roundw
        case rel => exact ⟨j + 1, by go_num, by omega, by rw [HN.out]; first | rfl | go_num, HB2.out⟩
        case measure => simp [intOf]; omega
    · have hje : j = kids.length := by omega
      subst hje
      rw [List.take_length]
      have hm : maxN (List.map (deepN d) kids) ≤ d := maxN_le fun x hx => by
        obtain ⟨e, _, rfl⟩ := List.mem_map.1 hx
        exact deepN_le d e
      generalize maxN (List.map (deepN d) kids) = m at hm HF ⊢
      clear hbr
      go_wp2_with fail
      go_ret
      exact ⟨by rw [HF.out]; first | rfl | go_num, HBR.out⟩
set_option maxHeartbeats 4000000 in
set_option maxRecDepth 100000 in
theorem deep_ref_step (d : Nat) (k a n : Int) (nm : ByteArray) (off : Bool) (kids : List Ex) (b o cap : Nat) (w : World) (B : Nat) (hB : B ≤ w.heap.size) (hbB : b < B) (hl : kids.length ≤ 1000000) (hd : d ≤ 6)
    (hcell : ∀ i (h : i < kids.length), ∃ c0 c1 c2 c3 c4 c5, Six w b (o + i * 6) c0 c1 c2 c3 c4 c5 ∧ Rep w B d kids[i] (.agg #[c0, c1, c2, c3, c4, c5]))
    (ih : ∀ i (h : i < kids.length) v w1, Rep w1 B d kids[i] v → B ≤ w1.heap.size → Calls Tryd.prog 27 #[v] w1 fun e w' => e = .returned (.int .i64 ((deepN d kids[i] : Nat) : Int)) ∧ Below w1.heap.size w1 w') :
    Calls Tryd.prog 27 #[exVal k a n nm off (.slice (some ⟨b, o, none⟩) kids.length cap)] w fun e w' => e = .returned (.int .i64 ((deepN (d + 1) (.mk k a n nm off kids) : Nat) : Int)) ∧ Below w.heap.size w w' := by
  have HC := Lib.hid hcell; have IH := Lib.hid ih; clear hcell ih
  have HF := Lib.hid (show deepN (d + 1) (.mk k a n nm off kids) = 1 + maxN (List.map (deepN d) kids) from rfl)
  have hbw : b < w.heap.size := by omega
  go_enter Tryd.func27, Tryd.ntmps27
  go_wp2_with fail
  go_loopw [3, 9] (fun v t wr => ∃ j : Nat, t = .int .i64 j ∧ j ≤ kids.length ∧ v = .int .i64 ((1 + maxN (List.map (deepN d) (kids.take j)) : Nat) : Int) ∧ Below w.heap.size w wr) (fun _ t _ => kids.length - (intOf t).toNat)
  case atStart => exact ⟨0, rfl, Nat.zero_le _, rfl, (Below.refl _ _).alloc (Nat.le_refl _) _⟩
  case round =>
    obtain ⟨j, rfl, hj, rfl, hbr⟩ := hrel
    have HBR := Lib.hid hbr
    have hbs := hbr.size
    by_cases hl1 : j < kids.length
    · obtain ⟨c0, c1, c2, c3, c4, c5, h6, hrp⟩ := HC.out j hl1
      obtain ⟨k1, a1, n1, nm1, off1, sp1, sl1, sc1, rfl, rfl, rfl, rfl, rfl, rfl⟩ := hrp.shape
      obtain ⟨e0, e1, e2, e3, e4, e5⟩ := six_parts (h6.below hbr hbw)
      have HR := Lib.hid ((hrp.below (hbr.mono hB)).below (w' := wr.alloc (.cells #[.int .i64 k1, .int .i64 a1, .int .i64 n1, .string nm1, .bool off1, .slice sp1 sl1 sc1] 45)) ((Below.refl _ _).alloc (by omega) _))
      have hx : deepN d kids[j] ≤ d := deepN_le d _
      have hy : maxN ((kids.take j).map (deepN d)) ≤ d := maxN_le fun x hx => by
        obtain ⟨e, _, rfl⟩ := List.mem_map.1 hx
        exact deepN_le d e
      have hn : maxN ((kids.take (j + 1)).map (deepN d)) = max (maxN ((kids.take j).map (deepN d))) (deepN d kids[j]) := by rw [take_map_snoc _ _ _ hl1, maxN_snoc]
      obtain ⟨x, HXE⟩ : ∃ x, deepN d kids[j] = x := ⟨_, rfl⟩
      have HX := Lib.hid HXE
      rw [HXE] at hx hn
      generalize maxN ((kids.take j).map (deepN d)) = y at hy hn ⊢
      have HN := Lib.hid hn
      clear hn HXE
      clear hrp h6 hbr
      go_wp2_with fail
      refine (IH.out j hl1 _ _ HR.out (by simp; omega)).mono ?_
      rintro e w2 ⟨rfl, hb2⟩
      rw [HX.out]
      have HB2 := Lib.hid (HBR.out.trans ((((Below.refl _ _).alloc (Nat.le_refl _) _).trans (hb2.mono (by simp))).mono hbs))
      clear hb2 e0 e1 e2 e3 e4 e5
      go_wp2_with fail
      all_goals
        go_roundw
        case rel => exact ⟨j + 1, by go_num, by omega, by rw [HN.out]; first | rfl | go_num, HB2.out⟩
        case measure => simp [intOf]; omega
    · have hje : j = kids.length := by omega
      subst hje
      rw [List.take_length]
      have hm : maxN (List.map (deepN d) kids) ≤ d := maxN_le fun x hx => by
        obtain ⟨e, _, rfl⟩ := List.mem_map.1 hx
        exact deepN_le d e
      generalize maxN (List.map (deepN d) kids) = m at hm HF ⊢
      clear hbr
      go_wp2_with fail
      go_ret
      exact ⟨by rw [HF.out]; first | rfl | go_num, HBR.out⟩
set_option maxHeartbeats 4000000 in
set_option maxRecDepth 100000 in
theorem count_step (d : Nat) (k a n : Int) (nm : ByteArray) (off : Bool) (kids : List Ex) (b o cap : Nat) (w : World) (B : Nat) (hB : B ≤ w.heap.size) (hbB : b < B) (hl : kids.length ≤ 1000000) (h3 : kids.length ≤ 3) (hg : ∀ e ∈ kids, cntN d e ≤ 10000)
    (hcell : ∀ i (h : i < kids.length), ∃ c0 c1 c2 c3 c4 c5, Six w b (o + i * 6) c0 c1 c2 c3 c4 c5 ∧ Rep w B d kids[i] (.agg #[c0, c1, c2, c3, c4, c5]))
    (ih : ∀ i (h : i < kids.length) v w1, Rep w1 B d kids[i] v → B ≤ w1.heap.size → Calls Tryd.prog 29 #[v] w1 fun e w' => e = .returned (.int .i64 ((cntN d kids[i] : Nat) : Int)) ∧ Below w1.heap.size w1 w') :
    Calls Tryd.prog 29 #[exVal k a n nm off (.slice (some ⟨b, o, none⟩) kids.length cap)] w fun e w' => e = .returned (.int .i64 ((cntN (d + 1) (.mk k a n nm off kids) : Nat) : Int)) ∧ Below w.heap.size w w' := by
  have HG := Lib.hid hg; have HC := Lib.hid hcell; have IH := Lib.hid ih; clear hcell ih hg
  have HF := Lib.hid (show cntN (d + 1) (.mk k a n nm off kids) = 1 + (List.map (cntN d) kids).sum from rfl)
  have hbw : b < w.heap.size := by omega
  go_enter Tryd.func29, Tryd.ntmps29
  go_wp2_with fail
  go_loopw [3, 9] (fun v t wr => ∃ j : Nat, t = .int .i64 j ∧ j ≤ kids.length ∧ v = .int .i64 ((1 + (List.map (cntN d) (kids.take j)).sum : Nat) : Int) ∧ Below w.heap.size w wr) (fun _ t _ => kids.length - (intOf t).toNat)
  case atStart => exact ⟨0, rfl, Nat.zero_le _, rfl, (Below.refl _ _).alloc (Nat.le_refl _) _⟩
  case round =>
    obtain ⟨j, rfl, hj, rfl, hbr⟩ := hrel
    have HBR := Lib.hid hbr
    have hbs := hbr.size
    by_cases hl1 : j < kids.length
    · obtain ⟨c0, c1, c2, c3, c4, c5, h6, hrp⟩ := HC.out j hl1
      obtain ⟨k1, a1, n1, nm1, off1, sp1, sl1, sc1, rfl, rfl, rfl, rfl, rfl, rfl⟩ := hrp.shape
      obtain ⟨e0, e1, e2, e3, e4, e5⟩ := six_parts (h6.below hbr hbw)
      have HR := Lib.hid ((hrp.below (hbr.mono hB)).below (w' := wr.alloc (.cells #[.int .i64 k1, .int .i64 a1, .int .i64 n1, .string nm1, .bool off1, .slice sp1 sl1 sc1] 45)) ((Below.refl _ _).alloc (by omega) _))
      have hx : cntN d kids[j] ≤ 10000 := HG.out _ (List.getElem_mem hl1)
      have hy : (List.map (cntN d) (kids.take j)).sum ≤ 1000000 := by
        have h1 := sum_le3 (f := cntN d) (M := 10000) (kids.take j) (fun e he => HG.out e (List.mem_of_mem_take he))
        have h2 : (kids.take j).length ≤ 3 := by rw [List.length_take]; omega
        have h3 : (kids.take j).length * 10000 ≤ 3 * 10000 := Nat.mul_le_mul_right _ h2
        omega
      have hn : (List.map (cntN d) (kids.take (j + 1))).sum = (List.map (cntN d) (kids.take j)).sum + cntN d kids[j] := by rw [take_map_snoc _ _ _ hl1, List.sum_append, List.sum_singleton]
      obtain ⟨x, HXE⟩ : ∃ x, cntN d kids[j] = x := ⟨_, rfl⟩
      have HX := Lib.hid HXE
      rw [HXE] at hx hn
      generalize (List.map (cntN d) (kids.take j)).sum = y at hy hn ⊢
      have HN := Lib.hid hn
      clear hn HXE
      clear hrp h6 hbr
      go_wp2_with fail
      refine (IH.out j hl1 _ _ HR.out (by simp; omega)).mono ?_
      rintro e w2 ⟨rfl, hb2⟩
      rw [HX.out]
      have HB2 := Lib.hid (HBR.out.trans ((((Below.refl _ _).alloc (Nat.le_refl _) _).trans (hb2.mono (by simp))).mono hbs))
      clear hb2 e0 e1 e2 e3 e4 e5
      go_wp2_with fail
      all_goals
        go_roundw
        case rel => exact ⟨j + 1, by go_num, by omega, by rw [HN.out]; first | rfl | go_num, HB2.out⟩
        case measure => simp [intOf]; omega
    · have hje : j = kids.length := by omega
      subst hje
      rw [List.take_length]
      generalize (List.map (cntN d) kids).sum = m at HF ⊢
      clear hbr
      go_wp2_with fail
      go_ret
      exact ⟨by rw [HF.out]; first | rfl | go_num, HBR.out⟩
set_option maxHeartbeats 1000000 in
set_option maxRecDepth 100000 in
theorem deep_own_leaf (d : Nat) (k a n : Int) (nm : ByteArray) (off : Bool) (w : World) :
    Calls Tryd.prog 26 #[exVal k a n nm off (.slice none 0 0)] w fun e w' => e = .returned (.int .i64 ((deepN (d + 1) (.mk k a n nm off []) : Nat) : Int)) ∧ Below w.heap.size w w' := by
  have HF := Lib.hid (show deepN (d + 1) (.mk k a n nm off []) = 1 from rfl)
  go_enter Tryd.func26, Tryd.ntmps26
  go_wp2_with fail
  go_loopw [3, 9] (fun v t wr => v = .int .i64 0 ∧ t = .int .i64 0 ∧ Below w.heap.size w wr) (fun _ _ _ => 0)
  case atStart => exact ⟨rfl, rfl, (Below.refl _ _).alloc (Nat.le_refl _) _⟩
  case round =>
    obtain ⟨rfl, rfl, hbr⟩ := hrel
    have HBR := Lib.hid hbr
    clear hbr
    go_wp2_with fail
    go_ret
    exact ⟨by rw [HF.out]; first | rfl | go_num, HBR.out⟩
set_option maxHeartbeats 1000000 in
set_option maxRecDepth 100000 in
theorem deep_ref_leaf (d : Nat) (k a n : Int) (nm : ByteArray) (off : Bool) (w : World) :
    Calls Tryd.prog 27 #[exVal k a n nm off (.slice none 0 0)] w fun e w' => e = .returned (.int .i64 ((deepN (d + 1) (.mk k a n nm off []) : Nat) : Int)) ∧ Below w.heap.size w w' := by
  have HF := Lib.hid (show deepN (d + 1) (.mk k a n nm off []) = 1 from rfl)
  go_enter Tryd.func27, Tryd.ntmps27
  go_wp2_with fail
  go_loopw [3, 9] (fun v t wr => v = .int .i64 1 ∧ t = .int .i64 0 ∧ Below w.heap.size w wr) (fun _ _ _ => 0)
  case atStart => exact ⟨rfl, rfl, (Below.refl _ _).alloc (Nat.le_refl _) _⟩
  case round =>
    obtain ⟨rfl, rfl, hbr⟩ := hrel
    have HBR := Lib.hid hbr
    clear hbr
    go_wp2_with fail
    go_ret
    exact ⟨by rw [HF.out]; first | rfl | go_num, HBR.out⟩
set_option maxHeartbeats 1000000 in
set_option maxRecDepth 100000 in
theorem count_leaf (d : Nat) (k a n : Int) (nm : ByteArray) (off : Bool) (w : World) :
    Calls Tryd.prog 29 #[exVal k a n nm off (.slice none 0 0)] w fun e w' => e = .returned (.int .i64 ((cntN (d + 1) (.mk k a n nm off []) : Nat) : Int)) ∧ Below w.heap.size w w' := by
  have HF := Lib.hid (show cntN (d + 1) (.mk k a n nm off []) = 1 from rfl)
  go_enter Tryd.func29, Tryd.ntmps29
  go_wp2_with fail
  go_loopw [3, 9] (fun v t wr => v = .int .i64 1 ∧ t = .int .i64 0 ∧ Below w.heap.size w wr) (fun _ _ _ => 0)
  case atStart => exact ⟨rfl, rfl, (Below.refl _ _).alloc (Nat.le_refl _) _⟩
  case round =>
    obtain ⟨rfl, rfl, hbr⟩ := hrel
    have HBR := Lib.hid hbr
    clear hbr
    go_wp2_with fail
    go_ret
    exact ⟨by rw [HF.out]; first | rfl | go_num, HBR.out⟩
theorem deep_own_all : ∀ (d : Nat), d ≤ 7 → ∀ (e : Ex) (v : Value) (w : World) (B : Nat), Rep w B d e v → B ≤ w.heap.size → Calls Tryd.prog 26 #[v] w fun x w' => x = .returned (.int .i64 ((deepN d e : Nat) : Int)) ∧ Below w.heap.size w w'
  | 0, _, _, _, _, _, h, _ => h.elim
  | d + 1, hd, .mk k a n nm off kids, v, w, B, h, hB => by
    obtain ⟨s, rfl, hs⟩ := h
    rcases hs with ⟨rfl, rfl⟩ | ⟨b, o, cap, rfl, hbB, hl, hcell⟩
    · exact deep_own_leaf d k a n nm off w
    · exact deep_own_step d k a n nm off kids b o cap w B hB hbB hl (by omega) hcell (fun i hi v w1 h h1 => deep_own_all d (by omega) _ v w1 B h h1)
theorem deep_ref_all : ∀ (d : Nat), d ≤ 7 → ∀ (e : Ex) (v : Value) (w : World) (B : Nat), Rep w B d e v → B ≤ w.heap.size → Calls Tryd.prog 27 #[v] w fun x w' => x = .returned (.int .i64 ((deepN d e : Nat) : Int)) ∧ Below w.heap.size w w'
  | 0, _, _, _, _, _, h, _ => h.elim
  | d + 1, hd, .mk k a n nm off kids, v, w, B, h, hB => by
    obtain ⟨s, rfl, hs⟩ := h
    rcases hs with ⟨rfl, rfl⟩ | ⟨b, o, cap, rfl, hbB, hl, hcell⟩
    · exact deep_ref_leaf d k a n nm off w
    · exact deep_ref_step d k a n nm off kids b o cap w B hB hbB hl (by omega) hcell (fun i hi v w1 h h1 => deep_ref_all d (by omega) _ v w1 B h h1)
theorem cntN_small {d : Nat} {e : Ex} (h : Good d e) (hd : d ≤ 6) : cntN d e ≤ 10000 := by
  have h1 := cntN_le d e h
  have h2 : 4 ^ d ≤ 4 ^ 6 := Nat.pow_le_pow_right (by decide) hd
  omega
theorem count_all : ∀ (d : Nat), d ≤ 6 → ∀ (e : Ex) (v : Value) (w : World) (B : Nat), Good d e → Rep w B d e v → B ≤ w.heap.size → Calls Tryd.prog 29 #[v] w fun x w' => x = .returned (.int .i64 ((cntN d e : Nat) : Int)) ∧ Below w.heap.size w w'
  | 0, _, _, _, _, _, h, _, _ => h.elim
  | d + 1, hd, .mk k a n nm off kids, v, w, B, hg, h, hB => by
    obtain ⟨s, rfl, hs⟩ := h
    rcases hs with ⟨rfl, rfl⟩ | ⟨b, o, cap, rfl, hbB, hl, hcell⟩
    · exact count_leaf d k a n nm off w
    · exact count_step d k a n nm off kids b o cap w B hB hbB hl (need_le hg.2.1) (fun e he => by
        obtain ⟨i, hi, rfl⟩ := List.getElem_of_mem he
        exact cntN_small (hg.2.2.2 i hi) (by omega)) hcell (fun i hi v w1 h h1 => count_all d (by omega) _ v w1 B (hg.2.2.2 i hi) h h1)
set_option maxHeartbeats 1000000 in
theorem const_any (k a n : Int) (nm : ByteArray) (off : Bool) (s : Value) (w : World) (hk : 1 ≤ k ∧ k ≤ 14) :
    Calls Tryd.prog 28 #[exVal k a n nm off s] w fun e w' => e = .returned (.bool (decide (k < 3))) ∧ Below w.heap.size w w' := by
  by_cases h1 : k = 1
  · subst h1
    go_enter Tryd.func28, Tryd.ntmps28
    go_wp2_with fail
    go_ret
    exact ⟨rfl, (Below.refl _ _).alloc (Nat.le_refl _) _⟩
  by_cases h2 : k = 2
  · subst h2
    go_enter Tryd.func28, Tryd.ntmps28
    go_wp2_with fail
    go_ret
    exact ⟨rfl, (Below.refl _ _).alloc (Nat.le_refl _) _⟩
  have H := Lib.hid (show decide (k < 3) = false by simp; omega)
  have h1b : (k == 1) = false := by simpa using h1
  have h2b : (k == 2) = false := by simpa using h2
  clear h1 h2 hk
  go_enter Tryd.func28, Tryd.ntmps28
  go_wp2_with fail
  go_ret
  rw [H.out]
  exact ⟨rfl, (Below.refl _ _).alloc (Nat.le_refl _) _⟩
end Go.Proofs.YthhkjjdhecpmlaaDoor
