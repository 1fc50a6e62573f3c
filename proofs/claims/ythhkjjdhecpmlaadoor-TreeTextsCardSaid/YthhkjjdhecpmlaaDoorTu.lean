/-
  girandolelaw02.TreeTexts: what it calls with each expression keeps what it should; Some, at any depth.
-/
import Derived.Test.YthhkjjdhecpmlaaDoorEc
import Derived.Test.YthhkjjdhecpmlaaDoorRtL
import Derived.Test.YthhkjjdhecpmlaaDoorSp
namespace Go.Proofs.YthhkjjdhecpmlaaDoor
open Go.RowKit
set_option linter.unusedVariables false
set_option linter.unusedSimpArgs false
theorem Foot.set {S : Nat → Prop} {w w1 : World} {b o : Nat} {x : Value} (h : Foot S w w1) (hb : S b) : Foot S w (w1.setCell ⟨b, o, none⟩ x) :=
  h.trans ⟨rfl, rfl, rfl, by simp, fun b' _ hs => Below.heap_setCell _ _ _ _ (fun e => hs (e ▸ hb))⟩
theorem look_end0 {w : World} {bn bf i : Nat} {X : Obj} {f x : Bool} (hnf : bn ≠ bf) (hN : Blk w bn 3 #[.int .i64 i]) (hF : Blk w bf 4 #[.bool f]) :
    Blk (((w.alloc X).setCell ⟨bf, 0, none⟩ (.bool x)).setCell ⟨bn, 0, none⟩ (.int .i64 ((i + 1 : Nat) : Int))) bn 3 #[.int .i64 ((i + 1 : Nat) : Int)] ∧
    Blk (((w.alloc X).setCell ⟨bf, 0, none⟩ (.bool x)).setCell ⟨bn, 0, none⟩ (.int .i64 ((i + 1 : Nat) : Int))) bf 4 #[.bool x] ∧
    Foot (fun b => b = bn ∨ b = bf) w (((w.alloc X).setCell ⟨bf, 0, none⟩ (.bool x)).setCell ⟨bn, 0, none⟩ (.int .i64 ((i + 1 : Nat) : Int))) :=
  ⟨((hN.alloc X).other hnf).set _, ((hF.alloc X).set _).other (Ne.symm hnf), ((Foot.of_below ((Below.refl _ _).alloc (Nat.le_refl _) X)).set (Or.inr rfl)).set (Or.inl rfl)⟩
theorem look_end1 {w : World} {bn bf i : Nat} {X : Obj} {f : Bool} (hnf : bn ≠ bf) (hN : Blk w bn 3 #[.int .i64 i]) (hF : Blk w bf 4 #[.bool f]) :
    Blk ((w.alloc X).setCell ⟨bn, 0, none⟩ (.int .i64 ((i + 1 : Nat) : Int))) bn 3 #[.int .i64 ((i + 1 : Nat) : Int)] ∧
    Blk ((w.alloc X).setCell ⟨bn, 0, none⟩ (.int .i64 ((i + 1 : Nat) : Int))) bf 4 #[.bool f] ∧
    Foot (fun b => b = bn ∨ b = bf) w ((w.alloc X).setCell ⟨bn, 0, none⟩ (.int .i64 ((i + 1 : Nat) : Int))) :=
  ⟨(hN.alloc X).set _, (hF.alloc X).other (Ne.symm hnf), (Foot.of_below ((Below.refl _ _).alloc (Nat.le_refl _) X)).set (Or.inl rfl)⟩
set_option maxHeartbeats 1000000 in
set_option maxRecDepth 20000 in
/-- The look of TreeTexts: it counts, and the first one is that of kind and place. -/
theorem look23 (bn bx bf : Nat) (i : Nat) (f : Bool) (k a n k1 a1 n1 : Int) (nm nm1 : ByteArray) (off off1 : Bool) (s s1 : Value) (w : World) (hi : i ≤ 1000000) (hnx : bn ≠ bx) (hnf : bn ≠ bf) (hxf : bx ≠ bf)
    (hN : Blk w bn 3 #[.int .i64 i]) (hF : Blk w bf 4 #[.bool f]) (hX : Blk w bx 49 #[.int .i64 k, .int .i64 a, .int .i64 n, .string nm, .bool off, s]) (he : i = 0 → k1 = k ∧ a1 = a) :
    Calls Tryd.prog 23 #[exVal k1 a1 n1 nm1 off1 s1, .pointer (some ⟨bn, 0, none⟩), .pointer (some ⟨bx, 0, none⟩), .pointer (some ⟨bf, 0, none⟩)] w fun x w' =>
      x = .returned (.tuple #[]) ∧ Blk w' bn 3 #[.int .i64 ((i + 1 : Nat) : Int)] ∧ Blk w' bf 4 #[.bool (if i = 0 then true else f)] ∧ Foot (fun b => b = bn ∨ b = bf) w w' := by
  have n0 := alloc_cell hN.lt (hN.cell (o := 0) (v := .int .i64 i) rfl)
  have x0 := alloc_cell hX.lt (hX.cell (o := 0) (v := .int .i64 k) rfl)
  have x1 := alloc_cell hX.lt (hX.cell (o := 1) (v := .int .i64 a) rfl)
  have c0 := alloc_cell hF.lt (hF.cell (o := 0) (v := .bool f) rfl)
  have fn : ∀ X, (w.alloc X).frozen? ⟨bn, 0, none⟩ = false := fun X => (hN.alloc X).free 0
  have ff : ∀ X, (w.alloc X).frozen? ⟨bf, 0, none⟩ = false := fun X => (hF.alloc X).free 0
  have HN := Lib.hid hN; have HF := Lib.hid hF; have HNF := Lib.hid hnf
  clear hN hF hX
  by_cases h0 : i = 0
  · subst h0
    obtain ⟨rfl, rfl⟩ := he rfl
    go_enter Tryd.func23, Tryd.ntmps23
    go_wp2_with fail
    go_end0
    exact ⟨rfl, look_end0 HNF.out HN.out HF.out⟩
  · have h1 : ((i : Int) == 0) = false := by simp; omega
    have H0 := Lib.hid h0
    clear h0 he
    go_enter Tryd.func23, Tryd.ntmps23
    go_wp2_with fail
    go_end0
    have H9 := H0.out
    exact ⟨rfl, look_end1 HNF.out HN.out HF.out⟩
theorem some_any : ∀ (D : Nat), D ≤ 5 → ∀ (v : Value) (w : World) (B : Nat), Raw w B D v → B ≤ w.heap.size → Calls Tryd.prog 20 #[v, .int .i64 ((D : Int) + 1)] w (SomeOut w D)
  | 0, hD, v, w, B, hr, hB => by
    have hr0 := hr
    obtain ⟨rk, ra, rn, rnm, roff, rsp, rsl, rsc, rfl, hn, _⟩ := hr
    exact some_step rk ra rn rnm roff rsp rsl rsc w 0 hD B hB hr0 (fun D1 h => by omega) hn
  | D + 1, hD, v, w, B, hr, hB => by
    have hr0 := hr
    obtain ⟨rk, ra, rn, rnm, roff, rsp, rsl, rsc, rfl, hn, _⟩ := hr
    exact some_step rk ra rn rnm roff rsp rsl rsc w (D + 1) hD B hB hr0 (fun D1 h v w1 h1 h2 => by
      obtain rfl : D1 = D := by omega
      have := some_any D1 (by omega) v w1 B h1 h2
      simpa using this) hn
/-- A kind, a place. -/
def posE : Ex → Int | .mk _ a _ _ _ _ => a
theorem Rep.parts {w : World} {B d : Nat} {e : Ex} {v : Value} (h : Rep w B d e v) : ∃ k a n nm off s, v = exVal k a n nm off s ∧ kindE e = k ∧ posE e = a := by
  obtain ⟨k, a, n, nm, off, ks⟩ := e
  cases d with
  | zero => exact h.elim
  | succ d =>
    obtain ⟨s, hv, _⟩ := h
    exact ⟨k, a, n, nm, off, s, hv, rfl, rfl⟩
/-- The looks of TreeTexts. -/
theorem looks23 (bn bx bf : Nat) (L : List Ex) (k a n : Int) (nm : ByteArray) (off : Bool) (s : Value) (hL : L.length ≤ 100000) (h0 : ∀ h : 0 < L.length, kindE L[0] = k ∧ posE L[0] = a) (hnx : bn ≠ bx) (hnf : bn ≠ bf) (hxf : bx ≠ bf) :
    Looks 23 (.pointer (some ⟨bn, 0, none⟩)) (.pointer (some ⟨bx, 0, none⟩)) (.pointer (some ⟨bf, 0, none⟩)) (fun b => b = bn ∨ b = bf)
      (fun i w => Blk w bn 3 #[.int .i64 i] ∧ Blk w bf 4 #[.bool true] ∧ Blk w bx 49 #[.int .i64 k, .int .i64 a, .int .i64 n, .string nm, .bool off, s]) L where
  below := fun i w1 w2 h hb => ⟨h.1.below hb, h.2.1.below hb, h.2.2.below hb⟩
  see := fun i hi d v w1 hd hI hr => by
    obtain ⟨k1, a1, n1, nm1, off1, s1, rfl, hk1, ha1⟩ := hr.parts
    refine (look23 bn bx bf i true k a n k1 a1 n1 nm nm1 off off1 s s1 w1 (by omega) hnx hnf hxf hI.1 hI.2.1 hI.2.2 (fun h => by subst h; obtain ⟨e1, e2⟩ := h0 hi; exact ⟨hk1.symm.trans e1, ha1.symm.trans e2⟩)).mono ?_
    rintro x w2 ⟨rfl, h1, h2, h3⟩
    refine ⟨rfl, ⟨h1, by simpa using h2, hI.2.2.same (h3.2.2.2.2 _ hI.2.2.lt (by rintro (h | h); exact hnx h.symm; exact hxf h))⟩, h3⟩
theorem flat_len : ∀ (d : Nat) (e : Ex), (flatN d e).length = cntN d e
  | 0, _ => rfl
  | d + 1, .mk _ _ _ _ _ kids => by
    show (_ :: _ : List Ex).length = 1 + (kids.map (cntN d)).sum
    rw [List.length_cons, List.length_flatten, List.map_map, Nat.add_comm]
    congr 2
    exact List.map_congr_left fun e _ => flat_len d e
/-- An expression's own part of its list. -/
theorem part_all (d : Nat) (e : Ex) : Part (flatN d e) 0 (flatN d e) := fun i h => by rw [Nat.zero_add]; exact List.getElem?_eq_getElem h
theorem flat_head {d : Nat} {e : Ex} (h : 0 < (flatN d e).length) : (flatN d e)[0] = e := by
  cases d with
  | zero => cases h
  | succ d => obtain ⟨k, a, n, nm, off, kids⟩ := e; rfl
theorem RepP.head {w : World} {P : Nat → Prop} {d : Nat} {k a n k' a' n' : Int} {nm nm' : ByteArray} {off off' : Bool} {ks : List Ex} {s : Value} (h : RepP w P d (.mk k a n nm off ks) (exVal k' a' n' nm' off' s)) : k = k' ∧ a = a' ∧ n = n' ∧ nm = nm' ∧ off = off' := by
  cases d with
  | zero => exact h.elim
  | succ d =>
    obtain ⟨s2, hv, _⟩ := h
    injection hv with hv
    obtain ⟨rfl, rfl, rfl, rfl, rfl, _⟩ : k' = k ∧ a' = a ∧ n' = n ∧ nm' = nm ∧ off' = off ∧ s = s2 := by simpa using hv
    exact ⟨rfl, rfl, rfl, rfl, rfl⟩
theorem keepB6 {W : World} {b T : Nat} {c0 c1 c2 c3 c4 c5 : Value} (h : Blk W b T #[c0, c1, c2, c3, c4, c5]) :
    ∀ w', Below W.heap.size W w' → w'.cell? ⟨b, 0, none⟩ = some c0 ∧ w'.cell? ⟨b, 1, none⟩ = some c1 ∧ w'.cell? ⟨b, 2, none⟩ = some c2 ∧ w'.cell? ⟨b, 3, none⟩ = some c3 ∧ w'.cell? ⟨b, 4, none⟩ = some c4 ∧ w'.cell? ⟨b, 5, none⟩ = some c5 :=
  fun _ h' => (h.below h').six
end Go.Proofs.YthhkjjdhecpmlaaDoor
