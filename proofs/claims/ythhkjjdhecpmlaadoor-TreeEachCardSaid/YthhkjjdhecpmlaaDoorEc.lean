/-
  The contract of tree.Each, whatever is called with each expression: by what that keeps.
-/
import Derived.Test.YthhkjjdhecpmlaaDoorCr
import Derived.Test.YthhkjjdhecpmlaaDoorCn
namespace Go.Proofs.YthhkjjdhecpmlaaDoor
open Go.RowKit
set_option linter.unusedVariables false
set_option linter.unusedSimpArgs false
/-- Nothing but blocks of a set is touched of what there is. -/
def Foot (S : Nat → Prop) (w w' : World) : Prop :=
  w'.os = w.os ∧ w'.tape = w.tape ∧ w'.output = w.output ∧ w.heap.size ≤ w'.heap.size ∧ ∀ b, b < w.heap.size → ¬ S b → w'.heap[b]? = w.heap[b]?
theorem Foot.of_below {S : Nat → Prop} {w w' : World} (h : Below w.heap.size w w') : Foot S w w' := ⟨h.os, h.tape, h.output, h.size, fun b hb _ => h.block b hb⟩
theorem Foot.trans {S : Nat → Prop} {w w1 w2 : World} (h : Foot S w w1) (h' : Foot S w1 w2) : Foot S w w2 :=
  ⟨h'.1.trans h.1, h'.2.1.trans h.2.1, h'.2.2.1.trans h.2.2.1, Nat.le_trans h.2.2.2.1 h'.2.2.2.1, fun b h1 h2 => (h'.2.2.2.2 b (Nat.lt_of_lt_of_le h1 h.2.2.2.1) h2).trans (h.2.2.2.2 b h1 h2)⟩
theorem Foot.refl (S : Nat → Prop) (w : World) : Foot S w w := ⟨rfl, rfl, rfl, Nat.le_refl _, fun _ _ _ => rfl⟩
theorem Foot.below {S : Nat → Prop} {w w' : World} {B : Nat} (h : Foot S w w') (hB : B ≤ w.heap.size) (hS : ∀ b, S b → B ≤ b) : Below B w w' :=
  ⟨h.1, h.2.1, h.2.2.1, h.2.2.2.1, fun b hb => h.2.2.2.2 b (Nat.lt_of_lt_of_le hb hB) (fun hs => by have := hS b hs; omega)⟩
/-- An expression and all below it, those above first, looking so many levels down. -/
def flatN : Nat → Ex → List Ex
  | 0, _ => []
  | d + 1, .mk k a n nm off kids => .mk k a n nm off kids :: (kids.map (flatN d)).flatten
theorem flat_take {d : Nat} {kids : List Ex} {j : Nat} (h : j < kids.length) : ((kids.take (j + 1)).map (flatN d)).flatten = ((kids.take j).map (flatN d)).flatten ++ flatN d kids[j] := by
  rw [take_map_snoc (flatN d) kids j h, List.flatten_append]
  simp
theorem flat_at {d : Nat} {kids : List Ex} : ∀ {j : Nat} (h : j < kids.length) (i : Nat) (hi : i < (flatN d kids[j]).length), ((kids.map (flatN d)).flatten)[((kids.take j).map (flatN d)).flatten.length + i]? = some (flatN d kids[j])[i] := by
  induction kids with
  | nil => intro j h; cases h
  | cons e r ih =>
    intro j h i hi
    cases j with
    | zero => simp at hi ⊢; rw [List.getElem?_append_left hi]; exact List.getElem?_eq_getElem hi
    | succ j =>
      have h2 : j < r.length := by simpa using h
      have := ih h2 i hi
      simp only [List.map_cons, List.flatten_cons, List.take_succ_cons, List.length_append, List.getElem_cons_succ]
      rw [List.getElem?_append_right (by omega)]
      rw [show (flatN d e).length + ((r.take j).map (flatN d)).flatten.length + i - (flatN d e).length = ((r.take j).map (flatN d)).flatten.length + i by omega]
      exact this
theorem run_equalIn_func_nil (w : World) (d F : Nat) (caps : Array Value) : (Op.equalIn (d + 1) 52 (.func (.func F) #[] caps) .nilFunc).run Tryd.prog w = .ok false w := by
  simp [Op.equalIn, run_underlying Tryd.underlying52]
theorem run_eql_func_nil (w : World) (F : Nat) (caps : Array Value) : (binOp .eql 52 (.func (.func F) #[] caps) .nilFunc).run Tryd.prog w = .ok (.bool false) w := by
  simp only [binOp]
  simp [Op.equal, Op.maxDepth, run_equalIn_func_nil w 9999 F caps]
/-- What a look keeps, and what it makes of a state. -/
structure Looks (F : Nat) (c1 c2 c3 : Value) (S : Nat → Prop) (I : Nat → World → Prop) (L : List Ex) : Prop where
  below : ∀ i w1 w2, I i w1 → Below w1.heap.size w1 w2 → I i w2
  see : ∀ i (h : i < L.length) d v w1, d ≤ 6 → I i w1 → Rep w1 w1.heap.size d L[i] v → Calls Tryd.prog F #[v, c1, c2, c3] w1 fun x w2 => x = .returned (.tuple #[]) ∧ I (i + 1) w2 ∧ Foot S w1 w2
/-- An expression's part of a list. -/
def Part (L : List Ex) (m : Nat) (es : List Ex) : Prop := ∀ i (h : i < es.length), L[m + i]? = some es[i]
theorem part_kid {L : List Ex} {m d j : Nat} {k a n : Int} {nm : ByteArray} {off : Bool} {kids : List Ex} (h : Part L m (flatN (d + 1) (.mk k a n nm off kids))) (hj : j < kids.length) : Part L (m + 1 + ((kids.take j).map (flatN d)).flatten.length) (flatN d kids[j]) := by
  intro i hi
  have h1 := flat_at hj i hi
  have h2 : 1 + (((kids.take j).map (flatN d)).flatten.length + i) < (flatN (d + 1) (.mk k a n nm off kids)).length := by
    have := (List.getElem?_eq_some_iff.1 h1).1
    show _ < (_ :: _ : List Ex).length
    rw [List.length_cons]; omega
  have h3 := h _ h2
  rw [show m + 1 + ((kids.take j).map (flatN d)).flatten.length + i = m + (1 + (((kids.take j).map (flatN d)).flatten.length + i)) by omega, h3]
  have h4 : (flatN (d + 1) (.mk k a n nm off kids))[1 + (((kids.take j).map (flatN d)).flatten.length + i)]? = some (flatN d kids[j])[i] := by
    show ((_ :: _ : List Ex))[_]? = _
    rw [Nat.add_comm 1, List.getElem?_cons_succ]
    exact h1
  rw [List.getElem?_eq_getElem h2] at h4
  exact h4
set_option maxHeartbeats 4000000 in
set_option maxRecDepth 100000 in
theorem each_step23 (c1 c2 c3 : Value) (S : Nat → Prop) (I : Nat → World → Prop) (L : List Ex) (HL : Looks 23 c1 c2 c3 S I L) (d : Nat) (hd : d + 1 ≤ 6) (k a n : Int) (nm : ByteArray) (off : Bool) (kids : List Ex) (s : Value) (w : World) (P : Nat → Prop) (m : Nat)
    (hr : RepP w P (d + 1) (.mk k a n nm off kids) (exVal k a n nm off s)) (hP : ∀ b, P b → b < w.heap.size ∧ ¬ S b) (hS : ∀ b, S b → b < w.heap.size) (hp : Part L m (flatN (d + 1) (.mk k a n nm off kids))) (hI : I m w)
    (ih : ∀ j (h : j < kids.length) v w1 m1, RepP w1 P d kids[j] v → (∀ b, P b → b < w1.heap.size ∧ ¬ S b) → (∀ b, S b → b < w1.heap.size) → Part L m1 (flatN d kids[j]) → I m1 w1 →
      Calls Tryd.prog 22 #[v, .func (.func 23) #[] #[c1, c2, c3]] w1 fun x w' => x = .returned (.tuple #[]) ∧ I (m1 + (flatN d kids[j]).length) w' ∧ Foot S w1 w') :
    Calls Tryd.prog 22 #[exVal k a n nm off s, .func (.func 23) #[] #[c1, c2, c3]] w fun x w' => x = .returned (.tuple #[]) ∧ I (m + (flatN (d + 1) (.mk k a n nm off kids)).length) w' ∧ Foot S w w' := by
  have q52 := run_eql_func_nil
  obtain ⟨sp, sl, sc, rfl, hsl⟩ : ∃ sp sl sc, s = .slice sp sl sc ∧ sl = kids.length := by
    obtain ⟨s2, hv, h⟩ := hr
    injection hv with hv
    obtain rfl : s = s2 := by simpa using hv
    rcases h with ⟨rfl, rfl⟩ | ⟨b, o, cap, rfl, _⟩
    · exact ⟨none, 0, 0, rfl, rfl⟩
    · exact ⟨_, _, _, rfl, rfl⟩
  have hrr : Rep w w.heap.size (d + 1) (.mk k a n nm off kids) (exVal k a n nm off (.slice sp sl sc)) := hr.rep (fun b hb => (hP b hb).1)
  have hmL : m < L.length := by
    have := hp 0 (by unfold flatN; simp)
    exact (List.getElem?_eq_some_iff.1 this).1
  have hLm : L[m] = .mk k a n nm off kids := by
    have := hp 0 (by unfold flatN; simp)
    rw [Nat.add_zero, List.getElem?_eq_getElem hmL] at this
    injection this
  have HQ := Lib.hid hr; have HPP := Lib.hid hP; have HSS := Lib.hid hS; have HPT := Lib.hid hp; have HI := Lib.hid hI; have IH := Lib.hid ih; have HRR := Lib.hid hrr; have HLM := Lib.hid hLm; have HSL := Lib.hid hsl
  clear hr hP hS hp hI ih hrr hLm hsl
  go_enter Tryd.func22, Tryd.ntmps22
  go_wp2_with fail
  generalize hW : w.alloc _ = W0
  have HB0 := Lib.hid (show Below w.heap.size w W0 by rw [← hW]; exact (Below.refl _ _).alloc (Nat.le_refl _) _)
  have HZ0 := Lib.hid (show W0.heap.size = w.heap.size + 1 by rw [← hW]; simp)
  have HBX := Lib.hid (show Blk W0 w.heap.size 49 #[.int .i64 k, .int .i64 a, .int .i64 n, .string nm, .bool off, .slice sp sl sc] by rw [← hW]; exact Blk.new _ _ _)
  clear hW
  refine (copy_all (d + 1) (.mk k a n nm off kids) _ W0 w.heap.size (HRR.out.below HB0.out) HB0.out.size).mono ?_
  rintro x w2 ⟨k2, a2, n2, nm2, off2, sp2, sl2, sc2, rfl, hr2, hb2⟩
  have HR2 := Lib.hid (hr2.rep (B := w2.heap.size) (fun b hb => hb.2)); have HB2 := Lib.hid hb2
  clear hr2 hb2
  go_wp2_with fail
  refine (HL.see m hmL (d + 1) _ w2 hd (HL.below _ _ _ HI.out (HB0.out.trans (HB2.out.mono HB0.out.size))) (by rw [HLM.out]; exact HR2.out)).mono ?_
  rintro x w3 ⟨rfl, hI3, hF3⟩
  have HF := Lib.hid (((Foot.of_below HB0.out).trans (Foot.of_below (S := S) HB2.out)).trans hF3)
  have HI3 := Lib.hid hI3
  have HX3 := Lib.hid ((HBX.out.below HB2.out).same (hF3.2.2.2.2 w.heap.size (by have := HB2.out.size; have := HZ0.out; omega) (fun h => by have := HSS.out _ h; omega)))
  obtain ⟨x0, x1, x2, x3, x4, x5⟩ := HX3.out.six
  clear hI3 hF3
  go_wp2_with fail
  go_loopw [15] (fun t wr => ∃ j : Nat, t = .int .i64 j ∧ j ≤ kids.length ∧ I (m + 1 + ((kids.take j).map (flatN d)).flatten.length) wr ∧ Foot S w wr ∧ Blk wr w.heap.size 49 #[.int .i64 k, .int .i64 a, .int .i64 n, .string nm, .bool off, .slice sp sl sc]) (fun t _ => kids.length - (intOf t).toNat)
  case atStart => exact ⟨0, rfl, Nat.zero_le _, HI3.out, HF.out, HX3.out⟩
  case round =>
    obtain ⟨j, rfl, hj, hIj, hFj, hXj⟩ := hrel
    have HIJ := Lib.hid hIj; have HFJ := Lib.hid hFj; have HXJ := Lib.hid hXj
    clear x0 x1 x2 x3 x4 x5 hIj hFj hXj
    by_cases hl1 : j < kids.length
    · obtain ⟨s2, hv, hor⟩ := HQ.out
      injection hv with hv
      obtain rfl : Value.slice sp sl sc = s2 := by simpa using hv
      have hor2 : ∃ b o cap, Value.slice sp sl sc = .slice (some ⟨b, o, none⟩) kids.length cap ∧ P b ∧ kids.length ≤ 1000000 ∧ ∀ i (h : i < kids.length), ∃ c0 c1 c2 c3 c4 c5, Six w b (o + i * 6) c0 c1 c2 c3 c4 c5 ∧ RepP w P d kids[i] (.agg #[c0, c1, c2, c3, c4, c5]) := by
        rcases hor with ⟨h0, _⟩ | h
        · subst h0; simp at hl1
        · exact h
      obtain ⟨b, o, cap, hv2, hPb, hlk, hcell⟩ := hor2
      injection hv2 with e1 e2 e3
      subst e1 e2 e3
      obtain ⟨c0, c1', c2', c3', c4, c5, h6, hrp⟩ := hcell j hl1
      obtain ⟨k1, a1, n1, nm1, off1, sp1, sl1, sc1, rfl, rfl, rfl, rfl, rfl, rfl⟩ := (hrp.rep (B := w.heap.size) (fun b hb => (HPP.out b hb).1)).shape
      have hbw := (HPP.out b hPb).1
      have hbs := (HPP.out b hPb).2
      obtain ⟨e0, e1, e2, e3, e4, e5⟩ := six_parts (h6.same (HFJ.out.2.2.2.2 b hbw hbs))
      have HRJ := Lib.hid (hrp.keep (w' := wr) (fun _ h => h) (fun b hb => HFJ.out.2.2.2.2 b (HPP.out b hb).1 (HPP.out b hb).2))
      have HSZ := Lib.hid HFJ.out.2.2.2.1
      clear hcell h6 hrp hor hv
      go_wp2_with fail
      refine (IH.out j hl1 _ _ (m + 1 + ((kids.take j).map (flatN d)).flatten.length) (HRJ.out.keep (fun _ h => h) (fun b hb => heap_alloc_old wr _ (Nat.lt_of_lt_of_le (HPP.out b hb).1 HSZ.out))) (fun b hb => ⟨by have := (HPP.out b hb).1; have := HSZ.out; simp; omega, (HPP.out b hb).2⟩) (fun b hb => by have := HSS.out b hb; have := HSZ.out; simp; omega) (part_kid HPT.out hl1) (HL.below _ _ _ HIJ.out ((Below.refl _ _).alloc (Nat.le_refl _) _))).mono ?_
      rintro x w4 ⟨rfl, hI4, hF4⟩
      have HI4 := Lib.hid hI4
      have HF4 := Lib.hid (HFJ.out.trans ((Foot.of_below ((Below.refl _ _).alloc (Nat.le_refl _) _)).trans hF4))
      have HX4 := Lib.hid ((HXJ.out.alloc (.cells #[.int .i64 k1, .int .i64 a1, .int .i64 n1, .string nm1, .bool off1, .slice sp1 sl1 sc1] 49)).same (hF4.2.2.2.2 w.heap.size (by have := HXJ.out.lt; simp; omega) (fun h => by have := HSS.out _ h; omega)))
      clear hI4 hF4 e0 e1 e2 e3 e4 e5
      go_wp2_with fail
      go_roundw
      case rel => exact ⟨j + 1, by go_num, by omega, by rw [flat_take hl1, List.length_append, ← Nat.add_assoc]; exact HI4.out, HF4.out, HX4.out⟩
      case measure => simp [intOf]; omega
    · have hje : j = kids.length := by omega
      subst hje
      rw [List.take_length] at HIJ
      obtain ⟨sl0, hsl0⟩ : ∃ x, x = sl := ⟨_, rfl⟩
      have hs1 := HSL.out
      subst hs1
      clear hsl0
      go_wp2_with fail
      go_end0
      refine ⟨rfl, ?_, HFJ.out⟩
      have e : (flatN (d + 1) (.mk k a n nm off kids)).length = 1 + ((kids.map (flatN d)).flatten).length := by
        show (_ :: _ : List Ex).length = _
        rw [List.length_cons]; omega
      rw [e, ← Nat.add_assoc]
      exact HIJ.out
theorem each_all23 (c1 c2 c3 : Value) (S : Nat → Prop) (I : Nat → World → Prop) (L : List Ex) (HL : Looks 23 c1 c2 c3 S I L) : ∀ (d : Nat), d ≤ 6 → ∀ (e : Ex) (v : Value) (w : World) (P : Nat → Prop) (m : Nat), RepP w P d e v → (∀ b, P b → b < w.heap.size ∧ ¬ S b) → (∀ b, S b → b < w.heap.size) → Part L m (flatN d e) → I m w →
      Calls Tryd.prog 22 #[v, .func (.func 23) #[] #[c1, c2, c3]] w fun x w' => x = .returned (.tuple #[]) ∧ I (m + (flatN d e).length) w' ∧ Foot S w w'
  | 0, _, _, _, _, _, _, h, _, _, _, _ => h.elim
  | d + 1, hd, .mk k a n nm off kids, v, w, P, m, h, hP, hS, hp, hI => by
    have h0 := h
    obtain ⟨s, rfl, _⟩ := h
    exact each_step23 c1 c2 c3 S I L HL d hd k a n nm off kids s w P m h0 hP hS hp hI (fun j hj v w1 m1 h1 h2 h3 h4 h5 => each_all23 c1 c2 c3 S I L HL d (by omega) _ v w1 P m1 h1 h2 h3 h4 h5)
set_option maxHeartbeats 4000000 in
set_option maxRecDepth 100000 in
theorem each_step44 (c1 c2 c3 : Value) (S : Nat → Prop) (I : Nat → World → Prop) (L : List Ex) (HL : Looks 44 c1 c2 c3 S I L) (d : Nat) (hd : d + 1 ≤ 6) (k a n : Int) (nm : ByteArray) (off : Bool) (kids : List Ex) (s : Value) (w : World) (P : Nat → Prop) (m : Nat)
    (hr : RepP w P (d + 1) (.mk k a n nm off kids) (exVal k a n nm off s)) (hP : ∀ b, P b → b < w.heap.size ∧ ¬ S b) (hS : ∀ b, S b → b < w.heap.size) (hp : Part L m (flatN (d + 1) (.mk k a n nm off kids))) (hI : I m w)
    (ih : ∀ j (h : j < kids.length) v w1 m1, RepP w1 P d kids[j] v → (∀ b, P b → b < w1.heap.size ∧ ¬ S b) → (∀ b, S b → b < w1.heap.size) → Part L m1 (flatN d kids[j]) → I m1 w1 →
      Calls Tryd.prog 22 #[v, .func (.func 44) #[] #[c1, c2, c3]] w1 fun x w' => x = .returned (.tuple #[]) ∧ I (m1 + (flatN d kids[j]).length) w' ∧ Foot S w1 w') :
    Calls Tryd.prog 22 #[exVal k a n nm off s, .func (.func 44) #[] #[c1, c2, c3]] w fun x w' => x = .returned (.tuple #[]) ∧ I (m + (flatN (d + 1) (.mk k a n nm off kids)).length) w' ∧ Foot S w w' := by
  have q52 := run_eql_func_nil
  obtain ⟨sp, sl, sc, rfl, hsl⟩ : ∃ sp sl sc, s = .slice sp sl sc ∧ sl = kids.length := by
    obtain ⟨s2, hv, h⟩ := hr
    injection hv with hv
    obtain rfl : s = s2 := by simpa using hv
    rcases h with ⟨rfl, rfl⟩ | ⟨b, o, cap, rfl, _⟩
    · exact ⟨none, 0, 0, rfl, rfl⟩
    · exact ⟨_, _, _, rfl, rfl⟩
  have hrr : Rep w w.heap.size (d + 1) (.mk k a n nm off kids) (exVal k a n nm off (.slice sp sl sc)) := hr.rep (fun b hb => (hP b hb).1)
  have hmL : m < L.length := by
    have := hp 0 (by unfold flatN; simp)
    exact (List.getElem?_eq_some_iff.1 this).1
  have hLm : L[m] = .mk k a n nm off kids := by
    have := hp 0 (by unfold flatN; simp)
    rw [Nat.add_zero, List.getElem?_eq_getElem hmL] at this
    injection this
  have HQ := Lib.hid hr; have HPP := Lib.hid hP; have HSS := Lib.hid hS; have HPT := Lib.hid hp; have HI := Lib.hid hI; have IH := Lib.hid ih; have HRR := Lib.hid hrr; have HLM := Lib.hid hLm; have HSL := Lib.hid hsl
  clear hr hP hS hp hI ih hrr hLm hsl
  go_enter Tryd.func22, Tryd.ntmps22
  go_wp2_with fail
  generalize hW : w.alloc _ = W0
  have HB0 := Lib.hid (show Below w.heap.size w W0 by rw [← hW]; exact (Below.refl _ _).alloc (Nat.le_refl _) _)
  have HZ0 := Lib.hid (show W0.heap.size = w.heap.size + 1 by rw [← hW]; simp)
  have HBX := Lib.hid (show Blk W0 w.heap.size 49 #[.int .i64 k, .int .i64 a, .int .i64 n, .string nm, .bool off, .slice sp sl sc] by rw [← hW]; exact Blk.new _ _ _)
  clear hW
  refine (copy_all (d + 1) (.mk k a n nm off kids) _ W0 w.heap.size (HRR.out.below HB0.out) HB0.out.size).mono ?_
  rintro x w2 ⟨k2, a2, n2, nm2, off2, sp2, sl2, sc2, rfl, hr2, hb2⟩
  have HR2 := Lib.hid (hr2.rep (B := w2.heap.size) (fun b hb => hb.2)); have HB2 := Lib.hid hb2
  clear hr2 hb2
  go_wp2_with fail
  refine (HL.see m hmL (d + 1) _ w2 hd (HL.below _ _ _ HI.out (HB0.out.trans (HB2.out.mono HB0.out.size))) (by rw [HLM.out]; exact HR2.out)).mono ?_
  rintro x w3 ⟨rfl, hI3, hF3⟩
  have HF := Lib.hid (((Foot.of_below HB0.out).trans (Foot.of_below (S := S) HB2.out)).trans hF3)
  have HI3 := Lib.hid hI3
  have HX3 := Lib.hid ((HBX.out.below HB2.out).same (hF3.2.2.2.2 w.heap.size (by have := HB2.out.size; have := HZ0.out; omega) (fun h => by have := HSS.out _ h; omega)))
  obtain ⟨x0, x1, x2, x3, x4, x5⟩ := HX3.out.six
  clear hI3 hF3
  go_wp2_with fail
  go_loopw [15] (fun t wr => ∃ j : Nat, t = .int .i64 j ∧ j ≤ kids.length ∧ I (m + 1 + ((kids.take j).map (flatN d)).flatten.length) wr ∧ Foot S w wr ∧ Blk wr w.heap.size 49 #[.int .i64 k, .int .i64 a, .int .i64 n, .string nm, .bool off, .slice sp sl sc]) (fun t _ => kids.length - (intOf t).toNat)
  case atStart => exact ⟨0, rfl, Nat.zero_le _, HI3.out, HF.out, HX3.out⟩
  case round =>
    obtain ⟨j, rfl, hj, hIj, hFj, hXj⟩ := hrel
    have HIJ := Lib.hid hIj; have HFJ := Lib.hid hFj; have HXJ := Lib.hid hXj
    clear x0 x1 x2 x3 x4 x5 hIj hFj hXj
    by_cases hl1 : j < kids.length
    · obtain ⟨s2, hv, hor⟩ := HQ.out
      injection hv with hv
      obtain rfl : Value.slice sp sl sc = s2 := by simpa using hv
      have hor2 : ∃ b o cap, Value.slice sp sl sc = .slice (some ⟨b, o, none⟩) kids.length cap ∧ P b ∧ kids.length ≤ 1000000 ∧ ∀ i (h : i < kids.length), ∃ c0 c1 c2 c3 c4 c5, Six w b (o + i * 6) c0 c1 c2 c3 c4 c5 ∧ RepP w P d kids[i] (.agg #[c0, c1, c2, c3, c4, c5]) := by
        rcases hor with ⟨h0, _⟩ | h
        · subst h0; simp at hl1
        · exact h
      obtain ⟨b, o, cap, hv2, hPb, hlk, hcell⟩ := hor2
      injection hv2 with e1 e2 e3
      subst e1 e2 e3
      obtain ⟨c0, c1', c2', c3', c4, c5, h6, hrp⟩ := hcell j hl1
      obtain ⟨k1, a1, n1, nm1, off1, sp1, sl1, sc1, rfl, rfl, rfl, rfl, rfl, rfl⟩ := (hrp.rep (B := w.heap.size) (fun b hb => (HPP.out b hb).1)).shape
      have hbw := (HPP.out b hPb).1
      have hbs := (HPP.out b hPb).2
      obtain ⟨e0, e1, e2, e3, e4, e5⟩ := six_parts (h6.same (HFJ.out.2.2.2.2 b hbw hbs))
      have HRJ := Lib.hid (hrp.keep (w' := wr) (fun _ h => h) (fun b hb => HFJ.out.2.2.2.2 b (HPP.out b hb).1 (HPP.out b hb).2))
      have HSZ := Lib.hid HFJ.out.2.2.2.1
      clear hcell h6 hrp hor hv
      go_wp2_with fail
      refine (IH.out j hl1 _ _ (m + 1 + ((kids.take j).map (flatN d)).flatten.length) (HRJ.out.keep (fun _ h => h) (fun b hb => heap_alloc_old wr _ (Nat.lt_of_lt_of_le (HPP.out b hb).1 HSZ.out))) (fun b hb => ⟨by have := (HPP.out b hb).1; have := HSZ.out; simp; omega, (HPP.out b hb).2⟩) (fun b hb => by have := HSS.out b hb; have := HSZ.out; simp; omega) (part_kid HPT.out hl1) (HL.below _ _ _ HIJ.out ((Below.refl _ _).alloc (Nat.le_refl _) _))).mono ?_
      rintro x w4 ⟨rfl, hI4, hF4⟩
      have HI4 := Lib.hid hI4
      have HF4 := Lib.hid (HFJ.out.trans ((Foot.of_below ((Below.refl _ _).alloc (Nat.le_refl _) _)).trans hF4))
      have HX4 := Lib.hid ((HXJ.out.alloc (.cells #[.int .i64 k1, .int .i64 a1, .int .i64 n1, .string nm1, .bool off1, .slice sp1 sl1 sc1] 49)).same (hF4.2.2.2.2 w.heap.size (by have := HXJ.out.lt; simp; omega) (fun h => by have := HSS.out _ h; omega)))
      clear hI4 hF4 e0 e1 e2 e3 e4 e5
      go_wp2_with fail
      go_roundw
      case rel => exact ⟨j + 1, by go_num, by omega, by rw [flat_take hl1, List.length_append, ← Nat.add_assoc]; exact HI4.out, HF4.out, HX4.out⟩
      case measure => simp [intOf]; omega
    · have hje : j = kids.length := by omega
      subst hje
      rw [List.take_length] at HIJ
      obtain ⟨sl0, hsl0⟩ : ∃ x, x = sl := ⟨_, rfl⟩
      have hs1 := HSL.out
      subst hs1
      clear hsl0
      go_wp2_with fail
      go_end0
      refine ⟨rfl, ?_, HFJ.out⟩
      have e : (flatN (d + 1) (.mk k a n nm off kids)).length = 1 + ((kids.map (flatN d)).flatten).length := by
        show (_ :: _ : List Ex).length = _
        rw [List.length_cons]; omega
      rw [e, ← Nat.add_assoc]
      exact HIJ.out
theorem each_all44 (c1 c2 c3 : Value) (S : Nat → Prop) (I : Nat → World → Prop) (L : List Ex) (HL : Looks 44 c1 c2 c3 S I L) : ∀ (d : Nat), d ≤ 6 → ∀ (e : Ex) (v : Value) (w : World) (P : Nat → Prop) (m : Nat), RepP w P d e v → (∀ b, P b → b < w.heap.size ∧ ¬ S b) → (∀ b, S b → b < w.heap.size) → Part L m (flatN d e) → I m w →
      Calls Tryd.prog 22 #[v, .func (.func 44) #[] #[c1, c2, c3]] w fun x w' => x = .returned (.tuple #[]) ∧ I (m + (flatN d e).length) w' ∧ Foot S w w'
  | 0, _, _, _, _, _, _, h, _, _, _, _ => h.elim
  | d + 1, hd, .mk k a n nm off kids, v, w, P, m, h, hP, hS, hp, hI => by
    have h0 := h
    obtain ⟨s, rfl, _⟩ := h
    exact each_step44 c1 c2 c3 S I L HL d hd k a n nm off kids s w P m h0 hP hS hp hI (fun j hj v w1 m1 h1 h2 h3 h4 h5 => each_all44 c1 c2 c3 S I L HL d (by omega) _ v w1 P m1 h1 h2 h3 h4 h5)
end Go.Proofs.YthhkjjdhecpmlaaDoor
