/- Rp -/
import Derived.Test.YtjgknelmjdallaaGreatDoorPbG24
import Derived.Deep.RegionHeld3
import Derived.Deep.DeepCutAuto
import Derived.Deep.RegionWith
import Derived.WalkSpells
import Derived.WalkKit
import Derived.OwnWalk
import Derived.IntWalk
import Derived.Test.YtjgknelmjdallaaGreatDoorPbG20
import Derived.Test.YtjgknelmjdallaaGreatDoorPbG22
set_option linter.unusedVariables false
set_option linter.unusedSimpArgs false
noncomputable section
namespace Go.Ax
open Go.RowKit Go.Proofs
theorem Ub {w w' : World} (hb : Below w.heap.size w w') : Ev (GhW w) w (GhW w') w' :=
 ⟨fun _ _ h => (by cases h), fun b o h => ⟨Nat.lt_of_lt_of_le h.1 hb.size, by obtain ⟨v, hv⟩ := h.2; exact ⟨v, (hb.cell (p := ⟨b, o, none⟩) h.1).trans hv⟩⟩, fun b o v h hv => (hb.cell (p := ⟨b, o, none⟩) h.1).trans hv, fun b arr T fr h => ⟨arr, fr, (hb.block b (Array.getElem?_eq_some_iff.1 h).1).trans h, rfl⟩⟩
theorem T5 {w w' : World} (h : GR (GhW w) w gF) (hb : Below w.heap.size w w') : GR (GhW w') w' gF := h.mono (Ub hb)
theorem dP {k : FuncId} {args : List AV} {t : List UInt8} (h : ∀ S, 2 ≤ S.next → WC E6 k args S (fun r => ∃ S', r = .ret (Cl t) S' ∧ Ej S S')) (hF : (E6.F k).isSome = true) {w : World} (hg : GR (GhW w) w gF) {vs : List Value} (hv : VRL (GhW w) w args vs) :
  Calls Tryz.prog k vs.toArray w (fun e w' => e = .returned (.string ⟨⟨t⟩⟩) ∧ Below w.heap.size w w') := by
 obtain ⟨r, ⟨m0, hm⟩, S', rfl, hk⟩ := h St0 (Nat.le_refl _)
 have hc := hm m0 (Nat.le_refl _)
 have := Nj e6_ok e6_intr (Ii e6_ok e6_mix) m0 w.heap.size w k args St0 (by show ckN E6 m0 k args St0 ≠ _; rw [hc]; intro e; cases e) (GhW w) w vs (SR.whole w) hg hv hF
 rw [show Rz E6 (Cf E6) m0 k args St0 = .ret (Cl t) S' from hc] at this
 refine this.mono fun e w' he => ?_
 obtain ⟨γ', v, h1, h2, h3, rfl⟩ := he
 refine ⟨?_, h1.below⟩
 cases h3
 rfl
def dS (l : List PD) (sep : ByteArray) : ByteArray := ⟨⟨Po l sep.data.toList⟩⟩
def eqTB (d : Nat) (q : PQ) : ByteArray := ⟨⟨eqT q⟩⟩
def RdD (w : World) (B : Nat) (v : Value) (es : List PD) : Prop := ∃ p c, v = .slice p es.length c ∧ ∃ a, VR (GhW w) w a v ∧ Hn 6 F9 a es
def RdE (w : World) (v : Value) (q : PQ) : Prop := ∃ a, VR (GhW w) w a v ∧ W4 a q
theorem RdD.below {w w' : World} {B : Nat} {v : Value} {es : List PD} (h : RdD w B v es) (hb : Below w.heap.size w w') : RdD w' B v es := by
 obtain ⟨p, c, hv, a, h1, h2⟩ := h
 exact ⟨p, c, hv, a, h1.mono (Ub hb), h2⟩
theorem RdE.below {w w' : World} {v : Value} {q : PQ} (h : RdE w v q) (hb : Below w.heap.size w w') : RdE w' v q := by
 obtain ⟨a, h1, h2⟩ := h
 exact ⟨a, h1.mono (Ub hb), h2⟩
theorem N4 (v : Value) (es : List PD) (sep : ByteArray) (w : World) (B : Nat) (hB : B ≤ w.heap.size) (hg : GR (GhW w) w gF) (h : RdD w B v es) (hl : es.length ≤ 1000) (hf : ∀ x ∈ es, Ps x) (hs : sep.size ≤ 2) :
  Calls Tryz.prog 60 #[v, .string sep] w fun e w' => e = .returned (.string (dS es sep)) ∧ Below w.heap.size w w' := by
 obtain ⟨p, c, hv, a, h1, h2⟩ := h
 exact dP (k := 60) (args := [a, .v (.string ⟨⟨sep.data.toList⟩⟩)]) (t := Po es sep.data.toList) (fun S hS => lC h2 (by omega) hf sep.data.toList hs S hS) (by kernel_rfl) hg (vs := [v, .string sep]) (VRL.cons h1 (VRL.cons (.v _ rfl) (VRL.nil _ _)))
theorem oL (v : Value) (q : PQ) (w : World) (hg : GR (GhW w) w gF) (h : RdE w v q) (hf : FitQ q) (d : Nat) : Calls Tryz.prog 61 #[v] w fun e w' => e = .returned (.string (eqTB d q)) ∧ Below w.heap.size w w' := by
 obtain ⟨a, h1, h2⟩ := h
 exact dP (k := 61) (args := [a]) (t := eqT q) (fun S hS => eqText_w h2 hf S hS) (by kernel_rfl) hg (vs := [v]) (VRL.cons h1 (VRL.nil _ _))
structure Nd where
 nm : ByteArray
 pos : Int
 ins : List PD
 outs : List PD
 vars : List PD
 eqs : List PQ
def Kl (n : Nd) : ByteArray := ⟨#[110, 111, 100, 101, 32]⟩ ++ n.nm ++ ⟨#[40]⟩ ++ dS n.ins ⟨#[44, 32]⟩ ++ ⟨#[41, 32, 114, 101, 116, 117, 114, 110, 115, 32, 40]⟩ ++ dS n.outs ⟨#[44, 32]⟩ ++ ⟨#[41, 10]⟩
def R4 (n : Nd) : ByteArray := if 0 < n.vars.length then ⟨#[118, 97, 114, 32]⟩ ++ dS n.vars ⟨#[59, 32]⟩ ++ ⟨#[59, 10]⟩ else ⟨#[]⟩
def eqL (d : Nat) (q : PQ) : ByteArray := ⟨#[32, 32]⟩ ++ eqTB d q ++ ⟨#[59, 10]⟩
def Lf (l : List ByteArray) : ByteArray := l.foldl (· ++ ·) ⟨#[]⟩
theorem dO (l : List ByteArray) (x : ByteArray) : Lf (l ++ [x]) = Lf l ++ x := by unfold Lf; rw [List.foldl_append]; rfl
theorem dN {l : List ByteArray} {j : Nat} {x : ByteArray} (h : l[j]? = some x) : Lf (l.take (j + 1)) = Lf (l.take j) ++ x := by rw [List.take_add_one, h]; exact dO _ _
theorem catB_le (l m : List ByteArray) : (Lf l).size ≤ (Lf (l ++ m)).size := by
 induction m generalizing l with
 | nil => simp
 | cons x r ih => rw [show l ++ x :: r = (l ++ [x]) ++ r by simp]; exact Nat.le_trans (by rw [dO, ByteArray.size_append]; omega) (ih (l ++ [x]))
theorem Um (l : List ByteArray) (j : Nat) : (Lf (l.take j)).size ≤ (Lf l).size := by
 have := catB_le (l.take j) (l.drop j)
 rwa [List.take_append_drop] at this
def Ig (d : Nat) (n : Nd) : ByteArray := Kl n ++ R4 n ++ ⟨#[108, 101, 116, 10]⟩ ++ Lf (n.eqs.map (eqL d)) ++ ⟨#[116, 101, 108, 10]⟩
def Va (d : Nat) (l : List Nd) : ByteArray := Lf (l.map (Ig d))
def RdQ (w : World) (B d : Nat) (v : Value) (qs : List PQ) : Prop :=
 ∃ p c, v = .slice p qs.length c ∧ (qs = [] ∨ ∃ g o, p = some ⟨g, o, none⟩ ∧ g < B ∧
  ∀ i (h : i < qs.length), ∃ pL cL k a n nm off sp sl sc, w.cell? ⟨g, o + i * 8, none⟩ = some (.slice pL qs[i].left.length cL) ∧ w.cell? ⟨g, o + i * 8 + 1, none⟩ = some (.bool qs[i].async) ∧
   w.cell? ⟨g, o + i * 8 + 2, none⟩ = some (.int .i64 k) ∧ w.cell? ⟨g, o + i * 8 + 3, none⟩ = some (.int .i64 a) ∧ w.cell? ⟨g, o + i * 8 + 4, none⟩ = some (.int .i64 n) ∧ w.cell? ⟨g, o + i * 8 + 5, none⟩ = some (.string nm) ∧ w.cell? ⟨g, o + i * 8 + 6, none⟩ = some (.bool off) ∧ w.cell? ⟨g, o + i * 8 + 7, none⟩ = some (.slice sp sl sc) ∧
   RdE w (.agg #[.slice pL qs[i].left.length cL, .bool qs[i].async, .int .i64 k, .int .i64 a, .int .i64 n, .string nm, .bool off, .slice sp sl sc]) qs[i])
def RdN (w : World) (B d : Nat) (v : Value) (ns : List Nd) : Prop :=
 ∃ p c, v = .slice p ns.length c ∧ (ns = [] ∨ ∃ g o, p = some ⟨g, o, none⟩ ∧ g < B ∧
  ∀ i (h : i < ns.length), ∃ v2 v3 v4 v5, Six w g (o + i * 6) (.string ns[i].nm) (.int .i64 ns[i].pos) v2 v3 v4 v5 ∧ RdD w B v2 ns[i].ins ∧ RdD w B v3 ns[i].outs ∧ RdD w B v4 ns[i].vars ∧ RdQ w B d v5 ns[i].eqs)
def FineN (d : Nat) (n : Nd) : Prop := (n.ins.length ≤ 1000 ∧ ∀ x ∈ n.ins, Ps x) ∧ (n.outs.length ≤ 1000 ∧ ∀ x ∈ n.outs, Ps x) ∧ (n.vars.length ≤ 1000 ∧ ∀ x ∈ n.vars, Ps x) ∧ n.eqs.length ≤ 1000 ∧ ∀ q ∈ n.eqs, FitQ q
theorem cK {w w' : World} {B b : Nat} {bs : List Value} (h : Lib.IsBuilder 108 5 B b bs w) (hb : Below w.heap.size w w') : Lib.IsBuilder 108 5 B b bs w' := by
 rcases h with ⟨h1, v, h2, h3, h4⟩ | ⟨h1, v, h2, h3, h4⟩
 ·exact Or.inl ⟨h1, v, (hb.block b (Array.getElem?_eq_some_iff.1 h2).1).trans h2, Rq h3 hb, h4⟩
 ·exact Or.inr ⟨h1, v, (hb.block b (Array.getElem?_eq_some_iff.1 h2).1).trans h2, Rq h3 hb, h4⟩
theorem eO (a b : ByteArray) : Lib.strCells a ++ Lib.strCells b = Lib.strCells (a ++ b) := by unfold Lib.strCells; simp
def V3 (w : World) (nb : Nat) (cs : Array Value) (acc : ByteArray) (wx : World) : Prop :=
 Below w.heap.size w wx ∧ Blk wx nb 49 cs ∧ Lib.IsBuilder 108 5 w.heap.size w.heap.size (Lib.strCells acc) wx
theorem V3.write {w wx : World} {nb : Nat} {cs : Array Value} {acc s : ByteArray} (h : V3 w nb cs acc wx) (hn : nb ≠ w.heap.size) (hz : acc.size + s.size ≤ 140737488355328) :
  Calls Tryz.prog 59 #[.pointer (some ⟨w.heap.size, 0, none⟩), .string s] wx fun e w' => e = .returned (.tuple #[.int .i64 s.size, .nilIface]) ∧ V3 w nb cs (acc ++ s) w' ∧ ∀ k T cs, k ≠ w.heap.size → T ≠ 5 → Blk wx k T cs → Blk w' k T cs := by
 refine (sW w.heap.size w.heap.size (Lib.strCells acc) s wx h.2.2 (by rw [Lib.strCells_length]; exact hz) h.1.size).mono ?_
 rintro e w' ⟨rfl, h1, h2, h3⟩
 exact ⟨rfl, ⟨h.1.trans h2, h3 _ _ _ hn (by decide) h.2.1, Or.inr (eO acc s ▸ h1)⟩, h3⟩
theorem V3.below {w wx w' : World} {nb : Nat} {cs : Array Value} {acc : ByteArray} (h : V3 w nb cs acc wx) (hb : Below wx.heap.size wx w') : V3 w nb cs acc w' :=
 ⟨h.1.trans (hb.mono h.1.size), h.2.1.below hb, cK h.2.2 hb⟩
theorem V3.drew {w wx : World} {nb : Nat} {cs : Array Value} {acc : ByteArray} (h : V3 w nb cs acc wx) : V3 w nb cs acc wx.drew := h.below ((Below.refl _ _).drew)
set_option maxHeartbeats 8000000 in
set_option maxRecDepth 100000 in
theorem tZ (v : Value) (ns : List Nd) (w : World) (B d : Nat) (hd : d ≤ 6) (hB : B ≤ w.heap.size) (hp : GR (GhW w) w gF) (hv : RdN w B d v ns) (hf : ∀ x ∈ ns, FineN d x) (hl : ns.length ≤ 1000) (hz : (Va d ns).size ≤ 100000000000000) :
  Calls Tryz.prog 20 #[v] w fun e w' => e = .returned (.string (Va d ns)) ∧ Below w.heap.size w w' := by
 obtain ⟨p, c, rfl, hor⟩ := hv
 have HOR := Lib.hid hor; have HF := Lib.hid hf; have HP := Lib.hid hp; have HZ := Lib.hid hz
 clear hor hf hp hz
 obtain ⟨n, hn⟩ : ∃ n, ns.length = n := ⟨_, rfl⟩
 have HN := Lib.hid hn
 rw [hn] at hl ⊢
 clear hn
 go_enter Tryz.func20, Tryz.ntmps20
 go_wp2_with fail
 generalize hW : w.alloc _ = W0
 have HB0 := Lib.hid (show Below w.heap.size w W0 by rw [← hW]; exact (Below.refl _ _).alloc (Nat.le_refl _) _)
 have HI0 := Lib.hid (show Lib.IsBuilder 108 5 w.heap.size w.heap.size (Lib.strCells (Lf ((ns.map (Ig d)).take 0))) W0 by rw [← hW]; exact Lib.fresh_isBuilder 108 5 w)
 clear hW
 go_loopw [10] (fun t wr => ∃ j : Nat, t = .int .i64 j ∧ j ≤ n ∧ Below w.heap.size w wr ∧ Lib.IsBuilder 108 5 w.heap.size w.heap.size (Lib.strCells (Lf ((ns.map (Ig d)).take j))) wr) (fun t _ => n - (intOf t).toNat)
 case atStart => exact ⟨0, rfl, Nat.zero_le _, HB0.out, HI0.out⟩
 case round =>
  obtain ⟨j, rfl, hj, hbr, hib⟩ := hrel
  have HBR := Lib.hid hbr; have HIB := Lib.hid hib; clear hbr hib
  by_cases hl1 : j < n
  ·have hlt : j < ns.length := HN.out ▸ hl1
   obtain ⟨g, o, rfl, hg, h6⟩ : ∃ g o, p = some ⟨g, o, none⟩ ∧ g < B ∧ ∀ i (h : i < ns.length), ∃ v2 v3 v4 v5, Six w g (o + i * 6) (.string ns[i].nm) (.int .i64 ns[i].pos) v2 v3 v4 v5 ∧ RdD w B v2 ns[i].ins ∧ RdD w B v3 ns[i].outs ∧ RdD w B v4 ns[i].vars ∧ RdQ w B d v5 ns[i].eqs := by
    rcases HOR.out with h0 | h
    ·subst h0; cases hlt
    ·exact h
   obtain ⟨v2, v3, v4, v5, h6j, hr2, hr3, hr4, hr5⟩ := h6 j hlt
   have HFJ := Lib.hid (HF.out _ (List.getElem_mem hlt))
   have htj : (ns.map (Ig d))[j]? = some (Ig d ns[j]) := by rw [List.getElem?_map, List.getElem?_eq_getElem hlt]; rfl
   have HTK := Lib.hid (dN htj)
   have HZ1 := Lib.hid (show (Lf ((ns.map (Ig d)).take (j + 1))).size ≤ 100000000000000 from Nat.le_trans (Um _ _) HZ.out)
   obtain ⟨N, hN⟩ : ∃ N, ns[j] = N := ⟨_, rfl⟩
   rw [hN] at h6j hr2 hr3 hr4 hr5 HFJ HTK
   generalize Lf ((ns.map (Ig d)).take j) = A at *
   rw [HTK.out] at HZ1
   have hHT : Kl N = Kl N := rfl
   obtain ⟨e0, e1, e2, e3, e4, e5⟩ := tG (h6j.below HBR.out (Nat.lt_of_lt_of_le hg hB))
   clear h6 h6j hN hlt hg htj hHT
   obtain ⟨p2, c2, rfl, hq2⟩ := hr2
   obtain ⟨p3, c3, rfl, hq3⟩ := hr3
   obtain ⟨p4, c4, rfl, hq4⟩ := hr4
   obtain ⟨p5, c5, rfl, hq5⟩ := hr5
   have H2 := Lib.hid (show RdD w B (.slice p2 N.ins.length c2) N.ins from ⟨p2, c2, rfl, hq2⟩)
   have H3 := Lib.hid (show RdD w B (.slice p3 N.outs.length c3) N.outs from ⟨p3, c3, rfl, hq3⟩)
   have H4 := Lib.hid (show RdD w B (.slice p4 N.vars.length c4) N.vars from ⟨p4, c4, rfl, hq4⟩)
   have H5 := Lib.hid hq5
   clear hq2 hq3 hq4 hq5
   obtain ⟨n2, hn2⟩ : ∃ x, N.ins.length = x := ⟨_, rfl⟩
   obtain ⟨n3, hn3⟩ : ∃ x, N.outs.length = x := ⟨_, rfl⟩
   obtain ⟨n4, hn4⟩ : ∃ x, N.vars.length = x := ⟨_, rfl⟩
   obtain ⟨n5, hn5⟩ : ∃ x, N.eqs.length = x := ⟨_, rfl⟩
   rw [hn2] at H2 e2; rw [hn3] at H3 e3; rw [hn4] at H4 e4; rw [hn5] at e5
   have HN4 := Lib.hid hn4; have HN5 := Lib.hid hn5
   clear hn2 hn3 hn4 hn5
   obtain ⟨nm, hnm⟩ : ∃ x, N.nm = x := ⟨_, rfl⟩
   obtain ⟨pos, hpos⟩ : ∃ x, N.pos = x := ⟨_, rfl⟩
   rw [hnm] at e0; rw [hpos] at e1
   have HNM := Lib.hid hnm
   clear hnm hpos
   go_upto_region 5 with fail
   generalize hV : wr.alloc _ = V1
   have HS0 := Lib.hid (show V3 w wr.heap.size #[.string nm, .int .i64 pos, .slice p2 n2 c2, .slice p3 n3 c3, .slice p4 n4 c4, .slice p5 n5 c5] A V1 by rw [← hV]; exact ⟨HBR.out.alloc HBR.out.size _, Blk.new _ _ _, cK HIB.out ((Below.refl _ _).alloc (Nat.le_refl _) _)⟩)
   have HNB := Lib.hid (show wr.heap.size ≠ w.heap.size from by
    have h1 : w.heap.size < wr.heap.size := by
     rcases HIB.out with ⟨_, v, h2, _⟩ | ⟨_, v, h2, _⟩ <;> exact (Array.getElem?_eq_some_iff.1 h2).1
    omega)
   clear hV e0 e1 e2 e3 e4 e5
   obtain ⟨nb, hnb⟩ : ∃ nb, wr.heap.size = nb := ⟨_, rfl⟩
   rw [hnb] at HS0 HNB ⊢
   clear hnb
   go_cut [] (fun wx => V3 w nb #[.string nm, .int .i64 pos, .slice p2 n2 c2, .slice p3 n3 c3, .slice p4 n4 c4, .slice p5 n5 c5] (A ++ Kl N) wx)
   case first =>
    have hzs : A.size + (Ig d N).size ≤ 100000000000000 := by have := HZ1.out; rwa [ByteArray.size_append] at this
    have hzh : (Kl N).size ≤ (Ig d N).size := by unfold Ig; simp only [ByteArray.size_append]; omega
    have hzp : 5 + nm.size + 1 + (dS N.ins ⟨#[44, 32]⟩).size + 11 + (dS N.outs ⟨#[44, 32]⟩).size + 2 ≤ (Kl N).size := by
     rw [← HNM.out]; unfold Kl; simp only [ByteArray.size_append]; exact Nat.le_refl _
    obtain ⟨J2, hJ2⟩ : ∃ x, dS N.ins ⟨#[44, 32]⟩ = x := ⟨_, rfl⟩
    obtain ⟨J3, hJ3⟩ : ∃ x, dS N.outs ⟨#[44, 32]⟩ = x := ⟨_, rfl⟩
    have HJ2 := Lib.hid hJ2; have HJ3 := Lib.hid hJ3
    rw [hJ2, hJ3] at hzp
    clear hJ2 hJ3
    have g1 : ¬ 9223372036854775807 < 5 + nm.size := by omega
    have g2 : ¬ 9223372036854775807 < 5 + nm.size + 1 := by omega
    have g3 : ¬ 9223372036854775807 < 5 + nm.size + 1 + J2.size := by omega
    have g4 : ¬ 9223372036854775807 < 5 + nm.size + 1 + J2.size + 11 := by omega
    have g5 : ¬ 9223372036854775807 < 5 + nm.size + 1 + J2.size + 11 + J3.size := by omega
    have g6 : ¬ 9223372036854775807 < 5 + nm.size + 1 + J2.size + 11 + J3.size + 2 := by omega
    have yx := fun w' (h : Below w.heap.size w w' ∧ Blk w' nb 49 #[.string nm, .int .i64 pos, .slice p2 n2 c2, .slice p3 n3 c3, .slice p4 n4 c4, .slice p5 n5 c5]) => h.2.six
    have hS0 : Below w.heap.size w V1 ∧ Blk V1 nb 49 #[.string nm, .int .i64 pos, .slice p2 n2 c2, .slice p3 n3 c3, .slice p4 n4 c4, .slice p5 n5 c5] := ⟨HS0.out.1, HS0.out.2.1⟩
    refine wp_region_held_drew (S := fun w' => Below w.heap.size w w' ∧ Blk w' nb 49 #[.string nm, .int .i64 pos, .slice p2 n2 c2, .slice p3 n3 c3, .slice p4 n4 c4, .slice p5 n5 c5]) (by kernel_rfl) ⟨HS0.out.drew.1, HS0.out.drew.2.1⟩ (fun hS1 => ?_)
    refine wpAnyH_take (i := 0) (v := ?nv0) rfl (by kernel_rfl) (by kernel_rfl) (by kernel_rfl) (fun _ _ _ h => h) (Or.inl ⟨by rfl, ?ny0⟩) hS1 ?nr0
    case ny0 => (intro w hSw; (try dsimp only at hSw); go_simp; (try with_reducible rfl))
    try simp only [Act.put,List.getElem_toArray,List.getElem_cons_succ,List.getElem_cons_zero,List.setIfInBounds_toArray,List.set_cons_zero,List.set_cons_succ]
    refine wpAnyH_take (i := 1) (v := ?nv1) rfl (by kernel_rfl) (by kernel_rfl) (by kernel_rfl) (fun _ _ _ h => h) (Or.inl ⟨by rfl, ?ny1⟩) hS1 ?nr1
    case ny1 => (intro w hSw; (try dsimp only at hSw); go_simp; (try with_reducible rfl))
    try simp only [Act.put,List.getElem_toArray,List.getElem_cons_succ,List.getElem_cons_zero,List.setIfInBounds_toArray,List.set_cons_zero,List.set_cons_succ]
    refine wpAnyH_take (i := 2) (v := ?nv2) rfl (by kernel_rfl) (by kernel_rfl) (by kernel_rfl) (fun _ _ _ h => h) (Or.inl ⟨by rfl, ?ny2⟩) hS1 ?nr2
    case ny2 => (intro w hSw; (try dsimp only at hSw); go_simp; (try with_reducible rfl))
    try simp only [Act.put,List.getElem_toArray,List.getElem_cons_succ,List.getElem_cons_zero,List.setIfInBounds_toArray,List.set_cons_zero,List.set_cons_succ]
    refine wpAnyH_take (i := 3) (v := ?nv3) rfl (by kernel_rfl) (by kernel_rfl) (by kernel_rfl) (fun _ _ _ h => h) (Or.inl ⟨by rfl, ?ny3⟩) hS1 ?nr3
    case ny3 => (intro w hSw; (try dsimp only at hSw); go_simp; (try with_reducible rfl))
    try simp only [Act.put,List.getElem_toArray,List.getElem_cons_succ,List.getElem_cons_zero,List.setIfInBounds_toArray,List.set_cons_zero,List.set_cons_succ]
    refine wpAnyH_take (i := 4) (v := ?nv4) rfl (by kernel_rfl) (by kernel_rfl) (by kernel_rfl) (fun _ _ _ h => h) (Or.inl ⟨by rfl, ?ny4⟩) hS1 ?nr4
    case ny4 => (intro w hSw; (try dsimp only at hSw); go_simp; (try with_reducible rfl))
    try simp only [Act.put,List.getElem_toArray,List.getElem_cons_succ,List.getElem_cons_zero,List.setIfInBounds_toArray,List.set_cons_zero,List.set_cons_succ]
    refine wpAnyH_take (i := 5) (v := ?nv5) rfl (by kernel_rfl) (by kernel_rfl) (by kernel_rfl) (fun _ _ _ h => h) (Or.inl ⟨by rfl, ?ny5⟩) hS1 ?nr5
    case ny5 => (intro w hSw; (try dsimp only at hSw); go_simp; (try with_reducible rfl))
    try simp only [Act.put,List.getElem_toArray,List.getElem_cons_succ,List.getElem_cons_zero,List.setIfInBounds_toArray,List.set_cons_zero,List.set_cons_succ]
    refine wpAnyH_take (i := 9) (v := ?nv9) rfl (by kernel_rfl) (by kernel_rfl) (by kernel_rfl) (fun _ _ _ h => h) (Or.inl ⟨by rfl, ?ny9⟩) hS1 ?nr9
    case ny9 => (intro w hSw; (try dsimp only at hSw); go_simp; (try with_reducible rfl))
    try simp only [Act.put,List.getElem_toArray,List.getElem_cons_succ,List.getElem_cons_zero,List.setIfInBounds_toArray,List.set_cons_zero,List.set_cons_succ]
    refine wpAnyH_take (i := 10) (v := ?nv10) rfl (by kernel_rfl) (by kernel_rfl) (by kernel_rfl) (fun _ _ _ h => h) (Or.inl ⟨by rfl, ?ny10⟩) hS1 ?nr10
    case ny10 => (intro w hSw; (try dsimp only at hSw); go_simp; (try with_reducible rfl))
    try simp only [Act.put,List.getElem_toArray,List.getElem_cons_succ,List.getElem_cons_zero,List.setIfInBounds_toArray,List.set_cons_zero,List.set_cons_succ]
    refine wpAnyH_ready (rs := [6]) (by kernel_rfl) (by simp) ?_
    refine AllReadyH.cons rfl (fun K hK => ?_) AllReadyH.nil
    go_simp
    refine (N4 _ N.ins _ V1.drew B (Nat.le_trans hB HS0.out.drew.1.size) (T5 HP.out HS0.out.drew.1) (H2.out.below HS0.out.drew.1) HFJ.out.1.1 HFJ.out.1.2 (by decide)).mono ?_
    rintro e w2 ⟨rfl, hb2⟩
    have HS2 := Lib.hid (HS0.out.drew.below hb2)
    rw [HJ2.out]
    refine hK.out _ _ ⟨HS2.out.1, HS2.out.2.1⟩ (fun _ => ?_)
    have hS2 : Below w.heap.size w w2 ∧ Blk w2 nb 49 #[.string nm, .int .i64 pos, .slice p2 n2 c2, .slice p3 n3 c3, .slice p4 n4 c4, .slice p5 n5 c5] := ⟨HS2.out.1, HS2.out.2.1⟩
    clear hK K hb2
    try simp only [Act.put,List.getElem_toArray,List.getElem_cons_succ,List.getElem_cons_zero,List.setIfInBounds_toArray,List.set_cons_zero,List.set_cons_succ]
    refine wpAnyH_take (i := 7) (v := ?nv7) rfl (by kernel_rfl) (by kernel_rfl) (by kernel_rfl) (fun _ _ _ h => h) (Or.inl ⟨by rfl, ?ny7⟩) hS2 ?nr7
    case ny7 => (intro w hSw; (try dsimp only at hSw); go_simp; (try with_reducible rfl))
    try simp only [Act.put,List.getElem_toArray,List.getElem_cons_succ,List.getElem_cons_zero,List.setIfInBounds_toArray,List.set_cons_zero,List.set_cons_succ]
    refine wpAnyH_take (i := 8) (v := ?nv8) rfl (by kernel_rfl) (by kernel_rfl) (by kernel_rfl) (fun _ _ _ h => h) (Or.inl ⟨by rfl, ?ny8⟩) hS2 ?nr8
    case ny8 => (intro w hSw; (try dsimp only at hSw); go_simp; (try with_reducible rfl))
    try simp only [Act.put,List.getElem_toArray,List.getElem_cons_succ,List.getElem_cons_zero,List.setIfInBounds_toArray,List.set_cons_zero,List.set_cons_succ]
    refine wpAnyH_ready (rs := [11]) (by kernel_rfl) (by simp) ?_
    refine AllReadyH.cons rfl (fun K hK => ?_) AllReadyH.nil
    go_simp
    refine (N4 _ N.outs _ w2 B (Nat.le_trans hB HS2.out.1.size) (T5 HP.out HS2.out.1) (H3.out.below HS2.out.1) HFJ.out.2.1.1 HFJ.out.2.1.2 (by decide)).mono ?_
    rintro e w3 ⟨rfl, hb3⟩
    have HS3 := Lib.hid (HS2.out.below hb3)
    rw [HJ3.out]
    refine hK.out _ _ ⟨HS3.out.1, HS3.out.2.1⟩ (fun _ => ?_)
    have hS3 : Below w.heap.size w w3 ∧ Blk w3 nb 49 #[.string nm, .int .i64 pos, .slice p2 n2 c2, .slice p3 n3 c3, .slice p4 n4 c4, .slice p5 n5 c5] := ⟨HS3.out.1, HS3.out.2.1⟩
    clear hK K hb3
    try simp only [Act.put,List.getElem_toArray,List.getElem_cons_succ,List.getElem_cons_zero,List.setIfInBounds_toArray,List.set_cons_zero,List.set_cons_succ]
    refine wpAnyH_take (i := 12) (v := ?nv12) rfl (by kernel_rfl) (by kernel_rfl) (by kernel_rfl) (fun _ _ _ h => h) (Or.inl ⟨by rfl, ?ny12⟩) hS3 ?nr12
    case ny12 => (intro w hSw; (try dsimp only at hSw); go_simp; (try with_reducible rfl))
    try simp only [Act.put,List.getElem_toArray,List.getElem_cons_succ,List.getElem_cons_zero,List.setIfInBounds_toArray,List.set_cons_zero,List.set_cons_succ]
    refine wpAnyH_take (i := 13) (v := ?nv13) rfl (by kernel_rfl) (by kernel_rfl) (by kernel_rfl) (fun _ _ _ h => h) (Or.inl ⟨by rfl, ?ny13⟩) hS3 ?nr13
    case ny13 => (intro w hSw; (try dsimp only at hSw); go_simp; (try with_reducible rfl))
    try simp only [Act.put,List.getElem_toArray,List.getElem_cons_succ,List.getElem_cons_zero,List.setIfInBounds_toArray,List.set_cons_zero,List.set_cons_succ]
    have HEQ := Lib.hid (show (⟨#[110, 111, 100, 101, 32]⟩ ++ nm ++ ⟨#[40]⟩ ++ J2 ++ ⟨#[41, 32, 114, 101, 116, 117, 114, 110, 115, 32, 40]⟩ ++ J3 ++ ⟨#[41, 10]⟩ : ByteArray) = Kl N by unfold Kl; rw [HNM.out, HJ2.out, HJ3.out])
    refine wpAnyH_ready (rs := [14]) (by kernel_rfl) (by simp) ?_
    refine AllReadyH.cons rfl (fun K hK => ?_) AllReadyH.nil
    go_simp
    rw [HEQ.out]
    refine (HS3.out.write HNB.out (by omega)).mono ?_
    rintro e w4 ⟨rfl, hst, hkp⟩
    refine hK.out _ _ ⟨hst.1, hst.2.1⟩ (fun _ => ?_)
    clear hK K hkp
    try simp only [Act.put,List.getElem_toArray,List.getElem_cons_succ,List.getElem_cons_zero,List.setIfInBounds_toArray,List.set_cons_zero,List.set_cons_succ]
    refine wpAnyH_done (by kernel_rfl) ?_ _
    go_wp2_with fail
    go_meet
    exact hst
   case rest =>
    have HS5 := Lib.hid hcut
    clear HS0 hcut
    obtain ⟨v0, v1, v2, v3, v4, v5⟩ := HS5.out.2.1.six
    have hzs : A.size + (Ig d N).size ≤ 100000000000000 := by have := HZ1.out; rwa [ByteArray.size_append] at this
    have hzn : (Kl N).size + (R4 N).size + 4 + (Lf (N.eqs.map (eqL d))).size + 4 = (Ig d N).size := by unfold Ig; simp only [ByteArray.size_append]; rfl
    have HZS := Lib.hid hzs; have HZN := Lib.hid hzn
    clear hzs hzn
    go_upto_if 32 with fail
    go_cut [] (fun wx => V3 w nb #[.string nm, .int .i64 pos, .slice p2 n2 c2, .slice p3 n3 c3, .slice p4 n4 c4, .slice p5 n5 c5] (A ++ Kl N ++ R4 N) wx)
    case first =>
     by_cases h4 : 0 < n4
     ·have hd4 : decide (0 < n4) = true := by simpa using h4
      have hv4 : R4 N = ⟨#[118, 97, 114, 32]⟩ ++ dS N.vars ⟨#[59, 32]⟩ ++ ⟨#[59, 10]⟩ := by unfold R4; rw [if_pos (HN4.out ▸ h4)]
      obtain ⟨J4, hJ4⟩ : ∃ x, dS N.vars ⟨#[59, 32]⟩ = x := ⟨_, rfl⟩
      have hzv : 4 + J4.size + 2 = (R4 N).size := by rw [hv4, hJ4]; simp only [ByteArray.size_append]; rfl
      have HJ4 := Lib.hid hJ4; have HV4 := Lib.hid (hJ4 ▸ hv4)
      have g1 : ¬ 9223372036854775807 < 4 + J4.size := by have := HZS.out; have := HZN.out; omega
      have g2 : ¬ 9223372036854775807 < 4 + J4.size + 2 := by have := HZS.out; have := HZN.out; omega
      clear hJ4 hv4
      go_wp2_with fail
      refine (N4 _ N.vars ⟨#[59, 32]⟩ _ B (Nat.le_trans hB HS5.out.1.size) (T5 HP.out HS5.out.1) (H4.out.below HS5.out.1) HFJ.out.2.2.1.1 HFJ.out.2.2.1.2 (by decide)).mono ?_
      rintro e w2 ⟨rfl, hb2⟩
      have HS2 := Lib.hid (HS5.out.below hb2)
      rw [HJ4.out]
      clear hb2
      go_wp2_with fail
      have hst := HS2.out.write (s := R4 N) HNB.out (by have := HZS.out; have := HZN.out; simp only [ByteArray.size_append]; omega)
      rw [HV4.out] at hst
      refine hst.mono ?_
      rintro e w4 ⟨rfl, hst, hkp⟩
      rw [← HV4.out] at hst
      have HS6 := Lib.hid hst
      clear hst hkp
      go_wp2_with fail
      go_meet
      exact HS6.out
     ·have hd4 : decide (0 < n4) = false := by simpa using h4
      have hv4 : R4 N = ⟨#[]⟩ := by unfold R4; rw [if_neg (HN4.out ▸ h4)]
      have HV4 := Lib.hid hv4
      clear hv4
      go_wp2_with fail
      go_meet
      rw [HV4.out]
      have e : A ++ Kl N ++ ⟨#[]⟩ = A ++ Kl N := by apply ByteArray.ext; simp
      rw [e]
      exact HS5.out
    case rest =>
     have HS6 := Lib.hid hcut
     clear HS5 hcut v0 v1 v2 v3 v4 v5
     go_wp2_with fail
     refine (HS6.out.write (s := ⟨#[108, 101, 116, 10]⟩) HNB.out (by have := HZS.out; have := HZN.out; have : (⟨#[108, 101, 116, 10]⟩ : ByteArray).size = 4 := rfl; simp only [ByteArray.size_append]; omega)).mono ?_
     rintro e w4 ⟨rfl, hst, hkp⟩
     have HS7 := Lib.hid hst
     clear hst hkp
     obtain ⟨v0, v1, v2, v3, v4, v5⟩ := HS7.out.2.1.six
     obtain ⟨A2, hA2⟩ : ∃ x, A ++ Kl N ++ R4 N ++ ⟨#[108, 101, 116, 10]⟩ = x := ⟨_, rfl⟩
     have HA2 := Lib.hid hA2
     have hz2 : A2.size + (Lf (N.eqs.map (eqL d))).size + 4 ≤ 100000000000000 := by
      have := HZS.out; have := HZN.out; have : (⟨#[108, 101, 116, 10]⟩ : ByteArray).size = 4 := rfl
      rw [← hA2]; simp only [ByteArray.size_append]; omega
     rw [hA2] at HS7
     have HZ2 := Lib.hid hz2
     clear hA2 hz2
     have hn5 : n5 ≤ 1000 := HN5.out ▸ HFJ.out.2.2.2.1
     go_wp2_with fail
     go_loopw [43] (fun t wr => ∃ i : Nat, t = .int .i64 i ∧ i ≤ n5 ∧ V3 w nb #[.string nm, .int .i64 pos, .slice p2 n2 c2, .slice p3 n3 c3, .slice p4 n4 c4, .slice p5 n5 c5] (A2 ++ Lf ((N.eqs.map (eqL d)).take i)) wr) (fun t _ => n5 - (intOf t).toNat)
     case atStart => exact ⟨0, rfl, Nat.zero_le _, by
      have e : A2 ++ Lf ((N.eqs.map (eqL d)).take 0) = A2 := by apply ByteArray.ext; simp [Lf]
      rw [e]; exact HS7.out⟩
     case round =>
      obtain ⟨i, rfl, hi, hst⟩ := hrel
      have HS8 := Lib.hid hst
      clear hst v0 v1 v2 v3 v4 v5 HS7 HS6
      by_cases hl2 : i < n5
      ·have hlt2 : i < N.eqs.length := HN5.out ▸ hl2
       obtain ⟨g5, o5, rfl, hg5, hq⟩ : ∃ g o, p5 = some ⟨g, o, none⟩ ∧ g < B ∧ ∀ i (h : i < N.eqs.length), ∃ pL cL k a n nm off sp sl sc, w.cell? ⟨g, o + i * 8, none⟩ = some (.slice pL N.eqs[i].left.length cL) ∧ w.cell? ⟨g, o + i * 8 + 1, none⟩ = some (.bool N.eqs[i].async) ∧
         w.cell? ⟨g, o + i * 8 + 2, none⟩ = some (.int .i64 k) ∧ w.cell? ⟨g, o + i * 8 + 3, none⟩ = some (.int .i64 a) ∧ w.cell? ⟨g, o + i * 8 + 4, none⟩ = some (.int .i64 n) ∧ w.cell? ⟨g, o + i * 8 + 5, none⟩ = some (.string nm) ∧ w.cell? ⟨g, o + i * 8 + 6, none⟩ = some (.bool off) ∧ w.cell? ⟨g, o + i * 8 + 7, none⟩ = some (.slice sp sl sc) ∧
         RdE w (.agg #[.slice pL N.eqs[i].left.length cL, .bool N.eqs[i].async, .int .i64 k, .int .i64 a, .int .i64 n, .string nm, .bool off, .slice sp sl sc]) N.eqs[i] := by
        rcases H5.out with h0 | h
        ·rw [h0] at hlt2; cases hlt2
        ·exact h
       obtain ⟨pL, cL, k, a, m, nme, off, sp, sl, sc, q0, q1, q2, q3, q4, q5, q6, q7, hE⟩ := hq i hlt2
       have HFQ := Lib.hid (HFJ.out.2.2.2.2 _ (List.getElem_mem hlt2))
       have hti : (N.eqs.map (eqL d))[i]? = some (eqL d N.eqs[i]) := by rw [List.getElem?_map, List.getElem?_eq_getElem hlt2]; rfl
       have HTI := Lib.hid (dN hti)
       have hzi : (Lf ((N.eqs.map (eqL d)).take (i + 1))).size ≤ (Lf (N.eqs.map (eqL d))).size := Um _ _
       rw [HTI.out, ByteArray.size_append] at hzi
       obtain ⟨Q, hQ⟩ : ∃ Q, N.eqs[i] = Q := ⟨_, rfl⟩
       rw [hQ] at q0 q1 hE HFQ HTI hzi
       generalize Lf ((N.eqs.map (eqL d)).take i) = A3 at *
       have hb8 := HS8.out.1
       have hlw : g5 < w.heap.size := Nat.lt_of_lt_of_le hg5 hB
       have c0 := (hb8.cell (p := ⟨g5, o5 + i * 8, none⟩) hlw).trans q0
       have c1 := (hb8.cell (p := ⟨g5, o5 + i * 8 + 1, none⟩) hlw).trans q1
       have c2' := (hb8.cell (p := ⟨g5, o5 + i * 8 + 2, none⟩) hlw).trans q2
       have c3' := (hb8.cell (p := ⟨g5, o5 + i * 8 + 3, none⟩) hlw).trans q3
       have c4' := (hb8.cell (p := ⟨g5, o5 + i * 8 + 4, none⟩) hlw).trans q4
       have c5' := (hb8.cell (p := ⟨g5, o5 + i * 8 + 5, none⟩) hlw).trans q5
       have c6 := (hb8.cell (p := ⟨g5, o5 + i * 8 + 6, none⟩) hlw).trans q6
       have c7 := (hb8.cell (p := ⟨g5, o5 + i * 8 + 7, none⟩) hlw).trans q7
       have HE := Lib.hid hE
       obtain ⟨eT, heT⟩ : ∃ x, eqTB d Q = x := ⟨_, rfl⟩
       have hze : 2 + eT.size + 2 = (eqL d Q).size := by unfold eqL; rw [heT]; simp only [ByteArray.size_append]; rfl
       have HEL := Lib.hid (show ⟨#[32, 32]⟩ ++ eT ++ ⟨#[59, 10]⟩ = eqL d Q by unfold eqL; rw [heT])
       have HET := Lib.hid heT
       have f1 : ¬ 9223372036854775807 < 2 + eT.size := by have := HZ2.out; omega
       have f2 : ¬ 9223372036854775807 < 2 + eT.size + 2 := by have := HZ2.out; omega
       have HZI := Lib.hid hzi
       clear q0 q1 q2 q3 q4 q5 q6 q7 hq hQ hE hti hb8 heT hze hzi hlt2 hlw
       go_upto_region 12 with fail
       generalize hX : wr.alloc _ = X1
       have HB9 := Lib.hid (show Below wr.heap.size wr X1 by rw [← hX]; exact (Below.refl _ _).alloc (Nat.le_refl _) _)
       have HX1 := Lib.hid (show Blk X1 wr.heap.size 57 #[.slice pL Q.left.length cL, .bool Q.async, .int .i64 k, .int .i64 a, .int .i64 m, .string nme, .bool off, .slice sp sl sc] by rw [← hX]; exact Blk.new _ _ _)
       clear hX c0 c1 c2' c3' c4' c5' c6 c7
       have HS9 := Lib.hid (HS8.out.below HB9.out)
       have x0 := HX1.out.cell (o := 0) (v := .slice pL Q.left.length cL) rfl
       have x1 := HX1.out.cell (o := 1) (v := .bool Q.async) rfl
       have x2 := HX1.out.cell (o := 2) (v := .int .i64 k) rfl
       have x3 := HX1.out.cell (o := 3) (v := .int .i64 a) rfl
       have x4 := HX1.out.cell (o := 4) (v := .int .i64 m) rfl
       have x5 := HX1.out.cell (o := 5) (v := .string nme) rfl
       have x6 := HX1.out.cell (o := 6) (v := .bool off) rfl
       have x7 := HX1.out.cell (o := 7) (v := .slice sp sl sc) rfl
       go_wp2_with fail
       refine (oL _ Q _ (T5 HP.out HS9.out.1) (HE.out.below HS9.out.1) HFQ.out d).mono ?_
       rintro e w10 ⟨rfl, hb10⟩
       have HS10 := Lib.hid (HS9.out.below hb10)
       rw [HET.out]
       clear hb10
       go_wp2_with fail
       have hst := HS10.out.write (s := eqL d Q) HNB.out (by have := HZ2.out; have := HZI.out; simp only [ByteArray.size_append]; omega)
       rw [← HEL.out] at hst
       refine hst.mono ?_
       rintro e w11 ⟨rfl, hst, hkp⟩
       rw [HEL.out] at hst
       have HS11 := Lib.hid hst
       clear hst hkp
       go_wp2_with fail
       go_roundw
       case rel => exact ⟨i + 1, by go_num, by omega, by
        have e : A2 ++ Lf ((N.eqs.map (eqL d)).take (i + 1)) = A2 ++ A3 ++ eqL d Q := by rw [HTI.out, ByteArray.append_assoc]
        rw [e]; exact HS11.out⟩
       case measure => simp [intOf]; omega
      ·have hie : i = n5 := by omega
       subst hie
       have ht : (N.eqs.map (eqL d)).take i = N.eqs.map (eqL d) := by rw [← HN5.out, ← List.length_map (f := eqL d)]; exact List.take_length
       rw [ht] at HS8
       clear ht
       go_wp2_with fail
       refine (HS8.out.write (s := ⟨#[116, 101, 108, 10]⟩) HNB.out (by have := HZ2.out; have : (⟨#[116, 101, 108, 10]⟩ : ByteArray).size = 4 := rfl; simp only [ByteArray.size_append]; omega)).mono ?_
       rintro e w9 ⟨rfl, hst, hkp⟩
       have HS9 := Lib.hid hst
       clear hst hkp
       go_wp2_with fail
       go_roundw
       case rel => exact ⟨j + 1, by go_num, by omega, HS9.out.1, by
        have e : A2 ++ Lf (N.eqs.map (eqL d)) ++ ⟨#[116, 101, 108, 10]⟩ = A ++ Ig d N := by rw [← HA2.out]; unfold Ig; simp only [ByteArray.append_assoc]
        rw [HTK.out, ← e]; exact HS9.out.2.2⟩
       case measure => simp [intOf]; omega
  ·have hje : j = n := by omega
   subst hje
   have ht : (ns.map (Ig d)).take j = ns.map (Ig d) := by rw [← HN.out, ← List.length_map (f := Ig d)]; exact List.take_length
   rw [ht] at HIB
   clear ht
   go_wp2_with fail
   rw [Lib.strCells_eq] at HIB
   refine (Tryz.Builder_String_any w.heap.size w.heap.size _ _ HIB.out HBR.out.size).mono ?_
   rintro e w2 ⟨rfl, hb2⟩
   have HB2 := Lib.hid (HBR.out.trans hb2)
   clear hb2
   go_wp2_with fail
   go_ret
   exact ⟨rfl, HB2.out⟩
end Go.Ax
noncomputable section
namespace Go.Ax
open Go.RowKit Go.Proofs
set_option maxRecDepth 100000
theorem cellAt {γ : Gh} {w : World} {es : List AV} {sz b o : Nat} {c : Nat → Value} (hes : ∀ e ∈ es, e.cells.length = sz) (h : ∀ k, k < (Dt es).length → γ.im b (o + k) ∧ w.cell? ⟨b, o + k, none⟩ = some (c k))
  (hr : ∀ k (h : k < (Dt es).length), VR γ w (Dt es)[k] (c k)) {i : Nat} {x : AV} (hx : es[i]? = some x) {k : Nat} (hk : k < sz) {a : AV} (ha : x.cells[k]? = some a) : ∃ v, w.cell? ⟨b, o + i * sz + k, none⟩ = some v ∧ VR γ w a v := by
 obtain ⟨h1, h2⟩ := gH hes hx
 have hlt : i * sz + k < (Dt es).length := by omega
 have e := h2 k hk
 rw [ha, List.getElem?_eq_getElem hlt] at e
 injection e with e
 have := hr _ hlt
 rw [e] at this
 exact ⟨_, by rw [Nat.add_assoc]; exact (h _ hlt).2, this⟩
theorem wG {γ : Gh} {w : World} {l : List UInt8} {v : Value} (h : VR γ w (Cl l) v) : v = .string ⟨⟨l⟩⟩ := by cases h; rfl
theorem eH {γ : Gh} {w : World} {n : Int} {v : Value} (h : VR γ w (.v (.int .i64 n)) v) : v = .int .i64 n := by cases h; rfl
theorem pQ {γ : Gh} {w : World} {b : Bool} {v : Value} (h : VR γ w (.v (.bool b)) v) : v = .bool b := by cases h; rfl
theorem wH {γ : Gh} {w : World} {α : Type} {sz : Nat} {A : α → AV} {a : AV} {l : List α} (hr : Hn sz A a l) {v : Value} (h : VR γ w a v) : ∃ p c, v = .slice p l.length c := by
 rcases hr with ⟨rfl, rfl⟩ | ⟨tok, off, rfl⟩
 ·cases h; exact ⟨_, _, rfl⟩
 ·cases h; exact ⟨_, _, by rw [List.length_map]⟩
theorem vr_kids {γ : Gh} {w : World} {kv : AV} {kids : List PE} (hr : RepK kv kids) {v : Value} (h : VR γ w kv v) : ∃ p n c, v = .slice p n c := by
 cases hr with
 | nil => cases h; exact ⟨_, _, _, rfl⟩
 | row tok o es _ hf => cases h; exact ⟨_, _, _, rfl⟩
def Nn (n : PN) : Nd := ⟨⟨⟨n.name⟩⟩, n.pos, n.ins, n.outs, n.vars, n.eqs⟩
def Sd (l : List PN) : ByteArray := Va 0 (l.map Nn)
theorem NodeRows.at : ∀ {es : List AV} {l : List PN}, NodeRows es l → es.length = l.length ∧ ∀ i (h : i < l.length), ∃ x, es[i]? = some x ∧ Ql x l[i]
 | _, _, .nil => ⟨rfl, fun i h => absurd h (Nat.not_lt_zero i)⟩
 | _, _, .cons a q r l h h2 => ⟨by simp [h2.at.1], fun i hi => by
  cases i with
  | zero => exact ⟨a, rfl, h⟩
  | succ i => exact h2.at.2 i (by simpa using hi)⟩
theorem EqRows.at : ∀ {es : List AV} {l : List PQ}, EqRows es l → es.length = l.length ∧ ∀ i (h : i < l.length), ∃ x, es[i]? = some x ∧ W4 x l[i]
 | _, _, .nil => ⟨rfl, fun i h => absurd h (Nat.not_lt_zero i)⟩
 | _, _, .cons a q r l h h2 => ⟨by simp [h2.at.1], fun i hi => by
  cases i with
  | zero => exact ⟨a, rfl, h⟩
  | succ i => exact h2.at.2 i (by simpa using hi)⟩
theorem vr_agg {γ : Gh} {w : World} {cs : List AV} {x : List Value} (h1 : ∀ a ∈ cs, a.one = true) (h : VRL γ w cs x) : VR γ w (.agg cs) (.agg x.toArray) := .agg cs x h.1 h1 h.2
theorem rdQ_of {w : World} {d : AV} {es : List AV} {qs : List PQ} (hd : (d = .nils ∧ es = []) ∨ ∃ tok, d = .sl tok 0 8 es) (he : EqRows es qs) {v : Value} (h : VR (GhW w) w d v) : RdQ w w.heap.size 0 v qs := by
 obtain ⟨hlen, hat⟩ := he.at
 rcases hd with ⟨rfl, rfl⟩ | ⟨tok, rfl⟩
 ·cases h
  have : qs = [] := by simpa using hlen.symm
  subst this
  exact ⟨_, _, rfl, .inl rfl⟩
 ·cases h with
  | sl _ _ _ _ b o cap c hsz hes h1 hc hr ht hf hcap hb =>
   obtain ⟨arr, T, fr, ha, _⟩ := hb
   have hbk : b < w.heap.size := (Array.getElem?_eq_some_iff.1 ha).1
   refine ⟨_, cap, by rw [hlen], .inr ⟨b, o, rfl, hbk, fun i hi => ?_⟩⟩
   obtain ⟨x, hx, hq⟩ := hat i hi
   generalize qs[i] = Q at hq
   obtain ⟨left, async, e⟩ := Q
   have hq' := hq
   obtain ⟨lv, xs, rfl, hl, hxs, hrep⟩ := hq
   simp only at hl hrep hx ⊢
   cases hrep with
   | mk kind pos n name off kv kids hk =>
   have at_ : ∀ k a, (AV.agg (eqC lv async (exC kind pos n name off kv))).cells[k]? = some a → k < 8 → ∃ v, w.cell? ⟨b, o + i * 8 + k, none⟩ = some v ∧ VR (GhW w) w a v := fun k a hka hk8 => cellAt hes hc hr hx hk8 hka
   obtain ⟨v0, c0, r0⟩ := at_ 0 lv rfl (by omega)
   obtain ⟨v1, c1, r1⟩ := at_ 1 (.v (.bool async)) rfl (by omega)
   obtain ⟨v2, c2, r2⟩ := at_ 2 (Dp kind) rfl (by omega)
   obtain ⟨v3, c3, r3⟩ := at_ 3 (Dp pos) rfl (by omega)
   obtain ⟨v4, c4, r4⟩ := at_ 4 (.v (.int .i64 n)) rfl (by omega)
   obtain ⟨v5, c5, r5⟩ := at_ 5 (Cl name) rfl (by omega)
   obtain ⟨v6, c6, r6⟩ := at_ 6 (.v (.bool off)) rfl (by omega)
   obtain ⟨v7, c7, r7⟩ := at_ 7 kv rfl (by omega)
   obtain ⟨pL, cL, rfl⟩ := wH hl r0
   have e1 := pQ r1; subst e1
   have e2 := eH r2; subst e2
   have e3 := eH r3; subst e3
   have e4 := eH r4; subst e4
   have e5 := wG r5; subst e5
   have e6 := pQ r6; subst e6
   obtain ⟨sp, sl, sc, rfl⟩ := vr_kids hk r7
   refine ⟨pL, cL, kind, pos, n, ⟨⟨name⟩⟩, off, sp, sl, sc, c0, c1, c2, c3, c4, c5, c6, c7, _, vr_agg (cs := eqC lv async (exC kind pos n name off kv)) (fun a ha => ?_) (VRL.cons r0 (VRL.cons r1 (VRL.cons r2 (VRL.cons r3 (VRL.cons r4 (VRL.cons r5 (VRL.cons r6 (VRL.cons r7 (VRL.nil _ _))))))))), hq'⟩
   have hall := h1
   exact hall a (by
    have hm : (AV.agg (eqC lv async (exC kind pos n name off kv))) ∈ es := List.mem_of_getElem? hx
    unfold Dt
    exact List.mem_flatMap.2 ⟨_, hm, ha⟩)
end Go.Ax
noncomputable section
namespace Go.Ax
open Go.RowKit Go.Proofs
set_option maxRecDepth 100000
def Oa : List (List UInt8) := [[32], [10], [9], [32, 45, 45, 32, 40, 120, 10]]
theorem iM {s : List UInt8} (h : s ∈ Oa) : ∃ c r, s = c :: r ∧ (c = 32 ∨ c = 10 ∨ c = 9) := by
 simp only [Oa,List.mem_cons,List.not_mem_nil,or_false] at h
 rcases h with rfl | rfl | rfl | rfl
 ·exact ⟨_, _, rfl, .inl rfl⟩
 ·exact ⟨_, _, rfl, .inr (.inl rfl)⟩
 ·exact ⟨_, _, rfl, .inr (.inr rfl)⟩
 ·exact ⟨_, _, rfl, .inl rfl⟩
theorem gS {p : UInt8 → Bool} {b : UInt8} {r : List UInt8} (h : p b = true) : cnt p (b :: r) = cnt p r + 1 := by
 show (if p b then cnt p r + 1 else 0) = _
 rw [if_pos h]
theorem Zx (p : UInt8 → Bool) : ∀ (l : List UInt8), (∀ b ∈ l.take (cnt p l), p b = true) ∧ (l.take (cnt p l)).length = cnt p l
 | [] => ⟨by intro b hb; simp [cnt] at hb, by simp [cnt]⟩
 | b :: r => by
  have ih := Zx p r
  unfold cnt
  cases hb : p b with
  | false => simp
  | true =>
   simp only [Aa,List.take_succ_cons,List.length_cons,List.mem_cons,forall_eq_or_imp]
   exact ⟨⟨hb, ih.1⟩, by rw [ih.2]⟩
theorem gQ (p : UInt8 → Bool) (c : UInt8) (hc : p c = false) (R : List UInt8) : ∀ (w : List UInt8), (∀ b ∈ w, p b = true) → cnt p (w ++ c :: R) = w.length
 | [], _ => by show cnt p (c :: R) = 0; unfold cnt; rw [hc]; rfl
 | b :: r, h => by
  show cnt p (b :: (r ++ c :: R)) = _
  unfold cnt
  rw [h b (List.mem_cons_self ..), if_pos rfl, gQ p c hc R r (fun x hx => h x (List.mem_cons_of_mem _ hx))]
  rfl
theorem iE (w : List UInt8) (X : List UInt8) : (w ++ X).take w.length = w := by simp
theorem tH {s0 : List UInt8} (h : s0 ∈ F7) {c : UInt8} (hc : c = 32 ∨ c = 10 ∨ c = 9) (X : List UInt8) : F7.find? (fun s => Er s (s0 ++ c :: X)) = some s0 ∧ Er [45, 45] (s0 ++ c :: X) = false ∧ (∃ b r, s0 = b :: r ∧ Ho b = false ∧ Df b = false ∧ Dw b = false) := by
 simp only [F7,List.mem_cons,List.not_mem_nil,or_false] at h
 rcases h with rfl | rfl | rfl | rfl | rfl | rfl | rfl | rfl | rfl | rfl | rfl | rfl | rfl | rfl | rfl | rfl <;> rcases hc with rfl | rfl | rfl <;> exact ⟨rfl, rfl, _, _, rfl, rfl, rfl, rfl⟩
theorem Y8 {b : UInt8} (h : Ho b = true) : Dw b = false ∧ b ≠ 45 := by
 have h' : ∀ x : Fin 256, Ho ⟨⟨x⟩⟩ = true → Dw ⟨⟨x⟩⟩ = false ∧ (⟨⟨x⟩⟩ : UInt8) ≠ 45 := by decide
 exact h' ⟨b.toNat, b.toNat_lt⟩ h
theorem Vu {b : UInt8} (h : Df b = true) : Dw b = false ∧ b ≠ 45 ∧ Ho b = false := by
 have h' : ∀ x : Fin 256, Df ⟨⟨x⟩⟩ = true → Dw ⟨⟨x⟩⟩ = false ∧ (⟨⟨x⟩⟩ : UInt8) ≠ 45 ∧ Ho ⟨⟨x⟩⟩ = false := by decide
 exact h' ⟨b.toNat, b.toNat_lt⟩ h
theorem dT {c : UInt8} (hc : c = 32 ∨ c = 10 ∨ c = 9) : Ek c = false ∧ Df c = false ∧ Dw c = true := by
 rcases hc with rfl | rfl | rfl <;> exact ⟨rfl, rfl, rfl⟩
theorem bA {b : UInt8} {r : List UInt8} (h : b ≠ 45) : Er [45, 45] (b :: r) = false := by
 unfold Er
 rw [decide_eq_false_iff_not]
 intro e
 cases r with
 | nil => simp at e
 | cons x r => simp at e; exact h e.1
theorem So {b : UInt8} {r : List UInt8} (h : Dw b = false) : cnt Dw (b :: r) = 0 := by unfold cnt; rw [h]; rfl
theorem Vg {l0 : List UInt8} {a : Nat} {t : Tk} (h : G8 l0 a = some (t, 0)) {s : List UInt8} (hs : s ∈ Oa) (R : List UInt8) :
  (∀ i, G8 (t.text ++ (s ++ R)) i = some (⟨t.kind, i, t.text, t.num⟩, 0)) ∧ cnt Dw (t.text ++ (s ++ R)) = 0 ∧ Er [45, 45] (t.text ++ (s ++ R)) = false ∧ t.text ≠ [] := by
 obtain ⟨c, sr, rfl, hc⟩ := iM hs
 obtain ⟨c1, c2, c3⟩ := dT hc
 show (∀ i, G8 (t.text ++ c :: (sr ++ R)) i = some (⟨t.kind, i, t.text, t.num⟩, 0)) ∧ cnt Dw (t.text ++ c :: (sr ++ R)) = 0 ∧ Er [45, 45] (t.text ++ c :: (sr ++ R)) = false ∧ t.text ≠ []
 generalize hX : sr ++ R = X
 cases l0 with
 | nil => cases h
 | cons b r =>
  unfold G8 at h
  simp only at h
  by_cases hl : Ho b = true
  ·rw [if_pos hl] at h
   injection h with h
   have hw1 : Ek b = true := by unfold Ek; rw [hl]; rfl
   have hcnt := gS (r := r) hw1
   have hT := Zx Ek (b :: r)
   generalize hw : (b :: r).take (cnt Ek (b :: r)) = w at hT
   have hwb : ∃ w', w = b :: w' := ⟨r.take (cnt Ek r), by rw [← hw, hcnt]; rfl⟩
   have hlen : cnt Ek (b :: r) = w.length := hT.2.symm
   have htext : t.text = w ∧ ∀ i, L7 (w ++ c :: X) i = (⟨t.kind, i, t.text, t.num⟩, 0) := by
    unfold L7 at h ⊢
    rw [hw, hlen] at h
    rw [gQ Ek c c1 X w hT.1, iE]
    by_cases hm : w ∈ R2
    ·rw [if_pos hm] at h; simp only [if_pos hm]
     injection h with h1 h2; subst h1
     exact ⟨rfl, fun i => rfl⟩
    ·rw [if_neg hm] at h; simp only [if_neg hm]
     by_cases h30 : 30 < w.length
     ·rw [if_pos h30] at h; injection h with h1 h2; cases h2
     ·rw [if_neg h30] at h; simp only [if_neg h30]
      injection h with h1 h2; subst h1
      exact ⟨rfl, fun i => rfl⟩
   obtain ⟨w', rfl⟩ := hwb
   obtain ⟨e1, e2⟩ := htext
   rw [e1] at e2 ⊢
   refine ⟨fun i => ?_, So (Y8 hl).1, bA (Y8 hl).2, by simp⟩
   show G8 (b :: (w' ++ c :: X)) i = _
   unfold G8
   simp only
   rw [if_pos hl]
   exact congrArg some (e2 i)
  ·rw [if_neg hl] at h
   by_cases hd : Df b = true
   ·rw [if_pos hd] at h
    have hcnt := gS (r := r) hd
    have hT := Zx Df (b :: r)
    generalize hw : (b :: r).take (cnt Df (b :: r)) = w at hT
    have hwb : ∃ w', w = b :: w' := ⟨r.take (cnt Df r), by rw [← hw, hcnt]; rfl⟩
    have hlen : cnt Df (b :: r) = w.length := hT.2.symm
    obtain ⟨w', rfl⟩ := hwb
    have htext : t.text = b :: w' ∧ ∀ i, Yy (b :: w' ++ c :: X) i = some (⟨t.kind, i, t.text, t.num⟩, 0) := by
     unfold Yy at h ⊢
     rw [hw, hlen] at h
     rw [gQ Df c c2 X (b :: w') hT.1, iE]
     have hh : (b :: w' ++ c :: X).head? = (b :: r).head? := rfl
     rw [hh]
     split at h
     ·injection h with h; injection h with h1 h2; cases h2
     ·rename_i n1
      simp only [if_neg n1]
      split at h
      ·rename_i n2
       simp only [if_pos n2]
       split at h
       ·injection h with h; injection h with h1 h2; cases h2
       ·rename_i n3
        simp only [if_neg n3]
        injection h with h; injection h with h1 h2; subst h1
        exact ⟨rfl, fun i => rfl⟩
      ·injection h with h; injection h with h1 h2; cases h2
    obtain ⟨e1, e2⟩ := htext
    rw [e1] at e2 ⊢
    refine ⟨fun i => ?_, So (Vu hd).1, bA (Vu hd).2.1, by simp⟩
    show G8 (b :: (w' ++ c :: X)) i = _
    unfold G8
    simp only
    rw [if_neg (by rw [(Vu hd).2.2]; decide), if_pos hd]
    exact e2 i
   ·rw [if_neg hd] at h
    injection h with h
    unfold Nq at h
    split at h
    ·rename_i s0 hf
     injection h with h1 h2; subst h1
     have hm := List.mem_of_find?_eq_some hf
     obtain ⟨q1, q2, b0, r0, rfl, q3, q4, q5⟩ := tH hm hc X
     refine ⟨fun i => ?_, So q5, q2, by simp⟩
     show G8 (b0 :: (r0 ++ c :: X)) i = _
     unfold G8
     simp only
     rw [if_neg (by rw [q3]; decide), if_neg (by rw [q4]; decide)]
     unfold Nq
     have q1 : F7.find? (fun s => Er s (b0 :: (r0 ++ c :: X))) = some (b0 :: r0) := q1
     rw [q1]
    ·injection h with h1 h2; cases h2
theorem Ms {c : UInt8} (hc : c = 32 ∨ c = 10 ∨ c = 9) (N : Nat) (R : List UInt8) : Gq (N + 1) (c :: R) = 1 + Gq (N + 1) R := by
 obtain ⟨_, _, c3⟩ := dT hc
 have e : cnt Dw (c :: R) = cnt Dw R + 1 := gS c3
 rw [O2, O2, e]
 simp only [List.drop_succ_cons,Nat.add_right_comm _ 1]
 split <;> omega
theorem X8 {s : List UInt8} (h : s ∈ Oa) (N : Nat) (R : List UInt8) (hN : (s ++ R).length < N) : ∃ N', R.length < N' ∧ Gq N (s ++ R) = s.length + Gq N' R := by
 obtain ⟨M, rfl⟩ : ∃ M, N = M + 1 := ⟨N - 1, by omega⟩
 simp only [Oa,List.mem_cons,List.not_mem_nil,or_false] at h
 rcases h with rfl | rfl | rfl | rfl
 ·exact ⟨M + 1, by simp at hN; omega, Ms (.inl rfl) M R⟩
 ·exact ⟨M + 1, by simp at hN; omega, Ms (.inr (.inl rfl)) M R⟩
 ·exact ⟨M + 1, by simp at hN; omega, Ms (.inr (.inr rfl)) M R⟩
 ·simp only [List.length_append,List.length_cons,List.length_nil] at hN
  obtain ⟨K, rfl⟩ : ∃ K, M = K + 1 := ⟨M - 1, by omega⟩
  refine ⟨K + 1, by omega, ?_⟩
  show Gq (K + 1 + 1) (32 :: 45 :: 45 :: 32 :: 40 :: 120 :: 10 :: R) = 7 + Gq (K + 1) R
  rw [Ms (.inl rfl)]
  have e : Gq (K + 1 + 1) (45 :: 45 :: 32 :: 40 :: 120 :: 10 :: R) = 0 + (5 + Gq (K + 1) (10 :: R)) := rfl
  rw [e, Ms (.inr (.inl rfl))]
  omega
theorem Q6 {R : List UInt8} (h1 : cnt Dw R = 0) (h2 : Er [45, 45] R = false) (N : Nat) : Gq N R = 0 := by
 cases N with
 | zero => rfl
 | succ N => rw [O2, h1]; simp only [List.drop_zero]; rw [h2]; rfl
def laid (f : Nat → List UInt8) : Nat → List Tk → List UInt8
 | _, [] => []
 | k, t :: r => t.text ++ (f k ++ laid f (k + 1) r)
inductive FromLex : List Tk → Prop where
 | last (t : Tk) (h : t.kind = 5 ∧ t.text = [] ∧ t.num = 0) : FromLex [t]
 | cons (t : Tk) (r : List Tk) (l : List UInt8) (a : Nat) (h : G8 l a = some (t, 0)) (hr : FromLex r) : FromLex (t :: r)
theorem dY (l : List UInt8) : ∀ (n i : Nat) (ts : List Tk), Mk l n i = some (.inr ts) → FromLex ts
 | 0, i, ts, h => by cases h
 | n + 1, i, ts, h => by
  unfold Mk at h
  by_cases hi : i < l.length
  ·rw [if_pos hi] at h
   split at h
   ·cases h
   ·rename_i p hp
    by_cases h0 : p.2 = 0
    ·rw [if_pos h0] at h
     split at h
     ·cases h
     ·injection h with h; cases h
     ·rename_i us hu
      injection h with h; injection h with h; subst h
      obtain ⟨t, x⟩ := p
      simp only at h0; subst h0
      exact .cons t us _ _ hp (dY l n _ us hu)
    ·rw [if_neg h0] at h; injection h with h; cases h
  ·rw [if_neg hi] at h
   injection h with h; injection h with h; subst h
   exact .last _ ⟨rfl, rfl, rfl⟩
theorem cG {l : List UInt8} {ts : List Tk} (h : Kk l = some (.inr ts)) : FromLex ts := by
 unfold Kk at h
 split at h
 ·injection h with h; cases h
 ·exact dY _ _ _ _ h
inductive LikeTs : List Tk → List Tk → Prop where
 | nil : LikeTs [] []
 | cons (t u : Tk) (r s : List Tk) (h : lS t u) (h2 : LikeTs r s) : LikeTs (t :: r) (u :: s)
theorem LikeTs.s : ∀ {ts us : List Tk}, LikeTs ts us → LikeS ts us
 | _, _, .nil => ⟨rfl, fun i => ⟨rfl, rfl, rfl⟩⟩
 | _, _, .cons t u r s h h2 => ⟨by simp [h2.s.len], fun i => by
  cases i with
  | zero => exact h
  | succ i => exact h2.s.at_ i⟩
section
variable {f : Nat → List UInt8} (hf : ∀ k, f k ∈ Oa) (T : List UInt8)
include hf
theorem jV : ∀ (ts : List Tk) (k : Nat), ts.length ≤ (laid f k ts).length
 | [], k => Nat.zero_le _
 | t :: r, k => by
  have h1 := jV r (k + 1)
  obtain ⟨c, sr, e, _⟩ := iM (hf k)
  show r.length + 1 ≤ (t.text ++ (f k ++ laid f (k + 1) r)).length
  rw [e]
  simp only [List.length_append,List.length_cons]
  omega
theorem lL : ∀ (ts : List Tk), FromLex ts → ∀ (k i m : Nat), ts.length ≤ m → i ≤ T.length → ((∃ t, ts = [t] ∧ i = T.length) ∨ ((∀ t, FromLex [t] → ts ≠ [t]) ∧ T.drop i = laid f k ts)) → ∃ us, Mk T m i = some (.inr us) ∧ LikeTs ts us := by
 intro ts hts
 induction hts with
 | last t h =>
  intro k i m hm hi hc
  obtain ⟨M, rfl⟩ : ∃ M, m = M + 1 := ⟨m - 1, by simp at hm; omega⟩
  rcases hc with ⟨t', e, rfl⟩ | ⟨hne, _⟩
  ·refine ⟨_, by unfold Mk; rw [if_neg (by omega)], .cons _ _ _ _ ⟨h.1, h.2.1, h.2.2⟩ .nil⟩
  ·exact absurd rfl (hne t (.last t h))
 | cons t r l a h hr ih =>
  intro k i m hm hi hc
  obtain ⟨M, rfl⟩ : ∃ M, m = M + 1 := ⟨m - 1, by simp at hm; omega⟩
  have hr0 : r ≠ [] := by cases hr <;> simp
  have hd : T.drop i = laid f k (t :: r) := by
   rcases hc with ⟨t', e, _⟩ | ⟨_, hd⟩
   ·injection e with e1 e2; exact absurd e2 hr0
   ·exact hd
  have hd : T.drop i = t.text ++ (f k ++ laid f (k + 1) r) := hd
  obtain ⟨g1, g2, g3, g4⟩ := Vg h (hf k) (laid f (k + 1) r)
  have hlen : (T.drop i).length = (t.text ++ (f k ++ laid f (k + 1) r)).length := by rw [hd]
  rw [List.length_drop] at hlen
  have ht0 : 0 < t.text.length := List.length_pos_iff.2 g4
  have hlt : i < T.length := by simp at hlen; omega
  have hd2 : T.drop (i + t.text.length) = f k ++ laid f (k + 1) r := by
   rw [← List.drop_drop, hd]; simp
  obtain ⟨N', hN', e1⟩ := X8 (hf k) (T.length + 1) (laid f (k + 1) r) (by simp at hlen ⊢; omega)
  have key : ∃ us, Mk T M (i + t.text.length + Gq (T.length + 1) (T.drop (i + t.text.length))) = some (.inr us) ∧ LikeTs r us := by
   rw [hd2, e1]
   simp only [List.length_append] at hlen
   have hm' : r.length ≤ M := by simp at hm; omega
   cases hr with
   | last t2 h2 =>
    have e2 : laid f (k + 1) [t2] = f (k + 1) ++ [] := by show t2.text ++ (f (k + 1) ++ []) = _; rw [h2.2.1]; rfl
    rw [e2] at hN' hlen ⊢
    obtain ⟨N2, hN2, e3⟩ := X8 (hf (k + 1)) N' [] hN'
    rw [e3]
    have e4 : Gq N2 [] = 0 := Q6 rfl rfl N2
    rw [e4]
    simp only [List.length_append,List.length_nil] at hlen
    exact ih (k + 1) _ M hm' (by omega) (.inl ⟨t2, rfl, by omega⟩)
   | cons t2 r2 l2 a2 h2 hr2 =>
    obtain ⟨_, q2, q3, _⟩ := Vg h2 (hf (k + 1)) (laid f (k + 2) r2)
    have e4 : Gq N' (laid f (k + 1) (t2 :: r2)) = 0 := Q6 q2 q3 N'
    rw [e4]
    refine ih (k + 1) _ M hm' (by omega) (.inr ⟨fun t3 h3 e => ?_, ?_⟩)
    ·injection e with e1 e2; subst e2
     cases hr2
    ·rw [Nat.add_zero, ← List.drop_drop, hd2]; simp
  obtain ⟨us, hu, hl⟩ := key
  refine ⟨⟨t.kind, i, t.text, t.num⟩ :: us, ?_, .cons _ _ _ _ ⟨rfl, rfl, rfl⟩ hl⟩
  unfold Mk
  rw [if_pos hlt, hd, g1 i]
  simp only [Aa]
  rw [hu]
end
theorem nJ {l : List UInt8} {ts : List Tk} (h : Kk l = some (.inr ts)) {f : Nat → List UInt8} (hf : ∀ k, f k ∈ Oa) (hT : (laid f 0 ts).length ≤ 4000) : ∃ us, Kk (laid f 0 ts) = some (.inr us) ∧ LikeS ts us := by
 have hfr := cG h
 have hll := jV hf ts 0
 unfold Kk
 rw [if_neg (by omega)]
 have key : ∃ us, Mk (laid f 0 ts) ((laid f 0 ts).length + 1) (Gq ((laid f 0 ts).length + 1) (laid f 0 ts)) = some (.inr us) ∧ LikeTs ts us := by
  cases hfr with
  | last t h9 =>
   have e2 : laid f 0 [t] = f 0 ++ [] := by show t.text ++ (f 0 ++ []) = _; rw [h9.2.1]; rfl
   obtain ⟨N2, hN2, e3⟩ := X8 (hf 0) ((laid f 0 [t]).length + 1) [] (by rw [e2]; omega)
   have e4 : Gq N2 [] = 0 := Q6 rfl rfl N2
   have e5 : Gq ((laid f 0 [t]).length + 1) (laid f 0 [t]) = (laid f 0 [t]).length := by
    conv => lhs; arg 2; rw [e2]
    rw [e3, e4, e2]; simp
   rw [e5]
   exact lL hf _ [t] (.last t h9) 0 _ _ (by omega) (Nat.le_refl _) (.inl ⟨t, rfl, rfl⟩)
  | cons t r l2 a h2 hr =>
   obtain ⟨_, q2, q3, _⟩ := Vg h2 (hf 0) (laid f 1 r)
   have e4 : Gq ((laid f 0 (t :: r)).length + 1) (laid f 0 (t :: r)) = 0 := Q6 q2 q3 _
   rw [e4]
   refine lL hf _ (t :: r) (.cons t r l2 a h2 hr) 0 _ _ (by omega) (Nat.zero_le _) (.inr ⟨fun t3 h3 e => ?_, rfl⟩)
   injection e with e1 e2; subst e2
   cases hr
 obtain ⟨us, h1, h2⟩ := key
 exact ⟨us, h1, h2.s⟩
end Go.Ax
