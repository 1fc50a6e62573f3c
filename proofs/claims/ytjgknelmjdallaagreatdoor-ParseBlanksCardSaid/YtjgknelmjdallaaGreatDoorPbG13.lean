/- Lb -/
import Derived.Test.YtjgknelmjdallaaGreatDoorPbG12
set_option linter.unusedVariables false
set_option linter.unusedSimpArgs false
noncomputable section
namespace Go.Ax
open Go.RowKit Go.Proofs
set_option maxRecDepth 100000
def Cl (l : List UInt8) : AV := .v (.string ⟨⟨l⟩⟩)
def Dp (n : Nat) : AV := .v (.int .i64 (n : Int))
theorem wA {n : Nat} (h : n ≤ 1000000000) : IntKind.i64.wrap (n : Int) = (n : Int) := by
 rw [← Xq]
 have : in64 (n : Int) = true := Nat.ble_eq_true_of_le (by omega)
 unfold W7
 rw [this]
theorem H6 {i j : Nat} (h : i + j ≤ 1000000000) : IntKind.i64.wrap ((i : Int) + (j : Int)) = ((i + j : Nat) : Int) := by
 rw [← wA h]; push_cast; rfl
theorem N6 {i : Nat} (h : i + 1 ≤ 1000000000) : IntKind.i64.wrap ((i : Int) + 1) = ((i + 1 : Nat) : Int) := H6 (j := 1) h
theorem Tz (S : St) (l : List UInt8) : Ie Tryz.prog S 9 (.v (.string ⟨⟨l⟩⟩)) = some l.length := by
 have h : Tryz.prog.underlying 9 = some .string := rfl
 simp only [Ie,h]; rfl
theorem idx9 (l : List UInt8) (i : Nat) (h : i < l.length) : J8 Tryz.prog 9 (.v (.string ⟨⟨l⟩⟩)) (.v (.int .i64 (i : Int))) = some (Js l[i]) := by
 have hu : Tryz.prog.underlying 9 = some .string := rfl
 have h0 : (0 : Int) ≤ (i : Int) := by omega
 simp only [J8,hu,if_pos h0,Int.toNat_natCast,List.getElem?_eq_getElem h]; rfl
def groundX (P : Program) (G : Gl) (f : T AV) (S : St) (o : Oper) : OR := ground P G f S o
def notO (r : OR) (S : St) (x : Option AV) : OR := match x with
 | some (.v (.bool b)) => .val (.v (.bool (!b))) S
 | _ => r
theorem Ce (f : T AV) (S : St) (dst : Option Tmp) (k : Tmp) (ty : TypeId) (pos : String) (af : Array Edge) (gd : Option (Nat × Bool)) :
  ground Tryz.prog gR f S { dst := dst, op := .unOp .not 4 (.tmp k), type := ty, pos := pos, after := af, guard := gd } = notO (groundX Tryz.prog gR f S { dst := dst, op := .unOp .not 4 (.tmp k), type := ty, pos := pos, after := af, guard := gd }) S (f.get k) := by
 unfold notO
 split
 ·rename_i b h
  have hg : D2 gR f (.tmp k) = some (.bool b) := by unfold D2; simp only [Bc,h]; rfl
  unfold ground
  simp only [Op.operands,List.all_cons,List.all_nil,hg,Option.isSome_some,Bool.and_self,Aa]
  have e : execOp (fun x => (D2 gR f x).getD undef) { dst := dst, op := .unOp .not 4 (.tmp k), type := ty, pos := pos, after := af, guard := gd } = execOp (fun _ => .bool b) { dst := dst, op := .unOp .not 4 (.tmp k), type := ty, pos := pos, after := af, guard := gd } := by
   simp only [execOp,hg,Ae]
  rw [e]
  cases b <;> rfl
 ·rfl
theorem Ct (r : OR) (S : St) (b : Bool) : notO r S (some (.v (.bool b))) = .val (.v (.bool (!b))) S := rfl
def cnt (p : UInt8 → Bool) : List UInt8 → Nat
 | [] => 0
 | b :: r => if p b then cnt p r + 1 else 0
theorem Sn (p : UInt8 → Bool) : ∀ l, cnt p l ≤ l.length
 | [] => Nat.le_refl _
 | b :: r => by
  unfold cnt
  split
  ·have := Sn p r; simp; omega
  ·simp
noncomputable def Pq : Code := match Tryz.f96.body with
 | some (.seq _ (.seq (.block _ (.loop c)) _)) => c
 | _ => .skip
structure Test (k : FuncId) (p : UInt8 → Bool) : Prop where
 run : ∀ b S, WC E1 k [Js b] S (fun r => r = .ret (.v (.bool (p b))) S)
 fn : (E1.F k).isSome = true
set_option maxHeartbeats 4000000 in
theorem Wx {k : FuncId} {p : UInt8 → Bool} (hp : Test k p) (l : List UInt8) (hl : l.length ≤ 100000) (S : St) : ∀ (m i : Nat) (t : T AV), i + m = l.length → t.get 0 = some (Cl l) → t.get 1 = some (Dp i) → t.get 2 = some (.fn (.func k) [] []) →
  WX E1 21 (.loop Pq) ⟨t, []⟩ S (fun r => ∃ t', r = .out (.exit 0) ⟨t', []⟩ S ∧ t'.get 1 = some (Dp (i + cnt p (l.drop i))))
 | 0, i, t, hi, h0, h1, h2 => by
  refine Ew (Eg ?_)
  have hlt : ¬ ((i : Int) < (l.length : Int)) := by omega
  have hd : l.drop i = [] := List.drop_eq_nil_of_le (by omega)
  simp only [Cl,Dp] at h0 h1 ⊢
  simp only [B4,B8,Br,A8,Bk,Bn,B3,Dh,Ba,Cg,Bw,Bo,A9,Cy,A6,A5,Cb,A4,Bd,Bc,A0,Bm,ofOpt,Be,Bv,El,B5,Dg,Ds,Nat.reduceLT,Nat.reduceEqDiff,Aa,Ab,Ac,Af,Ag,Ah,Ai,Am,Aq,Ar,Av,Pq,Tryz.f96,h0,h1,h2,Tz,hlt]
  exact ⟨_, rfl, by simp only [A0,Nat.reduceEqDiff,Ab,h1,hd,cnt,Nat.add_zero]⟩
 | m + 1, i, t, hi, h0, h1, h2 => by
  refine Ew (Eg ?_)
  have hil : i < l.length := by omega
  have hlt : ((i : Int) < (l.length : Int)) := by omega
  have hd : l.drop i = l[i] :: l.drop (i + 1) := List.drop_eq_getElem_cons hil
  obtain ⟨fn, hfn⟩ := Option.isSome_iff_exists.1 hp.fn
  have hx := idx9 l i hil
  have hw := N6 (i := i) (by omega)
  simp only [Cl,Dp] at h0 h1 ⊢
  simp only [A8,Bk,A9,A6,Bb,A5,A4,Bd,Bc,A0,Bm,B0,ofOpt,Bv,B5,Dg,Nat.reduceLT,Nat.reduceEqDiff,Aa,Ab,Ac,Af,Ag,Ah,Ai,Aj,Ak,Al,Am,Ap,Pq,Tryz.f96,h0,h1,h2,Tz,hlt,hx,hfn]
  refine WC.mono (hp.run l[i] S) ?_
  rintro _ rfl
  cases hb : p l[i]
  ·simp only [B4,B8,Br,A8,Bn,B3,Dh,Ba,Cg,Bw,Bo,A9,A6,A5,Bf,Cb,A4,Bd,Bc,A0,ofOpt,Be,Bv,B5,Ds,Nat.reduceLT,Nat.reduceEqDiff,Aa,Ab,Ac,Am,h1]
   refine ⟨_, rfl, ?_⟩
   have e : cnt p (l.drop i) = 0 := by rw [hd]; unfold cnt; rw [hb]; rfl
   simp only [A0,Nat.reduceEqDiff,Ab,h1,e,Nat.add_zero]
  ·simp only [B4,B8,Br,A8,Bn,B3,Dh,Ba,Cg,Bw,Bo,A9,A6,A5,Bf,Cp,A4,Bd,Bc,A0,ofOpt,Be,Bv,B5,Ds,Nat.reduceLT,Nat.reduceEqDiff,Aa,Ab,Ac,Am,h1,hw]
   have e : cnt p (l.drop i) = cnt p (l.drop (i + 1)) + 1 := by rw [hd, cnt, hb]; rfl
   refine WX.mono (Wx hp l hl S m (i + 1) _ (by omega) ?_ ?_ ?_) ?_
   ·simp only [A0,Nat.reduceEqDiff,Ab,h0]; rfl
   ·simp only [A0,Nat.reduceEqDiff,Aa]; rfl
   ·simp only [A0,Nat.reduceEqDiff,Ab,h2]
   ·rintro r ⟨t', rfl, h⟩
    refine ⟨t', rfl, ?_⟩
    rw [h, e]
    show some (Dp _) = some (Dp _)
    congr 2; omega
set_option maxHeartbeats 4000000 in
theorem Uu {k : FuncId} {p : UInt8 → Bool} (hp : Test k p) (l : List UInt8) (hl : l.length ≤ 100000) (i : Nat) (hi : i ≤ l.length) (S : St) : WC E1 96 [Cl l, Dp i, .fn (.func k) [] []] S (fun r => r = .ret (Dp (i + cnt p (l.drop i))) S) := by
 refine Do Tryz.f96 (by kernel_rfl) (by kernel_rfl) (by kernel_rfl) (show (_ : Nat) ≤ _ from by show (_ : Nat) ≤ _; simp [Tryz.f96]) ?_
 have key := fun t h0 h1 h2 => Wx hp l hl S (l.length - i) i t (by omega) h0 h1 h2
 unfold Pq at key
 simp only [Tryz.f96] at key
 simp only [A8,Bk,B3,D1,Ba,Bo,A9,A6,A5,A4,Bd,Bc,B6,ofOpt,Be,Nat.reduceLT,Nat.reduceAdd,Ac,Ae,Tryz.f96]
 refine WX.mono (key _ ?_ ?_ ?_) ?_
 ·simp only [A0,A1,Nat.reduceEqDiff,Aa,Ab]
 ·simp only [A0,A1,Nat.reduceEqDiff,Aa,Ab]
 ·simp only [A0,A1,Nat.reduceEqDiff,Aa,Ab]
 ·rintro r ⟨t', rfl, h⟩
  simp only [A8,Bk,Bz,Ba,Cg,Ch,Bo,A9,A6,A5,A4,Bd,Bc,A0,ofOpt,Bi,By,Bg,Cd,Nat.reduceLT,Nat.reduceEqDiff,Aa,Ab,Ad,h]
theorem blankT : Test 97 Dw := ⟨blank_w, by kernel_rfl⟩
theorem notEndT : Test 98 Jw := ⟨yA, by kernel_rfl⟩
theorem digitT : Test 101 Df := ⟨gO, by kernel_rfl⟩
theorem wordBT : Test 131 Ek := ⟨wordB_w, by kernel_rfl⟩
end Go.Ax
noncomputable section
namespace Go.Ax
open Go.RowKit Go.Proofs
set_option maxRecDepth 100000
theorem iJ (l : List UInt8) (i : Nat) (h : i ≤ l.length) : Ic Tryz.prog 9 (.v (.string ⟨⟨l⟩⟩)) (some (.v (.int .i64 (i : Int)))) none = some (.v (.string ⟨⟨l.drop i⟩⟩)) := by
 have hu : Tryz.prog.underlying 9 = some .string := rfl
 have h0 : (0 : Int) ≤ (i : Int) := by omega
 have hs : (⟨⟨l⟩⟩ : ByteArray).size = l.length := rfl
 simp only [Ic,hu,Hs,if_pos h0,Int.toNat_natCast,hs]
 rw [Nat.ble_eq_true_of_le h, Nat.ble_eq_true_of_le (Nat.le_refl _)]
 show some (AV.v (.string ⟨⟨(l.drop i).take (l.length - i)⟩⟩)) = _
 rw [List.take_of_length_le (by simp)]
theorem wX (l : List UInt8) (j : Nat) (h : j ≤ l.length) : Ic Tryz.prog 9 (.v (.string ⟨⟨l⟩⟩)) none (some (.v (.int .i64 (j : Int)))) = some (.v (.string ⟨⟨l.take j⟩⟩)) := by
 have hu : Tryz.prog.underlying 9 = some .string := rfl
 have h0 : (0 : Int) ≤ (j : Int) := by omega
 have hs : (⟨⟨l⟩⟩ : ByteArray).size = l.length := rfl
 simp only [Ic,hu,Hs,if_pos h0,Int.toNat_natCast,hs]
 rw [Nat.ble_eq_true_of_le (Nat.zero_le _), Nat.ble_eq_true_of_le h]
 rfl
theorem X7 (l : List UInt8) (i j : Nat) (hi : i ≤ j) (h : j ≤ l.length) : Ic Tryz.prog 9 (.v (.string ⟨⟨l⟩⟩)) (some (.v (.int .i64 (i : Int)))) (some (.v (.int .i64 (j : Int)))) = some (.v (.string ⟨⟨(l.drop i).take (j - i)⟩⟩)) := by
 have hu : Tryz.prog.underlying 9 = some .string := rfl
 have h0 : (0 : Int) ≤ (i : Int) := by omega
 have h1 : (0 : Int) ≤ (j : Int) := by omega
 have hs : (⟨⟨l⟩⟩ : ByteArray).size = l.length := rfl
 simp only [Ic,hu,Hs,if_pos h0,if_pos h1,Int.toNat_natCast,hs]
 rw [Nat.ble_eq_true_of_le hi, Nat.ble_eq_true_of_le h]
 rfl
theorem K9 (l m : List UInt8) : D5 .eql (.v (.string ⟨⟨l⟩⟩)) (.v (.string ⟨⟨m⟩⟩)) = some (.v (.bool (decide (l = m)))) := by
 simp only [D5,Io]
 have e : (l == m) = decide (l = m) := by rw [Bool.eq_iff_iff]; simp
 show some (AV.v (.bool (l == m))) = _
 rw [e]
theorem Dd (a b : AV) : Gy Tryz.prog 9 a b = false := by
 have h : Tryz.prog.underlying 9 = some .string := rfl
 unfold Gy; rw [h]
def Er (pre l : List UInt8) : Bool := decide (l.take pre.length = pre)
set_option maxHeartbeats 4000000 in
theorem xP (l pre : List UInt8) (S : St) : WC E1 122 [Cl l, Cl pre] S (fun r => r = .ret (.v (.bool (Er pre l))) S) := by
 refine Do Tryz.f122 (by kernel_rfl) (by kernel_rfl) (by kernel_rfl) (show (_ : Nat) ≤ _ from by show (_ : Nat) ≤ _; simp [Tryz.f122]) ?_
 unfold Cl
 by_cases h : (pre.length : Int) ≤ (l.length : Int)
 ·have hs := wX l pre.length (by omega)
  simp only [A8,Bk,Bz,Ba,Bo,A9,A6,A5,A4,Bd,Bc,B6,A0,A1,Bm,B0,ofOpt,Be,Bv,El,B5,Bi,By,Bg,Cd,Ei,Nat.reduceLT,Nat.reduceAdd,Nat.reduceEqDiff,Aa,Ab,Ad,Ae,Af,Ag,Ah,Ai,Al,Am,Ap,Option.toList,Ay,Az,Tryz.f122,Tz,h,hs,K9,Dd,Er]
 ·have e : Er pre l = false := by
   unfold Er
   rw [decide_eq_false_iff_not]; intro hq
   have := congrArg List.length hq
   simp at this; omega
  simp only [A8,Bk,Bz,Ba,Bo,A9,Cy,A6,A5,A4,Bd,Bc,B6,A0,A1,Bm,ofOpt,Be,Bv,El,B5,Bi,By,Bg,Cd,Ei,Nat.reduceLT,Nat.reduceAdd,Nat.reduceEqDiff,Aa,Ab,Ad,Ae,Af,Ag,Ah,Ai,Am,Aq,Ar,Av,Tryz.f122,Tz,h,Dd,e]
theorem fnOk122 : ∃ fn, E1.F 122 = some fn := Option.isSome_iff_exists.1 (by kernel_rfl)
theorem pre_w (l pre : List UInt8) (S : St) : WC E1 85 [Cl l, Cl pre] S (fun r => r = .ret (.v (.bool (Er pre l))) S) := by
 refine Do Tryz.f85 (by kernel_rfl) (by kernel_rfl) (by kernel_rfl) (show (_ : Nat) ≤ _ from by show (_ : Nat) ≤ _; simp [Tryz.f85]) ?_
 obtain ⟨fn1, hf1⟩ := fnOk122
 simp only [A8,Bk,Ba,Bo,A9,A6,Bb,A5,A4,Bd,Bc,B6,A0,A1,Bm,B0,ofOpt,Be,Nat.reduceLT,Nat.reduceAdd,Nat.reduceEqDiff,Aa,Ab,Ac,Ae,Aj,Ak,Tryz.f85,hf1]
 refine WC.mono (xP l pre S) ?_
 rintro _ rfl
 simp only [Bz,Ba,Bo,A9,A6,A5,Bf,A4,Bd,Bc,A0,A1,ofOpt,Bi,By,Bg,Cd,Nat.reduceLT,Nat.reduceEqDiff,Aa,Ab,Ad]
theorem e69 : Hv Tryz.prog 69 = some (none, 9) := by kernel_rfl
theorem u69 : Tryz.prog.underlying 69 = some (.slice 9) := by kernel_rfl
theorem s9 : Fd Tryz.prog 9 = some 1 := by kernel_rfl
theorem a9 : Ff Tryz.prog 9 = some false := by kernel_rfl
theorem yU (S : St) (tok off : Nat) (es : List AV) : Ie Tryz.prog S 69 (.sl tok off 1 es) = some es.length := by simp [Ie, u69]
theorem zG (tok off : Nat) (ws : List (List UInt8)) (i : Nat) (h : i < ws.length) : Eo Tryz.prog 69 (.sl tok off 1 (ws.map Cl)) (.v (.int .i64 (i : Int))) = some (.ep [Cl ws[i]]) := by
 have h0 : (0 : Int) ≤ (i : Int) := by omega
 simp [Eo, h0, e69, s9, h, Cl, AV.cells]
theorem rB (S : St) (x : AV) : Cv Tryz.prog S 9 (.ep [x]) = some x := by simp [Cv, Dc, a9]
noncomputable def Ot : Code := match Tryz.f160.body with
 | some (.seq _ (.seq (.seq _ (.block _ (.loop c))) _)) => c
 | _ => .skip
set_option maxHeartbeats 4000000 in
theorem Ze (tok off : Nat) (ws : List (List UInt8)) (s : List UInt8) (hl : ws.length ≤ 100000) (S : St) : ∀ (m i : Nat) (t : T AV), i + m = ws.length → t.get 0 = some (.sl tok off 1 (ws.map Cl)) → t.get 1 = some (Cl s) → t.get 7 = some (Dp ws.length) → t.get 8 = some (Dp i) →
  WX E1 19 (.loop Ot) ⟨t, []⟩ S (fun r => ∃ t', (r = .out (.exit 0) ⟨t', []⟩ S ∧ s ∉ ws.drop i) ∨ (∃ j : Nat, r = .out .ret ⟨t', []⟩ S ∧ t'.get 4 = some (Dp j) ∧ s ∈ ws.drop i))
 | 0, i, t, hi, h0, h1, h7, h8 => by
  refine Ew (Eg ?_)
  have hlt : ¬ ((i : Int) < (ws.length : Int)) := by omega
  have hd : ws.drop i = [] := List.drop_eq_nil_of_le (by omega)
  simp only [Cl,Dp] at h0 h1 h7 h8 ⊢
  simp only [B8,Br,A8,Bk,Bn,B3,Dh,Ba,Cg,Bo,A9,A6,A5,Cb,A4,Bd,Bc,A0,ofOpt,Bv,B5,Dg,Nat.reduceLT,Nat.reduceEqDiff,Aa,Ab,Ac,Am,Aq,Ot,Tryz.f160,h0,h1,h7,h8,hlt]
  exact ⟨_, .inl ⟨rfl, by rw [hd]; exact List.not_mem_nil⟩⟩
 | m + 1, i, t, hi, h0, h1, h7, h8 => by
  refine Ew (Eg ?_)
  have hil : i < ws.length := by omega
  have hlt : ((i : Int) < (ws.length : Int)) := by omega
  have hd : ws.drop i = ws[i] :: ws.drop (i + 1) := List.drop_eq_getElem_cons hil
  have hx := zG tok off ws i hil
  have hw := N6 (i := i) (by omega)
  have hq := K9 s ws[i]
  simp only [Cl,Dp] at h0 h1 h7 h8 hx ⊢
  by_cases he : s = ws[i]
  ·rw [decide_eq_true he] at hq
   simp only [B4,B8,C1,Br,A8,Bk,Bn,B3,Dh,Bz,Ba,Cg,Co,Bw,Cq,Bo,A9,A6,A5,Cp,A4,Bd,Bc,A0,ofOpt,Be,Bv,B5,Dg,Ds,Nat.reduceLT,Nat.reduceEqDiff,Aa,Ab,Ac,Am,Ap,Ot,Tryz.f160,h0,h1,h7,h8,hlt,hx,rB,Dd,hq]
   exact ⟨_, .inr ⟨i, rfl, by simp only [A0,Nat.reduceEqDiff,Aa], by rw [hd, he]; exact List.mem_cons_self ..⟩⟩
  ·rw [decide_eq_false he] at hq
   simp only [B4,B8,C1,Br,A8,Bk,Bn,B3,Dh,Bz,Ba,Cg,Co,Bw,Cq,Bo,A9,A6,A5,Cp,Cb,A4,Bd,Bc,A0,ofOpt,Be,Bv,B5,Dg,Ds,Nat.reduceLT,Nat.reduceEqDiff,Aa,Ab,Ac,Am,Ap,Ot,Tryz.f160,h0,h1,h7,h8,hlt,hx,rB,Dd,hq,hw]
   refine WX.mono (Ze tok off ws s hl S m (i + 1) _ (by omega) ?_ ?_ ?_ ?_) ?_
   ·simp only [A0,Nat.reduceEqDiff,Ab,h0]
   ·simp only [A0,Nat.reduceEqDiff,Ab,h1]; rfl
   ·simp only [A0,Nat.reduceEqDiff,Ab,h7]; rfl
   ·simp only [A0,Nat.reduceEqDiff,Aa]; rfl
   ·rintro r ⟨t', ⟨rfl, h⟩ | ⟨j, rfl, h, hm⟩⟩
    ·exact ⟨t', .inl ⟨rfl, by rw [hd]; exact fun hc => (List.mem_cons.1 hc).elim he h⟩⟩
    ·exact ⟨t', .inr ⟨j, rfl, h, by rw [hd]; exact List.mem_cons_of_mem _ hm⟩⟩
theorem index_w (tok off : Nat) (ws : List (List UInt8)) (s : List UInt8) (hl : ws.length ≤ 100000) (S : St) : WC E1 160 [.sl tok off 1 (ws.map Cl), Cl s] S (fun r => ∃ x : Int, r = .ret (.v (.int .i64 x)) S ∧ (decide (0 ≤ x) = decide (s ∈ ws))) := by
 refine Do Tryz.f160 (by kernel_rfl) (by kernel_rfl) (by kernel_rfl) (show (_ : Nat) ≤ _ from by show (_ : Nat) ≤ _; simp [Tryz.f160]) ?_
 have key := fun t h0 h1 h7 h8 => Ze tok off ws s hl S ws.length 0 t (by omega) h0 h1 h7 h8
 unfold Ot at key
 simp only [Tryz.f160] at key
 have hL := yU S tok off (ws.map Cl)
 rw [List.length_map] at hL
 simp only [A8,Bk,B3,D1,Ba,Bo,A9,A6,A5,A4,Bd,Bc,B6,A0,A1,Bm,ofOpt,Be,Bv,Nat.reduceLT,Nat.reduceAdd,Nat.reduceEqDiff,Aa,Ab,Ac,Ae,Tryz.f160,hL]
 refine WX.mono (key _ ?_ ?_ ?_ ?_) ?_
 ·simp only [A0,A1,Nat.reduceEqDiff,Aa,Ab]
 ·simp only [A0,A1,Nat.reduceEqDiff,Aa,Ab]
 ·simp only [A0,A1,Nat.reduceEqDiff,Aa,Ab]; rfl
 ·simp only [A0,A1,Nat.reduceEqDiff,Aa,Ab]; rfl
 ·rintro r ⟨t', ⟨rfl, h⟩ | ⟨j, rfl, h, hm⟩⟩
  ·simp only [A8,Bk,Bz,Ba,Cg,Ch,Bo,A9,A6,A5,A4,Bd,Bc,A0,ofOpt,Be,Bi,By,Bg,Cd,Nat.reduceLT,Aa,Ac]
   refine ⟨_, rfl, ?_⟩
   rw [List.drop_zero] at h
   rw [decide_eq_false h]; rfl
  ·unfold Dp at h
   simp only [Co,Cq,Bi,By,Bg,Cd,h]
   refine ⟨_, rfl, ?_⟩
   rw [List.drop_zero] at hm
   rw [decide_eq_true hm, decide_eq_true (show (0 : Int) ≤ (j : Int) by omega)]
theorem fnOk160 : ∃ fn, E1.F 160 = some fn := Option.isSome_iff_exists.1 (by kernel_rfl)
theorem Sm (tok off : Nat) (ws : List (List UInt8)) (s : List UInt8) (hl : ws.length ≤ 100000) (S : St) : WC E1 129 [.sl tok off 1 (ws.map Cl), Cl s] S (fun r => r = .ret (.v (.bool (decide (s ∈ ws)))) S) := by
 refine Do Tryz.f129 (by kernel_rfl) (by kernel_rfl) (by kernel_rfl) (show (_ : Nat) ≤ _ from by show (_ : Nat) ≤ _; simp [Tryz.f129]) ?_
 obtain ⟨fn1, hf1⟩ := fnOk160
 simp only [A8,Bk,Ba,Bo,A9,A6,Bb,A5,A4,Bd,Bc,B6,A0,A1,Bm,B0,ofOpt,Be,Nat.reduceLT,Nat.reduceAdd,Nat.reduceEqDiff,Aa,Ab,Ac,Ae,Aj,Ak,Tryz.f129,hf1]
 refine WC.mono (index_w tok off ws s hl S) ?_
 rintro _ ⟨x, rfl, hx⟩
 simp only [Bz,Ba,Bo,A9,A6,A5,Bf,A4,Bd,Bc,A0,A1,ofOpt,Be,Bv,B5,Bi,By,Bg,Cd,Ei,Nat.reduceLT,Nat.reduceEqDiff,Aa,Ab,Ad,Am,ge_iff_le,hx]
def Gq : Nat → List UInt8 → Nat
 | 0, _ => 0
 | n + 1, l => if Er [45, 45] (l.drop (cnt Dw l)) then cnt Dw l + (cnt Jw (l.drop (cnt Dw l)) + Gq n (l.drop (cnt Dw l + cnt Jw (l.drop (cnt Dw l))))) else cnt Dw l
theorem O2 (n : Nat) (l : List UInt8) : Gq (n + 1) l = if Er [45, 45] (l.drop (cnt Dw l)) then cnt Dw l + (cnt Jw (l.drop (cnt Dw l)) + Gq n (l.drop (cnt Dw l + cnt Jw (l.drop (cnt Dw l))))) else cnt Dw l := rfl
theorem Kd : ∀ (n : Nat) (l : List UInt8), Gq n l ≤ l.length
 | 0, l => Nat.zero_le _
 | n + 1, l => by
  have h1 := Sn Dw l
  have h2 := Sn Jw (l.drop (cnt Dw l))
  have h3 := Kd n (l.drop (cnt Dw l + cnt Jw (l.drop (cnt Dw l))))
  unfold Gq
  simp only [List.length_drop] at h2 h3
  split <;> omega
noncomputable def X9 : Code := match Tryz.f65.body with
 | some (.seq _ (.block _ (.loop c))) => c
 | _ => .skip
theorem oC : ∃ fn, E1.F 96 = some fn := Option.isSome_iff_exists.1 (by kernel_rfl)
theorem zO : ∃ fn, E1.F 85 = some fn := Option.isSome_iff_exists.1 (by kernel_rfl)
theorem dash_len {l : List UInt8} (h : Er [45, 45] l = true) : 1 ≤ cnt Jw l := by
 unfold Er at h
 rw [decide_eq_true_iff] at h
 cases l with
 | nil => cases h
 | cons a r =>
  cases r with
  | nil => cases h
  | cons b r =>
   simp at h
   obtain ⟨rfl, rfl⟩ := h
   unfold cnt
   rw [if_pos (by decide)]; omega
set_option maxHeartbeats 4000000 in
theorem bB (l : List UInt8) (hl : l.length ≤ 100000) (S : St) : ∀ (n i : Nat) (t : T AV), l.length - i < n → i ≤ l.length → t.get 0 = some (Cl l) → t.get 1 = some (Dp i) →
  WX E1 17 (.loop X9) ⟨t, []⟩ S (fun r => ∃ t', r = .out .ret ⟨t', []⟩ S ∧ t'.get 4 = some (Dp (i + Gq n (l.drop i))))
 | 0, i, t, hn, hi, h0, h1 => absurd hn (Nat.not_lt_zero _)
 | n + 1, i, t, hn, hi, h0, h1 => by
  refine Ew (Eg ?_)
  obtain ⟨fn1, hf1⟩ := oC
  obtain ⟨fn2, hf2⟩ := zO
  have hc1 := Sn Dw (l.drop i)
  rw [List.length_drop] at hc1
  have hs := iJ l (i + cnt Dw (l.drop i)) (by omega)
  have hdd : l.drop (i + cnt Dw (l.drop i)) = (l.drop i).drop (cnt Dw (l.drop i)) := by rw [List.drop_drop]
  simp only [Cl,Dp] at h0 h1 ⊢
  simp only [A8,Bk,B3,A9,A6,Bb,A5,A4,Bd,Bc,A0,Bm,B0,ofOpt,Nat.reduceLT,Nat.reduceEqDiff,Aa,Ab,Ac,Aj,Ak,X9,Tryz.f65,h0,h1,hf1]
  refine WC.mono (Uu blankT l hl i hi S) ?_
  rintro _ rfl
  simp only [Dp]
  simp only [A8,Bk,Ba,Bo,A9,A6,Bb,A5,Bf,A4,Bd,Bc,A0,Bm,B0,ofOpt,Be,Bv,El,Nat.reduceLT,Nat.reduceEqDiff,Aa,Ab,Ac,Aj,Ak,Option.toList,Ay,Az,h0,h1,hf2,hs]
  refine WC.mono (pre_w (l.drop (i + cnt Dw (l.drop i))) [45, 45] S) ?_
  rintro _ rfl
  cases hb : Er [45, 45] (l.drop (i + cnt Dw (l.drop i)))
  ·have e : Gq (n + 1) (l.drop i) = cnt Dw (l.drop i) := by unfold Gq; rw [← hdd, hb]; rfl
   simp only [C1,Br,A8,Bk,Bn,Bz,Ba,Co,Cq,Bo,A9,A6,Bb,A5,Bf,Cp,A4,Bd,Bc,A0,Bm,B0,ofOpt,Bv,El,Ce,Ct,Nat.reduceLT,Nat.reduceEqDiff,Aa,Ab,Ac,Aj,Ak,Au,h0,h1,hf1,e]
   exact ⟨_, rfl, by simp only [A0,Nat.reduceEqDiff,Aa]⟩
  ·have e : Gq (n + 1) (l.drop i) = cnt Dw (l.drop i) + (cnt Jw (l.drop (i + cnt Dw (l.drop i))) + Gq n (l.drop (i + cnt Dw (l.drop i) + cnt Jw (l.drop (i + cnt Dw (l.drop i)))))) := by
    rw [O2, ← hdd, hb]; simp only [Aa,List.drop_drop,Nat.add_assoc]
   simp only [C1,Br,A8,Bk,Bn,Bz,Ba,Co,Cq,Bo,A9,A6,Bb,A5,Bf,Cb,A4,Bd,Bc,A0,Bm,B0,ofOpt,Bv,El,Ce,Ct,Nat.reduceLT,Nat.reduceEqDiff,Aa,Ab,Ac,Aj,Ak,Ar,h0,h1,hf1]
   refine WC.mono (Uu notEndT l hl (i + cnt Dw (l.drop i)) (by omega) S) ?_
   rintro _ rfl
   simp only [Dp]
   simp only [B4,Bw,Bo,A9,A6,A5,Bf,A4,Bd,Bc,A0,ofOpt,Nat.reduceLT,Nat.reduceEqDiff,Aa,Ab,Ac]
   have hc2 := Sn Jw (l.drop (i + cnt Dw (l.drop i)))
   rw [List.length_drop] at hc2
   have hc3 := dash_len hb
   refine WX.mono (bB l hl S n (i + cnt Dw (l.drop i) + cnt Jw (l.drop (i + cnt Dw (l.drop i)))) _ (by omega) (by omega) ?_ ?_) ?_
   ·simp only [A0,Nat.reduceEqDiff,Ab,h0]; rfl
   ·simp only [A0,Nat.reduceEqDiff,Aa]; rfl
   ·rintro r ⟨t', rfl, h⟩
    refine ⟨t', rfl, ?_⟩
    rw [h, e]
    show some (Dp _) = some (Dp _)
    congr 2; omega
theorem wY (l : List UInt8) (hl : l.length ≤ 100000) (n i : Nat) (hn : l.length - i < n) (hi : i ≤ l.length) (S : St) : WC E1 65 [Cl l, Dp i] S (fun r => r = .ret (Dp (i + Gq n (l.drop i))) S) := by
 refine Do Tryz.f65 (by kernel_rfl) (by kernel_rfl) (by kernel_rfl) (show (_ : Nat) ≤ _ from by show (_ : Nat) ≤ _; simp [Tryz.f65]) ?_
 have key := fun t h0 h1 => bB l hl S n i t hn hi h0 h1
 unfold X9 at key
 simp only [Tryz.f65] at key
 simp only [A8,Bk,B3,D1,Ba,Bo,A9,A6,A5,A4,Bd,Bc,B6,ofOpt,Be,Nat.reduceLT,Nat.reduceAdd,Ac,Ae,Tryz.f65]
 refine WX.mono (key _ ?_ ?_) ?_
 ·simp only [A0,A1,Nat.reduceEqDiff,Aa,Ab]
 ·simp only [A0,A1,Nat.reduceEqDiff,Aa,Ab]
 ·rintro r ⟨t', rfl, h⟩
  simp only [Cq,Bi,By,Bg,Cd,h]
end Go.Ax
noncomputable section
namespace Go.Ax
open Go.RowKit Go.Proofs
set_option maxRecDepth 100000
def R2 : List (List UInt8) := [[110, 111, 100, 101], [114, 101, 116, 117, 114, 110, 115], [118, 97, 114], [108, 101, 116], [116, 101, 108], [105, 110, 116], [98, 111, 111, 108], [102, 117, 116, 117, 114, 101], [119, 104, 101, 110], [110, 111, 116], [97, 110, 100], [111, 114], [120, 111, 114], [105, 102], [116, 104, 101, 110], [101, 108, 115, 101], [112, 114, 101], [102, 98, 121], [109, 101, 114, 103, 101], [97, 115, 121, 110, 99], [97, 119, 97, 105, 116], [97, 102, 116, 101, 114], [116, 114, 117, 101], [102, 97, 108, 115, 101], [109, 111, 100]]
def F7 : List (List UInt8) := [[60, 62], [60, 61], [62, 61], [45, 62], [40], [41], [44], [59], [58], [61], [60], [62], [43], [45], [42], [47]]
structure Tk where
 kind : Nat
 pos : Nat
 text : List UInt8
 num : Nat
def P1 (n : Nat) : AV := .v (.int .u64 (n : Int))
def Da (t : Tk) : List AV := [Dp t.kind, Dp t.pos, Cl t.text, P1 t.num]
def E3 (t : Tk) : AV := .agg (Da t)
def Cz : Tk := ⟨0, 0, [], 0⟩
def L7 (l : List UInt8) (i : Nat) : Tk × Nat :=
 if l.take (cnt Ek l) ∈ R2 then (⟨3, i, l.take (cnt Ek l), 0⟩, 0) else if 30 < cnt Ek l then (Cz, 3) else (⟨1, i, l.take (cnt Ek l), 0⟩, 0)
def Yy (l : List UInt8) (i : Nat) : Option (Tk × Nat) :=
 if 1 < cnt Df l ∧ l.head? = some 48 then some (Cz, 1) else if Hw 0 (l.take (cnt Df l)) < 18446744073709551616 then (if 9223372036854775808 < Hw 0 (l.take (cnt Df l)) then some (Cz, 3) else some (⟨2, i, l.take (cnt Df l), Hw 0 (l.take (cnt Df l))⟩, 0)) else some (Cz, 3)
def Nq (l : List UInt8) (i : Nat) : Tk × Nat := match F7.find? (fun s => Er s l) with
 | some s => (⟨4, i, s, 0⟩, 0)
 | none => (Cz, 1)
def G8 (l : List UInt8) (i : Nat) : Option (Tk × Nat) := match l with
 | [] => none
 | b :: _ => if Ho b then some (L7 l i) else if Df b then Yy l i else some (Nq l i)
def Ej (S S' : St) : Prop := S.next ≤ S'.next ∧ ∀ id, id < S.next → S'.mem.get id = S.mem.get id
theorem Ej.refl (S : St) : Ej S S := ⟨Nat.le_refl _, fun _ _ => rfl⟩
theorem Ej.trans {S S1 S2 : St} (h : Ej S S1) (k : Ej S1 S2) : Ej S S2 := ⟨Nat.le_trans h.1 k.1, fun id hid => (k.2 id (Nat.lt_of_lt_of_le hid h.1)).trans (h.2 id hid)⟩
def St.put (S : St) (id : Nat) (cs : List AV) : St := { S with mem := S.mem.set id (some (.box cs)) }
theorem Dj (S : St) (cs : List AV) : Ej S (S.newBox cs) := ⟨Nat.le_succ _, fun id hid => by
 show (S.mem.set S.next _).get id = _
 rw [T.get_set, if_neg (by omega)]⟩
theorem Ep {S S' : St} (h : Ej S S') {id : Nat} (hid : S.next ≤ id) (cs : List AV) : Ej S (S'.put id cs) := ⟨h.1, fun k hk => by
 show (S'.mem.set id _).get k = _
 rw [T.get_set, if_neg (by omega)]; exact h.2 k hk⟩
theorem Dq (S : St) (cs : List AV) : (S.newBox cs).mem.get S.next = some (.box cs) := by
 show (S.mem.set S.next _).get S.next = _
 rw [T.get_set, if_pos rfl]
theorem En (S : St) (id : Nat) (cs : List AV) : (S.put id cs).mem.get id = some (.box cs) := by
 show (S.mem.set id _).get id = _
 rw [T.get_set, if_pos rfl]
theorem a68 : Ff Tryz.prog 68 = some true := by kernel_rfl
theorem s68 : Fd Tryz.prog 68 = some 4 := by kernel_rfl
theorem wO {S : St} {id : Nat} {cs ys : List AV} (h : S.mem.get id = some (.box cs)) (hl : cs.length = 4) (hy : ys.length = 4) : C5 Tryz.prog S 68 (.ptr id 0) (.agg ys) = some (S.put id ys) := by
 have h2 : (AV.agg ys).noTup = true := rfl
 simp [C5, h, s68, h2, AV.cells, hl, hy, St.put, List.drop_eq_nil_of_le]
theorem Kc (S : St) (cs ys : List AV) (hl : cs.length = 4) (hy : ys.length = 4) : C5 Tryz.prog (S.newBox cs) 68 (.ptr S.next 0) (.agg ys) = some ((S.newBox cs).put S.next ys) := wO (Dq S cs) hl hy
theorem Hg (S : St) (id : Nat) (cs : List AV) (hl : cs.length = 4) : Cv Tryz.prog (S.put id cs) 68 (.ptr id 0) = some (.agg cs) := by
 have e : cs.take 4 = cs := List.take_of_length_le (by omega)
 simp [Cv, Dc, En, a68, s68, hl, e]
theorem Fh (S : St) : Iw Tryz.prog S 68 = some (.ptr S.next 0, S.newBox (Da Cz)) := rfl
theorem Wy : Gx Tryz.prog 68 [] = some (.agg (Da Cz)) := rfl
theorem b68_3 (a b c : AV) (k i : Int) (s : ByteArray) (ha : a = .v (.int .i64 k)) (hb : b = .v (.int .i64 i)) (hc : c = .v (.string s)) : Gx Tryz.prog 68 [(0, a), (1, b), (2, c)] = some (.agg [a, b, c, P1 0]) := by
 subst ha; subst hb; subst hc; rfl
theorem b68_4 (k i u : Int) (s : ByteArray) : Gx Tryz.prog 68 [(0, .v (.int .i64 k)), (1, .v (.int .i64 i)), (2, .v (.string s)), (3, .v (.int .u64 u))] = some (.agg [.v (.int .i64 k), .v (.int .i64 i), .v (.string s), .v (.int .u64 u)]) := rfl
theorem rX : ∃ fn, E1.F 129 = some fn := Option.isSome_iff_exists.1 (by kernel_rfl)
theorem fnOk132 : ∃ fn, E1.F 132 = some fn := Option.isSome_iff_exists.1 (by kernel_rfl)
theorem fnOk134 : ∃ fn, E1.F 134 = some fn := Option.isSome_iff_exists.1 (by kernel_rfl)
theorem fnOk100 : ∃ fn, E1.F 100 = some fn := Option.isSome_iff_exists.1 (by kernel_rfl)
theorem fnOk102 : ∃ fn, E1.F 102 = some fn := Option.isSome_iff_exists.1 (by kernel_rfl)
theorem fnOk103 : ∃ fn, E1.F 103 = some fn := Option.isSome_iff_exists.1 (by kernel_rfl)
theorem fnOk133 : ∃ fn, E1.F 133 = some fn := Option.isSome_iff_exists.1 (by kernel_rfl)
theorem zR : ∃ fn, E1.F 65 = some fn := Option.isSome_iff_exists.1 (by kernel_rfl)
theorem fnOk66 : ∃ fn, E1.F 66 = some fn := Option.isSome_iff_exists.1 (by kernel_rfl)
theorem z9 : Kt Tryz.prog 9 = some (.v (.string ⟨#[]⟩)) := by kernel_rfl
set_option maxHeartbeats 4000000 in
theorem words_w (S : St) : WC E1 132 [] S (fun r => r = .ret (.sl 1 0 1 (R2.map Cl)) S) := by
 refine Do Tryz.f132 (by kernel_rfl) (by kernel_rfl) (by kernel_rfl) (show (_ : Nat) ≤ _ from by show (_ : Nat) ≤ _; simp [Tryz.f132]) ?_
 simp only [A8,Bk,Ba,Bo,A9,A6,A5,A4,Bd,Bc,B6,ofOpt,Be,Bv,Bt,Nat.reduceLT,Ac,Ae,Tryz.f132]
 have h : ∀ ps, ps = (List.range 25).zip (R2.map Cl) → Dl Tryz.prog 69 25 ps = some (.sl 1 0 1 (R2.map Cl)) := fun ps h => by subst h; kernel_rfl
 rw [h _ (by kernel_rfl)]
 simp only [Bz,Ba,Bo,A9,A6,A5,A4,Bd,Bc,A0,A1,ofOpt,Bi,By,Bg,Cd,Nat.reduceLT,Nat.reduceEqDiff,Aa,Ab,Ad]
set_option maxHeartbeats 4000000 in
theorem signs_w (S : St) : WC E1 134 [] S (fun r => r = .ret (.sl 1 0 1 (F7.map Cl)) S) := by
 refine Do Tryz.f134 (by kernel_rfl) (by kernel_rfl) (by kernel_rfl) (show (_ : Nat) ≤ _ from by show (_ : Nat) ≤ _; simp [Tryz.f134]) ?_
 simp only [A8,Bk,Ba,Bo,A9,A6,A5,A4,Bd,Bc,B6,ofOpt,Be,Bv,Bt,Nat.reduceLT,Ac,Ae,Tryz.f134]
 have h : ∀ ps, ps = (List.range 16).zip (F7.map Cl) → Dl Tryz.prog 69 16 ps = some (.sl 1 0 1 (F7.map Cl)) := fun ps h => by subst h; kernel_rfl
 rw [h _ (by kernel_rfl)]
 simp only [Bz,Ba,Bo,A9,A6,A5,A4,Bd,Bc,A0,A1,ofOpt,Bi,By,Bg,Cd,Nat.reduceLT,Nat.reduceEqDiff,Aa,Ab,Ad]
theorem Xz (p : UInt8 → Bool) : ∀ l : List UInt8, (l.take (cnt p l)).all p = true
 | [] => rfl
 | b :: r => by
  unfold cnt
  split
  ·rename_i h; rw [List.take_succ_cons, List.all_cons, h, Xz p r]; rfl
  ·rfl
theorem parse_w (s : List UInt8) (hn : s ≠ []) (hd : s.all Df = true) (h : Hw 0 s < 18446744073709551616) (hl : s.length ≤ 100000) (S : St) : WC E1 133 [Cl s, .v (.int .i64 10), .v (.int .i64 64)] S (fun r => r = .ret (.tup [P1 (Hw 0 s), .v .nilIface]) S) := by
 refine Lv (g := Fp puI) (by kernel_rfl) ?_
 have hs : (⟨⟨s⟩⟩ : ByteArray).size = s.length := rfl
 have hc : s ≠ [] ∧ s.all Rl = true ∧ Hw 0 s < 18446744073709551616 ∧ (⟨⟨s⟩⟩ : ByteArray).size ≤ 9223372036854775806 := ⟨hn, hd, h, by rw [hs]; omega⟩
 have e : puI [Cl s, .v (.int .i64 10), .v (.int .i64 64)] = some (.tup [P1 (Hw 0 s), .v .nilIface]) := by
  show (if s ≠ [] ∧ s.all Rl = true ∧ Hw 0 s < 18446744073709551616 ∧ (⟨⟨s⟩⟩ : ByteArray).size ≤ 9223372036854775806 then _ else _) = _
  rw [if_pos hc]; rfl
 simp only [Fp,e]
theorem range_w (s : List UInt8) (hn : s ≠ []) (hd : s.all Df = true) (h : ¬ Hw 0 s < 18446744073709551616) (hl : s.length ≤ 100000) (S : St) : WC E1 133 [Cl s, .v (.int .i64 10), .v (.int .i64 64)] S (fun r => r = .ret (.tup [P1 18446744073709551615, .iface 251 (.ep [])]) S) := by
 refine Lv (g := Fp puI) (by kernel_rfl) ?_
 have hs : (⟨⟨s⟩⟩ : ByteArray).size = s.length := rfl
 have hc : ¬ (s ≠ [] ∧ s.all Rl = true ∧ Hw 0 s < 18446744073709551616 ∧ (⟨⟨s⟩⟩ : ByteArray).size ≤ 9223372036854775806) := fun hh => h hh.2.2.1
 have hc2 : s ≠ [] ∧ s.all Rl = true ∧ 18446744073709551616 ≤ Hw 0 s ∧ (⟨⟨s⟩⟩ : ByteArray).size ≤ 281474976710656 := ⟨hn, hd, by omega, by rw [hs]; omega⟩
 have e : puI [Cl s, .v (.int .i64 10), .v (.int .i64 64)] = some (.tup [P1 18446744073709551615, .iface 251 (.ep [])]) := by
  show (if s ≠ [] ∧ s.all Rl = true ∧ Hw 0 s < 18446744073709551616 ∧ (⟨⟨s⟩⟩ : ByteArray).size ≤ 9223372036854775806 then _ else if s ≠ [] ∧ s.all Rl = true ∧ 18446744073709551616 ≤ Hw 0 s ∧ (⟨⟨s⟩⟩ : ByteArray).size ≤ 281474976710656 then _ else _) = _
  rw [if_neg hc, if_pos hc2]; rfl
 simp only [Fp,e]
def gX (S : St) (p : Tk × Nat) (r : R) : Prop := ∃ S', r = .ret (.tup [E3 p.1, Dp p.2]) S' ∧ Ej S S'
set_option maxHeartbeats 4000000 in
theorem word_w (l : List UInt8) (hl : l.length ≤ 100000) (i : Nat) (hi : i ≤ l.length) (S : St) : WC E1 100 [Cl l, Dp i] S (gX S (L7 (l.drop i) i)) := by
 refine Do Tryz.f100 (by kernel_rfl) (by kernel_rfl) (by kernel_rfl) (show (_ : Nat) ≤ _ from by show (_ : Nat) ≤ _; simp [Tryz.f100]) ?_
 obtain ⟨fn1, hf1⟩ := oC
 obtain ⟨fn2, hf2⟩ := rX
 obtain ⟨fn3, hf3⟩ := fnOk132
 have hc := Sn Ek (l.drop i)
 rw [List.length_drop] at hc
 have hs := X7 l i (i + cnt Ek (l.drop i)) (by omega) (by omega)
 rw [Nat.add_sub_cancel_left] at hs
 have hL := fun S => Tz S ((l.drop i).take (cnt Ek (l.drop i)))
 have hlen : ((l.drop i).take (cnt Ek (l.drop i))).length = cnt Ek (l.drop i) := by rw [List.length_take, List.length_drop]; omega
 rw [hlen] at hL
 simp only [Cl,Dp]
 simp only [A8,Bk,Ba,Bo,A9,A6,Bb,A5,A4,Bd,Bc,B6,A0,A1,Bm,B0,ofOpt,ofOptS,Be,Bv,Nat.reduceLT,Nat.reduceAdd,Nat.reduceEqDiff,Aa,Ab,Ac,Ae,Aj,Ak,Tryz.f100,Fh,hf1]
 refine WC.mono (Uu wordBT l hl i hi _) ?_
 rintro _ rfl
 simp only [Dp]
 simp only [A8,Bk,B3,Ba,Bo,A9,A6,Bb,A5,Bf,A4,Bd,Bc,A0,A1,Bm,B0,ofOpt,Bv,El,Nat.reduceLT,Nat.reduceEqDiff,Aa,Ab,Ac,Ak,Option.toList,Ay,hf3,hs]
 refine WC.mono (words_w _) ?_
 rintro _ rfl
 simp only [A9,A6,Bb,A5,Bf,A4,Bd,Bc,A0,A1,Bm,B0,ofOpt,Nat.reduceLT,Nat.reduceEqDiff,Aa,Ab,Ac,Aj,Ak,hf2]
 refine WC.mono (Sm 1 0 R2 ((l.drop i).take (cnt Ek (l.drop i))) (by decide) _) ?_
 rintro _ rfl
 have hst : ∀ ys : List AV, ys.length = 4 → C5 Tryz.prog (S.newBox (Da Cz)) 68 (.ptr S.next 0) (.agg ys) = some ((S.newBox (Da Cz)).put S.next ys) := fun ys hy => Kc S _ ys rfl hy
 have keep : ∀ ys, Ej S ((S.newBox (Da Cz)).put S.next ys) := fun ys => Ep (Dj S _) (Nat.le_refl _) ys
 by_cases hm : (l.drop i).take (cnt Ek (l.drop i)) ∈ R2
 ·have e : L7 (l.drop i) i = (⟨3, i, (l.drop i).take (cnt Ek (l.drop i)), 0⟩, 0) := by unfold L7; rw [if_pos hm]
  rw [decide_eq_true hm]
  have hb := b68_3 _ _ _ 3 i ⟨⟨(l.drop i).take (cnt Ek (l.drop i))⟩⟩ rfl rfl rfl
  have h1 := hst [.v (.int .i64 3), .v (.int .i64 i), .v (.string ⟨⟨(l.drop i).take (cnt Ek (l.drop i))⟩⟩), P1 0] rfl
  have h2 := Hg (S.newBox (Da Cz)) S.next [.v (.int .i64 3), .v (.int .i64 i), .v (.string ⟨⟨(l.drop i).take (cnt Ek (l.drop i))⟩⟩), P1 0] rfl
  simp only [A8,Bk,Bn,Bz,Ba,Co,Cq,Bo,A9,A6,Bh,Bj,A5,Bf,Cp,A4,Bd,Bc,A0,A1,Bm,ofOpt,Be,Bv,Bt,Bi,By,Bg,Cd,Nat.reduceLT,Nat.reduceEqDiff,Aa,Ab,Ac,hb,h1,h2]
  rw [e]
  exact ⟨_, rfl, keep _⟩
 ·rw [decide_eq_false hm]
  by_cases h30 : 30 < cnt Ek (l.drop i)
  ·have e : L7 (l.drop i) i = (Cz, 3) := by unfold L7; rw [if_neg hm, if_pos h30]
   have hg : ((cnt Ek (l.drop i) : Nat) : Int) > 30 := by omega
   have h1 := hst (Da Cz) rfl
   have h2 := Hg (S.newBox (Da Cz)) S.next (Da Cz) rfl
   simp only [Br,A8,Bk,Bn,Bz,Ba,Co,Bw,Cq,Bo,A9,A6,Bh,Bj,A5,Bf,Cp,Cb,A4,Bd,Bc,A0,A1,Bm,ofOpt,Be,Bv,Bt,B5,Bi,By,Bg,Cd,Dm,Nat.reduceLT,Nat.reduceEqDiff,Aa,Ab,Ac,Am,Ap,hL,hg,Wy,h1,h2]
   rw [e]
   exact ⟨_, rfl, keep _⟩
  ·have e : L7 (l.drop i) i = (⟨1, i, (l.drop i).take (cnt Ek (l.drop i)), 0⟩, 0) := by unfold L7; rw [if_neg hm, if_neg h30]
   have hg : ¬ ((cnt Ek (l.drop i) : Nat) : Int) > 30 := by omega
   have hb := b68_3 _ _ _ 1 i ⟨⟨(l.drop i).take (cnt Ek (l.drop i))⟩⟩ rfl rfl rfl
   have h1 := hst [.v (.int .i64 1), .v (.int .i64 i), .v (.string ⟨⟨(l.drop i).take (cnt Ek (l.drop i))⟩⟩), P1 0] rfl
   have h2 := Hg (S.newBox (Da Cz)) S.next [.v (.int .i64 1), .v (.int .i64 i), .v (.string ⟨⟨(l.drop i).take (cnt Ek (l.drop i))⟩⟩), P1 0] rfl
   simp only [Br,A8,Bk,Bn,Bz,Ba,Bw,Bo,A9,A6,Bh,Bj,A5,Bf,Cb,A4,Bd,Bc,A0,A1,Bm,ofOpt,Be,Bv,Bt,B5,Bi,By,Bg,Cd,Dm,Nat.reduceLT,Nat.reduceEqDiff,Aa,Ab,Ac,Am,Aq,hL,hg,hb,h1,h2]
   rw [e]
   exact ⟨_, rfl, keep _⟩
end Go.Ax
noncomputable section
namespace Go.Ax
open Go.RowKit Go.Proofs
set_option maxRecDepth 100000
theorem Nt (a b : AV) : Gy Tryz.prog 66 a b = false := by
 have h : Tryz.prog.underlying 66 = some (.int .u64) := rfl
 unfold Gy; rw [h]
theorem cA : Gy Tryz.prog 110 (.iface 251 (.ep [])) (.v .nilIface) = true := by kernel_rfl
theorem Tv : Gy Tryz.prog 110 (.v .nilIface) (.v .nilIface) = false := by kernel_rfl
def nilO (r : OR) (S : St) (x : Option AV) : OR := match x with
 | some (.v .nilIface) => .val (.v (.bool false)) S
 | _ => r
def sF (P : Program) (G : Gl) (f : T AV) (S : St) (o : Oper) (op : BinOp) (t : TypeId) (a b : AV) : OR := Mi P G f S o op t a b
theorem Xl (f : T AV) (S : St) (k : Nat) (dst : Option Tmp) (ty : TypeId) (pos : String) (af : Array Edge) (gd : Option (Nat × Bool)) :
  Mi Tryz.prog gR f S { dst := dst, op := .binOp .neq 110 (.tmp k) (.const .nilIface) 110, type := ty, pos := pos, after := af, guard := gd } .neq 110 (.v .nilIface) (.v .nilIface) =
  nilO (sF Tryz.prog gR f S { dst := dst, op := .binOp .neq 110 (.tmp k) (.const .nilIface) 110, type := ty, pos := pos, after := af, guard := gd } .neq 110 (.v .nilIface) (.v .nilIface)) S (f.get k) := by
 unfold nilO
 split
 ·rename_i hf
  have h0 : La Tryz.prog .neq 110 (.v .nilIface) (.v .nilIface) = none := by kernel_rfl
  unfold Mi
  rw [h0]
  have hg : D2 gR f (.tmp k) = some .nilIface := by unfold D2; simp only [Bc,hf]; rfl
  have hc : D2 gR f (.const .nilIface) = some .nilIface := rfl
  unfold ground
  simp only [Op.operands,List.all_cons,List.all_nil,hg,hc,Option.isSome_some,Bool.and_self,Aa]
  have e : execOp (fun x => (D2 gR f x).getD undef) { dst := dst, op := .binOp .neq 110 (.tmp k) (.const .nilIface) 110, type := ty, pos := pos, after := af, guard := gd } = execOp (fun _ => .nilIface) { dst := none, op := .binOp .neq 110 (.tmp 29) (.const .nilIface) 110, type := 4, pos := "", after := #[], guard := none } := by
   simp only [execOp,hg,hc,Ae]
   rfl
  rw [e]
  have e3 : (Qg Tryz.prog 4000 (execOp (fun _ => Value.nilIface) { dst := none, op := .binOp .neq 110 (.tmp 29) (.const .nilIface) 110, type := 4, pos := "", after := #[], guard := none })) = some (.bool false) := by kernel_rfl
  rw [e3]; rfl
 ·rfl
theorem Ts (r : OR) (S : St) : nilO r S (some (.v .nilIface)) = .val (.v (.bool false)) S := rfl
theorem sD : D5 .neq (.v .nilIface) (.v .nilIface) = none := rfl
theorem uX (l : List UInt8) (i : Nat) (h : i < l.length) : (l.drop i).head? = some l[i] := by rw [List.drop_eq_getElem_cons h]; rfl
set_option maxHeartbeats 8000000 in
theorem xW (l : List UInt8) (hl : l.length ≤ 100000) (i : Nat) (hi : i < l.length) (hd : Df l[i] = true) (S : St) (p : Tk × Nat) (hp : Yy (l.drop i) i = some p) : WC E1 102 [Cl l, Dp i] S (gX S p) := by
 refine Do Tryz.f102 (by kernel_rfl) (by kernel_rfl) (by kernel_rfl) (show (_ : Nat) ≤ _ from by show (_ : Nat) ≤ _; simp [Tryz.f102]) ?_
 obtain ⟨fn1, hf1⟩ := oC
 obtain ⟨fn2, hf2⟩ := fnOk133
 have hc := Sn Df (l.drop i)
 rw [List.length_drop] at hc
 have hc1 : 1 ≤ cnt Df (l.drop i) := by rw [List.drop_eq_getElem_cons hi, cnt, if_pos hd]; omega
 have hs := X7 l i (i + cnt Df (l.drop i)) (by omega) (by omega)
 rw [Nat.add_sub_cancel_left] at hs
 have hL := fun S => Tz S ((l.drop i).take (cnt Df (l.drop i)))
 have hlen : ((l.drop i).take (cnt Df (l.drop i))).length = cnt Df (l.drop i) := by rw [List.length_take, List.length_drop]; omega
 rw [hlen] at hL
 have h00 : ((l.drop i).take (cnt Df (l.drop i)))[0]'(by omega) = l[i] := by simp
 have hx := idx9 ((l.drop i).take (cnt Df (l.drop i))) 0 (by omega)
 rw [h00] at hx
 simp only [Int.ofNat_eq_natCast,Int.cast_ofNat_Int] at hx
 have hst : ∀ ys : List AV, ys.length = 4 → C5 Tryz.prog (S.newBox (Da Cz)) 68 (.ptr S.next 0) (.agg ys) = some ((S.newBox (Da Cz)).put S.next ys) := fun ys hy => Kc S _ ys rfl hy
 have keep : ∀ ys, Ej S ((S.newBox (Da Cz)).put S.next ys) := fun ys => Ep (Dj S _) (Nat.le_refl _) ys
 have z1 := hst (Da Cz) rfl
 have z2 := Hg (S.newBox (Da Cz)) S.next (Da Cz) rfl
 simp only [Cl,Dp]
 simp only [A8,Bk,Ba,Bo,A9,A6,Bb,A5,A4,Bd,Bc,B6,A0,A1,Bm,B0,ofOpt,ofOptS,Be,Bv,Nat.reduceLT,Nat.reduceAdd,Nat.reduceEqDiff,Aa,Ab,Ac,Ae,Aj,Ak,Tryz.f102,Fh,hf1]
 refine WC.mono (Uu digitT l hl i (by omega) _) ?_
 rintro _ rfl
 simp only [Dp]
 have h48 : (((l[i].toNat : Nat) : Int) == 48) = decide (l[i] = 48) := by
  rw [Bool.eq_iff_iff]; simp only [beq_iff_eq,decide_eq_true_iff]
  constructor
  ·intro h; exact UInt8.toNat_inj.1 (by show l[i].toNat = 48; omega)
  ·intro h; rw [h]; rfl
 unfold Yy at hp
 rw [uX l i hi] at hp
 by_cases hz : 1 < cnt Df (l.drop i) ∧ l[i] = 48
 ·rw [if_pos ⟨hz.1, by rw [hz.2]⟩] at hp
  injection hp with hp; subst hp
  have hg : ((cnt Df (l.drop i) : Nat) : Int) > 1 := by omega
  rw [decide_eq_true hz.2] at h48
  simp only [Br,A8,Bk,Bn,Bz,Ba,Co,Bo,A9,A6,Bh,Bb,Bj,A5,Bf,Cp,A4,Bd,Bc,A0,A1,Bm,B0,ofOpt,Be,Bv,El,Bt,B5,Bi,By,Bg,Cd,Dm,Ci,Nat.reduceLT,Nat.reduceEqDiff,Aa,Ab,Ac,Af,Ag,Ah,Ai,Aj,Ak,Al,Am,Ap,Option.toList,Ay,hf2,hs,hL,hg,hx,Js,Jx,h48,Wy,z1,z2]
  exact ⟨_, rfl, keep _⟩
 ·rw [if_neg (fun h => hz ⟨h.1, by have := h.2; injection this⟩)] at hp
  split at hp
  case isFalse =>
   rename_i hv
   injection hp with hp; subst hp
   have hpw := fun S => range_w ((l.drop i).take (cnt Df (l.drop i))) (by intro e; rw [e] at hlen; simp at hlen; omega) (Xz _ _) hv (by omega) S
   unfold Cl P1 at hpw
   by_cases hg : ((cnt Df (l.drop i) : Nat) : Int) > 1
   ·have h1 : ¬ l[i] = 48 := fun e => hz ⟨by omega, e⟩
    rw [decide_eq_false h1] at h48
    simp only [Br,A8,Bk,Bn,Ba,Bo,A9,A6,Bb,A5,Bf,Cb,A4,Bd,Bc,A0,A1,Bm,B0,ofOpt,Be,Bv,El,Bt,B5,Dm,Ci,Nat.reduceLT,Nat.reduceEqDiff,Aa,Ab,Ac,Af,Ag,Ah,Ai,Aj,Ak,Al,Am,Ap,Option.toList,Ay,hf2,hs,hL,hg,hx,Js,Jx,h48]
    refine WC.mono (hpw _) ?_
    rintro _ rfl
    simp only [Br,A8,Bk,Bn,Bz,Ba,Co,Bo,A9,Cy,A6,Bh,Bj,A5,Bf,Cp,A4,Bd,Bc,A0,A1,ofOpt,Be,Bv,El,Bt,Bi,By,Bg,Cd,Nat.reduceLT,Nat.reduceEqDiff,Aa,Ab,Ac,Af,Ag,Ah,Ai,Am,Aw,Nt,cA,B7,Wy,z1,z2]
    exact ⟨_, rfl, keep _⟩
   ·simp only [Br,A8,Bk,Bn,Ba,Bo,A9,Cy,A6,Bb,A5,Bf,Cb,A4,Bd,Bc,A0,A1,Bm,B0,ofOpt,Be,Bv,El,Bt,B5,Dm,Nat.reduceLT,Nat.reduceEqDiff,Aa,Ab,Ac,Af,Ag,Ah,Ai,Aj,Ak,Am,Aq,Ar,Av,Option.toList,Ay,hf2,hs,hL,hg]
    refine WC.mono (hpw _) ?_
    rintro _ rfl
    simp only [Br,A8,Bk,Bn,Bz,Ba,Co,Bo,A9,Cy,A6,Bh,Bj,A5,Bf,Cp,A4,Bd,Bc,A0,A1,ofOpt,Be,Bv,El,Bt,Bi,By,Bg,Cd,Nat.reduceLT,Nat.reduceEqDiff,Aa,Ab,Ac,Af,Ag,Ah,Ai,Am,Aw,Nt,cA,B7,Wy,z1,z2]
    exact ⟨_, rfl, keep _⟩
  rename_i hv
  have hpw := fun S => parse_w ((l.drop i).take (cnt Df (l.drop i))) (by intro e; rw [e] at hlen; simp at hlen; omega) (Xz _ _) hv (by omega) S
  unfold Cl P1 at hpw
  by_cases hg : ((cnt Df (l.drop i) : Nat) : Int) > 1
  ·have h1 : ¬ l[i] = 48 := fun e => hz ⟨by omega, e⟩
   rw [decide_eq_false h1] at h48
   simp only [Br,A8,Bk,Bn,Ba,Bo,A9,A6,Bb,A5,Bf,Cb,A4,Bd,Bc,A0,A1,Bm,B0,ofOpt,Be,Bv,El,Bt,B5,Dm,Ci,Nat.reduceLT,Nat.reduceEqDiff,Aa,Ab,Ac,Af,Ag,Ah,Ai,Aj,Ak,Al,Am,Ap,Option.toList,Ay,hf2,hs,hL,hg,hx,Js,Jx,h48]
   refine WC.mono (hpw _) ?_
   rintro _ rfl
   by_cases hb : ((Hw 0 ((l.drop i).take (cnt Df (l.drop i))) : Nat) : Int) > 9223372036854775808
   ·rw [if_pos (show 9223372036854775808 < Hw 0 ((l.drop i).take (cnt Df (l.drop i))) by omega)] at hp
    injection hp with hp; subst hp
    simp only [Br,A8,Bk,Bn,Bz,Ba,Co,Bo,A9,A6,Bh,Bj,A5,Bf,Cp,A4,Bd,Bc,A0,A1,ofOpt,Be,Bv,El,Bt,Bi,By,Bg,Cd,Dm,Nat.reduceLT,Nat.reduceEqDiff,Aa,Ab,Ac,Af,Ag,Ah,Ai,Al,Am,Ap,Nt,Xl,Ts,B7,Tv,sD,hb,Wy,z1,z2]
    exact ⟨_, rfl, keep _⟩
   ·rw [if_neg (show ¬ 9223372036854775808 < Hw 0 ((l.drop i).take (cnt Df (l.drop i))) by omega)] at hp
    injection hp with hp; subst hp
    have q1 := hst [.v (.int .i64 2), .v (.int .i64 i), .v (.string ⟨⟨(l.drop i).take (cnt Df (l.drop i))⟩⟩), .v (.int .u64 (Hw 0 ((l.drop i).take (cnt Df (l.drop i))) : Nat))] rfl
    have q2 := Hg (S.newBox (Da Cz)) S.next [.v (.int .i64 2), .v (.int .i64 i), .v (.string ⟨⟨(l.drop i).take (cnt Df (l.drop i))⟩⟩), .v (.int .u64 (Hw 0 ((l.drop i).take (cnt Df (l.drop i))) : Nat))] rfl
    simp only [Br,A8,Bk,Bn,Bz,Ba,Bo,A9,A6,Bh,Bj,A5,Bf,Cb,A4,Bd,Bc,A0,A1,ofOpt,Be,Bv,El,Bt,Bi,By,Bg,Cd,Dm,Nat.reduceLT,Nat.reduceEqDiff,Aa,Ab,Ac,Af,Ag,Ah,Ai,Al,Am,Aq,Nt,Xl,Ts,B7,Tv,sD,hb,b68_4,q1,q2]
    exact ⟨_, rfl, keep _⟩
  ·simp only [Br,A8,Bk,Bn,Ba,Bo,A9,Cy,A6,Bb,A5,Bf,Cb,A4,Bd,Bc,A0,A1,Bm,B0,ofOpt,Be,Bv,El,Bt,B5,Dm,Nat.reduceLT,Nat.reduceEqDiff,Aa,Ab,Ac,Af,Ag,Ah,Ai,Aj,Ak,Am,Aq,Ar,Av,Option.toList,Ay,hf2,hs,hL,hg]
   refine WC.mono (hpw _) ?_
   rintro _ rfl
   by_cases hb : ((Hw 0 ((l.drop i).take (cnt Df (l.drop i))) : Nat) : Int) > 9223372036854775808
   ·rw [if_pos (show 9223372036854775808 < Hw 0 ((l.drop i).take (cnt Df (l.drop i))) by omega)] at hp
    injection hp with hp; subst hp
    simp only [Br,A8,Bk,Bn,Bz,Ba,Co,Bo,A9,A6,Bh,Bj,A5,Bf,Cp,A4,Bd,Bc,A0,A1,ofOpt,Be,Bv,El,Bt,Bi,By,Bg,Cd,Dm,Nat.reduceLT,Nat.reduceEqDiff,Aa,Ab,Ac,Af,Ag,Ah,Ai,Al,Am,Ap,Nt,Xl,Ts,B7,Tv,sD,hb,Wy,z1,z2]
    exact ⟨_, rfl, keep _⟩
   ·rw [if_neg (show ¬ 9223372036854775808 < Hw 0 ((l.drop i).take (cnt Df (l.drop i))) by omega)] at hp
    injection hp with hp; subst hp
    have q1 := hst [.v (.int .i64 2), .v (.int .i64 i), .v (.string ⟨⟨(l.drop i).take (cnt Df (l.drop i))⟩⟩), .v (.int .u64 (Hw 0 ((l.drop i).take (cnt Df (l.drop i))) : Nat))] rfl
    have q2 := Hg (S.newBox (Da Cz)) S.next [.v (.int .i64 2), .v (.int .i64 i), .v (.string ⟨⟨(l.drop i).take (cnt Df (l.drop i))⟩⟩), .v (.int .u64 (Hw 0 ((l.drop i).take (cnt Df (l.drop i))) : Nat))] rfl
    simp only [Br,A8,Bk,Bn,Bz,Ba,Bo,A9,A6,Bh,Bj,A5,Bf,Cb,A4,Bd,Bc,A0,A1,ofOpt,Be,Bv,El,Bt,Bi,By,Bg,Cd,Dm,Nat.reduceLT,Nat.reduceEqDiff,Aa,Ab,Ac,Af,Ag,Ah,Ai,Al,Am,Aq,Nt,Xl,Ts,B7,Tv,sD,hb,b68_4,q1,q2]
    exact ⟨_, rfl, keep _⟩
noncomputable def Tc : Code := match Tryz.f103.body with
 | some (.seq _ (.seq (.seq _ (.block _ (.loop c))) _)) => c
 | _ => .skip
set_option maxHeartbeats 8000000 in
theorem bC (l : List UInt8) (i : Nat) (hi : i ≤ l.length) (S : St) (b : Nat) (hS : S.mem.get b = some (.box (Da Cz))) : ∀ (m j : Nat) (t : T AV), j + m = F7.length → t.get 0 = some (Cl l) → t.get 1 = some (Dp i) → t.get 4 = some (.ptr b 0) → t.get 8 = some (.sl 1 0 1 (F7.map Cl)) → t.get 9 = some (Dp F7.length) → t.get 10 = some (Dp j) →
  WX E1 24 (.loop Tc) ⟨t, []⟩ S (fun r => ∃ t', t'.get 4 = some (.ptr b 0) ∧ ((r = .out (.exit 0) ⟨t', []⟩ S ∧ (F7.drop j).find? (fun s => Er s (l.drop i)) = none) ∨ (∃ s, r = .out .ret ⟨t', []⟩ (S.put b (Da ⟨4, i, s, 0⟩)) ∧ t'.get 5 = some (Dp 0) ∧ (F7.drop j).find? (fun s => Er s (l.drop i)) = some s)))
 | 0, j, t, hj, h0, h1, h4, h8, h9, h10 => by
  refine Ew (Eg ?_)
  have hlt : ¬ ((j : Int) < (F7.length : Int)) := by omega
  have hd : F7.drop j = [] := List.drop_eq_nil_of_le (by omega)
  simp only [Cl,Dp] at h0 h1 h8 h9 h10 ⊢
  simp only [B8,Br,A8,Bk,Bn,B3,Dh,Ba,Cg,Bo,A9,A6,A5,Cb,A4,Bd,Bc,A0,ofOpt,Bv,B5,Dg,Nat.reduceLT,Nat.reduceEqDiff,Aa,Ab,Ac,Am,Aq,Tc,Tryz.f103,h8,h9,h10,hlt]
  refine ⟨_, ?_, .inl ⟨rfl, by rw [hd]; rfl⟩⟩
  simp only [A0,Nat.reduceEqDiff,Ab,h4]
 | m + 1, j, t, hj, h0, h1, h4, h8, h9, h10 => by
  refine Ew (Eg ?_)
  have hjl : j < F7.length := by omega
  have hlt : ((j : Int) < (F7.length : Int)) := by omega
  have hd : F7.drop j = F7[j] :: F7.drop (j + 1) := List.drop_eq_getElem_cons hjl
  have hx := zG 1 0 F7 j hjl
  have h16 : F7.length = 16 := rfl
  have hw := N6 (i := j) (by omega)
  have hs := iJ l i hi
  obtain ⟨fn1, hf1⟩ := zO
  simp only [Cl,Dp] at h0 h1 h8 h9 h10 hx ⊢
  simp only [B8,Br,A8,Bk,Bn,B3,Dh,Ba,Cg,Bo,A9,A6,Bb,A5,Cp,A4,Bd,Bc,A0,Bm,B0,ofOpt,Bv,El,B5,Dg,Nat.reduceLT,Nat.reduceEqDiff,Aa,Ab,Ac,Aj,Ak,Am,Ap,Option.toList,Ay,Az,Tc,Tryz.f103,h0,h1,h8,h9,h10,hlt,hx,rB,hf1,hs]
  refine WC.mono (pre_w (l.drop i) F7[j] S) ?_
  rintro _ rfl
  cases hb : Er F7[j] (l.drop i)
  ·simp only [B4,Br,A8,Bk,Bn,Ba,Bw,Bo,A9,A6,A5,Bf,Cb,A4,Bd,Bc,A0,ofOpt,Be,Bv,Bt,B5,Ds,Nat.reduceLT,Nat.reduceEqDiff,Aa,Ab,Ac,Am,h1,h10,hw]
   refine WX.mono (bC l i hi S b hS m (j + 1) _ (by omega) ?_ ?_ ?_ ?_ ?_ ?_) ?_
   ·simp only [A0,Nat.reduceEqDiff,Ab,h0]; rfl
   ·simp only [A0,Nat.reduceEqDiff,Ab,h1]; rfl
   ·simp only [A0,Nat.reduceEqDiff,Ab,h4]
   ·simp only [A0,Nat.reduceEqDiff,Ab,h8]
   ·simp only [A0,Nat.reduceEqDiff,Ab,h9]; rfl
   ·simp only [A0,Nat.reduceEqDiff,Aa]; rfl
   ·rintro r ⟨t', h4', ⟨rfl, h⟩ | ⟨s, rfl, h5, h⟩⟩
    ·exact ⟨t', h4', .inl ⟨rfl, by rw [hd, List.find?_cons, hb]; exact h⟩⟩
    ·exact ⟨t', h4', .inr ⟨s, rfl, h5, by rw [hd, List.find?_cons, hb]; exact h⟩⟩
  ·have hbl := b68_3 _ _ _ 4 i ⟨⟨F7[j]⟩⟩ rfl rfl rfl
   have h1s := wO hS rfl (show ([.v (.int .i64 4), .v (.int .i64 i), .v (.string ⟨⟨F7[j]⟩⟩), P1 0] : List AV).length = 4 from rfl)
   simp only [B4,C1,Br,A8,Bk,Bn,Bz,Ba,Co,Bw,Cq,Bo,A9,A6,Bh,Bj,A5,Bf,Cp,A4,Bd,Bc,A0,ofOpt,Be,Bv,Bt,B5,Ds,Nat.reduceLT,Nat.reduceEqDiff,Aa,Ab,Ac,Am,h1,h4,h10,hbl,h1s]
   refine ⟨_, ?_, .inr ⟨F7[j], rfl, ?_, by rw [hd, List.find?_cons, hb]⟩⟩
   ·simp only [A0,Nat.reduceEqDiff,Ab,h4]
   ·simp only [A0,Nat.reduceEqDiff,Aa]; rfl
set_option maxHeartbeats 8000000 in
theorem sign_w (l : List UInt8) (i : Nat) (hi : i ≤ l.length) (S : St) : WC E1 103 [Cl l, Dp i] S (gX S (Nq (l.drop i) i)) := by
 refine Do Tryz.f103 (by kernel_rfl) (by kernel_rfl) (by kernel_rfl) (show (_ : Nat) ≤ _ from by show (_ : Nat) ≤ _; simp [Tryz.f103]) ?_
 obtain ⟨fn1, hf1⟩ := fnOk134
 have key := fun t h0 h1 h4 h8 h9 h10 => bC l i hi (S.newBox (Da Cz)) S.next (Dq S _) F7.length 0 t (by omega) h0 h1 h4 h8 h9 h10
 unfold Tc at key
 simp only [Tryz.f103] at key
 have keep : ∀ ys, Ej S ((S.newBox (Da Cz)).put S.next ys) := fun ys => Ep (Dj S _) (Nat.le_refl _) ys
 have hL := fun S => yU S 1 0 (F7.map Cl)
 rw [List.length_map] at hL
 simp only [A8,Bk,Ba,Bo,A9,A6,Bb,A5,A4,Bd,Bc,B6,Bm,B0,ofOpt,ofOptS,Be,Bv,Nat.reduceLT,Nat.reduceAdd,Ac,Ae,Ak,Tryz.f103,Fh,hf1]
 refine WC.mono (signs_w _) ?_
 rintro _ rfl
 simp only [B3,D1,Ba,Bo,A9,A6,A5,Bf,A4,Bd,Bc,A0,A1,Bm,ofOpt,Be,Bv,Nat.reduceLT,Nat.reduceEqDiff,Aa,Ab,Ac,hL]
 refine WX.mono (key _ ?_ ?_ ?_ ?_ ?_ ?_) ?_
 ·simp only [A0,A1,Nat.reduceEqDiff,Aa,Ab]
 ·simp only [A0,A1,Nat.reduceEqDiff,Aa,Ab]
 ·simp only [A0,A1,Nat.reduceEqDiff,Aa,Ab]
 ·simp only [A0,A1,Nat.reduceEqDiff,Aa,Ab]
 ·simp only [A0,A1,Nat.reduceEqDiff,Aa,Ab]; rfl
 ·simp only [A0,A1,Nat.reduceEqDiff,Aa,Ab]; rfl
 ·rintro r ⟨t', h4, ⟨rfl, h⟩ | ⟨s, rfl, h5, h⟩⟩
  ·have e : Nq (l.drop i) i = (Cz, 1) := by unfold Nq; rw [List.drop_zero] at h; rw [h]
   have q1 := Kc S (Da Cz) (Da Cz) rfl rfl
   have q2 := Hg (S.newBox (Da Cz)) S.next (Da Cz) rfl
   simp only [A8,Bk,Bz,Ba,Cg,Ch,Bo,A9,A6,Bh,Bj,A5,A4,Bd,Bc,A0,ofOpt,Be,Bv,Bt,Bi,By,Bg,Cd,Nat.reduceLT,Nat.reduceEqDiff,Aa,Ab,Ac,h4,Wy,q1,q2]
   rw [e]
   exact ⟨_, rfl, keep _⟩
  ·have e : Nq (l.drop i) i = (⟨4, i, s, 0⟩, 0) := by unfold Nq; rw [List.drop_zero] at h; rw [h]
   have q2 := Hg (S.newBox (Da Cz)) S.next (Da ⟨4, i, s, 0⟩) rfl
   simp only [Co,Cq,Bv,Bi,By,Bg,Cd,h4,h5,q2]
   rw [e]
   exact ⟨_, rfl, keep _⟩
set_option maxHeartbeats 8000000 in
theorem next_w (l : List UInt8) (hl : l.length ≤ 100000) (i : Nat) (hi : i < l.length) (S : St) (p : Tk × Nat) (hp : G8 (l.drop i) i = some p) : WC E1 66 [Cl l, Dp i] S (gX S p) := by
 refine Do Tryz.f66 (by kernel_rfl) (by kernel_rfl) (by kernel_rfl) (show (_ : Nat) ≤ _ from by show (_ : Nat) ≤ _; simp [Tryz.f66]) ?_
 obtain ⟨fn1, hf1⟩ := zM
 obtain ⟨fn2, hf2⟩ := fnOk100
 obtain ⟨fn3, hf3⟩ := rY
 obtain ⟨fn4, hf4⟩ := fnOk102
 obtain ⟨fn5, hf5⟩ := fnOk103
 have hx := idx9 l i hi
 rw [List.drop_eq_getElem_cons hi] at hp
 simp only [G8] at hp
 rw [← List.drop_eq_getElem_cons hi] at hp
 simp only [Cl,Dp]
 simp only [A8,Bk,B3,Ba,Bo,A9,A6,Bb,A5,A4,Bd,Bc,B6,A0,A1,Bm,B0,ofOpt,ofOptS,Be,Bv,Nat.reduceLT,Nat.reduceAdd,Nat.reduceEqDiff,Aa,Ab,Ac,Ae,Aj,Ak,Tryz.f66,Fh,hf1,hx]
 refine WC.mono (jU l[i] _) ?_
 rintro _ rfl
 have fin : ∀ S2 : St, Ej (S.newBox (Da Cz)) S2 → ∀ q : Tk, C5 Tryz.prog S2 68 (.ptr S.next 0) (E3 q) = some (S2.put S.next (Da q)) ∧ Cv Tryz.prog (S2.put S.next (Da q)) 68 (.ptr S.next 0) = some (E3 q) ∧ Ej S (S2.put S.next (Da q)) := fun S2 hk q =>
  ⟨wO (by rw [hk.2 S.next (Nat.lt_succ_self _)]; exact Dq S _) rfl rfl, Hg _ _ _ rfl, Ep ((Dj S _).trans hk) (Nat.le_refl _) _⟩
 cases hb : Ho l[i]
 ·rw [hb] at hp
  simp only [Am,Ab] at hp
  simp only [A8,Bk,Bn,Ba,Bo,A9,A6,Bb,A5,Bf,Cb,A4,Bd,Bc,A0,A1,Bm,B0,ofOpt,Nat.reduceLT,Nat.reduceEqDiff,Aa,Ab,Ac,Aj,Ak,hf2,hf3]
  refine WC.mono (gO l[i] _) ?_
  rintro _ rfl
  cases hb2 : Df l[i]
  ·rw [hb2] at hp
   simp only [Am,Ab] at hp
   injection hp with hp; subst hp
   simp only [Br,A8,Bk,Bn,Ba,Bw,Bo,A9,A6,Bb,A5,Bf,Cb,A4,Bd,Bc,A0,A1,Bm,B0,ofOpt,Nat.reduceLT,Nat.reduceEqDiff,Aa,Ab,Ac,Aj,Ak,hf4,hf5]
   refine WC.mono (sign_w l i (by omega) _) ?_
   rintro _ ⟨S2, rfl, hk⟩
   obtain ⟨q1, q2, q3⟩ := fin S2 hk (Nq (l.drop i) i).1
   simp only [Bz,Ba,Bo,A9,A6,Bh,Bj,A5,Bf,A4,Bd,Bc,A0,A1,ofOpt,Bv,Bi,By,Bg,Cd,Nat.reduceLT,Nat.reduceEqDiff,Aa,Ab,Ac,Ag,Ah,B7,q1,q2]
   exact ⟨_, rfl, q3⟩
  ·rw [hb2] at hp
   simp only [Aa] at hp
   simp only [Br,A8,Bk,Bn,Ba,Bw,Bo,A9,A6,Bb,A5,Bf,Cp,A4,Bd,Bc,A0,A1,Bm,B0,ofOpt,Nat.reduceLT,Nat.reduceEqDiff,Aa,Ab,Ac,Aj,Ak,hf4,hf5]
   refine WC.mono (xW l hl i hi hb2 _ p hp) ?_
   rintro _ ⟨S2, rfl, hk⟩
   obtain ⟨q1, q2, q3⟩ := fin S2 hk p.1
   simp only [Bz,Ba,Co,Cq,Bo,A9,A6,Bh,Bj,A5,Bf,A4,Bd,Bc,A0,A1,ofOpt,Bv,Bi,By,Bg,Cd,Nat.reduceLT,Nat.reduceEqDiff,Aa,Ab,Ac,Ag,Ah,B7,q1,q2]
   exact ⟨_, rfl, q3⟩
 ·rw [hb] at hp
  simp only [Aa] at hp
  injection hp with hp; subst hp
  simp only [A8,Bk,Bn,Ba,Bo,A9,A6,Bb,A5,Bf,Cp,A4,Bd,Bc,A0,A1,Bm,B0,ofOpt,Nat.reduceLT,Nat.reduceEqDiff,Aa,Ab,Ac,Aj,Ak,hf2,hf3]
  refine WC.mono (word_w l hl i (by omega) _) ?_
  rintro _ ⟨S2, rfl, hk⟩
  obtain ⟨q1, q2, q3⟩ := fin S2 hk (L7 (l.drop i) i).1
  simp only [Bz,Ba,Co,Cq,Bo,A9,A6,Bh,Bj,A5,Bf,A4,Bd,Bc,A0,A1,ofOpt,Bv,Bi,By,Bg,Cd,Nat.reduceLT,Nat.reduceEqDiff,Aa,Ab,Ac,Ag,Ah,B7,q1,q2]
  exact ⟨_, rfl, q3⟩
end Go.Ax
