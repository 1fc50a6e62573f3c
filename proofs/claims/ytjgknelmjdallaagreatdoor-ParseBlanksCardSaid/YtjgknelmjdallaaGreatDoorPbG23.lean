/- Rj -/
import Derived.Test.YtjgknelmjdallaaGreatDoorPbG22
set_option linter.unusedVariables false
set_option linter.unusedSimpArgs false
noncomputable section
namespace Go.Ax
open Go.RowKit Go.Proofs
set_option maxRecDepth 100000
set_option maxHeartbeats 4000000 in
theorem pre6a_w (l pre : List UInt8) (S : St) : WC E6 122 [Cl l, Cl pre] S (fun r => r = .ret (.v (.bool (Er pre l))) S) := by
 refine Do Tryz.f122 (by kernel_rfl) (by kernel_rfl) (by kernel_rfl) (show (_ : Nat) ≤ _ from by show (_ : Nat) ≤ _; simp [Tryz.f122]) ?_
 unfold Cl
 by_cases h : (pre.length : Int) ≤ (l.length : Int)
 ·have hs := wX l pre.length (by omega)
  simp only [A8,Bk,Bz,Ba,Bo,A9,A6,A5,A4,Bd,Bc,B6,A0,A1,Bm,B0,ofOpt,Be,D8,Uf,B5,Bi,By,Bg,Cd,Ei,Nat.reduceLT,Nat.reduceAdd,Nat.reduceEqDiff,Aa,Ab,Ad,Ae,Af,Ag,Ah,Ai,Al,Am,Ap,Option.toList,Ay,Az,Tryz.f122,Tz,h,hs,K9,Dd,Er]
 ·have e : Er pre l = false := by
   unfold Er
   rw [decide_eq_false_iff_not]; intro hq
   have := congrArg List.length hq
   simp at this; omega
  simp only [A8,Bk,Bz,Ba,Bo,A9,Cy,A6,A5,A4,Bd,Bc,B6,A0,A1,Bm,ofOpt,Be,D8,Uf,B5,Bi,By,Bg,Cd,Ei,Nat.reduceLT,Nat.reduceAdd,Nat.reduceEqDiff,Aa,Ab,Ad,Ae,Af,Ag,Ah,Ai,Am,Aq,Ar,Av,Tryz.f122,Tz,h,Dd,e]
set_option maxHeartbeats 16000000 in
theorem mW (l pre : List UInt8) (S : St) : WC E6 85 [Cl l, Cl pre] S (fun r => r = .ret (.v (.bool (Er pre l))) S) := by
 refine Do Tryz.f85 (by kernel_rfl) (by kernel_rfl) (by kernel_rfl) (show (_ : Nat) ≤ _ from by show (_ : Nat) ≤ _; simp [Tryz.f85]) ?_
 obtain ⟨fn1, hf1⟩ := fn6_122
 simp only [A8,Bk,Ba,Bo,A9,A6,Bb,A5,A4,Bd,Bc,B6,A0,A1,Bm,B0,ofOpt,Be,Nat.reduceLT,Nat.reduceAdd,Nat.reduceEqDiff,Aa,Ab,Ac,Ae,Aj,Ak,Tryz.f85,hf1]
 refine WC.mono (pre6a_w l pre S) ?_
 rintro _ rfl
 simp only [Bz,Ba,Bo,A9,A6,A5,Bf,A4,Bd,Bc,A0,A1,ofOpt,Bi,By,Bg,Cd,Nat.reduceLT,Nat.reduceEqDiff,Aa,Ab,Ad]
theorem fepz (cs : List AV) : Cx Tryz.prog 30 (.ep cs) 0 = some (.ep cs) := by kernel_rfl
theorem lep3 (S : St) (kind pos : Nat) (n : Int) (name : List UInt8) (off : Bool) (kv : AV) : Cv Tryz.prog S 3 (.ep (exC kind pos n name off kv)) = some (.v (.int .i64 (kind : Int))) := by simp [Cv, Dc, a3, exC, Dp]
theorem idx28z (tok off : Nat) (es : List AV) (h : 0 < es.length) (ys : List AV) (hy : es[0] = .agg ys) : Eo Tryz.prog 28 (.sl tok off 6 es) (.v (.int .i64 0)) = some (.ep ys) := kF tok off es 0 h ys hy
set_option maxHeartbeats 16000000 in
theorem neg_w {kind pos : Nat} {n : Int} {name : List UInt8} {off : Bool} {kv : AV} {kids : List PE} (hk : RepK kv kids) (hlen : kids.length ≤ 1000000) (hok : ∀ e ∈ kids, Q1 e) (hz : Kr (Db kids) ≤ 1000000000) (S : St) (hn2 : 2 ≤ S.next) : WC E6 50 [.agg (exC kind pos n name off kv)] S (fun r => ∃ S', r = .ret (Cl (negT (Db kids))) S' ∧ Ej S S') := by
 refine Do Tryz.f50 (by kernel_rfl) (by kernel_rfl) (by kernel_rfl) (show (_ : Nat) ≤ _ from by show (_ : Nat) ≤ _; simp [Tryz.f50]) ?_
 obtain ⟨fn1, hf1⟩ := gG
 obtain ⟨fn2, hf2⟩ := fn6_85
 have g1 := Dq S (exC kind pos n name off kv)
 have k1 := Dj S (exC kind pos n name off kv)
 have lt1 : S.next < (S.newBox (exC kind pos n name off kv)).next := Nat.lt_succ_self _
 generalize hS1 : S.newBox (exC kind pos n name off kv) = S1 at g1 k1 lt1
 have l0 : Cv Tryz.prog S1 30 (.ptr S.next 0) = some (.agg (exC kind pos n name off kv)) := ld30 g1 rfl
 simp only [A8,Bk,A7,Bl,A9,Bq,B9,Bp,A4,Bd,Bc,B6,A0,A1,Bm,B0,ofOpt,Be,Nat.reduceLT,Nat.reduceEqDiff,Aa,Ab,Ac,Ae,Aj,Ak,D8,hf1,hS1,Cm,Cn,Tryz.f50,l0]
 have hkw := Kx (kind := kind) (pos := pos) (n := n) (name := name) (off := off) hk (by omega) 0 8 hok hz S1 (Nat.le_trans hn2 k1.1)
 refine WC.mono hkw ?_
 rintro _ ⟨S2, rfl, k2⟩
 have g2 : S2.mem.get S.next = some (.box (exC kind pos n name off kv)) := (k2.2 _ lt1).trans g1
 have l5 := Ol g2
 have hs := Qk (Db kids) 0 8
 have eN : negT (Db kids) = if (∃ k, (Db kids)[0]? = some k ∧ k.kind = 1) ∨ Er [45] (kT (Db kids) 0 8) = true then ([45, 40] ++ kT (Db kids) 0 8) ++ [41] else [45] ++ kT (Db kids) 0 8 := rfl
 rw [eN]
 generalize hs8 : kT (Db kids) 0 8 = s8 at *
 have q4 := D3 [45, 40] s8 (by simp; omega)
 have q5 := D3 ([45, 40] ++ s8) [41] (by simp; omega)
 have q6 := D3 [45] s8 (by simp; omega)
 have fin : ∀ (b : Bool), ((∃ k, (Db kids)[0]? = some k ∧ k.kind = 1) ∨ b = true) → b = true ∨ ∃ k, (Db kids)[0]? = some k ∧ k.kind = 1 := fun b h => h.symm
 cases hk with
 | nil =>
  have no : ¬ ∃ k, (Db [])[0]? = some k ∧ k.kind = 1 := by rintro ⟨k, h, _⟩; cases h
  have hd : decide ((0 : Int) > 0) = false := rfl
  have hd' : decide (((0 : Nat) : Int) > 0) = false := rfl
  simp only [A8,Bk,A7,Bl,A9,Cy,Bq,B9,Bp,C8,A4,Bd,Bc,A0,A1,Bm,B0,ofOpt,Be,B5,Dm,Nat.reduceLT,Nat.reduceEqDiff,Aa,Ab,Ac,Af,Ag,Ah,Ai,Aj,Ak,Al,Am,Ar,Av,D8,Uf,hf2,Zk,l5,Sg,hd',Cl]
  refine WC.mono (mW s8 [45] S2) ?_
  rintro _ rfl
  cases hp : Er [45] s8 with
  | true =>
   simp only [Br,A8,Bk,Bn,Bz,A7,Cc,Bl,A9,Bq,Bp,C8,C6,A4,Bd,Bc,A0,A1,ofOpt,Be,Bi,By,Bg,Cd,Nat.reduceLT,Nat.reduceEqDiff,Aa,Ab,Ac,Am,D8,Uf,Dd,q4,q5]
   exact ⟨_, by rw [if_pos (.inr trivial)], k1.trans k2⟩
  | false =>
   simp only [Br,A8,Bk,Bn,Bz,A7,Bl,A9,Bq,Bp,C8,Dk,A4,Bd,Bc,A0,A1,ofOpt,Be,Bi,By,Bg,Cd,Nat.reduceLT,Nat.reduceEqDiff,Aa,Ab,Ac,Am,D8,Uf,Dd,q6]
   exact ⟨_, by rw [if_neg (fun h => by rcases h with h | h; exact no h; cases h)], k1.trans k2⟩
 | row tok o es _ hf =>
  have hl := hf.len
  cases hf with
  | nil =>
   have no : ¬ ∃ k, (Db [])[0]? = some k ∧ k.kind = 1 := by rintro ⟨k, h, _⟩; cases h
   have hd : decide ((([] : List AV).length : Int) > 0) = false := rfl
   simp only [A8,Bk,A7,Bl,A9,Cy,Bq,B9,Bp,C8,A4,Bd,Bc,A0,A1,Bm,B0,ofOpt,Be,B5,Dm,Nat.reduceLT,Nat.reduceEqDiff,Aa,Ab,Ac,Af,Ag,Ah,Ai,Aj,Ak,Al,Am,Ar,Av,D8,Uf,hf2,Zk,l5,Rt,hd,Cl]
   refine WC.mono (mW s8 [45] S2) ?_
   rintro _ rfl
   cases hp : Er [45] s8 with
   | true =>
    simp only [Br,A8,Bk,Bn,Bz,A7,Cc,Bl,A9,Bq,Bp,C8,C6,A4,Bd,Bc,A0,A1,ofOpt,Be,Bi,By,Bg,Cd,Nat.reduceLT,Nat.reduceEqDiff,Aa,Ab,Ac,Am,D8,Uf,Dd,q4,q5]
    exact ⟨_, by rw [if_pos (.inr trivial)], k1.trans k2⟩
   | false =>
    simp only [Br,A8,Bk,Bn,Bz,A7,Bl,A9,Bq,Bp,C8,Dk,A4,Bd,Bc,A0,A1,ofOpt,Be,Bi,By,Bg,Cd,Nat.reduceLT,Nat.reduceEqDiff,Aa,Ab,Ac,Am,D8,Uf,Dd,q6]
    exact ⟨_, by rw [if_neg (fun h => by rcases h with h | h; exact no h; cases h)], k1.trans k2⟩
  | cons a e r l h h2 =>
   cases h with
   | mk kd ps nn nm of kv2 ks2 hk2 =>
   have hd : decide ((((AV.agg (exC kd ps nn nm of kv2)) :: r).length : Int) > 0) = true := decide_eq_true (by simp only [List.length_cons]; omega)
   have q1 := idx28z tok o (AV.agg (exC kd ps nn nm of kv2) :: r) (by simp) (exC kd ps nn nm of kv2) rfl
   have q2 := lep3 S2 kd ps nn nm of kv2
   have ek : (∃ k, (Db (.mk kd ps nn nm of ks2 :: l))[0]? = some k ∧ k.kind = 1) ↔ kd = 1 := ⟨fun ⟨k, h, h1⟩ => by
    have : k = ⟨Ir (.mk kd ps nn nm of ks2), Fm (.mk kd ps nn nm of ks2), kd⟩ := by injection h with h; exact h.symm
    subst this; exact h1, fun h => ⟨_, rfl, h⟩⟩
   by_cases h1 : kd = 1
   ·subst h1
    have e1 : (((1 : Nat) : Int) == 1) = true := rfl
    simp only [Br,A8,Bk,Bn,Bz,A7,Cc,Bl,A9,Cy,Bq,Bp,C8,C6,A4,Bd,Bc,A0,A1,Bm,B0,ofOpt,Be,B5,Bi,By,Bg,Cd,Dm,Ci,Nat.reduceLT,Nat.reduceEqDiff,Aa,Ab,Ac,Af,Ag,Ah,Ai,Aj,Ak,Al,Am,Aw,D8,Uf,Dd,hf2,Zk,l5,Rt,hd,q1,fepz,q2,e1,q4,q5,Cl]
    exact ⟨_, by rw [if_pos (.inl (ek.2 rfl))], k1.trans k2⟩
   ·have e1 : ((kd : Int) == 1) = false := by rw [beq_eq_false_iff_ne]; omega
    simp only [A8,Bk,A7,Bl,A9,Bq,B9,Bp,C8,A4,Bd,Bc,A0,A1,Bm,B0,ofOpt,Be,B5,Dm,Ci,Nat.reduceLT,Nat.reduceEqDiff,Aa,Ab,Ac,Af,Ag,Ah,Ai,Aj,Ak,Al,Am,D8,hf2,Zk,l5,Rt,hd,q1,fepz,q2,e1,Cl]
    refine WC.mono (mW s8 [45] S2) ?_
    rintro _ rfl
    cases hp : Er [45] s8 with
    | true =>
     simp only [Br,A8,Bk,Bn,Bz,A7,Cc,Bl,A9,Bq,Bp,C8,C6,A4,Bd,Bc,A0,A1,ofOpt,Be,Bi,By,Bg,Cd,Nat.reduceLT,Nat.reduceEqDiff,Aa,Ab,Ac,Am,D8,Uf,Dd,q4,q5]
     exact ⟨_, by rw [if_pos (.inr trivial)], k1.trans k2⟩
    | false =>
     simp only [Br,A8,Bk,Bn,Bz,A7,Bl,A9,Bq,Bp,C8,Dk,A4,Bd,Bc,A0,A1,ofOpt,Be,Bi,By,Bg,Cd,Nat.reduceLT,Nat.reduceEqDiff,Aa,Ab,Ac,Am,D8,Uf,Dd,q6]
     exact ⟨_, by rw [if_neg (fun h => by rcases h with h | h; exact h1 (ek.1 h); cases h)], k1.trans k2⟩
set_option maxHeartbeats 16000000 in
theorem await_w {kind pos : Nat} {n : Int} {name : List UInt8} {off : Bool} {kv : AV} {kids : List PE} (hk : RepK kv kids) (hlen : kids.length ≤ 1000000) (hok : ∀ e ∈ kids, Q1 e) (hz : Kr (Db kids) ≤ 1000000000) (hnm : name.length ≤ 30) (S : St) (hn2 : 2 ≤ S.next) : WC E6 55 [.agg (exC kind pos n name off kv)] S (fun r => ∃ S', r = .ret (Cl (gW name (Db kids))) S' ∧ Ej S S') := by
 refine Do Tryz.f55 (by kernel_rfl) (by kernel_rfl) (by kernel_rfl) (show (_ : Nat) ≤ _ from by show (_ : Nat) ≤ _; simp [Tryz.f55]) ?_
 obtain ⟨fn1, hf1⟩ := zW
 have g1 := Dq S (exC kind pos n name off kv)
 have k1 := Dj S (exC kind pos n name off kv)
 have lt1 : S.next < (S.newBox (exC kind pos n name off kv)).next := Nat.lt_succ_self _
 generalize hS1 : S.newBox (exC kind pos n name off kv) = S1 at g1 k1 lt1
 have l0 : Cv Tryz.prog S1 30 (.ptr S.next 0) = some (.agg (exC kind pos n name off kv)) := ld30 g1 rfl
 have l3 := Hr g1
 have l5 := Ol g1
 have lk : Ie Tryz.prog S1 28 kv = some kids.length := by
  cases hk with
  | nil => exact Sg S1
  | row tok o es _ hf => rw [Rt]; rw [hf.len]
 have hj := On (Db kids)
 have q1 := D3 [97, 119, 97, 105, 116, 32] name (by simp; omega)
 have q2 := D3 [32, 97, 102, 116, 101, 114, 32, 40] (My (Db kids)) (by simp; omega)
 have q3 := D3 ([32, 97, 102, 116, 101, 114, 32, 40] ++ My (Db kids)) [41] (by simp; omega)
 have q4 := D3 ([97, 119, 97, 105, 116, 32] ++ name) (([32, 97, 102, 116, 101, 114, 32, 40] ++ My (Db kids)) ++ [41]) (by simp; omega)
 unfold gW
 by_cases h0 : 0 < kids.length
 ·have hd : decide ((kids.length : Int) > 0) = true := decide_eq_true (by omega)
  simp only [Br,A8,Bk,Bn,Bz,A7,Bl,A9,Bq,B9,Bp,C6,A4,Bd,Bc,B6,A0,A1,Bm,B0,ofOpt,Be,B5,Bi,By,Bg,Cd,Dm,Nat.reduceLT,Nat.reduceEqDiff,Aa,Ab,Ac,Ae,Aj,Ak,Am,D8,Dd,hf1,hS1,Cm,Cn,fe3,Zk,Tryz.f55,l0,l3,l5,lk,hd,q1]
  refine WC.mono (Zc (kind := kind) (pos := pos) (n := n) (name := name) (off := off) hk hlen hok hz S1 (Nat.le_trans hn2 k1.1)) ?_
  rintro _ ⟨S2, rfl, k2⟩
  simp only [A8,Bk,Bz,A7,Bl,A9,Bq,Bp,C8,A4,Bd,Bc,A0,A1,ofOpt,Be,Bi,By,Bg,Cd,Nat.reduceLT,Nat.reduceEqDiff,Aa,Ab,Ac,Am,D8,Dd,q2,q3,q4,Cl]
  exact ⟨_, by rw [if_pos (by rw [Om]; exact h0)], k1.trans k2⟩
 ·have hd : decide ((kids.length : Int) > 0) = false := decide_eq_false (by omega)
  simp only [Br,A8,Bk,Bn,Bz,A7,Bl,A9,Bq,B9,Bp,Dk,A4,Bd,Bc,B6,A0,A1,Bm,B0,ofOpt,Be,B5,Bi,By,Bg,Cd,Dm,Nat.reduceLT,Nat.reduceEqDiff,Aa,Ab,Ac,Ae,Aj,Ak,Am,D8,Dd,hf1,hS1,Cm,Cn,fe3,Zk,Tryz.f55,l0,l3,l5,lk,hd,q1]
  exact ⟨_, by rw [if_neg (by rw [Om]; exact h0)]; rfl, k1⟩
set_option maxHeartbeats 16000000 in
theorem bin6_w {kind pos : Nat} {n : Int} {name : List UInt8} {off : Bool} {kv : AV} {kids : List PE} (hk : RepK kv kids) (hlen : kids.length ≤ 1000000) (hok : ∀ e ∈ kids, Q1 e) (hz : Kr (Db kids) ≤ 1000000000) (hnm : name.length ≤ 30) (S : St) (hn2 : 2 ≤ S.next) : WC E6 52 [.agg (exC kind pos n name off kv)] S (fun r => ∃ S', r = .ret (Cl (binT name (Db kids))) S' ∧ Ej S S') := by
 refine Do Tryz.f52 (by kernel_rfl) (by kernel_rfl) (by kernel_rfl) (show (_ : Nat) ≤ _ from by show (_ : Nat) ≤ _; simp [Tryz.f52]) ?_
 obtain ⟨fn1, hf1⟩ := gG
 obtain ⟨fn2, hf2⟩ := zV
 have g1 := Dq S (exC kind pos n name off kv)
 have k1 := Dj S (exC kind pos n name off kv)
 have lt1 : S.next < (S.newBox (exC kind pos n name off kv)).next := Nat.lt_succ_self _
 generalize hS1 : S.newBox (exC kind pos n name off kv) = S1 at g1 k1 lt1
 have l0 : Cv Tryz.prog S1 30 (.ptr S.next 0) = some (.agg (exC kind pos n name off kv)) := ld30 g1 rfl
 have l3 := Hr g1
 have rf : L6 (exC kind pos n name off kv) (exC kind pos n name off kv) = true := Z4 (.mk kind pos n name off kv kids hk)
 have rf2 : Gt (.agg (exC kind pos n name off kv)) (.agg (exC kind pos n name off kv)) = true := (RepE.mk kind pos n name off kv kids hk).refl
 have hsB : Nr name ≤ 7 := by unfold Nr; split; omega; split; omega; split; omega; split <;> omega
 simp only [A8,Bk,A7,Bl,A9,Bq,B9,Bp,A4,Bd,Bc,B6,A0,A1,Bm,B0,ofOpt,Be,Nat.reduceLT,Nat.reduceEqDiff,Aa,Ab,Ac,Ae,Aj,Ak,D8,hf2,hS1,Cm,Cn,fe3,Tryz.f52,l3]
 refine WC.mono (qA name S1) ?_
 rintro _ rfl
 generalize hO : Nr name = own at hsB
 have hb2 := Vk (Db kids) (if own = 5 then 6 else own) (own + 1)
 have eB : binT name (Db kids) = (((kT (Db kids) 0 (if own = 5 then 6 else own) ++ [32]) ++ name) ++ [32]) ++ kT (Db kids) 1 (own + 1) := by unfold binT; rw [hO]
 rw [eB]
 generalize hA : kT (Db kids) 0 (if own = 5 then 6 else own) = sA at hb2
 generalize hB : kT (Db kids) 1 (own + 1) = sB at hb2
 have q1 := D3 sA [32] (by simp; omega)
 have q2 := D3 (sA ++ [32]) name (by simp; omega)
 have q3 := D3 ((sA ++ [32]) ++ name) [32] (by simp; omega)
 have q4 := D3 (((sA ++ [32]) ++ name) ++ [32]) sB (by simp; omega)
 have w1 : IntKind.i64.wrap ((own : Int) + 1) = ((own + 1 : Nat) : Int) := H6 (j := 1) (by omega)
 by_cases h5 : own = 5
 ·have e5 : ((own : Int) == 5) = true := by rw [h5]; rfl
  have hA' : kT (Db kids) 0 (own + 1) = sA := by rw [← hA, if_pos h5, h5]
  simp only [Br,A8,Cu,Bk,Bn,A7,Bl,A9,Bq,Bp,C8,C6,A4,Bd,Bc,A0,A1,ofOpt,Be,B5,Ds,Ci,Nat.reduceLT,Nat.reduceEqDiff,Aa,Ab,Ac,Am,D8,e5,w1,Dp]
  refine Ij [(0, true), (1, true), (4, true), (5, true), (8, true), (9, true), (10, true), (2, true), (8, false), (5, false), (3, true), (6, true), (7, true), (11, true), (5, false), (12, true), (13, true)] (by kernel_rfl) (by kernel_rfl) ?_
  simp only [A4,Bd,Bc,A0,A1,Bm,B0,ofOpt,Be,B5,Ds,Nat.reduceLT,Nat.reduceEqDiff,Aa,Ab,Ac,Af,Ag,Ah,Aj,Ak,Am,D8,hf1,fe3,l0,l3,w1,Dx,Eb,Eu,Dy,G3]
  have hkw := Kx (kind := kind) (pos := pos) (n := n) (name := name) (off := off) hk (by omega) 0 (own + 1) hok hz S1 (Nat.le_trans hn2 k1.1)
  refine WC.mono hkw ?_
  rintro _ ⟨S2, rfl, k2⟩
  rw [hA']
  have g2 : S2.mem.get S.next = some (.box (exC kind pos n name off kv)) := (k2.2 _ lt1).trans g1
  have m0 : Cv Tryz.prog S2 30 (.ptr S.next 0) = some (.agg (exC kind pos n name off kv)) := ld30 g2 rfl
  have m3 := Hr g2
  simp only [A4,Bd,Bc,A0,A1,Bm,B0,ofOpt,Be,Nat.reduceLT,Nat.reduceEqDiff,Aa,Ab,Ac,Aj,Ak,Am,D8,Dd,hf1,m0,m3,Cl,rf2,q1,q2,q3,Dx,Kp,Eb,Eu,Dy,Fl,Du,Ec,Jb]
  have hkw := Kx (kind := kind) (pos := pos) (n := n) (name := name) (off := off) hk (by omega) 1 (own + 1) hok hz S2 (by have := k1.1; have := k2.1; omega)
  refine WC.mono hkw ?_
  rintro _ ⟨S3, rfl, k3⟩
  rw [hB]
  have n3 := Hr ((k3.2 _ (Nat.lt_of_lt_of_le lt1 k2.1)).trans g2)
  simp only [Bz,A7,A4,Bd,Bc,A0,A1,ofOpt,Bi,By,Bg,Cd,Nat.reduceLT,Nat.reduceEqDiff,Aa,Ab,Ac,Am,D8,Dd,n3,Cl,q4,Fi,Dx,Kp,Eb,Dy,Fl,Gd,Du,Ec,Jb]
  exact ⟨_, rfl, (k1.trans k2).trans k3⟩
 ·have e5 : ((own : Int) == 5) = false := by rw [beq_eq_false_iff_ne]; omega
  have hA' : kT (Db kids) 0 own = sA := by rw [← hA, if_neg h5]
  simp only [Br,A8,Cu,Bk,Bn,A7,Bl,A9,Bq,Bp,C8,Dk,A4,Bd,Bc,A0,A1,ofOpt,Be,B5,Ds,Ci,Nat.reduceLT,Nat.reduceEqDiff,Aa,Ab,Ac,Am,D8,e5,w1,Dp]
  refine Ij [(0, true), (1, true), (4, true), (5, true), (8, true), (9, true), (10, true), (2, true), (8, false), (5, false), (3, true), (6, true), (7, true), (11, true), (5, false), (12, true), (13, true)] (by kernel_rfl) (by kernel_rfl) ?_
  simp only [A4,Bd,Bc,A0,A1,Bm,B0,ofOpt,Be,B5,Ds,Nat.reduceLT,Nat.reduceEqDiff,Aa,Ab,Ac,Af,Ag,Ah,Aj,Ak,Am,D8,hf1,fe3,l0,l3,w1,Dx,Eb,Eu,Dy,G3]
  have hkw := Kx (kind := kind) (pos := pos) (n := n) (name := name) (off := off) hk (by omega) 0 own hok hz S1 (Nat.le_trans hn2 k1.1)
  refine WC.mono hkw ?_
  rintro _ ⟨S2, rfl, k2⟩
  rw [hA']
  have g2 : S2.mem.get S.next = some (.box (exC kind pos n name off kv)) := (k2.2 _ lt1).trans g1
  have m0 : Cv Tryz.prog S2 30 (.ptr S.next 0) = some (.agg (exC kind pos n name off kv)) := ld30 g2 rfl
  have m3 := Hr g2
  simp only [A4,Bd,Bc,A0,A1,Bm,B0,ofOpt,Be,Nat.reduceLT,Nat.reduceEqDiff,Aa,Ab,Ac,Aj,Ak,Am,D8,Dd,hf1,m0,m3,Cl,rf2,q1,q2,q3,Dx,Kp,Eb,Eu,Dy,Fl,Du,Ec,Jb]
  have hkw := Kx (kind := kind) (pos := pos) (n := n) (name := name) (off := off) hk (by omega) 1 (own + 1) hok hz S2 (by have := k1.1; have := k2.1; omega)
  refine WC.mono hkw ?_
  rintro _ ⟨S3, rfl, k3⟩
  rw [hB]
  have n3 := Hr ((k3.2 _ (Nat.lt_of_lt_of_le lt1 k2.1)).trans g2)
  simp only [Bz,A7,A4,Bd,Bc,A0,A1,ofOpt,Bi,By,Bg,Cd,Nat.reduceLT,Nat.reduceEqDiff,Aa,Ab,Ac,Am,D8,Dd,n3,Cl,q4,Fi,Dx,Kp,Eb,Dy,Fl,Gd,Du,Ec,Jb]
  exact ⟨_, rfl, (k1.trans k2).trans k3⟩
end Go.Ax
noncomputable section
namespace Go.Ax
open Go.RowKit Go.Proofs
set_option maxRecDepth 100000
theorem fmt_w (n : Int) (h : -9223372036854775808 ≤ n ∧ n ≤ 9223372036854775807) (S : St) : WC E6 48 [.v (.int .i64 n), .v (.int .i64 10)] S (fun r => r = .ret (Cl (Lib.itoa n)) S) := by
 refine Lv (g := Fp kP) (by kernel_rfl) ?_
 have e : kP [.v (.int .i64 n), .v (.int .i64 10)] = some (Cl (Lib.itoa n)) := by
  unfold kP
  simp only
  rw [if_pos h]
 show Fp kP _ S = _
 unfold Fp
 rw [e]
theorem Xs (name : List UInt8) (off : Bool) : (Sv name off).length ≤ 10 + name.length := by
 unfold Sv; split <;> simp only [List.length_append,List.length_cons,List.length_nil] <;> omega
theorem vS (b : Bool) : Gt (.v (.bool b)) (.v (.bool b)) = true := by cases b <;> rfl
theorem cH : ∀ (l : List PE), l.length ≤ F8.sizeL l
 | [] => Nat.zero_le _
 | e :: r => by
  have := cH r
  rw [F4]
  have h1 : 1 ≤ F8 e := by cases e; rw [I2]; omega
  simp; omega
theorem iK : ∀ {l : List PE} {e : PE}, e ∈ l → F8 e ≤ F8.sizeL l
 | a :: r, e, h => by
  rw [F4]
  rcases List.mem_cons.1 h with rfl | h
  ·omega
  ·have := iK h; omega
set_option maxHeartbeats 16000000 in
theorem wM : ∀ {e : PE}, Fit e → F8 e ≤ 1000000 → Q1 e := fun {e} hfit => by
 induction hfit with
 | mk kind pos n name off kids hn hnm hkf ih =>
 intro hsz ys hr S hn2
 rw [I2] at hsz
 have hok : ∀ e ∈ kids, Q1 e := fun e he => ih e he (by have := iK he; omega)
 have hlen : kids.length ≤ 1000000 := by have := cH kids; omega
 have hz : Kr (Db kids) ≤ 1000000000 := by have := U3 kids hkf; omega
 cases hr with
 | mk _ _ _ _ _ kv _ hk =>
 refine Do Tryz.f17 (by kernel_rfl) (by kernel_rfl) (by kernel_rfl) (show (_ : Nat) ≤ _ from by show (_ : Nat) ≤ _; simp [Tryz.f17]) ?_
 obtain ⟨fn48, hf48⟩ := fn6_48
 obtain ⟨fn49, hf49⟩ := fn6_49
 obtain ⟨fn50, hf50⟩ := fn6_50
 obtain ⟨fn51, hf51⟩ := gG
 obtain ⟨fn52, hf52⟩ := fn6_52
 obtain ⟨fn53, hf53⟩ := zX
 obtain ⟨fn54, hf54⟩ := zW
 obtain ⟨fn55, hf55⟩ := fn6_55
 have g1 := Dq S (exC kind pos n name off kv)
 have k1 := Dj S (exC kind pos n name off kv)
 have lt1 : S.next < (S.newBox (exC kind pos n name off kv)).next := Nat.lt_succ_self _
 generalize hS1 : S.newBox (exC kind pos n name off kv) = S1 at g1 k1 lt1
 have l0 : Cv Tryz.prog S1 30 (.ptr S.next 0) = some (.agg (exC kind pos n name off kv)) := ld30 g1 rfl
 have lk := ld3e g1
 have lN := lxN g1
 have lName := Hr g1
 have lOff := Nv g1
 have n1 : 2 ≤ S1.next := Nat.le_trans hn2 k1.1
 have rf : L6 (exC kind pos n name off kv) (exC kind pos n name off kv) = true := Z4 (.mk kind pos n name off kv kids hk)
 have rf2 : Gt (.agg (exC kind pos n name off kv)) (.agg (exC kind pos n name off kv)) = true := (RepE.mk kind pos n name off kv kids hk).refl
 by_cases h1 : kind = 1
 ·subst h1
  have e1 : (((1 : Nat) : Int) == 1) = true := rfl
  simp only [Br,A8,Cu,Bk,Bn,B3,Bz,A7,Cc,Ca,Cj,Bl,A9,Bq,B9,Bp,C6,A4,Bd,Bc,B6,A0,A1,Bm,B0,ofOpt,Be,B5,Bi,By,Bg,Cd,Ci,C7,Nat.reduceLT,Nat.reduceEqDiff,Aa,Ab,Ac,Ae,Aj,Ak,Am,D8,Gn,Tryz.f17,hS1,Cm,Cn,fe0,fe2,fe3,hf48,hf49,hf50,hf51,hf52,hf55,l0,lk,lN,lName,Cl,e1]
  refine WC.mono (fmt_w n hn S1) ?_
  rintro _ rfl
  simp only [Bz,A7,Cc,Cj,Bl,A9,Bq,Bp,C8,A4,Bd,Bc,A0,A1,ofOpt,Bi,By,Bg,Cd,Nat.reduceLT,Nat.reduceEqDiff,Aa,Ab,Ac,Cl]
  exact ⟨_, rfl, k1⟩
 by_cases h2 : kind = 2
 ·subst h2
  have e1 : (((2 : Nat) : Int) == 1) = false := rfl
  have e2 : (((2 : Nat) : Int) == 2) = true := rfl
  by_cases h0 : n = 0
  ·have en : (n != 0) = false := by simp [h0]
   simp only [Br,A8,Cu,Bk,Bn,B3,Bz,A7,Cc,Ca,Cj,Bl,A9,Bq,B9,Bp,C6,Dk,A4,Bd,Bc,B6,A0,A1,Bm,B0,ofOpt,Be,B5,Bi,By,Bg,Cd,Ci,C7,Nat.reduceLT,Nat.reduceEqDiff,Aa,Ab,Ac,Ae,Aj,Ak,Am,D8,Gn,Tryz.f17,hS1,Cm,Cn,fe0,fe2,fe3,hf48,hf49,hf50,hf51,hf52,hf55,l0,lk,lN,lName,Cl,e1,e2,en]
   refine WC.mono (cR false S1) ?_
   rintro _ rfl
   simp only [Bz,A7,Cc,Cj,Bl,A9,Bq,Bp,C8,A4,Bd,Bc,A0,A1,ofOpt,Bi,By,Bg,Cd,Nat.reduceLT,Nat.reduceEqDiff,Aa,Ab,Ac,Am,Cl]
   exact ⟨_, by subst h0; rfl, k1⟩
  ·have en : (n != 0) = true := by simp [h0]
   simp only [Br,A8,Cu,Bk,Bn,B3,Bz,A7,Cc,Ca,Cj,Bl,A9,Bq,B9,Bp,C6,Dk,A4,Bd,Bc,B6,A0,A1,Bm,B0,ofOpt,Be,B5,Bi,By,Bg,Cd,Ci,C7,Nat.reduceLT,Nat.reduceEqDiff,Aa,Ab,Ac,Ae,Aj,Ak,Am,D8,Gn,Tryz.f17,hS1,Cm,Cn,fe0,fe2,fe3,hf48,hf49,hf50,hf51,hf52,hf55,l0,lk,lN,lName,Cl,e1,e2,en]
   refine WC.mono (cR true S1) ?_
   rintro _ rfl
   simp only [Bz,A7,Cc,Cj,Bl,A9,Bq,Bp,C8,A4,Bd,Bc,A0,A1,ofOpt,Bi,By,Bg,Cd,Nat.reduceLT,Nat.reduceEqDiff,Aa,Ab,Ac,Cl]
   exact ⟨_, by rw [show Ir (.mk 2 pos n name off kids) = [116, 114, 117, 101] from if_neg h0], k1⟩
 by_cases h3 : kind = 3
 ·subst h3
  have e1 : (((3 : Nat) : Int) == 1) = false := rfl
  have e2 : (((3 : Nat) : Int) == 2) = false := rfl
  have e3 : (((3 : Nat) : Int) == 3) = true := rfl
  simp only [Br,A8,Cu,Bk,Bn,B3,Bz,A7,Cc,Ca,Cj,Bl,A9,Bq,B9,Bp,C6,Dk,A4,Bd,Bc,B6,A0,A1,Bm,B0,ofOpt,Be,B5,Bi,By,Bg,Cd,Ci,C7,Nat.reduceLT,Nat.reduceEqDiff,Aa,Ab,Ac,Ae,Aj,Ak,Am,D8,Gn,Tryz.f17,hS1,Cm,Cn,fe0,fe2,fe3,hf48,hf49,hf50,hf51,hf52,hf55,l0,lk,lN,lName,Cl,e1,e2,e3]
  exact ⟨_, rfl, k1⟩
 by_cases h4 : kind = 4
 ·subst h4
  have e1 : (((4 : Nat) : Int) == 1) = false := rfl
  have e2 : (((4 : Nat) : Int) == 2) = false := rfl
  have e3 : (((4 : Nat) : Int) == 3) = false := rfl
  have e4 : (((4 : Nat) : Int) == 4) = true := rfl
  simp only [Br,A8,Cu,Bk,Bn,B3,Bz,A7,Cc,Ca,Cj,Bl,A9,Bq,B9,Bp,C6,Dk,A4,Bd,Bc,B6,A0,A1,Bm,B0,ofOpt,Be,B5,Bi,By,Bg,Cd,Ci,C7,Nat.reduceLT,Nat.reduceEqDiff,Aa,Ab,Ac,Ae,Aj,Ak,Am,D8,Gn,Tryz.f17,hS1,Cm,Cn,fe0,fe2,fe3,hf48,hf49,hf50,hf51,hf52,hf55,l0,lk,lN,lName,Cl,e1,e2,e3,e4]
  refine WC.mono (neg_w (kind := 4) (pos := pos) (n := n) (name := name) (off := off) hk hlen hok hz S1 n1) ?_
  rintro _ ⟨S2, rfl, k2⟩
  simp only [Bz,A7,Cc,Cj,Bl,A9,Bq,Bp,C8,A4,Bd,Bc,A0,A1,ofOpt,Bi,By,Bg,Cd,Nat.reduceLT,Nat.reduceEqDiff,Aa,Ab,Ac,Cl]
  exact ⟨_, rfl, k1.trans k2⟩
 by_cases h5 : kind = 5
 ·subst h5
  have e1 : (((5 : Nat) : Int) == 1) = false := rfl
  have e2 : (((5 : Nat) : Int) == 2) = false := rfl
  have e3 : (((5 : Nat) : Int) == 3) = false := rfl
  have e4 : (((5 : Nat) : Int) == 4) = false := rfl
  have e5 : (((5 : Nat) : Int) == 5) = true := rfl
  have hl := Qk (Db kids) 0 4
  have q0 := D3 ([110, 111, 116, 32]) (kT (Db kids) 0 4) (by first | omega | (simp only [List.length_append,List.length_cons,List.length_nil]; omega))
  simp only [Br,A8,Cu,Bk,Bn,B3,Bz,A7,Cc,Ca,Cj,Bl,A9,Bq,B9,Bp,C6,Dk,A4,Bd,Bc,B6,A0,A1,Bm,B0,ofOpt,Be,B5,Bi,By,Bg,Cd,Ci,C7,Nat.reduceLT,Nat.reduceEqDiff,Aa,Ab,Ac,Ae,Aj,Ak,Am,D8,Gn,Tryz.f17,hS1,Cm,Cn,fe0,fe2,fe3,hf48,hf49,hf50,hf51,hf52,hf55,l0,lk,lN,lName,Cl,e1,e2,e3,e4,e5]
  refine WC.mono (Kx (kind := 5) (pos := pos) (n := n) (name := name) (off := off) hk (by omega) 0 4 hok hz S1 (by exact n1)) ?_
  rintro _ ⟨S2, rfl, k2⟩
  have g2 : S2.mem.get S.next = some (.box (exC 5 pos n name off kv)) := (k2.2 _ lt1).trans g1
  have lt2 : S.next < S2.next := Nat.lt_of_lt_of_le lt1 k2.1
  have a2 : Cv Tryz.prog S2 30 (.ptr S.next 0) = some (.agg (exC 5 pos n name off kv)) := ld30 g2 rfl
  have b2 := Hr g2
  have c2 := Nv g2
  simp only [Bz,A7,Cc,Cj,Bl,A9,Bq,Bp,C8,A4,Bd,Bc,A0,A1,ofOpt,Be,Bi,By,Bg,Cd,Nat.reduceLT,Nat.reduceEqDiff,Aa,Ab,Ac,Am,D8,Dd,Cl,q0]
  exact ⟨_, rfl, (k1).trans k2⟩
 by_cases h6 : kind = 6
 ·subst h6
  have e1 : (((6 : Nat) : Int) == 1) = false := rfl
  have e2 : (((6 : Nat) : Int) == 2) = false := rfl
  have e3 : (((6 : Nat) : Int) == 3) = false := rfl
  have e4 : (((6 : Nat) : Int) == 4) = false := rfl
  have e5 : (((6 : Nat) : Int) == 5) = false := rfl
  have e6 : (((6 : Nat) : Int) == 6) = true := rfl
  simp only [Br,A8,Cu,Bk,Bn,B3,Bz,A7,Cc,Ca,Cj,Bl,A9,Bq,B9,Bp,C6,Dk,A4,Bd,Bc,B6,A0,A1,Bm,B0,ofOpt,Be,B5,Bi,By,Bg,Cd,Ci,C7,Nat.reduceLT,Nat.reduceEqDiff,Aa,Ab,Ac,Ae,Aj,Ak,Am,D8,Gn,Tryz.f17,hS1,Cm,Cn,fe0,fe2,fe3,hf48,hf49,hf50,hf51,hf52,hf55,l0,lk,lN,lName,Cl,e1,e2,e3,e4,e5,e6]
  refine WC.mono (bin6_w (kind := 6) (pos := pos) (n := n) (name := name) (off := off) hk hlen hok hz hnm S1 n1) ?_
  rintro _ ⟨S2, rfl, k2⟩
  simp only [Bz,A7,Cc,Cj,Bl,A9,Bq,Bp,C8,A4,Bd,Bc,A0,A1,ofOpt,Bi,By,Bg,Cd,Nat.reduceLT,Nat.reduceEqDiff,Aa,Ab,Ac,Cl]
  exact ⟨_, rfl, k1.trans k2⟩
 by_cases h7 : kind = 7
 ·subst h7
  have e1 : (((7 : Nat) : Int) == 1) = false := rfl
  have e2 : (((7 : Nat) : Int) == 2) = false := rfl
  have e3 : (((7 : Nat) : Int) == 3) = false := rfl
  have e4 : (((7 : Nat) : Int) == 4) = false := rfl
  have e5 : (((7 : Nat) : Int) == 5) = false := rfl
  have e6 : (((7 : Nat) : Int) == 6) = false := rfl
  have e7 : (((7 : Nat) : Int) == 7) = true := rfl
  have hl := jW (Db kids) 0 0 0
  have q0 := D3 ([105, 102, 32]) (kT (Db kids) 0 0) (by first | omega | (simp only [List.length_append,List.length_cons,List.length_nil]; omega))
  have q1 := D3 (([105, 102, 32]) ++ kT (Db kids) 0 0) ([32, 116, 104, 101, 110, 32]) (by first | omega | (simp only [List.length_append,List.length_cons,List.length_nil]; omega))
  have q2 := D3 ((([105, 102, 32]) ++ kT (Db kids) 0 0) ++ [32, 116, 104, 101, 110, 32]) (kT (Db kids) 1 0) (by first | omega | (simp only [List.length_append,List.length_cons,List.length_nil]; omega))
  have q3 := D3 (((([105, 102, 32]) ++ kT (Db kids) 0 0) ++ [32, 116, 104, 101, 110, 32]) ++ kT (Db kids) 1 0) ([32, 101, 108, 115, 101, 32]) (by first | omega | (simp only [List.length_append,List.length_cons,List.length_nil]; omega))
  have q4 := D3 ((((([105, 102, 32]) ++ kT (Db kids) 0 0) ++ [32, 116, 104, 101, 110, 32]) ++ kT (Db kids) 1 0) ++ [32, 101, 108, 115, 101, 32]) (kT (Db kids) 2 0) (by first | omega | (simp only [List.length_append,List.length_cons,List.length_nil]; omega))
  simp only [Br,A8,Cu,Bk,Bn,B3,Bz,A7,Cc,Ca,Cj,Bl,A9,Bq,B9,Bp,C6,Dk,A4,Bd,Bc,B6,A0,A1,Bm,B0,ofOpt,Be,B5,Bi,By,Bg,Cd,Ci,C7,Nat.reduceLT,Nat.reduceEqDiff,Aa,Ab,Ac,Ae,Aj,Ak,Am,D8,Gn,Tryz.f17,hS1,Cm,Cn,fe0,fe2,fe3,hf48,hf49,hf50,hf51,hf52,hf55,l0,lk,lN,lName,Cl,e1,e2,e3,e4,e5,e6,e7]
  refine Ij [(0, true), (4, true), (8, true), (1, true), (8, false), (4, false), (2, true), (3, true), (5, true), (8, false), (6, true), (7, true), (9, true), (10, true), (11, true)] (by kernel_rfl) (by kernel_rfl) ?_
  simp only [A4,Bd,Bc,A0,A1,Bm,B0,ofOpt,Be,Nat.reduceLT,Nat.reduceEqDiff,Aa,Ab,Ac,Af,Ag,Ah,Aj,Ak,Am,D8,hf51,l0,Dx,Eb,Eu,Dy,G3]
  refine WC.mono (Kx (kind := 7) (pos := pos) (n := n) (name := name) (off := off) hk (by omega) 0 0 hok hz S1 (by exact n1)) ?_
  rintro _ ⟨S2, rfl, k2⟩
  have g2 : S2.mem.get S.next = some (.box (exC 7 pos n name off kv)) := (k2.2 _ lt1).trans g1
  have lt2 : S.next < S2.next := Nat.lt_of_lt_of_le lt1 k2.1
  have a2 : Cv Tryz.prog S2 30 (.ptr S.next 0) = some (.agg (exC 7 pos n name off kv)) := ld30 g2 rfl
  have b2 := Hr g2
  have c2 := Nv g2
  simp only [A4,Bd,Bc,A0,A1,Bm,B0,ofOpt,Be,Nat.reduceLT,Nat.reduceEqDiff,Aa,Ab,Ac,Aj,Ak,Am,D8,Dd,hf51,rf2,Cl,a2,q0,q1,Dx,Kp,Eb,Eu,Dy,Fl,Du,Ec]
  refine WC.mono (Kx (kind := 7) (pos := pos) (n := n) (name := name) (off := off) hk (by omega) 1 0 hok hz S2 (by have := k2.1; omega)) ?_
  rintro _ ⟨S3, rfl, k3⟩
  have g3 : S3.mem.get S.next = some (.box (exC 7 pos n name off kv)) := (k3.2 _ lt2).trans g2
  have lt3 : S.next < S3.next := Nat.lt_of_lt_of_le lt2 k3.1
  have a3 : Cv Tryz.prog S3 30 (.ptr S.next 0) = some (.agg (exC 7 pos n name off kv)) := ld30 g3 rfl
  have b3 := Hr g3
  have c3 := Nv g3
  simp only [A4,Bd,Bc,A0,A1,Bm,B0,ofOpt,Be,Nat.reduceLT,Nat.reduceEqDiff,Aa,Ab,Ac,Aj,Ak,Am,D8,Dd,hf51,rf2,Cl,a3,q2,q3,Dx,Kp,Eb,Eu,Dy,Fl,Du,Ec]
  refine WC.mono (Kx (kind := 7) (pos := pos) (n := n) (name := name) (off := off) hk (by omega) 2 0 hok hz S3 (by have := k2.1; have := k3.1; omega)) ?_
  rintro _ ⟨S4, rfl, k4⟩
  have g4 : S4.mem.get S.next = some (.box (exC 7 pos n name off kv)) := (k4.2 _ lt3).trans g3
  have lt4 : S.next < S4.next := Nat.lt_of_lt_of_le lt3 k4.1
  have a4 : Cv Tryz.prog S4 30 (.ptr S.next 0) = some (.agg (exC 7 pos n name off kv)) := ld30 g4 rfl
  have b4 := Hr g4
  have c4 := Nv g4
  simp only [Bz,A7,Cc,Cj,A4,Bd,Bc,A0,A1,ofOpt,Bi,By,Bg,Cd,Nat.reduceLT,Nat.reduceEqDiff,Aa,Ab,Ac,Am,D8,Dd,Cl,q4,Fi,Dx,Eb,Dy,Fl,Gd]
  exact ⟨_, rfl, (((k1).trans k2).trans k3).trans k4⟩
 by_cases h8 : kind = 8
 ·subst h8
  have e1 : (((8 : Nat) : Int) == 1) = false := rfl
  have e2 : (((8 : Nat) : Int) == 2) = false := rfl
  have e3 : (((8 : Nat) : Int) == 3) = false := rfl
  have e4 : (((8 : Nat) : Int) == 4) = false := rfl
  have e5 : (((8 : Nat) : Int) == 5) = false := rfl
  have e6 : (((8 : Nat) : Int) == 6) = false := rfl
  have e7 : (((8 : Nat) : Int) == 7) = false := rfl
  have e8 : (((8 : Nat) : Int) == 8) = true := rfl
  have hl := Vk (Db kids) 2 1
  have q0 := D3 (kT (Db kids) 0 2) ([32, 45, 62, 32]) (by first | omega | (simp only [List.length_append,List.length_cons,List.length_nil]; omega))
  have q1 := D3 ((kT (Db kids) 0 2) ++ [32, 45, 62, 32]) (kT (Db kids) 1 1) (by first | omega | (simp only [List.length_append,List.length_cons,List.length_nil]; omega))
  simp only [Br,A8,Cu,Bk,Bn,B3,Bz,A7,Cc,Ca,Cj,Bl,A9,Bq,B9,Bp,C6,Dk,A4,Bd,Bc,B6,A0,A1,Bm,B0,ofOpt,Be,B5,Bi,By,Bg,Cd,Ci,C7,Nat.reduceLT,Nat.reduceEqDiff,Aa,Ab,Ac,Ae,Aj,Ak,Am,D8,Gn,Tryz.f17,hS1,Cm,Cn,fe0,fe2,fe3,hf48,hf49,hf50,hf51,hf52,hf55,l0,lk,lN,lName,Cl,e1,e2,e3,e4,e5,e6,e7,e8]
  refine Ij [(0, true), (3, true), (1, true), (3, false), (2, true), (4, true), (5, true), (6, true)] (by kernel_rfl) (by kernel_rfl) ?_
  simp only [A4,Bd,Bc,A0,A1,Bm,B0,ofOpt,Be,Nat.reduceLT,Nat.reduceEqDiff,Aa,Ab,Ac,Af,Ag,Ah,Aj,Ak,Am,D8,hf51,l0,Dx,Eb,Eu,Dy,G3]
  refine WC.mono (Kx (kind := 8) (pos := pos) (n := n) (name := name) (off := off) hk (by omega) 0 2 hok hz S1 (by exact n1)) ?_
  rintro _ ⟨S2, rfl, k2⟩
  have g2 : S2.mem.get S.next = some (.box (exC 8 pos n name off kv)) := (k2.2 _ lt1).trans g1
  have lt2 : S.next < S2.next := Nat.lt_of_lt_of_le lt1 k2.1
  have a2 : Cv Tryz.prog S2 30 (.ptr S.next 0) = some (.agg (exC 8 pos n name off kv)) := ld30 g2 rfl
  have b2 := Hr g2
  have c2 := Nv g2
  simp only [A4,Bd,Bc,A0,A1,Bm,B0,ofOpt,Be,Nat.reduceLT,Nat.reduceEqDiff,Aa,Ab,Ac,Aj,Ak,Am,D8,Dd,hf51,rf2,Cl,a2,q0,Dx,Kp,Eb,Eu,Dy,Fl,Du,Ec]
  refine WC.mono (Kx (kind := 8) (pos := pos) (n := n) (name := name) (off := off) hk (by omega) 1 1 hok hz S2 (by have := k2.1; omega)) ?_
  rintro _ ⟨S3, rfl, k3⟩
  have g3 : S3.mem.get S.next = some (.box (exC 8 pos n name off kv)) := (k3.2 _ lt2).trans g2
  have lt3 : S.next < S3.next := Nat.lt_of_lt_of_le lt2 k3.1
  have a3 : Cv Tryz.prog S3 30 (.ptr S.next 0) = some (.agg (exC 8 pos n name off kv)) := ld30 g3 rfl
  have b3 := Hr g3
  have c3 := Nv g3
  simp only [Bz,A7,Cc,Cj,A4,Bd,Bc,A0,A1,ofOpt,Bi,By,Bg,Cd,Nat.reduceLT,Nat.reduceEqDiff,Aa,Ab,Ac,Am,D8,Dd,Cl,q1,Fi,Dx,Eb,Dy,Fl,Gd]
  exact ⟨_, rfl, ((k1).trans k2).trans k3⟩
 by_cases h9 : kind = 9
 ·subst h9
  have e1 : (((9 : Nat) : Int) == 1) = false := rfl
  have e2 : (((9 : Nat) : Int) == 2) = false := rfl
  have e3 : (((9 : Nat) : Int) == 3) = false := rfl
  have e4 : (((9 : Nat) : Int) == 4) = false := rfl
  have e5 : (((9 : Nat) : Int) == 5) = false := rfl
  have e6 : (((9 : Nat) : Int) == 6) = false := rfl
  have e7 : (((9 : Nat) : Int) == 7) = false := rfl
  have e8 : (((9 : Nat) : Int) == 8) = false := rfl
  have e9 : (((9 : Nat) : Int) == 9) = true := rfl
  have hl := Vk (Db kids) 0 1
  have q0 := D3 (kT (Db kids) 0 0) ([32, 102, 98, 121, 32]) (by first | omega | (simp only [List.length_append,List.length_cons,List.length_nil]; omega))
  have q1 := D3 ((kT (Db kids) 0 0) ++ [32, 102, 98, 121, 32]) (kT (Db kids) 1 1) (by first | omega | (simp only [List.length_append,List.length_cons,List.length_nil]; omega))
  simp only [Br,A8,Cu,Bk,Bn,B3,Bz,A7,Cc,Ca,Cj,Bl,A9,Bq,B9,Bp,C6,Dk,A4,Bd,Bc,B6,A0,A1,Bm,B0,ofOpt,Be,B5,Bi,By,Bg,Cd,Ci,C7,Nat.reduceLT,Nat.reduceEqDiff,Aa,Ab,Ac,Ae,Aj,Ak,Am,D8,Gn,Tryz.f17,hS1,Cm,Cn,fe0,fe2,fe3,hf48,hf49,hf50,hf51,hf52,hf55,l0,lk,lN,lName,Cl,e1,e2,e3,e4,e5,e6,e7,e8,e9]
  refine Ij [(0, true), (3, true), (1, true), (3, false), (2, true), (4, true), (5, true), (6, true)] (by kernel_rfl) (by kernel_rfl) ?_
  simp only [A4,Bd,Bc,A0,A1,Bm,B0,ofOpt,Be,Nat.reduceLT,Nat.reduceEqDiff,Aa,Ab,Ac,Af,Ag,Ah,Aj,Ak,Am,D8,hf51,l0,Dx,Eb,Eu,Dy,G3]
  refine WC.mono (Kx (kind := 9) (pos := pos) (n := n) (name := name) (off := off) hk (by omega) 0 0 hok hz S1 (by exact n1)) ?_
  rintro _ ⟨S2, rfl, k2⟩
  have g2 : S2.mem.get S.next = some (.box (exC 9 pos n name off kv)) := (k2.2 _ lt1).trans g1
  have lt2 : S.next < S2.next := Nat.lt_of_lt_of_le lt1 k2.1
  have a2 : Cv Tryz.prog S2 30 (.ptr S.next 0) = some (.agg (exC 9 pos n name off kv)) := ld30 g2 rfl
  have b2 := Hr g2
  have c2 := Nv g2
  simp only [A4,Bd,Bc,A0,A1,Bm,B0,ofOpt,Be,Nat.reduceLT,Nat.reduceEqDiff,Aa,Ab,Ac,Aj,Ak,Am,D8,Dd,hf51,rf2,Cl,a2,q0,Dx,Kp,Eb,Eu,Dy,Fl,Du,Ec]
  refine WC.mono (Kx (kind := 9) (pos := pos) (n := n) (name := name) (off := off) hk (by omega) 1 1 hok hz S2 (by have := k2.1; omega)) ?_
  rintro _ ⟨S3, rfl, k3⟩
  have g3 : S3.mem.get S.next = some (.box (exC 9 pos n name off kv)) := (k3.2 _ lt2).trans g2
  have lt3 : S.next < S3.next := Nat.lt_of_lt_of_le lt2 k3.1
  have a3 : Cv Tryz.prog S3 30 (.ptr S.next 0) = some (.agg (exC 9 pos n name off kv)) := ld30 g3 rfl
  have b3 := Hr g3
  have c3 := Nv g3
  simp only [Bz,A7,Cc,Cj,A4,Bd,Bc,A0,A1,ofOpt,Bi,By,Bg,Cd,Nat.reduceLT,Nat.reduceEqDiff,Aa,Ab,Ac,Am,D8,Dd,Cl,q1,Fi,Dx,Eb,Dy,Fl,Gd]
  exact ⟨_, rfl, ((k1).trans k2).trans k3⟩
 by_cases h10 : kind = 10
 ·subst h10
  have e1 : (((10 : Nat) : Int) == 1) = false := rfl
  have e2 : (((10 : Nat) : Int) == 2) = false := rfl
  have e3 : (((10 : Nat) : Int) == 3) = false := rfl
  have e4 : (((10 : Nat) : Int) == 4) = false := rfl
  have e5 : (((10 : Nat) : Int) == 5) = false := rfl
  have e6 : (((10 : Nat) : Int) == 6) = false := rfl
  have e7 : (((10 : Nat) : Int) == 7) = false := rfl
  have e8 : (((10 : Nat) : Int) == 8) = false := rfl
  have e9 : (((10 : Nat) : Int) == 9) = false := rfl
  have e10 : (((10 : Nat) : Int) == 10) = true := rfl
  have hl := Qk (Db kids) 0 8
  have q0 := D3 ([112, 114, 101, 32]) (kT (Db kids) 0 8) (by first | omega | (simp only [List.length_append,List.length_cons,List.length_nil]; omega))
  simp only [Br,A8,Cu,Bk,Bn,B3,Bz,A7,Cc,Ca,Cj,Bl,A9,Bq,B9,Bp,C6,Dk,A4,Bd,Bc,B6,A0,A1,Bm,B0,ofOpt,Be,B5,Bi,By,Bg,Cd,Ci,C7,Nat.reduceLT,Nat.reduceEqDiff,Aa,Ab,Ac,Ae,Aj,Ak,Am,D8,Gn,Tryz.f17,hS1,Cm,Cn,fe0,fe2,fe3,hf48,hf49,hf50,hf51,hf52,hf55,l0,lk,lN,lName,Cl,e1,e2,e3,e4,e5,e6,e7,e8,e9,e10]
  refine WC.mono (Kx (kind := 10) (pos := pos) (n := n) (name := name) (off := off) hk (by omega) 0 8 hok hz S1 (by exact n1)) ?_
  rintro _ ⟨S2, rfl, k2⟩
  have g2 : S2.mem.get S.next = some (.box (exC 10 pos n name off kv)) := (k2.2 _ lt1).trans g1
  have lt2 : S.next < S2.next := Nat.lt_of_lt_of_le lt1 k2.1
  have a2 : Cv Tryz.prog S2 30 (.ptr S.next 0) = some (.agg (exC 10 pos n name off kv)) := ld30 g2 rfl
  have b2 := Hr g2
  have c2 := Nv g2
  simp only [Bz,A7,Cc,Cj,Bl,A9,Bq,Bp,C8,A4,Bd,Bc,A0,A1,ofOpt,Be,Bi,By,Bg,Cd,Nat.reduceLT,Nat.reduceEqDiff,Aa,Ab,Ac,Am,D8,Dd,Cl,q0]
  exact ⟨_, rfl, (k1).trans k2⟩
 by_cases h11 : kind = 11
 ·subst h11
  have e1 : (((11 : Nat) : Int) == 1) = false := rfl
  have e2 : (((11 : Nat) : Int) == 2) = false := rfl
  have e3 : (((11 : Nat) : Int) == 3) = false := rfl
  have e4 : (((11 : Nat) : Int) == 4) = false := rfl
  have e5 : (((11 : Nat) : Int) == 5) = false := rfl
  have e6 : (((11 : Nat) : Int) == 6) = false := rfl
  have e7 : (((11 : Nat) : Int) == 7) = false := rfl
  have e8 : (((11 : Nat) : Int) == 8) = false := rfl
  have e9 : (((11 : Nat) : Int) == 9) = false := rfl
  have e10 : (((11 : Nat) : Int) == 10) = false := rfl
  have e11 : (((11 : Nat) : Int) == 11) = true := rfl
  have hl := Qk (Db kids) 0 9
  have hw := Xs name off
  have q0 := D3 (kT (Db kids) 0 9) (Sv name off) (by first | omega | (simp only [List.length_append,List.length_cons,List.length_nil]; omega))
  simp only [Br,A8,Cu,Bk,Bn,B3,Bz,A7,Cc,Ca,Cj,Bl,A9,Bq,B9,Bp,C6,Dk,A4,Bd,Bc,B6,A0,A1,Bm,B0,ofOpt,Be,B5,Bi,By,Bg,Cd,Ci,C7,Nat.reduceLT,Nat.reduceEqDiff,Aa,Ab,Ac,Ae,Aj,Ak,Am,D8,Gn,Tryz.f17,hS1,Cm,Cn,fe0,fe2,fe3,hf48,hf49,hf50,hf51,hf52,hf55,l0,lk,lN,lName,Cl,e1,e2,e3,e4,e5,e6,e7,e8,e9,e10,e11]
  refine Ij [(0, true), (2, true), (3, true), (4, true), (5, true), (1, true), (5, false), (3, false), (6, true), (7, true), (8, true)] (by kernel_rfl) (by kernel_rfl) ?_
  simp only [A4,Bd,Bc,A0,A1,Bm,B0,ofOpt,Be,Nat.reduceLT,Nat.reduceEqDiff,Aa,Ab,Ac,Af,Ag,Ah,Aj,Ak,Am,D8,fe3,fe4,hf51,l0,lName,lOff,Dx,Eb,Eu,Dy,G3]
  refine WC.mono (Kx (kind := 11) (pos := pos) (n := n) (name := name) (off := off) hk (by omega) 0 9 hok hz S1 (by exact n1)) ?_
  rintro _ ⟨S2, rfl, k2⟩
  have g2 : S2.mem.get S.next = some (.box (exC 11 pos n name off kv)) := (k2.2 _ lt1).trans g1
  have lt2 : S.next < S2.next := Nat.lt_of_lt_of_le lt1 k2.1
  have a2 : Cv Tryz.prog S2 30 (.ptr S.next 0) = some (.agg (exC 11 pos n name off kv)) := ld30 g2 rfl
  have b2 := Hr g2
  have c2 := Nv g2
  simp only [A4,Bd,Bc,A0,A1,Bm,B0,ofOpt,Nat.reduceLT,Nat.reduceEqDiff,Aa,Ab,Ac,Aj,Ak,D8,hf53,vS,Cl,b2,c2,Dx,Kp,Eu,Dy,Fl,Du,Ec,Jb]
  refine WC.mono (wD name off (by omega) S2) ?_
  rintro _ rfl
  simp only [Bz,A7,Cc,Cj,A4,Bd,Bc,A0,A1,ofOpt,Bi,By,Bg,Cd,Nat.reduceLT,Nat.reduceEqDiff,Aa,Ab,Ac,Am,D8,Dd,Cl,q0,Fi,Dx,Eb,Dy,Fl,Gd]
  exact ⟨_, rfl, (k1).trans k2⟩
 by_cases h12 : kind = 12
 ·subst h12
  have e1 : (((12 : Nat) : Int) == 1) = false := rfl
  have e2 : (((12 : Nat) : Int) == 2) = false := rfl
  have e3 : (((12 : Nat) : Int) == 3) = false := rfl
  have e4 : (((12 : Nat) : Int) == 4) = false := rfl
  have e5 : (((12 : Nat) : Int) == 5) = false := rfl
  have e6 : (((12 : Nat) : Int) == 6) = false := rfl
  have e7 : (((12 : Nat) : Int) == 7) = false := rfl
  have e8 : (((12 : Nat) : Int) == 8) = false := rfl
  have e9 : (((12 : Nat) : Int) == 9) = false := rfl
  have e10 : (((12 : Nat) : Int) == 10) = false := rfl
  have e11 : (((12 : Nat) : Int) == 11) = false := rfl
  have e12 : (((12 : Nat) : Int) == 12) = true := rfl
  have hl := Vk (Db kids) 0 0
  have q0 := D3 ([109, 101, 114, 103, 101, 32]) (name) (by first | omega | (simp only [List.length_append,List.length_cons,List.length_nil]; omega))
  have q1 := D3 (([109, 101, 114, 103, 101, 32]) ++ name) ([32, 40]) (by first | omega | (simp only [List.length_append,List.length_cons,List.length_nil]; omega))
  have q2 := D3 ((([109, 101, 114, 103, 101, 32]) ++ name) ++ [32, 40]) (kT (Db kids) 0 0) (by first | omega | (simp only [List.length_append,List.length_cons,List.length_nil]; omega))
  have q3 := D3 (((([109, 101, 114, 103, 101, 32]) ++ name) ++ [32, 40]) ++ kT (Db kids) 0 0) ([41, 32, 40]) (by first | omega | (simp only [List.length_append,List.length_cons,List.length_nil]; omega))
  have q4 := D3 ((((([109, 101, 114, 103, 101, 32]) ++ name) ++ [32, 40]) ++ kT (Db kids) 0 0) ++ [41, 32, 40]) (kT (Db kids) 1 0) (by first | omega | (simp only [List.length_append,List.length_cons,List.length_nil]; omega))
  have q5 := D3 (((((([109, 101, 114, 103, 101, 32]) ++ name) ++ [32, 40]) ++ kT (Db kids) 0 0) ++ [41, 32, 40]) ++ kT (Db kids) 1 0) ([41]) (by first | omega | (simp only [List.length_append,List.length_cons,List.length_nil]; omega))
  simp only [Br,A8,Cu,Bk,Bn,B3,Bz,A7,Cc,Ca,Cj,Bl,A9,Bq,B9,Bp,C6,Dk,A4,Bd,Bc,B6,A0,A1,Bm,B0,ofOpt,Be,B5,Bi,By,Bg,Cd,Ci,C7,Nat.reduceLT,Nat.reduceEqDiff,Aa,Ab,Ac,Ae,Aj,Ak,Am,D8,Gn,Tryz.f17,hS1,Cm,Cn,fe0,fe2,fe3,hf48,hf49,hf50,hf51,hf52,hf55,l0,lk,lN,lName,Cl,e1,e2,e3,e4,e5,e6,e7,e8,e9,e10,e11,e12]
  refine Ij [(0, true), (1, true), (2, true), (3, true), (4, true), (8, true), (5, true), (8, false), (1, false), (6, true), (7, true), (9, true), (1, false), (10, true), (11, true), (12, true)] (by kernel_rfl) (by kernel_rfl) ?_
  simp only [A4,Bd,Bc,A0,A1,Bm,B0,ofOpt,Be,Nat.reduceLT,Nat.reduceEqDiff,Aa,Ab,Ac,Af,Ag,Ah,Aj,Ak,Am,D8,Dd,fe3,hf51,l0,lName,q0,q1,Dx,Eb,Eu,Dy,G3]
  refine WC.mono (Kx (kind := 12) (pos := pos) (n := n) (name := name) (off := off) hk (by omega) 0 0 hok hz S1 (by exact n1)) ?_
  rintro _ ⟨S2, rfl, k2⟩
  have g2 : S2.mem.get S.next = some (.box (exC 12 pos n name off kv)) := (k2.2 _ lt1).trans g1
  have lt2 : S.next < S2.next := Nat.lt_of_lt_of_le lt1 k2.1
  have a2 : Cv Tryz.prog S2 30 (.ptr S.next 0) = some (.agg (exC 12 pos n name off kv)) := ld30 g2 rfl
  have b2 := Hr g2
  have c2 := Nv g2
  simp only [A4,Bd,Bc,A0,A1,Bm,B0,ofOpt,Be,Nat.reduceLT,Nat.reduceEqDiff,Aa,Ab,Ac,Aj,Ak,Am,D8,Dd,hf51,rf2,Cl,a2,b2,q2,q3,Dx,Kp,Eb,Eu,Dy,Fl,Du,Ec,Jb]
  refine WC.mono (Kx (kind := 12) (pos := pos) (n := n) (name := name) (off := off) hk (by omega) 1 0 hok hz S2 (by have := k2.1; omega)) ?_
  rintro _ ⟨S3, rfl, k3⟩
  have g3 : S3.mem.get S.next = some (.box (exC 12 pos n name off kv)) := (k3.2 _ lt2).trans g2
  have lt3 : S.next < S3.next := Nat.lt_of_lt_of_le lt2 k3.1
  have a3 : Cv Tryz.prog S3 30 (.ptr S.next 0) = some (.agg (exC 12 pos n name off kv)) := ld30 g3 rfl
  have b3 := Hr g3
  have c3 := Nv g3
  simp only [Bz,A7,Cc,Cj,A4,Bd,Bc,A0,A1,ofOpt,Be,Bi,By,Bg,Cd,Nat.reduceLT,Nat.reduceEqDiff,Aa,Ab,Ac,Am,D8,Dd,Cl,b3,q4,q5,Fi,Dx,Kp,Eb,Dy,Fl,Gd,Du,Ec,Jb]
  exact ⟨_, rfl, ((k1).trans k2).trans k3⟩
 by_cases h13 : kind = 13
 ·subst h13
  have e1 : (((13 : Nat) : Int) == 1) = false := rfl
  have e2 : (((13 : Nat) : Int) == 2) = false := rfl
  have e3 : (((13 : Nat) : Int) == 3) = false := rfl
  have e4 : (((13 : Nat) : Int) == 4) = false := rfl
  have e5 : (((13 : Nat) : Int) == 5) = false := rfl
  have e6 : (((13 : Nat) : Int) == 6) = false := rfl
  have e7 : (((13 : Nat) : Int) == 7) = false := rfl
  have e8 : (((13 : Nat) : Int) == 8) = false := rfl
  have e9 : (((13 : Nat) : Int) == 9) = false := rfl
  have e10 : (((13 : Nat) : Int) == 10) = false := rfl
  have e11 : (((13 : Nat) : Int) == 11) = false := rfl
  have e12 : (((13 : Nat) : Int) == 12) = false := rfl
  have e13 : (((13 : Nat) : Int) == 13) = true := rfl
  have hl := On (Db kids)
  have q0 := D3 (name) ([40]) (by first | omega | (simp only [List.length_append,List.length_cons,List.length_nil]; omega))
  have q1 := D3 ((name) ++ [40]) (My (Db kids)) (by first | omega | (simp only [List.length_append,List.length_cons,List.length_nil]; omega))
  have q2 := D3 (((name) ++ [40]) ++ My (Db kids)) ([41]) (by first | omega | (simp only [List.length_append,List.length_cons,List.length_nil]; omega))
  simp only [Br,A8,Cu,Bk,Bn,B3,Bz,A7,Cc,Ca,Cj,Bl,A9,Bq,B9,Bp,C6,Dk,A4,Bd,Bc,B6,A0,A1,Bm,B0,ofOpt,Be,B5,Bi,By,Bg,Cd,Ci,C7,Nat.reduceLT,Nat.reduceEqDiff,Aa,Ab,Ac,Ae,Aj,Ak,Am,D8,Gn,Tryz.f17,hS1,Cm,Cn,fe0,fe2,fe3,hf48,hf49,hf50,hf51,hf52,hf55,l0,lk,lN,lName,Cl,e1,e2,e3,e4,e5,e6,e7,e8,e9,e10,e11,e12,e13]
  refine Ij [(0, true), (1, true), (2, true), (3, true), (4, true), (1, false), (5, true), (6, true), (7, true)] (by kernel_rfl) (by kernel_rfl) ?_
  simp only [A4,Bd,Bc,A0,A1,Bm,B0,ofOpt,Be,Nat.reduceLT,Nat.reduceEqDiff,Aa,Ab,Ac,Af,Ag,Ah,Aj,Ak,Am,D8,Dd,fe3,hf54,l0,lName,q0,Dx,Eb,Eu,Dy,G3]
  refine WC.mono (Zc (kind := 13) (pos := pos) (n := n) (name := name) (off := off) hk hlen hok hz S1 n1) ?_
  rintro _ ⟨S2, rfl, k2⟩
  have g2 : S2.mem.get S.next = some (.box (exC 13 pos n name off kv)) := (k2.2 _ lt1).trans g1
  have lt2 : S.next < S2.next := Nat.lt_of_lt_of_le lt1 k2.1
  have a2 : Cv Tryz.prog S2 30 (.ptr S.next 0) = some (.agg (exC 13 pos n name off kv)) := ld30 g2 rfl
  have b2 := Hr g2
  have c2 := Nv g2
  simp only [Bz,A7,Cc,Cj,A4,Bd,Bc,A0,A1,ofOpt,Be,Bi,By,Bg,Cd,Nat.reduceLT,Nat.reduceEqDiff,Aa,Ab,Ac,Am,D8,Dd,Cl,b2,q1,q2,Fi,Dx,Kp,Eb,Dy,Fl,Gd,Du,Ec,Jb]
  exact ⟨_, rfl, (k1).trans k2⟩
 by_cases h14 : kind = 14
 ·subst h14
  have e1 : (((14 : Nat) : Int) == 1) = false := rfl
  have e2 : (((14 : Nat) : Int) == 2) = false := rfl
  have e3 : (((14 : Nat) : Int) == 3) = false := rfl
  have e4 : (((14 : Nat) : Int) == 4) = false := rfl
  have e5 : (((14 : Nat) : Int) == 5) = false := rfl
  have e6 : (((14 : Nat) : Int) == 6) = false := rfl
  have e7 : (((14 : Nat) : Int) == 7) = false := rfl
  have e8 : (((14 : Nat) : Int) == 8) = false := rfl
  have e9 : (((14 : Nat) : Int) == 9) = false := rfl
  have e10 : (((14 : Nat) : Int) == 10) = false := rfl
  have e11 : (((14 : Nat) : Int) == 11) = false := rfl
  have e12 : (((14 : Nat) : Int) == 12) = false := rfl
  have e13 : (((14 : Nat) : Int) == 13) = false := rfl
  have e14 : (((14 : Nat) : Int) == 14) = true := rfl
  simp only [Br,A8,Cu,Bk,Bn,B3,Bz,A7,Cc,Ca,Cj,Bl,A9,Bq,B9,Bp,C6,Dk,A4,Bd,Bc,B6,A0,A1,Bm,B0,ofOpt,Be,B5,Bi,By,Bg,Cd,Ci,C7,Nat.reduceLT,Nat.reduceEqDiff,Aa,Ab,Ac,Ae,Aj,Ak,Am,D8,Gn,Tryz.f17,hS1,Cm,Cn,fe0,fe2,fe3,hf48,hf49,hf50,hf51,hf52,hf55,l0,lk,lN,lName,Cl,e1,e2,e3,e4,e5,e6,e7,e8,e9,e10,e11,e12,e13,e14]
  refine WC.mono (await_w (kind := 14) (pos := pos) (n := n) (name := name) (off := off) hk hlen hok hz hnm S1 n1) ?_
  rintro _ ⟨S2, rfl, k2⟩
  simp only [Bz,A7,Cc,Cj,Bl,A9,Bq,Bp,C8,A4,Bd,Bc,A0,A1,ofOpt,Bi,By,Bg,Cd,Nat.reduceLT,Nat.reduceEqDiff,Aa,Ab,Ac,Cl]
  exact ⟨_, rfl, k1.trans k2⟩
 have e1 : ((kind : Int) == 1) = false := by rw [beq_eq_false_iff_ne]; omega
 have e2 : ((kind : Int) == 2) = false := by rw [beq_eq_false_iff_ne]; omega
 have e3 : ((kind : Int) == 3) = false := by rw [beq_eq_false_iff_ne]; omega
 have e4 : ((kind : Int) == 4) = false := by rw [beq_eq_false_iff_ne]; omega
 have e5 : ((kind : Int) == 5) = false := by rw [beq_eq_false_iff_ne]; omega
 have e6 : ((kind : Int) == 6) = false := by rw [beq_eq_false_iff_ne]; omega
 have e7 : ((kind : Int) == 7) = false := by rw [beq_eq_false_iff_ne]; omega
 have e8 : ((kind : Int) == 8) = false := by rw [beq_eq_false_iff_ne]; omega
 have e9 : ((kind : Int) == 9) = false := by rw [beq_eq_false_iff_ne]; omega
 have e10 : ((kind : Int) == 10) = false := by rw [beq_eq_false_iff_ne]; omega
 have e11 : ((kind : Int) == 11) = false := by rw [beq_eq_false_iff_ne]; omega
 have e12 : ((kind : Int) == 12) = false := by rw [beq_eq_false_iff_ne]; omega
 have e13 : ((kind : Int) == 13) = false := by rw [beq_eq_false_iff_ne]; omega
 have e14 : ((kind : Int) == 14) = false := by rw [beq_eq_false_iff_ne]; omega
 simp only [Br,A8,Cu,Bk,Bn,B3,Bz,A7,Cc,Ca,Cj,Bl,A9,Bq,B9,Bp,Dk,A4,Bd,Bc,B6,A0,A1,Bm,B0,ofOpt,Be,B5,Bi,By,Bg,Cd,Ci,C7,Nat.reduceLT,Nat.reduceEqDiff,Aa,Ab,Ac,Ae,Aj,Ak,Am,D8,Gn,Tryz.f17,hS1,Cm,Cn,fe0,fe2,fe3,hf48,hf49,hf50,hf51,hf52,hf55,l0,lk,lN,lName,Cl,e1,e2,e3,e4,e5,e6,e7,e8,e9,e10,e11,e12,e13,e14]
 have e : Ir (.mk kind pos n name off kids) = [] := by
  show V8 kind n name off (Db kids) = []
  unfold V8
  split <;> first | rfl | (exfalso; omega)
 rw [e]
 exact ⟨_, rfl, k1⟩
end Go.Ax
