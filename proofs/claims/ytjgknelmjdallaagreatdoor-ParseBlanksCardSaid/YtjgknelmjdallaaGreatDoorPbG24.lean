/- Rl -/
import Derived.Test.YtjgknelmjdallaaGreatDoorPbG23
import Derived.Shelf.Strings.Builder1
import Derived.Shelf.Strings.Builder2
import Derived.OneCell
import Derived.Lib.Hide
import Derived.ProofKit
import Derived.Tactics
set_option linter.unusedVariables false
set_option linter.unusedSimpArgs false
noncomputable section
namespace Go.Ax
open Go.RowKit Go.Proofs
set_option maxRecDepth 100000
def V7 (b f : Bool) : List UInt8 := if f then [102, 117, 116, 117, 114, 101, 32] ++ (if b then [98, 111, 111, 108] else [105, 110, 116]) else (if b then [98, 111, 111, 108] else [105, 110, 116])
def I8 (d : PD) : List UInt8 := if d.clock = [] then (d.name ++ [58, 32]) ++ V7 d.bool d.fut else ((d.name ++ [58, 32]) ++ V7 d.bool d.fut) ++ Sv d.clock d.off
def Po (l : List PD) (sep : List UInt8) : List UInt8 := Lib.join (l.map I8) sep
def Px (l : List (List UInt8 × Nat)) : List UInt8 := if 1 < l.length then ([40] ++ Lib.join (l.map (·.1)) [44, 32]) ++ [41] else Lib.join (l.map (·.1)) [44, 32]
def eqT (q : PQ) : List UInt8 := (if q.async then (Px q.left ++ [32, 61, 32]) ++ [97, 115, 121, 110, 99, 32] else Px q.left ++ [32, 61, 32]) ++ Ir q.e
def Ps (d : PD) : Prop := d.name.length ≤ 30 ∧ d.clock.length ≤ 30
def FitQ (q : PQ) : Prop := q.left.length ≤ 100000 ∧ (∀ x ∈ q.left, x.1.length ≤ 30) ∧ Fit q.e ∧ F8 q.e ≤ 1000000
theorem T3 {m : Nat} (sep : List UInt8) : ∀ (ws : List (List UInt8)), (∀ w ∈ ws, w.length ≤ m) → (Lib.join ws sep).length ≤ ws.length * (m + sep.length)
 | [], _ => by simp [Lib.join_nil]
 | [a], h => by have := h a (by simp); simp [Lib.join_one]; omega
 | a :: b :: r, h => by
  have ih := T3 sep (b :: r) (fun w hw => h w (List.mem_cons_of_mem _ hw))
  have ha := h a (by simp)
  have e : Lib.join (a :: b :: r) sep = a ++ (sep ++ Lib.join (b :: r) sep) := by
   unfold Lib.join
   simp [List.intercalate, List.intersperse]
  rw [e]
  simp only [List.length_append,List.length_cons] at ih ⊢
  rw [Nat.succ_mul]
  omega
theorem iC (b f : Bool) : (V7 b f).length ≤ 11 := by cases b <;> cases f <;> decide
theorem dB {d : PD} (h : Ps d) : (I8 d).length ≤ 83 := by
 have h1 := iC d.bool d.fut
 have h2 := Xs d.clock d.off
 have h3 := h.1; have h4 := h.2
 unfold I8
 split <;> simp only [List.length_append,List.length_cons,List.length_nil] <;> omega
theorem sC (l m : List UInt8) : D5 .neq (.v (.string ⟨⟨l⟩⟩)) (.v (.string ⟨⟨m⟩⟩)) = some (.v (.bool (!decide (l = m)))) := by
 show some (AV.v (.bool (!Ji l m))) = _
 rw [Io]
 congr 4
 by_cases h : l = m <;> simp [h]
theorem gJ (b : Nat) : Cx Tryz.prog 52 (.ptr b 0) 0 = some (.ptr b 0) := by kernel_rfl
theorem gI (b : Nat) : Cx Tryz.prog 52 (.ptr b 0) 1 = some (.ptr b 1) := by kernel_rfl
theorem fd54_0 (b : Nat) : Cx Tryz.prog 54 (.ptr b 0) 0 = some (.ptr b 0) := by kernel_rfl
theorem fd54_2 (b : Nat) : Cx Tryz.prog 54 (.ptr b 0) 2 = some (.ptr b 2) := by kernel_rfl
theorem fd59_0 (b : Nat) : Cx Tryz.prog 59 (.ptr b 0) 0 = some (.ptr b 0) := by kernel_rfl
theorem ag52 : Ff Tryz.prog 52 = some true := by kernel_rfl
theorem sz52 : Fd Tryz.prog 52 = some 2 := by kernel_rfl
theorem ld4 {S : St} {id : Nat} {cs : List AV} (h : S.mem.get id = some (.box cs)) (k : Nat) (hk : k < cs.length) : Cv Tryz.prog S 4 (.ptr id k) = some cs[k] := by
 have : k ≤ cs.length := by omega
 simp [Cv, Dc, h, ag4, this, hk]
theorem ld9k {S : St} {id : Nat} {cs : List AV} (h : S.mem.get id = some (.box cs)) (k : Nat) (hk : k < cs.length) : Cv Tryz.prog S 9 (.ptr id k) = some cs[k] := by
 have : k ≤ cs.length := by omega
 simp [Cv, Dc, h, ag9, this, hk]
theorem ld52 {S : St} {id : Nat} {d : PD} (h : S.mem.get id = some (.box (F2 d))) : Cv Tryz.prog S 52 (.ptr id 2) = some (.agg [.v (.bool d.bool), .v (.bool d.fut)]) := by
 simp [Cv, Dc, h, ag52, sz52, F2]
theorem idx46d (tok off : Nat) (l : List PD) (j : Nat) (h : j < l.length) : Eo Tryz.prog 46 (.sl tok off 6 (l.map F9)) (.v (.int .i64 (j : Int))) = some (.ep (F2 l[j])) := by
 have h0 : (0 : Int) ≤ (j : Int) := by omega
 simp [Eo, h0, el46, X0, h, F9, AV.cells]
theorem lep54 (S : St) (d : PD) : Cv Tryz.prog S 54 (.ep (F2 d)) = some (.agg (F2 d)) := by
 simp [Cv, Dc, pI, X0, F2]
theorem st54w {S : St} {id : Nat} {cs : List AV} (h : S.mem.get id = some (.box cs)) (hl : cs.length = 6) (d : PD) : C5 Tryz.prog S 54 (.ptr id 0) (.agg (F2 d)) = some (S.put id (F2 d)) := by
 have h2 : (AV.agg (F2 d)).noTup = true := rfl
 have h3 : (F2 d).length = 6 := rfl
 simp [C5, h, X0, h2, AV.cells, hl, h3, St.put, List.drop_eq_nil_of_le]
theorem idx55d (tok off : Nat) (l : List (List UInt8 × Nat)) (j : Nat) (h : j < l.length) : Eo Tryz.prog 55 (.sl tok off 2 (l.map F1)) (.v (.int .i64 (j : Int))) = some (.ep (Gz l[j])) := by
 have h0 : (0 : Int) ≤ (j : Int) := by omega
 simp [Eo, h0, oN, iF, h, F1, AV.cells]
theorem lep59 (S : St) (d : List UInt8 × Nat) : Cv Tryz.prog S 59 (.ep (Gz d)) = some (.agg (Gz d)) := by
 simp [Cv, Dc, ag59, iF, Gz]
theorem st59w {S : St} {id : Nat} {cs : List AV} (h : S.mem.get id = some (.box cs)) (hl : cs.length = 2) (d : List UInt8 × Nat) : C5 Tryz.prog S 59 (.ptr id 0) (.agg (Gz d)) = some (S.put id (Gz d)) := by
 have h2 : (AV.agg (Gz d)).noTup = true := rfl
 have h3 : (Gz d).length = 2 := rfl
 simp [C5, h, iF, h2, AV.cells, hl, h3, St.put, List.drop_eq_nil_of_le]
theorem yT (S : St) {v : AV} {l : List PD} (h : Hn 6 F9 v l) : Ie Tryz.prog S 46 v = some l.length := by
 rcases h with ⟨rfl, rfl⟩ | ⟨tok, off, rfl⟩
 ·have : Ie Tryz.prog S 46 .nils = some 0 := by kernel_rfl
  exact this
 ·simp [Ie, un46]
theorem yR {lo : Nat} {S : St} {a : AV} {es : List AV} (h : V0 lo S a es) : Ie Tryz.prog S 69 a = some es.length := by
 rcases h with ⟨rfl, rfl⟩ | ⟨tok, _, _, _, rfl, _⟩
 ·have : Ie Tryz.prog S 69 .nils = some 0 := by kernel_rfl
  exact this
 ·exact yU S tok 0 es
set_option maxHeartbeats 16000000 in
theorem mH (b f : Bool) (S : St) : WC E6 28 [.agg [.v (.bool b), .v (.bool f)]] S (fun r => ∃ S', r = .ret (Cl (V7 b f)) S' ∧ Ej S S') := by
 refine Do Tryz.f28 (by kernel_rfl) (by kernel_rfl) (by kernel_rfl) (show (_ : Nat) ≤ _ from by show (_ : Nat) ≤ _; simp [Tryz.f28]) ?_
 have g1 := Dq S [.v (.bool b), .v (.bool f)]
 have k1 := Dj S [.v (.bool b), .v (.bool f)]
 generalize hS1 : S.newBox [.v (.bool b), .v (.bool f)] = S1 at g1 k1
 have l0 := ld4 g1 0 (by simp)
 have l1 := ld4 g1 1 (by simp)
 have q1 := D3 [102, 117, 116, 117, 114, 101, 32] [98, 111, 111, 108] (by decide)
 have q2 := D3 [102, 117, 116, 117, 114, 101, 32] [105, 110, 116] (by decide)
 have agg_noTup2 : (AV.agg [.v (.bool b), .v (.bool f)]).noTup = true := rfl
 cases b <;> cases f
 ·simp only [Br,A8,Bk,Bn,Bz,A7,Cc,Bl,A9,Bq,Bp,A4,Bd,Bc,B6,A0,A1,ofOpt,Be,Bi,By,Bg,Cd,Nat.reduceLT,Nat.reduceEqDiff,Aa,Ab,Ac,Ae,Am,D8,Dd,Tryz.f28,hS1,agg_noTup2,AV.cells,gJ,gI,l0,l1,q1,q2]
  exact ⟨_, rfl, k1⟩
 ·simp only [Br,A8,Bk,Bn,Bz,A7,Cc,Bl,A9,Bq,Bp,A4,Bd,Bc,B6,A0,A1,ofOpt,Be,Bi,By,Bg,Cd,Nat.reduceLT,Nat.reduceEqDiff,Aa,Ab,Ac,Ae,Am,D8,Dd,Tryz.f28,hS1,agg_noTup2,AV.cells,gJ,gI,l0,l1,q1,q2]
  exact ⟨_, rfl, k1⟩
 ·simp only [Br,A8,Bk,Bn,Bz,A7,Cc,Bl,A9,Bq,Bp,A4,Bd,Bc,B6,A0,A1,ofOpt,Be,Bi,By,Bg,Cd,Nat.reduceLT,Nat.reduceEqDiff,Aa,Ab,Ac,Ae,Am,D8,Dd,Tryz.f28,hS1,agg_noTup2,AV.cells,gJ,gI,l0,l1,q1,q2]
  exact ⟨_, rfl, k1⟩
 ·simp only [Br,A8,Bk,Bn,Bz,A7,Cc,Bl,A9,Bq,Bp,A4,Bd,Bc,B6,A0,A1,ofOpt,Be,Bi,By,Bg,Cd,Nat.reduceLT,Nat.reduceEqDiff,Aa,Ab,Ac,Ae,Am,D8,Dd,Tryz.f28,hS1,agg_noTup2,AV.cells,gJ,gI,l0,l1,q1,q2]
  exact ⟨_, rfl, k1⟩
noncomputable def oO : Code := (F6 (Tryz.f60.body.getD .skip)).getD .skip
noncomputable def nG : Code := (F6 (Tryz.f93.body.getD .skip)).getD .skip
set_option maxHeartbeats 16000000 in
theorem gM {v : AV} {l : List PD} (hv : Hn 6 F9 v l) (hlen : l.length ≤ 100000) (hfit : ∀ d ∈ l, Ps d) (sp : AV) (S0 : St) (hn : 2 ≤ S0.next) :
  ∀ (m j : Nat) (t : T AV) (S : St) (a : AV), j + m = l.length → t.get 1 = some sp → t.get 5 = some a → t.get 9 = some v → t.get 10 = some (.v (.int .i64 (l.length : Int))) → t.get 11 = some (.v (.int .i64 (j : Int))) →
   S0.next ≤ S.next → V0 S0.next S a (((l.map I8).take j).map Cl) → (∀ id, id < S0.next → S.mem.get id = S0.mem.get id) →
   WX E6 40 (.loop oO) ⟨t, []⟩ S (fun r => ∃ t' S' a', r = .out (.exit 0) ⟨t', []⟩ S' ∧ t'.get 1 = some sp ∧ t'.get 5 = some a' ∧ V0 S0.next S' a' ((l.map I8).map Cl) ∧ Ej S0 S')
 | 0, j, t, S, a, hj, h1, h5, h9, h10, h11, hS, hrow, hkeep => by
  refine Ew (Eg ?_)
  have hlt : decide ((j : Int) < (l.length : Int)) = false := decide_eq_false (by omega)
  simp only [B8,Br,A8,Bk,Bn,B3,Dh,A7,Fk,Bl,A9,Bq,Bp,Dk,A4,Bd,Bc,A0,ofOpt,B5,Dg,Nat.reduceLT,Nat.reduceEqDiff,Aa,Ab,Ac,Ae,Am,D8,oO,F6,Tryz.f60,h9,h10,h11,hlt]
  refine ⟨_, _, _, rfl, by simp only [A0,Nat.reduceEqDiff,Ab]; exact h1, by simp only [A0,Nat.reduceEqDiff,Ab]; exact h5, ?_, hS, hkeep⟩
  have e : (l.map I8).take j = l.map I8 := List.take_of_length_le (by rw [List.length_map]; omega)
  rw [e] at hrow
  exact hrow
 | m + 1, j, t, S, a, hj, h1, h5, h9, h10, h11, hS, hrow, hkeep => by
  refine Ew (Eg ?_)
  obtain ⟨fn1, hf1⟩ := fn6_28
  obtain ⟨fn2, hf2⟩ := zX
  have hlt : decide ((j : Int) < (l.length : Int)) = true := decide_eq_true (by omega)
  have hjl : j < l.length := by omega
  obtain ⟨tok, off, rfl⟩ : ∃ tok off, v = .sl tok off 6 (l.map F9) := by
   rcases hv with ⟨_, h0⟩ | h
   ·rw [h0] at hjl; cases hjl
   ·exact h
  have q1 := idx46d tok off l j hjl
  have q2 := lep54 S l[j]
  have hfd := hfit _ (List.getElem_mem hjl)
  generalize hd : l[j] = d at q1 q2 hfd
  have q3 := st54w (Dq S aF) rfl d
  have g3 := En (S.newBox aF) S.next (F2 d)
  have k3 : Ej S ((S.newBox aF).put S.next (F2 d)) := Ep (Dj S _) (Nat.le_refl _) _
  have lt3 : S.next < ((S.newBox aF).put S.next (F2 d)).next := Nat.lt_succ_self _
  generalize hS3 : (S.newBox aF).put S.next (F2 d) = S3 at q3 g3 k3 lt3
  have r0 : Cv Tryz.prog S3 9 (.ptr S.next 0) = some (.v (.string ⟨⟨d.name⟩⟩)) := ld9k g3 0 (by show 0 < 6; omega)
  have r2 := ld52 g3
  have h30 := hfd.1; have h31 := hfd.2
  have c1 := D3 d.name [58, 32] (by simp; omega)
  simp only [B8,Br,A8,Cu,Bk,Bn,B3,Dh,A7,Fk,Bl,A9,Bq,Gi,Gw,Bp,C6,A4,Bd,Bc,A0,ofOpt,ofOptS,B5,Dg,Nat.reduceLT,Nat.reduceEqDiff,Aa,Ab,Ac,Ae,Am,D8,oO,F6,Tryz.f60,h9,h10,h11,hlt,q1,q2,lJ,q3]
  refine Ij [(0, true), (1, true), (2, true), (3, true), (4, true), (5, true), (1, false), (6, true), (7, true)] (by kernel_rfl) (by kernel_rfl) ?_
  simp only [A4,Bd,Bc,A0,Bm,B0,ofOpt,Be,Nat.reduceLT,Nat.reduceEqDiff,Aa,Ab,Ac,Af,Ag,Ah,Aj,Ak,Am,D8,Dd,hf1,fd54_0,fd54_2,r0,r2,c1,Dx,Eb,Eu,Dy,G3]
  refine WC.mono (mH d.bool d.fut S3) ?_
  rintro _ ⟨S4, rfl, k4⟩
  have g4 := (k4.2 _ lt3).trans g3
  have s0 : Cv Tryz.prog S4 9 (.ptr S.next 0) = some (.v (.string ⟨⟨d.name⟩⟩)) := ld9k g4 0 (by show 0 < 6; omega)
  have s4 : Cv Tryz.prog S4 9 (.ptr S.next 4) = some (.v (.string ⟨⟨d.clock⟩⟩)) := ld9k g4 4 (by show 4 < 6; omega)
  have s5 : Cv Tryz.prog S4 4 (.ptr S.next 5) = some (.v (.bool d.off)) := ld4 g4 5 (by show 5 < 6; omega)
  have ht := iC d.bool d.fut
  have hw := Xs d.clock d.off
  have c2 := D3 (d.name ++ [58, 32]) (V7 d.bool d.fut) (by simp; omega)
  have c3 := D3 ((d.name ++ [58, 32]) ++ V7 d.bool d.fut) (Sv d.clock d.off) (by simp; omega)
  have w1 : IntKind.i64.wrap ((j : Int) + 1) = ((j + 1 : Nat) : Int) := H6 (j := 1) (by omega)
  have k04 : Ej S S4 := k3.trans k4
  obtain ⟨S5, q5, hrow5, hn5, hk5⟩ := mT (hrow.keep k04) (by have := k04.1; omega) (Nat.le_trans hS k04.1) (I8 d) (by rw [List.length_map, List.length_take]; omega)
  have q6 := xG (I8 d)
  have eR : (((l.map I8).take (j + 1)).map Cl) = (((l.map I8).take j).map Cl) ++ [.v (.string ⟨⟨I8 d⟩⟩)] := by
   rw [List.take_add_one, List.map_append, List.getElem?_map, List.getElem?_eq_getElem hjl, hd]; rfl
  rw [← eR] at hrow5
  rw [← eR] at q5
  have fin5 : ∀ id, id < S0.next → S5.mem.get id = S0.mem.get id := fun id hid => by rw [hk5 id hid, k04.2 id (by omega)]; exact hkeep id hid
  have hS5 : S0.next ≤ S5.next := Nat.le_trans hS (Nat.le_trans k04.1 hn5)
  by_cases hc : d.clock = []
  ·have nc : (!decide (d.clock = ([] : List UInt8))) = false := by simp [hc]
   have eD : I8 d = (d.name ++ [58, 32]) ++ V7 d.bool d.fut := by unfold I8; rw [if_pos hc]
   rw [eD] at q5 q6
   simp only [B4,Br,A8,Bk,Bn,A7,Ca,Bl,A9,Bq,B9,Bp,Dk,A4,Bd,Bc,A0,Bm,B0,ofOpt,ofOptS,Be,Bt,B5,Ds,Nat.reduceLT,Nat.reduceEqDiff,Aa,Ab,Ac,Aj,Ak,Am,D8,Dd,h5,h11,hf2,oJ,oI,s0,s4,s5,c2,Cl,sC,nc,q5,q6,w1,Fi,Dx,Kp,Eb,Dy,Fl,Gd,Du,Ec,Jb]
   exact gM (.inr ⟨tok, off, rfl⟩) hlen hfit sp S0 hn m (j + 1) _ S5 _ (by omega) (by simp only [A0,Nat.reduceEqDiff,Ab]; exact h1) (by simp only [A0,Nat.reduceEqDiff,Ab,Aa]) (by simp only [A0,Nat.reduceEqDiff,Ab]; exact h9) (by simp only [A0,Nat.reduceEqDiff,Ab]; exact h10) (by simp only [A0,Nat.reduceEqDiff,Ab,Aa]) hS5 hrow5 fin5
  ·have nc : (!decide (d.clock = ([] : List UInt8))) = true := by simp [hc]
   have eD : I8 d = ((d.name ++ [58, 32]) ++ V7 d.bool d.fut) ++ Sv d.clock d.off := by unfold I8; rw [if_neg hc]
   rw [eD] at q5 q6
   simp only [Br,A8,Bk,Bn,A7,Bl,A9,Bq,B9,Bp,C6,A4,Bd,Bc,A0,Bm,B0,ofOpt,Be,Bt,Nat.reduceLT,Nat.reduceEqDiff,Aa,Ab,Ac,Aj,Ak,Am,D8,Dd,h5,hf2,oJ,oI,s0,s4,s5,c2,Cl,sC,nc,Fi,Dx,Kp,Eb,Dy,Fl,Gd,Du,Ec,Jb]
   refine WC.mono (wD d.clock d.off (by omega) S4) ?_
   rintro _ rfl
   simp only [B4,A8,A7,Ca,Bl,A9,Bq,Bp,C8,A4,Bd,Bc,A0,Bm,ofOpt,ofOptS,Be,Bt,B5,Ds,Nat.reduceLT,Nat.reduceEqDiff,Aa,Ab,Ac,Am,D8,Dd,h5,h11,c3,Cl,q5,q6,w1]
   exact gM (.inr ⟨tok, off, rfl⟩) hlen hfit sp S0 hn m (j + 1) _ S5 _ (by omega) (by simp only [A0,Nat.reduceEqDiff,Ab]; exact h1) (by simp only [A0,Nat.reduceEqDiff,Ab,Aa]) (by simp only [A0,Nat.reduceEqDiff,Ab]; exact h9) (by simp only [A0,Nat.reduceEqDiff,Ab]; exact h10) (by simp only [A0,Nat.reduceEqDiff,Ab,Aa]) hS5 hrow5 fin5
end Go.Ax
noncomputable section
namespace Go.Ax
open Go.RowKit Go.Proofs
set_option maxRecDepth 100000
theorem yS (S : St) {v : AV} {l : List (List UInt8 × Nat)} (h : Hn 2 F1 v l) : Ie Tryz.prog S 55 v = some l.length := by
 rcases h with ⟨rfl, rfl⟩ | ⟨tok, off, rfl⟩
 ·have : Ie Tryz.prog S 55 .nils = some 0 := by kernel_rfl
  exact this
 ·have mG : Tryz.prog.underlying 55 = some (.slice 59) := by kernel_rfl
  simp [Ie, mG]
theorem oV {l : List PD} (hlen : l.length ≤ 100000) (hfit : ∀ d ∈ l, Ps d) {sep : List UInt8} (hs : sep.length ≤ 2) : (Po l sep).length ≤ 10000000 := by
 have := T3 (m := 83) sep (l.map I8) (fun w hw => by
  obtain ⟨d, hd, rfl⟩ := List.mem_map.1 hw
  exact dB (hfit d hd))
 rw [List.length_map] at this
 have h2 : l.length * (83 + sep.length) ≤ 100000 * 85 := Nat.mul_le_mul hlen (by omega)
 unfold Po
 omega
theorem cI {l : List (List UInt8 × Nat)} (hlen : l.length ≤ 100000) (hfit : ∀ x ∈ l, x.1.length ≤ 30) : (Lib.join (l.map (·.1)) [44, 32]).length ≤ 10000000 := by
 have := T3 (m := 30) [44, 32] (l.map (·.1)) (fun w hw => by
  obtain ⟨d, hd, rfl⟩ := List.mem_map.1 hw
  exact hfit d hd)
 rw [List.length_map] at this
 have h2 : l.length * (30 + ([44, 32] : List UInt8).length) ≤ 100000 * 32 := Nat.mul_le_mul hlen (by simp)
 omega
set_option maxHeartbeats 16000000 in
theorem lC {v : AV} {l : List PD} (hv : Hn 6 F9 v l) (hlen : l.length ≤ 100000) (hfit : ∀ d ∈ l, Ps d) (sep : List UInt8) (hsep : sep.length ≤ 2) (S : St) (hn : 2 ≤ S.next) : WC E6 60 [v, .v (.string ⟨⟨sep⟩⟩)] S (fun r => ∃ S', r = .ret (Cl (Po l sep)) S' ∧ Ej S S') := by
 refine Do Tryz.f60 (by kernel_rfl) (by kernel_rfl) (by kernel_rfl) (show (_ : Nat) ≤ _ from by show (_ : Nat) ≤ _; simp [Tryz.f60]) ?_
 obtain ⟨fn1, hf1⟩ := oD
 have lk := yT S hv
 simp only [A8,Bk,B3,D1,A7,Bl,A9,Bq,Bp,A4,Bd,Bc,B6,A0,A1,Bm,ofOpt,Be,Nat.reduceLT,Nat.reduceAdd,Nat.reduceEqDiff,Aa,Ab,Ac,Ae,D8,Tryz.f60,lk]
 refine WX.mono (gM hv hlen hfit (.v (.string ⟨⟨sep⟩⟩)) S hn l.length 0 _ S .nils (by omega) (by simp [T.get_set]) (by simp [T.get_set]) (by simp [T.get_set]) (by simp [T.get_set]) (by simp [T.get_set]) (Nat.le_refl _) (.inl ⟨rfl, by simp⟩) (fun _ _ => rfl)) ?_
 rintro _ ⟨t', S', a', rfl, h1, h5, hrow, hkp⟩
 have hj := oV hlen hfit hsep
 simp only [A8,Bk,A7,Fk,Gr,A9,Bq,B9,Bp,A4,Bd,Bc,A0,Bm,B0,ofOpt,Nat.reduceLT,Nat.reduceEqDiff,Aa,Ab,Ac,Aj,Ak,h1,h5,hf1]
 refine WC.mono (nO hrow sep (by rw [List.length_map]; omega) (by unfold Po at hj; omega)) ?_
 rintro _ rfl
 simp only [Bz,A7,Bl,A9,Bq,Bp,C8,A4,Bd,Bc,A0,ofOpt,Bi,By,Bg,Cd,Nat.reduceLT,Nat.reduceEqDiff,Aa,Ab,Ac]
 exact ⟨_, rfl, hkp⟩
set_option maxHeartbeats 16000000 in
theorem qZ {v : AV} {l : List (List UInt8 × Nat)} (hv : Hn 2 F1 v l) (hlen : l.length ≤ 100000) (S0 : St) (hn : 2 ≤ S0.next) :
  ∀ (m j : Nat) (t : T AV) (S : St) (a : AV), j + m = l.length → t.get 3 = some a → t.get 7 = some v → t.get 8 = some (.v (.int .i64 (l.length : Int))) → t.get 9 = some (.v (.int .i64 (j : Int))) →
   S0.next ≤ S.next → V0 S0.next S a (((l.map (·.1)).take j).map Cl) → (∀ id, id < S0.next → S.mem.get id = S0.mem.get id) →
   WX E6 28 (.loop nG) ⟨t, []⟩ S (fun r => ∃ t' S' a', r = .out (.exit 0) ⟨t', []⟩ S' ∧ t'.get 3 = some a' ∧ V0 S0.next S' a' ((l.map (·.1)).map Cl) ∧ Ej S0 S')
 | 0, j, t, S, a, hj, h3, h7, h8, h9, hS, hrow, hkeep => by
  refine Ew (Eg ?_)
  have hlt : decide ((j : Int) < (l.length : Int)) = false := decide_eq_false (by omega)
  simp only [B8,Br,A8,Bk,Bn,B3,Dh,A7,Fk,Bl,A9,Bq,Bp,Dk,A4,Bd,Bc,A0,ofOpt,B5,Dg,Nat.reduceLT,Nat.reduceEqDiff,Aa,Ab,Ac,Ae,Am,D8,nG,F6,Tryz.f93,h7,h8,h9,hlt]
  refine ⟨_, _, _, rfl, by simp only [A0,Nat.reduceEqDiff,Ab]; exact h3, ?_, hS, hkeep⟩
  have e : (l.map (·.1)).take j = l.map (·.1) := List.take_of_length_le (by rw [List.length_map]; omega)
  rw [e] at hrow
  exact hrow
 | m + 1, j, t, S, a, hj, h3, h7, h8, h9, hS, hrow, hkeep => by
  refine Ew (Eg ?_)
  have hlt : decide ((j : Int) < (l.length : Int)) = true := decide_eq_true (by omega)
  have hjl : j < l.length := by omega
  obtain ⟨tok, off, rfl⟩ : ∃ tok off, v = .sl tok off 2 (l.map F1) := by
   rcases hv with ⟨_, h0⟩ | h
   ·rw [h0] at hjl; cases hjl
   ·exact h
  have q1 := idx55d tok off l j hjl
  have q2 := lep59 S l[j]
  generalize hd : l[j] = d at q1 q2
  have q3 := st59w (Dq S gY) rfl d
  have g3 := En (S.newBox gY) S.next (Gz d)
  have k3 : Ej S ((S.newBox gY).put S.next (Gz d)) := Ep (Dj S _) (Nat.le_refl _) _
  generalize hS3 : (S.newBox gY).put S.next (Gz d) = S3 at q3 g3 k3
  have r0 : Cv Tryz.prog S3 9 (.ptr S.next 0) = some (.v (.string ⟨⟨d.1⟩⟩)) := ld9k g3 0 (by show 0 < 2; omega)
  have w1 : IntKind.i64.wrap ((j : Int) + 1) = ((j + 1 : Nat) : Int) := H6 (j := 1) (by omega)
  obtain ⟨S5, q5, hrow5, hn5, hk5⟩ := mT (hrow.keep k3) (by have := k3.1; omega) (Nat.le_trans hS k3.1) d.1 (by rw [List.length_map, List.length_take]; omega)
  have q6 := xG d.1
  have eR : (((l.map (·.1)).take (j + 1)).map Cl) = (((l.map (·.1)).take j).map Cl) ++ [.v (.string ⟨⟨d.1⟩⟩)] := by
   rw [List.take_add_one, List.map_append, List.getElem?_map, List.getElem?_eq_getElem hjl, hd]; rfl
  rw [← eR] at hrow5
  rw [← eR] at q5
  have fin5 : ∀ id, id < S0.next → S5.mem.get id = S0.mem.get id := fun id hid => by rw [hk5 id hid, k3.2 id (by omega)]; exact hkeep id hid
  have hS5 : S0.next ≤ S5.next := Nat.le_trans hS (Nat.le_trans k3.1 hn5)
  simp only [B4,B8,Br,A8,Bk,Bn,B3,Dh,A7,Fk,Ca,Bl,A9,Bq,Gi,Gw,Bp,C6,A4,Bd,Bc,A0,Bm,ofOpt,ofOptS,Be,Bt,B5,Dg,Ds,Nat.reduceLT,Nat.reduceEqDiff,Aa,Ab,Ac,Ae,Am,D8,nG,F6,Tryz.f93,h3,h7,h8,h9,hlt,q1,q2,alo59,q3,fd59_0,r0,q5,q6,w1]
  exact qZ (.inr ⟨tok, off, rfl⟩) hlen S0 hn m (j + 1) _ S5 _ (by omega) (by simp only [A0,Nat.reduceEqDiff,Ab,Aa]) (by simp only [A0,Nat.reduceEqDiff,Ab]; exact h7) (by simp only [A0,Nat.reduceEqDiff,Ab]; exact h8) (by simp only [A0,Nat.reduceEqDiff,Ab,Aa]) hS5 hrow5 fin5
set_option maxHeartbeats 16000000 in
theorem nM {v : AV} {l : List (List UInt8 × Nat)} (hv : Hn 2 F1 v l) (hlen : l.length ≤ 100000) (hfit : ∀ x ∈ l, x.1.length ≤ 30) (S : St) (hn : 2 ≤ S.next) : WC E6 93 [v] S (fun r => ∃ S', r = .ret (Cl (Px l)) S' ∧ Ej S S') := by
 refine Do Tryz.f93 (by kernel_rfl) (by kernel_rfl) (by kernel_rfl) (show (_ : Nat) ≤ _ from by show (_ : Nat) ≤ _; simp [Tryz.f93]) ?_
 obtain ⟨fn1, hf1⟩ := oD
 have lk := yS S hv
 simp only [A8,Bk,B3,D1,A7,Bl,A9,Bq,Bp,A4,Bd,Bc,B6,A0,A1,Bm,ofOpt,Be,Nat.reduceLT,Nat.reduceEqDiff,Aa,Ab,Ac,Ae,D8,Tryz.f93,lk]
 refine WX.mono (qZ hv hlen S hn l.length 0 _ S .nils (by omega) (by simp [T.get_set]) (by simp [T.get_set]) (by simp [T.get_set]) (by simp [T.get_set]) (Nat.le_refl _) (.inl ⟨rfl, by simp⟩) (fun _ _ => rfl)) ?_
 rintro _ ⟨t', S', a', rfl, h3, hrow, hkp⟩
 have hj := cI hlen hfit
 simp only [A8,Bk,A7,Fk,Gr,A9,Bq,B9,Bp,A4,Bd,Bc,A0,Bm,B0,ofOpt,Be,Nat.reduceLT,Aa,Ac,Aj,Ak,h3,hf1]
 refine WC.mono (nO hrow [44, 32] (by rw [List.length_map]; omega) (by omega)) ?_
 rintro _ rfl
 have lk2 := yR hrow
 rw [List.length_map, List.length_map] at lk2
 have eL : Px l = if 1 < l.length then ([40] ++ Lib.join (l.map (·.1)) [44, 32]) ++ [41] else Lib.join (l.map (·.1)) [44, 32] := rfl
 rw [eL]
 generalize Lib.join (l.map (·.1)) [44, 32] = J at hj
 have q1 := D3 [40] J (by simp; omega)
 have q2 := D3 ([40] ++ J) [41] (by simp; omega)
 by_cases h1 : 1 < l.length
 ·have hd : decide ((l.length : Int) > 1) = true := decide_eq_true (by omega)
  simp only [Br,A8,Bk,Bn,Bz,A7,Cc,Bl,A9,Bq,Bp,C8,C6,A4,Bd,Bc,A0,Bm,ofOpt,Be,B5,Bi,By,Bg,Cd,Dm,Nat.reduceLT,Nat.reduceEqDiff,Aa,Ab,Ac,Am,D8,Dd,h3,lk2,hd,q1,q2,Cl]
  exact ⟨_, by rw [if_pos h1], hkp⟩
 ·have hd : decide ((l.length : Int) > 1) = false := decide_eq_false (by omega)
  simp only [Br,A8,Bk,Bn,Bz,A7,Bl,A9,Bq,Bp,C8,Dk,A4,Bd,Bc,A0,Bm,ofOpt,Be,B5,Bi,By,Bg,Cd,Dm,Nat.reduceLT,Nat.reduceEqDiff,Aa,Ab,Ac,Am,D8,Uf,Dd,h3,lk2,hd,Cl]
  exact ⟨_, by rw [if_neg h1], hkp⟩
theorem fd57_0 (b : Nat) : Cx Tryz.prog 57 (.ptr b 0) 0 = some (.ptr b 0) := by kernel_rfl
theorem ag55 : Ff Tryz.prog 55 = some false := by kernel_rfl
theorem ldq0 {S : St} {id : Nat} {lv : AV} {a : Bool} {xs : List AV} (h : S.mem.get id = some (.box (eqC lv a xs))) : Cv Tryz.prog S 55 (.ptr id 0) = some lv := by
 simp [Cv, Dc, h, ag55, eqC]
theorem ldq1 {S : St} {id : Nat} {lv : AV} {a : Bool} {xs : List AV} (h : S.mem.get id = some (.box (eqC lv a xs))) : Cv Tryz.prog S 4 (.ptr id 1) = some (.v (.bool a)) := by
 simp [Cv, Dc, h, ag4, eqC]
theorem ldq2 {S : St} {id : Nat} {lv : AV} {a : Bool} {xs : List AV} (h : S.mem.get id = some (.box (eqC lv a xs))) (hx : xs.length = 6) : Cv Tryz.prog S 30 (.ptr id 2) = some (.agg xs) := by
 have e : xs.take 6 = xs := List.take_of_length_le (by omega)
 simp [Cv, Dc, h, a30, s30, eqC, hx, e]
set_option maxHeartbeats 16000000 in
theorem eqText_w {v : AV} {q : PQ} (hv : W4 v q) (hfit : FitQ q) (S : St) (hn : 2 ≤ S.next) : WC E6 61 [v] S (fun r => ∃ S', r = .ret (Cl (eqT q)) S' ∧ Ej S S') := by
 obtain ⟨lv, xs, rfl, hl, hx, hr⟩ := hv
 obtain ⟨f1, f2, f3, f4⟩ := hfit
 refine Do Tryz.f61 (by kernel_rfl) (by kernel_rfl) (by kernel_rfl) (show (_ : Nat) ≤ _ from by show (_ : Nat) ≤ _; simp [Tryz.f61]) ?_
 obtain ⟨fn1, hf1⟩ := fn6_93
 obtain ⟨fn2, hf2⟩ := zY
 have g1 := Dq S (eqC lv q.async xs)
 have k1 := Dj S (eqC lv q.async xs)
 have lt1 : S.next < (S.newBox (eqC lv q.async xs)).next := Nat.lt_succ_self _
 have n1 : 2 ≤ (S.newBox (eqC lv q.async xs)).next := Nat.le_trans hn k1.1
 generalize hS1 : S.newBox (eqC lv q.async xs) = S1 at g1 k1 lt1 n1
 have l0 := ldq0 g1
 simp only [A8,Bk,A7,Bl,A9,Bq,B9,Bp,A4,Bd,Bc,B6,A0,A1,Bm,B0,ofOpt,Be,Nat.reduceLT,Nat.reduceEqDiff,Aa,Ab,Ac,Ae,Aj,Ak,D8,Tryz.f61,hS1,Cm,Cn,fd57_0,l0,hf1]
 refine WC.mono (nM hl f1 f2 S1 n1) ?_
 rintro _ ⟨S2, rfl, k2⟩
 have g2 := (k2.2 _ lt1).trans g1
 have m1 := ldq1 g2
 have m2 := ldq2 g2 hx
 have hj := cI f1 f2
 have hL : (Px q.left).length ≤ 10000002 := by unfold Px; split <;> first | omega | (simp only [List.length_append,List.length_cons,List.length_nil]; omega)
 have hE := Xy f3
 have eQ : eqT q = (if q.async then (Px q.left ++ [32, 61, 32]) ++ [97, 115, 121, 110, 99, 32] else Px q.left ++ [32, 61, 32]) ++ Ir q.e := rfl
 rw [eQ]
 generalize Px q.left = A at hL
 have q1 := D3 A [32, 61, 32] (by simp; omega)
 have q2 := D3 (A ++ [32, 61, 32]) [97, 115, 121, 110, 99, 32] (by simp; omega)
 have q3 := D3 (A ++ [32, 61, 32]) (Ir q.e) (by simp; omega)
 have q4 := D3 ((A ++ [32, 61, 32]) ++ [97, 115, 121, 110, 99, 32]) (Ir q.e) (by simp; omega)
 have n2 : 2 ≤ S2.next := Nat.le_trans n1 k2.1
 cases ha : q.async with
 | true =>
  rw [ha] at m1
  simp only [Br,A8,Bk,Bn,A7,Bl,A9,Bq,B9,Bp,C8,C6,A4,Bd,Bc,A0,A1,Bm,B0,ofOpt,Be,Nat.reduceLT,Nat.reduceEqDiff,Aa,Ab,Ac,Aj,Ak,Am,D8,Dd,fq1,fq2,m1,m2,hf2,q1,q2,Cl]
  refine WC.mono (wM f3 f4 xs hr S2 n2) ?_
  rintro _ ⟨S3, rfl, k3⟩
  simp only [Bz,A7,Bl,A9,Bq,Bp,C8,A4,Bd,Bc,A0,A1,ofOpt,Bi,By,Bg,Cd,Nat.reduceLT,Nat.reduceEqDiff,Aa,Ab,Ac,Am,D8,Dd,q4,Cl]
  exact ⟨_, rfl, (k1.trans k2).trans k3⟩
 | false =>
  rw [ha] at m1
  simp only [Br,A8,Bk,Bn,A7,Bl,A9,Bq,B9,Bp,C8,Dk,A4,Bd,Bc,A0,A1,Bm,B0,ofOpt,Be,Nat.reduceLT,Nat.reduceEqDiff,Aa,Ab,Ac,Aj,Ak,Am,D8,Uf,Dd,fq1,fq2,m1,m2,hf2,q1,Cl]
  refine WC.mono (wM f3 f4 xs hr S2 n2) ?_
  rintro _ ⟨S3, rfl, k3⟩
  simp only [Bz,A7,Bl,A9,Bq,Bp,C8,A4,Bd,Bc,A0,A1,ofOpt,Bi,By,Bg,Cd,Nat.reduceLT,Nat.reduceEqDiff,Aa,Ab,Ac,Am,D8,Dd,q3,Cl]
  exact ⟨_, rfl, (k1.trans k2).trans k3⟩
end Go.Ax
noncomputable section
namespace Go.Ax
open Go.RowKit Go.Proofs
theorem Rq {w w' : World} {base e size n : Nat} {v : Value} {xs : List Value} (h : w.ownsRow base e size v n xs) (hb : Below w.heap.size w w') : w'.ownsRow base e size v n xs := by
 refine ⟨h.1, ?_⟩
 rcases h.2 with hn | ⟨g, cap, cur, hv, hbg, hg, rest⟩
 ·exact .inl hn
 ·exact .inr ⟨g, cap, cur, hv, hbg, (hb.block g (Array.getElem?_eq_some_iff.1 hg).1).trans hg, rest⟩
def Six (w : World) (b o : Nat) (c0 c1 c2 c3 c4 c5 : Value) : Prop :=
 w.cell? ⟨b, o, none⟩ = some c0 ∧ w.cell? ⟨b, o + 1, none⟩ = some c1 ∧ w.cell? ⟨b, o + 2, none⟩ = some c2 ∧ w.cell? ⟨b, o + 3, none⟩ = some c3 ∧ w.cell? ⟨b, o + 4, none⟩ = some c4 ∧ w.cell? ⟨b, o + 5, none⟩ = some c5
theorem Six.below {w w' : World} {B b o : Nat} {c0 c1 c2 c3 c4 c5 : Value} (hb : Below B w w') (h : b < B) (hs : Six w b o c0 c1 c2 c3 c4 c5) : Six w' b o c0 c1 c2 c3 c4 c5 := by
 obtain ⟨h0, h1, h2, h3, h4, h5⟩ := hs
 exact ⟨(hb.cell (p := ⟨b, o, none⟩) h).trans h0, (hb.cell (p := ⟨b, o + 1, none⟩) h).trans h1, (hb.cell (p := ⟨b, o + 2, none⟩) h).trans h2, (hb.cell (p := ⟨b, o + 3, none⟩) h).trans h3, (hb.cell (p := ⟨b, o + 4, none⟩) h).trans h4, (hb.cell (p := ⟨b, o + 5, none⟩) h).trans h5⟩
theorem tG {w : World} {b o : Nat} {c0 c1 c2 c3 c4 c5 : Value} (h : Six w b o c0 c1 c2 c3 c4 c5) : w.cell? ⟨b, o, none⟩ = some c0 ∧ w.cell? ⟨b, o + 1, none⟩ = some c1 ∧ w.cell? ⟨b, o + 2, none⟩ = some c2 ∧ w.cell? ⟨b, o + 3, none⟩ = some c3 ∧ w.cell? ⟨b, o + 4, none⟩ = some c4 ∧ w.cell? ⟨b, o + 5, none⟩ = some c5 := h
def Blk (w : World) (b T : Nat) (cs : Array Value) : Prop := w.heap[b]? = some (.cells cs T (0, 0))
theorem Blk.lt {w : World} {b T : Nat} {cs : Array Value} (h : Blk w b T cs) : b < w.heap.size := lt_of_block h
theorem Blk.cell {w : World} {b T : Nat} {cs : Array Value} (h : Blk w b T cs) {o : Nat} {v : Value} (hv : cs[o]? = some v) : w.cell? ⟨b, o, none⟩ = some v := by
 unfold Blk at h
 simp [World.cell?, h, hv]
theorem Blk.new (w : World) (T : Nat) (cs : Array Value) : Blk (w.alloc (.cells cs T)) w.heap.size T cs := heap_alloc_new w _
theorem Blk.same {w w' : World} {b T : Nat} {cs : Array Value} (h : Blk w b T cs) (hs : w'.heap[b]? = w.heap[b]?) : Blk w' b T cs := hs.trans h
theorem Blk.below {w w' : World} {b T : Nat} {cs : Array Value} (h : Blk w b T cs) (hb : Below w.heap.size w w') : Blk w' b T cs := h.same (hb.block b h.lt)
theorem Blk.alloc {w : World} {b T : Nat} {cs : Array Value} (h : Blk w b T cs) (o : Obj) : Blk (w.alloc o) b T cs := h.same (heap_alloc_old w _ h.lt)
theorem Blk.other {w : World} {b b' o T : Nat} {cs : Array Value} {x : Value} (h : Blk w b T cs) (hne : b ≠ b') : Blk (w.setCell ⟨b', o, none⟩ x) b T cs :=
 h.same (Below.heap_setCell _ _ _ _ hne)
theorem Blk.set {w : World} {b o T : Nat} {cs : Array Value} (h : Blk w b T cs) (x : Value) : Blk (w.setCell ⟨b, o, none⟩ x) b T (cs.setIfInBounds o x) := by
 have hlt := h.lt
 have h' : w.heap[b] = .cells cs T (0, 0) := by have := h; unfold Blk at this; simpa [Array.getElem?_eq_getElem hlt] using this
 show (w.heap.modify b _)[b]? = _
 rw [Array.getElem?_eq_getElem (by simpa using hlt), Array.getElem_modify_self, h']
 rfl
theorem Blk.grown {w w' : World} {b T : Nat} {cs : Array Value} {row : Option Nat} (h : Blk w b T cs) (hg : w.grownBy w' row) (hne : row ≠ some b) : Blk w' b T cs :=
 h.same (hg.block b h.lt (fun e => hne e.symm))
theorem Blk.six {w : World} {b T : Nat} {c0 c1 c2 c3 c4 c5 : Value} (h : Blk w b T #[c0, c1, c2, c3, c4, c5]) : w.cell? ⟨b, 0, none⟩ = some c0 ∧ w.cell? ⟨b, 1, none⟩ = some c1 ∧ w.cell? ⟨b, 2, none⟩ = some c2 ∧ w.cell? ⟨b, 3, none⟩ = some c3 ∧ w.cell? ⟨b, 4, none⟩ = some c4 ∧ w.cell? ⟨b, 5, none⟩ = some c5 :=
 ⟨h.cell rfl, h.cell rfl, h.cell rfl, h.cell rfl, h.cell rfl, h.cell rfl⟩
theorem pY : (Tryz.prog.info? 108).map (·.size) = some 2 := by kernel_rfl
theorem lies108 : liesAt Tryz.prog Tryz.prog.depth 108 (2 / Tryz.prog.cellsOf 108) 0 108 1 = true := by kernel_rfl
theorem uU : (Tryz.prog.info? 5).map (fun i => (i.zero, i.size, i.bytes)) = some (some (.int .u8 0), 1, 1) := by kernel_rfl
set_option maxHeartbeats 1000000 in
set_option maxRecDepth 100000 in
theorem cc_used (b : Nat) (w : World) (h0 : w.cell? ⟨b, 0, none⟩ = some (.pointer (some ⟨b, 0, none⟩))) :
  Calls Tryz.prog 92 #[.pointer (some ⟨b, 0, none⟩)] w fun e w' => e = .returned (.tuple #[]) ∧ w' = w := by
 obtain ⟨j, hj, _⟩ := Option.map_eq_some_iff.1 pY
 go_enter Tryz.func92, Tryz.ntmps92
 go_wp2
 rw [Lib.run_neq_ptr_same w _ Tryz.underlying106 hj]
 go_wp2
 go_end0
 exact ⟨rfl, rfl⟩
set_option maxHeartbeats 1000000 in
set_option maxRecDepth 100000 in
theorem cc_fresh (b : Nat) (w : World) (h0 : w.cell? ⟨b, 0, none⟩ = some (.pointer none)) (hsh : w.shape? b = some (108, 2)) (hfz : w.frozen? ⟨b, 0, none⟩ = false) :
  Calls Tryz.prog 92 #[.pointer (some ⟨b, 0, none⟩)] w fun e w' => e = .returned (.tuple #[]) ∧ w' = w.setCell ⟨b, 0, none⟩ (.pointer (some ⟨b, 0, none⟩)) := by
 obtain ⟨j, hj, hjs⟩ := Option.map_eq_some_iff.1 pY
 go_enter Tryz.func92, Tryz.ntmps92
 go_wp2
 rw [Lib.run_to_unsafe w ⟨b, 0, none⟩ Tryz.underlying106 Tryz.underlying198 hj (by rw [hjs]; decide) hsh (Nat.zero_lt_succ 1)]
 simp only [Result.andThen]
 rw [Oper.upon_value]
 go_wp2
 rw [run_callFunc_extern Tryz.func130 (by kernel_rfl) (by kernel_rfl) (by kernel_rfl) (e := Extern.AbiNoEscape.same) (by kernel_rfl)]
 rw [Lib.run_noEscape]
 simp only [Result.andThen]
 rw [Oper.upon_value]
 go_wp2
 rw [Lib.run_from_unsafe w ⟨b, 0, none⟩ Tryz.underlying198 Tryz.underlying106 hj hsh lies108]
 simp only [Result.andThen]
 rw [Oper.upon_value]
 go_wp2
 go_end0
 exact ⟨rfl, rfl⟩
theorem cc_any (B b : Nat) (bs : List Value) (w : World) (h : Lib.IsBuilder 108 5 B b bs w) :
  Calls Tryz.prog 92 #[.pointer (some ⟨b, 0, none⟩)] w fun e w' => e = .returned (.tuple #[]) ∧ (Lib.BuilderAt 108 5 B b (.pointer (some ⟨b, 0, none⟩)) bs w' ∧ Below B w w' ∧ ∀ k T cs, k ≠ b → Blk w k T cs → Blk w' k T cs) := by
 rcases h with h | h
 ·refine (cc_fresh b w h.cell0 h.shape h.frozen0).mono ?_
  rintro e w' ⟨rfl, rfl⟩
  exact ⟨rfl, h.used _, (Below.refl B w).setCell (p := ⟨b, 0, none⟩) h.1 _, fun k T cs hk hb => hb.other hk⟩
 ·refine (cc_used b w h.cell0).mono ?_
  rintro e w' ⟨rfl, rfl⟩
  exact ⟨rfl, h, Below.refl B _, fun k T cs hk hb => hb⟩
set_option maxHeartbeats 2000000 in
set_option maxRecDepth 100000 in
theorem sW (B b : Nat) (bs : List Value) (s : ByteArray) (w : World) (h : Lib.IsBuilder 108 5 B b bs w) (hlen : bs.length + s.size ≤ 140737488355328) (hBw : B ≤ w.heap.size) :
  Calls Tryz.prog 59 #[.pointer (some ⟨b, 0, none⟩), .string s] w fun e w' => e = .returned (.tuple #[.int .i64 s.size, .nilIface]) ∧ (Lib.BuilderAt 108 5 B b (.pointer (some ⟨b, 0, none⟩)) (bs ++ Lib.strCells s) w' ∧ Below B w w' ∧ ∀ k T cs, k ≠ b → T ≠ 5 → Blk w k T cs → Blk w' k T cs) := by
 obtain ⟨i0, hi, hz0, hz1, hz2⟩ := info_parts uU
 go_enter Tryz.func59, Tryz.ntmps59
 go_wp2_with fail
 refine (cc_any B b bs _ h).mono ?_
 rintro e w1 ⟨rfl, h1, hb1, hk1⟩
 obtain ⟨hB, v, hbk, hown, hne⟩ := h1
 have c0 : w1.cell? ⟨b, 0, none⟩ = some (.pointer (some ⟨b, 0, none⟩)) := by rw [Lib.cell_of_heap hbk]; rfl
 have c1 : w1.cell? ⟨b, 1, none⟩ = some v := by rw [Lib.cell_of_heap hbk]; rfl
 go_wp2_with (at_builtin; refine Lib.wpList_append_own_string _ rfl _ _ 77 9 rfl B 5 i0 Tryz.underlying77 Tryz.underlying9 hi hz0 hz1 hz2 _ _ _ rfl hown s rfl ?c3 ?c4 ?c5 ?_)
 case c3 => unfold maxLen; omega
 case c4 => omega
 case c5 => have := hb1.size; omega
 intro v' w2 hown' hgrow _
 have hlt : b < w1.heap.size := by
  rcases Nat.lt_or_ge b w1.heap.size with h' | h'
  ·exact h'
  ·simp [Array.getElem?_eq_none h'] at hbk
 have hb2 : w2.heap[b]? = some (.cells #[.pointer (some ⟨b, 0, none⟩), v] 108 (0, 0)) := by
  rw [hgrow.block b hlt (fun e => hne e.symm)]
  exact hbk
 have d0 : w2.cell? ⟨b, 0, none⟩ = some (.pointer (some ⟨b, 0, none⟩)) := by rw [Lib.cell_of_heap hb2]; rfl
 have d1 : w2.cell? ⟨b, 1, none⟩ = some v := by rw [Lib.cell_of_heap hb2]; rfl
 have f1 : w2.frozen? ⟨b, 1, none⟩ = false := Lib.frozen_of_heap hb2 1
 obtain ⟨ao, n', cap, rfl⟩ : ∃ ao n' cap, v' = .slice ao n' cap := by
  rcases hown'.2 with ⟨hv, _⟩ | ⟨g, cap, cur, hv, _⟩
  ·exact ⟨_, _, _, hv⟩
  ·exact ⟨_, _, _, hv⟩
 go_wp2
 go_ret2
 refine ⟨rfl, ?_, ?_, ?_⟩
 ·exact Lib.BuilderAt.put (T := 108) (e := 5) hB hb2 (bs' := bs ++ Lib.strCells s) (by simpa [Lib.strCells_length] using hown') (by decide)
 ·exact (hb1.grown hgrow (by have := hb1.size; omega) (fun k hk => (hown.lt k hk).1)).setCell (p := ⟨b, 1, none⟩) hB _
 ·intro k T cs hk hT hb
  have hb1' := hk1 k T cs hk hb
  refine Blk.other (hb1'.grown hgrow (fun e => ?_)) hk
  rcases hown.2 with ⟨hv, _⟩ | ⟨g, cap, cur, hv, _, hg, _⟩
  ·subst hv; simp [Value.ownBlock] at e
  ·subst hv
   have : g = k := by simpa [Value.ownBlock] using e
   subst this
   have h2 := hb1'.symm.trans hg
   injection h2 with h2
   injection h2 with _ h2
   exact hT h2
end Go.Ax
