/-
  tree.All: what it answers of any node; All as a function of which one knows what it answers.
-/
import Derived.Test.YtjgknelmjdallaaGreatDoorPlQa
import Derived.Test.YtjgknelmjdallaaGreatDoorPlPm
import Derived.Test.YtjgknelmjdallaaGreatDoorPlLg
noncomputable section
namespace Go.Ax
open Go.RowKit Go.Proofs
set_option linter.unusedVariables false
set_option linter.unusedSimpArgs false
set_option maxRecDepth 100000

theorem ld46_2 {S : St} {id : Nat} {x0 x1 a b c d : AV} (h : S.mem.get id = some (.box [x0, x1, a, b, c, d])) : Dw Tryz.prog S 46 (.ptr id 2) = some a := by simp [Dw, D6, h, a46]
theorem ld46_3 {S : St} {id : Nat} {x0 x1 a b c d : AV} (h : S.mem.get id = some (.box [x0, x1, a, b, c, d])) : Dw Tryz.prog S 46 (.ptr id 3) = some b := by simp [Dw, D6, h, a46]
theorem ld46_4 {S : St} {id : Nat} {x0 x1 a b c d : AV} (h : S.mem.get id = some (.box [x0, x1, a, b, c, d])) : Dw Tryz.prog S 46 (.ptr id 4) = some c := by simp [Dw, D6, h, a46]
theorem Oc {v : AV} {es : List AV} (h : K4 v es) : v.noTup = true := by
  rcases h with ⟨rfl, rfl⟩ | ⟨tok, off, rfl⟩ <;> rfl
theorem z46 : ∃ z, Jy Tryz.prog 46 = some z := Option.isSome_iff_exists.1 (by kernel_rfl)
theorem row159 {a b c : AV} {ea eb ec : List AV} (ha : K4 a ea) (hb : K4 b eb) (hc : K4 c ec) : D3 Tryz.prog 159 3 [(0, a), (1, b), (2, c)] = some (.sl 1 0 1 [a, b, c]) := by
  obtain ⟨z, hz⟩ := z46
  have e : ([(0, a), (1, b), (2, c)].map (·.1) == List.range 3) = true := by rfl
  simp [D3, e159, s46', hz, Oc ha, Oc hb, Oc hc, Kj ha, Kj hb, Kj hc]
  decide
theorem fnOk63 : ∃ fn, E1.F 63 = some fn := Option.isSome_iff_exists.1 (by kernel_rfl)
set_option maxHeartbeats 4000000 in
theorem gO {x0 x1 a b c d : AV} {ea eb ec : List AV} (ha : K4 a ea) (hb : K4 b eb) (hc : K4 c ec) (hl : ea.length + eb.length + ec.length ≤ 3000) (S : St) (hS : 2 ≤ S.next) : WC E1 22 [.agg [x0, x1, a, b, c, d]] S (fun r => ∃ v S', r = .ret v S' ∧ rowN v (ea ++ eb ++ ec) ∧ Keeps S S') := by
  refine Ek Tryz.f22 (by kernel_rfl) (by kernel_rfl) (by kernel_rfl) (show (_ : Nat) ≤ _ from by show (_ : Nat) ≤ _; simp [Tryz.f22]) ?_
  obtain ⟨fn1, hf1⟩ := fnOk63
  have g := Ea S [x0, x1, a, b, c, d]
  have l2 := ld46_2 g
  have l3 := ld46_3 g
  have l4 := ld46_4 g
  have hr := row159 ha hb hc
  have hn : (AV.agg [x0, x1, a, b, c, d]).noTup = true := rfl
  have hcl : (AV.agg [x0, x1, a, b, c, d]).cells = [x0, x1, a, b, c, d] := rfl
  simp only [A3,A6,Bb,Bc,Cr,Bn,B4,C9,Cu,B5,Cs,Ct,Da,Ci,Be,Bo,Bp,A2,A9,Ba,A5,De,B6,Bm,Bh,A8,A4,Bi,Bg,Bf,Bq,Br,B9,Ca,Bv,C0,Cz,C1,A0,A1,C2,Dd,ofOpt,ofOptS,Bw,Dh,Di,Cj,Cl,Bk,Bl,C4,Bj,Df,A7,Bd,Cm,Cn,Co,Cp,Cq,B3,B1,Nat.reduceLT,Nat.reduceAdd,Nat.reduceEqDiff,Aa,Ab,reduceIte,Ac,Ad,Ae,Af,Ag,Ah,Ai,Aj,Ak,Al,Am,Ao,Ap,Aq,Ar,Au,Av,Aw,Option.toList,Ay,Az,Tryz.f22,hf1,l2,l3,l4,hr,hn,hcl,Hg,Hf,He]
  refine WC.mono (oE 1 0 [a, b, c] [ea, eb, ec] ⟨ha, hb, hc, trivial⟩ (by show 3 ≤ 1000; decide) (by simp [My]; omega) (S.newBox [x0, x1, a, b, c, d]) (Nat.le_succ_of_le hS)) ?_
  rintro _ ⟨v, S', rfl, hv, hk⟩
  simp only [A3,A6,Bb,Bc,Cr,Bn,B4,C9,Cu,B5,Cs,Ct,Da,Ci,Be,Bo,Bp,A2,A9,Ba,A5,De,B6,Bm,Bh,A8,A4,Bi,Bg,Bf,Bq,Br,B9,Ca,Bv,C0,Cz,C1,A0,A1,C2,Dd,ofOpt,ofOptS,Bw,Dh,Di,Cj,Cl,Bk,Bl,C4,Bj,Df,A7,Bd,Cm,Cn,Co,Cp,Cq,B3,B1,Nat.reduceLT,Nat.reduceAdd,Nat.reduceEqDiff,Aa,Ab,reduceIte,Ac,Ad,Ae,Af,Ag,Ah,Ai,Aj,Ak,Al,Am,Ao,Ap,Aq,Ar,Au,Av,Aw,Option.toList,Ay,Az,Tryz.f22]
  refine ⟨v, S', rfl, by simpa using hv, Nat.le_trans (Nat.le_succ _) hk.1, fun id hid => (hk.2 id (Nat.lt_succ_of_lt hid)).trans (Gi hid)⟩
end Go.Ax
