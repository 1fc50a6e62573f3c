/-
  What stands D6 all, and what recovers.
-/
import Derived.Test.YtjgknelmjdallaaGreatDoorPlPn
import Derived.Test.YtjgknelmjdallaaGreatDoorPlHc
noncomputable section
namespace Go.Ax
open Go.RowKit Go.Proofs
set_option linter.unusedVariables false
set_option linter.unusedSimpArgs false
set_option maxRecDepth 100000

theorem end_w (S : St) (p k : Nat) (ts : List Tk) (i : Nat) (h : Cur S p k ts i) (hp : p < S.next) (hi : i < ts.length) : WC E1 77 [.ptr p 0] S (fun r => ∃ S', Fg S S' ∧ ((tk ts i).kind = 5 ∧ r = .ret (.tup []) S' ∨ (tk ts i).kind ≠ 5 ∧ r = .pan (Q3 (tk ts i).pos (Hx (tk ts i))) S')) := by
  refine Ek Tryz.f77 (by kernel_rfl) (by kernel_rfl) (by kernel_rfl) (show (_ : Nat) ≤ _ from by show (_ : Nat) ≤ _; simp [Tryz.f77]) ?_
  obtain ⟨fn1, hf1⟩ := Ld
  obtain ⟨fn2, hf2⟩ := Y5
  have e0 := Iu hi
  simp only [A3,A6,Bb,Bc,Cr,Bn,B4,C9,Cu,B5,Cs,Ct,Da,Ci,Be,Bo,Bp,A2,A9,Ba,A5,De,B6,Bm,Bh,A8,A4,Bi,Bg,Bf,Bq,Br,B9,Ca,Bv,C0,Cz,C1,A0,A1,C2,Dd,ofOpt,ofOptS,Bw,Dh,Di,Cj,Cl,Bk,Bl,C4,Bj,Df,A7,Bd,Cm,Cn,Co,Cp,Cq,B3,B1,Nat.reduceLT,Nat.reduceAdd,Nat.reduceEqDiff,Aa,Ab,reduceIte,Ac,Ad,Ae,Af,Ag,Ah,Ai,Aj,Ak,Al,Am,Ao,Ap,Aq,Ar,Au,Av,Aw,Option.toList,Ay,Az,Tryz.f77,hf1]
  refine WC.mono (Qs _ p k ts i h hp hi) ?_
  rintro _ ⟨S2, rfl, hk⟩
  by_cases h5 : (tk ts i).kind = 5
  · have n5 : (((ts[i].kind : Nat) : Int) != 5) = false := by rw [← e0, h5]; rfl
    simp only [A3,A6,Bb,Bc,Cr,Bn,B4,C9,Cu,B5,Cs,Ct,Da,Ci,Be,Bo,Bp,A2,A9,Ba,A5,De,B6,Bm,Bh,A8,A4,Bi,Bg,Bf,Bq,Br,B9,Ca,Bv,C0,Cz,C1,A0,A1,C2,Dd,ofOpt,ofOptS,Bw,Dh,Di,Cj,Cl,Bk,Bl,C4,Bj,Df,A7,Bd,Cm,Cn,Co,Cp,Cq,B3,B1,Nat.reduceLT,Nat.reduceAdd,Nat.reduceEqDiff,Aa,Ab,reduceIte,Ac,Ad,Ae,Af,Ag,Ah,Ai,Aj,Ak,Al,Am,Ao,Ap,Aq,Ar,Au,Av,Aw,Option.toList,Ay,Az,Tryz.f77,Eh,Dy,n5]
    exact ⟨_, hk, .inl ⟨h5, rfl⟩⟩
  · have n5 : (((ts[i].kind : Nat) : Int) != 5) = true := by rw [← e0, bne_iff_ne]; omega
    simp only [A3,A6,Bb,Bc,Cr,Bn,B4,C9,Cu,B5,Cs,Ct,Da,Ci,Be,Bo,Bp,A2,A9,Ba,A5,De,B6,Bm,Bh,A8,A4,Bi,Bg,Bf,Bq,Br,B9,Ca,Bv,C0,Cz,C1,A0,A1,C2,Dd,ofOpt,ofOptS,Bw,Dh,Di,Cj,Cl,Bk,Bl,C4,Bj,Df,A7,Bd,Cm,Cn,Co,Cp,Cq,B3,B1,Nat.reduceLT,Nat.reduceAdd,Nat.reduceEqDiff,Aa,Ab,reduceIte,Ac,Ad,Ae,Af,Ag,Ah,Ai,Aj,Ak,Al,Am,Ao,Ap,Aq,Ar,Au,Av,Aw,Option.toList,Ay,Az,Tryz.f77,Eh,Dy,n5,hf2]
    refine WC.mono (Ul S2 p k ts i (h.keep hp hk) (Nat.lt_of_lt_of_le hp hk.1) hi) ?_
    rintro _ ⟨S3, rfl, hk3⟩
    simp only [A3,A6,Bb,Bc,Cr,Bn,B4,C9,Cu,B5,Cs,Ct,Da,Ci,Be,Bo,Bp,A2,A9,Ba,A5,De,B6,Bm,Bh,A8,A4,Bi,Bg,Bf,Bq,Br,B9,Ca,Bv,C0,Cz,C1,A0,A1,C2,Dd,ofOpt,ofOptS,Bw,Dh,Di,Cj,Cl,Bk,Bl,C4,Bj,Df,A7,Bd,Cm,Cn,Co,Cp,Cq,B3,B1,Nat.reduceLT,Nat.reduceAdd,Nat.reduceEqDiff,Aa,Ab,reduceIte,Ac,Ad,Ae,Af,Ag,Ah,Ai,Aj,Ak,Al,Am,Ao,Ap,Aq,Ar,Au,Av,Aw,Option.toList,Ay,Az,Tryz.f77]
    exact ⟨_, hk.trans hk3, .inr ⟨h5, by rw [e0]⟩⟩
def nilT (r : OR) (S : St) (x : Option AV) : OR := match x with
  | some (.v .nilIface) => .val (.v (.bool true)) S
  | _ => r
theorem eqOr20 (f : T AV) (S : St) (k : Nat) (dst : Option Tmp) (ty : TypeId) (pos : String) (af : Array Edge) (gd : Option (Nat × Bool)) :
    Ns Tryz.prog gR f S { dst := dst, op := .binOp .eql 20 (.tmp k) (.const .nilIface) 20, type := ty, pos := pos, after := af, guard := gd } .eql 20 (.v .nilIface) (.v .nilIface) =
    nilT (nP Tryz.prog gR f S { dst := dst, op := .binOp .eql 20 (.tmp k) (.const .nilIface) 20, type := ty, pos := pos, after := af, guard := gd } .eql 20 (.v .nilIface) (.v .nilIface)) S (f.get k) := by
  unfold nilT
  split
  · rename_i hf
    have h0 : Nr Tryz.prog .eql 20 (.v .nilIface) (.v .nilIface) = none := by kernel_rfl
    unfold Ns
    rw [h0]
    have hg : Er gR f (.tmp k) = some .nilIface := by unfold Er; simp only [Cz,hf]; rfl
    have hc : Er gR f (.const .nilIface) = some .nilIface := rfl
    unfold ground
    simp only [Op.operands,List.all_cons,List.all_nil,hg,hc,Option.isSome_some,Bool.and_self,Aa]
    have e : execOp (fun x => (Er gR f x).getD undef) { dst := dst, op := .binOp .eql 20 (.tmp k) (.const .nilIface) 20, type := ty, pos := pos, after := af, guard := gd } = execOp (fun _ => .nilIface) { dst := none, op := .binOp .eql 20 (.tmp 29) (.const .nilIface) 20, type := 4, pos := "", after := #[], guard := none } := by
      simp only [execOp,hg,hc,Ae]
      rfl
    rw [e]
    have e3 : (Pk Tryz.prog 4000 (execOp (fun _ => Value.nilIface) { dst := none, op := .binOp .eql 20 (.tmp 29) (.const .nilIface) 20, type := 4, pos := "", after := #[], guard := none })) = some (.bool true) := by kernel_rfl
    rw [e3]; rfl
  · rfl
theorem lX (r : OR) (S : St) : nilT r S (some (.v .nilIface)) = .val (.v (.bool true)) S := rfl
theorem fbNilT : E8 .eql (.v .nilIface) (.v .nilIface) = none := rfl
theorem as33 (a e : Nat) : Qr Tryz.prog 33 true (.iface 33 (.agg (Eo a e))) = some (.tup [.agg (Eo a e), .v (.bool true)]) := by kernel_rfl
theorem nn20 : Gz Tryz.prog 20 (.v .nilIface) (.v .nilIface) = false := by kernel_rfl
theorem nn20i (t : TypeId) (a : AV) : Gz Tryz.prog 20 (.iface t a) (.v .nilIface) = true := by kernel_rfl
theorem iD (S : St) (b : Nat) (K : St → Prop) (hK : K S) : bI E1 89 [.ptr b 0] S none K := by
  refine ⟨Tryz.f89, _, _, _, _, _, by kernel_rfl, rfl, rfl, rfl, (show (_ : Nat) ≤ _ from by show (_ : Nat) ≤ _; simp [Tryz.f89]), (show (_ : Nat) < _ from by show (_ : Nat) < _; simp [Tryz.f89]), rfl, Es ?_⟩
  simp only [A3,A6,Bb,Bc,Cr,Bn,B4,C9,Cu,B5,Cs,Ct,Da,Ci,Be,Bo,Bp,A2,A9,Ba,A5,De,B6,Bm,Bh,A8,A4,Bi,Bg,Bf,Bq,Br,B9,Ca,Bv,C0,Cz,C1,A0,A1,C2,Dd,ofOpt,ofOptS,Bw,Dh,Di,Cj,Cl,Bk,Bl,C4,Bj,Df,A7,Bd,Cm,Cn,Co,Cp,Cq,B3,B1,Nat.reduceLT,Nat.reduceAdd,Nat.reduceEqDiff,Aa,Ab,reduceIte,Ac,Ad,Ae,Af,Ag,Ah,Ai,Aj,Ak,Al,Am,Ao,Ap,Aq,Ar,Au,Av,Aw,Option.toList,Ay,Az,Tryz.f89,nn20,fbNilT,eqOr20,lX,Option.getD_none]
  exact ⟨_, _, .inl rfl, rfl, hK⟩
theorem Ww (S : St) (b a e : Nat) (cs : List AV) (hb : S.mem.get b = some (.box cs)) (hl : cs.length = 2) (hbn : b < S.next) (K : St → Prop) (hK : ∀ S', S'.mem.get b = some (.box (Eo a e)) → S.next ≤ S'.next → (∀ id, id < S.next → id ≠ b → S'.mem.get id = S.mem.get id) → K S') : bI E1 89 [.ptr b 0] S (some (Q3 a e)) K := by
  refine ⟨Tryz.f89, _, _, _, _, _, by kernel_rfl, rfl, rfl, rfl, (show (_ : Nat) ≤ _ from by show (_ : Nat) ≤ _; simp [Tryz.f89]), (show (_ : Nat) < _ from by show (_ : Nat) < _; simp [Tryz.f89]), rfl, Es ?_⟩
  unfold Q3
  have q1 : Du Tryz.prog (S.newBox (Eo 0 0)) 33 (.ptr S.next 0) (.agg (Eo a e)) = some ((S.newBox (Eo 0 0)).put S.next (Eo a e)) := Rw (Ea S _) rfl rfl
  have q2 := Jm (S.newBox (Eo 0 0)) S.next (Eo a e) rfl
  have q3 : Du Tryz.prog ((S.newBox (Eo 0 0)).put S.next (Eo a e)) 33 (.ptr b 0) (.agg (Eo a e)) = some (((S.newBox (Eo 0 0)).put S.next (Eo a e)).put b (Eo a e)) := Rw ((Fx (by omega)).trans ((Gi hbn).trans hb)) hl rfl
  simp only [A3,A6,Bb,Bc,Cr,Bn,B4,C9,Cu,B5,Cs,Ct,Da,Ci,Be,Bo,Bp,A2,A9,Ba,A5,De,B6,Bm,Bh,A8,A4,Bi,Bg,Bf,Bq,Br,B9,Ca,Bv,C0,Cz,C1,A0,A1,C2,Dd,ofOpt,ofOptS,Bw,Dh,Di,Cj,Cl,Bk,Bl,C4,Bj,Df,A7,Bd,Cm,Cn,Co,Cp,Cq,B3,B1,Nat.reduceLT,Nat.reduceAdd,Nat.reduceEqDiff,Aa,Ab,reduceIte,Ac,Ad,Ae,Af,Ag,Ah,Ai,Aj,Ak,Al,Am,Ao,Ap,Aq,Ar,Au,Av,Aw,Option.toList,Ay,Az,Tryz.f89,nn20i,as33,Jt,Cb,q1,q2,q3]
  exact ⟨_, _, .inl rfl, rfl, hK _ (E9 _ _ _) (by rw [Lp]; exact Nat.le_succ _) (fun id hid hn => (Fx hn).trans ((Fx (by omega)).trans (Gi hid)))⟩
end Go.Ax
