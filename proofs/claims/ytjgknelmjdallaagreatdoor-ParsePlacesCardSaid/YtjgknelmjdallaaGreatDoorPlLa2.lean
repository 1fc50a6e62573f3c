/-
  Bytes of a text: what they are.
-/
import Derived.Test.YtjgknelmjdallaaGreatDoorPlHa2
import Derived.Test.YtjgknelmjdallaaGreatDoorPlVa
noncomputable section
namespace Go.Ax
open Go.RowKit Go.Proofs
set_option linter.unusedVariables false
set_option linter.unusedSimpArgs false
set_option maxRecDepth 100000

theorem Dh : E1.P = Tryz.prog := rfl
theorem Di : E1.G = gR := rfl
theorem Cl (a b : AV) : Gz Tryz.prog 3 a b = false := by unfold Gz; rw [Tryz.underlying3]
theorem u5 : ∃ d, Tryz.prog.underlying 5 = some d ∧ ∀ e, d ≠ .slice e := ⟨_, rfl, fun _ h => by cases h⟩
theorem Hs (a b : AV) : Gz Tryz.prog 5 a b = false := by
  have h : Tryz.prog.underlying 5 = some (.int .u8) := rfl
  unfold Gz; rw [h]
theorem Cm (k : IntKind) (x y : Int) : E8 .lss (.v (.int k x)) (.v (.int k y)) = some (.v (.bool (decide (x < y)))) := by simp [E8]
theorem Cn (k : IntKind) (x y : Int) : E8 .leq (.v (.int k x)) (.v (.int k y)) = some (.v (.bool (decide (x ≤ y)))) := by simp [E8]
theorem Co (k : IntKind) (x y : Int) : E8 .gtr (.v (.int k x)) (.v (.int k y)) = some (.v (.bool (decide (x > y)))) := by simp [E8]
theorem Cp (k : IntKind) (x y : Int) : E8 .geq (.v (.int k x)) (.v (.int k y)) = some (.v (.bool (decide (x ≥ y)))) := by simp [E8]
theorem Cq (k : IntKind) (x y : Int) : E8 .add (.v (.int k x)) (.v (.int k y)) = some (.v (.int k (k.wrap (x + y)))) := by simp [E8]
theorem B1 (k : IntKind) (x y : Int) : E8 .neq (.v (.int k x)) (.v (.int k y)) = some (.v (.bool (x != y))) := by simp [E8]
theorem B3 (k : IntKind) (x y : Int) : E8 .eql (.v (.int k x)) (.v (.int k y)) = some (.v (.bool (x == y))) := by simp [E8]
def Km (b : UInt8) : Bool := (65 ≤ b.toNat && b.toNat ≤ 90) || (97 ≤ b.toNat && b.toNat ≤ 122) || b.toNat == 95
def Ed (b : UInt8) : Bool := 48 ≤ b.toNat && b.toNat ≤ 57
def Fa (b : UInt8) : Bool := b.toNat == 32 || b.toNat == 9 || b.toNat == 10
def I7 (b : UInt8) : Bool := !(b.toNat == 10)
def Fs (b : UInt8) : Bool := Km b || Ed b
theorem Zc (b : UInt8) (S : St) : WC E1 101 [I1 b] S (fun r => r = .ret (.v (.bool (Ed b))) S) := by
  refine Ek Tryz.f101 (by kernel_rfl) (by kernel_rfl) (by kernel_rfl) (show (_ : Nat) ≤ _ from by show (_ : Nat) ≤ _; simp [Tryz.f101]) ?_
  unfold I1
  by_cases h1 : (48 : Int) ≤ (b.toNat : Int)
  · by_cases h2 : (b.toNat : Int) ≤ 57
    · have e : Ed b = true := by unfold Ed; simp; omega
      simp only [A3,A6,Bb,Bc,Cr,Bn,B4,C9,Cu,B5,Cs,Ct,Da,Bu,Be,Bo,Bp,A2,A9,Ba,A5,Dc,B6,Bm,Bh,A8,A4,Bi,Bg,Bf,Bq,Br,B9,Ca,Bv,C0,Cz,C1,A0,A1,C2,Dd,ofOpt,ofOptS,Bw,Dh,Di,Cj,Cl,Bk,Bl,C4,Bj,Df,Cm,Cn,Co,Cp,Cq,B3,B1,Nat.reduceLT,Nat.reduceAdd,Nat.reduceEqDiff,Aa,Ab,reduceIte,Ac,Ad,Ae,Af,Ag,Ah,Ai,Aj,Ak,Al,Am,Ao,Ap,Aq,Ar,Au,Av,Aw,Option.toList,Ay,Az,Tryz.f101,Hs,h1,h2,e]
    · have e : Ed b = false := by unfold Ed; simp; omega
      simp only [A3,A6,Bb,Bc,Cr,Bn,B4,C9,Cu,B5,Cs,Ct,Da,Bu,Be,Bo,Bp,A2,A9,Ba,A5,Dc,B6,Bm,Bh,A8,A4,Bi,Bg,Bf,Bq,Br,B9,Ca,Bv,C0,Cz,C1,A0,A1,C2,Dd,ofOpt,ofOptS,Bw,Dh,Di,Cj,Cl,Bk,Bl,C4,Bj,Df,Cm,Cn,Co,Cp,Cq,B3,B1,Nat.reduceLT,Nat.reduceAdd,Nat.reduceEqDiff,Aa,Ab,reduceIte,Ac,Ad,Ae,Af,Ag,Ah,Ai,Aj,Ak,Al,Am,Ao,Ap,Aq,Ar,Au,Av,Aw,Option.toList,Ay,Az,Tryz.f101,Hs,h1,h2,e]
  · have e : Ed b = false := by unfold Ed; simp; omega
    simp only [A3,A6,Bb,Bc,Cr,Bn,B4,C9,Cu,B5,Cs,Ct,Da,Bu,Be,Bo,Bp,A2,A9,Ba,A5,Dc,B6,Bm,Bh,A8,A4,Bi,Bg,Bf,Bq,Br,B9,Ca,Bv,C0,Cz,C1,A0,A1,C2,Dd,ofOpt,ofOptS,Bw,Dh,Di,Cj,Cl,Bk,Bl,C4,Bj,Df,Cm,Cn,Co,Cp,Cq,B3,B1,Nat.reduceLT,Nat.reduceAdd,Nat.reduceEqDiff,Aa,Ab,reduceIte,Ac,Ad,Ae,Af,Ag,Ah,Ai,Aj,Ak,Al,Am,Ao,Ap,Aq,Ar,Au,Av,Aw,Option.toList,Ay,Az,Tryz.f101,Hs,h1,e]
theorem blank_w (b : UInt8) (S : St) : WC E1 97 [I1 b] S (fun r => r = .ret (.v (.bool (Fa b))) S) := by
  refine Ek Tryz.f97 (by kernel_rfl) (by kernel_rfl) (by kernel_rfl) (show (_ : Nat) ≤ _ from by show (_ : Nat) ≤ _; simp [Tryz.f97]) ?_
  unfold I1
  have n1 : (((b.toNat : Int) == 32) = (b.toNat == 32)) := by rw [Bool.eq_iff_iff]; simp; omega
  have n2 : (((b.toNat : Int) == 9) = (b.toNat == 9)) := by rw [Bool.eq_iff_iff]; simp; omega
  have n3 : (((b.toNat : Int) == 10) = (b.toNat == 10)) := by rw [Bool.eq_iff_iff]; simp; omega
  cases h1 : (b.toNat == 32)
  · cases h2 : (b.toNat == 9)
    · have e : Fa b = (b.toNat == 10) := by unfold Fa; rw [h1, h2]; rfl
      simp only [A3,A6,Bb,Bc,Cr,Bn,B4,C9,Cu,B5,Cs,Ct,Da,Bu,Be,Bo,Bp,A2,A9,Ba,A5,Dc,B6,Bm,Bh,A8,A4,Bi,Bg,Bf,Bq,Br,B9,Ca,Bv,C0,Cz,C1,A0,A1,C2,Dd,ofOpt,ofOptS,Bw,Dh,Di,Cj,Cl,Bk,Bl,C4,Bj,Df,Cm,Cn,Co,Cp,Cq,B3,B1,Nat.reduceLT,Nat.reduceAdd,Nat.reduceEqDiff,Aa,Ab,reduceIte,Ac,Ad,Ae,Af,Ag,Ah,Ai,Aj,Ak,Al,Am,Ao,Ap,Aq,Ar,Au,Av,Aw,Option.toList,Ay,Az,Tryz.f97,Hs,n1,n2,n3,h1,h2,e]
    · have e : Fa b = true := by unfold Fa; rw [h1, h2]; rfl
      simp only [A3,A6,Bb,Bc,Cr,Bn,B4,C9,Cu,B5,Cs,Ct,Da,Bu,Be,Bo,Bp,A2,A9,Ba,A5,Dc,B6,Bm,Bh,A8,A4,Bi,Bg,Bf,Bq,Br,B9,Ca,Bv,C0,Cz,C1,A0,A1,C2,Dd,ofOpt,ofOptS,Bw,Dh,Di,Cj,Cl,Bk,Bl,C4,Bj,Df,Cm,Cn,Co,Cp,Cq,B3,B1,Nat.reduceLT,Nat.reduceAdd,Nat.reduceEqDiff,Aa,Ab,reduceIte,Ac,Ad,Ae,Af,Ag,Ah,Ai,Aj,Ak,Al,Am,Ao,Ap,Aq,Ar,Au,Av,Aw,Option.toList,Ay,Az,Tryz.f97,Hs,n1,n2,n3,h1,h2,e]
  · have e : Fa b = true := by unfold Fa; rw [h1]; rfl
    simp only [A3,A6,Bb,Bc,Cr,Bn,B4,C9,Cu,B5,Cs,Ct,Da,Bu,Be,Bo,Bp,A2,A9,Ba,A5,Dc,B6,Bm,Bh,A8,A4,Bi,Bg,Bf,Bq,Br,B9,Ca,Bv,C0,Cz,C1,A0,A1,C2,Dd,ofOpt,ofOptS,Bw,Dh,Di,Cj,Cl,Bk,Bl,C4,Bj,Df,Cm,Cn,Co,Cp,Cq,B3,B1,Nat.reduceLT,Nat.reduceAdd,Nat.reduceEqDiff,Aa,Ab,reduceIte,Ac,Ad,Ae,Af,Ag,Ah,Ai,Aj,Ak,Al,Am,Ao,Ap,Aq,Ar,Au,Av,Aw,Option.toList,Ay,Az,Tryz.f97,Hs,n1,n2,n3,h1,e]
theorem lU (b : UInt8) (S : St) : WC E1 98 [I1 b] S (fun r => r = .ret (.v (.bool (I7 b))) S) := by
  refine Ek Tryz.f98 (by kernel_rfl) (by kernel_rfl) (by kernel_rfl) (show (_ : Nat) ≤ _ from by show (_ : Nat) ≤ _; simp [Tryz.f98]) ?_
  unfold I1
  have n3 : (((b.toNat : Int) != 10) = I7 b) := by unfold I7; rw [Bool.eq_iff_iff]; simp; omega
  simp only [A3,A6,Bb,Bc,Cr,Bn,B4,C9,Cu,B5,Cs,Ct,Da,Bu,Be,Bo,Bp,A2,A9,Ba,A5,Dc,B6,Bm,Bh,A8,A4,Bi,Bg,Bf,Bq,Br,B9,Ca,Bv,C0,Cz,C1,A0,A1,C2,Dd,ofOpt,ofOptS,Bw,Dh,Di,Cj,Cl,Bk,Bl,C4,Bj,Df,Cm,Cn,Co,Cp,Cq,B3,B1,Nat.reduceLT,Nat.reduceAdd,Nat.reduceEqDiff,Aa,Ab,reduceIte,Ac,Ad,Ae,Af,Ag,Ah,Ai,Aj,Ak,Al,Am,Ao,Ap,Aq,Ar,Au,Av,Aw,Option.toList,Ay,Az,Tryz.f98,Hs,n3]
theorem aR (b : UInt8) (S : St) : WC E1 99 [I1 b] S (fun r => r = .ret (.v (.bool (Km b))) S) := by
  refine Ek Tryz.f99 (by kernel_rfl) (by kernel_rfl) (by kernel_rfl) (show (_ : Nat) ≤ _ from by show (_ : Nat) ≤ _; simp [Tryz.f99]) ?_
  unfold I1
  have n5 : (((b.toNat : Int) == 95) = (b.toNat == 95)) := by rw [Bool.eq_iff_iff]; simp; omega
  have key : ∀ (p q : Bool), (65 ≤ b.toNat && b.toNat ≤ 90) = p → (97 ≤ b.toNat && b.toNat ≤ 122) = q → Km b = (p || q || b.toNat == 95) := fun p q h1 h2 => by unfold Km; rw [h1, h2]
  by_cases h1 : (65 : Int) ≤ (b.toNat : Int)
  · by_cases h2 : (b.toNat : Int) ≤ 90
    · have e := key true (97 ≤ b.toNat && b.toNat ≤ 122) (by simp; omega) rfl
      simp only [Bool.true_or] at e
      simp only [A3,A6,Bb,Bc,Cr,Bn,B4,C9,Cu,B5,Cs,Ct,Da,Bu,Be,Bo,Bp,A2,A9,Ba,A5,Dc,B6,Bm,Bh,A8,A4,Bi,Bg,Bf,Bq,Br,B9,Ca,Bv,C0,Cz,C1,A0,A1,C2,Dd,ofOpt,ofOptS,Bw,Dh,Di,Cj,Cl,Bk,Bl,C4,Bj,Df,Cm,Cn,Co,Cp,Cq,B3,B1,Nat.reduceLT,Nat.reduceAdd,Nat.reduceEqDiff,Aa,Ab,reduceIte,Ac,Ad,Ae,Af,Ag,Ah,Ai,Aj,Ak,Al,Am,Ao,Ap,Aq,Ar,Au,Av,Aw,Option.toList,Ay,Az,Tryz.f99,Hs,n5,h1,h2,e]
    · by_cases h3 : (97 : Int) ≤ (b.toNat : Int)
      · by_cases h4 : (b.toNat : Int) ≤ 122
        · have e := key false true (by simp; omega) (by simp; omega)
          simp only [Bool.or_true,Bool.true_or] at e
          simp only [A3,A6,Bb,Bc,Cr,Bn,B4,C9,Cu,B5,Cs,Ct,Da,Bu,Be,Bo,Bp,A2,A9,Ba,A5,Dc,B6,Bm,Bh,A8,A4,Bi,Bg,Bf,Bq,Br,B9,Ca,Bv,C0,Cz,C1,A0,A1,C2,Dd,ofOpt,ofOptS,Bw,Dh,Di,Cj,Cl,Bk,Bl,C4,Bj,Df,Cm,Cn,Co,Cp,Cq,B3,B1,Nat.reduceLT,Nat.reduceAdd,Nat.reduceEqDiff,Aa,Ab,reduceIte,Ac,Ad,Ae,Af,Ag,Ah,Ai,Aj,Ak,Al,Am,Ao,Ap,Aq,Ar,Au,Av,Aw,Option.toList,Ay,Az,Tryz.f99,Hs,n5,h1,h2,h3,h4,e]
        · have e := key false false (by simp; omega) (by simp; omega)
          simp only [Bool.or_false,Bool.false_or] at e
          simp only [A3,A6,Bb,Bc,Cr,Bn,B4,C9,Cu,B5,Cs,Ct,Da,Bu,Be,Bo,Bp,A2,A9,Ba,A5,Dc,B6,Bm,Bh,A8,A4,Bi,Bg,Bf,Bq,Br,B9,Ca,Bv,C0,Cz,C1,A0,A1,C2,Dd,ofOpt,ofOptS,Bw,Dh,Di,Cj,Cl,Bk,Bl,C4,Bj,Df,Cm,Cn,Co,Cp,Cq,B3,B1,Nat.reduceLT,Nat.reduceAdd,Nat.reduceEqDiff,Aa,Ab,reduceIte,Ac,Ad,Ae,Af,Ag,Ah,Ai,Aj,Ak,Al,Am,Ao,Ap,Aq,Ar,Au,Av,Aw,Option.toList,Ay,Az,Tryz.f99,Hs,n5,h1,h2,h3,h4,e]
      · have e := key false false (by simp; omega) (by simp; omega)
        simp only [Bool.or_false,Bool.false_or] at e
        simp only [A3,A6,Bb,Bc,Cr,Bn,B4,C9,Cu,B5,Cs,Ct,Da,Bu,Be,Bo,Bp,A2,A9,Ba,A5,Dc,B6,Bm,Bh,A8,A4,Bi,Bg,Bf,Bq,Br,B9,Ca,Bv,C0,Cz,C1,A0,A1,C2,Dd,ofOpt,ofOptS,Bw,Dh,Di,Cj,Cl,Bk,Bl,C4,Bj,Df,Cm,Cn,Co,Cp,Cq,B3,B1,Nat.reduceLT,Nat.reduceAdd,Nat.reduceEqDiff,Aa,Ab,reduceIte,Ac,Ad,Ae,Af,Ag,Ah,Ai,Aj,Ak,Al,Am,Ao,Ap,Aq,Ar,Au,Av,Aw,Option.toList,Ay,Az,Tryz.f99,Hs,n5,h1,h2,h3,e]
  · have h3 : ¬ (97 : Int) ≤ (b.toNat : Int) := by omega
    have e := key false false (by simp; omega) (by simp; omega)
    simp only [Bool.or_false,Bool.false_or] at e
    simp only [A3,A6,Bb,Bc,Cr,Bn,B4,C9,Cu,B5,Cs,Ct,Da,Bu,Be,Bo,Bp,A2,A9,Ba,A5,Dc,B6,Bm,Bh,A8,A4,Bi,Bg,Bf,Bq,Br,B9,Ca,Bv,C0,Cz,C1,A0,A1,C2,Dd,ofOpt,ofOptS,Bw,Dh,Di,Cj,Cl,Bk,Bl,C4,Bj,Df,Cm,Cn,Co,Cp,Cq,B3,B1,Nat.reduceLT,Nat.reduceAdd,Nat.reduceEqDiff,Aa,Ab,reduceIte,Ac,Ad,Ae,Af,Ag,Ah,Ai,Aj,Ak,Al,Am,Ao,Ap,Aq,Ar,Au,Av,Aw,Option.toList,Ay,Az,Tryz.f99,Hs,n5,h1,h3,e]
theorem mY : ∃ fn, E1.F 99 = some fn := Option.isSome_iff_exists.1 (by kernel_rfl)
theorem gA : ∃ fn, E1.F 101 = some fn := Option.isSome_iff_exists.1 (by kernel_rfl)
theorem wordB_w (b : UInt8) (S : St) : WC E1 131 [I1 b] S (fun r => r = .ret (.v (.bool (Fs b))) S) := by
  refine Ek Tryz.f131 (by kernel_rfl) (by kernel_rfl) (by kernel_rfl) (show (_ : Nat) ≤ _ from by show (_ : Nat) ≤ _; simp [Tryz.f131]) ?_
  obtain ⟨fn1, hf1⟩ := mY
  obtain ⟨fn2, hf2⟩ := gA
  simp only [A3,A6,Bb,Bc,Cr,Bn,B4,C9,Cu,B5,Cs,Ct,Da,Bu,Be,Bo,Bp,A2,A9,Ba,A5,Dc,B6,Bm,Bh,A8,A4,Bi,Bg,Bf,Bq,Br,B9,Ca,Bv,C0,Cz,C1,A0,A1,C2,Dd,ofOpt,ofOptS,Bw,Dh,Di,Cj,Cl,Bk,Bl,C4,Bj,Df,Cm,Cn,Co,Cp,Cq,B3,B1,Nat.reduceLT,Nat.reduceAdd,Nat.reduceEqDiff,Aa,Ab,reduceIte,Ac,Ad,Ae,Af,Ag,Ah,Ai,Aj,Ak,Al,Am,Ao,Ap,Aq,Ar,Au,Av,Aw,Option.toList,Ay,Az,Tryz.f131,Hs,hf1,hf2]
  refine WC.mono (aR b S) ?_
  rintro _ rfl
  cases h : Km b
  · simp only [A3,A6,Bb,Bc,Cr,Bn,B4,C9,Cu,B5,Cs,Ct,Da,Bu,Be,Bo,Bp,A2,A9,Ba,A5,Dc,B6,Bm,Bh,A8,A4,Bi,Bg,Bf,Bq,Br,B9,Ca,Bv,C0,Cz,C1,A0,A1,C2,Dd,ofOpt,ofOptS,Bw,Dh,Di,Cj,Cl,Bk,Bl,C4,Bj,Df,Cm,Cn,Co,Cp,Cq,B3,B1,Nat.reduceLT,Nat.reduceAdd,Nat.reduceEqDiff,Aa,Ab,reduceIte,Ac,Ad,Ae,Af,Ag,Ah,Ai,Aj,Ak,Al,Am,Ao,Ap,Aq,Ar,Au,Av,Aw,Option.toList,Ay,Az,Tryz.f131,Hs,hf1,hf2]
    refine WC.mono (Zc b S) ?_
    rintro _ rfl
    have e : Fs b = Ed b := by unfold Fs; rw [h]; rfl
    simp only [A3,A6,Bb,Bc,Cr,Bn,B4,C9,Cu,B5,Cs,Ct,Da,Bu,Be,Bo,Bp,A2,A9,Ba,A5,Dc,B6,Bm,Bh,A8,A4,Bi,Bg,Bf,Bq,Br,B9,Ca,Bv,C0,Cz,C1,A0,A1,C2,Dd,ofOpt,ofOptS,Bw,Dh,Di,Cj,Cl,Bk,Bl,C4,Bj,Df,Cm,Cn,Co,Cp,Cq,B3,B1,Nat.reduceLT,Nat.reduceAdd,Nat.reduceEqDiff,Aa,Ab,reduceIte,Ac,Ad,Ae,Af,Ag,Ah,Ai,Aj,Ak,Al,Am,Ao,Ap,Aq,Ar,Au,Av,Aw,Option.toList,Ay,Az,Tryz.f131,Hs,hf1,hf2,e]
  · have e : Fs b = true := by unfold Fs; rw [h]; rfl
    simp only [A3,A6,Bb,Bc,Cr,Bn,B4,C9,Cu,B5,Cs,Ct,Da,Bu,Be,Bo,Bp,A2,A9,Ba,A5,Dc,B6,Bm,Bh,A8,A4,Bi,Bg,Bf,Bq,Br,B9,Ca,Bv,C0,Cz,C1,A0,A1,C2,Dd,ofOpt,ofOptS,Bw,Dh,Di,Cj,Cl,Bk,Bl,C4,Bj,Df,Cm,Cn,Co,Cp,Cq,B3,B1,Nat.reduceLT,Nat.reduceAdd,Nat.reduceEqDiff,Aa,Ab,reduceIte,Ac,Ad,Ae,Af,Ag,Ah,Ai,Aj,Ak,Al,Am,Ao,Ap,Aq,Ar,Au,Av,Aw,Option.toList,Ay,Az,Tryz.f131,Hs,hf1,hf2,e]
end Go.Ax
noncomputable section
namespace Go.Ax
open Go.RowKit Go.Proofs
set_option linter.unusedVariables false
set_option linter.unusedSimpArgs false
set_option maxRecDepth 100000

def D5 (l : List UInt8) : AV := .v (.string ⟨⟨l⟩⟩)
def Dy (n : Nat) : AV := .v (.int .i64 (n : Int))
theorem kG {n : Nat} (h : n ≤ 1000000000) : IntKind.i64.wrap (n : Int) = (n : Int) := by
  rw [← T3]
  have : in64 (n : Int) = true := Nat.ble_eq_true_of_le (by omega)
  unfold Tm
  rw [this]
theorem Hv {i j : Nat} (h : i + j ≤ 1000000000) : IntKind.i64.wrap ((i : Int) + (j : Int)) = ((i + j : Nat) : Int) := by
  rw [← kG h]; push_cast; rfl
theorem Mf {i : Nat} (h : i + 1 ≤ 1000000000) : IntKind.i64.wrap ((i : Int) + 1) = ((i + 1 : Nat) : Int) := Hv (j := 1) h
theorem Qy (S : St) (l : List UInt8) : Ji Tryz.prog S 9 (.v (.string ⟨⟨l⟩⟩)) = some l.length := by
  have h : Tryz.prog.underlying 9 = some .string := rfl
  simp only [Ji,h]; rfl
theorem idx9 (l : List UInt8) (i : Nat) (h : i < l.length) : Jg Tryz.prog 9 (.v (.string ⟨⟨l⟩⟩)) (.v (.int .i64 (i : Int))) = some (I1 l[i]) := by
  have hu : Tryz.prog.underlying 9 = some .string := rfl
  have h0 : (0 : Int) ≤ (i : Int) := by omega
  simp only [Jg,hu,if_pos h0,Int.toNat_natCast,List.getElem?_eq_getElem h]; rfl
def groundX (P : Program) (G : Gl) (f : T AV) (S : St) (o : Oper) : OR := ground P G f S o
def notO (r : OR) (S : St) (x : Option AV) : OR := match x with
  | some (.v (.bool b)) => .val (.v (.bool (!b))) S
  | _ => r
theorem A7 (f : T AV) (S : St) (dst : Option Tmp) (k : Tmp) (ty : TypeId) (pos : String) (af : Array Edge) (gd : Option (Nat × Bool)) :
    ground Tryz.prog gR f S { dst := dst, op := .unOp .not 4 (.tmp k), type := ty, pos := pos, after := af, guard := gd } = notO (groundX Tryz.prog gR f S { dst := dst, op := .unOp .not 4 (.tmp k), type := ty, pos := pos, after := af, guard := gd }) S (f.get k) := by
  unfold notO
  split
  · rename_i b h
    have hg : Er gR f (.tmp k) = some (.bool b) := by unfold Er; simp only [Cz,h]; rfl
    unfold ground
    simp only [Op.operands,List.all_cons,List.all_nil,hg,Option.isSome_some,Bool.and_self,Aa]
    have e : execOp (fun x => (Er gR f x).getD undef) { dst := dst, op := .unOp .not 4 (.tmp k), type := ty, pos := pos, after := af, guard := gd } = execOp (fun _ => .bool b) { dst := dst, op := .unOp .not 4 (.tmp k), type := ty, pos := pos, after := af, guard := gd } := by
      simp only [execOp,hg,Ae]
    rw [e]
    cases b <;> rfl
  · rfl
theorem Bd (r : OR) (S : St) (b : Bool) : notO r S (some (.v (.bool b))) = .val (.v (.bool (!b))) S := rfl
/-- How many of the first belong. -/
def cnt (p : UInt8 → Bool) : List UInt8 → Nat
  | [] => 0
  | b :: r => if p b then cnt p r + 1 else 0
theorem P8 (p : UInt8 → Bool) : ∀ l, cnt p l ≤ l.length
  | [] => Nat.le_refl _
  | b :: r => by
    unfold cnt
    split
    · have := P8 p r; simp; omega
    · simp
noncomputable def Kc : Code := match Tryz.f96.body with
  | some (.seq _ (.seq (.block _ (.loop c)) _)) => c
  | _ => .skip
/-- A test of bytes. -/
structure Test (k : FuncId) (p : UInt8 → Bool) : Prop where
  run : ∀ b S, WC E1 k [I1 b] S (fun r => r = .ret (.v (.bool (p b))) S)
  fn : (E1.F k).isSome = true
set_option maxHeartbeats 4000000 in
theorem Te {k : FuncId} {p : UInt8 → Bool} (hp : Test k p) (l : List UInt8) (hl : l.length ≤ 100000) (S : St) : ∀ (m i : Nat) (t : T AV), i + m = l.length → t.get 0 = some (D5 l) → t.get 1 = some (Dy i) → t.get 2 = some (.fn (.func k) [] []) →
    WX E1 21 (.loop Kc) ⟨t, []⟩ S (fun r => ∃ t', r = .out (.exit 0) ⟨t', []⟩ S ∧ t'.get 1 = some (Dy (i + cnt p (l.drop i))))
  | 0, i, t, hi, h0, h1, h2 => by
    refine Fc (Es ?_)
    have hlt : ¬ ((i : Int) < (l.length : Int)) := by omega
    have hd : l.drop i = [] := List.drop_eq_nil_of_le (by omega)
    simp only [D5,Dy] at h0 h1 ⊢
    simp only [A3,A6,Bb,Bc,Cr,Bn,B4,C9,Cu,B5,Cs,Ct,Da,Bu,Be,Bo,Bp,A2,A9,Ba,A5,Dc,B6,Bm,Bh,A8,A4,Bi,Bg,Bf,Bq,Br,B9,Ca,Bv,C0,Cz,C1,A0,A1,C2,Dd,ofOpt,ofOptS,Bw,Dh,Di,Cj,Cl,Bk,Bl,C4,Bj,Df,A7,Bd,Cm,Cn,Co,Cp,Cq,B3,B1,Nat.reduceLT,Nat.reduceAdd,Nat.reduceEqDiff,Aa,Ab,reduceIte,Ac,Ad,Ae,Af,Ag,Ah,Ai,Aj,Ak,Al,Am,Ao,Ap,Aq,Ar,Au,Av,Aw,Option.toList,Ay,Az,Kc,Tryz.f96,h0,h1,h2,Qy,hlt]
    exact ⟨_, rfl, by simp only [A0,Nat.reduceEqDiff,Ab,h1,hd,cnt,Nat.add_zero]⟩
  | m + 1, i, t, hi, h0, h1, h2 => by
    refine Fc (Es ?_)
    have hil : i < l.length := by omega
    have hlt : ((i : Int) < (l.length : Int)) := by omega
    have hd : l.drop i = l[i] :: l.drop (i + 1) := List.drop_eq_getElem_cons hil
    obtain ⟨fn, hfn⟩ := Option.isSome_iff_exists.1 hp.fn
    have hx := idx9 l i hil
    have hw := Mf (i := i) (by omega)
    simp only [D5,Dy] at h0 h1 ⊢
    simp only [A3,A6,Bb,Bc,Cr,Bn,B4,C9,Cu,B5,Cs,Ct,Da,Bu,Be,Bo,Bp,A2,A9,Ba,A5,Dc,B6,Bm,Bh,A8,A4,Bi,Bg,Bf,Bq,Br,B9,Ca,Bv,C0,Cz,C1,A0,A1,C2,Dd,ofOpt,ofOptS,Bw,Dh,Di,Cj,Cl,Bk,Bl,C4,Bj,Df,A7,Bd,Cm,Cn,Co,Cp,Cq,B3,B1,Nat.reduceLT,Nat.reduceAdd,Nat.reduceEqDiff,Aa,Ab,reduceIte,Ac,Ad,Ae,Af,Ag,Ah,Ai,Aj,Ak,Al,Am,Ao,Ap,Aq,Ar,Au,Av,Aw,Option.toList,Ay,Az,Kc,Tryz.f96,h0,h1,h2,Qy,hlt,hx,hfn]
    refine WC.mono (hp.run l[i] S) ?_
    rintro _ rfl
    cases hb : p l[i]
    · simp only [A3,A6,Bb,Bc,Cr,Bn,B4,C9,Cu,B5,Cs,Ct,Da,Bu,Be,Bo,Bp,A2,A9,Ba,A5,Dc,B6,Bm,Bh,A8,A4,Bi,Bg,Bf,Bq,Br,B9,Ca,Bv,C0,Cz,C1,A0,A1,C2,Dd,ofOpt,ofOptS,Bw,Dh,Di,Cj,Cl,Bk,Bl,C4,Bj,Df,A7,Bd,Cm,Cn,Co,Cp,Cq,B3,B1,Nat.reduceLT,Nat.reduceAdd,Nat.reduceEqDiff,Aa,Ab,reduceIte,Ac,Ad,Ae,Af,Ag,Ah,Ai,Aj,Ak,Al,Am,Ao,Ap,Aq,Ar,Au,Av,Aw,Option.toList,Ay,Az,Kc,Tryz.f96,h0,h1,h2,Qy,hlt,hx,hfn]
      refine ⟨_, rfl, ?_⟩
      have e : cnt p (l.drop i) = 0 := by rw [hd]; unfold cnt; rw [hb]; rfl
      simp only [A0,Nat.reduceEqDiff,Ab,h1,e,Nat.add_zero]
    · simp only [A3,A6,Bb,Bc,Cr,Bn,B4,C9,Cu,B5,Cs,Ct,Da,Bu,Be,Bo,Bp,A2,A9,Ba,A5,Dc,B6,Bm,Bh,A8,A4,Bi,Bg,Bf,Bq,Br,B9,Ca,Bv,C0,Cz,C1,A0,A1,C2,Dd,ofOpt,ofOptS,Bw,Dh,Di,Cj,Cl,Bk,Bl,C4,Bj,Df,A7,Bd,Cm,Cn,Co,Cp,Cq,B3,B1,Nat.reduceLT,Nat.reduceAdd,Nat.reduceEqDiff,Aa,Ab,reduceIte,Ac,Ad,Ae,Af,Ag,Ah,Ai,Aj,Ak,Al,Am,Ao,Ap,Aq,Ar,Au,Av,Aw,Option.toList,Ay,Az,Kc,Tryz.f96,h0,h1,h2,Qy,hlt,hx,hfn,hw]
      have e : cnt p (l.drop i) = cnt p (l.drop (i + 1)) + 1 := by rw [hd, cnt, hb]; rfl
      refine WX.mono (Te hp l hl S m (i + 1) _ (by omega) ?_ ?_ ?_) ?_
      · simp only [A0,Nat.reduceEqDiff,Ab,h0]; rfl
      · simp only [A0,Nat.reduceEqDiff,Aa]; rfl
      · simp only [A0,Nat.reduceEqDiff,Ab,h2]
      · rintro r ⟨t', rfl, h⟩
        refine ⟨t', rfl, ?_⟩
        rw [h, e]
        show some (Dy _) = some (Dy _)
        congr 2; omega
set_option maxHeartbeats 4000000 in
theorem Ro {k : FuncId} {p : UInt8 → Bool} (hp : Test k p) (l : List UInt8) (hl : l.length ≤ 100000) (i : Nat) (hi : i ≤ l.length) (S : St) : WC E1 96 [D5 l, Dy i, .fn (.func k) [] []] S (fun r => r = .ret (Dy (i + cnt p (l.drop i))) S) := by
  refine Ek Tryz.f96 (by kernel_rfl) (by kernel_rfl) (by kernel_rfl) (show (_ : Nat) ≤ _ from by show (_ : Nat) ≤ _; simp [Tryz.f96]) ?_
  have key := fun t h0 h1 h2 => Te hp l hl S (l.length - i) i t (by omega) h0 h1 h2
  unfold Kc at key
  simp only [Tryz.f96] at key
  simp only [A3,A6,Bb,Bc,Cr,Bn,B4,C9,Cu,B5,Cs,Ct,Da,Bu,Be,Bo,Bp,A2,A9,Ba,A5,Dc,B6,Bm,Bh,A8,A4,Bi,Bg,Bf,Bq,Br,B9,Ca,Bv,C0,Cz,C1,A0,A1,C2,Dd,ofOpt,ofOptS,Bw,Dh,Di,Cj,Cl,Bk,Bl,C4,Bj,Df,A7,Bd,Cm,Cn,Co,Cp,Cq,B3,B1,Nat.reduceLT,Nat.reduceAdd,Nat.reduceEqDiff,Aa,Ab,reduceIte,Ac,Ad,Ae,Af,Ag,Ah,Ai,Aj,Ak,Al,Am,Ao,Ap,Aq,Ar,Au,Av,Aw,Option.toList,Ay,Az,Tryz.f96]
  refine WX.mono (key _ ?_ ?_ ?_) ?_
  · simp only [A0,A1,Nat.reduceEqDiff,Aa,Ab]
  · simp only [A0,A1,Nat.reduceEqDiff,Aa,Ab]
  · simp only [A0,A1,Nat.reduceEqDiff,Aa,Ab]
  · rintro r ⟨t', rfl, h⟩
    simp only [A3,A6,Bb,Bc,Cr,Bn,B4,C9,Cu,B5,Cs,Ct,Da,Bu,Be,Bo,Bp,A2,A9,Ba,A5,Dc,B6,Bm,Bh,A8,A4,Bi,Bg,Bf,Bq,Br,B9,Ca,Bv,C0,Cz,C1,A0,A1,C2,Dd,ofOpt,ofOptS,Bw,Dh,Di,Cj,Cl,Bk,Bl,C4,Bj,Df,A7,Bd,Cm,Cn,Co,Cp,Cq,B3,B1,Nat.reduceLT,Nat.reduceAdd,Nat.reduceEqDiff,Aa,Ab,reduceIte,Ac,Ad,Ae,Af,Ag,Ah,Ai,Aj,Ak,Al,Am,Ao,Ap,Aq,Ar,Au,Av,Aw,Option.toList,Ay,Az,h]
theorem blankT : Test 97 Fa := ⟨blank_w, by kernel_rfl⟩
theorem notEndT : Test 98 I7 := ⟨lU, by kernel_rfl⟩
theorem digitT : Test 101 Ed := ⟨Zc, by kernel_rfl⟩
theorem wordBT : Test 131 Fs := ⟨wordB_w, by kernel_rfl⟩
end Go.Ax
noncomputable section
namespace Go.Ax
open Go.RowKit Go.Proofs
set_option linter.unusedVariables false
set_option linter.unusedSimpArgs false
set_option maxRecDepth 100000

theorem Zv (l : List UInt8) (i : Nat) (h : i ≤ l.length) : Ho Tryz.prog 9 (.v (.string ⟨⟨l⟩⟩)) (some (.v (.int .i64 (i : Int)))) none = some (.v (.string ⟨⟨l.drop i⟩⟩)) := by
  have hu : Tryz.prog.underlying 9 = some .string := rfl
  have h0 : (0 : Int) ≤ (i : Int) := by omega
  have hs : (⟨⟨l⟩⟩ : ByteArray).size = l.length := rfl
  simp only [Ho,hu,Hh,if_pos h0,Int.toNat_natCast,hs]
  rw [Nat.ble_eq_true_of_le h, Nat.ble_eq_true_of_le (Nat.le_refl _)]
  show some (AV.v (.string ⟨⟨(l.drop i).take (l.length - i)⟩⟩)) = _
  rw [List.take_of_length_le (by simp)]
theorem sl9_to (l : List UInt8) (j : Nat) (h : j ≤ l.length) : Ho Tryz.prog 9 (.v (.string ⟨⟨l⟩⟩)) none (some (.v (.int .i64 (j : Int)))) = some (.v (.string ⟨⟨l.take j⟩⟩)) := by
  have hu : Tryz.prog.underlying 9 = some .string := rfl
  have h0 : (0 : Int) ≤ (j : Int) := by omega
  have hs : (⟨⟨l⟩⟩ : ByteArray).size = l.length := rfl
  simp only [Ho,hu,Hh,if_pos h0,Int.toNat_natCast,hs]
  rw [Nat.ble_eq_true_of_le (Nat.zero_le _), Nat.ble_eq_true_of_le h]
  rfl
theorem Ue (l : List UInt8) (i j : Nat) (hi : i ≤ j) (h : j ≤ l.length) : Ho Tryz.prog 9 (.v (.string ⟨⟨l⟩⟩)) (some (.v (.int .i64 (i : Int)))) (some (.v (.int .i64 (j : Int)))) = some (.v (.string ⟨⟨(l.drop i).take (j - i)⟩⟩)) := by
  have hu : Tryz.prog.underlying 9 = some .string := rfl
  have h0 : (0 : Int) ≤ (i : Int) := by omega
  have h1 : (0 : Int) ≤ (j : Int) := by omega
  have hs : (⟨⟨l⟩⟩ : ByteArray).size = l.length := rfl
  simp only [Ho,hu,Hh,if_pos h0,if_pos h1,Int.toNat_natCast,hs]
  rw [Nat.ble_eq_true_of_le hi, Nat.ble_eq_true_of_le h]
  rfl
theorem Y7 (l m : List UInt8) : E8 .eql (.v (.string ⟨⟨l⟩⟩)) (.v (.string ⟨⟨m⟩⟩)) = some (.v (.bool (decide (l = m)))) := by
  simp only [E8,Ja]
  have e : (l == m) = decide (l = m) := by rw [Bool.eq_iff_iff]; simp
  show some (AV.v (.bool (l == m))) = _
  rw [e]
theorem Gf (a b : AV) : Gz Tryz.prog 9 a b = false := by
  have h : Tryz.prog.underlying 9 = some .string := rfl
  unfold Gz; rw [h]
/-- Does a text begin so? -/
def G5 (pre l : List UInt8) : Bool := decide (l.take pre.length = pre)
set_option maxHeartbeats 4000000 in
theorem lK (l pre : List UInt8) (S : St) : WC E1 122 [D5 l, D5 pre] S (fun r => r = .ret (.v (.bool (G5 pre l))) S) := by
  refine Ek Tryz.f122 (by kernel_rfl) (by kernel_rfl) (by kernel_rfl) (show (_ : Nat) ≤ _ from by show (_ : Nat) ≤ _; simp [Tryz.f122]) ?_
  unfold D5
  by_cases h : (pre.length : Int) ≤ (l.length : Int)
  · have hs := sl9_to l pre.length (by omega)
    simp only [A3,A6,Bb,Bc,Cr,Bn,B4,C9,Cu,B5,Cs,Ct,Da,Bu,Be,Bo,Bp,A2,A9,Ba,A5,Dc,B6,Bm,Bh,A8,A4,Bi,Bg,Bf,Bq,Br,B9,Ca,Bv,C0,Cz,C1,A0,A1,C2,Dd,ofOpt,ofOptS,Bw,Dh,Di,Cj,Cl,Bk,Bl,C4,Bj,Df,A7,Bd,Cm,Cn,Co,Cp,Cq,B3,B1,Nat.reduceLT,Nat.reduceAdd,Nat.reduceEqDiff,Aa,Ab,reduceIte,Ac,Ad,Ae,Af,Ag,Ah,Ai,Aj,Ak,Al,Am,Ao,Ap,Aq,Ar,Au,Av,Aw,Option.toList,Ay,Az,Tryz.f122,Qy,h,ge_iff_le,hs,Y7,Gf,G5]
  · have e : G5 pre l = false := by
      unfold G5
      rw [decide_eq_false_iff_not]; intro hq
      have := congrArg List.length hq
      simp at this; omega
    simp only [A3,A6,Bb,Bc,Cr,Bn,B4,C9,Cu,B5,Cs,Ct,Da,Bu,Be,Bo,Bp,A2,A9,Ba,A5,Dc,B6,Bm,Bh,A8,A4,Bi,Bg,Bf,Bq,Br,B9,Ca,Bv,C0,Cz,C1,A0,A1,C2,Dd,ofOpt,ofOptS,Bw,Dh,Di,Cj,Cl,Bk,Bl,C4,Bj,Df,A7,Bd,Cm,Cn,Co,Cp,Cq,B3,B1,Nat.reduceLT,Nat.reduceAdd,Nat.reduceEqDiff,Aa,Ab,reduceIte,Ac,Ad,Ae,Af,Ag,Ah,Ai,Aj,Ak,Al,Am,Ao,Ap,Aq,Ar,Au,Av,Aw,Option.toList,Ay,Az,Tryz.f122,Qy,h,ge_iff_le,Y7,Gf,e]
theorem fnOk122 : ∃ fn, E1.F 122 = some fn := Option.isSome_iff_exists.1 (by kernel_rfl)
theorem pre_w (l pre : List UInt8) (S : St) : WC E1 85 [D5 l, D5 pre] S (fun r => r = .ret (.v (.bool (G5 pre l))) S) := by
  refine Ek Tryz.f85 (by kernel_rfl) (by kernel_rfl) (by kernel_rfl) (show (_ : Nat) ≤ _ from by show (_ : Nat) ≤ _; simp [Tryz.f85]) ?_
  obtain ⟨fn1, hf1⟩ := fnOk122
  simp only [A3,A6,Bb,Bc,Cr,Bn,B4,C9,Cu,B5,Cs,Ct,Da,Bu,Be,Bo,Bp,A2,A9,Ba,A5,Dc,B6,Bm,Bh,A8,A4,Bi,Bg,Bf,Bq,Br,B9,Ca,Bv,C0,Cz,C1,A0,A1,C2,Dd,ofOpt,ofOptS,Bw,Dh,Di,Cj,Cl,Bk,Bl,C4,Bj,Df,A7,Bd,Cm,Cn,Co,Cp,Cq,B3,B1,Nat.reduceLT,Nat.reduceAdd,Nat.reduceEqDiff,Aa,Ab,reduceIte,Ac,Ad,Ae,Af,Ag,Ah,Ai,Aj,Ak,Al,Am,Ao,Ap,Aq,Ar,Au,Av,Aw,Option.toList,Ay,Az,Tryz.f85,hf1]
  refine WC.mono (lK l pre S) ?_
  rintro _ rfl
  simp only [A3,A6,Bb,Bc,Cr,Bn,B4,C9,Cu,B5,Cs,Ct,Da,Bu,Be,Bo,Bp,A2,A9,Ba,A5,Dc,B6,Bm,Bh,A8,A4,Bi,Bg,Bf,Bq,Br,B9,Ca,Bv,C0,Cz,C1,A0,A1,C2,Dd,ofOpt,ofOptS,Bw,Dh,Di,Cj,Cl,Bk,Bl,C4,Bj,Df,A7,Bd,Cm,Cn,Co,Cp,Cq,B3,B1,Nat.reduceLT,Nat.reduceAdd,Nat.reduceEqDiff,Aa,Ab,reduceIte,Ac,Ad,Ae,Af,Ag,Ah,Ai,Aj,Ak,Al,Am,Ao,Ap,Aq,Ar,Au,Av,Aw,Option.toList,Ay,Az,Tryz.f85]
theorem e69 : Gu Tryz.prog 69 = some (none, 9) := by kernel_rfl
theorem u69 : Tryz.prog.underlying 69 = some (.slice 9) := by kernel_rfl
theorem s9 : Fj Tryz.prog 9 = some 1 := by kernel_rfl
theorem a9 : Fv Tryz.prog 9 = some false := by kernel_rfl
theorem len69 (S : St) (tok off : Nat) (es : List AV) : Ji Tryz.prog S 69 (.sl tok off 1 es) = some es.length := by simp [Ji, u69]
theorem idx69 (tok off : Nat) (ws : List (List UInt8)) (i : Nat) (h : i < ws.length) : Ff Tryz.prog 69 (.sl tok off 1 (ws.map D5)) (.v (.int .i64 (i : Int))) = some (.ep [D5 ws[i]]) := by
  have h0 : (0 : Int) ≤ (i : Int) := by omega
  simp [Ff, h0, e69, s9, h, D5, AV.cells]
theorem mG (S : St) (x : AV) : Dw Tryz.prog S 9 (.ep [x]) = some x := by simp [Dw, D6, a9]
noncomputable def Mr : Code := match Tryz.f160.body with
  | some (.seq _ (.seq (.seq _ (.block _ (.loop c))) _)) => c
  | _ => .skip
set_option maxHeartbeats 4000000 in
theorem Vd (tok off : Nat) (ws : List (List UInt8)) (s : List UInt8) (hl : ws.length ≤ 100000) (S : St) : ∀ (m i : Nat) (t : T AV), i + m = ws.length → t.get 0 = some (.sl tok off 1 (ws.map D5)) → t.get 1 = some (D5 s) → t.get 7 = some (Dy ws.length) → t.get 8 = some (Dy i) →
    WX E1 19 (.loop Mr) ⟨t, []⟩ S (fun r => ∃ t', (r = .out (.exit 0) ⟨t', []⟩ S ∧ s ∉ ws.drop i) ∨ (∃ j : Nat, r = .out .ret ⟨t', []⟩ S ∧ t'.get 4 = some (Dy j) ∧ s ∈ ws.drop i))
  | 0, i, t, hi, h0, h1, h7, h8 => by
    refine Fc (Es ?_)
    have hlt : ¬ ((i : Int) < (ws.length : Int)) := by omega
    have hd : ws.drop i = [] := List.drop_eq_nil_of_le (by omega)
    simp only [D5,Dy] at h0 h1 h7 h8 ⊢
    simp only [A3,A6,Bb,Bc,Cr,Bn,B4,C9,Cu,B5,Cs,Ct,Da,Bu,Be,Bo,Bp,A2,A9,Ba,A5,Dc,B6,Bm,Bh,A8,A4,Bi,Bg,Bf,Bq,Br,B9,Ca,Bv,C0,Cz,C1,A0,A1,C2,Dd,ofOpt,ofOptS,Bw,Dh,Di,Cj,Cl,Bk,Bl,C4,Bj,Df,A7,Bd,Cm,Cn,Co,Cp,Cq,B3,B1,Nat.reduceLT,Nat.reduceAdd,Nat.reduceEqDiff,Aa,Ab,reduceIte,Ac,Ad,Ae,Af,Ag,Ah,Ai,Aj,Ak,Al,Am,Ao,Ap,Aq,Ar,Au,Av,Aw,Option.toList,Ay,Az,Mr,Tryz.f160,h0,h1,h7,h8,hlt]
    exact ⟨_, .inl ⟨rfl, by rw [hd]; exact List.not_mem_nil⟩⟩
  | m + 1, i, t, hi, h0, h1, h7, h8 => by
    refine Fc (Es ?_)
    have hil : i < ws.length := by omega
    have hlt : ((i : Int) < (ws.length : Int)) := by omega
    have hd : ws.drop i = ws[i] :: ws.drop (i + 1) := List.drop_eq_getElem_cons hil
    have hx := idx69 tok off ws i hil
    have hw := Mf (i := i) (by omega)
    have hq := Y7 s ws[i]
    simp only [D5,Dy] at h0 h1 h7 h8 hx ⊢
    by_cases he : s = ws[i]
    · rw [decide_eq_true he] at hq
      simp only [A3,A6,Bb,Bc,Cr,Bn,B4,C9,Cu,B5,Cs,Ct,Da,Bu,Be,Bo,Bp,A2,A9,Ba,A5,Dc,B6,Bm,Bh,A8,A4,Bi,Bg,Bf,Bq,Br,B9,Ca,Bv,C0,Cz,C1,A0,A1,C2,Dd,ofOpt,ofOptS,Bw,Dh,Di,Cj,Cl,Bk,Bl,C4,Bj,Df,A7,Bd,Cm,Cn,Co,Cp,Cq,B3,B1,Nat.reduceLT,Nat.reduceAdd,Nat.reduceEqDiff,Aa,Ab,reduceIte,Ac,Ad,Ae,Af,Ag,Ah,Ai,Aj,Ak,Al,Am,Ao,Ap,Aq,Ar,Au,Av,Aw,Option.toList,Ay,Az,Mr,Tryz.f160,h0,h1,h7,h8,hlt,hx,mG,Gf,hq]
      exact ⟨_, .inr ⟨i, rfl, by simp only [A0,Nat.reduceEqDiff,Aa], by rw [hd, he]; exact List.mem_cons_self ..⟩⟩
    · rw [decide_eq_false he] at hq
      simp only [A3,A6,Bb,Bc,Cr,Bn,B4,C9,Cu,B5,Cs,Ct,Da,Bu,Be,Bo,Bp,A2,A9,Ba,A5,Dc,B6,Bm,Bh,A8,A4,Bi,Bg,Bf,Bq,Br,B9,Ca,Bv,C0,Cz,C1,A0,A1,C2,Dd,ofOpt,ofOptS,Bw,Dh,Di,Cj,Cl,Bk,Bl,C4,Bj,Df,A7,Bd,Cm,Cn,Co,Cp,Cq,B3,B1,Nat.reduceLT,Nat.reduceAdd,Nat.reduceEqDiff,Aa,Ab,reduceIte,Ac,Ad,Ae,Af,Ag,Ah,Ai,Aj,Ak,Al,Am,Ao,Ap,Aq,Ar,Au,Av,Aw,Option.toList,Ay,Az,Mr,Tryz.f160,h0,h1,h7,h8,hlt,hx,mG,Gf,hq,hw]
      refine WX.mono (Vd tok off ws s hl S m (i + 1) _ (by omega) ?_ ?_ ?_ ?_) ?_
      · simp only [A0,Nat.reduceEqDiff,Ab,h0]
      · simp only [A0,Nat.reduceEqDiff,Ab,h1]; rfl
      · simp only [A0,Nat.reduceEqDiff,Ab,h7]; rfl
      · simp only [A0,Nat.reduceEqDiff,Aa]; rfl
      · rintro r ⟨t', ⟨rfl, h⟩ | ⟨j, rfl, h, hm⟩⟩
        · exact ⟨t', .inl ⟨rfl, by rw [hd]; exact fun hc => (List.mem_cons.1 hc).elim he h⟩⟩
        · exact ⟨t', .inr ⟨j, rfl, h, by rw [hd]; exact List.mem_cons_of_mem _ hm⟩⟩
theorem index_w (tok off : Nat) (ws : List (List UInt8)) (s : List UInt8) (hl : ws.length ≤ 100000) (S : St) : WC E1 160 [.sl tok off 1 (ws.map D5), D5 s] S (fun r => ∃ x : Int, r = .ret (.v (.int .i64 x)) S ∧ (decide (0 ≤ x) = decide (s ∈ ws))) := by
  refine Ek Tryz.f160 (by kernel_rfl) (by kernel_rfl) (by kernel_rfl) (show (_ : Nat) ≤ _ from by show (_ : Nat) ≤ _; simp [Tryz.f160]) ?_
  have key := fun t h0 h1 h7 h8 => Vd tok off ws s hl S ws.length 0 t (by omega) h0 h1 h7 h8
  unfold Mr at key
  simp only [Tryz.f160] at key
  have hL := len69 S tok off (ws.map D5)
  rw [List.length_map] at hL
  simp only [A3,A6,Bb,Bc,Cr,Bn,B4,C9,Cu,B5,Cs,Ct,Da,Bu,Be,Bo,Bp,A2,A9,Ba,A5,Dc,B6,Bm,Bh,A8,A4,Bi,Bg,Bf,Bq,Br,B9,Ca,Bv,C0,Cz,C1,A0,A1,C2,Dd,ofOpt,ofOptS,Bw,Dh,Di,Cj,Cl,Bk,Bl,C4,Bj,Df,A7,Bd,Cm,Cn,Co,Cp,Cq,B3,B1,Nat.reduceLT,Nat.reduceAdd,Nat.reduceEqDiff,Aa,Ab,reduceIte,Ac,Ad,Ae,Af,Ag,Ah,Ai,Aj,Ak,Al,Am,Ao,Ap,Aq,Ar,Au,Av,Aw,Option.toList,Ay,Az,Tryz.f160,hL]
  refine WX.mono (key _ ?_ ?_ ?_ ?_) ?_
  · simp only [A0,A1,Nat.reduceEqDiff,Aa,Ab]
  · simp only [A0,A1,Nat.reduceEqDiff,Aa,Ab]
  · simp only [A0,A1,Nat.reduceEqDiff,Aa,Ab]; rfl
  · simp only [A0,A1,Nat.reduceEqDiff,Aa,Ab]; rfl
  · rintro r ⟨t', ⟨rfl, h⟩ | ⟨j, rfl, h, hm⟩⟩
    · simp only [A3,A6,Bb,Bc,Cr,Bn,B4,C9,Cu,B5,Cs,Ct,Da,Bu,Be,Bo,Bp,A2,A9,Ba,A5,Dc,B6,Bm,Bh,A8,A4,Bi,Bg,Bf,Bq,Br,B9,Ca,Bv,C0,Cz,C1,A0,A1,C2,Dd,ofOpt,ofOptS,Bw,Dh,Di,Cj,Cl,Bk,Bl,C4,Bj,Df,A7,Bd,Cm,Cn,Co,Cp,Cq,B3,B1,Nat.reduceLT,Nat.reduceAdd,Nat.reduceEqDiff,Aa,Ab,reduceIte,Ac,Ad,Ae,Af,Ag,Ah,Ai,Aj,Ak,Al,Am,Ao,Ap,Aq,Ar,Au,Av,Aw,Option.toList,Ay,Az,h]
      refine ⟨_, rfl, ?_⟩
      rw [List.drop_zero] at h
      rw [decide_eq_false h]; rfl
    · unfold Dy at h
      simp only [A3,A6,Bb,Bc,Cr,Bn,B4,C9,Cu,B5,Cs,Ct,Da,Bu,Be,Bo,Bp,A2,A9,Ba,A5,Dc,B6,Bm,Bh,A8,A4,Bi,Bg,Bf,Bq,Br,B9,Ca,Bv,C0,Cz,C1,A0,A1,C2,Dd,ofOpt,ofOptS,Bw,Dh,Di,Cj,Cl,Bk,Bl,C4,Bj,Df,A7,Bd,Cm,Cn,Co,Cp,Cq,B3,B1,Nat.reduceLT,Nat.reduceAdd,Nat.reduceEqDiff,Aa,Ab,reduceIte,Ac,Ad,Ae,Af,Ag,Ah,Ai,Aj,Ak,Al,Am,Ao,Ap,Aq,Ar,Au,Av,Aw,Option.toList,Ay,Az,h]
      refine ⟨_, rfl, ?_⟩
      rw [List.drop_zero] at hm
      rw [decide_eq_true hm, decide_eq_true (show (0 : Int) ≤ (j : Int) by omega)]
theorem fnOk160 : ∃ fn, E1.F 160 = some fn := Option.isSome_iff_exists.1 (by kernel_rfl)
theorem P7 (tok off : Nat) (ws : List (List UInt8)) (s : List UInt8) (hl : ws.length ≤ 100000) (S : St) : WC E1 129 [.sl tok off 1 (ws.map D5), D5 s] S (fun r => r = .ret (.v (.bool (decide (s ∈ ws)))) S) := by
  refine Ek Tryz.f129 (by kernel_rfl) (by kernel_rfl) (by kernel_rfl) (show (_ : Nat) ≤ _ from by show (_ : Nat) ≤ _; simp [Tryz.f129]) ?_
  obtain ⟨fn1, hf1⟩ := fnOk160
  simp only [A3,A6,Bb,Bc,Cr,Bn,B4,C9,Cu,B5,Cs,Ct,Da,Bu,Be,Bo,Bp,A2,A9,Ba,A5,Dc,B6,Bm,Bh,A8,A4,Bi,Bg,Bf,Bq,Br,B9,Ca,Bv,C0,Cz,C1,A0,A1,C2,Dd,ofOpt,ofOptS,Bw,Dh,Di,Cj,Cl,Bk,Bl,C4,Bj,Df,A7,Bd,Cm,Cn,Co,Cp,Cq,B3,B1,Nat.reduceLT,Nat.reduceAdd,Nat.reduceEqDiff,Aa,Ab,reduceIte,Ac,Ad,Ae,Af,Ag,Ah,Ai,Aj,Ak,Al,Am,Ao,Ap,Aq,Ar,Au,Av,Aw,Option.toList,Ay,Az,Tryz.f129,hf1]
  refine WC.mono (index_w tok off ws s hl S) ?_
  rintro _ ⟨x, rfl, hx⟩
  simp only [A3,A6,Bb,Bc,Cr,Bn,B4,C9,Cu,B5,Cs,Ct,Da,Bu,Be,Bo,Bp,A2,A9,Ba,A5,Dc,B6,Bm,Bh,A8,A4,Bi,Bg,Bf,Bq,Br,B9,Ca,Bv,C0,Cz,C1,A0,A1,C2,Dd,ofOpt,ofOptS,Bw,Dh,Di,Cj,Cl,Bk,Bl,C4,Bj,Df,A7,Bd,Cm,Cn,Co,Cp,Cq,B3,B1,Nat.reduceLT,Nat.reduceAdd,Nat.reduceEqDiff,Aa,Ab,reduceIte,Ac,Ad,Ae,Af,Ag,Ah,Ai,Aj,Ak,Al,Am,Ao,Ap,Aq,Ar,Au,Av,Aw,Option.toList,Ay,Az,Tryz.f129,ge_iff_le,hx]
/-- How many bytes are skipped: blanks, remarks. -/
def Je : Nat → List UInt8 → Nat
  | 0, _ => 0
  | n + 1, l => if G5 [45, 45] (l.drop (cnt Fa l)) then cnt Fa l + (cnt I7 (l.drop (cnt Fa l)) + Je n (l.drop (cnt Fa l + cnt I7 (l.drop (cnt Fa l))))) else cnt Fa l
theorem cM (n : Nat) (l : List UInt8) : Je (n + 1) l = if G5 [45, 45] (l.drop (cnt Fa l)) then cnt Fa l + (cnt I7 (l.drop (cnt Fa l)) + Je n (l.drop (cnt Fa l + cnt I7 (l.drop (cnt Fa l))))) else cnt Fa l := rfl
theorem Jh : ∀ (n : Nat) (l : List UInt8), Je n l ≤ l.length
  | 0, l => Nat.zero_le _
  | n + 1, l => by
    have h1 := P8 Fa l
    have h2 := P8 I7 (l.drop (cnt Fa l))
    have h3 := Jh n (l.drop (cnt Fa l + cnt I7 (l.drop (cnt Fa l))))
    unfold Je
    simp only [List.length_drop] at h2 h3
    split <;> omega
noncomputable def Lm : Code := match Tryz.f65.body with
  | some (.seq _ (.block _ (.loop c))) => c
  | _ => .skip
theorem dM : ∃ fn, E1.F 96 = some fn := Option.isSome_iff_exists.1 (by kernel_rfl)
theorem nA : ∃ fn, E1.F 85 = some fn := Option.isSome_iff_exists.1 (by kernel_rfl)
theorem nZ {l : List UInt8} (h : G5 [45, 45] l = true) : 1 ≤ cnt I7 l := by
  unfold G5 at h
  rw [decide_eq_true_iff] at h
  cases l with
  | nil => cases h
  | cons a r =>
    cases r with
    | nil => cases h
    | cons b r =>
      simp at h
      obtain ⟨rfl, rfl⟩ := h
      unfold cnt
      rw [if_pos (by decide)]; omega
set_option maxHeartbeats 4000000 in
theorem Wp (l : List UInt8) (hl : l.length ≤ 100000) (S : St) : ∀ (n i : Nat) (t : T AV), l.length - i < n → i ≤ l.length → t.get 0 = some (D5 l) → t.get 1 = some (Dy i) →
    WX E1 17 (.loop Lm) ⟨t, []⟩ S (fun r => ∃ t', r = .out .ret ⟨t', []⟩ S ∧ t'.get 4 = some (Dy (i + Je n (l.drop i))))
  | 0, i, t, hn, hi, h0, h1 => absurd hn (Nat.not_lt_zero _)
  | n + 1, i, t, hn, hi, h0, h1 => by
    refine Fc (Es ?_)
    obtain ⟨fn1, hf1⟩ := dM
    obtain ⟨fn2, hf2⟩ := nA
    have hc1 := P8 Fa (l.drop i)
    rw [List.length_drop] at hc1
    have hs := Zv l (i + cnt Fa (l.drop i)) (by omega)
    have hdd : l.drop (i + cnt Fa (l.drop i)) = (l.drop i).drop (cnt Fa (l.drop i)) := by rw [List.drop_drop]
    simp only [D5,Dy] at h0 h1 ⊢
    simp only [A3,A6,Bb,Bc,Cr,Bn,B4,C9,Cu,B5,Cs,Ct,Da,Bu,Be,Bo,Bp,A2,A9,Ba,A5,Dc,B6,Bm,Bh,A8,A4,Bi,Bg,Bf,Bq,Br,B9,Ca,Bv,C0,Cz,C1,A0,A1,C2,Dd,ofOpt,ofOptS,Bw,Dh,Di,Cj,Cl,Bk,Bl,C4,Bj,Df,A7,Bd,Cm,Cn,Co,Cp,Cq,B3,B1,Nat.reduceLT,Nat.reduceAdd,Nat.reduceEqDiff,Aa,Ab,reduceIte,Ac,Ad,Ae,Af,Ag,Ah,Ai,Aj,Ak,Al,Am,Ao,Ap,Aq,Ar,Au,Av,Aw,Option.toList,Ay,Az,Lm,Tryz.f65,h0,h1,hf1,hf2]
    refine WC.mono (Ro blankT l hl i hi S) ?_
    rintro _ rfl
    simp only [Dy]
    simp only [A3,A6,Bb,Bc,Cr,Bn,B4,C9,Cu,B5,Cs,Ct,Da,Bu,Be,Bo,Bp,A2,A9,Ba,A5,Dc,B6,Bm,Bh,A8,A4,Bi,Bg,Bf,Bq,Br,B9,Ca,Bv,C0,Cz,C1,A0,A1,C2,Dd,ofOpt,ofOptS,Bw,Dh,Di,Cj,Cl,Bk,Bl,C4,Bj,Df,A7,Bd,Cm,Cn,Co,Cp,Cq,B3,B1,Nat.reduceLT,Nat.reduceAdd,Nat.reduceEqDiff,Aa,Ab,reduceIte,Ac,Ad,Ae,Af,Ag,Ah,Ai,Aj,Ak,Al,Am,Ao,Ap,Aq,Ar,Au,Av,Aw,Option.toList,Ay,Az,Lm,Tryz.f65,h0,h1,hf1,hf2,hs]
    refine WC.mono (pre_w (l.drop (i + cnt Fa (l.drop i))) [45, 45] S) ?_
    rintro _ rfl
    cases hb : G5 [45, 45] (l.drop (i + cnt Fa (l.drop i)))
    · have e : Je (n + 1) (l.drop i) = cnt Fa (l.drop i) := by unfold Je; rw [← hdd, hb]; rfl
      simp only [A3,A6,Bb,Bc,Cr,Bn,B4,C9,Cu,B5,Cs,Ct,Da,Bu,Be,Bo,Bp,A2,A9,Ba,A5,Dc,B6,Bm,Bh,A8,A4,Bi,Bg,Bf,Bq,Br,B9,Ca,Bv,C0,Cz,C1,A0,A1,C2,Dd,ofOpt,ofOptS,Bw,Dh,Di,Cj,Cl,Bk,Bl,C4,Bj,Df,A7,Bd,Cm,Cn,Co,Cp,Cq,B3,B1,Nat.reduceLT,Nat.reduceAdd,Nat.reduceEqDiff,Aa,Ab,reduceIte,Ac,Ad,Ae,Af,Ag,Ah,Ai,Aj,Ak,Al,Am,Ao,Ap,Aq,Ar,Au,Av,Aw,Option.toList,Ay,Az,Lm,Tryz.f65,h0,h1,hf1,hf2,hs,e]
      exact ⟨_, rfl, by simp only [A0,Nat.reduceEqDiff,Aa]⟩
    · have e : Je (n + 1) (l.drop i) = cnt Fa (l.drop i) + (cnt I7 (l.drop (i + cnt Fa (l.drop i))) + Je n (l.drop (i + cnt Fa (l.drop i) + cnt I7 (l.drop (i + cnt Fa (l.drop i)))))) := by
        rw [cM, ← hdd, hb]; simp only [Aa,List.drop_drop,Nat.add_assoc]
      simp only [A3,A6,Bb,Bc,Cr,Bn,B4,C9,Cu,B5,Cs,Ct,Da,Bu,Be,Bo,Bp,A2,A9,Ba,A5,Dc,B6,Bm,Bh,A8,A4,Bi,Bg,Bf,Bq,Br,B9,Ca,Bv,C0,Cz,C1,A0,A1,C2,Dd,ofOpt,ofOptS,Bw,Dh,Di,Cj,Cl,Bk,Bl,C4,Bj,Df,A7,Bd,Cm,Cn,Co,Cp,Cq,B3,B1,Nat.reduceLT,Nat.reduceAdd,Nat.reduceEqDiff,Aa,Ab,reduceIte,Ac,Ad,Ae,Af,Ag,Ah,Ai,Aj,Ak,Al,Am,Ao,Ap,Aq,Ar,Au,Av,Aw,Option.toList,Ay,Az,Lm,Tryz.f65,h0,h1,hf1,hf2,hs]
      refine WC.mono (Ro notEndT l hl (i + cnt Fa (l.drop i)) (by omega) S) ?_
      rintro _ rfl
      simp only [Dy]
      simp only [A3,A6,Bb,Bc,Cr,Bn,B4,C9,Cu,B5,Cs,Ct,Da,Bu,Be,Bo,Bp,A2,A9,Ba,A5,Dc,B6,Bm,Bh,A8,A4,Bi,Bg,Bf,Bq,Br,B9,Ca,Bv,C0,Cz,C1,A0,A1,C2,Dd,ofOpt,ofOptS,Bw,Dh,Di,Cj,Cl,Bk,Bl,C4,Bj,Df,A7,Bd,Cm,Cn,Co,Cp,Cq,B3,B1,Nat.reduceLT,Nat.reduceAdd,Nat.reduceEqDiff,Aa,Ab,reduceIte,Ac,Ad,Ae,Af,Ag,Ah,Ai,Aj,Ak,Al,Am,Ao,Ap,Aq,Ar,Au,Av,Aw,Option.toList,Ay,Az,Lm,Tryz.f65,h0,h1,hf1,hf2,hs]
      have hc2 := P8 I7 (l.drop (i + cnt Fa (l.drop i)))
      rw [List.length_drop] at hc2
      have hc3 := nZ hb
      refine WX.mono (Wp l hl S n (i + cnt Fa (l.drop i) + cnt I7 (l.drop (i + cnt Fa (l.drop i)))) _ (by omega) (by omega) ?_ ?_) ?_
      · simp only [A0,Nat.reduceEqDiff,Ab,h0]; rfl
      · simp only [A0,Nat.reduceEqDiff,Aa]; rfl
      · rintro r ⟨t', rfl, h⟩
        refine ⟨t', rfl, ?_⟩
        rw [h, e]
        show some (Dy _) = some (Dy _)
        congr 2; omega
theorem lA (l : List UInt8) (hl : l.length ≤ 100000) (n i : Nat) (hn : l.length - i < n) (hi : i ≤ l.length) (S : St) : WC E1 65 [D5 l, Dy i] S (fun r => r = .ret (Dy (i + Je n (l.drop i))) S) := by
  refine Ek Tryz.f65 (by kernel_rfl) (by kernel_rfl) (by kernel_rfl) (show (_ : Nat) ≤ _ from by show (_ : Nat) ≤ _; simp [Tryz.f65]) ?_
  have key := fun t h0 h1 => Wp l hl S n i t hn hi h0 h1
  unfold Lm at key
  simp only [Tryz.f65] at key
  simp only [A3,A6,Bb,Bc,Cr,Bn,B4,C9,Cu,B5,Cs,Ct,Da,Bu,Be,Bo,Bp,A2,A9,Ba,A5,Dc,B6,Bm,Bh,A8,A4,Bi,Bg,Bf,Bq,Br,B9,Ca,Bv,C0,Cz,C1,A0,A1,C2,Dd,ofOpt,ofOptS,Bw,Dh,Di,Cj,Cl,Bk,Bl,C4,Bj,Df,A7,Bd,Cm,Cn,Co,Cp,Cq,B3,B1,Nat.reduceLT,Nat.reduceAdd,Nat.reduceEqDiff,Aa,Ab,reduceIte,Ac,Ad,Ae,Af,Ag,Ah,Ai,Aj,Ak,Al,Am,Ao,Ap,Aq,Ar,Au,Av,Aw,Option.toList,Ay,Az,Tryz.f65]
  refine WX.mono (key _ ?_ ?_) ?_
  · simp only [A0,A1,Nat.reduceEqDiff,Aa,Ab]
  · simp only [A0,A1,Nat.reduceEqDiff,Aa,Ab]
  · rintro r ⟨t', rfl, h⟩
    simp only [A3,A6,Bb,Bc,Cr,Bn,B4,C9,Cu,B5,Cs,Ct,Da,Bu,Be,Bo,Bp,A2,A9,Ba,A5,Dc,B6,Bm,Bh,A8,A4,Bi,Bg,Bf,Bq,Br,B9,Ca,Bv,C0,Cz,C1,A0,A1,C2,Dd,ofOpt,ofOptS,Bw,Dh,Di,Cj,Cl,Bk,Bl,C4,Bj,Df,A7,Bd,Cm,Cn,Co,Cp,Cq,B3,B1,Nat.reduceLT,Nat.reduceAdd,Nat.reduceEqDiff,Aa,Ab,reduceIte,Ac,Ad,Ae,Af,Ag,Ah,Ai,Aj,Ak,Al,Am,Ao,Ap,Aq,Ar,Au,Av,Aw,Option.toList,Ay,Az,h]
end Go.Ax
