/-
  What is read is no wider than its words; expressions of too many levels.
-/
import Derived.Test.YtjgknelmjdallaaGreatDoorPlPj
noncomputable section
namespace Go.Ax
open Go.RowKit Go.Proofs
set_option linter.unusedVariables false
set_option linter.unusedSimpArgs false
set_option maxRecDepth 100000

theorem En {α β : Type} {x : PR α} {f : α → Nat → PR β} {b : β} {j : Nat} (h : PR.bind x f = .ok b j) : ∃ a m, x = .ok a m ∧ f a m = .ok b j := by
  cases x with
  | ok a m => exact ⟨a, m, rfl, h⟩
  | bad a e => cases h
  | out => cases h
theorem Zm (kind pos : Nat) (n : Int) (name : List UInt8) (off : Bool) : Wide (.mk kind pos n name off []) := .mk _ _ _ _ _ _ (by simp) (fun e h => by cases h)
theorem eI {x : PE} (h : Wide x) (kind pos : Nat) (n : Int) (name : List UInt8) (off : Bool) : Wide (.mk kind pos n name off [x]) := .mk _ _ _ _ _ _ (by simp) (fun e he => by
  rcases List.mem_cons.1 he with rfl | he
  · exact h
  · cases he)
theorem Zl {x y : PE} (h : Wide x) (h2 : Wide y) (kind pos : Nat) (n : Int) (name : List UInt8) (off : Bool) : Wide (.mk kind pos n name off [x, y]) := .mk _ _ _ _ _ _ (by simp) (fun e he => by
  simp only [List.mem_cons,List.not_mem_nil,or_false] at he
  rcases he with rfl | rfl
  · exact h
  · exact h2)
theorem wide3 {x y z : PE} (h : Wide x) (h2 : Wide y) (h3 : Wide z) (kind pos : Nat) (n : Int) (name : List UInt8) (off : Bool) : Wide (.mk kind pos n name off [x, y, z]) := .mk _ _ _ _ _ _ (by simp) (fun e he => by
  simp only [List.mem_cons,List.not_mem_nil,or_false] at he
  rcases he with rfl | rfl | rfl
  · exact h
  · exact h2
  · exact h3)
theorem Gs {α : Type} {a b : α} {i j : Nat} (h : (PR.ok a i : PR α) = .ok b j) : a = b ∧ i = j := by injection h with h1 h2; exact ⟨h1, h2⟩
theorem Ml {ts : List Tk} {ws : List (List UInt8)} {kid : Nat → PR PE} (hk : ∀ i e j, kid i = .ok e j → Wide e) : ∀ (n : Nat) (x : PE) (i : Nat) (e : PE) (j : Nat), Wide x → K7 ts ws kid n x i = .ok e j → Wide e
  | 0, x, i, e, j, hx, h => by cases h
  | n + 1, x, i, e, j, hx, h => by
    unfold K7 at h
    split at h
    · obtain ⟨a, m, h1, h2⟩ := En h
      exact Ml hk n _ _ _ _ (Zl hx (hk _ _ _ h1) ..) h2
    · obtain ⟨rfl, _⟩ := Gs h; exact hx
theorem T4 {ts : List Tk} : ∀ (n : Nat) (x : PE) (i : Nat) (e : PE) (j : Nat), Wide x → N1 ts n x i = .ok e j → Wide e
  | 0, x, i, e, j, hx, h => by cases h
  | n + 1, x, i, e, j, hx, h => by
    unfold N1 at h
    split at h
    · obtain ⟨a, m, h1, h2⟩ := En h
      exact T4 n _ _ _ _ (eI hx ..) h2
    · obtain ⟨rfl, _⟩ := Gs h; exact hx
theorem P1 {ts : List Tk} {kid : Nat → PR PE} (hk : ∀ i e j, kid i = .ok e j → Wide e) : ∀ (n : Nat) (l : List PE) (i : Nat) (r : List PE) (j : Nat), (∀ e ∈ l, Wide e) → H5 ts kid n l i = .ok r j → (∀ e ∈ r, Wide e) ∧ r.length ≤ l.length + n
  | 0, l, i, r, j, hl, h => by cases h
  | n + 1, l, i, r, j, hl, h => by
    unfold H5 at h
    split at h
    · obtain ⟨a, m, h1, h2⟩ := En h
      obtain ⟨h3, h4⟩ := P1 hk n _ _ _ _ (fun e he => by
        rcases List.mem_append.1 he with he | he
        · exact hl e he
        · rcases List.mem_cons.1 he with rfl | he
          · exact hk _ _ _ h1
          · cases he) h2
      refine ⟨h3, ?_⟩
      rw [List.length_append] at h4
      simp at h4
      omega
    · obtain ⟨a, m, h1, h2⟩ := En h
      obtain ⟨rfl, _⟩ := Gs h2; exact ⟨hl, by omega⟩
theorem cZ {ts : List Tk} {kid : Nat → PR PE} (hk : ∀ i e j, kid i = .ok e j → Wide e) (n i : Nat) (r : List PE) (j : Nat) (h : Pn ts kid n i = .ok r j) : (∀ e ∈ r, Wide e) ∧ r.length ≤ n + 1 := by
  unfold Pn at h
  obtain ⟨a, m, h1, h2⟩ := En h
  split at h2
  · obtain ⟨rfl, _⟩ := Gs h2; exact ⟨fun e he => (by cases he), by simp⟩
  · obtain ⟨b, m2, h3, h4⟩ := En h2
    obtain ⟨h5, h6⟩ := P1 hk n _ _ _ _ (fun e he => by
      rcases List.mem_cons.1 he with rfl | he
      · exact hk _ _ _ h3
      · cases he) h4
    refine ⟨h5, ?_⟩
    simp at h6
    omega
theorem R7 {ts : List Tk} {i : Nat} {e : PE} {j : Nat} (h : Oj ts i = .ok e j) : Wide e := by
  unfold Oj at h
  split at h
  · cases h
  · split at h
    · split at h
      · cases h
      · split at h
        · obtain ⟨rfl, _⟩ := Gs h; exact Zm ..
        · cases h
    · split at h
      · split at h
        · cases h
        · obtain ⟨rfl, _⟩ := Gs h; exact Zm ..
      · cases h
theorem T6 (t : Tk) : Wide (Pw t) := Zm ..
theorem V2 {ts : List Tk} : ∀ (n : Nat), n ≤ 1000000 → ∀ (nt : NT) (i : Nat) (e : PE) (j : Nat), P ts n nt i = .ok e j → Wide e
  | 0, _, nt, i, e, j, h => by cases nt <;> cases h
  | n + 1, hn, nt, i, e, j, h => by
    have ih : ∀ (nt : NT) (i : Nat) (e : PE) (j : Nat), P ts n nt i = .ok e j → Wide e := V2 n (by omega)
    cases nt with
    | expr =>
      unfold P at h
      split at h
      · obtain ⟨a, m, h1, h⟩ := En h
        obtain ⟨_, m, _, h⟩ := En h
        obtain ⟨b, m, h2, h⟩ := En h
        obtain ⟨_, m, _, h⟩ := En h
        obtain ⟨c, m, h3, h⟩ := En h
        obtain ⟨rfl, _⟩ := Gs h; exact wide3 (ih _ _ _ _ h1) (ih _ _ _ _ h2) (ih _ _ _ _ h3) ..
      · exact ih _ _ _ _ h
    | arrow =>
      unfold P at h
      obtain ⟨a, m, h1, h⟩ := En h
      split at h
      · obtain ⟨b, m, h2, h⟩ := En h
        obtain ⟨rfl, _⟩ := Gs h; exact Zl (ih _ _ _ _ h1) (ih _ _ _ _ h2) ..
      · split at h
        · obtain ⟨rfl, _⟩ := Gs h; exact ih _ _ _ _ h1
        · split at h
          · obtain ⟨b, m, h2, h⟩ := En h
            obtain ⟨rfl, _⟩ := Gs h; exact Zl (ih _ _ _ _ h1) (ih _ _ _ _ h2) ..
          · obtain ⟨rfl, _⟩ := Gs h; exact ih _ _ _ _ h1
    | or => unfold P at h; obtain ⟨a, m, h1, h⟩ := En h; exact Ml (ih _) n _ _ _ _ (ih _ _ _ _ h1) h
    | and => unfold P at h; obtain ⟨a, m, h1, h⟩ := En h; exact Ml (ih _) n _ _ _ _ (ih _ _ _ _ h1) h
    | sum => unfold P at h; obtain ⟨a, m, h1, h⟩ := En h; exact Ml (ih _) n _ _ _ _ (ih _ _ _ _ h1) h
    | term => unfold P at h; obtain ⟨a, m, h1, h⟩ := En h; exact Ml (ih _) n _ _ _ _ (ih _ _ _ _ h1) h
    | not =>
      unfold P at h
      split at h
      · obtain ⟨a, m, h1, h⟩ := En h
        obtain ⟨rfl, _⟩ := Gs h; exact eI (ih _ _ _ _ h1) ..
      · obtain ⟨a, m, h1, h⟩ := En h
        split at h
        · obtain ⟨b, m, h2, h⟩ := En h
          obtain ⟨rfl, _⟩ := Gs h; exact Zl (ih _ _ _ _ h1) (ih _ _ _ _ h2) ..
        · obtain ⟨rfl, _⟩ := Gs h; exact ih _ _ _ _ h1
    | unary =>
      unfold P at h
      split at h
      · obtain ⟨a, m, h1, h⟩ := En h
        obtain ⟨rfl, _⟩ := Gs h; exact eI (ih _ _ _ _ h1) ..
      · split at h
        · exact R7 h
        · split at h
          · obtain ⟨a, m, h1, h⟩ := En h
            obtain ⟨rfl, _⟩ := Gs h; exact eI (ih _ _ _ _ h1) ..
          · exact ih _ _ _ _ h
    | when => unfold P at h; obtain ⟨a, m, h1, h⟩ := En h; exact T4 n _ _ _ _ (ih _ _ _ _ h1) h
    | primary =>
      unfold P at h
      split at h
      · exact R7 h
      · split at h
        · exact ih _ _ _ _ h
        · split at h
          · obtain ⟨rfl, _⟩ := Gs h; exact T6 _
          · split at h
            · obtain ⟨_, m, _, h⟩ := En h
              obtain ⟨a, m, h1, h⟩ := En h
              obtain ⟨b, m, h2, h⟩ := En h
              obtain ⟨rfl, _⟩ := Gs h; exact Zl (ih _ _ _ _ h1) (ih _ _ _ _ h2) ..
            · split at h
              · obtain ⟨_, m, _, h⟩ := En h
                split at h
                · obtain ⟨_, m, _, h⟩ := En h
                  obtain ⟨a, m, h1, h⟩ := En h
                  obtain ⟨l, m, h2, h⟩ := En h
                  obtain ⟨h3, h4⟩ := P1 (ih .lit) n _ _ _ _ (fun e he => by
                    rcases List.mem_cons.1 he with rfl | he
                    · exact ih _ _ _ _ h1
                    · cases he) h2
                  obtain ⟨rfl, _⟩ := Gs h
                  simp at h4
                  exact .mk _ _ _ _ _ _ (by omega) h3
                · obtain ⟨rfl, _⟩ := Gs h; exact Zm ..
              · exact ih _ _ _ _ h
    | name =>
      unfold P at h
      split at h
      · exact ih _ _ _ _ h
      · obtain ⟨_, m, _, h⟩ := En h
        obtain ⟨rfl, _⟩ := Gs h; exact Zm ..
    | call =>
      unfold P at h
      obtain ⟨_, m, _, h⟩ := En h
      obtain ⟨l, m, h2, h⟩ := En h
      obtain ⟨h3, h4⟩ := cZ (ih .expr) n _ _ _ h2
      obtain ⟨rfl, _⟩ := Gs h
      exact .mk _ _ _ _ _ _ (by omega) h3
    | brk =>
      unfold P at h
      obtain ⟨_, m, _, h⟩ := En h
      obtain ⟨a, m, h1, h⟩ := En h
      obtain ⟨_, m, _, h⟩ := En h
      obtain ⟨rfl, _⟩ := Gs h; exact ih _ _ _ _ h1
    | lit =>
      unfold P at h
      split at h
      · obtain ⟨rfl, _⟩ := Gs h; exact T6 _
      · exact R7 h
/-- As it is read, unless it has too many levels. -/
def lM : PE → Nat
  | .mk _ pos _ _ _ _ => pos
def Ha (kid : Nat → PR PE) (i : Nat) : PR PE := (kid i).bind fun e j => if bK e > 40 then .bad (lM e) 3 else .ok e j
theorem nF : ∃ fn, E1.F 46 = some fn := Option.isSome_iff_exists.1 (by kernel_rfl)
theorem ld3p {S : St} {id : Nat} {xs : List AV} {e : PE} (h : S.mem.get id = some (.box xs)) (hr : RepE (.agg xs) e) : Dw Tryz.prog S 3 (.ptr id 1) = some (.v (.int .i64 (lM e : Int))) := by
  cases hr with
  | mk kind pos n name off kv kids h2 => simp [Dw, D6, h, a3, exC, Dy, lM]
theorem fe1 (b : Nat) : Dt Tryz.prog 30 (.ptr b 0) 1 = some (.ptr b 1) := by kernel_rfl
section
variable {p k : Nat} {ts : List Tk} (hts : TokOk ts)
include hts
set_option maxHeartbeats 16000000 in
theorem Ry (m : Nat) (kid : Nat → PR PE) (hF : ∃ fn, E1.F m = some fn) (hkid : Con p k ts m kid) (hw : ∀ i e j, kid i = .ok e j → Wide e) (S : St) (i : Nat) (h : Cur S p k ts i) (hp : p < S.next) (hi : i < ts.length) (ho : kid i ≠ .out) : WC E1 46 [.ptr p 0, F9 m p] S (Ku p k ts S RepE (Ha kid i)) := by
  have _ := hts
  refine Ek Tryz.f46 (by kernel_rfl) (by kernel_rfl) (by kernel_rfl) (show (_ : Nat) ≤ _ from by show (_ : Nat) ≤ _; simp [Tryz.f46]) ?_
  obtain ⟨fn1, hf1⟩ := hF
  obtain ⟨fn2, hf2⟩ := nC
  unfold Ha
  obtain ⟨x1, c1, br, hp1⟩ := Hd h hp
  have y2 := x1
  simp only [A3,A6,Bb,Bc,Cr,Bn,B4,C9,Cu,B5,Cs,Ct,Da,Ci,Be,Bo,Bp,A2,A9,Ba,A5,De,B6,Bm,Bh,A8,A4,Bi,Bg,Bf,Bq,Br,B9,Ca,Bv,C0,Cz,C1,A0,A1,C2,Dd,ofOpt,ofOptS,Bw,Dh,Di,Cj,Cl,Bk,Bl,C4,Bj,Df,A7,Bd,Cm,Cn,Co,Cp,Cq,B3,B1,Nat.reduceLT,Nat.reduceAdd,Nat.reduceEqDiff,Aa,Ab,reduceIte,Ac,Ad,Ae,Af,Ag,Ah,Ai,Aj,Ak,Al,Am,Ao,Ap,Aq,Ar,Au,Av,Aw,Option.toList,Ay,Az,Tryz.f46,Cg,Ch,B7,B8,Do,Dp,fp0,Cb,C3,C8,C7,C6,C5,Dm,Dj,Dk,Cw,Ce,B0,Bt,Cf,Bz,By,Cc,Cd,Bs,Cv,Dq,Db,Dg,Cx,Cy,hf1,hf2,F9]
  refine WC.mono (hkid _ _ c1 hp1 hi ho) ?_
  cases hX3 : kid i with
  | out => exact absurd hX3 ho
  | bad a e =>
    rintro _ ⟨S3, rfl, x3⟩
    simp only [A3,A6,Bb,Bc,Cr,Bn,B4,C9,Cu,B5,Cs,Ct,Da,Ci,Be,Bo,Bp,A2,A9,Ba,A5,De,B6,Bm,Bh,A8,A4,Bi,Bg,Bf,Bq,Br,B9,Ca,Bv,C0,Cz,C1,A0,A1,C2,Dd,ofOpt,ofOptS,Bw,Dh,Di,Cj,Cl,Bk,Bl,C4,Bj,Df,A7,Bd,Cm,Cn,Co,Cp,Cq,B3,B1,Nat.reduceLT,Nat.reduceAdd,Nat.reduceEqDiff,Aa,Ab,reduceIte,Ac,Ad,Ae,Af,Ag,Ah,Ai,Aj,Ak,Al,Am,Ao,Ap,Aq,Ar,Au,Av,Aw,Option.toList,Ay,Az,Tryz.f46,Cg,Ch,B7,B8,Do,Dp,fp0,Cb,C3,C8,C7,C6,C5,Dm,Dj,Dk,Cw,Ce,B0,Bt,Cf,Bz,By,Cc,Cd,Bs,Cv,Dq,Db,Dg,Cx,Cy,hf1,hf2,F9]
    exact ⟨_, rfl, y2.trans x3⟩
  | ok a3 j3 =>
    rintro _ ⟨v3, S3, rfl, hr3, x3, c3, hi3⟩
    obtain ⟨xs3, rfl, hl3⟩ := RepE.agg hr3
    have rf3 := RepE.refl hr3
    have hp3 : p < S3.next := Nat.lt_of_lt_of_le hp1 x3.1
    have y4 := (y2).trans x3
    have br_4 := br.keep x3
    rw [Ds]
    obtain ⟨S5, q5, x5, c5, bx, hp5⟩ := N7 c3 hp3 (xs := xs3) hl3
    have y6 := (y4).trans x5
    have br_6 := br_4.keep x5
    have l7 := bx.ld30 hl3
    simp only [A3,A6,Bb,Bc,Cr,Bn,B4,C9,Cu,B5,Cs,Ct,Da,Ci,Be,Bo,Bp,A2,A9,Ba,A5,De,B6,Bm,Bh,A8,A4,Bi,Bg,Bf,Bq,Br,B9,Ca,Bv,C0,Cz,C1,A0,A1,C2,Dd,ofOpt,ofOptS,Bw,Dh,Di,Cj,Cl,Bk,Bl,C4,Bj,Df,A7,Bd,Cm,Cn,Co,Cp,Cq,B3,B1,Nat.reduceLT,Nat.reduceAdd,Nat.reduceEqDiff,Aa,Ab,reduceIte,Ac,Ad,Ae,Af,Ag,Ah,Ai,Aj,Ak,Al,Am,Ao,Ap,Aq,Ar,Au,Av,Aw,Option.toList,Ay,Az,Tryz.f46,Cg,Ch,B7,B8,Do,Dp,fp0,Cb,C3,C8,C7,C6,C5,Dm,Dj,Dk,Cw,Ce,B0,Bt,Cf,Bz,By,Cc,Cd,Bs,Cv,Dq,Db,Dg,Cx,Cy,hf1,hf2,F9,rf3,q5,l7]
    refine WC.mono (deep_w (hw _ _ _ hX3) xs3 hr3 _) ?_
    rintro _ ⟨S8, rfl, k8⟩
    have x8 := k8.x p
    have c8 := c5.keep hp5 k8
    have hp8 : p < S8.next := Nat.lt_of_lt_of_le hp5 x8.1
    have y9 := (y6).trans x8
    have br_9 := br_6.keep x8
    have bx_9 := bx.keep x8
    have l10 := bx_9.ld30 hl3
    by_cases hd : bK a3 > 40
    · rw [if_pos hd]
      have lp := ld3p bx_9.get hr3
      have m3 : Mc Tryz.prog 33 (.agg [.v (.int .i64 (lM a3 : Int)), .v (.int .i64 3)]) = some (.iface 33 (.agg [.v (.int .i64 (lM a3 : Int)), .v (.int .i64 3)])) := fG _ 3
      simp only [A3,A6,Bb,Bc,Cr,Bn,B4,C9,Cu,B5,Cs,Ct,Da,Ci,Be,Bo,Bp,A2,A9,Ba,A5,De,B6,Bm,Bh,A8,A4,Bi,Bg,Bf,Bq,Br,B9,Ca,Bv,C0,Cz,C1,A0,A1,C2,Dd,ofOpt,ofOptS,Bw,Dh,Di,Cj,Cl,Bk,Bl,C4,Bj,Df,A7,Bd,Cm,Cn,Co,Cp,Cq,B3,B1,Nat.reduceLT,Nat.reduceAdd,Nat.reduceEqDiff,Aa,Ab,reduceIte,Ac,Ad,Ae,Af,Ag,Ah,Ai,Aj,Ak,Al,Am,Ao,Ap,Aq,Ar,Au,Av,Aw,Option.toList,Ay,Az,Tryz.f46,Cg,Ch,B7,B8,Do,Dp,fp0,Cb,C3,C8,C7,C6,C5,Dm,Dj,Dk,Cw,Ce,B0,Bt,Cf,Bz,By,Cc,Cd,Bs,Cv,Dq,Db,Dg,Cx,Cy,hf1,hf2,F9,rf3,q5,l7,l10,hd,fe1,lp,Xw,m3]
      exact ⟨_, rfl, y9⟩
    · rw [if_neg hd]
      obtain ⟨g11, h11, gx, gc⟩ := Ft (S0 := S) c8 br_9 rfl (Nat.le_refl _) y9 (xs := xs3) hl3
      simp only [A3,A6,Bb,Bc,Cr,Bn,B4,C9,Cu,B5,Cs,Ct,Da,Ci,Be,Bo,Bp,A2,A9,Ba,A5,De,B6,Bm,Bh,A8,A4,Bi,Bg,Bf,Bq,Br,B9,Ca,Bv,C0,Cz,C1,A0,A1,C2,Dd,ofOpt,ofOptS,Bw,Dh,Di,Cj,Cl,Bk,Bl,C4,Bj,Df,A7,Bd,Cm,Cn,Co,Cp,Cq,B3,B1,Nat.reduceLT,Nat.reduceAdd,Nat.reduceEqDiff,Aa,Ab,reduceIte,Ac,Ad,Ae,Af,Ag,Ah,Ai,Aj,Ak,Al,Am,Ao,Ap,Aq,Ar,Au,Av,Aw,Option.toList,Ay,Az,Tryz.f46,Cg,Ch,B7,B8,Do,Dp,fp0,Cb,C3,C8,C7,C6,C5,Dm,Dj,Dk,Cw,Ce,B0,Bt,Cf,Bz,By,Cc,Cd,Bs,Cv,Dq,Db,Dg,Cx,Cy,hf1,hf2,F9,rf3,q5,l7,l10,hd,g11,h11]
      exact ⟨_, _, rfl, hr3, gx, gc, hi3⟩
omit hts
/-- An equation. -/
structure PQ where
  left : List (List UInt8 × Nat)
  async : Bool
  e : PE
def eqC (lv : AV) (a : Bool) (xs : List AV) : List AV := lv :: .v (.bool a) :: xs
def iZ (v : AV) (q : PQ) : Prop := ∃ lv xs, v = .agg (eqC lv q.async xs) ∧ J1 2 Gc lv q.left ∧ xs.length = 6 ∧ RepE (.agg xs) q.e
def eqP (ts : List Tk) (n i : Nat) : PR PQ := (Oo ts n i).bind fun ls j => (Ec ts [[61]] j).bind fun _ j => if (tk ts j).text ∈ [[97, 115, 121, 110, 99]] then (Ha (P ts n .call) (j + 1)).bind fun e m => (Ec ts [[59]] m).bind fun _ m => .ok ⟨ls, true, e⟩ m else (Ha (P ts n .expr) j).bind fun e m => (Ec ts [[59]] m).bind fun _ m => .ok ⟨ls, false, e⟩ m
theorem oR : Fv Tryz.prog 57 = some true := by kernel_rfl
theorem X6 : Fj Tryz.prog 57 = some 8 := by kernel_rfl
def bZ : List AV := eqC .nils false exZ
theorem Kt (S : St) : Hr Tryz.prog S 57 = some (.ptr S.next 0, S.newBox bZ) := by kernel_rfl
theorem b57 (v : AV) (l : List (List UInt8 × Nat)) (h : J1 2 Gc v l) : Gk Tryz.prog 57 [(0, v)] = some (.agg (eqC v false exZ)) := by
  rcases h with ⟨rfl, _⟩ | ⟨tok, off, rfl⟩
  · kernel_rfl
  · generalize l.map Gc = es
    kernel_rfl
theorem fq1 (b : Nat) : Dt Tryz.prog 57 (.ptr b 0) 1 = some (.ptr b 1) := by kernel_rfl
theorem fq2 (b : Nat) : Dt Tryz.prog 57 (.ptr b 0) 2 = some (.ptr b 2) := by kernel_rfl
theorem kT {S : St} {id : Nat} {lv : AV} {a : Bool} {xs : List AV} (h : S.mem.get id = some (.box (eqC lv a xs))) (o : Bool) : Du Tryz.prog S 4 (.ptr id 1) (.v (.bool o)) = some (S.put id (eqC lv o xs)) := by
  have h2 : (AV.v (.bool o)).noTup = true := rfl
  have s4 : Fj Tryz.prog 4 = some 1 := by kernel_rfl
  simp [Du, h, s4, h2, AV.cells, St.put, eqC]
theorem mP {S : St} {id : Nat} {lv : AV} {a : Bool} {xs : List AV} (h : S.mem.get id = some (.box (eqC lv a xs))) : Dw Tryz.prog S 4 (.ptr id 1) = some (.v (.bool a)) := by
  have a4 : Fv Tryz.prog 4 = some false := by kernel_rfl
  simp [Dw, D6, h, a4, eqC]
theorem kR {S : St} {id : Nat} {lv : AV} {a : Bool} {xs ys : List AV} (h : S.mem.get id = some (.box (eqC lv a xs))) (hx : xs.length = 6) (hy : ys.length = 6) : Du Tryz.prog S 30 (.ptr id 2) (.agg ys) = some (S.put id (eqC lv a ys)) := by
  have h2 : (AV.agg ys).noTup = true := rfl
  have e : List.drop 6 xs = [] := List.drop_eq_nil_of_le (by omega)
  simp [Du, h, s30, h2, AV.cells, hx, hy, St.put, eqC, e]
theorem Py {kid : Nat → PR PE} {i : Nat} (h : Ha kid i ≠ .out) : kid i ≠ .out := fun e => h (by unfold Ha; rw [e]; rfl)
include hts
set_option maxHeartbeats 16000000 in
theorem eq_p (h2p : 2 ≤ p) (n : Nat) (hn : n ≤ 1000000) (S : St) (i : Nat) (h : Cur S p k ts i) (hp : p < S.next) (hi : i < ts.length) (ho : eqP ts n i ≠ .out) : WC E1 128 [.ptr p 0] S (Ku p k ts S iZ (eqP ts n i)) := by
  have eP : eqP ts n i = (Oo ts n i).bind fun ls j => (Ec ts [[61]] j).bind fun _ j => if (tk ts j).text ∈ [[97, 115, 121, 110, 99]] then (Ha (P ts n .call) (j + 1)).bind fun e m => (Ec ts [[59]] m).bind fun _ m => .ok ⟨ls, true, e⟩ m else (Ha (P ts n .expr) j).bind fun e m => (Ec ts [[59]] m).bind fun _ m => .ok ⟨ls, false, e⟩ m := rfl
  rw [eP] at ho ⊢
  clear eP
  have rd : Reads p k ts n := Lo hts h2p n hn
  refine Ek Tryz.f128 (by kernel_rfl) (by kernel_rfl) (by kernel_rfl) (show (_ : Nat) ≤ _ from by show (_ : Nat) ≤ _; simp [Tryz.f128]) ?_
  obtain ⟨fn1, hf1⟩ := fX
  obtain ⟨fn2, hf2⟩ := J6
  obtain ⟨fn3, hf3⟩ := Hn
  obtain ⟨fn4, hf4⟩ := nF
  obtain ⟨x1, c1, br, hp1⟩ := aG bZ h hp
  have y2 := x1
  simp only [A3,A6,Bb,Bc,Cr,Bn,B4,C9,Cu,B5,Cs,Ct,Da,Ci,Be,Bo,Bp,A2,A9,Ba,A5,De,B6,Bm,Bh,A8,A4,Bi,Bg,Bf,Bq,Br,B9,Ca,Bv,C0,Cz,C1,A0,A1,C2,Dd,ofOpt,ofOptS,Bw,Dh,Di,Cj,Cl,Bk,Bl,C4,Bj,Df,A7,Bd,Cm,Cn,Co,Cp,Cq,B3,B1,Nat.reduceLT,Nat.reduceAdd,Nat.reduceEqDiff,Aa,Ab,reduceIte,Ac,Ad,Ae,Af,Ag,Ah,Ai,Aj,Ak,Al,Am,Ao,Ap,Aq,Ar,Au,Av,Aw,Option.toList,Ay,Az,Tryz.f128,Cg,Ch,B7,B8,Do,Dp,fp0,Cb,C3,C8,C7,C6,C5,Dm,Dj,Dk,Cw,Ce,B0,Bt,Cf,Bz,By,Cc,Cd,Bs,Cv,Dq,Db,Dg,Cx,Cy,hf1,hf2,hf3,hf4,Kt,fq1,fq2]
  have ne1 := Fi ho
  refine WC.mono (lefts_p hts h2p n hn _ _ c1 hp1 hi ne1) ?_
  cases hX3 : Oo ts n i with
  | out => exact absurd hX3 ne1
  | bad a e =>
    rintro _ ⟨S3, rfl, x3⟩
    simp only [A3,A6,Bb,Bc,Cr,Bn,B4,C9,Cu,B5,Cs,Ct,Da,Ci,Be,Bo,Bp,A2,A9,Ba,A5,De,B6,Bm,Bh,A8,A4,Bi,Bg,Bf,Bq,Br,B9,Ca,Bv,C0,Cz,C1,A0,A1,C2,Dd,ofOpt,ofOptS,Bw,Dh,Di,Cj,Cl,Bk,Bl,C4,Bj,Df,A7,Bd,Cm,Cn,Co,Cp,Cq,B3,B1,Nat.reduceLT,Nat.reduceAdd,Nat.reduceEqDiff,Aa,Ab,reduceIte,Ac,Ad,Ae,Af,Ag,Ah,Ai,Aj,Ak,Al,Am,Ao,Ap,Aq,Ar,Au,Av,Aw,Option.toList,Ay,Az,Tryz.f128,Cg,Ch,B7,B8,Do,Dp,fp0,Cb,C3,C8,C7,C6,C5,Dm,Dj,Dk,Cw,Ce,B0,Bt,Cf,Bz,By,Cc,Cd,Bs,Cv,Dq,Db,Dg,Cx,Cy,hf1,hf2,hf3,hf4,Kt,fq1,fq2]
    exact ⟨_, rfl, y2.trans x3⟩
  | ok ls j3 =>
    rw [hX3] at ho; rw [Ds] at ho ⊢
    rintro _ ⟨lv, S3, rfl, hlv, x3, c3, hi3⟩
    have hp3 : p < S3.next := Nat.lt_of_lt_of_le hp1 x3.1
    have y4 := (y2).trans x3
    have br_4 := br.keep x3
    have bq := b57 lv ls hlv
    obtain ⟨S5, q5, x5, c5, bd, hp5⟩ := gN X6 bZ rfl c3 hp3 (xs := eqC lv false exZ) rfl
    have y6 := (y4).trans x5
    have br_6 := br_4.keep x5
    have hne : S3.next ≠ S.next := by have := br_4.lt; omega
    simp only [A3,A6,Bb,Bc,Cr,Bn,B4,C9,Cu,B5,Cs,Ct,Da,Ci,Be,Bo,Bp,A2,A9,Ba,A5,De,B6,Bm,Bh,A8,A4,Bi,Bg,Bf,Bq,Br,B9,Ca,Bv,C0,Cz,C1,A0,A1,C2,Dd,ofOpt,ofOptS,Bw,Dh,Di,Cj,Cl,Bk,Bl,C4,Bj,Df,A7,Bd,Cm,Cn,Co,Cp,Cq,B3,B1,Nat.reduceLT,Nat.reduceAdd,Nat.reduceEqDiff,Aa,Ab,reduceIte,Ac,Ad,Ae,Af,Ag,Ah,Ai,Aj,Ak,Al,Am,Ao,Ap,Aq,Ar,Au,Av,Aw,Option.toList,Ay,Az,Tryz.f128,Cg,Ch,B7,B8,Do,Dp,fp0,Cb,C3,C8,C7,C6,C5,Dm,Dj,Dk,Cw,Ce,B0,Bt,Cf,Bz,By,Cc,Cd,Bs,Cv,Dq,Db,Dg,Cx,Cy,hf1,hf2,hf3,hf4,Kt,fq1,fq2,bq,q5]
    refine WC.mono (Ge c5 hp5 hi3 hts 1 0 [[61]] (by decide) (by decide)) ?_
    cases hX7 : Ec ts [[61]] j3 with
    | out => exact absurd hX7 (Fq _ _ _)
    | bad a e =>
      rintro _ ⟨S7, rfl, x7⟩
      simp only [A3,A6,Bb,Bc,Cr,Bn,B4,C9,Cu,B5,Cs,Ct,Da,Ci,Be,Bo,Bp,A2,A9,Ba,A5,De,B6,Bm,Bh,A8,A4,Bi,Bg,Bf,Bq,Br,B9,Ca,Bv,C0,Cz,C1,A0,A1,C2,Dd,ofOpt,ofOptS,Bw,Dh,Di,Cj,Cl,Bk,Bl,C4,Bj,Df,A7,Bd,Cm,Cn,Co,Cp,Cq,B3,B1,Nat.reduceLT,Nat.reduceAdd,Nat.reduceEqDiff,Aa,Ab,reduceIte,Ac,Ad,Ae,Af,Ag,Ah,Ai,Aj,Ak,Al,Am,Ao,Ap,Aq,Ar,Au,Av,Aw,Option.toList,Ay,Az,Tryz.f128,Cg,Ch,B7,B8,Do,Dp,fp0,Cb,C3,C8,C7,C6,C5,Dm,Dj,Dk,Cw,Ce,B0,Bt,Cf,Bz,By,Cc,Cd,Bs,Cv,Dq,Db,Dg,Cx,Cy,hf1,hf2,hf3,hf4,Kt,fq1,fq2,bq,q5]
      exact ⟨_, rfl, y6.trans x7⟩
    | ok a7 j7 =>
      rw [hX7] at ho; rw [Ds] at ho ⊢
      rintro _ ⟨_, S7, rfl, rfl, x7, c7, hi7⟩
      have hp7 : p < S7.next := Nat.lt_of_lt_of_le hp5 x7.1
      have y8 := (y6).trans x7
      have br_8 := br_6.keep x7
      have bd_8 := bd.keep x7
      by_cases hm : (tk ts j7).text ∈ [[97, 115, 121, 110, 99]]
      · rw [if_pos hm] at ho ⊢
        simp only [A3,A6,Bb,Bc,Cr,Bn,B4,C9,Cu,B5,Cs,Ct,Da,Ci,Be,Bo,Bp,A2,A9,Ba,A5,De,B6,Bm,Bh,A8,A4,Bi,Bg,Bf,Bq,Br,B9,Ca,Bv,C0,Cz,C1,A0,A1,C2,Dd,ofOpt,ofOptS,Bw,Dh,Di,Cj,Cl,Bk,Bl,C4,Bj,Df,A7,Bd,Cm,Cn,Co,Cp,Cq,B3,B1,Nat.reduceLT,Nat.reduceAdd,Nat.reduceEqDiff,Aa,Ab,reduceIte,Ac,Ad,Ae,Af,Ag,Ah,Ai,Aj,Ak,Al,Am,Ao,Ap,Aq,Ar,Au,Av,Aw,Option.toList,Ay,Az,Tryz.f128,Cg,Ch,B7,B8,Do,Dp,fp0,Cb,C3,C8,C7,C6,C5,Dm,Dj,Dk,Cw,Ce,B0,Bt,Cf,Bz,By,Cc,Cd,Bs,Cv,Dq,Db,Dg,Cx,Cy,hf1,hf2,hf3,hf4,Kt,fq1,fq2,bq,q5]
        refine WC.mono (Hw c7 hp7 hi7 hts 1 0 [[97, 115, 121, 110, 99]] (by decide) (by decide) hm) ?_
        rintro _ ⟨S9, rfl, x9, c9, hi9, hp9⟩
        have y10 := (y8).trans x9
        have br_10 := br_8.keep x9
        have bd_10 := bd_8.keep x9
        have st809 := kT bd_10.get true
        obtain ⟨px809, pc809, pb809, pr809⟩ := Pe (ys := eqC lv true exZ) y10 y4.1 bd_10 c9 br_10 hne
        have la9 := mP pb809.get
        simp only [A3,A6,Bb,Bc,Cr,Bn,B4,C9,Cu,B5,Cs,Ct,Da,Ci,Be,Bo,Bp,A2,A9,Ba,A5,De,B6,Bm,Bh,A8,A4,Bi,Bg,Bf,Bq,Br,B9,Ca,Bv,C0,Cz,C1,A0,A1,C2,Dd,ofOpt,ofOptS,Bw,Dh,Di,Cj,Cl,Bk,Bl,C4,Bj,Df,A7,Bd,Cm,Cn,Co,Cp,Cq,B3,B1,Nat.reduceLT,Nat.reduceAdd,Nat.reduceEqDiff,Aa,Ab,reduceIte,Ac,Ad,Ae,Af,Ag,Ah,Ai,Aj,Ak,Al,Am,Ao,Ap,Aq,Ar,Au,Av,Aw,Option.toList,Ay,Az,Tryz.f128,Cg,Ch,B7,B8,Do,Dp,fp0,Cb,C3,C8,C7,C6,C5,Dm,Dj,Dk,Cw,Ce,B0,Bt,Cf,Bz,By,Cc,Cd,Bs,Cv,Dq,Db,Dg,Cx,Cy,hf1,hf2,hf3,hf4,Kt,fq1,fq2,bq,q5,st809,la9]
        have ne2 := Fi ho
        refine WC.mono (Ry hts 159 (P ts n .call) fW rd.call (V2 n hn .call) _ _ pc809 hp9 hi9 (Py ne2)) ?_
        cases hX11 : Ha (P ts n .call) (j7 + 1) with
        | out => exact absurd hX11 ne2
        | bad a e =>
          rintro _ ⟨S11, rfl, x11⟩
          simp only [A3,A6,Bb,Bc,Cr,Bn,B4,C9,Cu,B5,Cs,Ct,Da,Ci,Be,Bo,Bp,A2,A9,Ba,A5,De,B6,Bm,Bh,A8,A4,Bi,Bg,Bf,Bq,Br,B9,Ca,Bv,C0,Cz,C1,A0,A1,C2,Dd,ofOpt,ofOptS,Bw,Dh,Di,Cj,Cl,Bk,Bl,C4,Bj,Df,A7,Bd,Cm,Cn,Co,Cp,Cq,B3,B1,Nat.reduceLT,Nat.reduceAdd,Nat.reduceEqDiff,Aa,Ab,reduceIte,Ac,Ad,Ae,Af,Ag,Ah,Ai,Aj,Ak,Al,Am,Ao,Ap,Aq,Ar,Au,Av,Aw,Option.toList,Ay,Az,Tryz.f128,Cg,Ch,B7,B8,Do,Dp,fp0,Cb,C3,C8,C7,C6,C5,Dm,Dj,Dk,Cw,Ce,B0,Bt,Cf,Bz,By,Cc,Cd,Bs,Cv,Dq,Db,Dg,Cx,Cy,hf1,hf2,hf3,hf4,Kt,fq1,fq2,bq,q5,st809,la9]
          exact ⟨_, rfl, px809.trans x11⟩
        | ok a11 j11 =>
          rw [hX11] at ho; rw [Ds] at ho ⊢
          rintro _ ⟨v11, S11, rfl, hr11, x11, c11, hi11⟩
          obtain ⟨xs11, rfl, hl11⟩ := RepE.agg hr11
          have rf11 := RepE.refl hr11
          have hp11 : p < S11.next := Nat.lt_of_lt_of_le hp9 x11.1
          have y12 := (px809).trans x11
          have bd_12 := pb809.keep x11
          have br_12 := pr809.keep x11
          have st859 := kR (a := true) bd_12.get rfl hl11
          obtain ⟨px859, pc859, pb859, pr859⟩ := Pe (ys := eqC lv true xs11) y12 y4.1 bd_12 c11 br_12 hne
          simp only [A3,A6,Bb,Bc,Cr,Bn,B4,C9,Cu,B5,Cs,Ct,Da,Ci,Be,Bo,Bp,A2,A9,Ba,A5,De,B6,Bm,Bh,A8,A4,Bi,Bg,Bf,Bq,Br,B9,Ca,Bv,C0,Cz,C1,A0,A1,C2,Dd,ofOpt,ofOptS,Bw,Dh,Di,Cj,Cl,Bk,Bl,C4,Bj,Df,A7,Bd,Cm,Cn,Co,Cp,Cq,B3,B1,Nat.reduceLT,Nat.reduceAdd,Nat.reduceEqDiff,Aa,Ab,reduceIte,Ac,Ad,Ae,Af,Ag,Ah,Ai,Aj,Ak,Al,Am,Ao,Ap,Aq,Ar,Au,Av,Aw,Option.toList,Ay,Az,Tryz.f128,Cg,Ch,B7,B8,Do,Dp,fp0,Cb,C3,C8,C7,C6,C5,Dm,Dj,Dk,Cw,Ce,B0,Bt,Cf,Bz,By,Cc,Cd,Bs,Cv,Dq,Db,Dg,Cx,Cy,hf1,hf2,hf3,hf4,Kt,fq1,fq2,bq,q5,st809,la9,rf11,st859]
          refine WC.mono (Ge pc859 hp11 hi11 hts 1 0 [[59]] (by decide) (by decide)) ?_
          cases hX13 : Ec ts [[59]] j11 with
          | out => exact absurd hX13 (Fq _ _ _)
          | bad a e =>
            rintro _ ⟨S13, rfl, x13⟩
            simp only [A3,A6,Bb,Bc,Cr,Bn,B4,C9,Cu,B5,Cs,Ct,Da,Ci,Be,Bo,Bp,A2,A9,Ba,A5,De,B6,Bm,Bh,A8,A4,Bi,Bg,Bf,Bq,Br,B9,Ca,Bv,C0,Cz,C1,A0,A1,C2,Dd,ofOpt,ofOptS,Bw,Dh,Di,Cj,Cl,Bk,Bl,C4,Bj,Df,A7,Bd,Cm,Cn,Co,Cp,Cq,B3,B1,Nat.reduceLT,Nat.reduceAdd,Nat.reduceEqDiff,Aa,Ab,reduceIte,Ac,Ad,Ae,Af,Ag,Ah,Ai,Aj,Ak,Al,Am,Ao,Ap,Aq,Ar,Au,Av,Aw,Option.toList,Ay,Az,Tryz.f128,Cg,Ch,B7,B8,Do,Dp,fp0,Cb,C3,C8,C7,C6,C5,Dm,Dj,Dk,Cw,Ce,B0,Bt,Cf,Bz,By,Cc,Cd,Bs,Cv,Dq,Db,Dg,Cx,Cy,hf1,hf2,hf3,hf4,Kt,fq1,fq2,bq,q5,st809,la9,rf11,st859]
            exact ⟨_, rfl, px859.trans x13⟩
          | ok a13 j13 =>
            rw [hX13] at ho; rw [Ds] at ho ⊢
            rintro _ ⟨_, S13, rfl, rfl, x13, c13, hi13⟩
            have hp13 : p < S13.next := Nat.lt_of_lt_of_le hp11 x13.1
            have y14 := (px859).trans x13
            have bd_14 := pb859.keep x13
            have br_14 := pr859.keep x13
            have lz := ldG oR X6 bd_14.get (show (eqC lv true xs11).length = 8 by simp [eqC, hl11])
            obtain ⟨g15, h15, gx, gc⟩ := Q1 oR X6 (S0 := S) c13 br_14 rfl (Nat.le_refl _) y14 (xs := eqC lv true xs11) (by simp [eqC, hl11])
            simp only [A3,A6,Bb,Bc,Cr,Bn,B4,C9,Cu,B5,Cs,Ct,Da,Ci,Be,Bo,Bp,A2,A9,Ba,A5,De,B6,Bm,Bh,A8,A4,Bi,Bg,Bf,Bq,Br,B9,Ca,Bv,C0,Cz,C1,A0,A1,C2,Dd,ofOpt,ofOptS,Bw,Dh,Di,Cj,Cl,Bk,Bl,C4,Bj,Df,A7,Bd,Cm,Cn,Co,Cp,Cq,B3,B1,Nat.reduceLT,Nat.reduceAdd,Nat.reduceEqDiff,Aa,Ab,reduceIte,Ac,Ad,Ae,Af,Ag,Ah,Ai,Aj,Ak,Al,Am,Ao,Ap,Aq,Ar,Au,Av,Aw,Option.toList,Ay,Az,Tryz.f128,Cg,Ch,B7,B8,Do,Dp,fp0,Cb,C3,C8,C7,C6,C5,Dm,Dj,Dk,Cw,Ce,B0,Bt,Cf,Bz,By,Cc,Cd,Bs,Cv,Dq,Db,Dg,Cx,Cy,hf1,hf2,hf3,hf4,Kt,fq1,fq2,bq,q5,st809,la9,rf11,st859,lz,g15,h15]
            exact ⟨_, _, rfl, ⟨lv, xs11, rfl, hlv, hl11, hr11⟩, gx, gc, hi13⟩
      · rw [if_neg hm] at ho ⊢
        simp only [A3,A6,Bb,Bc,Cr,Bn,B4,C9,Cu,B5,Cs,Ct,Da,Ci,Be,Bo,Bp,A2,A9,Ba,A5,De,B6,Bm,Bh,A8,A4,Bi,Bg,Bf,Bq,Br,B9,Ca,Bv,C0,Cz,C1,A0,A1,C2,Dd,ofOpt,ofOptS,Bw,Dh,Di,Cj,Cl,Bk,Bl,C4,Bj,Df,A7,Bd,Cm,Cn,Co,Cp,Cq,B3,B1,Nat.reduceLT,Nat.reduceAdd,Nat.reduceEqDiff,Aa,Ab,reduceIte,Ac,Ad,Ae,Af,Ag,Ah,Ai,Aj,Ak,Al,Am,Ao,Ap,Aq,Ar,Au,Av,Aw,Option.toList,Ay,Az,Tryz.f128,Cg,Ch,B7,B8,Do,Dp,fp0,Cb,C3,C8,C7,C6,C5,Dm,Dj,Dk,Cw,Ce,B0,Bt,Cf,Bz,By,Cc,Cd,Bs,Cv,Dq,Db,Dg,Cx,Cy,hf1,hf2,hf3,hf4,Kt,fq1,fq2,bq,q5]
        refine WC.mono (Iv c7 hp7 hi7 hts 1 0 [[97, 115, 121, 110, 99]] (by decide) hm) ?_
        rintro _ ⟨S16, rfl, x16, c16, hi16, hp16⟩
        have y17 := (y8).trans x16
        have br_17 := br_8.keep x16
        have bd_17 := bd_8.keep x16
        have st816 := kT bd_17.get false
        obtain ⟨px816, pc816, pb816, pr816⟩ := Pe (ys := eqC lv false exZ) y17 y4.1 bd_17 c16 br_17 hne
        have la16 := mP pb816.get
        simp only [A3,A6,Bb,Bc,Cr,Bn,B4,C9,Cu,B5,Cs,Ct,Da,Ci,Be,Bo,Bp,A2,A9,Ba,A5,De,B6,Bm,Bh,A8,A4,Bi,Bg,Bf,Bq,Br,B9,Ca,Bv,C0,Cz,C1,A0,A1,C2,Dd,ofOpt,ofOptS,Bw,Dh,Di,Cj,Cl,Bk,Bl,C4,Bj,Df,A7,Bd,Cm,Cn,Co,Cp,Cq,B3,B1,Nat.reduceLT,Nat.reduceAdd,Nat.reduceEqDiff,Aa,Ab,reduceIte,Ac,Ad,Ae,Af,Ag,Ah,Ai,Aj,Ak,Al,Am,Ao,Ap,Aq,Ar,Au,Av,Aw,Option.toList,Ay,Az,Tryz.f128,Cg,Ch,B7,B8,Do,Dp,fp0,Cb,C3,C8,C7,C6,C5,Dm,Dj,Dk,Cw,Ce,B0,Bt,Cf,Bz,By,Cc,Cd,Bs,Cv,Dq,Db,Dg,Cx,Cy,hf1,hf2,hf3,hf4,Kt,fq1,fq2,bq,q5,st816,la16]
        have ne2 := Fi ho
        refine WC.mono (Ry hts 47 (P ts n .expr) Vf rd.expr (V2 n hn .expr) _ _ pc816 hp16 hi16 (Py ne2)) ?_
        cases hX18 : Ha (P ts n .expr) j7 with
        | out => exact absurd hX18 ne2
        | bad a e =>
          rintro _ ⟨S18, rfl, x18⟩
          simp only [A3,A6,Bb,Bc,Cr,Bn,B4,C9,Cu,B5,Cs,Ct,Da,Ci,Be,Bo,Bp,A2,A9,Ba,A5,De,B6,Bm,Bh,A8,A4,Bi,Bg,Bf,Bq,Br,B9,Ca,Bv,C0,Cz,C1,A0,A1,C2,Dd,ofOpt,ofOptS,Bw,Dh,Di,Cj,Cl,Bk,Bl,C4,Bj,Df,A7,Bd,Cm,Cn,Co,Cp,Cq,B3,B1,Nat.reduceLT,Nat.reduceAdd,Nat.reduceEqDiff,Aa,Ab,reduceIte,Ac,Ad,Ae,Af,Ag,Ah,Ai,Aj,Ak,Al,Am,Ao,Ap,Aq,Ar,Au,Av,Aw,Option.toList,Ay,Az,Tryz.f128,Cg,Ch,B7,B8,Do,Dp,fp0,Cb,C3,C8,C7,C6,C5,Dm,Dj,Dk,Cw,Ce,B0,Bt,Cf,Bz,By,Cc,Cd,Bs,Cv,Dq,Db,Dg,Cx,Cy,hf1,hf2,hf3,hf4,Kt,fq1,fq2,bq,q5,st816,la16]
          exact ⟨_, rfl, px816.trans x18⟩
        | ok a18 j18 =>
          rw [hX18] at ho; rw [Ds] at ho ⊢
          rintro _ ⟨v18, S18, rfl, hr18, x18, c18, hi18⟩
          obtain ⟨xs18, rfl, hl18⟩ := RepE.agg hr18
          have rf18 := RepE.refl hr18
          have hp18 : p < S18.next := Nat.lt_of_lt_of_le hp16 x18.1
          have y19 := (px816).trans x18
          have bd_19 := pb816.keep x18
          have br_19 := pr816.keep x18
          have st866 := kR (a := false) bd_19.get rfl hl18
          obtain ⟨px866, pc866, pb866, pr866⟩ := Pe (ys := eqC lv false xs18) y19 y4.1 bd_19 c18 br_19 hne
          simp only [A3,A6,Bb,Bc,Cr,Bn,B4,C9,Cu,B5,Cs,Ct,Da,Ci,Be,Bo,Bp,A2,A9,Ba,A5,De,B6,Bm,Bh,A8,A4,Bi,Bg,Bf,Bq,Br,B9,Ca,Bv,C0,Cz,C1,A0,A1,C2,Dd,ofOpt,ofOptS,Bw,Dh,Di,Cj,Cl,Bk,Bl,C4,Bj,Df,A7,Bd,Cm,Cn,Co,Cp,Cq,B3,B1,Nat.reduceLT,Nat.reduceAdd,Nat.reduceEqDiff,Aa,Ab,reduceIte,Ac,Ad,Ae,Af,Ag,Ah,Ai,Aj,Ak,Al,Am,Ao,Ap,Aq,Ar,Au,Av,Aw,Option.toList,Ay,Az,Tryz.f128,Cg,Ch,B7,B8,Do,Dp,fp0,Cb,C3,C8,C7,C6,C5,Dm,Dj,Dk,Cw,Ce,B0,Bt,Cf,Bz,By,Cc,Cd,Bs,Cv,Dq,Db,Dg,Cx,Cy,hf1,hf2,hf3,hf4,Kt,fq1,fq2,bq,q5,st816,la16,rf18,st866]
          refine WC.mono (Ge pc866 hp18 hi18 hts 1 0 [[59]] (by decide) (by decide)) ?_
          cases hX20 : Ec ts [[59]] j18 with
          | out => exact absurd hX20 (Fq _ _ _)
          | bad a e =>
            rintro _ ⟨S20, rfl, x20⟩
            simp only [A3,A6,Bb,Bc,Cr,Bn,B4,C9,Cu,B5,Cs,Ct,Da,Ci,Be,Bo,Bp,A2,A9,Ba,A5,De,B6,Bm,Bh,A8,A4,Bi,Bg,Bf,Bq,Br,B9,Ca,Bv,C0,Cz,C1,A0,A1,C2,Dd,ofOpt,ofOptS,Bw,Dh,Di,Cj,Cl,Bk,Bl,C4,Bj,Df,A7,Bd,Cm,Cn,Co,Cp,Cq,B3,B1,Nat.reduceLT,Nat.reduceAdd,Nat.reduceEqDiff,Aa,Ab,reduceIte,Ac,Ad,Ae,Af,Ag,Ah,Ai,Aj,Ak,Al,Am,Ao,Ap,Aq,Ar,Au,Av,Aw,Option.toList,Ay,Az,Tryz.f128,Cg,Ch,B7,B8,Do,Dp,fp0,Cb,C3,C8,C7,C6,C5,Dm,Dj,Dk,Cw,Ce,B0,Bt,Cf,Bz,By,Cc,Cd,Bs,Cv,Dq,Db,Dg,Cx,Cy,hf1,hf2,hf3,hf4,Kt,fq1,fq2,bq,q5,st816,la16,rf18,st866]
            exact ⟨_, rfl, px866.trans x20⟩
          | ok a20 j20 =>
            rw [hX20] at ho; rw [Ds] at ho ⊢
            rintro _ ⟨_, S20, rfl, rfl, x20, c20, hi20⟩
            have hp20 : p < S20.next := Nat.lt_of_lt_of_le hp18 x20.1
            have y21 := (px866).trans x20
            have bd_21 := pb866.keep x20
            have br_21 := pr866.keep x20
            have lz := ldG oR X6 bd_21.get (show (eqC lv false xs18).length = 8 by simp [eqC, hl18])
            obtain ⟨g22, h22, gx, gc⟩ := Q1 oR X6 (S0 := S) c20 br_21 rfl (Nat.le_refl _) y21 (xs := eqC lv false xs18) (by simp [eqC, hl18])
            simp only [A3,A6,Bb,Bc,Cr,Bn,B4,C9,Cu,B5,Cs,Ct,Da,Ci,Be,Bo,Bp,A2,A9,Ba,A5,De,B6,Bm,Bh,A8,A4,Bi,Bg,Bf,Bq,Br,B9,Ca,Bv,C0,Cz,C1,A0,A1,C2,Dd,ofOpt,ofOptS,Bw,Dh,Di,Cj,Cl,Bk,Bl,C4,Bj,Df,A7,Bd,Cm,Cn,Co,Cp,Cq,B3,B1,Nat.reduceLT,Nat.reduceAdd,Nat.reduceEqDiff,Aa,Ab,reduceIte,Ac,Ad,Ae,Af,Ag,Ah,Ai,Aj,Ak,Al,Am,Ao,Ap,Aq,Ar,Au,Av,Aw,Option.toList,Ay,Az,Tryz.f128,Cg,Ch,B7,B8,Do,Dp,fp0,Cb,C3,C8,C7,C6,C5,Dm,Dj,Dk,Cw,Ce,B0,Bt,Cf,Bz,By,Cc,Cd,Bs,Cv,Dq,Db,Dg,Cx,Cy,hf1,hf2,hf3,hf4,Kt,fq1,fq2,bq,q5,st816,la16,rf18,st866,lz,g22,h22]
            exact ⟨_, _, rfl, ⟨lv, xs18, rfl, hlv, hl18, hr18⟩, gx, gc, hi20⟩
end
end Go.Ax
