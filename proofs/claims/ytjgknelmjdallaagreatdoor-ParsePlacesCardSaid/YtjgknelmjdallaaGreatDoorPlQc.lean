/-
  slices.Clone of a row of expressions; tree's copyExpr: what they answer.
-/
import Derived.Test.YtjgknelmjdallaaGreatDoorPlPj
import Derived.Test.YtjgknelmjdallaaGreatDoorPlQa
noncomputable section
namespace Go.Ax
open Go.RowKit Go.Proofs
set_option linter.unusedVariables false
set_option linter.unusedSimpArgs false
set_option maxRecDepth 100000

theorem Hj (a b c d : Nat) : Gt (.bs a b c d) (.bs a b c d) = true := by simp [Gt]
theorem aL (tok off sz : Nat) (es : List AV) : Gz Tryz.prog 28 (.sl tok off sz es) .nils = true := by unfold Gz; rw [u28]
theorem mA : Gz Tryz.prog 28 .nils .nils = false := by unfold Gz; rw [u28]
theorem fbNils : E8 .eql .nils .nils = none := rfl
def nilS (r : OR) (S : St) (x : Option AV) : OR := match x with
  | some .nils => .val (.v (.bool true)) S
  | _ => r
theorem eqOr28 (f : T AV) (S : St) (k : Nat) (dst : Option Tmp) (ty : TypeId) (pos : String) (af : Array Edge) (gd : Option (Nat × Bool)) :
    Ns Tryz.prog gR f S { dst := dst, op := .binOp .eql 28 (.tmp k) (.const (.slice none 0 0)) 28, type := ty, pos := pos, after := af, guard := gd } .eql 28 .nils .nils =
    nilS (nP Tryz.prog gR f S { dst := dst, op := .binOp .eql 28 (.tmp k) (.const (.slice none 0 0)) 28, type := ty, pos := pos, after := af, guard := gd } .eql 28 .nils .nils) S (f.get k) := by
  unfold nilS
  split
  · rename_i hf
    have h0 : Nr Tryz.prog .eql 28 .nils .nils = none := by kernel_rfl
    unfold Ns
    rw [h0]
    have hg : Er gR f (.tmp k) = some (.slice none 0 0) := by unfold Er; simp only [Cz,hf]; rfl
    have hc : Er gR f (.const (.slice none 0 0)) = some (.slice none 0 0) := rfl
    unfold ground
    simp only [Op.operands,List.all_cons,List.all_nil,hg,hc,Option.isSome_some,Bool.and_self,Aa]
    have e : execOp (fun x => (Er gR f x).getD undef) { dst := dst, op := .binOp .eql 28 (.tmp k) (.const (.slice none 0 0)) 28, type := ty, pos := pos, after := af, guard := gd } = execOp (fun _ => .slice none 0 0) { dst := none, op := .binOp .eql 28 (.tmp 3) (.const (.slice none 0 0)) 28, type := 4, pos := "", after := #[], guard := none } := by
      simp only [execOp,hg,hc,Ae]
      rfl
    rw [e]
    have e3 : (Pk Tryz.prog 4000 (execOp (fun _ => Value.slice none 0 0) { dst := none, op := .binOp .eql 28 (.tmp 3) (.const (.slice none 0 0)) 28, type := 4, pos := "", after := #[], guard := none })) = some (.bool true) := by kernel_rfl
    rw [e3]; rfl
  · rfl
theorem r28 : D3 Tryz.prog 28 0 [] = some (.sl 1 0 6 []) := by kernel_rfl
theorem appM28 (S : St) (tok off : Nat) (e : AV) (es : List AV) (hl : (e :: es).length ≤ 2000000) : G6 E1 S 28 28 (.sl 1 0 6 []) (.sl tok off 6 (e :: es)) = some (.bs S.next 0 (e :: es).length 6, S.newBox (Em (e :: es))) := by
  obtain ⟨i, hi, hz0, hz1, hz2⟩ := Gg i30
  have hb1 : (es.length + 1) * 72 ≤ 140737488355328 := by simp at hl; omega
  have hb2 : es.length + 1 ≤ 9223372036854775807 := by simp at hl; omega
  rw [oO]
  simp [Hl, e28, hi, hz0, hz1, hz2, Kh, u28, Value.cells, hb1, hb2]
theorem app28e (S : St) (tok off : Nat) : G6 E1 S 28 28 (.sl 1 0 6 []) (.sl tok off 6 []) = some (.sl 1 0 6 [], S) := by
  obtain ⟨i, hi, hz0, hz1, hz2⟩ := Gg i30
  rw [oO]
  simp [Hl, Fp, e28, hi, hz0, hz1, hz2, Kh, u28, Value.cells]
set_option maxHeartbeats 4000000 in
theorem jW (S : St) : WC E1 95 [.nils] S (fun r => r = .ret .nils S) := by
  refine Ek Tryz.f95 (by kernel_rfl) (by kernel_rfl) (by kernel_rfl) (show (_ : Nat) ≤ _ from by show (_ : Nat) ≤ _; simp [Tryz.f95]) ?_
  simp only [A3,A6,Bb,Bc,Cr,Bn,B4,C9,Cu,B5,Cs,Ct,Da,Ci,Be,Bo,Bp,A2,A9,Ba,A5,De,B6,Bm,Bh,A8,A4,Bi,Bg,Bf,Bq,Br,B9,Ca,Bv,C0,Cz,C1,A0,A1,C2,Dd,ofOpt,ofOptS,Bw,Dh,Di,Cj,Cl,Bk,Bl,C4,Bj,Df,A7,Bd,Cm,Cn,Co,Cp,Cq,B3,B1,Nat.reduceLT,Nat.reduceAdd,Nat.reduceEqDiff,Aa,Ab,reduceIte,Ac,Ad,Ae,Af,Ag,Ah,Ai,Aj,Ak,Al,Am,Ao,Ap,Aq,Ar,Au,Av,Aw,Option.toList,Ay,Az,Dm,Dj,Dk,Cw,Ce,B0,Bt,Cf,Bz,By,Cc,Cd,Bs,Cv,Dq,Db,Dg,Cx,Cy,Hj,Tryz.f95,mA,fbNils,eqOr28,nilS]
def kB (S : St) (es : List AV) (r : R) : Prop := (es = [] ∧ r = .ret (.sl 1 0 6 []) S) ∨ (es ≠ [] ∧ r = .ret (.bs S.next 0 es.length 6) (S.newBox (Em es)))
set_option maxHeartbeats 4000000 in
theorem jV (S : St) (tok off : Nat) (es : List AV) (hl : es.length ≤ 2000000) : WC E1 95 [.sl tok off 6 es] S (kB S es) := by
  refine Ek Tryz.f95 (by kernel_rfl) (by kernel_rfl) (by kernel_rfl) (show (_ : Nat) ≤ _ from by show (_ : Nat) ≤ _; simp [Tryz.f95]) ?_
  cases es with
  | nil =>
    have q := app28e S tok off
    simp only [A3,A6,Bb,Bc,Cr,Bn,B4,C9,Cu,B5,Cs,Ct,Da,Ci,Be,Bo,Bp,A2,A9,Ba,A5,De,B6,Bm,Bh,A8,A4,Bi,Bg,Bf,Bq,Br,B9,Ca,Bv,C0,Cz,C1,A0,A1,C2,Dd,ofOpt,ofOptS,Bw,Dh,Di,Cj,Cl,Bk,Bl,C4,Bj,Df,A7,Bd,Cm,Cn,Co,Cp,Cq,B3,B1,Nat.reduceLT,Nat.reduceAdd,Nat.reduceEqDiff,Aa,Ab,reduceIte,Ac,Ad,Ae,Af,Ag,Ah,Ai,Aj,Ak,Al,Am,Ao,Ap,Aq,Ar,Au,Av,Aw,Option.toList,Ay,Az,Dm,Dj,Dk,Cw,Ce,B0,Bt,Cf,Bz,By,Cc,Cd,Bs,Cv,Dq,Db,Dg,Cx,Cy,Hj,Tryz.f95,aL,r28,q]
    exact .inl ⟨rfl, rfl⟩
  | cons e es =>
    have q := appM28 S tok off e es hl
    simp only [A3,A6,Bb,Bc,Cr,Bn,B4,C9,Cu,B5,Cs,Ct,Da,Ci,Be,Bo,Bp,A2,A9,Ba,A5,De,B6,Bm,Bh,A8,A4,Bi,Bg,Bf,Bq,Br,B9,Ca,Bv,C0,Cz,C1,A0,A1,C2,Dd,ofOpt,ofOptS,Bw,Dh,Di,Cj,Cl,Bk,Bl,C4,Bj,Df,A7,Bd,Cm,Cn,Co,Cp,Cq,B3,B1,Nat.reduceLT,Nat.reduceAdd,Nat.reduceEqDiff,Aa,Ab,reduceIte,Ac,Ad,Ae,Af,Ag,Ah,Ai,Aj,Ak,Al,Am,Ao,Ap,Aq,Ar,Au,Av,Aw,Option.toList,Ay,Az,Dm,Dj,Dk,Cw,Ce,B0,Bt,Cf,Bz,By,Cc,Cd,Bs,Cv,Dq,Db,Dg,Cx,Cy,Hj,Tryz.f95,aL,r28,q]
    exact .inr ⟨List.cons_ne_nil _ _, rfl⟩
/-- What a row of kids may be, D6 a copy. -/
def Rt (kv : AV) : Prop := kv = .nils ∨ (∃ tok off es, kv = .sl tok off 6 es) ∨ ∃ id off n, kv = .bs id off n 6
theorem Rt.top {kv : AV} (h : Rt kv) : kv.noTup = true ∧ kv.cells = [kv] := by
  rcases h with rfl | ⟨_, _, _, rfl⟩ | ⟨_, _, _, rfl⟩ <;> exact ⟨rfl, rfl⟩
theorem s28 : Fj Tryz.prog 28 = some 1 := by kernel_rfl
theorem kW {S : St} {id kind pos : Nat} {n : Int} {name : List UInt8} {off : Bool} {kv kv' : AV} (h : S.mem.get id = some (.box (exC kind pos n name off kv))) (hk : Rt kv') : Du Tryz.prog S 28 (.ptr id 5) kv' = some (S.put id (exC kind pos n name off kv')) := by
  simp [Du, h, s28, hk.top.1, hk.top.2, exC, St.put]
theorem idx28b (id i n : Nat) (h : i < n) : Ff Tryz.prog 28 (.bs id 0 n 6) (.v (.int .i64 (i : Int))) = some (.ptr id (i * 6)) := by
  have h0 : (0 : Int) ≤ (i : Int) := by omega
  have h1 : (i : Int) < (n : Int) := by omega
  simp [Ff, h0, e28, s30, h1]
theorem len28b (S : St) (id n : Nat) : Ji Tryz.prog S 28 (.bs id 0 n 6) = some n := by
  have h : Tryz.prog.underlying 28 = some (.slice 30) := rfl
  simp only [Ji,h]
theorem ldAt30 {S : St} {id off : Nat} {cs ys : List AV} {rest : List AV} (h : S.mem.get id = some (.box cs)) (hd : cs.drop off = ys ++ rest) (hy : ys.length = 6) (ho : off ≤ cs.length) : Dw Tryz.prog S 30 (.ptr id off) = some (.agg ys) := by
  have e : (ys ++ rest).take 6 = ys := by rw [← hy]; simp
  have e2 : (ys ++ rest).length = rest.length + 6 := by simp [hy]; omega
  simp [Dw, D6, h, ho, hd, a30, s30, e, hy]
theorem stAt30 {S : St} {id off : Nat} {cs ys : List AV} (h : S.mem.get id = some (.box cs)) (hy : ys.length = 6) (ho : off + 6 ≤ cs.length) : Du Tryz.prog S 30 (.ptr id off) (.agg ys) = some (S.put id (cs.take off ++ ys ++ cs.drop (off + 6))) := by
  have h2 : (AV.agg ys).noTup = true := rfl
  simp [Du, h, s30, h2, AV.cells, hy, ho, St.put]
theorem nE : ∃ fn, E1.F 64 = some fn := Option.isSome_iff_exists.1 (by kernel_rfl)
theorem fnOk95 : ∃ fn, E1.F 95 = some fn := Option.isSome_iff_exists.1 (by kernel_rfl)
noncomputable def Gq : Code := match Tryz.f64.body with
  | some (.seq _ (.seq _ (.seq (.seq _ (.block _ (.loop c))) _))) => c
  | some (.seq _ (.seq _ (.seq (.seq _ (.seq (.block _ (.loop c)) _)) _))) => c
  | some (.seq _ (.seq _ (.seq _ (.seq (.block _ (.loop c)) _)))) => c
  | _ => .skip
def J7 (e : PE) (kv : AV) : List AV := match e with
  | .mk kind pos n name off _ => exC kind pos n name off kv
def pD (e : PE) : Prop := ∀ (ys : List AV), RepE (.agg ys) e → ∀ S, 2 ≤ S.next → WC E1 64 [.agg ys] S (fun r => ∃ kv S', r = .ret (.agg (J7 e kv)) S' ∧ Rt kv ∧ Fg S S')
theorem jI {es : List AV} {l : List PE} (h : RepF es l) : (Em es).length = es.length * 6 := by
  induction es generalizing l with
  | nil => rfl
  | cons a r ih => cases h with
    | cons _ e _ l2 h1 h2 =>
      obtain ⟨ys, rfl, hy⟩ := h1.agg
      rw [Ir, List.length_append, ih h2]
      show ys.length + _ = _
      simp; omega
set_option maxHeartbeats 16000000 in
theorem Xm (S0 : St) (b : Nat) (ex : AV → List AV) (hex : ∃ kind pos n name off, ex = exC kind pos n name off) (c : Nat) (es : List AV) (hes : es.length ≤ 2000000) (hb0 : S0.next ≤ b) (hc0 : S0.next ≤ c) (hbc : b ≠ c) (h2 : 2 ≤ S0.next) : ∀ (suf : List PE) (j : Nat) (cs : List AV) (t : T AV) (S : St), RepF (es.drop j) suf → j ≤ es.length → (∀ e ∈ suf, pD e) →
    cs.length = es.length * 6 → cs.drop (j * 6) = Em (es.drop j) → S.mem.get c = some (.box cs) → c < S.next → b < S.next → S.mem.get b = some (.box (ex (.bs c 0 es.length 6))) →
    t.get 1 = some (.ptr b 0) → t.get 10 = some (.bs c 0 es.length 6) → t.get 11 = some (.v (.int .i64 (es.length : Int))) → t.get 12 = some (.v (.int .i64 (j : Int))) → Fg S0 S →
    WX E1 25 (.loop Gq) ⟨t, []⟩ S (fun r => ∃ t' S', r = .out (.exit 0) ⟨t', []⟩ S' ∧ t'.get 1 = some (.ptr b 0) ∧ t'.get 2 = t.get 2 ∧ S'.mem.get b = some (.box (ex (.bs c 0 es.length 6))) ∧ b < S'.next ∧ (∀ id, id < S.next → id ≠ c → S'.mem.get id = S.mem.get id) ∧ Fg S0 S')
  | [], j, cs, t, S, hr, hj, hd, hcl, hcd, gc, hcn, hbn, gb, h1, h10, h11, h12, hk => by
    refine Fc (Es ?_)
    have hl : j = es.length := by have := hr.len; rw [List.length_drop] at this; simp at this; omega
    have hlt : ¬ ((j : Int) < (es.length : Int)) := by omega
    simp only [A3,A6,Bb,Bc,Cr,Bn,B4,C9,Cu,B5,Cs,Ct,Da,Ci,Be,Bo,Bp,A2,A9,Ba,A5,De,B6,Bm,Bh,A8,A4,Bi,Bg,Bf,Bq,Br,B9,Ca,Bv,C0,Cz,C1,A0,A1,C2,Dd,ofOpt,ofOptS,Bw,Dh,Di,Cj,Cl,Bk,Bl,C4,Bj,Df,A7,Bd,Cm,Cn,Co,Cp,Cq,B3,B1,Nat.reduceLT,Nat.reduceAdd,Nat.reduceEqDiff,Aa,Ab,reduceIte,Ac,Ad,Ae,Af,Ag,Ah,Ai,Aj,Ak,Al,Am,Ao,Ap,Aq,Ar,Au,Av,Aw,Option.toList,Ay,Az,Dm,Dj,Dk,Cw,Ce,B0,Bt,Cf,Bz,By,Cc,Cd,Bs,Cv,Dq,Db,Dg,Cx,Cy,Hj,Tryz.f64,B7,B8,Do,Cb,fe5,Gq,h1,h10,h11,h12,hlt]
    exact ⟨_, _, rfl, by simp [T.get_set, h1], by simp [T.get_set], gb, hbn, fun _ _ _ => rfl, hk⟩
  | e :: suf, j, cs, t, S, hr, hj, hd, hcl, hcd, gc, hcn, hbn, gb, h1, h10, h11, h12, hk => by
    refine Fc (Es ?_)
    have hl : j < es.length := by have := hr.len; rw [List.length_drop] at this; simp at this; omega
    have hlt : ((j : Int) < (es.length : Int)) := by omega
    rw [List.drop_eq_getElem_cons hl] at hr hcd
    obtain ⟨fn1, hf1⟩ := nE
    obtain ⟨kind, pos, n, name, off, rfl⟩ := hex
    cases hr with
    | cons _ _ _ _ hr1 hr2 =>
    obtain ⟨ys, hy, hyl⟩ := hr1.agg
    rw [hy] at hr1 hcd
    rw [Ir] at hcd
    have hcd : cs.drop (j * 6) = ys ++ Em (es.drop (j + 1)) := hcd
    have hjc : j * 6 + 6 ≤ cs.length := by omega
    have q1 := idx28b c j es.length hl
    have q2 := ldAt30 gc hcd hyl (by omega)
    have q3 := Rx (Ea S exZ) rfl hyl
    have g3 := E9 (S.newBox exZ) S.next ys
    have k3 : Fg S ((S.newBox exZ).put S.next ys) := E5 (Eb S _) (Nat.le_refl _) _
    generalize hS3 : (S.newBox exZ).put S.next ys = S3 at q3 g3 k3
    have q4 := ld30 g3 hyl
    have gb3 : S3.mem.get b = some (.box (exC kind pos n name off (.bs c 0 es.length 6))) := (k3.2 _ hbn).trans gb
    have q5 := Sx gb3
    have w1 : IntKind.i64.wrap ((j : Int) + 1) = ((j + 1 : Nat) : Int) := Hv (j := 1) (by omega)
    simp only [A3,A6,Bb,Bc,Cr,Bn,B4,C9,Cu,B5,Cs,Ct,Da,Ci,Be,Bo,Bp,A2,A9,Ba,A5,De,B6,Bm,Bh,A8,A4,Bi,Bg,Bf,Bq,Br,B9,Ca,Bv,C0,Cz,C1,A0,A1,C2,Dd,ofOpt,ofOptS,Bw,Dh,Di,Cj,Cl,Bk,Bl,C4,Bj,Df,A7,Bd,Cm,Cn,Co,Cp,Cq,B3,B1,Nat.reduceLT,Nat.reduceAdd,Nat.reduceEqDiff,Aa,Ab,reduceIte,Ac,Ad,Ae,Af,Ag,Ah,Ai,Aj,Ak,Al,Am,Ao,Ap,Aq,Ar,Au,Av,Aw,Option.toList,Ay,Az,Dm,Dj,Dk,Cw,Ce,B0,Bt,Cf,Bz,By,Cc,Cd,Bs,Cv,Dq,Db,Dg,Cx,Cy,Hj,Tryz.f64,B7,B8,Do,Cb,fe5,Gq,h1,h10,h11,h12,hlt,q1,q2,q3,q4,hf1]
    refine K5 [(0, true), (1, true), (2, true), (3, true), (4, true), (1, false), (5, true), (6, true)] (by kernel_rfl) (by kernel_rfl) ?_
    simp only [A3,A6,Bb,Bc,Cr,Bn,B4,C9,Cu,B5,Cs,Ct,Da,Ci,Be,Bo,Bp,A2,A9,Ba,A5,De,B6,Bm,Bh,A8,A4,Bi,Bg,Bf,Bq,Br,B9,Ca,Bv,C0,Cz,C1,A0,A1,C2,Dd,ofOpt,ofOptS,Bw,Dh,Di,Cj,Cl,Bk,Bl,C4,Bj,Df,A7,Bd,Cm,Cn,Co,Cp,Cq,B3,B1,Nat.reduceLT,Nat.reduceAdd,Nat.reduceEqDiff,Aa,Ab,reduceIte,Ac,Ad,Ae,Af,Ag,Ah,Ai,Aj,Ak,Al,Am,Ao,Ap,Aq,Ar,Au,Av,Aw,Option.toList,Ay,Az,Dm,Dj,Dk,Cw,Ce,B0,Bt,Cf,Bz,By,Cc,Cd,Bs,Cv,Dq,Db,Dg,Cx,Cy,Hj,Tryz.f64,B7,B8,Do,Cb,fe5,Gq,h1,h10,h11,h12,hlt,q1,q2,q3,q4,q5,hf1]
    refine WC.mono (hd e (List.mem_cons_self ..) ys hr1 S3 (Nat.le_trans h2 (Nat.le_trans hk.1 k3.1))) ?_
    rintro _ ⟨kv4, S4, rfl, hkv4, k4⟩
    have n4 : S.next ≤ S4.next := Nat.le_trans k3.1 k4.1
    have gb4 : S4.mem.get b = some (.box (exC kind pos n name off (.bs c 0 es.length 6))) := (k4.2 _ (Nat.lt_of_lt_of_le hbn k3.1)).trans gb3
    have gc4 : S4.mem.get c = some (.box cs) := (k4.2 _ (Nat.lt_of_lt_of_le hcn k3.1)).trans ((k3.2 _ hcn).trans gc)
    have q6 := Sx gb4
    have hy4 : (J7 e kv4).length = 6 := by cases e; rfl
    have q7 := stAt30 gc4 hy4 hjc
    generalize hcs' : cs.take (j * 6) ++ J7 e kv4 ++ cs.drop (j * 6 + 6) = cs' at q7
    have hcl' : cs'.length = es.length * 6 := by rw [← hcs']; simp [hy4]; omega
    have hcd' : cs'.drop ((j + 1) * 6) = Em (es.drop (j + 1)) := by
      have e1 : cs.drop (j * 6 + 6) = Em (es.drop (j + 1)) := by
        rw [← List.drop_drop, hcd, ← hyl, List.drop_left]
      rw [← hcs', e1]
      have e2 : (cs.take (j * 6) ++ J7 e kv4).length = (j + 1) * 6 := by simp [hy4]; omega
      rw [← e2, List.drop_left]
    have gc5 : (S4.put c cs').mem.get c = some (.box cs') := E9 _ _ _
    have gb5 : (S4.put c cs').mem.get b = some (.box (exC kind pos n name off (.bs c 0 es.length 6))) := (Fx hbc).trans gb4
    simp only [A3,A6,Bb,Bc,Cr,Bn,B4,C9,Cu,B5,Cs,Ct,Da,Ci,Be,Bo,Bp,A2,A9,Ba,A5,De,B6,Bm,Bh,A8,A4,Bi,Bg,Bf,Bq,Br,B9,Ca,Bv,C0,Cz,C1,A0,A1,C2,Dd,ofOpt,ofOptS,Bw,Dh,Di,Cj,Cl,Bk,Bl,C4,Bj,Df,A7,Bd,Cm,Cn,Co,Cp,Cq,B3,B1,Nat.reduceLT,Nat.reduceAdd,Nat.reduceEqDiff,Aa,Ab,reduceIte,Ac,Ad,Ae,Af,Ag,Ah,Ai,Aj,Ak,Al,Am,Ao,Ap,Aq,Ar,Au,Av,Aw,Option.toList,Ay,Az,Dm,Dj,Dk,Cw,Ce,B0,Bt,Cf,Bz,By,Cc,Cd,Bs,Cv,Dq,Db,Dg,Cx,Cy,Hj,Tryz.f64,B7,B8,Do,Cb,fe5,Gq,h1,h10,h11,h12,hlt,q1,q6,q7,w1]
    refine WX.mono (Xm S0 b _ ⟨_, _, _, _, _, rfl⟩ c es hes hb0 hc0 hbc h2 suf (j + 1) cs' _ (S4.put c cs') hr2 hl (fun e he => hd e (List.mem_cons_of_mem _ he)) hcl' hcd' gc5 (by rw [Lp]; omega) (by rw [Lp]; omega) gb5 (by simp [T.get_set, h1]) (by simp [T.get_set, h10]) (by simp [T.get_set, h11]) (by simp [T.get_set]) ?_) ?_
    · refine ⟨by rw [Lp]; exact Nat.le_trans hk.1 n4, fun id hid => ?_⟩
      exact (Fx (by omega)).trans ((k4.2 _ (Nat.lt_of_lt_of_le hid (Nat.le_trans hk.1 k3.1))).trans ((k3.2 _ (Nat.lt_of_lt_of_le hid hk.1)).trans (hk.2 _ hid)))
    · rintro r ⟨t', S', rfl, a1, a2, a3, a4, a5, a6⟩
      refine ⟨t', S', rfl, a1, by rw [a2]; simp [T.get_set], a3, a4, fun id hid hne => ?_, a6⟩
      exact (a5 id (by rw [Lp]; omega) hne).trans ((Fx hne).trans ((k4.2 _ (Nat.lt_of_lt_of_le hid k3.1)).trans (k3.2 _ hid)))
set_option maxHeartbeats 4000000 in
theorem Xn (t : T AV) (S : St) (h11 : t.get 11 = some (.v (.int .i64 0))) (h12 : t.get 12 = some (.v (.int .i64 0))) : WX E1 25 (.loop Gq) ⟨t, []⟩ S (fun r => ∃ t', r = .out (.exit 0) ⟨t', []⟩ S ∧ t'.get 1 = t.get 1 ∧ t'.get 2 = t.get 2) := by
  refine Fc (Es ?_)
  have hlt : ¬ ((0 : Int) < (0 : Int)) := by omega
  simp only [A3,A6,Bb,Bc,Cr,Bn,B4,C9,Cu,B5,Cs,Ct,Da,Ci,Be,Bo,Bp,A2,A9,Ba,A5,De,B6,Bm,Bh,A8,A4,Bi,Bg,Bf,Bq,Br,B9,Ca,Bv,C0,Cz,C1,A0,A1,C2,Dd,ofOpt,ofOptS,Bw,Dh,Di,Cj,Cl,Bk,Bl,C4,Bj,Df,A7,Bd,Cm,Cn,Co,Cp,Cq,B3,B1,Nat.reduceLT,Nat.reduceAdd,Nat.reduceEqDiff,Aa,Ab,reduceIte,Ac,Ad,Ae,Af,Ag,Ah,Ai,Aj,Ak,Al,Am,Ao,Ap,Aq,Ar,Au,Av,Aw,Option.toList,Ay,Az,Dm,Dj,Dk,Cw,Ce,B0,Bt,Cf,Bz,By,Cc,Cd,Bs,Cv,Dq,Db,Dg,Cx,Cy,Hj,Tryz.f64,B7,B8,Do,Cb,fe5,Gq,h11,h12,hlt]
  exact ⟨_, rfl, by simp [T.get_set], by simp [T.get_set]⟩
set_option maxHeartbeats 16000000 in
theorem copy_w : ∀ {e : PE}, Wide e → pD e := fun {e} hw => by
  induction hw with
  | mk kind pos n name off kids hlen hk ih =>
    intro ys hr S hS
    cases hr with
    | mk _ _ _ _ _ kv _ hkk =>
    refine Ek Tryz.f64 (by kernel_rfl) (by kernel_rfl) (by kernel_rfl) (show (_ : Nat) ≤ _ from by show (_ : Nat) ≤ _; simp [Tryz.f64]) ?_
    obtain ⟨fn1, hf1⟩ := fnOk95
    have g1 : ((S.newBox (exC kind pos n name off kv)).newBox exZ).mem.get S.next = some (.box (exC kind pos n name off kv)) := (Gi (Nat.lt_succ_self _)).trans (Ea S _)
    have g2 : ((S.newBox (exC kind pos n name off kv)).newBox exZ).mem.get (S.next + 1) = some (.box exZ) := Ea _ _
    have k1 : Fg S ((S.newBox (exC kind pos n name off kv)).newBox exZ) := (Eb S _).trans (Eb _ _)
    have n1 : ((S.newBox (exC kind pos n name off kv)).newBox exZ).next = S.next + 2 := rfl
    have e1 : (S.newBox (exC kind pos n name off kv)).next = S.next + 1 := rfl
    generalize hS1 : (S.newBox (exC kind pos n name off kv)).newBox exZ = S1 at g1 g2 k1 n1
    have l1 := Sx g1
    have fin : ∀ (S2 : St) (kv2 : AV), Rt kv2 → S2.mem.get S.next = some (.box (exC kind pos n name off kv2)) → S2.mem.get (S.next + 1) = some (.box exZ) → Fg S S2 → Dw Tryz.prog S2 30 (.ptr S.next 0) = some (.agg (exC kind pos n name off kv2)) ∧ Du Tryz.prog S2 30 (.ptr (S.next + 1) 0) (.agg (exC kind pos n name off kv2)) = some (S2.put (S.next + 1) (exC kind pos n name off kv2)) ∧ Dw Tryz.prog (S2.put (S.next + 1) (exC kind pos n name off kv2)) 30 (.ptr (S.next + 1) 0) = some (.agg (exC kind pos n name off kv2)) ∧ Fg S (S2.put (S.next + 1) (exC kind pos n name off kv2)) := fun S2 kv2 h1 h2 h3 h4 =>
      ⟨ld30 h2 rfl, Rx h3 rfl rfl, ld30 (E9 _ _ _) rfl, E5 h4 (Nat.le_succ _) _⟩
    cases hkk with
    | nil =>
      have q1 := kW (kv' := .nils) g1 (.inl rfl)
      have gb : (S1.put S.next (exC kind pos n name off .nils)).mem.get S.next = some (.box (exC kind pos n name off .nils)) := E9 _ _ _
      have l2 := Sx gb
      obtain ⟨f1, f2, f3, f4⟩ := fin (S1.put S.next (exC kind pos n name off .nils)) .nils (.inl rfl) gb ((Fx (by omega)).trans g2) (E5 k1 (Nat.le_refl _) _)
      simp only [A3,A6,Bb,Bc,Cr,Bn,B4,C9,Cu,B5,Cs,Ct,Da,Ci,Be,Bo,Bp,A2,A9,Ba,A5,De,B6,Bm,Bh,A8,A4,Bi,Bg,Bf,Bq,Br,B9,Ca,Bv,C0,Cz,C1,A0,A1,C2,Dd,ofOpt,ofOptS,Bw,Dh,Di,Cj,Cl,Bk,Bl,C4,Bj,Df,A7,Bd,Cm,Cn,Co,Cp,Cq,B3,B1,Nat.reduceLT,Nat.reduceAdd,Nat.reduceEqDiff,Aa,Ab,reduceIte,Ac,Ad,Ae,Af,Ag,Ah,Ai,Aj,Ak,Al,Am,Ao,Ap,Aq,Ar,Au,Av,Aw,Option.toList,Ay,Az,Dm,Dj,Dk,Cw,Ce,B0,Bt,Cf,Bz,By,Cc,Cd,Bs,Cv,Dq,Db,Dg,Cx,Cy,Hj,Tryz.f64,B7,B8,Do,Cb,fe5,Gq,l1,hf1,hS1,e1]
      refine WC.mono (jW S1) ?_
      rintro _ rfl
      simp only [A3,A6,Bb,Bc,Cr,Bn,B4,C9,Cu,B5,Cs,Ct,Da,Ci,Be,Bo,Bp,A2,A9,Ba,A5,De,B6,Bm,Bh,A8,A4,Bi,Bg,Bf,Bq,Br,B9,Ca,Bv,C0,Cz,C1,A0,A1,C2,Dd,ofOpt,ofOptS,Bw,Dh,Di,Cj,Cl,Bk,Bl,C4,Bj,Df,A7,Bd,Cm,Cn,Co,Cp,Cq,B3,B1,Nat.reduceLT,Nat.reduceAdd,Nat.reduceEqDiff,Aa,Ab,reduceIte,Ac,Ad,Ae,Af,Ag,Ah,Ai,Aj,Ak,Al,Am,Ao,Ap,Aq,Ar,Au,Av,Aw,Option.toList,Ay,Az,Dm,Dj,Dk,Cw,Ce,B0,Bt,Cf,Bz,By,Cc,Cd,Bs,Cv,Dq,Db,Dg,Cx,Cy,Hj,Tryz.f64,B7,B8,Do,Cb,fe5,Gq,q1,l2,dA]
      refine WX.mono (Xn _ _ (by simp [T.get_set]) (by simp [T.get_set])) ?_
      rintro r ⟨t', rfl, a1, a2⟩
      simp only [A0,Nat.reduceEqDiff,Aa,Ab,A1,Aj] at a1 a2
      simp only [A3,A6,Bb,Bc,Cr,Bn,B4,C9,Cu,B5,Cs,Ct,Da,Ci,Be,Bo,Bp,A2,A9,Ba,A5,De,B6,Bm,Bh,A8,A4,Bi,Bg,Bf,Bq,Br,B9,Ca,Bv,C0,Cz,C1,A0,A1,C2,Dd,ofOpt,ofOptS,Bw,Dh,Di,Cj,Cl,Bk,Bl,C4,Bj,Df,A7,Bd,Cm,Cn,Co,Cp,Cq,B3,B1,Nat.reduceLT,Nat.reduceAdd,Nat.reduceEqDiff,Aa,Ab,reduceIte,Ac,Ad,Ae,Af,Ag,Ah,Ai,Aj,Ak,Al,Am,Ao,Ap,Aq,Ar,Au,Av,Aw,Option.toList,Ay,Az,Dm,Dj,Dk,Cw,Ce,B0,Bt,Cf,Bz,By,Cc,Cd,Bs,Cv,Dq,Db,Dg,Cx,Cy,Hj,Tryz.f64,B7,B8,Do,Cb,fe5,Gq,a1,a2,f1,f2,f3]
      exact ⟨_, _, rfl, .inl rfl, f4⟩
    | row tok o es _ hf =>
      have hl := hf.len
      simp only [A3,A6,Bb,Bc,Cr,Bn,B4,C9,Cu,B5,Cs,Ct,Da,Ci,Be,Bo,Bp,A2,A9,Ba,A5,De,B6,Bm,Bh,A8,A4,Bi,Bg,Bf,Bq,Br,B9,Ca,Bv,C0,Cz,C1,A0,A1,C2,Dd,ofOpt,ofOptS,Bw,Dh,Di,Cj,Cl,Bk,Bl,C4,Bj,Df,A7,Bd,Cm,Cn,Co,Cp,Cq,B3,B1,Nat.reduceLT,Nat.reduceAdd,Nat.reduceEqDiff,Aa,Ab,reduceIte,Ac,Ad,Ae,Af,Ag,Ah,Ai,Aj,Ak,Al,Am,Ao,Ap,Aq,Ar,Au,Av,Aw,Option.toList,Ay,Az,Dm,Dj,Dk,Cw,Ce,B0,Bt,Cf,Bz,By,Cc,Cd,Bs,Cv,Dq,Db,Dg,Cx,Cy,Hj,Tryz.f64,B7,B8,Do,Cb,fe5,Gq,l1,hf1,hS1,e1]
      refine WC.mono (jV S1 tok o es (by omega)) ?_
      rintro _ (⟨he, rfl⟩ | ⟨he, rfl⟩)
      · have kc : Rt (.sl 1 0 6 []) := .inr (.inl ⟨_, _, _, rfl⟩)
        have q1 := kW g1 kc
        have gb : (S1.put S.next (exC kind pos n name off (.sl 1 0 6 []))).mem.get S.next = some (.box (exC kind pos n name off (.sl 1 0 6 []))) := E9 _ _ _
        have l2 := Sx gb
        have l3 := mN (S1.put S.next (exC kind pos n name off (.sl 1 0 6 []))) 1 0 []
        obtain ⟨f1, f2, f3, f4⟩ := fin (S1.put S.next (exC kind pos n name off (.sl 1 0 6 []))) _ kc gb ((Fx (by omega)).trans g2) (E5 k1 (Nat.le_refl _) _)
        simp only [A3,A6,Bb,Bc,Cr,Bn,B4,C9,Cu,B5,Cs,Ct,Da,Ci,Be,Bo,Bp,A2,A9,Ba,A5,De,B6,Bm,Bh,A8,A4,Bi,Bg,Bf,Bq,Br,B9,Ca,Bv,C0,Cz,C1,A0,A1,C2,Dd,ofOpt,ofOptS,Bw,Dh,Di,Cj,Cl,Bk,Bl,C4,Bj,Df,A7,Bd,Cm,Cn,Co,Cp,Cq,B3,B1,Nat.reduceLT,Nat.reduceAdd,Nat.reduceEqDiff,Aa,Ab,reduceIte,Ac,Ad,Ae,Af,Ag,Ah,Ai,Aj,Ak,Al,Am,Ao,Ap,Aq,Ar,Au,Av,Aw,Option.toList,Ay,Az,Dm,Dj,Dk,Cw,Ce,B0,Bt,Cf,Bz,By,Cc,Cd,Bs,Cv,Dq,Db,Dg,Cx,Cy,Hj,Tryz.f64,B7,B8,Do,Cb,fe5,Gq,q1,l2,l3]
        refine WX.mono (Xn _ _ (by simp [T.get_set]) (by simp [T.get_set])) ?_
        rintro r ⟨t', rfl, a1, a2⟩
        simp only [A0,Nat.reduceEqDiff,Aa,Ab,A1,Aj] at a1 a2
        simp only [A3,A6,Bb,Bc,Cr,Bn,B4,C9,Cu,B5,Cs,Ct,Da,Ci,Be,Bo,Bp,A2,A9,Ba,A5,De,B6,Bm,Bh,A8,A4,Bi,Bg,Bf,Bq,Br,B9,Ca,Bv,C0,Cz,C1,A0,A1,C2,Dd,ofOpt,ofOptS,Bw,Dh,Di,Cj,Cl,Bk,Bl,C4,Bj,Df,A7,Bd,Cm,Cn,Co,Cp,Cq,B3,B1,Nat.reduceLT,Nat.reduceAdd,Nat.reduceEqDiff,Aa,Ab,reduceIte,Ac,Ad,Ae,Af,Ag,Ah,Ai,Aj,Ak,Al,Am,Ao,Ap,Aq,Ar,Au,Av,Aw,Option.toList,Ay,Az,Dm,Dj,Dk,Cw,Ce,B0,Bt,Cf,Bz,By,Cc,Cd,Bs,Cv,Dq,Db,Dg,Cx,Cy,Hj,Tryz.f64,B7,B8,Do,Cb,fe5,Gq,a1,a2,f1,f2,f3]
        exact ⟨_, _, rfl, kc, f4⟩
      · have kc : Rt (.bs S1.next 0 es.length 6) := .inr (.inr ⟨_, _, _, rfl⟩)
        have g1' : (S1.newBox (Em es)).mem.get S.next = some (.box (exC kind pos n name off (.sl tok o 6 es))) := (Gi (by omega)).trans g1
        have q1 := kW g1' kc
        have gb : ((S1.newBox (Em es)).put S.next (exC kind pos n name off (.bs S1.next 0 es.length 6))).mem.get S.next = some (.box (exC kind pos n name off (.bs S1.next 0 es.length 6))) := E9 _ _ _
        have gc : ((S1.newBox (Em es)).put S.next (exC kind pos n name off (.bs S1.next 0 es.length 6))).mem.get S1.next = some (.box (Em es)) := (Fx (by omega)).trans (Ea _ _)
        have g22 : ((S1.newBox (Em es)).put S.next (exC kind pos n name off (.bs S1.next 0 es.length 6))).mem.get (S.next + 1) = some (.box exZ) := (Fx (by omega)).trans ((Gi (by omega)).trans g2)
        have kk : Fg S ((S1.newBox (Em es)).put S.next (exC kind pos n name off (.bs S1.next 0 es.length 6))) := E5 (k1.trans (Eb _ _)) (Nat.le_refl _) _
        have nn : ((S1.newBox (Em es)).put S.next (exC kind pos n name off (.bs S1.next 0 es.length 6))).next = S1.next + 1 := by rw [Lp]; rfl
        generalize hS2 : (S1.newBox (Em es)).put S.next (exC kind pos n name off (.bs S1.next 0 es.length 6)) = S2 at q1 gb gc g22 kk nn
        have l2 := Sx gb
        have l3 := len28b S2 S1.next es.length
        simp only [A3,A6,Bb,Bc,Cr,Bn,B4,C9,Cu,B5,Cs,Ct,Da,Ci,Be,Bo,Bp,A2,A9,Ba,A5,De,B6,Bm,Bh,A8,A4,Bi,Bg,Bf,Bq,Br,B9,Ca,Bv,C0,Cz,C1,A0,A1,C2,Dd,ofOpt,ofOptS,Bw,Dh,Di,Cj,Cl,Bk,Bl,C4,Bj,Df,A7,Bd,Cm,Cn,Co,Cp,Cq,B3,B1,Nat.reduceLT,Nat.reduceAdd,Nat.reduceEqDiff,Aa,Ab,reduceIte,Ac,Ad,Ae,Af,Ag,Ah,Ai,Aj,Ak,Al,Am,Ao,Ap,Aq,Ar,Au,Av,Aw,Option.toList,Ay,Az,Dm,Dj,Dk,Cw,Ce,B0,Bt,Cf,Bz,By,Cc,Cd,Bs,Cv,Dq,Db,Dg,Cx,Cy,Hj,Tryz.f64,B7,B8,Do,Cb,fe5,Gq,q1,l2,l3]
        refine WX.mono (Xm S S.next (exC kind pos n name off) ⟨_, _, _, _, _, rfl⟩ S1.next es (by omega) (Nat.le_refl _) (by omega) (by omega) hS kids 0 (Em es) _ S2 hf (Nat.zero_le _) ih (jI hf) (by simp) gc (by omega) (by omega) gb (by simp [T.get_set]) (by simp [T.get_set]) (by simp [T.get_set]) (by simp [T.get_set]) kk) ?_
        rintro r ⟨t', S3, rfl, a1, a2, a3, a4, a5, a6⟩
        simp only [A0,Nat.reduceEqDiff,Aa,Ab,A1,Aj] at a2
        obtain ⟨f1, f2, f3, f4⟩ := fin S3 _ kc a3 ((a5 _ (by omega) (by omega)).trans g22) a6
        simp only [A3,A6,Bb,Bc,Cr,Bn,B4,C9,Cu,B5,Cs,Ct,Da,Ci,Be,Bo,Bp,A2,A9,Ba,A5,De,B6,Bm,Bh,A8,A4,Bi,Bg,Bf,Bq,Br,B9,Ca,Bv,C0,Cz,C1,A0,A1,C2,Dd,ofOpt,ofOptS,Bw,Dh,Di,Cj,Cl,Bk,Bl,C4,Bj,Df,A7,Bd,Cm,Cn,Co,Cp,Cq,B3,B1,Nat.reduceLT,Nat.reduceAdd,Nat.reduceEqDiff,Aa,Ab,reduceIte,Ac,Ad,Ae,Af,Ag,Ah,Ai,Aj,Ak,Al,Am,Ao,Ap,Aq,Ar,Au,Av,Aw,Option.toList,Ay,Az,Dm,Dj,Dk,Cw,Ce,B0,Bt,Cf,Bz,By,Cc,Cd,Bs,Cv,Dq,Db,Dg,Cx,Cy,Hj,Tryz.f64,B7,B8,Do,Cb,fe5,Gq,a1,a2,f1,f2,f3]
        exact ⟨_, _, rfl, kc, f4⟩
end Go.Ax
