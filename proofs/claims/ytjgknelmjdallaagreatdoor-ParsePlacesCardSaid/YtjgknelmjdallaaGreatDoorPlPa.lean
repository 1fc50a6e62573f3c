/-
  A parser's cursor: reasoned over.
-/
import Derived.Test.YtjgknelmjdallaaGreatDoorPlLf
noncomputable section
namespace Go.Ax
open Go.RowKit Go.Proofs
set_option linter.unusedVariables false
set_option linter.unusedSimpArgs false
set_option maxRecDepth 100000

/-- A cursor stands at a token. -/
def Cur (S : St) (p k : Nat) (ts : List Tk) (i : Nat) : Prop := S.mem.get p = some (.box [.sl k 0 4 (ts.map Fm), Dy i])
theorem Gi {S : St} {cs : List AV} {id : Nat} (h : id < S.next) : (S.newBox cs).mem.get id = S.mem.get id := by
  show (S.mem.set S.next _).get id = _
  rw [T.get_set, if_neg (by omega)]
theorem Fx {S : St} {b id : Nat} {cs : List AV} (h : id ≠ b) : (S.put b cs).mem.get id = S.mem.get id := by
  show (S.mem.set b _).get id = _
  rw [T.get_set, if_neg h]
theorem Cur.keep {S S' : St} {p k i : Nat} {ts : List Tk} (h : Cur S p k ts i) (hp : p < S.next) (hk : Fg S S') : Cur S' p k ts i := (hk.2 p hp).trans h
theorem s144 : ∀ p, Dt Tryz.prog 144 (.ptr p 0) 0 = some (.ptr p 0) ∧ Dt Tryz.prog 144 (.ptr p 0) 1 = some (.ptr p 1) := fun p => ⟨by kernel_rfl, by kernel_rfl⟩
theorem fc0 (p : Nat) : Dt Tryz.prog 144 (.ptr p 0) 0 = some (.ptr p 0) := (s144 p).1
theorem fc1 (p : Nat) : Dt Tryz.prog 144 (.ptr p 0) 1 = some (.ptr p 1) := (s144 p).2
theorem fp0 (p : Nat) : Dt Tryz.prog 146 (.ptr p 0) 0 = some (.ptr p 0) := by kernel_rfl
theorem a63 : Fv Tryz.prog 63 = some false := by kernel_rfl
theorem a3 : Fv Tryz.prog 3 = some false := by kernel_rfl
theorem s3 : Fj Tryz.prog 3 = some 1 := by kernel_rfl
theorem Cur.ld0 {S : St} {p k i : Nat} {ts : List Tk} (h : Cur S p k ts i) : Dw Tryz.prog S 63 (.ptr p 0) = some (.sl k 0 4 (ts.map Fm)) := by
  unfold Cur at h
  simp [Dw, D6, h, a63]
theorem Cur.ld1 {S : St} {p k i : Nat} {ts : List Tk} (h : Cur S p k ts i) : Dw Tryz.prog S 3 (.ptr p 1) = some (Dy i) := by
  unfold Cur at h
  simp [Dw, D6, h, a3]
theorem fM (k : Nat) (ts : List Tk) (i : Nat) (h : i < ts.length) : Ff Tryz.prog 63 (.sl k 0 4 (ts.map Fm)) (.v (.int .i64 (i : Int))) = some (.ep (Dz ts[i])) := by
  have h0 : (0 : Int) ≤ (i : Int) := by omega
  simp [Ff, h0, e63, s68, h, Fm, AV.cells]
theorem ldEp68 (S : St) (t : Tk) : Dw Tryz.prog S 68 (.ep (Dz t)) = some (Fm t) := by
  simp [Dw, D6, a68, s68, Dz, Fm]
theorem fld68 (t : Tk) : Kx Tryz.prog 68 (Fm t) 0 = some (Dy t.kind) ∧ Kx Tryz.prog 68 (Fm t) 1 = some (Dy t.pos) ∧ Kx Tryz.prog 68 (Fm t) 2 = some (D5 t.text) ∧ Kx Tryz.prog 68 (Fm t) 3 = some (N8 t.num) := ⟨by kernel_rfl, by kernel_rfl, by kernel_rfl, by kernel_rfl⟩
theorem Eh (t : Tk) : Kx Tryz.prog 68 (Fm t) 0 = some (Dy t.kind) := (fld68 t).1
theorem Jo (t : Tk) : Kx Tryz.prog 68 (Fm t) 2 = some (D5 t.text) := (fld68 t).2.2.1
/-- A store into a box of a token, and what is D6 it. -/
theorem O6 (S0 S : St) (t t' : Tk) (b : Nat) (h : S.mem.get b = some (.box (Dz t))) : Du Tryz.prog S 68 (.ptr b 0) (Fm t') = some (S.put b (Dz t')) := kQ h rfl rfl
set_option maxHeartbeats 4000000 in
theorem Qs (S : St) (p k : Nat) (ts : List Tk) (i : Nat) (h : Cur S p k ts i) (hp : p < S.next) (hi : i < ts.length) : WC E1 113 [.ptr p 0] S (fun r => ∃ S', r = .ret (Fm ts[i]) S' ∧ Fg S S') := by
  refine Ek Tryz.f113 (by kernel_rfl) (by kernel_rfl) (by kernel_rfl) (show (_ : Nat) ≤ _ from by show (_ : Nat) ≤ _; simp [Tryz.f113]) ?_
  have h1 : Cur (S.newBox (Dz Dx)) p k ts i := (Gi hp).trans h
  have q0 := h1.ld0
  have q1 := h1.ld1
  have q2 := fM k ts i hi
  have q3 : Du Tryz.prog (S.newBox (Dz Dx)) 68 (.ptr S.next 0) (Fm ts[i]) = some ((S.newBox (Dz Dx)).put S.next (Dz ts[i])) := Kg S (Dz Dx) (Dz ts[i]) rfl rfl
  have q4 : Dw Tryz.prog ((S.newBox (Dz Dx)).put S.next (Dz ts[i])) 68 (.ptr S.next 0) = some (Fm ts[i]) := G1 _ _ _ rfl
  simp only [A3,A6,Bb,Bc,Cr,Bn,B4,C9,Cu,B5,Cs,Ct,Da,Bu,Be,Bo,Bp,A2,A9,Ba,A5,Dc,B6,Bm,Bh,A8,A4,Bi,Bg,Bf,Bq,Br,B9,Ca,Bv,C0,Cz,C1,A0,A1,C2,Dd,ofOpt,ofOptS,Bw,Dh,Di,Cj,Cl,Bk,Bl,C4,Bj,Df,A7,Bd,Cm,Cn,Co,Cp,Cq,B3,B1,Nat.reduceLT,Nat.reduceAdd,Nat.reduceEqDiff,Aa,Ab,reduceIte,Ac,Ad,Ae,Af,Ag,Ah,Ai,Aj,Ak,Al,Am,Ao,Ap,Aq,Ar,Au,Av,Aw,Option.toList,Ay,Az,Tryz.f113,Dp]
  refine K5 [(0, true), (1, true), (2, true), (3, true), (4, true), (5, true), (6, true), (7, true), (8, true), (9, true), (10, true)] (by kernel_rfl) (by kernel_rfl) ?_
  unfold Dy at q1
  simp only [A3,A6,Bb,Bc,Cr,Bn,B4,C9,Cu,B5,Cs,Ct,Da,Bu,Be,Bo,Bp,A2,A9,Ba,A5,Dc,B6,Bm,Bh,A8,A4,Bi,Bg,Bf,Bq,Br,B9,Ca,Bv,C0,Cz,C1,A0,A1,C2,Dd,ofOpt,ofOptS,Bw,Dh,Di,Cj,Cl,Bk,Bl,C4,Bj,Df,A7,Bd,Cm,Cn,Co,Cp,Cq,B3,B1,Nat.reduceLT,Nat.reduceAdd,Nat.reduceEqDiff,Aa,Ab,reduceIte,Ac,Ad,Ae,Af,Ag,Ah,Ai,Aj,Ak,Al,Am,Ao,Ap,Aq,Ar,Au,Av,Aw,Option.toList,Ay,Az,Dl,Dj,Cw,Ce,B0,Bt,Cf,Bz,By,Cc,Cd,Bs,Cv,Dq,fc0,fc1,q0,q1,q2,q3,q4,ldEp68]
  exact ⟨_, rfl, E5 (Eb S _) (Nat.le_refl _) _⟩
theorem Ld : ∃ fn, E1.F 113 = some fn := Option.isSome_iff_exists.1 (by kernel_rfl)
theorem Oq : ∃ fn, E1.F 91 = some fn := Option.isSome_iff_exists.1 (by kernel_rfl)
theorem Y4 : ∃ fn, E1.F 115 = some fn := Option.isSome_iff_exists.1 (by kernel_rfl)
theorem Y5 : ∃ fn, E1.F 114 = some fn := Option.isSome_iff_exists.1 (by kernel_rfl)
/-- A row of words. -/
def wsA (tok off : Nat) (ws : List (List UInt8)) : AV := .sl tok off 1 (ws.map D5)
set_option maxHeartbeats 4000000 in
theorem Ll (S : St) (p k : Nat) (ts : List Tk) (i : Nat) (h : Cur S p k ts i) (hp : p < S.next) (hi : i < ts.length) (tok off : Nat) (ws : List (List UInt8)) (hw : ws.length ≤ 1000) : WC E1 91 [.ptr p 0, wsA tok off ws] S (fun r => ∃ S', r = .ret (.v (.bool (decide (ts[i].text ∈ ws)))) S' ∧ Fg S S') := by
  refine Ek Tryz.f91 (by kernel_rfl) (by kernel_rfl) (by kernel_rfl) (show (_ : Nat) ≤ _ from by show (_ : Nat) ≤ _; simp [Tryz.f91]) ?_
  obtain ⟨fn1, hf1⟩ := Ld
  obtain ⟨fn2, hf2⟩ := fZ
  simp only [A3,A6,Bb,Bc,Cr,Bn,B4,C9,Cu,B5,Cs,Ct,Da,Bu,Be,Bo,Bp,A2,A9,Ba,A5,Dc,B6,Bm,Bh,A8,A4,Bi,Bg,Bf,Bq,Br,B9,Ca,Bv,C0,Cz,C1,A0,A1,C2,Dd,ofOpt,ofOptS,Bw,Dh,Di,Cj,Cl,Bk,Bl,C4,Bj,Df,A7,Bd,Cm,Cn,Co,Cp,Cq,B3,B1,Nat.reduceLT,Nat.reduceAdd,Nat.reduceEqDiff,Aa,Ab,reduceIte,Ac,Ad,Ae,Af,Ag,Ah,Ai,Aj,Ak,Al,Am,Ao,Ap,Aq,Ar,Au,Av,Aw,Option.toList,Ay,Az,Tryz.f91,hf1]
  refine WC.mono (Qs S p k ts i h hp hi) ?_
  rintro _ ⟨S2, rfl, hk⟩
  simp only [A3,A6,Bb,Bc,Cr,Bn,B4,C9,Cu,B5,Cs,Ct,Da,Bu,Be,Bo,Bp,A2,A9,Ba,A5,Dc,B6,Bm,Bh,A8,A4,Bi,Bg,Bf,Bq,Br,B9,Ca,Bv,C0,Cz,C1,A0,A1,C2,Dd,ofOpt,ofOptS,Bw,Dh,Di,Cj,Cl,Bk,Bl,C4,Bj,Df,A7,Bd,Cm,Cn,Co,Cp,Cq,B3,B1,Nat.reduceLT,Nat.reduceAdd,Nat.reduceEqDiff,Aa,Ab,reduceIte,Ac,Ad,Ae,Af,Ag,Ah,Ai,Aj,Ak,Al,Am,Ao,Ap,Aq,Ar,Au,Av,Aw,Option.toList,Ay,Az,Tryz.f91,Jo,hf2]
  refine WC.mono (P7 tok off ws ts[i].text (by omega) S2) ?_
  rintro _ rfl
  simp only [A3,A6,Bb,Bc,Cr,Bn,B4,C9,Cu,B5,Cs,Ct,Da,Bu,Be,Bo,Bp,A2,A9,Ba,A5,Dc,B6,Bm,Bh,A8,A4,Bi,Bg,Bf,Bq,Br,B9,Ca,Bv,C0,Cz,C1,A0,A1,C2,Dd,ofOpt,ofOptS,Bw,Dh,Di,Cj,Cl,Bk,Bl,C4,Bj,Df,A7,Bd,Cm,Cn,Co,Cp,Cq,B3,B1,Nat.reduceLT,Nat.reduceAdd,Nat.reduceEqDiff,Aa,Ab,reduceIte,Ac,Ad,Ae,Af,Ag,Ah,Ai,Aj,Ak,Al,Am,Ao,Ap,Aq,Ar,Au,Av,Aw,Option.toList,Ay,Az,Tryz.f91]
  exact ⟨_, rfl, hk⟩
/-- Nothing but the cursor has changed. -/
def El (p : Nat) (S S' : St) : Prop := S.next ≤ S'.next ∧ ∀ id, id < S.next → id ≠ p → S'.mem.get id = S.mem.get id
theorem Fg.x {S S' : St} (h : Fg S S') (p : Nat) : El p S S' := ⟨h.1, fun id hid _ => h.2 id hid⟩
theorem El.trans {p : Nat} {S S1 S2 : St} (h : El p S S1) (k : El p S1 S2) : El p S S2 := ⟨Nat.le_trans h.1 k.1, fun id hid hn => (k.2 id (Nat.lt_of_lt_of_le hid h.1) hn).trans (h.2 id hid hn)⟩
theorem fc68 (b : Nat) : Dt Tryz.prog 68 (.ptr b 0) 0 = some (.ptr b 0) ∧ Dt Tryz.prog 68 (.ptr b 0) 1 = some (.ptr b 1) ∧ Dt Tryz.prog 68 (.ptr b 0) 3 = some (.ptr b 3) := ⟨by kernel_rfl, by kernel_rfl, by kernel_rfl⟩
theorem st3cur {S : St} {p k i : Nat} {ts : List Tk} (h : Cur S p k ts i) (j : Nat) : Du Tryz.prog S 3 (.ptr p 1) (.v (.int .i64 (j : Int))) = some (S.put p [.sl k 0 4 (ts.map Fm), Dy j]) := by
  unfold Cur at h
  have h2 : (AV.v (.int .i64 (j : Int))).noTup = true := rfl
  simp [Du, h, s3, h2, AV.cells, St.put, Dy]
set_option maxHeartbeats 4000000 in
theorem cJ (S : St) (p k : Nat) (ts : List Tk) (i : Nat) (h : Cur S p k ts i) (hp : p < S.next) (hi : i < ts.length) (hl : ts.length ≤ 1000000) : WC E1 115 [.ptr p 0] S (fun r => ∃ S', r = .ret (Fm ts[i]) S' ∧ El p S S' ∧ Cur S' p k ts (i + 1)) := by
  refine Ek Tryz.f115 (by kernel_rfl) (by kernel_rfl) (by kernel_rfl) (show (_ : Nat) ≤ _ from by show (_ : Nat) ≤ _; simp [Tryz.f115]) ?_
  obtain ⟨fn1, hf1⟩ := Ld
  have h1 : Cur (S.newBox (Dz Dx)) p k ts i := (Gi hp).trans h
  simp only [A3,A6,Bb,Bc,Cr,Bn,B4,C9,Cu,B5,Cs,Ct,Da,Bu,Be,Bo,Bp,A2,A9,Ba,A5,Dc,B6,Bm,Bh,A8,A4,Bi,Bg,Bf,Bq,Br,B9,Ca,Bv,C0,Cz,C1,A0,A1,C2,Dd,ofOpt,ofOptS,Bw,Dh,Di,Cj,Cl,Bk,Bl,C4,Bj,Df,A7,Bd,Cm,Cn,Co,Cp,Cq,B3,B1,Nat.reduceLT,Nat.reduceAdd,Nat.reduceEqDiff,Aa,Ab,reduceIte,Ac,Ad,Ae,Af,Ag,Ah,Ai,Aj,Ak,Al,Am,Ao,Ap,Aq,Ar,Au,Av,Aw,Option.toList,Ay,Az,Tryz.f115,Dp,hf1]
  refine WC.mono (Qs _ p k ts i h1 (Nat.lt_succ_of_lt hp) hi) ?_
  rintro _ ⟨S2, rfl, hk⟩
  have hn2 : S.next < S2.next := hk.1
  have h2 : Cur S2 p k ts i := h1.keep (Nat.lt_succ_of_lt hp) hk
  have g2 : S2.mem.get S.next = some (.box (Dz Dx)) := (hk.2 _ (Nat.lt_succ_self _)).trans (Ea S _)
  have q1 : Du Tryz.prog (S2.newBox (Dz Dx)) 68 (.ptr S2.next 0) (Fm ts[i]) = some ((S2.newBox (Dz Dx)).put S2.next (Dz ts[i])) := Kg S2 (Dz Dx) (Dz ts[i]) rfl rfl
  have k3 : Fg S2 ((S2.newBox (Dz Dx)).put S2.next (Dz ts[i])) := E5 (Eb S2 _) (Nat.le_refl _) _
  have g3 := E9 (S2.newBox (Dz Dx)) S2.next (Dz ts[i])
  generalize hS3 : (S2.newBox (Dz Dx)).put S2.next (Dz ts[i]) = S3 at q1 k3 g3
  have h3 : Cur S3 p k ts i := h2.keep (by omega) k3
  have q2 := h3.ld1
  have q3 := st3cur h3 (i + 1)
  have hw := Mf (i := i) (by omega)
  have g4 : (S3.put p [.sl k 0 4 (ts.map Fm), Dy (i + 1)]).mem.get S2.next = some (.box (Dz ts[i])) := (Fx (by omega)).trans g3
  have g5 : (S3.put p [.sl k 0 4 (ts.map Fm), Dy (i + 1)]).mem.get S.next = some (.box (Dz Dx)) := (Fx (by omega)).trans ((k3.2 _ hn2).trans g2)
  have q4 := Qz g4
  have q5 : Du Tryz.prog _ 68 (.ptr S.next 0) (Fm ts[i]) = some _ := O6 S _ Dx ts[i] S.next g5
  have q6 : Dw Tryz.prog ((S3.put p [.sl k 0 4 (ts.map Fm), Dy (i + 1)]).put S.next (Dz ts[i])) 68 (.ptr S.next 0) = some (Fm ts[i]) := G1 _ _ _ rfl
  unfold Dy at q2 q3 q4 q5 q6
  simp only [A3,A6,Bb,Bc,Cr,Bn,B4,C9,Cu,B5,Cs,Ct,Da,Bu,Be,Bo,Bp,A2,A9,Ba,A5,Dc,B6,Bm,Bh,A8,A4,Bi,Bg,Bf,Bq,Br,B9,Ca,Bv,C0,Cz,C1,A0,A1,C2,Dd,ofOpt,ofOptS,Bw,Dh,Di,Cj,Cl,Bk,Bl,C4,Bj,Df,A7,Bd,Cm,Cn,Co,Cp,Cq,B3,B1,Nat.reduceLT,Nat.reduceAdd,Nat.reduceEqDiff,Aa,Ab,reduceIte,Ac,Ad,Ae,Af,Ag,Ah,Ai,Aj,Ak,Al,Am,Ao,Ap,Aq,Ar,Au,Av,Aw,Option.toList,Ay,Az,Tryz.f115,Dp,q1,fc1,q2,hw,q3,q4,q5,q6]
  refine ⟨_, rfl, ⟨?_, fun id hid hne => ?_⟩, ?_⟩
  · have := hk.1; have := k3.1; show S.next ≤ S3.next; omega
  · rw [Fx (by omega), Fx hne, k3.2 id (by omega), hk.2 id (Nat.lt_succ_of_lt hid), Gi hid]
  · exact (Fx (by omega)).trans (E9 _ _ _)
def Hx (t : Tk) : Nat := if t.kind = 5 then 2 else 1
/-- A fault, as what a panic bears. -/
def Q3 (a e : Nat) : AV := .iface 33 (.agg (Eo a e))
theorem fG (a e : Nat) : Mc Tryz.prog 33 (.agg [.v (.int .i64 (a : Int)), .v (.int .i64 (e : Int))]) = some (.iface 33 (.agg [.v (.int .i64 (a : Int)), .v (.int .i64 (e : Int))])) := by kernel_rfl
theorem ld3k {S : St} {id : Nat} {t : Tk} (h : S.mem.get id = some (.box (Dz t))) : Dw Tryz.prog S 3 (.ptr id 0) = some (Dy t.kind) ∧ Dw Tryz.prog S 3 (.ptr id 1) = some (Dy t.pos) := by
  constructor <;> simp [Dw, D6, h, a3, Dz]
set_option maxHeartbeats 4000000 in
theorem Ul (S : St) (p k : Nat) (ts : List Tk) (i : Nat) (h : Cur S p k ts i) (hp : p < S.next) (hi : i < ts.length) : WC E1 114 [.ptr p 0] S (fun r => ∃ S', r = .pan (Q3 ts[i].pos (Hx ts[i])) S' ∧ Fg S S') := by
  refine Ek Tryz.f114 (by kernel_rfl) (by kernel_rfl) (by kernel_rfl) (show (_ : Nat) ≤ _ from by show (_ : Nat) ≤ _; simp [Tryz.f114]) ?_
  obtain ⟨fn1, hf1⟩ := Ld
  simp only [A3,A6,Bb,Bc,Cr,Bn,B4,C9,Cu,B5,Cs,Ct,Da,Bu,Be,Bo,Bp,A2,A9,Ba,A5,Dc,B6,Bm,Bh,A8,A4,Bi,Bg,Bf,Bq,Br,B9,Ca,Bv,C0,Cz,C1,A0,A1,C2,Dd,ofOpt,ofOptS,Bw,Dh,Di,Cj,Cl,Bk,Bl,C4,Bj,Df,A7,Bd,Cm,Cn,Co,Cp,Cq,B3,B1,Nat.reduceLT,Nat.reduceAdd,Nat.reduceEqDiff,Aa,Ab,reduceIte,Ac,Ad,Ae,Af,Ag,Ah,Ai,Aj,Ak,Al,Am,Ao,Ap,Aq,Ar,Au,Av,Aw,Option.toList,Ay,Az,Tryz.f114,Dp,hf1]
  refine WC.mono (Qs _ p k ts i h hp hi) ?_
  rintro _ ⟨S2, rfl, hk⟩
  have q1 : Du Tryz.prog (S2.newBox (Dz Dx)) 68 (.ptr S2.next 0) (Fm ts[i]) = some ((S2.newBox (Dz Dx)).put S2.next (Dz ts[i])) := Kg S2 (Dz Dx) (Dz ts[i]) rfl rfl
  have k3 : Fg S2 ((S2.newBox (Dz Dx)).put S2.next (Dz ts[i])) := E5 (Eb S2 _) (Nat.le_refl _) _
  obtain ⟨q2, q3⟩ := ld3k (E9 (S2.newBox (Dz Dx)) S2.next (Dz ts[i]))
  have f0 := (fc68 S2.next).1
  have f1 := (fc68 S2.next).2.1
  unfold Dy at q2 q3
  by_cases h5 : ts[i].kind = 5
  · have e : Hx ts[i] = 2 := by unfold Hx; rw [if_pos h5]
    have n5 : (((ts[i].kind : Nat) : Int) == 5) = true := by rw [h5]; rfl
    have m := fG ts[i].pos 2
    simp only [A3,A6,Bb,Bc,Cr,Bn,B4,C9,Cu,B5,Cs,Ct,Da,Bu,Be,Bo,Bp,A2,A9,Ba,A5,Dc,B6,Bm,Bh,A8,A4,Bi,Bg,Bf,Bq,Br,B9,Ca,Bv,C0,Cz,C1,A0,A1,C2,Dd,ofOpt,ofOptS,Bw,Dh,Di,Cj,Cl,Bk,Bl,C4,Bj,Df,A7,Bd,Cm,Cn,Co,Cp,Cq,B3,B1,Nat.reduceLT,Nat.reduceAdd,Nat.reduceEqDiff,Aa,Ab,reduceIte,Ac,Ad,Ae,Af,Ag,Ah,Ai,Aj,Ak,Al,Am,Ao,Ap,Aq,Ar,Au,Av,Aw,Option.toList,Ay,Az,Tryz.f114,Dp,hf1,q1,f0,q2,n5,f1,q3,Xw]
    have m : Mc Tryz.prog 33 (.agg [.v (.int .i64 (ts[i].pos : Int)), .v (.int .i64 2)]) = some (.iface 33 (.agg [.v (.int .i64 (ts[i].pos : Int)), .v (.int .i64 2)])) := m
    simp only [A3,A6,Bb,Bc,Cr,Bn,B4,C9,Cu,B5,Cs,Ct,Da,Bu,Be,Bo,Bp,A2,A9,Ba,A5,Dc,B6,Bm,Bh,A8,A4,Bi,Bg,Bf,Bq,Br,B9,Ca,Bv,C0,Cz,C1,A0,A1,C2,Dd,ofOpt,ofOptS,Bw,Dh,Di,Cj,Cl,Bk,Bl,C4,Bj,Df,A7,Bd,Cm,Cn,Co,Cp,Cq,B3,B1,Nat.reduceLT,Nat.reduceAdd,Nat.reduceEqDiff,Aa,Ab,reduceIte,Ac,Ad,Ae,Af,Ag,Ah,Ai,Aj,Ak,Al,Am,Ao,Ap,Aq,Ar,Au,Av,Aw,Option.toList,Ay,Az,Tryz.f114,m]
    rw [e]
    exact ⟨_, rfl, hk.trans k3⟩
  · have e : Hx ts[i] = 1 := by unfold Hx; rw [if_neg h5]
    have n5 : (((ts[i].kind : Nat) : Int) == 5) = false := by rw [beq_eq_false_iff_ne]; omega
    have m : Mc Tryz.prog 33 (.agg [.v (.int .i64 (ts[i].pos : Int)), .v (.int .i64 1)]) = some (.iface 33 (.agg [.v (.int .i64 (ts[i].pos : Int)), .v (.int .i64 1)])) := fG ts[i].pos 1
    simp only [A3,A6,Bb,Bc,Cr,Bn,B4,C9,Cu,B5,Cs,Ct,Da,Bu,Be,Bo,Bp,A2,A9,Ba,A5,Dc,B6,Bm,Bh,A8,A4,Bi,Bg,Bf,Bq,Br,B9,Ca,Bv,C0,Cz,C1,A0,A1,C2,Dd,ofOpt,ofOptS,Bw,Dh,Di,Cj,Cl,Bk,Bl,C4,Bj,Df,A7,Bd,Cm,Cn,Co,Cp,Cq,B3,B1,Nat.reduceLT,Nat.reduceAdd,Nat.reduceEqDiff,Aa,Ab,reduceIte,Ac,Ad,Ae,Af,Ag,Ah,Ai,Aj,Ak,Al,Am,Ao,Ap,Aq,Ar,Au,Av,Aw,Option.toList,Ay,Az,Tryz.f114,Dp,hf1,q1,f0,q2,n5,f1,q3,Xw,m]
    rw [e]
    exact ⟨_, rfl, hk.trans k3⟩
set_option maxHeartbeats 4000000 in
theorem Zq (S : St) (p k : Nat) (ts : List Tk) (i : Nat) (h : Cur S p k ts i) (hp : p < S.next) (hi : i < ts.length) (hl : ts.length ≤ 1000000) (tok off : Nat) (ws : List (List UInt8)) (hw : ws.length ≤ 1000) (hm : ts[i].text ∈ ws) : WC E1 79 [.ptr p 0, wsA tok off ws] S (fun r => ∃ S', r = .ret (.tup [Fm ts[i], .v (.bool true)]) S' ∧ El p S S' ∧ Cur S' p k ts (i + 1)) := by
  refine Ek Tryz.f79 (by kernel_rfl) (by kernel_rfl) (by kernel_rfl) (show (_ : Nat) ≤ _ from by show (_ : Nat) ≤ _; simp [Tryz.f79]) ?_
  obtain ⟨fn1, hf1⟩ := Oq
  obtain ⟨fn2, hf2⟩ := Y4
  have h1 : Cur (S.newBox (Dz Dx)) p k ts i := (Gi hp).trans h
  simp only [A3,A6,Bb,Bc,Cr,Bn,B4,C9,Cu,B5,Cs,Ct,Da,Bu,Be,Bo,Bp,A2,A9,Ba,A5,Dc,B6,Bm,Bh,A8,A4,Bi,Bg,Bf,Bq,Br,B9,Ca,Bv,C0,Cz,C1,A0,A1,C2,Dd,ofOpt,ofOptS,Bw,Dh,Di,Cj,Cl,Bk,Bl,C4,Bj,Df,A7,Bd,Cm,Cn,Co,Cp,Cq,B3,B1,Nat.reduceLT,Nat.reduceAdd,Nat.reduceEqDiff,Aa,Ab,reduceIte,Ac,Ad,Ae,Af,Ag,Ah,Ai,Aj,Ak,Al,Am,Ao,Ap,Aq,Ar,Au,Av,Aw,Option.toList,Ay,Az,Tryz.f79,Dp,hf1]
  refine WC.mono (Ll _ p k ts i h1 (Nat.lt_succ_of_lt hp) hi tok off ws hw) ?_
  rintro _ ⟨S2, rfl, hk⟩
  rw [decide_eq_true hm]
  simp only [A3,A6,Bb,Bc,Cr,Bn,B4,C9,Cu,B5,Cs,Ct,Da,Bu,Be,Bo,Bp,A2,A9,Ba,A5,Dc,B6,Bm,Bh,A8,A4,Bi,Bg,Bf,Bq,Br,B9,Ca,Bv,C0,Cz,C1,A0,A1,C2,Dd,ofOpt,ofOptS,Bw,Dh,Di,Cj,Cl,Bk,Bl,C4,Bj,Df,A7,Bd,Cm,Cn,Co,Cp,Cq,B3,B1,Nat.reduceLT,Nat.reduceAdd,Nat.reduceEqDiff,Aa,Ab,reduceIte,Ac,Ad,Ae,Af,Ag,Ah,Ai,Aj,Ak,Al,Am,Ao,Ap,Aq,Ar,Au,Av,Aw,Option.toList,Ay,Az,Tryz.f79,hf2]
  refine WC.mono (cJ S2 p k ts i (h1.keep (Nat.lt_succ_of_lt hp) hk) (Nat.lt_of_lt_of_le (Nat.lt_succ_of_lt hp) hk.1) hi hl) ?_
  rintro _ ⟨S3, rfl, hx, hc⟩
  have hn2 : S.next < S2.next := hk.1
  have g3 : S3.mem.get S.next = some (.box (Dz Dx)) := (hx.2 _ hn2 (by omega)).trans ((hk.2 _ (Nat.lt_succ_self _)).trans (Ea S _))
  have q1 := O6 S S3 Dx ts[i] S.next g3
  have q2 : Dw Tryz.prog (S3.put S.next (Dz ts[i])) 68 (.ptr S.next 0) = some (Fm ts[i]) := G1 _ _ _ rfl
  simp only [A3,A6,Bb,Bc,Cr,Bn,B4,C9,Cu,B5,Cs,Ct,Da,Bu,Be,Bo,Bp,A2,A9,Ba,A5,Dc,B6,Bm,Bh,A8,A4,Bi,Bg,Bf,Bq,Br,B9,Ca,Bv,C0,Cz,C1,A0,A1,C2,Dd,ofOpt,ofOptS,Bw,Dh,Di,Cj,Cl,Bk,Bl,C4,Bj,Df,A7,Bd,Cm,Cn,Co,Cp,Cq,B3,B1,Nat.reduceLT,Nat.reduceAdd,Nat.reduceEqDiff,Aa,Ab,reduceIte,Ac,Ad,Ae,Af,Ag,Ah,Ai,Aj,Ak,Al,Am,Ao,Ap,Aq,Ar,Au,Av,Aw,Option.toList,Ay,Az,Tryz.f79,q1,q2]
  refine ⟨_, rfl, ⟨?_, fun id hid hne => ?_⟩, ?_⟩
  · have := hx.1; show S.next ≤ S3.next; omega
  · rw [Fx (by omega), hx.2 id (by omega) hne, hk.2 id (Nat.lt_succ_of_lt hid), Gi hid]
  · exact (Fx (by omega)).trans hc
set_option maxHeartbeats 4000000 in
theorem eL (S : St) (p k : Nat) (ts : List Tk) (i : Nat) (h : Cur S p k ts i) (hp : p < S.next) (hi : i < ts.length) (tok off : Nat) (ws : List (List UInt8)) (hw : ws.length ≤ 1000) (hm : ts[i].text ∉ ws) : WC E1 79 [.ptr p 0, wsA tok off ws] S (fun r => ∃ S', r = .ret (.tup [Fm Dx, .v (.bool false)]) S' ∧ Fg S S') := by
  refine Ek Tryz.f79 (by kernel_rfl) (by kernel_rfl) (by kernel_rfl) (show (_ : Nat) ≤ _ from by show (_ : Nat) ≤ _; simp [Tryz.f79]) ?_
  obtain ⟨fn1, hf1⟩ := Oq
  have h1 : Cur (S.newBox (Dz Dx)) p k ts i := (Gi hp).trans h
  simp only [A3,A6,Bb,Bc,Cr,Bn,B4,C9,Cu,B5,Cs,Ct,Da,Bu,Be,Bo,Bp,A2,A9,Ba,A5,Dc,B6,Bm,Bh,A8,A4,Bi,Bg,Bf,Bq,Br,B9,Ca,Bv,C0,Cz,C1,A0,A1,C2,Dd,ofOpt,ofOptS,Bw,Dh,Di,Cj,Cl,Bk,Bl,C4,Bj,Df,A7,Bd,Cm,Cn,Co,Cp,Cq,B3,B1,Nat.reduceLT,Nat.reduceAdd,Nat.reduceEqDiff,Aa,Ab,reduceIte,Ac,Ad,Ae,Af,Ag,Ah,Ai,Aj,Ak,Al,Am,Ao,Ap,Aq,Ar,Au,Av,Aw,Option.toList,Ay,Az,Tryz.f79,Dp,hf1]
  refine WC.mono (Ll _ p k ts i h1 (Nat.lt_succ_of_lt hp) hi tok off ws hw) ?_
  rintro _ ⟨S2, rfl, hk⟩
  rw [decide_eq_false hm]
  have g2 : S2.mem.get S.next = some (.box (Dz Dx)) := (hk.2 _ (Nat.lt_succ_self _)).trans (Ea S _)
  have q1 : Du Tryz.prog S2 68 (.ptr S.next 0) (.agg (Dz Dx)) = some (S2.put S.next (Dz Dx)) := kQ g2 rfl rfl
  have q2 : Dw Tryz.prog (S2.put S.next (Dz Dx)) 68 (.ptr S.next 0) = some (Fm Dx) := G1 _ _ _ rfl
  simp only [A3,A6,Bb,Bc,Cr,Bn,B4,C9,Cu,B5,Cs,Ct,Da,Bu,Be,Bo,Bp,A2,A9,Ba,A5,Dc,B6,Bm,Bh,A8,A4,Bi,Bg,Bf,Bq,Br,B9,Ca,Bv,C0,Cz,C1,A0,A1,C2,Dd,ofOpt,ofOptS,Bw,Dh,Di,Cj,Cl,Bk,Bl,C4,Bj,Df,A7,Bd,Cm,Cn,Co,Cp,Cq,B3,B1,Nat.reduceLT,Nat.reduceAdd,Nat.reduceEqDiff,Aa,Ab,reduceIte,Ac,Ad,Ae,Af,Ag,Ah,Ai,Aj,Ak,Al,Am,Ao,Ap,Aq,Ar,Au,Av,Aw,Option.toList,Ay,Az,Tryz.f79,Tf,q1,q2]
  exact ⟨_, rfl, E5 ((Eb S _).trans hk) (Nat.le_refl _) _⟩
set_option maxHeartbeats 4000000 in
theorem lZ (S : St) (p k : Nat) (ts : List Tk) (i : Nat) (h : Cur S p k ts i) (hp : p < S.next) (hi : i < ts.length) (hl : ts.length ≤ 1000000) (tok off : Nat) (ws : List (List UInt8)) (hw : ws.length ≤ 1000) (hm : ts[i].text ∈ ws) : WC E1 81 [.ptr p 0, wsA tok off ws] S (fun r => ∃ S', r = .ret (Fm ts[i]) S' ∧ El p S S' ∧ Cur S' p k ts (i + 1)) := by
  refine Ek Tryz.f81 (by kernel_rfl) (by kernel_rfl) (by kernel_rfl) (show (_ : Nat) ≤ _ from by show (_ : Nat) ≤ _; simp [Tryz.f81]) ?_
  obtain ⟨fn1, hf1⟩ := Oq
  obtain ⟨fn2, hf2⟩ := Y4
  have h1 : Cur (S.newBox (Dz Dx)) p k ts i := (Gi hp).trans h
  simp only [A3,A6,Bb,Bc,Cr,Bn,B4,C9,Cu,B5,Cs,Ct,Da,Bu,Be,Bo,Bp,A2,A9,Ba,A5,Dc,B6,Bm,Bh,A8,A4,Bi,Bg,Bf,Bq,Br,B9,Ca,Bv,C0,Cz,C1,A0,A1,C2,Dd,ofOpt,ofOptS,Bw,Dh,Di,Cj,Cl,Bk,Bl,C4,Bj,Df,A7,Bd,Cm,Cn,Co,Cp,Cq,B3,B1,Nat.reduceLT,Nat.reduceAdd,Nat.reduceEqDiff,Aa,Ab,reduceIte,Ac,Ad,Ae,Af,Ag,Ah,Ai,Aj,Ak,Al,Am,Ao,Ap,Aq,Ar,Au,Av,Aw,Option.toList,Ay,Az,Tryz.f81,Dp,hf1]
  refine WC.mono (Ll _ p k ts i h1 (Nat.lt_succ_of_lt hp) hi tok off ws hw) ?_
  rintro _ ⟨S2, rfl, hk⟩
  rw [decide_eq_true hm]
  simp only [A3,A6,Bb,Bc,Cr,Bn,B4,C9,Cu,B5,Cs,Ct,Da,Bu,Be,Bo,Bp,A2,A9,Ba,A5,Dc,B6,Bm,Bh,A8,A4,Bi,Bg,Bf,Bq,Br,B9,Ca,Bv,C0,Cz,C1,A0,A1,C2,Dd,ofOpt,ofOptS,Bw,Dh,Di,Cj,Cl,Bk,Bl,C4,Bj,Df,A7,Bd,Cm,Cn,Co,Cp,Cq,B3,B1,Nat.reduceLT,Nat.reduceAdd,Nat.reduceEqDiff,Aa,Ab,reduceIte,Ac,Ad,Ae,Af,Ag,Ah,Ai,Aj,Ak,Al,Am,Ao,Ap,Aq,Ar,Au,Av,Aw,Option.toList,Ay,Az,Tryz.f81,hf2]
  refine WC.mono (cJ S2 p k ts i (h1.keep (Nat.lt_succ_of_lt hp) hk) (Nat.lt_of_lt_of_le (Nat.lt_succ_of_lt hp) hk.1) hi hl) ?_
  rintro _ ⟨S3, rfl, hx, hc⟩
  have hn2 : S.next < S2.next := hk.1
  have g3 : S3.mem.get S.next = some (.box (Dz Dx)) := (hx.2 _ hn2 (by omega)).trans ((hk.2 _ (Nat.lt_succ_self _)).trans (Ea S _))
  have q1 := O6 S S3 Dx ts[i] S.next g3
  have q2 : Dw Tryz.prog (S3.put S.next (Dz ts[i])) 68 (.ptr S.next 0) = some (Fm ts[i]) := G1 _ _ _ rfl
  simp only [A3,A6,Bb,Bc,Cr,Bn,B4,C9,Cu,B5,Cs,Ct,Da,Bu,Be,Bo,Bp,A2,A9,Ba,A5,Dc,B6,Bm,Bh,A8,A4,Bi,Bg,Bf,Bq,Br,B9,Ca,Bv,C0,Cz,C1,A0,A1,C2,Dd,ofOpt,ofOptS,Bw,Dh,Di,Cj,Cl,Bk,Bl,C4,Bj,Df,A7,Bd,Cm,Cn,Co,Cp,Cq,B3,B1,Nat.reduceLT,Nat.reduceAdd,Nat.reduceEqDiff,Aa,Ab,reduceIte,Ac,Ad,Ae,Af,Ag,Ah,Ai,Aj,Ak,Al,Am,Ao,Ap,Aq,Ar,Au,Av,Aw,Option.toList,Ay,Az,Tryz.f81,q1,q2]
  refine ⟨_, rfl, ⟨?_, fun id hid hne => ?_⟩, ?_⟩
  · have := hx.1; show S.next ≤ S3.next; omega
  · rw [Fx (by omega), hx.2 id (by omega) hne, hk.2 id (Nat.lt_succ_of_lt hid), Gi hid]
  · exact (Fx (by omega)).trans hc
set_option maxHeartbeats 4000000 in
theorem need_no (S : St) (p k : Nat) (ts : List Tk) (i : Nat) (h : Cur S p k ts i) (hp : p < S.next) (hi : i < ts.length) (tok off : Nat) (ws : List (List UInt8)) (hw : ws.length ≤ 1000) (hm : ts[i].text ∉ ws) : WC E1 81 [.ptr p 0, wsA tok off ws] S (fun r => ∃ S', r = .pan (Q3 ts[i].pos (Hx ts[i])) S' ∧ Fg S S') := by
  refine Ek Tryz.f81 (by kernel_rfl) (by kernel_rfl) (by kernel_rfl) (show (_ : Nat) ≤ _ from by show (_ : Nat) ≤ _; simp [Tryz.f81]) ?_
  obtain ⟨fn1, hf1⟩ := Oq
  obtain ⟨fn2, hf2⟩ := Y5
  have h1 : Cur (S.newBox (Dz Dx)) p k ts i := (Gi hp).trans h
  simp only [A3,A6,Bb,Bc,Cr,Bn,B4,C9,Cu,B5,Cs,Ct,Da,Bu,Be,Bo,Bp,A2,A9,Ba,A5,Dc,B6,Bm,Bh,A8,A4,Bi,Bg,Bf,Bq,Br,B9,Ca,Bv,C0,Cz,C1,A0,A1,C2,Dd,ofOpt,ofOptS,Bw,Dh,Di,Cj,Cl,Bk,Bl,C4,Bj,Df,A7,Bd,Cm,Cn,Co,Cp,Cq,B3,B1,Nat.reduceLT,Nat.reduceAdd,Nat.reduceEqDiff,Aa,Ab,reduceIte,Ac,Ad,Ae,Af,Ag,Ah,Ai,Aj,Ak,Al,Am,Ao,Ap,Aq,Ar,Au,Av,Aw,Option.toList,Ay,Az,Tryz.f81,Dp,hf1]
  refine WC.mono (Ll _ p k ts i h1 (Nat.lt_succ_of_lt hp) hi tok off ws hw) ?_
  rintro _ ⟨S2, rfl, hk⟩
  rw [decide_eq_false hm]
  simp only [A3,A6,Bb,Bc,Cr,Bn,B4,C9,Cu,B5,Cs,Ct,Da,Bu,Be,Bo,Bp,A2,A9,Ba,A5,Dc,B6,Bm,Bh,A8,A4,Bi,Bg,Bf,Bq,Br,B9,Ca,Bv,C0,Cz,C1,A0,A1,C2,Dd,ofOpt,ofOptS,Bw,Dh,Di,Cj,Cl,Bk,Bl,C4,Bj,Df,A7,Bd,Cm,Cn,Co,Cp,Cq,B3,B1,Nat.reduceLT,Nat.reduceAdd,Nat.reduceEqDiff,Aa,Ab,reduceIte,Ac,Ad,Ae,Af,Ag,Ah,Ai,Aj,Ak,Al,Am,Ao,Ap,Aq,Ar,Au,Av,Aw,Option.toList,Ay,Az,Tryz.f81,hf2]
  refine WC.mono (Ul S2 p k ts i (h1.keep (Nat.lt_succ_of_lt hp) hk) (Nat.lt_of_lt_of_le (Nat.lt_succ_of_lt hp) hk.1) hi) ?_
  rintro _ ⟨S3, rfl, hx⟩
  simp only [A3,A6,Bb,Bc,Cr,Bn,B4,C9,Cu,B5,Cs,Ct,Da,Bu,Be,Bo,Bp,A2,A9,Ba,A5,Dc,B6,Bm,Bh,A8,A4,Bi,Bg,Bf,Bq,Br,B9,Ca,Bv,C0,Cz,C1,A0,A1,C2,Dd,ofOpt,ofOptS,Bw,Dh,Di,Cj,Cl,Bk,Bl,C4,Bj,Df,A7,Bd,Cm,Cn,Co,Cp,Cq,B3,B1,Nat.reduceLT,Nat.reduceAdd,Nat.reduceEqDiff,Aa,Ab,reduceIte,Ac,Ad,Ae,Af,Ag,Ah,Ai,Aj,Ak,Al,Am,Ao,Ap,Aq,Ar,Au,Av,Aw,Option.toList,Ay,Az,Tryz.f81]
  exact ⟨_, rfl, (Eb S _).trans (hk.trans hx)⟩
set_option maxHeartbeats 4000000 in
theorem Va (S : St) (p k : Nat) (ts : List Tk) (i : Nat) (h : Cur S p k ts i) (hp : p < S.next) (hi : i < ts.length) (hl : ts.length ≤ 1000000) (kind : Nat) (hm : ts[i].kind = kind) : WC E1 124 [.ptr p 0, Dy kind] S (fun r => ∃ S', r = .ret (Fm ts[i]) S' ∧ El p S S' ∧ Cur S' p k ts (i + 1)) := by
  refine Ek Tryz.f124 (by kernel_rfl) (by kernel_rfl) (by kernel_rfl) (show (_ : Nat) ≤ _ from by show (_ : Nat) ≤ _; simp [Tryz.f124]) ?_
  obtain ⟨fn1, hf1⟩ := Ld
  obtain ⟨fn2, hf2⟩ := Y4
  have h1 : Cur (S.newBox (Dz Dx)) p k ts i := (Gi hp).trans h
  have hq : (((ts[i].kind : Nat) : Int) != (kind : Int)) = false := by rw [hm]; simp
  simp only [A3,A6,Bb,Bc,Cr,Bn,B4,C9,Cu,B5,Cs,Ct,Da,Bu,Be,Bo,Bp,A2,A9,Ba,A5,Dc,B6,Bm,Bh,A8,A4,Bi,Bg,Bf,Bq,Br,B9,Ca,Bv,C0,Cz,C1,A0,A1,C2,Dd,ofOpt,ofOptS,Bw,Dh,Di,Cj,Cl,Bk,Bl,C4,Bj,Df,A7,Bd,Cm,Cn,Co,Cp,Cq,B3,B1,Nat.reduceLT,Nat.reduceAdd,Nat.reduceEqDiff,Aa,Ab,reduceIte,Ac,Ad,Ae,Af,Ag,Ah,Ai,Aj,Ak,Al,Am,Ao,Ap,Aq,Ar,Au,Av,Aw,Option.toList,Ay,Az,Tryz.f124,Dp,hf1]
  refine WC.mono (Qs _ p k ts i h1 (Nat.lt_succ_of_lt hp) hi) ?_
  rintro _ ⟨S2, rfl, hk⟩
  simp only [A3,A6,Bb,Bc,Cr,Bn,B4,C9,Cu,B5,Cs,Ct,Da,Bu,Be,Bo,Bp,A2,A9,Ba,A5,Dc,B6,Bm,Bh,A8,A4,Bi,Bg,Bf,Bq,Br,B9,Ca,Bv,C0,Cz,C1,A0,A1,C2,Dd,ofOpt,ofOptS,Bw,Dh,Di,Cj,Cl,Bk,Bl,C4,Bj,Df,A7,Bd,Cm,Cn,Co,Cp,Cq,B3,B1,Nat.reduceLT,Nat.reduceAdd,Nat.reduceEqDiff,Aa,Ab,reduceIte,Ac,Ad,Ae,Af,Ag,Ah,Ai,Aj,Ak,Al,Am,Ao,Ap,Aq,Ar,Au,Av,Aw,Option.toList,Ay,Az,Tryz.f124,Eh,Dy,hq,hf2]
  refine WC.mono (cJ S2 p k ts i (h1.keep (Nat.lt_succ_of_lt hp) hk) (Nat.lt_of_lt_of_le (Nat.lt_succ_of_lt hp) hk.1) hi hl) ?_
  rintro _ ⟨S3, rfl, hx, hc⟩
  have hn2 : S.next < S2.next := hk.1
  have g3 : S3.mem.get S.next = some (.box (Dz Dx)) := (hx.2 _ hn2 (by omega)).trans ((hk.2 _ (Nat.lt_succ_self _)).trans (Ea S _))
  have q1 := O6 S S3 Dx ts[i] S.next g3
  have q2 : Dw Tryz.prog (S3.put S.next (Dz ts[i])) 68 (.ptr S.next 0) = some (Fm ts[i]) := G1 _ _ _ rfl
  simp only [A3,A6,Bb,Bc,Cr,Bn,B4,C9,Cu,B5,Cs,Ct,Da,Bu,Be,Bo,Bp,A2,A9,Ba,A5,Dc,B6,Bm,Bh,A8,A4,Bi,Bg,Bf,Bq,Br,B9,Ca,Bv,C0,Cz,C1,A0,A1,C2,Dd,ofOpt,ofOptS,Bw,Dh,Di,Cj,Cl,Bk,Bl,C4,Bj,Df,A7,Bd,Cm,Cn,Co,Cp,Cq,B3,B1,Nat.reduceLT,Nat.reduceAdd,Nat.reduceEqDiff,Aa,Ab,reduceIte,Ac,Ad,Ae,Af,Ag,Ah,Ai,Aj,Ak,Al,Am,Ao,Ap,Aq,Ar,Au,Av,Aw,Option.toList,Ay,Az,Tryz.f124,q1,q2]
  refine ⟨_, rfl, ⟨?_, fun id hid hne => ?_⟩, ?_⟩
  · have := hx.1; show S.next ≤ S3.next; omega
  · rw [Fx (by omega), hx.2 id (by omega) hne, hk.2 id (Nat.lt_succ_of_lt hid), Gi hid]
  · exact (Fx (by omega)).trans hc
set_option maxHeartbeats 4000000 in
theorem Yv (S : St) (p k : Nat) (ts : List Tk) (i : Nat) (h : Cur S p k ts i) (hp : p < S.next) (hi : i < ts.length) (kind : Nat) (hm : ts[i].kind ≠ kind) : WC E1 124 [.ptr p 0, Dy kind] S (fun r => ∃ S', r = .pan (Q3 ts[i].pos (Hx ts[i])) S' ∧ Fg S S') := by
  refine Ek Tryz.f124 (by kernel_rfl) (by kernel_rfl) (by kernel_rfl) (show (_ : Nat) ≤ _ from by show (_ : Nat) ≤ _; simp [Tryz.f124]) ?_
  obtain ⟨fn1, hf1⟩ := Ld
  obtain ⟨fn2, hf2⟩ := Y5
  have h1 : Cur (S.newBox (Dz Dx)) p k ts i := (Gi hp).trans h
  have hq : (((ts[i].kind : Nat) : Int) != (kind : Int)) = true := by rw [bne_iff_ne]; omega
  simp only [A3,A6,Bb,Bc,Cr,Bn,B4,C9,Cu,B5,Cs,Ct,Da,Bu,Be,Bo,Bp,A2,A9,Ba,A5,Dc,B6,Bm,Bh,A8,A4,Bi,Bg,Bf,Bq,Br,B9,Ca,Bv,C0,Cz,C1,A0,A1,C2,Dd,ofOpt,ofOptS,Bw,Dh,Di,Cj,Cl,Bk,Bl,C4,Bj,Df,A7,Bd,Cm,Cn,Co,Cp,Cq,B3,B1,Nat.reduceLT,Nat.reduceAdd,Nat.reduceEqDiff,Aa,Ab,reduceIte,Ac,Ad,Ae,Af,Ag,Ah,Ai,Aj,Ak,Al,Am,Ao,Ap,Aq,Ar,Au,Av,Aw,Option.toList,Ay,Az,Tryz.f124,Dp,hf1]
  refine WC.mono (Qs _ p k ts i h1 (Nat.lt_succ_of_lt hp) hi) ?_
  rintro _ ⟨S2, rfl, hk⟩
  simp only [A3,A6,Bb,Bc,Cr,Bn,B4,C9,Cu,B5,Cs,Ct,Da,Bu,Be,Bo,Bp,A2,A9,Ba,A5,Dc,B6,Bm,Bh,A8,A4,Bi,Bg,Bf,Bq,Br,B9,Ca,Bv,C0,Cz,C1,A0,A1,C2,Dd,ofOpt,ofOptS,Bw,Dh,Di,Cj,Cl,Bk,Bl,C4,Bj,Df,A7,Bd,Cm,Cn,Co,Cp,Cq,B3,B1,Nat.reduceLT,Nat.reduceAdd,Nat.reduceEqDiff,Aa,Ab,reduceIte,Ac,Ad,Ae,Af,Ag,Ah,Ai,Aj,Ak,Al,Am,Ao,Ap,Aq,Ar,Au,Av,Aw,Option.toList,Ay,Az,Tryz.f124,Eh,Dy,hq,hf2]
  refine WC.mono (Ul S2 p k ts i (h1.keep (Nat.lt_succ_of_lt hp) hk) (Nat.lt_of_lt_of_le (Nat.lt_succ_of_lt hp) hk.1) hi) ?_
  rintro _ ⟨S3, rfl, hx⟩
  simp only [A3,A6,Bb,Bc,Cr,Bn,B4,C9,Cu,B5,Cs,Ct,Da,Bu,Be,Bo,Bp,A2,A9,Ba,A5,Dc,B6,Bm,Bh,A8,A4,Bi,Bg,Bf,Bq,Br,B9,Ca,Bv,C0,Cz,C1,A0,A1,C2,Dd,ofOpt,ofOptS,Bw,Dh,Di,Cj,Cl,Bk,Bl,C4,Bj,Df,A7,Bd,Cm,Cn,Co,Cp,Cq,B3,B1,Nat.reduceLT,Nat.reduceAdd,Nat.reduceEqDiff,Aa,Ab,reduceIte,Ac,Ad,Ae,Af,Ag,Ah,Ai,Aj,Ak,Al,Am,Ao,Ap,Aq,Ar,Au,Av,Aw,Option.toList,Ay,Az,Tryz.f124]
  exact ⟨_, rfl, (Eb S _).trans (hk.trans hx)⟩
end Go.Ax
