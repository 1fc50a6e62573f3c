/-
  Trees that are read; numbers, truths: reasoned over.
-/
import Derived.Test.YtjgknelmjdallaaGreatDoorPlPb
noncomputable section
namespace Go.Ax
open Go.RowKit Go.Proofs
set_option linter.unusedVariables false
set_option linter.unusedSimpArgs false
set_option maxRecDepth 100000

/-- An expression. -/
inductive PE where
  | mk (kind pos : Nat) (n : Int) (name : List UInt8) (off : Bool) (kids : List PE)
mutual
inductive RepE : AV → PE → Prop where
  | mk (kind pos : Nat) (n : Int) (name : List UInt8) (off : Bool) (kv : AV) (kids : List PE) (h : RepK kv kids) : RepE (.agg (exC kind pos n name off kv)) (.mk kind pos n name off kids)
inductive RepK : AV → List PE → Prop where
  | nil : RepK .nils []
  | row (tok off : Nat) (es : List AV) (kids : List PE) (h : RepF es kids) : RepK (.sl tok off 6 es) kids
inductive RepF : List AV → List PE → Prop where
  | nil : RepF [] []
  | cons (a : AV) (e : PE) (r : List AV) (l : List PE) (h : RepE a e) (h2 : RepF r l) : RepF (a :: r) (e :: l)
end
theorem RepE.agg {a : AV} {e : PE} (h : RepE a e) : ∃ xs, a = .agg xs ∧ xs.length = 6 := by
  cases h with
  | mk kind pos n name off kv kids h => exact ⟨_, rfl, rfl⟩
theorem RepK.kids {a : AV} {l : List PE} (h : RepK a l) : V3 a := by
  cases h with
  | nil => exact .inl rfl
  | row tok off es kids h => exact .inr ⟨_, _, _, rfl⟩
/-- What is read: a thing and where the cursor is then, or the first fault, or no answer. -/
inductive PR (α : Type) where
  | ok (a : α) (i : Nat)
  | bad (a e : Nat)
  | out
def PR.bind {α β : Type} (x : PR α) (f : α → Nat → PR β) : PR β := match x with
  | .ok a i => f a i
  | .bad a e => .bad a e
  | .out => .out
def Ku {α : Type} (p k : Nat) (ts : List Tk) (S : St) (Rep : AV → α → Prop) (x : PR α) (r : R) : Prop := match x with
  | .ok a j => ∃ v S', r = .ret v S' ∧ Rep v a ∧ El p S S' ∧ Cur S' p k ts j ∧ j < ts.length
  | .bad a e => ∃ S', r = .pan (Q3 a e) S' ∧ El p S S'
  | .out => False
/-- Tokens as they come of a text: an end, and nothing D6 it. -/
structure TokOk (ts : List Tk) : Prop where
  more : ∀ j (h : j < ts.length), ts[j].kind ≠ 5 → j + 1 < ts.length
  fin : ∀ j (h : j < ts.length), ts[j].kind = 5 → ts[j].text = []
  size : ts.length ≤ 1000000
theorem TokOk.next {ts : List Tk} (h : TokOk ts) {j : Nat} (hj : j < ts.length) (ht : ts[j].text ≠ []) : j + 1 < ts.length := h.more j hj (fun e => ht (h.fin j hj e))
def Oj (ts : List Tk) (i : Nat) : PR PE := match ts[i]? with
  | none => .out
  | some t => if t.text = [45] then (match ts[i + 1]? with
      | none => .out
      | some u => if u.kind = 2 then .ok (.mk 1 t.pos (IntKind.i64.wrap (0 - IntKind.i64.wrap u.num)) [] false []) (i + 2) else .bad u.pos (Hx u))
    else if t.kind = 2 then (if 9223372036854775807 < t.num then .bad t.pos 3 else .ok (.mk 1 t.pos (IntKind.i64.wrap t.num) [] false []) (i + 1)) else .bad t.pos (Hx t)
theorem Hm {p : Nat} (S : St) (cs : List AV) : El p S (S.newBox cs) := (Eb S cs).x p
theorem Gw {p : Nat} {S S' : St} (h : El p S S') {b : Nat} (hb : S.next ≤ b) (cs : List AV) : El p S (S'.put b cs) := ⟨h.1, fun id hid hn => (Fx (by omega)).trans (h.2 id hid hn)⟩
theorem Cur.new {S : St} {p k i : Nat} {ts : List Tk} (h : Cur S p k ts i) (hp : p < S.next) (cs : List AV) : Cur (S.newBox cs) p k ts i := (Gi hp).trans h
theorem Cur.put {S : St} {p k i : Nat} {ts : List Tk} (h : Cur S p k ts i) {b : Nat} (hb : p ≠ b) (cs : List AV) : Cur (S.put b cs) p k ts i := (Fx hb).trans h
theorem b30n (k a n : Int) : Gk Tryz.prog 30 [(0, .v (.int .i64 k)), (1, .v (.int .i64 a)), (2, .v (.int .i64 n))] = some (.agg [.v (.int .i64 k), .v (.int .i64 a), .v (.int .i64 n), D5 [], .v (.bool false), .nils]) := rfl
theorem ld66 {S : St} {id : Nat} {t : Tk} (h : S.mem.get id = some (.box (Dz t))) : Dw Tryz.prog S 66 (.ptr id 3) = some (.v (.int .u64 (t.num : Int))) := by
  have a66 : Fv Tryz.prog 66 = some false := by kernel_rfl
  simp [Dw, D6, h, a66, Dz, N8]
theorem Hn : ∃ fn, E1.F 79 = some fn := Option.isSome_iff_exists.1 (by kernel_rfl)
theorem Lc : ∃ fn, E1.F 124 = some fn := Option.isSome_iff_exists.1 (by kernel_rfl)
theorem J6 : ∃ fn, E1.F 81 = some fn := Option.isSome_iff_exists.1 (by kernel_rfl)
/-- A box, and a token put into it. -/
theorem Rk (S : St) (t : Tk) : Du Tryz.prog (S.newBox (Dz Dx)) 68 (.ptr S.next 0) (Fm t) = some ((S.newBox (Dz Dx)).put S.next (Dz t)) := Kg S (Dz Dx) (Dz t) rfl rfl
set_option maxHeartbeats 16000000 in
theorem lS (S : St) (p k : Nat) (ts : List Tk) (i : Nat) (h : Cur S p k ts i) (hp : p < S.next) (hi : i < ts.length) (hts : TokOk ts) : WC E1 212 [.ptr p 0] S (Ku p k ts S RepE (Oj ts i)) := by
  refine Ek Tryz.f212 (by kernel_rfl) (by kernel_rfl) (by kernel_rfl) (show (_ : Nat) ≤ _ from by show (_ : Nat) ≤ _; simp [Tryz.f212]) ?_
  obtain ⟨fn1, hf1⟩ := Hn
  obtain ⟨fn2, hf2⟩ := Lc
  have hti : ts[i]? = some ts[i] := List.getElem?_eq_getElem hi
  have h1 := h.new hp exZ
  have k1 : El p S (S.newBox exZ) := Hm S exZ
  have hp1 : p < (S.newBox exZ).next := Nat.lt_succ_of_lt hp
  -- what is done D6 the look for a sign
  have tail : ∀ (S2 : St) (neg : Bool) (t : Tk) (j : Nat), El p (S.newBox exZ) S2 → Cur S2 p k ts j → (hj : j < ts.length) → True := fun _ _ _ _ _ _ _ => trivial
  unfold Oj
  rw [hti]
  simp only
  by_cases hm : ts[i].text = [45]
  · have hi1 : i + 1 < ts.length := hts.next hi (by rw [hm]; simp)
    have hti1 : ts[i + 1]? = some ts[i + 1] := List.getElem?_eq_getElem hi1
    rw [if_pos hm, hti1]
    simp only
    simp only [A3,A6,Bb,Bc,Cr,Bn,B4,C9,Cu,B5,Cs,Ct,Da,Bu,Be,Bo,Bp,A2,A9,Ba,A5,Dc,B6,Bm,Bh,A8,A4,Bi,Bg,Bf,Bq,Br,B9,Ca,Bv,C0,Cz,C1,A0,A1,C2,Dd,ofOpt,ofOptS,Bw,Dh,Di,Cj,Cl,Bk,Bl,C4,Bj,Df,A7,Bd,Cm,Cn,Co,Cp,Cq,B3,B1,Nat.reduceLT,Nat.reduceAdd,Nat.reduceEqDiff,Aa,Ab,reduceIte,Ac,Ad,Ae,Af,Ag,Ah,Ai,Aj,Ak,Al,Am,Ao,Ap,Aq,Ar,Au,Av,Aw,Option.toList,Ay,Az,Tryz.f212,Do,fp0,C3,hf1]
    refine WC.mono (Zq (S.newBox exZ) p k ts i h1 hp1 hi hts.size 1 0 [[45]] (by decide) (by rw [hm]; simp)) ?_
    rintro _ ⟨S2, rfl, hx, hc⟩
    have n2 : S.next < S2.next := hx.1
    have q1 := Rk S2 ts[i]
    generalize hS3 : (S2.newBox (Dz Dx)).put S2.next (Dz ts[i]) = S3 at q1
    have n3 : S3.next = S2.next + 1 := by rw [← hS3]; rfl
    have x3 : El p S2 S3 := by rw [← hS3]; exact Gw (Hm _ _) (Nat.le_refl _) _
    have g3 : S3.mem.get S2.next = some (.box (Dz ts[i])) := by rw [← hS3]; exact E9 _ _ _
    have c3 : Cur S3 p k ts (i + 1) := by rw [← hS3]; exact (hc.new (by omega) _).put (by omega) _
    simp only [A3,A6,Bb,Bc,Cr,Bn,B4,C9,Cu,B5,Cs,Ct,Da,Bu,Be,Bo,Bp,A2,A9,Ba,A5,Dc,B6,Bm,Bh,A8,A4,Bi,Bg,Bf,Bq,Br,B9,Ca,Bv,C0,Cz,C1,A0,A1,C2,Dd,ofOpt,ofOptS,Bw,Dh,Di,Cj,Cl,Bk,Bl,C4,Bj,Df,A7,Bd,Cm,Cn,Co,Cp,Cq,B3,B1,Nat.reduceLT,Nat.reduceAdd,Nat.reduceEqDiff,Aa,Ab,reduceIte,Ac,Ad,Ae,Af,Ag,Ah,Ai,Aj,Ak,Al,Am,Ao,Ap,Aq,Ar,Au,Av,Aw,Option.toList,Ay,Az,Tryz.f212,Cb,Dp,q1,fp0,hf2]
    by_cases hk : ts[i + 1].kind = 2
    · rw [if_pos hk]
      refine WC.mono (Va S3 p k ts (i + 1) c3 (by omega) hi1 hts.size 2 hk) ?_
      rintro _ ⟨S4, rfl, hx4, hc4⟩
      have q2 := Rk S4 ts[i + 1]
      generalize hS5 : (S4.newBox (Dz Dx)).put S4.next (Dz ts[i + 1]) = S5 at q2
      have n4 := hx4.1
      have n5 : S5.next = S4.next + 1 := by rw [← hS5]; rfl
      have x5 : El p S4 S5 := by rw [← hS5]; exact Gw (Hm _ _) (Nat.le_refl _) _
      have g5 : S5.mem.get S4.next = some (.box (Dz ts[i + 1])) := by rw [← hS5]; exact E9 _ _ _
      have c5 : Cur S5 p k ts (i + 1 + 1) := by rw [← hS5]; exact (hc4.new (by omega) _).put (by omega) _
      have g3' : S5.mem.get S2.next = some (.box (Dz ts[i])) := (x5.2 _ (by omega) (by omega)).trans ((hx4.2 _ (by omega) (by omega)).trans g3)
      have g2' : S5.mem.get S.next = some (.box exZ) := (x5.2 _ (by omega) (by omega)).trans ((hx4.2 _ (by omega) (by omega)).trans ((x3.2 _ (by omega) (by omega)).trans ((hx.2 _ (Nat.lt_succ_self _) (by omega)).trans (Ea S _))))
      have l1 := ld3b g3'
      have l2 := ld66 g5
      have q3 := Rx g2' rfl (show ([.v (.int .i64 1), .v (.int .i64 (ts[i].pos : Int)), .v (.int .i64 (IntKind.i64.wrap (0 - IntKind.i64.wrap (ts[i + 1].num : Int)))), D5 [], .v (.bool false), .nils] : List AV).length = 6 from rfl)
      have l3 := ld30 (E9 S5 S.next [.v (.int .i64 1), .v (.int .i64 (ts[i].pos : Int)), .v (.int .i64 (IntKind.i64.wrap (0 - IntKind.i64.wrap (ts[i + 1].num : Int)))), D5 [], .v (.bool false), .nils]) rfl
      simp only [A3,A6,Bb,Bc,Cr,Bn,B4,C9,Cu,B5,Cs,Ct,Da,Bu,Be,Bo,Bp,A2,A9,Ba,A5,Dc,B6,Bm,Bh,A8,A4,Bi,Bg,Bf,Bq,Br,B9,Ca,Bv,C0,Cz,C1,A0,A1,C2,Dd,ofOpt,ofOptS,Bw,Dh,Di,Cj,Cl,Bk,Bl,C4,Bj,Df,A7,Bd,Cm,Cn,Co,Cp,Cq,B3,B1,Nat.reduceLT,Nat.reduceAdd,Nat.reduceEqDiff,Aa,Ab,reduceIte,Ac,Ad,Ae,Af,Ag,Ah,Ai,Aj,Ak,Al,Am,Ao,Ap,Aq,Ar,Au,Av,Aw,Option.toList,Ay,Az,Tryz.f212,Dp,q2,fd1,fd3,l1,l2,Xo,Sz,gJ,dK,negO_i,b30n,q3,l3]
      have hi2 : i + 2 < ts.length := hts.more (i + 1) hi1 (by rw [hk]; decide)
      refine ⟨_, _, rfl, .mk 1 ts[i].pos _ [] false .nils [] .nil, ?_, c5.put (by omega) _, hi2⟩
      exact Gw (k1.trans (hx.trans (x3.trans (hx4.trans x5)))) (Nat.le_refl _) _
    · rw [if_neg hk]
      refine WC.mono (Yv S3 p k ts (i + 1) c3 (by omega) hi1 2 hk) ?_
      rintro _ ⟨S4, rfl, hx4⟩
      simp only [A3,A6,Bb,Bc,Cr,Bn,B4,C9,Cu,B5,Cs,Ct,Da,Bu,Be,Bo,Bp,A2,A9,Ba,A5,Dc,B6,Bm,Bh,A8,A4,Bi,Bg,Bf,Bq,Br,B9,Ca,Bv,C0,Cz,C1,A0,A1,C2,Dd,ofOpt,ofOptS,Bw,Dh,Di,Cj,Cl,Bk,Bl,C4,Bj,Df,A7,Bd,Cm,Cn,Co,Cp,Cq,B3,B1,Nat.reduceLT,Nat.reduceAdd,Nat.reduceEqDiff,Aa,Ab,reduceIte,Ac,Ad,Ae,Af,Ag,Ah,Ai,Aj,Ak,Al,Am,Ao,Ap,Aq,Ar,Au,Av,Aw,Option.toList,Ay,Az,Tryz.f212]
      exact ⟨_, rfl, k1.trans (hx.trans (x3.trans (hx4.x p)))⟩
  · rw [if_neg hm]
    simp only [A3,A6,Bb,Bc,Cr,Bn,B4,C9,Cu,B5,Cs,Ct,Da,Bu,Be,Bo,Bp,A2,A9,Ba,A5,Dc,B6,Bm,Bh,A8,A4,Bi,Bg,Bf,Bq,Br,B9,Ca,Bv,C0,Cz,C1,A0,A1,C2,Dd,ofOpt,ofOptS,Bw,Dh,Di,Cj,Cl,Bk,Bl,C4,Bj,Df,A7,Bd,Cm,Cn,Co,Cp,Cq,B3,B1,Nat.reduceLT,Nat.reduceAdd,Nat.reduceEqDiff,Aa,Ab,reduceIte,Ac,Ad,Ae,Af,Ag,Ah,Ai,Aj,Ak,Al,Am,Ao,Ap,Aq,Ar,Au,Av,Aw,Option.toList,Ay,Az,Tryz.f212,Do,fp0,C3,hf1]
    refine WC.mono (eL (S.newBox exZ) p k ts i h1 hp1 hi 1 0 [[45]] (by decide) (by simpa using hm)) ?_
    rintro _ ⟨S2, rfl, hk0⟩
    have hx := hk0.x p
    have hc := h1.keep hp1 hk0
    have n2 : S.next < S2.next := hx.1
    have q1 := Rk S2 Dx
    generalize hS3 : (S2.newBox (Dz Dx)).put S2.next (Dz Dx) = S3 at q1
    have n3 : S3.next = S2.next + 1 := by rw [← hS3]; rfl
    have x3 : El p S2 S3 := by rw [← hS3]; exact Gw (Hm _ _) (Nat.le_refl _) _
    have c3 : Cur S3 p k ts i := by rw [← hS3]; exact (hc.new (by omega) _).put (by omega) _
    simp only [A3,A6,Bb,Bc,Cr,Bn,B4,C9,Cu,B5,Cs,Ct,Da,Bu,Be,Bo,Bp,A2,A9,Ba,A5,Dc,B6,Bm,Bh,A8,A4,Bi,Bg,Bf,Bq,Br,B9,Ca,Bv,C0,Cz,C1,A0,A1,C2,Dd,ofOpt,ofOptS,Bw,Dh,Di,Cj,Cl,Bk,Bl,C4,Bj,Df,A7,Bd,Cm,Cn,Co,Cp,Cq,B3,B1,Nat.reduceLT,Nat.reduceAdd,Nat.reduceEqDiff,Aa,Ab,reduceIte,Ac,Ad,Ae,Af,Ag,Ah,Ai,Aj,Ak,Al,Am,Ao,Ap,Aq,Ar,Au,Av,Aw,Option.toList,Ay,Az,Tryz.f212,Cb,Dp,q1,fp0,hf2]
    by_cases hk : ts[i].kind = 2
    · rw [if_pos hk]
      refine WC.mono (Va S3 p k ts i c3 (by omega) hi hts.size 2 hk) ?_
      rintro _ ⟨S4, rfl, hx4, hc4⟩
      have q2 := Rk S4 ts[i]
      generalize hS5 : (S4.newBox (Dz Dx)).put S4.next (Dz ts[i]) = S5 at q2
      have n4 := hx4.1
      have n5 : S5.next = S4.next + 1 := by rw [← hS5]; rfl
      have x5 : El p S4 S5 := by rw [← hS5]; exact Gw (Hm _ _) (Nat.le_refl _) _
      have g5 : S5.mem.get S4.next = some (.box (Dz ts[i])) := by rw [← hS5]; exact E9 _ _ _
      have c5 : Cur S5 p k ts (i + 1) := by rw [← hS5]; exact (hc4.new (by omega) _).put (by omega) _
      have g2' : S5.mem.get S.next = some (.box exZ) := (x5.2 _ (by omega) (by omega)).trans ((hx4.2 _ (by omega) (by omega)).trans ((x3.2 _ (by omega) (by omega)).trans ((hx.2 _ (Nat.lt_succ_self _) (by omega)).trans (Ea S _))))
      have l1 := ld3b g5
      have l2 := ld66 g5
      by_cases hb : ((ts[i].num : Nat) : Int) > 9223372036854775807
      · rw [if_pos (show 9223372036854775807 < ts[i].num by omega)]
        have m : Mc Tryz.prog 33 (.agg [.v (.int .i64 (ts[i].pos : Int)), .v (.int .i64 3)]) = some (.iface 33 (.agg [.v (.int .i64 (ts[i].pos : Int)), .v (.int .i64 3)])) := fG ts[i].pos 3
        simp only [A3,A6,Bb,Bc,Cr,Bn,B4,C9,Cu,B5,Cs,Ct,Da,Bu,Be,Bo,Bp,A2,A9,Ba,A5,Dc,B6,Bm,Bh,A8,A4,Bi,Bg,Bf,Bq,Br,B9,Ca,Bv,C0,Cz,C1,A0,A1,C2,Dd,ofOpt,ofOptS,Bw,Dh,Di,Cj,Cl,Bk,Bl,C4,Bj,Df,A7,Bd,Cm,Cn,Co,Cp,Cq,B3,B1,Nat.reduceLT,Nat.reduceAdd,Nat.reduceEqDiff,Aa,Ab,reduceIte,Ac,Ad,Ae,Af,Ag,Ah,Ai,Aj,Ak,Al,Am,Ao,Ap,Aq,Ar,Au,Av,Aw,Option.toList,Ay,Az,Tryz.f212,Dp,q2,fd1,fd3,l1,l2,L5,hb,Xw,m]
        exact ⟨_, rfl, k1.trans (hx.trans (x3.trans (hx4.trans x5)))⟩
      · rw [if_neg (show ¬ 9223372036854775807 < ts[i].num by omega)]
        have q3 := Rx g2' rfl (show ([.v (.int .i64 1), .v (.int .i64 (ts[i].pos : Int)), .v (.int .i64 (IntKind.i64.wrap (ts[i].num : Int))), D5 [], .v (.bool false), .nils] : List AV).length = 6 from rfl)
        have l3 := ld30 (E9 S5 S.next [.v (.int .i64 1), .v (.int .i64 (ts[i].pos : Int)), .v (.int .i64 (IntKind.i64.wrap (ts[i].num : Int))), D5 [], .v (.bool false), .nils]) rfl
        simp only [A3,A6,Bb,Bc,Cr,Bn,B4,C9,Cu,B5,Cs,Ct,Da,Bu,Be,Bo,Bp,A2,A9,Ba,A5,Dc,B6,Bm,Bh,A8,A4,Bi,Bg,Bf,Bq,Br,B9,Ca,Bv,C0,Cz,C1,A0,A1,C2,Dd,ofOpt,ofOptS,Bw,Dh,Di,Cj,Cl,Bk,Bl,C4,Bj,Df,A7,Bd,Cm,Cn,Co,Cp,Cq,B3,B1,Nat.reduceLT,Nat.reduceAdd,Nat.reduceEqDiff,Aa,Ab,reduceIte,Ac,Ad,Ae,Af,Ag,Ah,Ai,Aj,Ak,Al,Am,Ao,Ap,Aq,Ar,Au,Av,Aw,Option.toList,Ay,Az,Tryz.f212,Dp,q2,fd1,fd3,l1,l2,L5,hb,Xo,Sz,gJ,b30n,q3,l3]
        have hi2 : i + 1 < ts.length := hts.more i hi (by rw [hk]; decide)
        refine ⟨_, _, rfl, .mk 1 ts[i].pos _ [] false .nils [] .nil, ?_, c5.put (by omega) _, hi2⟩
        exact Gw (k1.trans (hx.trans (x3.trans (hx4.trans x5)))) (Nat.le_refl _) _
    · rw [if_neg hk]
      refine WC.mono (Yv S3 p k ts i c3 (by omega) hi 2 hk) ?_
      rintro _ ⟨S4, rfl, hx4⟩
      simp only [A3,A6,Bb,Bc,Cr,Bn,B4,C9,Cu,B5,Cs,Ct,Da,Bu,Be,Bo,Bp,A2,A9,Ba,A5,Dc,B6,Bm,Bh,A8,A4,Bi,Bg,Bf,Bq,Br,B9,Ca,Bv,C0,Cz,C1,A0,A1,C2,Dd,ofOpt,ofOptS,Bw,Dh,Di,Cj,Cl,Bk,Bl,C4,Bj,Df,A7,Bd,Cm,Cn,Co,Cp,Cq,B3,B1,Nat.reduceLT,Nat.reduceAdd,Nat.reduceEqDiff,Aa,Ab,reduceIte,Ac,Ad,Ae,Af,Ag,Ah,Ai,Aj,Ak,Al,Am,Ao,Ap,Aq,Ar,Au,Av,Aw,Option.toList,Ay,Az,Tryz.f212]
      exact ⟨_, rfl, k1.trans (hx.trans (x3.trans (hx4.x p)))⟩
end Go.Ax
