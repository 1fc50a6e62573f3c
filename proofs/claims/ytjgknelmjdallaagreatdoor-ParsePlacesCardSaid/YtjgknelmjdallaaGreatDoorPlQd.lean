/-
  tree.Each: what it does with any closure that keeps a truth.
-/
import Derived.Test.YtjgknelmjdallaaGreatDoorPlQc
noncomputable section
namespace Go.Ax
open Go.RowKit Go.Proofs
set_option linter.unusedVariables false
set_option linter.unusedSimpArgs false
set_option maxRecDepth 100000

/-- What a box holds: a truth. -/
def Iz (q : Nat) (b : Bool) (S : St) : Prop := S.mem.get q = some (.box [.v (.bool b)])
def Gr (q : Nat) (S S' : St) : Prop := S.next ≤ S'.next ∧ ∀ id, id < S.next → id ≠ q → S'.mem.get id = S.mem.get id
theorem Gr.refl (q : Nat) (S : St) : Gr q S S := ⟨Nat.le_refl _, fun _ _ _ => rfl⟩
theorem Gr.trans {q : Nat} {S S1 S2 : St} (h : Gr q S S1) (k : Gr q S1 S2) : Gr q S S2 := ⟨Nat.le_trans h.1 k.1, fun id hid hn => (k.2 id (Nat.lt_of_lt_of_le hid h.1) hn).trans (h.2 id hid hn)⟩
theorem Fg.b {q : Nat} {S S' : St} (h : Fg S S') : Gr q S S' := ⟨h.1, fun id hid _ => h.2 id hid⟩
/-- Boxes that stand. -/
def Mw (q : Nat) (L : List (Nat × List AV)) (S : St) : Prop := 2 ≤ S.next ∧ q < S.next ∧ ∀ x ∈ L, x.1 ≠ q ∧ x.1 < S.next ∧ S.mem.get x.1 = some (.box x.2)
theorem Mw.keep {q : Nat} {L : List (Nat × List AV)} {S S' : St} (h : Mw q L S) (k : Gr q S S') : Mw q L S' := ⟨Nat.le_trans h.1 k.1, Nat.lt_of_lt_of_le h.2.1 k.1, fun x hx => ⟨(h.2.2 x hx).1, Nat.lt_of_lt_of_le (h.2.2 x hx).2.1 k.1, (k.2 _ (h.2.2 x hx).2.1 (h.2.2 x hx).1).trans (h.2.2 x hx).2.2⟩⟩
theorem Iz.keep {q : Nat} {b : Bool} {S S' : St} (h : Iz q b S) (hq : q < S.next) (k : Fg S S') : Iz q b S' := (k.2 q hq).trans h
/-- Of an expression, and all below it. -/
inductive AllP (B : PE → Prop) : PE → Prop where
  | mk (kind pos : Nat) (n : Int) (name : List UInt8) (off : Bool) (kids : List PE) (h : B (.mk kind pos n name off kids)) (hk : ∀ e ∈ kids, AllP B e) : AllP B (.mk kind pos n name off kids)
/-- A closure that looks at an expression, and keeps a truth, if it is as it should be. -/
def Sees (q : Nat) (L : List (Nat × List AV)) (K : Nat) (caps : List AV) (B : PE → Prop) : Prop := (∃ fn, E1.F K = some fn) ∧ ∀ (e : PE) (kv : AV) (S : St), B e → Rt kv → Mw q L S → Iz q true S → WC E1 K (.agg (J7 e kv) :: caps) S (fun r => ∃ S', r = .ret (.tup []) S' ∧ Iz q true S' ∧ Gr q S S')
theorem La (f : Fn) (a b : List AV) : Gz Tryz.prog 62 (.fn f a b) (.v .nilFunc) = true := by
  have h : (match Tryz.prog.underlying 62 with | some (.func _ _ _) => true | _ => false) = true := by kernel_rfl
  unfold Gz
  split at h
  · rename_i h2; rw [h2]
  · cases h
theorem nG : ∃ fn, E1.F 23 = some fn := Option.isSome_iff_exists.1 (by kernel_rfl)
noncomputable def Il : Code := match Tryz.f23.body with
  | some (.seq _ (.seq (.seq _ _) (.seq _ (.seq _ (.block _ (.loop c)))))) => c
  | some (.seq _ (.seq (.seq _ _) (.seq _ (.seq (.seq _ (.block _ (.loop c))) _)))) => c
  | some (.seq _ (.seq (.seq _ _) (.seq _ (.seq _ (.seq (.block _ (.loop c)) _))))) => c
  | some (.seq _ (.seq _ (.seq _ (.seq _ (.seq _ (.block _ (.loop c))))))) => c
  | _ => .skip
section
variable {q K : Nat} {L : List (Nat × List AV)} {caps : List AV} {B : PE → Prop}
def pB (q K : Nat) (L : List (Nat × List AV)) (caps : List AV) (e : PE) : Prop := ∀ (ys : List AV), RepE (.agg ys) e → ∀ (S : St), Mw q L S → Iz q true S → WC E1 23 [.agg ys, .fn (.func K) [] caps] S (fun r => ∃ S', r = .ret (.tup []) S' ∧ Iz q true S' ∧ Gr q S S')
set_option maxHeartbeats 16000000 in
theorem Sc (S0 : St) (tok off : Nat) (es : List AV) (hes : es.length ≤ 2000000) (kv : AV) (hkv : kv = .sl tok off 6 es ∨ es = []) : ∀ (suf : List PE) (j : Nat) (t : T AV) (S : St), RepF (es.drop j) suf → j ≤ es.length → (∀ e ∈ suf, pB q K L caps e) →
    t.get 1 = some (.fn (.func K) [] caps) → t.get 13 = some kv → t.get 14 = some (.v (.int .i64 (es.length : Int))) → t.get 15 = some (.v (.int .i64 (j : Int))) → Mw q L S → Iz q true S → Gr q S0 S → WX E1 23 (.loop Il) ⟨t, []⟩ S (fun r => ∃ t' S', r = .out (.exit 0) ⟨t', []⟩ S' ∧ Iz q true S' ∧ Gr q S0 S')
  | [], j, t, S, hr, hj, hd, h1, h13, h14, h15, hs, hf, hk => by
    refine Fc (Es ?_)
    have hl : j = es.length := by have := hr.len; rw [List.length_drop] at this; simp at this; omega
    have hlt : ¬ ((j : Int) < (es.length : Int)) := by omega
    simp only [A3,A6,Bb,Bc,Cr,Bn,B4,C9,Cu,B5,Cs,Ct,Da,Ci,Be,Bo,Bp,A2,A9,Ba,A5,De,B6,Bm,Bh,A8,A4,Bi,Bg,Bf,Bq,Br,B9,Ca,Bv,C0,Cz,C1,A0,A1,C2,Dd,ofOpt,ofOptS,Bw,Dh,Di,Cj,Cl,Bk,Bl,C4,Bj,Df,A7,Bd,Cm,Cn,Co,Cp,Cq,B3,B1,Nat.reduceLT,Nat.reduceAdd,Nat.reduceEqDiff,Aa,Ab,reduceIte,Ac,Ad,Ae,Af,Ag,Ah,Ai,Aj,Ak,Al,Am,Ao,Ap,Aq,Ar,Au,Av,Aw,Option.toList,Ay,Az,Tryz.f23,B7,B8,Do,Cb,fe5,Il,La,h1,h13,h14,h15,hlt]
    exact ⟨_, _, rfl, hf, hk⟩
  | e :: suf, j, t, S, hr, hj, hd, h1, h13, h14, h15, hs, hf, hk => by
    refine Fc (Es ?_)
    have hl : j < es.length := by have := hr.len; rw [List.length_drop] at this; simp at this; omega
    have hlt : ((j : Int) < (es.length : Int)) := by omega
    rw [List.drop_eq_getElem_cons hl] at hr
    obtain ⟨fn1, hf1⟩ := nG
    cases hr with
    | cons _ _ _ _ hr1 hr2 =>
    obtain ⟨ys, hy, hyl⟩ := hr1.agg
    rw [hy] at hr1
    have q0 : kv = .sl tok off 6 es := by
      rcases hkv with h | h
      · exact h
      · rw [h] at hl; cases hl
    subst q0
    have q1 := idx28 tok off es j hl ys hy
    have q2 := lep30 S ys hyl
    have q3 := Rx (Ea S exZ) rfl hyl
    have g3 := E9 (S.newBox exZ) S.next ys
    have k3 : Fg S ((S.newBox exZ).put S.next ys) := E5 (Eb S _) (Nat.le_refl _) _
    generalize hS3 : (S.newBox exZ).put S.next ys = S3 at q3 g3 k3
    have q4 := ld30 g3 hyl
    have w1 : IntKind.i64.wrap ((j : Int) + 1) = ((j + 1 : Nat) : Int) := Hv (j := 1) (by omega)
    simp only [A3,A6,Bb,Bc,Cr,Bn,B4,C9,Cu,B5,Cs,Ct,Da,Ci,Be,Bo,Bp,A2,A9,Ba,A5,De,B6,Bm,Bh,A8,A4,Bi,Bg,Bf,Bq,Br,B9,Ca,Bv,C0,Cz,C1,A0,A1,C2,Dd,ofOpt,ofOptS,Bw,Dh,Di,Cj,Cl,Bk,Bl,C4,Bj,Df,A7,Bd,Cm,Cn,Co,Cp,Cq,B3,B1,Nat.reduceLT,Nat.reduceAdd,Nat.reduceEqDiff,Aa,Ab,reduceIte,Ac,Ad,Ae,Af,Ag,Ah,Ai,Aj,Ak,Al,Am,Ao,Ap,Aq,Ar,Au,Av,Aw,Option.toList,Ay,Az,Tryz.f23,B7,B8,Do,Cb,fe5,Il,La,h1,h13,h14,h15,hlt,q1,q2,q3,q4,hf1]
    refine WC.mono (hd e (List.mem_cons_self ..) ys hr1 S3 (hs.keep k3.b) (hf.keep hs.2.1 k3)) ?_
    rintro _ ⟨S4, rfl, f4, k4⟩
    simp only [A3,A6,Bb,Bc,Cr,Bn,B4,C9,Cu,B5,Cs,Ct,Da,Ci,Be,Bo,Bp,A2,A9,Ba,A5,De,B6,Bm,Bh,A8,A4,Bi,Bg,Bf,Bq,Br,B9,Ca,Bv,C0,Cz,C1,A0,A1,C2,Dd,ofOpt,ofOptS,Bw,Dh,Di,Cj,Cl,Bk,Bl,C4,Bj,Df,A7,Bd,Cm,Cn,Co,Cp,Cq,B3,B1,Nat.reduceLT,Nat.reduceAdd,Nat.reduceEqDiff,Aa,Ab,reduceIte,Ac,Ad,Ae,Af,Ag,Ah,Ai,Aj,Ak,Al,Am,Ao,Ap,Aq,Ar,Au,Av,Aw,Option.toList,Ay,Az,Tryz.f23,B7,B8,Do,Cb,fe5,Il,La,h1,h13,h14,h15,w1]
    exact Sc S0 tok off es hes _ (.inl rfl) suf (j + 1) _ _ hr2 hl (fun e he => hd e (List.mem_cons_of_mem _ he)) (by simp [T.get_set, h1]) (by simp [T.get_set, h13]) (by simp [T.get_set, h14]) (by simp [T.get_set]) (hs.keep (k3.b.trans k4)) f4 (hk.trans (k3.b.trans k4))
set_option maxHeartbeats 16000000 in
theorem each_w (hsee : Sees q L K caps B) : ∀ {e : PE}, AllP (fun e => Wide e ∧ B e) e → pB q K L caps e := fun {e} hw => by
  obtain ⟨⟨fn3, hf3⟩, hsee⟩ := hsee
  induction hw with
  | mk kind pos n name off kids hWB hk ih =>
    obtain ⟨hwide, hB⟩ := hWB
    have hlen : kids.length ≤ 2000000 := by cases hwide; assumption
    intro ys hr S hs hfine
    have hrr := hr
    cases hr with
    | mk _ _ _ _ _ kv _ hkk =>
    refine Ek Tryz.f23 (by kernel_rfl) (by kernel_rfl) (by kernel_rfl) (show (_ : Nat) ≤ _ from by show (_ : Nat) ≤ _; simp [Tryz.f23]) ?_
    obtain ⟨fn1, hf1⟩ := nE
    have g1 := Ea S (exC kind pos n name off kv)
    have k1 := Eb S (exC kind pos n name off kv)
    have hs1 := hs.keep (k1.b (q := q))
    have hf1' := hfine.keep hs.2.1 k1
    generalize hS1 : S.newBox (exC kind pos n name off kv) = S1 at g1 k1 hs1 hf1'
    have l0 : Dw Tryz.prog S1 30 (.ptr S.next 0) = some (.agg (exC kind pos n name off kv)) := ld30 g1 rfl
    have lt1 : S.next < S1.next := by rw [← hS1]; exact Nat.lt_succ_self _
    simp only [A3,A6,Bb,Bc,Cr,Bn,B4,C9,Cu,B5,Cs,Ct,Da,Ci,Be,Bo,Bp,A2,A9,Ba,A5,De,B6,Bm,Bh,A8,A4,Bi,Bg,Bf,Bq,Br,B9,Ca,Bv,C0,Cz,C1,A0,A1,C2,Dd,ofOpt,ofOptS,Bw,Dh,Di,Cj,Cl,Bk,Bl,C4,Bj,Df,A7,Bd,Cm,Cn,Co,Cp,Cq,B3,B1,Nat.reduceLT,Nat.reduceAdd,Nat.reduceEqDiff,Aa,Ab,reduceIte,Ac,Ad,Ae,Af,Ag,Ah,Ai,Aj,Ak,Al,Am,Ao,Ap,Aq,Ar,Au,Av,Aw,Option.toList,Ay,Az,Tryz.f23,B7,B8,Do,Cb,fe5,Il,La,hS1,l0,hf1]
    refine WC.mono (copy_w hwide _ hrr S1 hs1.1) ?_
    rintro _ ⟨kv2, S2, rfl, hkv2, k2⟩
    simp only [A3,A6,Bb,Bc,Cr,Bn,B4,C9,Cu,B5,Cs,Ct,Da,Ci,Be,Bo,Bp,A2,A9,Ba,A5,De,B6,Bm,Bh,A8,A4,Bi,Bg,Bf,Bq,Br,B9,Ca,Bv,C0,Cz,C1,A0,A1,C2,Dd,ofOpt,ofOptS,Bw,Dh,Di,Cj,Cl,Bk,Bl,C4,Bj,Df,A7,Bd,Cm,Cn,Co,Cp,Cq,B3,B1,Nat.reduceLT,Nat.reduceAdd,Nat.reduceEqDiff,Aa,Ab,reduceIte,Ac,Ad,Ae,Af,Ag,Ah,Ai,Aj,Ak,Al,Am,Ao,Ap,Aq,Ar,Au,Av,Aw,Option.toList,Ay,Az,Tryz.f23,B7,B8,Do,Cb,fe5,Il,La,l0,hf3,J7]
    have hs2 := hs1.keep (k2.b (q := q))
    refine WC.mono (hsee (.mk kind pos n name off kids) kv2 S2 hB hkv2 hs2 (hf1'.keep hs1.2.1 k2)) ?_
    rintro _ ⟨S3, rfl, f3, k3⟩
    have hne : S.next ≠ q := fun e => by have := hs.2.1; omega
    have g3 : S3.mem.get S.next = some (.box (exC kind pos n name off kv)) := (k3.2 _ (Nat.lt_of_lt_of_le lt1 k2.1) hne).trans ((k2.2 _ lt1).trans g1)
    have l3 := Sx g3
    have k13 : Gr q S S3 := (k1.b.trans k2.b).trans k3
    have hs3 := hs2.keep k3
    cases hkk with
    | nil =>
      simp only [A3,A6,Bb,Bc,Cr,Bn,B4,C9,Cu,B5,Cs,Ct,Da,Ci,Be,Bo,Bp,A2,A9,Ba,A5,De,B6,Bm,Bh,A8,A4,Bi,Bg,Bf,Bq,Br,B9,Ca,Bv,C0,Cz,C1,A0,A1,C2,Dd,ofOpt,ofOptS,Bw,Dh,Di,Cj,Cl,Bk,Bl,C4,Bj,Df,A7,Bd,Cm,Cn,Co,Cp,Cq,B3,B1,Nat.reduceLT,Nat.reduceAdd,Nat.reduceEqDiff,Aa,Ab,reduceIte,Ac,Ad,Ae,Af,Ag,Ah,Ai,Aj,Ak,Al,Am,Ao,Ap,Aq,Ar,Au,Av,Aw,Option.toList,Ay,Az,Tryz.f23,B7,B8,Do,Cb,fe5,Il,La,l3,dA]
      refine WX.mono (Sc (q := q) (K := K) (L := L) (caps := caps) S 0 0 [] (by simp) .nils (.inr rfl) [] 0 _ S3 .nil (by simp) (fun e h => by cases h) (by simp [T.get_set]) (by simp [T.get_set]) (by simp [T.get_set]) (by simp [T.get_set]) hs3 f3 k13) ?_
      rintro _ ⟨t', S', rfl, f9, k9⟩
      simp only [A3,A6,Bb,Bc,Cr,Bn,B4,C9,Cu,B5,Cs,Ct,Da,Ci,Be,Bo,Bp,A2,A9,Ba,A5,De,B6,Bm,Bh,A8,A4,Bi,Bg,Bf,Bq,Br,B9,Ca,Bv,C0,Cz,C1,A0,A1,C2,Dd,ofOpt,ofOptS,Bw,Dh,Di,Cj,Cl,Bk,Bl,C4,Bj,Df,A7,Bd,Cm,Cn,Co,Cp,Cq,B3,B1,Nat.reduceLT,Nat.reduceAdd,Nat.reduceEqDiff,Aa,Ab,reduceIte,Ac,Ad,Ae,Af,Ag,Ah,Ai,Aj,Ak,Al,Am,Ao,Ap,Aq,Ar,Au,Av,Aw,Option.toList,Ay,Az,Tryz.f23,B7,B8,Do,Cb,fe5,Il,La]
      exact ⟨_, rfl, f9, k9⟩
    | row tok o es _ hf =>
      have hl := hf.len
      simp only [A3,A6,Bb,Bc,Cr,Bn,B4,C9,Cu,B5,Cs,Ct,Da,Ci,Be,Bo,Bp,A2,A9,Ba,A5,De,B6,Bm,Bh,A8,A4,Bi,Bg,Bf,Bq,Br,B9,Ca,Bv,C0,Cz,C1,A0,A1,C2,Dd,ofOpt,ofOptS,Bw,Dh,Di,Cj,Cl,Bk,Bl,C4,Bj,Df,A7,Bd,Cm,Cn,Co,Cp,Cq,B3,B1,Nat.reduceLT,Nat.reduceAdd,Nat.reduceEqDiff,Aa,Ab,reduceIte,Ac,Ad,Ae,Af,Ag,Ah,Ai,Aj,Ak,Al,Am,Ao,Ap,Aq,Ar,Au,Av,Aw,Option.toList,Ay,Az,Tryz.f23,B7,B8,Do,Cb,fe5,Il,La,l3,mN]
      refine WX.mono (Sc (q := q) (K := K) (L := L) (caps := caps) S tok o es (by omega) (.sl tok o 6 es) (.inl rfl) kids 0 _ S3 hf (by omega) ih (by simp [T.get_set]) (by simp [T.get_set]) (by simp [T.get_set]) (by simp [T.get_set]) hs3 f3 k13) ?_
      rintro _ ⟨t', S', rfl, f9, k9⟩
      simp only [A3,A6,Bb,Bc,Cr,Bn,B4,C9,Cu,B5,Cs,Ct,Da,Ci,Be,Bo,Bp,A2,A9,Ba,A5,De,B6,Bm,Bh,A8,A4,Bi,Bg,Bf,Bq,Br,B9,Ca,Bv,C0,Cz,C1,A0,A1,C2,Dd,ofOpt,ofOptS,Bw,Dh,Di,Cj,Cl,Bk,Bl,C4,Bj,Df,A7,Bd,Cm,Cn,Co,Cp,Cq,B3,B1,Nat.reduceLT,Nat.reduceAdd,Nat.reduceEqDiff,Aa,Ab,reduceIte,Ac,Ad,Ae,Af,Ag,Ah,Ai,Aj,Ak,Al,Am,Ao,Ap,Aq,Ar,Au,Av,Aw,Option.toList,Ay,Az,Tryz.f23,B7,B8,Do,Cb,fe5,Il,La]
      exact ⟨_, rfl, f9, k9⟩
end
end Go.Ax
