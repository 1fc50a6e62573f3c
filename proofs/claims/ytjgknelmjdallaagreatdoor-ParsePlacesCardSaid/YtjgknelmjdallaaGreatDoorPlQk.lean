/-
  ParsePlaces, D6 its awake: true.
-/
import Derived.Test.YtjgknelmjdallaaGreatDoorPlQj
noncomputable section
namespace Go.Ax
open Go.RowKit Go.Proofs
set_option linter.unusedVariables false
set_option linter.unusedSimpArgs false
set_option maxRecDepth 100000

theorem al4 (S : St) : Hr Tryz.prog S 4 = some (.ptr S.next 0, S.newBox [.v (.bool false)]) := by kernel_rfl
theorem al45 (S : St) : Hr Tryz.prog S 45 = some (.ptr S.next 0, S.newBox [.v .nilFunc]) := by kernel_rfl
theorem st45 {S : St} {id : Nat} {x : AV} {f : Fn} {a b : List AV} (h : S.mem.get id = some (.box [x])) : Du Tryz.prog S 45 (.ptr id 0) (.fn f a b) = some (S.put id [.fn f a b]) := by
  have s45 : Fj Tryz.prog 45 = some 1 := by kernel_rfl
  have h2 : (AV.fn f a b).noTup = true := rfl
  simp [Du, h, s45, h2, AV.cells, St.put]
theorem st4' {S : St} {id : Nat} {x : AV} (h : S.mem.get id = some (.box [x])) (c : Bool) : Du Tryz.prog S 4 (.ptr id 0) (.v (.bool c)) = some (S.put id [.v (.bool c)]) := by
  have s4 : Fj Tryz.prog 4 = some 1 := by kernel_rfl
  have h2 : (AV.v (.bool c)).noTup = true := rfl
  simp [Du, h, s4, h2, AV.cells, St.put]
theorem bd33 : Gk Tryz.prog 33 [] = some (.agg (Eo 0 0)) := by kernel_rfl
theorem mM (S : St) : Ji Tryz.prog S 40 .nils = some 0 := by kernel_rfl
theorem len40 (S : St) (tok off : Nat) (es : List AV) : Ji Tryz.prog S 40 (.sl tok off 6 es) = some es.length := by
  have u40 : Tryz.prog.underlying 40 = some (.slice 49) := by kernel_rfl
  simp [Ji, u40]
theorem nn33 (a b : AV) : Gz Tryz.prog 33 a b = false := by
  have u33 : (match Tryz.prog.underlying 33 with | some (.struct _) => true | _ => false) = true := by kernel_rfl
  unfold Gz
  split at u33
  · rename_i h; rw [h]
  · cases u33
theorem fb33 (x y : List AV) : E8 .neq (.agg x) (.agg y) = none := rfl
noncomputable def dG (P : Program) (t : TypeId) : Bool := match P.underlying t with
  | some (.int _) => true
  | _ => false
theorem aT {P : Program} {t : TypeId} (h : dG P t = true) : ∃ k, P.underlying t = some (.int k) := by
  unfold dG at h
  split at h
  · rename_i k hk; exact ⟨k, hk⟩
  · cases h
noncomputable def fC (P : Program) (f : Field) (o : Nat) : Bool := !decide (f.name = "_") && decide (f.offset = o) && decide (Fv P f.type = some false) && dG P f.type
noncomputable def nI : Bool := match fieldsOf Tryz.prog 33 with
  | some fs => (match fs.toList with
    | [f, g] => fC Tryz.prog f 0 && fC Tryz.prog g 1 && !(Tryz.prog.stoodInHeld 33) && !(Tryz.prog.eqGuardType Tryz.prog.depth 33)
    | _ => false)
  | none => false
theorem jF : nI = true := by kernel_rfl
theorem Uu {P : Program} {f : Field} {o : Nat} (h : fC P f o = true) : f.name ≠ "_" ∧ f.offset = o ∧ Fv P f.type = some false ∧ ∃ k, P.underlying f.type = some (.int k) := by
  unfold fC at h
  simp only [Bool.and_eq_true,decide_eq_true_eq,Bool.not_eq_true',decide_eq_false_iff_not] at h
  exact ⟨h.1.1.1, h.1.1.2, h.1.2, aT h.2⟩
theorem fq33 (a e : Int) : Nr Tryz.prog .neq 33 (.agg [.v (.int .i64 a), .v (.int .i64 e)]) (.agg [.v (.int .i64 0), .v (.int .i64 0)]) = some (.v (.bool (!((a == 0) && ((e == 0) && true))))) := by
  have h := jF
  unfold nI at h
  split at h
  · rename_i fs hfs
    split at h
    · rename_i f g hl
      simp only [Bool.and_eq_true,Bool.not_eq_true'] at h
      obtain ⟨⟨⟨h1, h2⟩, h3⟩, h4⟩ := h
      obtain ⟨f1, f2, f3, k1, f4⟩ := Uu h1
      obtain ⟨g1, g2, g3, k2, g4⟩ := Uu h2
      cases ha : (a == 0) <;> cases he : (e == 0) <;> simp [Nr, hfs, h3, h4, hl, Vk, f1, f2, f3, g1, g2, g3, Za, f4, g4, ha, he]
    · cases h
  · cases h
theorem eq33 (f : T AV) (S : St) (o : Oper) (a e : Nat) : Ns Tryz.prog gR f S o .neq 33 (.agg (Eo a e)) (.agg (Eo 0 0)) = .val (.v (.bool (!(((a : Int) == 0) && (((e : Int) == 0) && true))))) S := by
  unfold Ns
  have h : Nr Tryz.prog .neq 33 (.agg (Eo a e)) (.agg (Eo 0 0)) = some (.v (.bool (!(((a : Int) == 0) && (((e : Int) == 0) && true))))) := fq33 a e
  rw [h]
theorem eq33z (f : T AV) (S : St) (o : Oper) : Ns Tryz.prog gR f S o .neq 33 (.agg (Eo 0 0)) (.agg (Eo 0 0)) = .val (.v (.bool false)) S := eq33 f S o 0 0
noncomputable def Nb : Code := match Tryz.f5.body with
  | some (.seq _ (.seq _ (.seq _ r))) => r
  | _ => .skip
set_option maxHeartbeats 4000000 in
theorem cV (t : T AV) (S : St) (h32 : t.get 32 = some (.v (.int .i64 0))) (h33 : t.get 33 = some (.v (.int .i64 0))) : WX E1 85 (.loop (Gj 0)) ⟨t, []⟩ S (fun r => ∃ t', r = .out (.exit 0) ⟨t', []⟩ S ∧ (∀ k, k < 33 → t'.get k = t.get k)) := by
  refine Fc (Es ?_)
  have hlt : ¬ ((0 : Int) < (0 : Int)) := by omega
  simp only [↓D1,E7,E6,A3,A6,Bb,Bc,Cr,Bn,B4,C9,Cu,B5,Cs,Ct,Da,Ci,Ee,Ey,Ez,Dv,D8,D9,D2,De,B6,Bm,Ei,D7,D0,Ej,Eg,Ef,E3,E4,Fd,Fe,Bv,C0,Cz,C1,A0,A1,C2,Dd,ofOpt,ofOptS,Bw,Dh,Di,Cj,Cl,Bk,Bl,C4,Bj,Df,A7,Bd,Cm,Cn,Co,Cp,Cq,B3,B1,Nat.reduceLT,Nat.reduceAdd,Nat.reduceEqDiff,Aa,Ab,reduceIte,Ac,Ad,Ae,Af,Ag,Ah,Ai,Aj,Ak,Al,Am,Ao,Ap,Aq,Ar,Au,Av,Aw,Option.toList,Ay,Az,Tryz.f5,Et,Gj,h32,h33,hlt]
  refine ⟨_, rfl, fun k h1 => ?_⟩
  rw [T.get_set, if_neg (by omega)]
def EndsT (r : O) : Prop := ∃ f' S', r = .out .ret ⟨f', []⟩ S' ∧ f'.get 2 = some (.v (.bool true))
theorem fnOk19 : ∃ fn, E1.F 19 = some fn := Option.isSome_iff_exists.1 (by kernel_rfl)
set_option maxHeartbeats 16000000 in
theorem pp_rest (s : List UInt8) (hs : s.length ≤ 1500) (out : (Nat × Nat) ⊕ List Tk) (hlx : Me s = some out) (S : St) (tx : Nat) (h2 : 2 ≤ S.next) (htx : tx < S.next) (ht : S.mem.get tx = some (.box [D5 s])) (t : T AV) (h1 : t.get 1 = some (.ptr tx 0)) : W E1 85 Nb ⟨t, []⟩ S EndsT := by
  obtain ⟨fn1, hf1⟩ := fnOk19
  obtain ⟨hr1, hr2⟩ := read_s hlx
  have l1 := ld9t ht
  simp only [↓D1,E7,E6,A3,A6,Bb,Bc,Cr,Bn,B4,C9,Cu,B5,Cs,Ct,Da,Ci,Ee,Ey,Ez,Dv,D8,D9,D2,De,B6,Bm,Ei,D7,D0,Ej,Eg,Ef,E3,E4,Fd,Fe,Bv,C0,Cz,C1,A0,A1,C2,Dd,ofOpt,ofOptS,Bw,Dh,Di,Cj,Cl,Bk,Bl,C4,Bj,Df,A7,Bd,Cm,Cn,Co,Cp,Cq,B3,B1,Nat.reduceLT,Nat.reduceAdd,Nat.reduceEqDiff,Aa,Ab,reduceIte,Ac,Ad,Ae,Af,Ag,Ah,Ai,Aj,Ak,Al,Am,Ao,Ap,Aq,Ar,Au,Av,Aw,Option.toList,Ay,Az,Tryz.f5,B7,B8,Cb,Jt,Nb,h1,l1,hf1]
  refine WC.mono (Us s S h2 (by omega) out hlx 70000 (by decide) hr1) ?_
  cases hR : Pj 70000 out with
  | none => exact absurd hR hr1
  | some y =>
    cases y with
    | inl ns =>
      obtain ⟨hg, hnl⟩ := hr2 ns hR
      rintro _ ⟨v, S2, rfl, ⟨tok, off, es, rfl, hrows⟩, k2⟩
      have q1 : Du Tryz.prog (S2.newBox (Eo 0 0)) 33 (.ptr S2.next 0) (.agg (Eo 0 0)) = some ((S2.newBox (Eo 0 0)).put S2.next (Eo 0 0)) := Rw (Ea S2 _) rfl rfl
      have q2 := Jm (S2.newBox (Eo 0 0)) S2.next (Eo 0 0) rfl
      have k3 : Fg S2 ((S2.newBox (Eo 0 0)).put S2.next (Eo 0 0)) := E5 (Eb S2 _) (Nat.le_refl _) _
      generalize hS3 : (S2.newBox (Eo 0 0)).put S2.next (Eo 0 0) = S3 at q1 q2 k3
      have q3 := st4' (Ea S3 [.v (.bool false)]) true
      have k4 : Fg S3 ((S3.newBox [.v (.bool false)]).put S3.next [.v (.bool true)]) := E5 (Eb S3 _) (Nat.le_refl _) _
      have f4 : Iz S3.next true ((S3.newBox [.v (.bool false)]).put S3.next [.v (.bool true)]) := E9 _ _ _
      have n4 : ((S3.newBox [.v (.bool false)]).put S3.next [.v (.bool true)]).next = S3.next + 1 := rfl
      generalize hS4 : (S3.newBox [.v (.bool false)]).put S3.next [.v (.bool true)] = S4 at q3 k4 f4 n4
      have q4 := st45 (f := .func 21) (a := []) (b := [.ptr S3.next 0, .ptr tx 0]) (Ea S4 [.v .nilFunc])
      have k5 : Fg S4 ((S4.newBox [.v .nilFunc]).put S4.next [.fn (.func 21) [] [.ptr S3.next 0, .ptr tx 0]]) := E5 (Eb S4 _) (Nat.le_refl _) _
      have g5 : ((S4.newBox [.v .nilFunc]).put S4.next [.fn (.func 21) [] [.ptr S3.next 0, .ptr tx 0]]).mem.get S4.next = some (.box [Hz S3.next tx]) := E9 _ _ _
      have n5 : ((S4.newBox [.v .nilFunc]).put S4.next [.fn (.func 21) [] [.ptr S3.next 0, .ptr tx 0]]).next = S4.next + 1 := rfl
      generalize hS5 : (S4.newBox [.v .nilFunc]).put S4.next [.fn (.func 21) [] [.ptr S3.next 0, .ptr tx 0]] = S5 at q4 k5 g5 n5
      have m1 := k2.1; have m2 := k3.1; have m3 := k4.1; have m4 := k5.1
      have ht5 : S5.mem.get tx = some (.box [D5 s]) := (k5.2 _ (by omega)).trans ((k4.2 _ (by omega)).trans ((k3.2 _ (by omega)).trans ((k2.2 _ htx).trans ht)))
      have hS5' : Mw S3.next [(tx, [D5 s]), (S4.next, [Hz S3.next tx])] S5 := ⟨by omega, by omega, fun x hx => by
        simp at hx
        rcases hx with rfl | rfl
        · exact ⟨(by show tx ≠ _; omega), (by show tx < _; omega), ht5⟩
        · exact ⟨(by show S4.next ≠ _; omega), (by show S4.next < _; omega), g5⟩⟩
      have f5 : Iz S3.next true S5 := f4.keep (by omega) k5
      have r1 := len40 S5 tok off es
      have hel : es.length = ns.length := hrows.len5
      have nk := fun t1 b1 b2 b3 b4 => U1 (q := S3.next) (tx := tx) (st := S4.next) (s := s) (by omega) (L := s.length + 1) (by omega) S5 tok off es ns hrows (by omega) hg t1 es.length 0 t1 S5 (by omega) (fun _ _ _ _ _ _ => rfl) b1 b2 b3 b4 hS5' f5 (Gr.refl _ S5)
      unfold Gj at nk
      simp only [Tryz.f5,Et,Nat.reduceEqDiff,Aa,Ab,reduceIte] at nk
      simp only [↓D1,E7,E6,A3,A6,Bb,Bc,Cr,Bn,B4,C9,Cu,B5,Cs,Ct,Da,Ci,Ee,Ey,Ez,Dv,D8,D9,D2,De,B6,Bm,Ei,D7,D0,Ej,Eg,Ef,E3,E4,Fd,Fe,Bv,C0,Cz,C1,A0,A1,C2,Dd,ofOpt,ofOptS,Bw,Dh,Di,Cj,Cl,Bk,Bl,C4,Bj,Df,A7,Bd,Cm,Cn,Co,Cp,Cq,B3,B1,Nat.reduceLT,Nat.reduceAdd,Nat.reduceEqDiff,Aa,Ab,reduceIte,Ac,Ad,Ae,Af,Ag,Ah,Ai,Aj,Ak,Al,Am,Ao,Ap,Aq,Ar,Au,Av,Aw,Option.toList,Ay,Az,Tryz.f5,B7,B8,Cb,Jt,Nb,h1,q1,q2,q3,q4,bd33,nn33,fb33,eq33z,al4,al45,r1]
      refine WX.mono (nk _ (by simp [T.get_set]) (by simp [T.get_set]) (by simp [T.get_set]) (by simp [T.get_set])) ?_
      rintro r ⟨t9, S9, rfl, p9, f9, k9⟩
      have d5 := (p9 5 (by decide) (by decide) (by decide) (by decide) (by decide)).trans (by simp [T.get_set] : _ = some (AV.ptr S3.next 0))
      have l9 := ld4q f9
      simp only [↓D1,E7,E6,A3,A6,Bb,Bc,Cr,Bn,B4,C9,Cu,B5,Cs,Ct,Da,Ci,Ee,Ey,Ez,Dv,D8,D9,D2,De,B6,Bm,Ei,D7,D0,Ej,Eg,Ef,E3,E4,Fd,Fe,Bv,C0,Cz,C1,A0,A1,C2,Dd,ofOpt,ofOptS,Bw,Dh,Di,Cj,Cl,Bk,Bl,C4,Bj,Df,A7,Bd,Cm,Cn,Co,Cp,Cq,B3,B1,Nat.reduceLT,Nat.reduceAdd,Nat.reduceEqDiff,Aa,Ab,reduceIte,Ac,Ad,Ae,Af,Ag,Ah,Ai,Aj,Ak,Al,Am,Ao,Ap,Aq,Ar,Au,Av,Aw,Option.toList,Ay,Az,Tryz.f5,B7,B8,Cb,Jt,Nb,d5,l9]
      exact ⟨_, _, rfl, by simp [T.get_set]⟩
    | inr y =>
      rintro _ ⟨S2, rfl, k2⟩
      have q1 : Du Tryz.prog (S2.newBox (Eo 0 0)) 33 (.ptr S2.next 0) (.agg (Eo y.1 y.2)) = some ((S2.newBox (Eo 0 0)).put S2.next (Eo y.1 y.2)) := Rw (Ea S2 _) rfl rfl
      have q2 := Jm (S2.newBox (Eo 0 0)) S2.next (Eo y.1 y.2) rfl
      generalize hS3 : (S2.newBox (Eo 0 0)).put S2.next (Eo y.1 y.2) = S3 at q1 q2
      have e33 := fun f S o => eq33 f S o y.1 y.2
      generalize hb : (((y.1 : Nat) : Int) == 0 && (((y.2 : Nat) : Int) == 0 && true)) = bb at e33
      cases bb with
      | false =>
        simp only [↓D1,E7,E6,A3,A6,Bb,Bc,Cr,Bn,B4,C9,Cu,B5,Cs,Ct,Da,Ci,Ee,Ey,Ez,Dv,D8,D9,D2,De,B6,Bm,Ei,D7,D0,Ej,Eg,Ef,E3,E4,Fd,Fe,Bv,C0,Cz,C1,A0,A1,C2,Dd,ofOpt,ofOptS,Bw,Dh,Di,Cj,Cl,Bk,Bl,C4,Bj,Df,A7,Bd,Cm,Cn,Co,Cp,Cq,B3,B1,Nat.reduceLT,Nat.reduceAdd,Nat.reduceEqDiff,Aa,Ab,reduceIte,Ac,Ad,Ae,Af,Ag,Ah,Ai,Aj,Ak,Al,Am,Ao,Ap,Aq,Ar,Au,Av,Aw,Option.toList,Ay,Az,Tryz.f5,B7,B8,Cb,Jt,Nb,h1,q1,q2,bd33,nn33,fb33,e33,mM]
        exact ⟨_, _, rfl, by simp [T.get_set]⟩
      | true =>
        have q3 := st4' (Ea S3 [.v (.bool false)]) true
        have f4 : Iz S3.next true ((S3.newBox [.v (.bool false)]).put S3.next [.v (.bool true)]) := E9 _ _ _
        have n4 : ((S3.newBox [.v (.bool false)]).put S3.next [.v (.bool true)]).next = S3.next + 1 := rfl
        generalize hS4 : (S3.newBox [.v (.bool false)]).put S3.next [.v (.bool true)] = S4 at q3 f4 n4
        have q4 := st45 (f := .func 21) (a := []) (b := [.ptr S3.next 0, .ptr tx 0]) (Ea S4 [.v .nilFunc])
        have k5 : Fg S4 ((S4.newBox [.v .nilFunc]).put S4.next [.fn (.func 21) [] [.ptr S3.next 0, .ptr tx 0]]) := E5 (Eb S4 _) (Nat.le_refl _) _
        generalize hS5 : (S4.newBox [.v .nilFunc]).put S4.next [.fn (.func 21) [] [.ptr S3.next 0, .ptr tx 0]] = S5 at q4 k5
        have f5 : Iz S3.next true S5 := f4.keep (by omega) k5
        have r1 := mM S5
        have l9 := ld4q f5
        have nk := fun t1 b1 b2 => cV t1 S5 b1 b2
        unfold Gj at nk
        simp only [Tryz.f5,Et,Nat.reduceEqDiff,Aa,Ab,reduceIte] at nk
        simp only [↓D1,E7,E6,A3,A6,Bb,Bc,Cr,Bn,B4,C9,Cu,B5,Cs,Ct,Da,Ci,Ee,Ey,Ez,Dv,D8,D9,D2,De,B6,Bm,Ei,D7,D0,Ej,Eg,Ef,E3,E4,Fd,Fe,Bv,C0,Cz,C1,A0,A1,C2,Dd,ofOpt,ofOptS,Bw,Dh,Di,Cj,Cl,Bk,Bl,C4,Bj,Df,A7,Bd,Cm,Cn,Co,Cp,Cq,B3,B1,Nat.reduceLT,Nat.reduceAdd,Nat.reduceEqDiff,Aa,Ab,reduceIte,Ac,Ad,Ae,Af,Ag,Ah,Ai,Aj,Ak,Al,Am,Ao,Ap,Aq,Ar,Au,Av,Aw,Option.toList,Ay,Az,Tryz.f5,B7,B8,Cb,Jt,Nb,h1,q1,q2,q3,q4,bd33,nn33,fb33,e33,al4,al45,r1]
        refine WX.mono (nk _ (by simp [T.get_set]) (by simp [T.get_set])) ?_
        rintro r ⟨t9, rfl, p9⟩
        have d5 := (p9 5 (by decide)).trans (by simp [T.get_set] : _ = some (AV.ptr S3.next 0))
        simp only [↓D1,E7,E6,A3,A6,Bb,Bc,Cr,Bn,B4,C9,Cu,B5,Cs,Ct,Da,Ci,Ee,Ey,Ez,Dv,D8,D9,D2,De,B6,Bm,Ei,D7,D0,Ej,Eg,Ef,E3,E4,Fd,Fe,Bv,C0,Cz,C1,A0,A1,C2,Dd,ofOpt,ofOptS,Bw,Dh,Di,Cj,Cl,Bk,Bl,C4,Bj,Df,A7,Bd,Cm,Cn,Co,Cp,Cq,B3,B1,Nat.reduceLT,Nat.reduceAdd,Nat.reduceEqDiff,Aa,Ab,reduceIte,Ac,Ad,Ae,Af,Ag,Ah,Ai,Aj,Ak,Al,Am,Ao,Ap,Aq,Ar,Au,Av,Aw,Option.toList,Ay,Az,Tryz.f5,B7,B8,Cb,Jt,Nb,d5,l9]
        exact ⟨_, _, rfl, by simp [T.get_set]⟩
end Go.Ax
