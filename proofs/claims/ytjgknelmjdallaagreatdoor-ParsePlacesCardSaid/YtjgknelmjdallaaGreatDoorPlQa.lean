/-
  slices.Concat of rows of declarations; tree.All: what they answer of any rows.
-/
import Derived.Test.YtjgknelmjdallaaGreatDoorPlPh
noncomputable section
namespace Go.Ax
open Go.RowKit Go.Proofs
set_option linter.unusedVariables false
set_option linter.unusedSimpArgs false
set_option maxRecDepth 100000

/-- What stands for a row of declarations. -/
def K4 (v : AV) (es : List AV) : Prop := (v = .nils ∧ es = []) ∨ ∃ tok off, v = .sl tok off 6 es
def O8 : List AV → List (List AV) → Prop
  | [], [] => True
  | v :: r, e :: l => K4 v e ∧ O8 r l
  | _, _ => False
theorem H4 : ∀ {vs : List AV} {es : List (List AV)}, O8 vs es → vs.length = es.length
  | [], [], _ => rfl
  | _ :: r, _ :: l, h => by simp [H4 h.2]
  | [], _ :: _, h => h.elim
  | _ :: _, [], h => h.elim
theorem Ki : ∀ {vs : List AV} {es : List (List AV)}, O8 vs es → ∀ (i : Nat) (h : i < vs.length) (h2 : i < es.length), K4 vs[i] es[i]
  | [], [], _, i, h, _ => absurd h (Nat.not_lt_zero i)
  | _ :: r, _ :: l, h, 0, _, _ => h.1
  | _ :: r, _ :: l, h, i + 1, h1, h2 => Ki h.2 i (by simpa using h1) (by simpa using h2)
  | [], _ :: _, h, _, _, _ => h.elim
  | _ :: _, [], h, _, _, _ => h.elim
def My (es : List (List AV)) : Nat := (es.map List.length).sum
theorem Wn (es : List (List AV)) (i : Nat) (h : i < es.length) : My (es.take (i + 1)) = My (es.take i) + es[i].length := by
  unfold My
  rw [List.take_succ_eq_append_getElem h, List.map_append, List.sum_append]
  simp
theorem X7 : ∀ (es : List (List AV)) (i : Nat), My (es.take i) ≤ My es
  | [], i => by simp
  | e :: r, 0 => by simp [My]
  | e :: r, i + 1 => by
    have := X7 r i
    unfold My at this ⊢
    simp only [List.take_succ_cons,List.map_cons,List.sum_cons]; omega
theorem Qg (es : List (List AV)) : es.flatten.length = My es := by unfold My; rw [List.length_flatten]
theorem u46 : Tryz.prog.underlying 46 = some (.slice 54) := T5
theorem e46 : Gu Tryz.prog 46 = some (none, 54) := by kernel_rfl
theorem len46 (S : St) {v : AV} {es : List AV} (h : K4 v es) : Ji Tryz.prog S 46 v = some es.length := by
  rcases h with ⟨rfl, rfl⟩ | ⟨tok, off, rfl⟩ <;> simp [Ji, u46]
theorem e159 : Gu Tryz.prog 159 = some (none, 46) := by kernel_rfl
theorem u159 : Tryz.prog.underlying 159 = some (.slice 46) := by kernel_rfl
theorem s46' : Fj Tryz.prog 46 = some 1 := by kernel_rfl
theorem a46 : Fv Tryz.prog 46 = some false := by kernel_rfl
theorem len159 (S : St) (tok off : Nat) (es : List AV) : Ji Tryz.prog S 159 (.sl tok off 1 es) = some es.length := by simp [Ji, u159]
theorem Kj {v : AV} {es : List AV} (h : K4 v es) : v.cells = [v] := by
  rcases h with ⟨rfl, rfl⟩ | ⟨tok, off, rfl⟩ <;> rfl
theorem mV (tok off : Nat) (vs : List AV) (hc : ∀ v ∈ vs, v.cells = [v]) (i : Nat) (h : i < vs.length) : Ff Tryz.prog 159 (.sl tok off 1 vs) (.v (.int .i64 (i : Int))) = some (.ep [vs[i]]) := by
  have h0 : (0 : Int) ≤ (i : Int) := by omega
  have hx := hc _ (List.getElem_mem h)
  simp [Ff, h0, e159, s46', h, hx]
theorem mH (S : St) (x : AV) : Dw Tryz.prog S 46 (.ep [x]) = some x := by simp [Dw, D6, a46]
/-- The row that is being made. -/
def Acc (g : Prop) (lo : Nat) (S : St) (v : AV) (es : List AV) : Prop := (v = .nils ∧ es = []) ∨ ∃ tok, v = .sl tok 0 6 es ∧ 2 ≤ tok ∧ lo ≤ tok ∧ tok < S.next ∧ S.mem.get tok = some (.tip (es.length * 6)) ∧ (es ≠ [] ∨ g)
/-- A row: nil, or of at least one. -/
def rowN (v : AV) (es : List AV) : Prop := (v = .nils ∧ es = []) ∨ (es ≠ [] ∧ ∃ tok off, v = .sl tok off 6 es)
theorem rowN.is {v : AV} {es : List AV} (h : rowN v es) : K4 v es := h.elim .inl (fun h => .inr h.2)
theorem app46c (S : St) (a b : AV) : G6 E1 S 46 46 a b = Fp Tryz.prog S 46 46 a b := rfl
theorem oS {g : Prop} {lo : Nat} {S : St} {v x : AV} {es ns : List AV} (h : Acc g lo S v es) (hx : K4 x ns) (hn : 2 ≤ S.next) (hlo : lo ≤ S.next) (hl : es.length + ns.length ≤ 1000000) :
    ∃ v' S', G6 E1 S 46 46 v x = some (v', S') ∧ Acc g lo S' v' (es ++ ns) ∧ S.next ≤ S'.next ∧ ∀ id, id < lo → S'.mem.get id = S.mem.get id := by
  obtain ⟨i, hi, hz0, hz1, hz2⟩ := Gg aW
  have hsrc : Kh Tryz.prog 46 6 x = some ns := by
    rcases hx with ⟨rfl, rfl⟩ | ⟨tok, off, rfl⟩ <;> simp [Kh, u46]
  rw [app46c]
  cases ns with
  | nil =>
    refine ⟨v, S, ?_, by rw [List.append_nil]; exact h, Nat.le_refl _, fun _ _ => rfl⟩
    rcases h with ⟨rfl, rfl⟩ | ⟨tok, rfl, _⟩ <;> simp [Fp, e46, hi, hz0, hz1, hz2, hsrc, Value.cells]
  | cons y r =>
    have hb1 : (es.length + (r.length + 1)) * 56 ≤ 140737488355328 := by simp at hl; omega
    have hb2 : es.length + (r.length + 1) ≤ 9223372036854775807 := by simp at hl; omega
    rcases h with ⟨rfl, rfl⟩ | ⟨tok, rfl, h1, h2, h3, h5, h6⟩
    · refine ⟨.sl S.next 0 6 (y :: r), S.grown 1 ((y :: r).length * 6), ?_, .inr ⟨S.next, rfl, hn, hlo, Nat.lt_succ_self _, ?_, .inl (by simp)⟩, Nat.le_succ _, fun id hid => ?_⟩
      · have hb3 : (r.length + 1) * 56 ≤ 140737488355328 := by simp at hb1; omega
        have hb4 : r.length + 1 ≤ 9223372036854775807 := by omega
        simp [Fp, e46, hi, hz0, hz1, hz2, hsrc, Value.cells, hb3, hb4]
      · show (S.mem.set S.next _).get S.next = _
        rw [T.get_set, if_pos rfl]; rfl
      · show (S.mem.set S.next _).get id = _
        rw [T.get_set, if_neg (by omega)]
    · obtain ⟨k, rfl⟩ : ∃ k, tok = k + 2 := ⟨tok - 2, by omega⟩
      refine ⟨.sl S.next 0 6 (es ++ y :: r), S.grown (k + 2) ((es ++ y :: r).length * 6), ?_, .inr ⟨S.next, rfl, hn, hlo, Nat.lt_succ_self _, ?_, .inl (by simp)⟩, Nat.le_succ _, fun id hid => ?_⟩
      · simp [Fp, e46, hi, hz0, hz1, hz2, hsrc, Value.cells, Lj, h5, hb1, hb2]
      · show ((S.mem.set (k + 2) none).set S.next _).get S.next = _
        rw [T.get_set, if_pos rfl]
      · show ((S.mem.set (k + 2) none).set S.next _).get id = _
        rw [T.get_set, if_neg (by omega), T.get_set, if_neg (by omega)]
noncomputable def O1 : Code := match Tryz.f63.body with
  | some (.seq _ (.seq _ (.seq (.seq _ (.block _ (.loop c))) _))) => c
  | _ => .skip
noncomputable def O0 : Code := match Tryz.f63.body with
  | some (.seq _ (.seq _ (.seq _ (.seq _ (.seq (.seq _ (.block _ (.loop c))) _))))) => c
  | _ => .skip
set_option maxHeartbeats 4000000 in
theorem Xt (tok off : Nat) (vs : List AV) (ess : List (List AV)) (hr : O8 vs ess) (hv : vs.length ≤ 1000) (hl : My ess ≤ 3000) (S : St) : ∀ (m i : Nat) (t : T AV), i + m = vs.length → t.get 0 = some (.sl tok off 1 vs) → t.get 9 = some (.sl tok off 1 vs) → t.get 10 = some (Dy vs.length) → t.get 11 = some (Dy i) → t.get 3 = some (Dy (My (ess.take i))) →
    WX E1 36 (.loop O1) ⟨t, []⟩ S (fun r => ∃ t', r = .out (.exit 0) ⟨t', []⟩ S ∧ t'.get 0 = some (.sl tok off 1 vs) ∧ t'.get 3 = some (Dy (My ess)))
  | 0, i, t, hi, h0, h9, h10, h11, h3 => by
    refine Fc (Es ?_)
    have hlt : ¬ ((i : Int) < (vs.length : Int)) := by omega
    have hd : ess.take i = ess := List.take_of_length_le (by rw [← H4 hr]; omega)
    rw [hd] at h3
    simp only [Dy] at h0 h9 h10 h11 h3 ⊢
    simp only [A3,A6,Bb,Bc,Cr,Bn,B4,C9,Cu,B5,Cs,Ct,Da,Ci,Be,Bo,Bp,A2,A9,Ba,A5,De,B6,Bm,Bh,A8,A4,Bi,Bg,Bf,Bq,Br,B9,Ca,Bv,C0,Cz,C1,A0,A1,C2,Dd,ofOpt,ofOptS,Bw,Dh,Di,Cj,Cl,Bk,Bl,C4,Bj,Df,A7,Bd,Cm,Cn,Co,Cp,Cq,B3,B1,Nat.reduceLT,Nat.reduceAdd,Nat.reduceEqDiff,Aa,Ab,reduceIte,Ac,Ad,Ae,Af,Ag,Ah,Ai,Aj,Ak,Al,Am,Ao,Ap,Aq,Ar,Au,Av,Aw,Option.toList,Ay,Az,O1,Tryz.f63,h9,h10,h11,hlt]
    exact ⟨_, rfl, by simp only [A0,Nat.reduceEqDiff,Ab,h0], by simp only [A0,Nat.reduceEqDiff,Ab,h3]⟩
  | m + 1, i, t, hi, h0, h9, h10, h11, h3 => by
    refine Fc (Es ?_)
    have hil : i < vs.length := by omega
    have hie : i < ess.length := by rw [← H4 hr]; exact hil
    have hlt : ((i : Int) < (vs.length : Int)) := by omega
    have hri := Ki hr i hil hie
    have hx := mV tok off vs (fun v hv => by
      obtain ⟨k, hk, rfl⟩ := List.getElem_of_mem hv
      exact Kj (Ki hr k hk (by rw [← H4 hr]; exact hk))) i hil
    have hw := Mf (i := i) (by omega)
    have hs1 := Wn ess i hie
    have hs2 := X7 ess (i + 1)
    have hlen := len46 S hri
    have hadd : IntKind.i64.wrap (((My (ess.take i) : Nat) : Int) + ((ess[i].length : Nat) : Int)) = ((My (ess.take (i + 1)) : Nat) : Int) := by
      rw [hs1, IntWalk.i64_in _ (by omega)]; push_cast; rfl
    have hneg : ¬ (((My (ess.take (i + 1)) : Nat) : Int) < 0) := by omega
    have hld := mH S vs[i]
    simp only [Dy] at h0 h9 h10 h11 h3 hx ⊢
    simp only [A3,A6,Bb,Bc,Cr,Bn,B4,C9,Cu,B5,Cs,Ct,Da,Ci,Be,Bo,Bp,A2,A9,Ba,A5,De,B6,Bm,Bh,A8,A4,Bi,Bg,Bf,Bq,Br,B9,Ca,Bv,C0,Cz,C1,A0,A1,C2,Dd,ofOpt,ofOptS,Bw,Dh,Di,Cj,Cl,Bk,Bl,C4,Bj,Df,A7,Bd,Cm,Cn,Co,Cp,Cq,B3,B1,Nat.reduceLT,Nat.reduceAdd,Nat.reduceEqDiff,Aa,Ab,reduceIte,Ac,Ad,Ae,Af,Ag,Ah,Ai,Aj,Ak,Al,Am,Ao,Ap,Aq,Ar,Au,Av,Aw,Option.toList,Ay,Az,O1,Tryz.f63,h9,h10,h11,hlt,h3,hx,hld,hlen,hadd,hneg,hw]
    refine WX.mono (Xt tok off vs ess hr hv hl S m (i + 1) _ (by omega) ?_ ?_ ?_ ?_ ?_) (fun r h => h)
    · simp only [A0,Nat.reduceEqDiff,Ab,h0]
    · simp only [A0,Nat.reduceEqDiff,Ab,h9]
    · simp only [A0,Nat.reduceEqDiff,Ab,h10]; rfl
    · simp only [A0,Nat.reduceEqDiff,Aa]; rfl
    · simp only [A0,Nat.reduceEqDiff,Aa,Ab]; rfl
set_option maxHeartbeats 4000000 in
theorem Xs (g : Prop) (lo tok off : Nat) (vs : List AV) (ess : List (List AV)) (hr : O8 vs ess) (hv : vs.length ≤ 1000) (hl : My ess ≤ 3000) (S0 : St) (hlo : 2 ≤ lo) : ∀ (m i : Nat) (t : T AV) (S : St) (v : AV), i + m = vs.length → t.get 25 = some (.sl tok off 1 vs) → t.get 26 = some (Dy vs.length) → t.get 27 = some (Dy i) → t.get 6 = some v → Acc g lo S v (ess.take i).flatten → lo ≤ S.next → (∀ id, id < lo → S.mem.get id = S0.mem.get id) →
    WX E1 36 (.loop O0) ⟨t, []⟩ S (fun r => ∃ t' S' v, r = .out (.exit 2) ⟨t', []⟩ S' ∧ t'.get 6 = some v ∧ Acc g lo S' v ess.flatten ∧ lo ≤ S'.next ∧ (∀ id, id < lo → S'.mem.get id = S0.mem.get id))
  | 0, i, t, S, v, hi, h25, h26, h27, h6, ha, hn, hk => by
    refine Fc (Es ?_)
    have hlt : ¬ ((i : Int) < (vs.length : Int)) := by omega
    have hd : ess.take i = ess := List.take_of_length_le (by rw [← H4 hr]; omega)
    rw [hd] at ha
    simp only [Dy] at h25 h26 h27 ⊢
    simp only [A3,A6,Bb,Bc,Cr,Bn,B4,C9,Cu,B5,Cs,Ct,Da,Ci,Be,Bo,Bp,A2,A9,Ba,A5,De,B6,Bm,Bh,A8,A4,Bi,Bg,Bf,Bq,Br,B9,Ca,Bv,C0,Cz,C1,A0,A1,C2,Dd,ofOpt,ofOptS,Bw,Dh,Di,Cj,Cl,Bk,Bl,C4,Bj,Df,A7,Bd,Cm,Cn,Co,Cp,Cq,B3,B1,Nat.reduceLT,Nat.reduceAdd,Nat.reduceEqDiff,Aa,Ab,reduceIte,Ac,Ad,Ae,Af,Ag,Ah,Ai,Aj,Ak,Al,Am,Ao,Ap,Aq,Ar,Au,Av,Aw,Option.toList,Ay,Az,O0,Tryz.f63,h25,h26,h27,hlt]
    exact ⟨_, _, v, rfl, by simp only [A0,Nat.reduceEqDiff,Ab,h6], ha, hn, hk⟩
  | m + 1, i, t, S, v, hi, h25, h26, h27, h6, ha, hn, hk => by
    refine Fc (Es ?_)
    have hil : i < vs.length := by omega
    have hie : i < ess.length := by rw [← H4 hr]; exact hil
    have hlt : ((i : Int) < (vs.length : Int)) := by omega
    have hri := Ki hr i hil hie
    have hx := mV tok off vs (fun v hv => by
      obtain ⟨k, hk, rfl⟩ := List.getElem_of_mem hv
      exact Kj (Ki hr k hk (by rw [← H4 hr]; exact hk))) i hil
    have hw := Mf (i := i) (by omega)
    have hs1 := Wn ess i hie
    have hs2 := X7 ess (i + 1)
    have hld := mH S vs[i]
    have hfl : (ess.take (i + 1)).flatten = (ess.take i).flatten ++ ess[i] := by
      rw [List.take_succ_eq_append_getElem hie, List.flatten_append]; simp
    obtain ⟨v', S', q, ha', hn', hk'⟩ := oS ha hri (Nat.le_trans hlo hn) hn (by rw [Qg]; omega)
    rw [← hfl] at ha'
    simp only [Dy] at h25 h26 h27 hx ⊢
    simp only [A3,A6,Bb,Bc,Cr,Bn,B4,C9,Cu,B5,Cs,Ct,Da,Ci,Be,Bo,Bp,A2,A9,Ba,A5,De,B6,Bm,Bh,A8,A4,Bi,Bg,Bf,Bq,Br,B9,Ca,Bv,C0,Cz,C1,A0,A1,C2,Dd,ofOpt,ofOptS,Bw,Dh,Di,Cj,Cl,Bk,Bl,C4,Bj,Df,A7,Bd,Cm,Cn,Co,Cp,Cq,B3,B1,Nat.reduceLT,Nat.reduceAdd,Nat.reduceEqDiff,Aa,Ab,reduceIte,Ac,Ad,Ae,Af,Ag,Ah,Ai,Aj,Ak,Al,Am,Ao,Ap,Aq,Ar,Au,Av,Aw,Option.toList,Ay,Az,O0,Tryz.f63,h25,h26,h27,hlt,h6,hx,hld,q,hw]
    refine WX.mono (Xs g lo tok off vs ess hr hv hl S0 hlo m (i + 1) _ S' v' (by omega) ?_ ?_ ?_ ?_ ha' (Nat.le_trans hn hn') (fun id hid => (hk' id hid).trans (hk id hid))) (fun r h => h)
    · simp only [A0,Nat.reduceEqDiff,Ab,h25]
    · simp only [A0,Nat.reduceEqDiff,Ab,h26]; rfl
    · simp only [A0,Nat.reduceEqDiff,Aa]; rfl
    · simp only [A0,Nat.reduceEqDiff,Aa,Ab]
theorem fnOk94 : ∃ fn, E1.F 94 = some fn := Option.isSome_iff_exists.1 (by kernel_rfl)
theorem knows94 : E1.I 94 = some (N5 6) := by kernel_rfl
def Keeps (S S' : St) : Prop := S.next ≤ S'.next ∧ ∀ id, id < S.next → S'.mem.get id = S.mem.get id
set_option maxHeartbeats 4000000 in
theorem oE (tok off : Nat) (vs : List AV) (ess : List (List AV)) (hr : O8 vs ess) (hv : vs.length ≤ 1000) (hl : My ess ≤ 3000) (S : St) (hS : 2 ≤ S.next) : WC E1 63 [.sl tok off 1 vs] S (fun r => ∃ v S', r = .ret v S' ∧ rowN v ess.flatten ∧ Keeps S S') := by
  refine Ek Tryz.f63 (by kernel_rfl) (by kernel_rfl) (by kernel_rfl) (show (_ : Nat) ≤ _ from by show (_ : Nat) ≤ _; simp [Tryz.f63]) ?_
  obtain ⟨fn1, hf1⟩ := fnOk94
  have key := fun t h0 h9 h10 h11 h3 => Xt tok off vs ess hr hv hl S vs.length 0 t (by omega) h0 h9 h10 h11 h3
  have key2 := fun g t S' v h25 h26 h27 h6 ha h2 h3 => Xs g S.next tok off vs ess hr hv hl S hS vs.length 0 t S' v (by omega) h25 h26 h27 h6 ha h2 h3
  unfold O1 at key
  unfold O0 at key2
  simp only [Tryz.f63] at key key2
  have hL := fun S => len159 S tok off vs
  simp only [A3,A6,Bb,Bc,Cr,Bn,B4,C9,Cu,B5,Cs,Ct,Da,Ci,Be,Bo,Bp,A2,A9,Ba,A5,De,B6,Bm,Bh,A8,A4,Bi,Bg,Bf,Bq,Br,B9,Ca,Bv,C0,Cz,C1,A0,A1,C2,Dd,ofOpt,ofOptS,Bw,Dh,Di,Cj,Cl,Bk,Bl,C4,Bj,Df,A7,Bd,Cm,Cn,Co,Cp,Cq,B3,B1,Nat.reduceLT,Nat.reduceAdd,Nat.reduceEqDiff,Aa,Ab,reduceIte,Ac,Ad,Ae,Af,Ag,Ah,Ai,Aj,Ak,Al,Am,Ao,Ap,Aq,Ar,Au,Av,Aw,Option.toList,Ay,Az,Tryz.f63,hL]
  refine WX.mono (key _ ?_ ?_ ?_ ?_ ?_) ?_
  · simp only [A0,A1,Nat.reduceEqDiff,Aa,Ab]
  · simp only [A0,A1,Nat.reduceEqDiff,Aa,Ab]
  · simp only [A0,A1,Nat.reduceEqDiff,Aa,Ab]; rfl
  · simp only [A0,A1,Nat.reduceEqDiff,Aa,Ab]; rfl
  · simp only [A0,A1,Nat.reduceEqDiff,Aa,Ab]; rfl
  rintro r ⟨t', rfl, h0, h3⟩
  simp only [Dy] at h0 h3
  simp only [A3,A6,Bb,Bc,Cr,Bn,B4,C9,Cu,B5,Cs,Ct,Da,Ci,Be,Bo,Bp,A2,A9,Ba,A5,De,B6,Bm,Bh,A8,A4,Bi,Bg,Bf,Bq,Br,B9,Ca,Bv,C0,Cz,C1,A0,A1,C2,Dd,ofOpt,ofOptS,Bw,Dh,Di,Cj,Cl,Bk,Bl,C4,Bj,Df,A7,Bd,Cm,Cn,Co,Cp,Cq,B3,B1,Nat.reduceLT,Nat.reduceAdd,Nat.reduceEqDiff,Aa,Ab,reduceIte,Ac,Ad,Ae,Af,Ag,Ah,Ai,Aj,Ak,Al,Am,Ao,Ap,Aq,Ar,Au,Av,Aw,Option.toList,Ay,Az,Tryz.f63,hL,h0,h3,hf1]
  refine V0 knows94 ?_
  unfold N5
  simp only
  by_cases hz : ((My ess : Nat) : Int) = 0
  · rw [if_pos hz]
    simp only [A3,A6,Bb,Bc,Cr,Bn,B4,C9,Cu,B5,Cs,Ct,Da,Ci,Be,Bo,Bp,A2,A9,Ba,A5,De,B6,Bm,Bh,A8,A4,Bi,Bg,Bf,Bq,Br,B9,Ca,Bv,C0,Cz,C1,A0,A1,C2,Dd,ofOpt,ofOptS,Bw,Dh,Di,Cj,Cl,Bk,Bl,C4,Bj,Df,A7,Bd,Cm,Cn,Co,Cp,Cq,B3,B1,Nat.reduceLT,Nat.reduceAdd,Nat.reduceEqDiff,Aa,Ab,reduceIte,Ac,Ad,Ae,Af,Ag,Ah,Ai,Aj,Ak,Al,Am,Ao,Ap,Aq,Ar,Au,Av,Aw,Option.toList,Ay,Az,Tryz.f63,hL,h0,h3]
    refine WX.mono (key2 False _ S .nils ?_ ?_ ?_ ?_ (.inl ⟨rfl, rfl⟩) (Nat.le_refl _) (fun _ _ => rfl)) ?_
    · simp only [A0,A1,Nat.reduceEqDiff,Aa,Ab,h0]
    · simp only [A0,A1,Nat.reduceEqDiff,Aa,Ab]; rfl
    · simp only [A0,A1,Nat.reduceEqDiff,Aa,Ab]; rfl
    · simp only [A0,A1,Nat.reduceEqDiff,Aa,Ab]
    rintro r ⟨t2, S2, v, rfl, h6, ha, hn, hk⟩
    simp only [A3,A6,Bb,Bc,Cr,Bn,B4,C9,Cu,B5,Cs,Ct,Da,Ci,Be,Bo,Bp,A2,A9,Ba,A5,De,B6,Bm,Bh,A8,A4,Bi,Bg,Bf,Bq,Br,B9,Ca,Bv,C0,Cz,C1,A0,A1,C2,Dd,ofOpt,ofOptS,Bw,Dh,Di,Cj,Cl,Bk,Bl,C4,Bj,Df,A7,Bd,Cm,Cn,Co,Cp,Cq,B3,B1,Nat.reduceLT,Nat.reduceAdd,Nat.reduceEqDiff,Aa,Ab,reduceIte,Ac,Ad,Ae,Af,Ag,Ah,Ai,Aj,Ak,Al,Am,Ao,Ap,Aq,Ar,Au,Av,Aw,Option.toList,Ay,Az,Tryz.f63,h6]
    refine ⟨v, _, rfl, ?_, hn, hk⟩
    rcases ha with h | ⟨tok, h, _, _, _, _, h9⟩
    · exact .inl h
    · exact .inr ⟨h9.resolve_right id, tok, 0, h⟩
  · rw [if_neg hz, if_pos ⟨by omega, by omega, by decide⟩]
    simp only [A3,A6,Bb,Bc,Cr,Bn,B4,C9,Cu,B5,Cs,Ct,Da,Ci,Be,Bo,Bp,A2,A9,Ba,A5,De,B6,Bm,Bh,A8,A4,Bi,Bg,Bf,Bq,Br,B9,Ca,Bv,C0,Cz,C1,A0,A1,C2,Dd,ofOpt,ofOptS,Bw,Dh,Di,Cj,Cl,Bk,Bl,C4,Bj,Df,A7,Bd,Cm,Cn,Co,Cp,Cq,B3,B1,Nat.reduceLT,Nat.reduceAdd,Nat.reduceEqDiff,Aa,Ab,reduceIte,Ac,Ad,Ae,Af,Ag,Ah,Ai,Aj,Ak,Al,Am,Ao,Ap,Aq,Ar,Au,Av,Aw,Option.toList,Ay,Az,Tryz.f63,hL,h0,h3]
    refine WX.mono (key2 True _ _ (.sl S.next 0 6 []) ?_ ?_ ?_ ?_ (.inr ⟨S.next, rfl, hS, Nat.le_refl _, Nat.lt_succ_self _, ?_, .inr trivial⟩) (Nat.le_succ _) (fun id hid => ?_)) ?_
    · simp only [A0,A1,Nat.reduceEqDiff,Aa,Ab,h0]
    · simp only [A0,A1,Nat.reduceEqDiff,Aa,Ab]; rfl
    · simp only [A0,A1,Nat.reduceEqDiff,Aa,Ab]; rfl
    · simp only [A0,A1,Nat.reduceEqDiff,Aa,Ab]
    · show (S.mem.set S.next _).get S.next = _
      rw [T.get_set, if_pos rfl]; rfl
    · show (S.mem.set S.next _).get id = _
      rw [T.get_set, if_neg (by omega)]
    rintro r ⟨t2, S2, v, rfl, h6, ha, hn, hk⟩
    simp only [A3,A6,Bb,Bc,Cr,Bn,B4,C9,Cu,B5,Cs,Ct,Da,Ci,Be,Bo,Bp,A2,A9,Ba,A5,De,B6,Bm,Bh,A8,A4,Bi,Bg,Bf,Bq,Br,B9,Ca,Bv,C0,Cz,C1,A0,A1,C2,Dd,ofOpt,ofOptS,Bw,Dh,Di,Cj,Cl,Bk,Bl,C4,Bj,Df,A7,Bd,Cm,Cn,Co,Cp,Cq,B3,B1,Nat.reduceLT,Nat.reduceAdd,Nat.reduceEqDiff,Aa,Ab,reduceIte,Ac,Ad,Ae,Af,Ag,Ah,Ai,Aj,Ak,Al,Am,Ao,Ap,Aq,Ar,Au,Av,Aw,Option.toList,Ay,Az,Tryz.f63,h6]
    refine ⟨v, _, rfl, ?_, hn, hk⟩
    rcases ha with h | ⟨tok, h, _⟩
    · exact .inl h
    · refine .inr ⟨fun e => hz ?_, tok, 0, h⟩
      rw [← Qg, e]; rfl
end Go.Ax
