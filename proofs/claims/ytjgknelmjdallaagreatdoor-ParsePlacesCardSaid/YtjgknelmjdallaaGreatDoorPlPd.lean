/-
  The parser: boxes, words that are taken, wanted; truths, clocks.
-/
import Derived.Test.YtjgknelmjdallaaGreatDoorPlPc
noncomputable section
namespace Go.Ax
open Go.RowKit Go.Proofs
set_option linter.unusedVariables false
set_option linter.unusedSimpArgs false
set_option maxRecDepth 100000

/-- A box of one's own: known whole. -/
structure Has (p : Nat) (S : St) (id : Nat) (cs : List AV) : Prop where
  get : S.mem.get id = some (.box cs)
  lt : id < S.next
  ne : id ≠ p
theorem Has.keep {p id : Nat} {S S' : St} {cs : List AV} (h : Has p S id cs) (x : El p S S') : Has p S' id cs := ⟨(x.2 id h.lt h.ne).trans h.get, Nat.lt_of_lt_of_le h.lt x.1, h.ne⟩
def tk (ts : List Tk) (i : Nat) : Tk := (ts[i]?).getD Dx
theorem Iu {ts : List Tk} {i : Nat} (hi : i < ts.length) : tk ts i = ts[i] := by unfold tk; rw [List.getElem?_eq_getElem hi]; rfl
theorem Hd {S : St} {p k i : Nat} {ts : List Tk} (h : Cur S p k ts i) (hp : p < S.next) : El p S (S.newBox exZ) ∧ Cur (S.newBox exZ) p k ts i ∧ Has p (S.newBox exZ) S.next exZ ∧ p < (S.newBox exZ).next :=
  ⟨Hm S exZ, h.new hp exZ, ⟨Ea S _, Nat.lt_succ_self _, by omega⟩, Nat.lt_succ_of_lt hp⟩
theorem oK {S : St} {p k i : Nat} {ts : List Tk} (h : Cur S p k ts i) (hp : p < S.next) (t : Tk) : El p S (S.newBox (Dz t)) ∧ Cur (S.newBox (Dz t)) p k ts i ∧ Has p (S.newBox (Dz t)) S.next (Dz t) ∧ p < (S.newBox (Dz t)).next :=
  ⟨Hm S _, h.new hp _, ⟨Ea S _, Nat.lt_succ_self _, by omega⟩, Nat.lt_succ_of_lt hp⟩
theorem Eu {S : St} {p k i : Nat} {ts : List Tk} (h : Cur S p k ts i) (hp : p < S.next) (t : Tk) : ∃ S', Du Tryz.prog (S.newBox (Dz Dx)) 68 (.ptr S.next 0) (Fm t) = some S' ∧ El p S S' ∧ Cur S' p k ts i ∧ Has p S' S.next (Dz t) ∧ p < S'.next :=
  ⟨_, Rk S t, Gw (Hm S _) (Nat.le_refl _) _, (h.new hp _).put (by omega) _, ⟨E9 _ _ _, Nat.lt_succ_self _, by omega⟩, Nat.lt_succ_of_lt hp⟩
theorem N7 {S : St} {p k i : Nat} {ts : List Tk} (h : Cur S p k ts i) (hp : p < S.next) {xs : List AV} (hx : xs.length = 6) : ∃ S', Du Tryz.prog (S.newBox exZ) 30 (.ptr S.next 0) (.agg xs) = some S' ∧ El p S S' ∧ Cur S' p k ts i ∧ Has p S' S.next xs ∧ p < S'.next :=
  ⟨_, Rx (Ea S _) rfl hx, Gw (Hm S _) (Nat.le_refl _) _, (h.new hp _).put (by omega) _, ⟨E9 _ _ _, Nat.lt_succ_self _, by omega⟩, Nat.lt_succ_of_lt hp⟩
/-- What is given: into the answer's box, and out of it. -/
theorem Ft {S0 S : St} {p k i b : Nat} {ts : List Tk} {cs : List AV} (h : Cur S p k ts i) (hb : Has p S b cs) (hl : cs.length = 6) (hs : S0.next ≤ b) (x : El p S0 S) {xs : List AV} (hx : xs.length = 6) :
    Du Tryz.prog S 30 (.ptr b 0) (.agg xs) = some (S.put b xs) ∧ Dw Tryz.prog (S.put b xs) 30 (.ptr b 0) = some (.agg xs) ∧ El p S0 (S.put b xs) ∧ Cur (S.put b xs) p k ts i :=
  ⟨Rx hb.get hl hx, ld30 (E9 _ _ _) hx, Gw x hs _, h.put (fun e => hb.ne e.symm) _⟩
theorem Has.ld30 {p id : Nat} {S : St} {cs : List AV} (h : Has p S id cs) (hl : cs.length = 6) : Dw Tryz.prog S 30 (.ptr id 0) = some (.agg cs) := Go.Ax.ld30 h.get hl
theorem Has.ld68 {p id : Nat} {S : St} {t : Tk} (h : Has p S id (Dz t)) : Dw Tryz.prog S 68 (.ptr id 0) = some (Fm t) := Qz h.get
theorem Has.pos {p id : Nat} {S : St} {t : Tk} (h : Has p S id (Dz t)) : Dw Tryz.prog S 3 (.ptr id 1) = some (.v (.int .i64 (t.pos : Int))) := ld3b h.get
theorem Has.text {p id : Nat} {S : St} {t : Tk} (h : Has p S id (Dz t)) : Dw Tryz.prog S 9 (.ptr id 2) = some (.v (.string ⟨⟨t.text⟩⟩)) := Yt h.get
theorem fa2 (b : Nat) : Dt Tryz.prog 68 (.ptr b 0) 2 = some (.ptr b 2) := fa68 b
theorem fe2 (b : Nat) : Dt Tryz.prog 30 (.ptr b 0) 2 = some (.ptr b 2) := (fa30 b).1
theorem fe3 (b : Nat) : Dt Tryz.prog 30 (.ptr b 0) 3 = some (.ptr b 3) := (fa30 b).2.1
theorem fe4 (b : Nat) : Dt Tryz.prog 30 (.ptr b 0) 4 = some (.ptr b 4) := (fa30 b).2.2
theorem fe0 (b : Nat) : Dt Tryz.prog 30 (.ptr b 0) 0 = some (.ptr b 0) := by kernel_rfl
theorem fe5 (b : Nat) : Dt Tryz.prog 30 (.ptr b 0) 5 = some (.ptr b 5) := by kernel_rfl
theorem Ds {α β : Type} (a : α) (i : Nat) (f : α → Nat → PR β) : PR.bind (.ok a i) f = f a i := rfl
theorem Fi {α β : Type} {x : PR α} {f : α → Nat → PR β} (h : PR.bind x f ≠ .out) : x ≠ .out := fun e => h (by rw [e]; rfl)
def isTok (v : AV) (t : Tk) : Prop := v = Fm t
def Ec (ts : List Tk) (ws : List (List UInt8)) (i : Nat) : PR Tk := if (tk ts i).text ∈ ws then .ok (tk ts i) (i + 1) else .bad (tk ts i).pos (Hx (tk ts i))
def F4 (ts : List Tk) (kind : Nat) (i : Nat) : PR Tk := if (tk ts i).kind = kind then .ok (tk ts i) (i + 1) else .bad (tk ts i).pos (Hx (tk ts i))
theorem Fq (ts : List Tk) (ws : List (List UInt8)) (i : Nat) : Ec ts ws i ≠ .out := by unfold Ec; split <;> exact fun e => by cases e
theorem Ip (ts : List Tk) (kind i : Nat) : F4 ts kind i ≠ .out := by unfold F4; split <;> exact fun e => by cases e
section
variable {S : St} {p k i : Nat} {ts : List Tk} (h : Cur S p k ts i) (hp : p < S.next) (hi : i < ts.length) (hts : TokOk ts)
include h hp hi hts
theorem Hw (tok off : Nat) (ws : List (List UInt8)) (hw : ws.length ≤ 1000) (he : [] ∉ ws) (hm : (tk ts i).text ∈ ws) : WC E1 79 [.ptr p 0, wsA tok off ws] S (fun r => ∃ S', r = .ret (.tup [Fm (tk ts i), .v (.bool true)]) S' ∧ El p S S' ∧ Cur S' p k ts (i + 1) ∧ i + 1 < ts.length ∧ p < S'.next) := by
  rw [Iu hi] at hm ⊢
  refine WC.mono (Zq S p k ts i h hp hi hts.size tok off ws hw hm) ?_
  rintro _ ⟨S2, rfl, hx, hc⟩
  exact ⟨_, rfl, hx, hc, hts.next hi (fun e => he (e ▸ hm)), Nat.lt_of_lt_of_le hp hx.1⟩
theorem Iv (tok off : Nat) (ws : List (List UInt8)) (hw : ws.length ≤ 1000) (hm : (tk ts i).text ∉ ws) : WC E1 79 [.ptr p 0, wsA tok off ws] S (fun r => ∃ S', r = .ret (.tup [Fm Dx, .v (.bool false)]) S' ∧ El p S S' ∧ Cur S' p k ts i ∧ i < ts.length ∧ p < S'.next) := by
  have _ := hts
  rw [Iu hi] at hm
  refine WC.mono (eL S p k ts i h hp hi tok off ws hw hm) ?_
  rintro _ ⟨S2, rfl, hx⟩
  exact ⟨_, rfl, hx.x p, h.keep hp hx, hi, Nat.lt_of_lt_of_le hp hx.1⟩
theorem Ge (tok off : Nat) (ws : List (List UInt8)) (hw : ws.length ≤ 1000) (he : [] ∉ ws) : WC E1 81 [.ptr p 0, wsA tok off ws] S (Ku p k ts S isTok (Ec ts ws i)) := by
  unfold Ec
  rw [Iu hi]
  by_cases hm : ts[i].text ∈ ws
  · rw [if_pos hm]
    refine WC.mono (lZ S p k ts i h hp hi hts.size tok off ws hw hm) ?_
    rintro _ ⟨S2, rfl, hx, hc⟩
    exact ⟨_, _, rfl, rfl, hx, hc, hts.next hi (fun e => he (e ▸ hm))⟩
  · rw [if_neg hm]
    refine WC.mono (need_no S p k ts i h hp hi tok off ws hw hm) ?_
    rintro _ ⟨S2, rfl, hx⟩
    exact ⟨_, rfl, hx.x p⟩
theorem Nn (kind : Nat) (hk5 : kind ≠ 5) : WC E1 124 [.ptr p 0, Dy kind] S (Ku p k ts S isTok (F4 ts kind i)) := by
  unfold F4
  rw [Iu hi]
  by_cases hm : ts[i].kind = kind
  · rw [if_pos hm]
    refine WC.mono (Va S p k ts i h hp hi hts.size kind hm) ?_
    rintro _ ⟨S2, rfl, hx, hc⟩
    exact ⟨_, _, rfl, rfl, hx, hc, hts.more i hi (by omega)⟩
  · rw [if_neg hm]
    refine WC.mono (Yv S p k ts i h hp hi kind hm) ?_
    rintro _ ⟨S2, rfl, hx⟩
    exact ⟨_, rfl, hx.x p⟩
end
/- Looks that are made again see the same. -/
theorem Cx (t : Tk) : Gt (Fm t) (Fm t) = true := by
  simp [Fm, Dz, Gt, Ly, Dy, D5, N8, eqS, Io]
mutual
theorem RepE.refl : ∀ {a : AV} {e : PE}, RepE a e → Gt a a = true := fun {a e} h => by
  cases h with
  | mk kind pos n name off kv kids h =>
    have := RepK.refl h
    simp [exC, Gt, Ly, Dy, D5, eqS, Io, this]
theorem RepK.refl : ∀ {a : AV} {l : List PE}, RepK a l → Gt a a = true := fun {a l} h => by
  cases h with
  | nil => rfl
  | row tok off es kids h =>
    have := RepF.refl h
    simp [Gt, this]
theorem RepF.refl : ∀ {a : List AV} {l : List PE}, RepF a l → Ly a a = true := fun {a l} h => by
  cases h with
  | nil => rfl
  | cons a e r l h h2 =>
    have h3 := RepE.refl h
    have h4 := RepF.refl h2
    simp [Ly, h3, h4]
end
theorem oM {xs : List AV} {e : PE} (h : RepE (.agg xs) e) : Ly xs xs = true := by
  have := h.refl
  simpa [Gt] using this
theorem Cy (p o : Nat) : Gt (.ptr p o) (.ptr p o) = true := by simp [Gt]
/-- true, false. -/
def Pw (t : Tk) : PE := .mk 2 t.pos (if t.text = [116, 114, 117, 101] then 1 else 0) [] false []
theorem Ht (a b : List UInt8) : E8 .eql (.v (.string ⟨⟨a⟩⟩)) (.v (.string ⟨List.toArray b⟩)) = some (.v (.bool (decide (a = b)))) := by
  have e : Jp a b = decide (a = b) := by
    rw [Ja]
    by_cases h : a = b
    · subst h; simp
    · rw [decide_eq_false h]; simpa using h
  rw [← e]
  rfl
theorem gD (a b : List UInt8) : E8 .neq (.v (.string ⟨⟨a⟩⟩)) (.v (.string ⟨List.toArray b⟩)) = some (.v (.bool (!decide (a = b)))) := by
  have e : Jp a b = decide (a = b) := by
    rw [Ja]
    by_cases h : a = b
    · subst h; simp
    · rw [decide_eq_false h]; simpa using h
  rw [← e]
  rfl
section
variable {S3 S4 : St} {p k i b kind pos : Nat} {n : Int} {name : List UInt8} {off : Bool} {kv : AV} {ts : List Tk} (x : El p S3 S4) (hb : S3.next ≤ b) (h : Has p S4 b (exC kind pos n name off kv)) (c : Cur S4 p k ts i) (hp : p < S4.next)
include x hb h c hp
theorem eS (cs : List AV) : El p S3 (S4.put b cs) ∧ Cur (S4.put b cs) p k ts i ∧ Has p (S4.put b cs) b cs ∧ p < (S4.put b cs).next :=
  ⟨Gw x hb _, c.put (fun e => h.ne e.symm) _, ⟨E9 _ _ _, h.lt, h.ne⟩, hp⟩
theorem setN (m : Int) : ∃ S5, Du Tryz.prog S4 2 (.ptr b 2) (.v (.int .i64 m)) = some S5 ∧ El p S3 S5 ∧ Cur S5 p k ts i ∧ Has p S5 b (exC kind pos m name off kv) ∧ p < S5.next :=
  ⟨_, st30_n h.get m, eS x hb h c hp _⟩
end
theorem fO : ∃ fn, E1.F 216 = some fn := Option.isSome_iff_exists.1 (by kernel_rfl)
theorem fnOk117 : ∃ fn, E1.F 117 = some fn := Option.isSome_iff_exists.1 (by kernel_rfl)
set_option maxHeartbeats 16000000 in
theorem X4 (S : St) (p k : Nat) (ts : List Tk) (i : Nat) (h : Cur S p k ts i) (hp : p < S.next) (t : Tk) : WC E1 216 [Fm t] S (fun r => ∃ S', r = .ret (.agg (exC 2 t.pos (if t.text = [116, 114, 117, 101] then 1 else 0) [] false .nils)) S' ∧ El p S S' ∧ Cur S' p k ts i ∧ p < S'.next) := by
  refine Ek Tryz.f216 (by kernel_rfl) (by kernel_rfl) (by kernel_rfl) (show (_ : Nat) ≤ _ from by show (_ : Nat) ≤ _; simp [Tryz.f216]) ?_
  obtain ⟨fn1, hf1⟩ := Ot
  obtain ⟨x1, c1, b1, hp1⟩ := oK h hp t
  obtain ⟨x2, c2, b2, hp2⟩ := Hd c1 hp1
  have b12 := b1.keep x2
  have l1 := b12.ld68
  simp only [A3,A6,Bb,Bc,Cr,Bn,B4,C9,Cu,B5,Cs,Ct,Da,Bu,Be,Bo,Bp,A2,A9,Ba,A5,Dc,B6,Bm,Bh,A8,A4,Bi,Bg,Bf,Bq,Br,B9,Ca,Bv,C0,Cz,C1,A0,A1,C2,Dd,ofOpt,ofOptS,Bw,Dh,Di,Cj,Cl,Bk,Bl,C4,Bj,Df,A7,Bd,Cm,Cn,Co,Cp,Cq,B3,B1,Nat.reduceLT,Nat.reduceAdd,Nat.reduceEqDiff,Aa,Ab,reduceIte,Ac,Ad,Ae,Af,Ag,Ah,Ai,Aj,Ak,Al,Am,Ao,Ap,Aq,Ar,Au,Av,Aw,Option.toList,Ay,Az,Tryz.f216,Cg,Ch,Do,l1,hf1]
  refine WC.mono (Md _ 2 t .nils (.inl rfl)) ?_
  rintro _ ⟨S3, rfl, k3⟩
  have x3 := k3.x p
  have c3 := c2.keep hp2 k3
  have hp3 : p < S3.next := Nat.lt_of_lt_of_le hp2 x3.1
  obtain ⟨S4, q4, x4, c4, b4, hp4⟩ := N7 c3 hp3 (xs := exC 2 t.pos 0 [] false .nils) rfl
  have b14 := (b12.keep x3).keep x4
  have b24 := (b2.keep x3).keep x4
  have l2 := b14.text
  have xt := (x1.trans x2).trans x3
  have hs : S.next ≤ (S.newBox (Dz t)).next := x1.1
  simp only [A3,A6,Bb,Bc,Cr,Bn,B4,C9,Cu,B5,Cs,Ct,Da,Bu,Be,Bo,Bp,A2,A9,Ba,A5,Dc,B6,Bm,Bh,A8,A4,Bi,Bg,Bf,Bq,Br,B9,Ca,Bv,C0,Cz,C1,A0,A1,C2,Dd,ofOpt,ofOptS,Bw,Dh,Di,Cj,Cl,Bk,Bl,C4,Bj,Df,A7,Bd,Cm,Cn,Co,Cp,Cq,B3,B1,Nat.reduceLT,Nat.reduceAdd,Nat.reduceEqDiff,Aa,Ab,reduceIte,Ac,Ad,Ae,Af,Ag,Ah,Ai,Aj,Ak,Al,Am,Ao,Ap,Aq,Ar,Au,Av,Aw,Option.toList,Ay,Az,Tryz.f216,Do,q4,fa2,l2,Gf,Ht]
  by_cases hq : t.text = [116, 114, 117, 101]
  · rw [if_pos hq]
    obtain ⟨S5, q5, x5, c5, b5, hp5⟩ := setN x4 (Nat.le_refl _) b4 c4 hp4 1
    have l5 := b5.ld30 rfl
    obtain ⟨g1, g2, gx, gc⟩ := Ft c5 ((b2.keep x3).keep x5) rfl hs (xt.trans x5) (xs := exC 2 t.pos 1 [] false .nils) rfl
    simp only [A3,A6,Bb,Bc,Cr,Bn,B4,C9,Cu,B5,Cs,Ct,Da,Bu,Be,Bo,Bp,A2,A9,Ba,A5,Dc,B6,Bm,Bh,A8,A4,Bi,Bg,Bf,Bq,Br,B9,Ca,Bv,C0,Cz,C1,A0,A1,C2,Dd,ofOpt,ofOptS,Bw,Dh,Di,Cj,Cl,Bk,Bl,C4,Bj,Df,A7,Bd,Cm,Cn,Co,Cp,Cq,B3,B1,Nat.reduceLT,Nat.reduceAdd,Nat.reduceEqDiff,Aa,Ab,reduceIte,Ac,Ad,Ae,Af,Ag,Ah,Ai,Aj,Ak,Al,Am,Ao,Ap,Aq,Ar,Au,Av,Aw,Option.toList,Ay,Az,Tryz.f216,hq,fe2,q5,l5,g1,g2]
    exact ⟨_, rfl, gx, gc, by have := gx.1; omega⟩
  · rw [if_neg hq]
    have l5 := b4.ld30 rfl
    obtain ⟨g1, g2, gx, gc⟩ := Ft c4 b24 rfl hs (xt.trans x4) (xs := exC 2 t.pos 0 [] false .nils) rfl
    simp only [A3,A6,Bb,Bc,Cr,Bn,B4,C9,Cu,B5,Cs,Ct,Da,Bu,Be,Bo,Bp,A2,A9,Ba,A5,Dc,B6,Bm,Bh,A8,A4,Bi,Bg,Bf,Bq,Br,B9,Ca,Bv,C0,Cz,C1,A0,A1,C2,Dd,ofOpt,ofOptS,Bw,Dh,Di,Cj,Cl,Bk,Bl,C4,Bj,Df,A7,Bd,Cm,Cn,Co,Cp,Cq,B3,B1,Nat.reduceLT,Nat.reduceAdd,Nat.reduceEqDiff,Aa,Ab,reduceIte,Ac,Ad,Ae,Af,Ag,Ah,Ai,Aj,Ak,Al,Am,Ao,Ap,Aq,Ar,Au,Av,Aw,Option.toList,Ay,Az,Tryz.f216,hq,l5,g1,g2]
    exact ⟨_, rfl, gx, gc, by have := gx.1; omega⟩
theorem Rv (t : Tk) : RepE (.agg (exC 2 t.pos (if t.text = [116, 114, 117, 101] then 1 else 0) [] false .nils)) (Pw t) := .mk 2 t.pos _ [] false .nils [] .nil
def Oz : PE → Bool
  | .mk kind _ _ _ _ _ => decide (kind = 1 ∨ kind = 2)
theorem ld3e {S : St} {id kind pos : Nat} {n : Int} {name : List UInt8} {off : Bool} {kv : AV} (h : S.mem.get id = some (.box (exC kind pos n name off kv))) : Dw Tryz.prog S 3 (.ptr id 0) = some (.v (.int .i64 (kind : Int))) := by
  simp [Dw, D6, h, a3, exC, Dy]
set_option maxHeartbeats 4000000 in
theorem const_w (S : St) (xs : List AV) (e : PE) (hr : RepE (.agg xs) e) : WC E1 117 [.agg xs] S (fun r => ∃ S', r = .ret (.v (.bool (Oz e))) S' ∧ Fg S S') := by
  cases hr with
  | mk kind pos n name off kv kids hk =>
  refine Ek Tryz.f117 (by kernel_rfl) (by kernel_rfl) (by kernel_rfl) (show (_ : Nat) ≤ _ from by show (_ : Nat) ≤ _; simp [Tryz.f117]) ?_
  have l1 := ld3e (Ea S (exC kind pos n name off kv))
  by_cases h1 : kind = 1
  · have e1 : ((kind : Int) == 1) = true := by rw [h1]; rfl
    simp only [A3,A6,Bb,Bc,Cr,Bn,B4,C9,Cu,B5,Cs,Ct,Da,Bu,Be,Bo,Bp,A2,A9,Ba,A5,Dc,B6,Bm,Bh,A8,A4,Bi,Bg,Bf,Bq,Br,B9,Ca,Bv,C0,Cz,C1,A0,A1,C2,Dd,ofOpt,ofOptS,Bw,Dh,Di,Cj,Cl,Bk,Bl,C4,Bj,Df,A7,Bd,Cm,Cn,Co,Cp,Cq,B3,B1,Nat.reduceLT,Nat.reduceAdd,Nat.reduceEqDiff,Aa,Ab,reduceIte,Ac,Ad,Ae,Af,Ag,Ah,Ai,Aj,Ak,Al,Am,Ao,Ap,Aq,Ar,Au,Av,Aw,Option.toList,Ay,Az,Tryz.f117,B7,B8,fe0,l1,e1]
    refine ⟨S.newBox (exC kind pos n name off kv), ?_, Eb S _⟩
    simp [Oz, h1]
  · have e1 : ((kind : Int) == 1) = false := by rw [beq_eq_false_iff_ne]; omega
    by_cases h2 : kind = 2
    · have e2 : ((kind : Int) == 2) = true := by rw [h2]; rfl
      simp only [A3,A6,Bb,Bc,Cr,Bn,B4,C9,Cu,B5,Cs,Ct,Da,Bu,Be,Bo,Bp,A2,A9,Ba,A5,Dc,B6,Bm,Bh,A8,A4,Bi,Bg,Bf,Bq,Br,B9,Ca,Bv,C0,Cz,C1,A0,A1,C2,Dd,ofOpt,ofOptS,Bw,Dh,Di,Cj,Cl,Bk,Bl,C4,Bj,Df,A7,Bd,Cm,Cn,Co,Cp,Cq,B3,B1,Nat.reduceLT,Nat.reduceAdd,Nat.reduceEqDiff,Aa,Ab,reduceIte,Ac,Ad,Ae,Af,Ag,Ah,Ai,Aj,Ak,Al,Am,Ao,Ap,Aq,Ar,Au,Av,Aw,Option.toList,Ay,Az,Tryz.f117,B7,B8,fe0,l1,e1,e2]
      refine ⟨S.newBox (exC kind pos n name off kv), ?_, Eb S _⟩
      simp [Oz, h2]
    · have e2 : ((kind : Int) == 2) = false := by rw [beq_eq_false_iff_ne]; omega
      simp only [A3,A6,Bb,Bc,Cr,Bn,B4,C9,Cu,B5,Cs,Ct,Da,Bu,Be,Bo,Bp,A2,A9,Ba,A5,Dc,B6,Bm,Bh,A8,A4,Bi,Bg,Bf,Bq,Br,B9,Ca,Bv,C0,Cz,C1,A0,A1,C2,Dd,ofOpt,ofOptS,Bw,Dh,Di,Cj,Cl,Bk,Bl,C4,Bj,Df,A7,Bd,Cm,Cn,Co,Cp,Cq,B3,B1,Nat.reduceLT,Nat.reduceAdd,Nat.reduceEqDiff,Aa,Ab,reduceIte,Ac,Ad,Ae,Af,Ag,Ah,Ai,Aj,Ak,Al,Am,Ao,Ap,Aq,Ar,Au,Av,Aw,Option.toList,Ay,Az,Tryz.f117,B7,B8,fe0,l1,e1,e2]
      refine ⟨S.newBox (exC kind pos n name off kv), ?_, Eb S _⟩
      simp [Oz, h1, h2]
def Ky (ts : List Tk) (i : Nat) : PR (List UInt8 × Bool) := if (tk ts i).text ∈ [[110, 111, 116]] then (F4 ts 1 (i + 1)).bind fun t j => .ok (t.text, true) j else (F4 ts 1 i).bind fun t j => .ok (t.text, false) j
def isClock (v : AV) (c : List UInt8 × Bool) : Prop := v = .tup [D5 c.1, .v (.bool c.2)]
set_option maxHeartbeats 4000000 in
theorem gM (S : St) (p k : Nat) (ts : List Tk) (i : Nat) (h : Cur S p k ts i) (hp : p < S.next) (hi : i < ts.length) (hts : TokOk ts) : WC E1 179 [.ptr p 0] S (Ku p k ts S isClock (Ky ts i)) := by
  refine Ek Tryz.f179 (by kernel_rfl) (by kernel_rfl) (by kernel_rfl) (show (_ : Nat) ≤ _ from by show (_ : Nat) ≤ _; simp [Tryz.f179]) ?_
  obtain ⟨fn1, hf1⟩ := Hn
  obtain ⟨fn2, hf2⟩ := Lc
  unfold Ky
  by_cases hm : (tk ts i).text ∈ [[110, 111, 116]]
  ·
    rw [if_pos hm]
    simp only [A3,A6,Bb,Bc,Cr,Bn,B4,C9,Cu,B5,Cs,Ct,Da,Bu,Be,Bo,Bp,A2,A9,Ba,A5,Dc,B6,Bm,Bh,A8,A4,Bi,Bg,Bf,Bq,Br,B9,Ca,Bv,C0,Cz,C1,A0,A1,C2,Dd,ofOpt,ofOptS,Bw,Dh,Di,Cj,Cl,Bk,Bl,C4,Bj,Df,A7,Bd,Cm,Cn,Co,Cp,Cq,B3,B1,Nat.reduceLT,Nat.reduceAdd,Nat.reduceEqDiff,Aa,Ab,reduceIte,Ac,Ad,Ae,Af,Ag,Ah,Ai,Aj,Ak,Al,Am,Ao,Ap,Aq,Ar,Au,Av,Aw,Option.toList,Ay,Az,Tryz.f179,fp0,C3,hf1]
    refine WC.mono (Hw h hp hi hts 1 0 [[110, 111, 116]] (by decide) (by decide) hm) ?_
    rintro _ ⟨S2, rfl, x2, c2, hi2, hp2⟩
    obtain ⟨S3, q3, x3, c3, b3, hp3⟩ := Eu c2 hp2 (tk ts i)
    simp only [A3,A6,Bb,Bc,Cr,Bn,B4,C9,Cu,B5,Cs,Ct,Da,Bu,Be,Bo,Bp,A2,A9,Ba,A5,Dc,B6,Bm,Bh,A8,A4,Bi,Bg,Bf,Bq,Br,B9,Ca,Bv,C0,Cz,C1,A0,A1,C2,Dd,ofOpt,ofOptS,Bw,Dh,Di,Cj,Cl,Bk,Bl,C4,Bj,Df,A7,Bd,Cm,Cn,Co,Cp,Cq,B3,B1,Nat.reduceLT,Nat.reduceAdd,Nat.reduceEqDiff,Aa,Ab,reduceIte,Ac,Ad,Ae,Af,Ag,Ah,Ai,Aj,Ak,Al,Am,Ao,Ap,Aq,Ar,Au,Av,Aw,Option.toList,Ay,Az,Tryz.f179,Cb,Dp,q3,fp0,hf2]
    refine WC.mono (Nn c3 hp3 hi2 hts 1 (by decide)) ?_
    cases hX : F4 ts 1 (i + 1) with
    | out => exact absurd hX (Ip _ _ _)
    | bad a e =>
      rintro _ ⟨S4, rfl, x4⟩
      simp only [A3,A6,Bb,Bc,Cr,Bn,B4,C9,Cu,B5,Cs,Ct,Da,Bu,Be,Bo,Bp,A2,A9,Ba,A5,Dc,B6,Bm,Bh,A8,A4,Bi,Bg,Bf,Bq,Br,B9,Ca,Bv,C0,Cz,C1,A0,A1,C2,Dd,ofOpt,ofOptS,Bw,Dh,Di,Cj,Cl,Bk,Bl,C4,Bj,Df,A7,Bd,Cm,Cn,Co,Cp,Cq,B3,B1,Nat.reduceLT,Nat.reduceAdd,Nat.reduceEqDiff,Aa,Ab,reduceIte,Ac,Ad,Ae,Af,Ag,Ah,Ai,Aj,Ak,Al,Am,Ao,Ap,Aq,Ar,Au,Av,Aw,Option.toList,Ay,Az,Tryz.f179]
      exact ⟨_, rfl, x2.trans (x3.trans x4)⟩
    | ok t j =>
      rintro _ ⟨_, S4, rfl, rfl, x4, c4, hj⟩
      simp only [A3,A6,Bb,Bc,Cr,Bn,B4,C9,Cu,B5,Cs,Ct,Da,Bu,Be,Bo,Bp,A2,A9,Ba,A5,Dc,B6,Bm,Bh,A8,A4,Bi,Bg,Bf,Bq,Br,B9,Ca,Bv,C0,Cz,C1,A0,A1,C2,Dd,ofOpt,ofOptS,Bw,Dh,Di,Cj,Cl,Bk,Bl,C4,Bj,Df,A7,Bd,Cm,Cn,Co,Cp,Cq,B3,B1,Nat.reduceLT,Nat.reduceAdd,Nat.reduceEqDiff,Aa,Ab,reduceIte,Ac,Ad,Ae,Af,Ag,Ah,Ai,Aj,Ak,Al,Am,Ao,Ap,Aq,Ar,Au,Av,Aw,Option.toList,Ay,Az,Tryz.f179,Jo]
      exact ⟨_, _, rfl, rfl, x2.trans (x3.trans x4), c4, hj⟩
  ·
    rw [if_neg hm]
    simp only [A3,A6,Bb,Bc,Cr,Bn,B4,C9,Cu,B5,Cs,Ct,Da,Bu,Be,Bo,Bp,A2,A9,Ba,A5,Dc,B6,Bm,Bh,A8,A4,Bi,Bg,Bf,Bq,Br,B9,Ca,Bv,C0,Cz,C1,A0,A1,C2,Dd,ofOpt,ofOptS,Bw,Dh,Di,Cj,Cl,Bk,Bl,C4,Bj,Df,A7,Bd,Cm,Cn,Co,Cp,Cq,B3,B1,Nat.reduceLT,Nat.reduceAdd,Nat.reduceEqDiff,Aa,Ab,reduceIte,Ac,Ad,Ae,Af,Ag,Ah,Ai,Aj,Ak,Al,Am,Ao,Ap,Aq,Ar,Au,Av,Aw,Option.toList,Ay,Az,Tryz.f179,fp0,C3,hf1]
    refine WC.mono (Iv h hp hi hts 1 0 [[110, 111, 116]] (by decide) hm) ?_
    rintro _ ⟨S2, rfl, x2, c2, hi2, hp2⟩
    obtain ⟨S3, q3, x3, c3, b3, hp3⟩ := Eu c2 hp2 Dx
    simp only [A3,A6,Bb,Bc,Cr,Bn,B4,C9,Cu,B5,Cs,Ct,Da,Bu,Be,Bo,Bp,A2,A9,Ba,A5,Dc,B6,Bm,Bh,A8,A4,Bi,Bg,Bf,Bq,Br,B9,Ca,Bv,C0,Cz,C1,A0,A1,C2,Dd,ofOpt,ofOptS,Bw,Dh,Di,Cj,Cl,Bk,Bl,C4,Bj,Df,A7,Bd,Cm,Cn,Co,Cp,Cq,B3,B1,Nat.reduceLT,Nat.reduceAdd,Nat.reduceEqDiff,Aa,Ab,reduceIte,Ac,Ad,Ae,Af,Ag,Ah,Ai,Aj,Ak,Al,Am,Ao,Ap,Aq,Ar,Au,Av,Aw,Option.toList,Ay,Az,Tryz.f179,Cb,Dp,q3,fp0,hf2]
    refine WC.mono (Nn c3 hp3 hi2 hts 1 (by decide)) ?_
    cases hX : F4 ts 1 i with
    | out => exact absurd hX (Ip _ _ _)
    | bad a e =>
      rintro _ ⟨S4, rfl, x4⟩
      simp only [A3,A6,Bb,Bc,Cr,Bn,B4,C9,Cu,B5,Cs,Ct,Da,Bu,Be,Bo,Bp,A2,A9,Ba,A5,Dc,B6,Bm,Bh,A8,A4,Bi,Bg,Bf,Bq,Br,B9,Ca,Bv,C0,Cz,C1,A0,A1,C2,Dd,ofOpt,ofOptS,Bw,Dh,Di,Cj,Cl,Bk,Bl,C4,Bj,Df,A7,Bd,Cm,Cn,Co,Cp,Cq,B3,B1,Nat.reduceLT,Nat.reduceAdd,Nat.reduceEqDiff,Aa,Ab,reduceIte,Ac,Ad,Ae,Af,Ag,Ah,Ai,Aj,Ak,Al,Am,Ao,Ap,Aq,Ar,Au,Av,Aw,Option.toList,Ay,Az,Tryz.f179]
      exact ⟨_, rfl, x2.trans (x3.trans x4)⟩
    | ok t j =>
      rintro _ ⟨_, S4, rfl, rfl, x4, c4, hj⟩
      simp only [A3,A6,Bb,Bc,Cr,Bn,B4,C9,Cu,B5,Cs,Ct,Da,Bu,Be,Bo,Bp,A2,A9,Ba,A5,Dc,B6,Bm,Bh,A8,A4,Bi,Bg,Bf,Bq,Br,B9,Ca,Bv,C0,Cz,C1,A0,A1,C2,Dd,ofOpt,ofOptS,Bw,Dh,Di,Cj,Cl,Bk,Bl,C4,Bj,Df,A7,Bd,Cm,Cn,Co,Cp,Cq,B3,B1,Nat.reduceLT,Nat.reduceAdd,Nat.reduceEqDiff,Aa,Ab,reduceIte,Ac,Ad,Ae,Af,Ag,Ah,Ai,Aj,Ak,Al,Am,Ao,Ap,Aq,Ar,Au,Av,Aw,Option.toList,Ay,Az,Tryz.f179,Jo]
      exact ⟨_, _, rfl, rfl, x2.trans (x3.trans x4), c4, hj⟩
end Go.Ax
