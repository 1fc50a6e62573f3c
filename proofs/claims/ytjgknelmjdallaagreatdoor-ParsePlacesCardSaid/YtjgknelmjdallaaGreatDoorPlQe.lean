/-
  ParsePlaces' closures: does a word stand at its place?
-/
import Derived.Test.YtjgknelmjdallaaGreatDoorPlQd
import Derived.Test.YtjgknelmjdallaaGreatDoorPlQf
noncomputable section
namespace Go.Ax
open Go.RowKit Go.Proofs
set_option linter.unusedVariables false
set_option linter.unusedSimpArgs false
set_option maxRecDepth 100000

/-- Does a word stand there? -/
def stB (s w : List UInt8) (a : Nat) : Bool := decide (a + w.length ≤ s.length) && decide ((s.drop a).take w.length = w)
theorem ld4q {S : St} {q : Nat} {b : Bool} (h : Iz q b S) : Dw Tryz.prog S 4 (.ptr q 0) = some (.v (.bool b)) := by
  have a4 : Fv Tryz.prog 4 = some false := by kernel_rfl
  unfold Iz at h
  simp [Dw, D6, h, a4]
theorem st4q {S : St} {q : Nat} {b : Bool} (h : Iz q b S) (c : Bool) : Du Tryz.prog S 4 (.ptr q 0) (.v (.bool c)) = some (S.put q [.v (.bool c)]) := by
  have s4 : Fj Tryz.prog 4 = some 1 := by kernel_rfl
  have h2 : (AV.v (.bool c)).noTup = true := rfl
  unfold Iz at h
  simp [Du, h, s4, h2, AV.cells, St.put]
theorem ld9t {S : St} {t : Nat} {s : List UInt8} (h : S.mem.get t = some (.box [D5 s])) : Dw Tryz.prog S 9 (.ptr t 0) = some (.v (.string ⟨⟨s⟩⟩)) := by
  simp [Dw, D6, h, a9, D5]
theorem lenS9 (S : St) (s : List UInt8) : Ji Tryz.prog S 9 (.v (.string ⟨⟨s⟩⟩)) = some s.length := by
  have u9 : Tryz.prog.underlying 9 = some .string := by kernel_rfl
  simp only [Ji,u9]
  rfl
theorem Xi {q : Nat} {S : St} (hq : q < S.next) (c : Bool) : Iz q c (S.put q [.v (.bool c)]) ∧ Gr q S (S.put q [.v (.bool c)]) :=
  ⟨E9 _ _ _, by rw [Lp]; exact Nat.le_refl _, fun id _ hn => Fx hn⟩
set_option maxHeartbeats 16000000 in
theorem Ub (q tx : Nat) (s w : List UInt8) (a : Nat) (b : Bool) (hs : s.length ≤ 100000) (hw : w.length ≤ 100000) (ha : a ≤ 100000000) (S : St) (hf : Iz q b S) (hq : q < S.next) (ht : S.mem.get tx = some (.box [D5 s])) :
    WC E1 21 [D5 w, Dy a, .ptr q 0, .ptr tx 0] S (fun r => ∃ S', r = .ret (.tup []) S' ∧ Iz q (b && stB s w a) S' ∧ Gr q S S') := by
  refine Ek Tryz.f21 (by kernel_rfl) (by kernel_rfl) (by kernel_rfl) (show (_ : Nat) ≤ _ from by show (_ : Nat) ≤ _; simp [Tryz.f21]) ?_
  have l1 := ld4q hf
  have l2 := ld9t ht
  have l3 := lenS9 S w
  have l4 := lenS9 S s
  have hadd : IntKind.i64.wrap ((a : Int) + (w.length : Int)) = ((a + w.length : Nat) : Int) := by rw [IntWalk.i64_in _ (by omega)]; push_cast; rfl
  have hge : ((a : Int) ≥ 0) := by omega
  cases b with
  | false =>
    have q1 := st4q hf false
    have e : (false && stB s w a) = false := rfl
    rw [e]
    simp only [D5,Dy]
    simp only [↓D1,E7,E6,A3,A6,Bb,Bc,Cr,Bn,B4,C9,Cu,B5,Cs,Ct,Da,Ci,Ee,Ey,Ez,Dv,D8,D9,D2,De,B6,Bm,Ei,D7,D0,Ej,Eg,Ef,E3,E4,Fd,Fe,Bv,C0,Cz,C1,A0,A1,C2,Dd,ofOpt,ofOptS,Bw,Dh,Di,Cj,Cl,Bk,Bl,C4,Bj,Df,A7,Bd,Cm,Cn,Co,Cp,Cq,B3,B1,Nat.reduceLT,Nat.reduceAdd,Nat.reduceEqDiff,Aa,Ab,reduceIte,Ac,Ad,Ae,Af,Ag,Ah,Ai,Aj,Ak,Al,Am,Ao,Ap,Aq,Ar,Au,Av,Aw,Option.toList,Ay,Az,Tryz.f21,l1,q1]
    exact ⟨_, rfl, (Xi hq false).1, (Xi hq false).2⟩
  | true =>
    rw [Bool.true_and]
    by_cases hle : a + w.length ≤ s.length
    · have hle2 : (((a + w.length : Nat) : Int) ≤ (s.length : Int)) := by omega
      have hsl := Ue s a (a + w.length) (by omega) hle
      rw [Nat.add_sub_cancel_left] at hsl
      have hq2 := Y7 ((s.drop a).take w.length) w
      have e : stB s w a = decide ((s.drop a).take w.length = w) := by unfold stB; rw [decide_eq_true hle, Bool.true_and]
      rw [e]
      have q1 := st4q hf (decide ((s.drop a).take w.length = w))
      simp only [D5,Dy]
      generalize (decide ((s.drop a).take w.length = w)) = dd at hq2 q1 ⊢
      simp only [↓D1,E7,E6,A3,A6,Bb,Bc,Cr,Bn,B4,C9,Cu,B5,Cs,Ct,Da,Ci,Ee,Ey,Ez,Dv,D8,D9,D2,De,B6,Bm,Ei,D7,D0,Ej,Eg,Ef,E3,E4,Fd,Fe,Bv,C0,Cz,C1,A0,A1,C2,Dd,ofOpt,ofOptS,Bw,Dh,Di,Cj,Cl,Bk,Bl,C4,Bj,Df,A7,Bd,Cm,Cn,Co,Cp,Cq,B3,B1,Nat.reduceLT,Nat.reduceAdd,Nat.reduceEqDiff,Aa,Ab,reduceIte,Ac,Ad,Ae,Af,Ag,Ah,Ai,Aj,Ak,Al,Am,Ao,Ap,Aq,Ar,Au,Av,Aw,Option.toList,Ay,Az,Tryz.f21,l1,l2,l3,l4,hadd,hge,hle2,hsl,hq2,Gf,q1,Option.map_some,Option.toList_some,List.map_cons,List.map_nil]
      exact ⟨_, rfl, (Xi hq _).1, (Xi hq _).2⟩
    · have hle2 : ¬ (((a + w.length : Nat) : Int) ≤ (s.length : Int)) := by omega
      have e : stB s w a = false := by unfold stB; rw [decide_eq_false hle, Bool.false_and]
      rw [e]
      have q1 := st4q hf false
      simp only [D5,Dy]
      simp only [↓D1,E7,E6,A3,A6,Bb,Bc,Cr,Bn,B4,C9,Cu,B5,Cs,Ct,Da,Ci,Ee,Ey,Ez,Dv,D8,D9,D2,De,B6,Bm,Ei,D7,D0,Ej,Eg,Ef,E3,E4,Fd,Fe,Bv,C0,Cz,C1,A0,A1,C2,Dd,ofOpt,ofOptS,Bw,Dh,Di,Cj,Cl,Bk,Bl,C4,Bj,Df,A7,Bd,Cm,Cn,Co,Cp,Cq,B3,B1,Nat.reduceLT,Nat.reduceAdd,Nat.reduceEqDiff,Aa,Ab,reduceIte,Ac,Ad,Ae,Af,Ag,Ah,Ai,Aj,Ak,Al,Am,Ao,Ap,Aq,Ar,Au,Av,Aw,Option.toList,Ay,Az,Tryz.f21,l1,l2,l3,l4,hadd,hge,hle2,q1]
      exact ⟨_, rfl, (Xi hq false).1, (Xi hq false).2⟩
/-- The words of kinds. -/
def Ke (name : List UInt8) : List (Int × List UInt8) := [(3, name), (13, name), (6, name), (7, [105, 102]), (8, [45, 62]), (9, [102, 98, 121]), (10, [112, 114, 101]), (11, [119, 104, 101, 110]), (12, [109, 101, 114, 103, 101]), (14, [97, 119, 97, 105, 116]), (5, [110, 111, 116]), (4, [45])]
def Hp : List (Int × List UInt8) → Int → List UInt8
  | [], _ => []
  | (a, s) :: r, k => if k = a then s else Hp r k
def mE (l : List (Int × List UInt8)) : List (Value × AV) := l.map fun p => (Value.int .i64 p.1, D5 p.2)
theorem map61 : ∃ d, iS Tryz.prog 61 = some (3, d, 9) ∧ ∀ x y : Int, Instr.sameNow d (.int .i64 x) (.int .i64 y) = some (decide (x = y)) := by
  have h : (match iS Tryz.prog 61 with | some (3, .int _, 9) => true | _ => false) = true := by kernel_rfl
  split at h
  · rename_i k hk
    refine ⟨_, hk, fun x y => ?_⟩
    simp only [Instr.sameNow,Aa]
    by_cases e : x = y
    · subst e; simp
    · rw [decide_eq_false e]; simp [e]
  · cases h
theorem N3 {S : St} {m : Nat} {l : List (Int × List UInt8)} {k : Int} {s : List UInt8} (hm : S.mem.get m = some (.mp (mE l))) (h : ∀ p ∈ l, k ≠ p.1) : Fk Tryz.prog S 61 (.map m) (.v (.int .i64 k)) (D5 s) = some { S with mem := S.mem.set m (some (.mp (mE (l ++ [(k, s)])))) } := by
  obtain ⟨d, hd, hs⟩ := map61
  have hf : ∀ (l : List (Int × List UInt8)) (i : Nat), (∀ p ∈ l, k ≠ p.1) → Ou d (.int .i64 k) (mE l) i = some none := by
    intro l
    induction l with
    | nil => intro i _; rfl
    | cons p r ih =>
      intro i h
      unfold mE Ou
      simp only [List.map_cons, hs, decide_eq_false (h p (List.mem_cons_self ..))]
      exact ih (i + 1) (fun x hx => h x (List.mem_cons_of_mem _ hx))
  have ht : Ph 8 (.v (.int .i64 k)) = some (.int .i64 k) := rfl
  simp only [Fk,hd,hm,ht,hf l 0 h]
  simp [mE]
theorem look61 {S : St} {m : Nat} {l : List (Int × List UInt8)} (k : Int) (hm : S.mem.get m = some (.mp (mE l))) : Ni Tryz.prog S 61 (.map m) (.v (.int .i64 k)) false = some (D5 (Hp l k)) := by
  obtain ⟨d, hd, hs⟩ := map61
  have hf : ∀ (l : List (Int × List UInt8)) (i : Nat), (∃ j, Ou d (.int .i64 k) (mE l) i = some (some (j, D5 (Hp l k)))) ∨ (Ou d (.int .i64 k) (mE l) i = some none ∧ Hp l k = []) := by
    intro l
    induction l with
    | nil => intro i; exact .inr ⟨rfl, rfl⟩
    | cons p r ih =>
      intro i
      by_cases hk : k = p.1
      · refine .inl ⟨i, ?_⟩
        unfold mE Ou
        simp only [List.map_cons,hs,decide_eq_true hk]
        obtain ⟨a, s⟩ := p
        simp only [Hp]
        rw [if_pos hk]
      · have e : Hp (p :: r) k = Hp r k := by obtain ⟨a, s⟩ := p; simp only [Hp]; rw [if_neg hk]
        rw [e]
        unfold mE Ou
        simp only [List.map_cons,hs,decide_eq_false hk]
        exact ih (i + 1)
  have ht : Ph 8 (.v (.int .i64 k)) = some (.int .i64 k) := rfl
  have hz : Jy Tryz.prog 9 = some (D5 []) := by kernel_rfl
  simp only [Ni,Vl,hd,hm,ht]
  rcases hf l 0 with ⟨j, h⟩ | ⟨h, h2⟩
  · rw [h]; rfl
  · rw [h, h2, hz]; rfl
theorem ld9x {S : St} {id kind pos : Nat} {n : Int} {name : List UInt8} {off : Bool} {kv : AV} (h : S.mem.get id = some (.box (exC kind pos n name off kv))) : Dw Tryz.prog S 9 (.ptr id 3) = some (D5 name) := by
  simp [Dw, D6, h, a9, exC, D5]
theorem ld3x {S : St} {id kind pos : Nat} {n : Int} {name : List UInt8} {off : Bool} {kv : AV} (h : S.mem.get id = some (.box (exC kind pos n name off kv))) : Dw Tryz.prog S 3 (.ptr id 0) = some (Dy kind) ∧ Dw Tryz.prog S 3 (.ptr id 1) = some (Dy pos) := by
  simp [Dw, D6, h, a3, exC, Dy]
def mT : PE → Nat
  | .mk kind _ _ _ _ _ => kind
def Wz : PE → Nat
  | .mk _ pos _ _ _ _ => pos
def nameOf : PE → List UInt8
  | .mk _ _ _ name _ _ => name
def Pu (e : PE) : List UInt8 := Hp (Ke (nameOf e)) (mT e : Int)
theorem Y2 : ∃ fn, E1.F 21 = some fn := Option.isSome_iff_exists.1 (by kernel_rfl)
theorem fnOk24 : ∃ fn, E1.F 24 = some fn := Option.isSome_iff_exists.1 (by kernel_rfl)
theorem fx3 (b : Nat) : Dt Tryz.prog 30 (.ptr b 0) 3 = some (.ptr b 3) := by kernel_rfl
theorem fx0 (b : Nat) : Dt Tryz.prog 30 (.ptr b 0) 0 = some (.ptr b 0) := by kernel_rfl
theorem fx1 (b : Nat) : Dt Tryz.prog 30 (.ptr b 0) 1 = some (.ptr b 1) := by kernel_rfl
theorem ld45 {S : St} {id : Nat} {x : AV} (h : S.mem.get id = some (.box [x])) : Dw Tryz.prog S 45 (.ptr id 0) = some x := by
  have a45 : Fv Tryz.prog 45 = some false := by kernel_rfl
  simp [Dw, D6, h, a45]
def Hz (q tx : Nat) : AV := .fn (.func 21) [] [.ptr q 0, .ptr tx 0]
set_option maxHeartbeats 16000000 in
theorem gW (xs : List AV) (q tx st m b0 : Nat) (S S1 M0 M1 M2 M3 M4 M5 M6 M7 M8 M9 M10 M11 M12 : St) (name w : List UInt8) (kind pos : Nat) (Q : R → Prop) (hS1 : S.newBox xs = S1) (hb0 : S.next = b0) (hmk : Oi S1 = (.map m, M0)) (u0 : Fk Tryz.prog M0 61 (.map m) (.v (.int .i64 3)) (.v (.string ⟨⟨name⟩⟩)) = some M1) (u1 : Fk Tryz.prog M1 61 (.map m) (.v (.int .i64 13)) (.v (.string ⟨⟨name⟩⟩)) = some M2) (u2 : Fk Tryz.prog M2 61 (.map m) (.v (.int .i64 6)) (.v (.string ⟨⟨name⟩⟩)) = some M3) (u3 : Fk Tryz.prog M3 61 (.map m) (.v (.int .i64 7)) (.v (.string ⟨⟨[105, 102]⟩⟩)) = some M4) (u4 : Fk Tryz.prog M4 61 (.map m) (.v (.int .i64 8)) (.v (.string ⟨⟨[45, 62]⟩⟩)) = some M5) (u5 : Fk Tryz.prog M5 61 (.map m) (.v (.int .i64 9)) (.v (.string ⟨⟨[102, 98, 121]⟩⟩)) = some M6) (u6 : Fk Tryz.prog M6 61 (.map m) (.v (.int .i64 10)) (.v (.string ⟨⟨[112, 114, 101]⟩⟩)) = some M7) (u7 : Fk Tryz.prog M7 61 (.map m) (.v (.int .i64 11)) (.v (.string ⟨⟨[119, 104, 101, 110]⟩⟩)) = some M8) (u8 : Fk Tryz.prog M8 61 (.map m) (.v (.int .i64 12)) (.v (.string ⟨⟨[109, 101, 114, 103, 101]⟩⟩)) = some M9) (u9 : Fk Tryz.prog M9 61 (.map m) (.v (.int .i64 14)) (.v (.string ⟨⟨[97, 119, 97, 105, 116]⟩⟩)) = some M10) (u10 : Fk Tryz.prog M10 61 (.map m) (.v (.int .i64 5)) (.v (.string ⟨⟨[110, 111, 116]⟩⟩)) = some M11) (u11 : Fk Tryz.prog M11 61 (.map m) (.v (.int .i64 4)) (.v (.string ⟨⟨[45]⟩⟩)) = some M12)
    (p0 : Dw Tryz.prog M0 9 (.ptr b0 3) = some (.v (.string ⟨⟨name⟩⟩))) (p1 : Dw Tryz.prog M1 9 (.ptr b0 3) = some (.v (.string ⟨⟨name⟩⟩))) (p2 : Dw Tryz.prog M2 9 (.ptr b0 3) = some (.v (.string ⟨⟨name⟩⟩)))
    (lk : Ni Tryz.prog M12 61 (.map m) (.v (.int .i64 (kind : Int))) false = some (.v (.string ⟨⟨w⟩⟩))) (lp0 : Dw Tryz.prog M12 3 (.ptr b0 0) = some (.v (.int .i64 (kind : Int)))) (lp1 : Dw Tryz.prog M12 3 (.ptr b0 1) = some (.v (.int .i64 (pos : Int))))
    (t1 : Dw Tryz.prog M12 45 (.ptr st 0) = some (.fn (.func 21) [] [.ptr q 0, .ptr tx 0])) (hc : WC E1 21 [.v (.string ⟨⟨w⟩⟩), .v (.int .i64 (pos : Int)), .ptr q 0, .ptr tx 0] M12 (fun r => ∃ S', r = .ret (.tup []) S' ∧ Q r)) : WC E1 24 [.agg xs, .ptr st 0] S Q := by
  refine Ek Tryz.f24 (by kernel_rfl) (by kernel_rfl) (by kernel_rfl) (show (_ : Nat) ≤ _ from by show (_ : Nat) ≤ _; simp [Tryz.f24]) ?_
  obtain ⟨fn1, hf1⟩ := Y2
  have hxa : (AV.agg xs).noTup = true := rfl
  have hxc : (AV.agg xs).cells = xs := rfl
  simp only [↓D1,E7,E6,A3,A6,Bb,Bc,Cr,Bn,B4,C9,Cu,B5,Cs,Ct,Da,Ci,Ee,Ey,Ez,Dv,D8,D9,D2,De,B6,Bm,Ei,D7,D0,Ej,Eg,Ef,E3,E4,Fd,Fe,Bv,C0,Cz,C1,A0,A1,C2,Dd,ofOpt,ofOptS,Bw,Dh,Di,Cj,Cl,Bk,Bl,C4,Bj,Df,A7,Bd,Cm,Cn,Co,Cp,Cq,B3,B1,Nat.reduceLT,Nat.reduceAdd,Nat.reduceEqDiff,Aa,Ab,reduceIte,Ac,Ad,Ae,Af,Ag,Ah,Ai,Aj,Ak,Al,Am,Ao,Ap,Aq,Ar,Au,Av,Aw,Option.toList,Ay,Az,Tryz.f24,hxa,hxc,hS1,hb0,lk,lp0,lp1,t1,hf1,fx3,fx0,fx1,u0,u1,u2,u3,u4,u5,u6,u7,u8,u9,u10,u11,p0,p1,p2,hmk]
  refine WC.mono hc ?_
  rintro _ ⟨S', rfl, hq⟩
  simp only [↓D1,E7,E6,A3,A6,Bb,Bc,Cr,Bn,B4,C9,Cu,B5,Cs,Ct,Da,Ci,Ee,Ey,Ez,Dv,D8,D9,D2,De,B6,Bm,Ei,D7,D0,Ej,Eg,Ef,E3,E4,Fd,Fe,Bv,C0,Cz,C1,A0,A1,C2,Dd,ofOpt,ofOptS,Bw,Dh,Di,Cj,Cl,Bk,Bl,C4,Bj,Df,A7,Bd,Cm,Cn,Co,Cp,Cq,B3,B1,Nat.reduceLT,Nat.reduceAdd,Nat.reduceEqDiff,Aa,Ab,reduceIte,Ac,Ad,Ae,Af,Ag,Ah,Ai,Aj,Ak,Al,Am,Ao,Ap,Aq,Ar,Au,Av,Aw,Option.toList,Ay,Az,Tryz.f24]
  exact hq
set_option maxHeartbeats 16000000 in
theorem kI (q tx st : Nat) (s : List UInt8) (hs : s.length ≤ 100000) (e : PE) (kv : AV) (hw : (Pu e).length ≤ 100000) (hp : Wz e ≤ 100000000) (S : St) (b : Bool) (hS : Mw q [(tx, [D5 s]), (st, [Hz q tx])] S) (hf : Iz q b S) :
    WC E1 24 [.agg (J7 e kv), .ptr st 0] S (fun r => ∃ S', r = .ret (.tup []) S' ∧ Iz q (b && stB s (Pu e) (Wz e)) S' ∧ Gr q S S') := by
  obtain ⟨kind, pos, n, name, off, kids⟩ := e
  have g1 : (S.newBox (J7 (.mk kind pos n name off kids) kv)).mem.get S.next = some (.box (J7 (.mk kind pos n name off kids) kv)) := Ea S _
  have kS := Eb S (J7 (.mk kind pos n name off kids) kv)
  have nS : (S.newBox (J7 (.mk kind pos n name off kids) kv)).next = S.next + 1 := rfl
  generalize he : PE.mk kind pos n name off kids = e at *
  generalize hS1 : S.newBox (J7 e kv) = S1 at g1 kS nS
  have m0 : (⟨S1.next + 1, S1.mem.set S1.next (some (.mp (mE [])))⟩ : St).mem.get S1.next = some (.mp (mE [])) := by show (S1.mem.set S1.next _).get S1.next = _; rw [T.get_set, if_pos rfl]
  have hmk : Oi S1 = (.map S1.next, ⟨S1.next + 1, S1.mem.set S1.next (some (.mp (mE [])))⟩) := rfl
  have gb0 : (⟨S1.next + 1, S1.mem.set S1.next (some (.mp (mE [])))⟩ : St).mem.get S.next = some (.box (J7 e kv)) := by show (S1.mem.set S1.next _).get S.next = _; rw [T.get_set, if_neg (by omega)]; exact g1
  have k0 : Fg S1 (⟨S1.next + 1, S1.mem.set S1.next (some (.mp (mE [])))⟩ : St) := ⟨Nat.le_succ _, fun id hid => by show (S1.mem.set S1.next _).get id = _; rw [T.get_set, if_neg (by omega)]⟩
  generalize hM0 : (⟨S1.next + 1, S1.mem.set S1.next (some (.mp (mE [])))⟩ : St) = M0 at m0 hmk gb0 k0
  have n0 : M0.next = S1.next + 1 := by rw [← hM0]
  have u0 := N3 (k := 3) (s := name) m0 (by simp)
  rw [show ([] ++ [(3, name)] : List (Int × List UInt8)) = [(3, name)] from rfl] at u0
  have m1 : ({ M0 with mem := M0.mem.set S1.next (some (.mp (mE [(3, name)]))) } : St).mem.get S1.next = some (.mp (mE [(3, name)])) := by show (M0.mem.set S1.next _).get S1.next = _; rw [T.get_set, if_pos rfl]
  have gb1 : ({ M0 with mem := M0.mem.set S1.next (some (.mp (mE [(3, name)]))) } : St).mem.get S.next = some (.box (J7 e kv)) := by show (M0.mem.set S1.next _).get S.next = _; rw [T.get_set, if_neg (by omega)]; exact gb0
  have k1 : Fg S1 ({ M0 with mem := M0.mem.set S1.next (some (.mp (mE [(3, name)]))) } : St) := ⟨k0.1, fun id hid => by show (M0.mem.set S1.next _).get id = _; rw [T.get_set, if_neg (by omega)]; exact k0.2 id hid⟩
  have n1 : ({ M0 with mem := M0.mem.set S1.next (some (.mp (mE [(3, name)]))) } : St).next = S1.next + 1 := n0
  generalize hM1 : ({ M0 with mem := M0.mem.set S1.next (some (.mp (mE [(3, name)]))) } : St) = M1 at u0 m1 gb1 k1 n1
  have u1 := N3 (k := 13) (s := name) m1 (by simp)
  rw [show ([(3, name)] ++ [(13, name)] : List (Int × List UInt8)) = [(3, name), (13, name)] from rfl] at u1
  have m2 : ({ M1 with mem := M1.mem.set S1.next (some (.mp (mE [(3, name), (13, name)]))) } : St).mem.get S1.next = some (.mp (mE [(3, name), (13, name)])) := by show (M1.mem.set S1.next _).get S1.next = _; rw [T.get_set, if_pos rfl]
  have gb2 : ({ M1 with mem := M1.mem.set S1.next (some (.mp (mE [(3, name), (13, name)]))) } : St).mem.get S.next = some (.box (J7 e kv)) := by show (M1.mem.set S1.next _).get S.next = _; rw [T.get_set, if_neg (by omega)]; exact gb1
  have k2 : Fg S1 ({ M1 with mem := M1.mem.set S1.next (some (.mp (mE [(3, name), (13, name)]))) } : St) := ⟨k1.1, fun id hid => by show (M1.mem.set S1.next _).get id = _; rw [T.get_set, if_neg (by omega)]; exact k1.2 id hid⟩
  have n2 : ({ M1 with mem := M1.mem.set S1.next (some (.mp (mE [(3, name), (13, name)]))) } : St).next = S1.next + 1 := n1
  generalize hM2 : ({ M1 with mem := M1.mem.set S1.next (some (.mp (mE [(3, name), (13, name)]))) } : St) = M2 at u1 m2 gb2 k2 n2
  have u2 := N3 (k := 6) (s := name) m2 (by simp)
  rw [show ([(3, name), (13, name)] ++ [(6, name)] : List (Int × List UInt8)) = [(3, name), (13, name), (6, name)] from rfl] at u2
  have m3 : ({ M2 with mem := M2.mem.set S1.next (some (.mp (mE [(3, name), (13, name), (6, name)]))) } : St).mem.get S1.next = some (.mp (mE [(3, name), (13, name), (6, name)])) := by show (M2.mem.set S1.next _).get S1.next = _; rw [T.get_set, if_pos rfl]
  have gb3 : ({ M2 with mem := M2.mem.set S1.next (some (.mp (mE [(3, name), (13, name), (6, name)]))) } : St).mem.get S.next = some (.box (J7 e kv)) := by show (M2.mem.set S1.next _).get S.next = _; rw [T.get_set, if_neg (by omega)]; exact gb2
  have k3 : Fg S1 ({ M2 with mem := M2.mem.set S1.next (some (.mp (mE [(3, name), (13, name), (6, name)]))) } : St) := ⟨k2.1, fun id hid => by show (M2.mem.set S1.next _).get id = _; rw [T.get_set, if_neg (by omega)]; exact k2.2 id hid⟩
  have n3 : ({ M2 with mem := M2.mem.set S1.next (some (.mp (mE [(3, name), (13, name), (6, name)]))) } : St).next = S1.next + 1 := n2
  generalize hM3 : ({ M2 with mem := M2.mem.set S1.next (some (.mp (mE [(3, name), (13, name), (6, name)]))) } : St) = M3 at u2 m3 gb3 k3 n3
  have u3 := N3 (k := 7) (s := [105, 102]) m3 (by simp)
  rw [show ([(3, name), (13, name), (6, name)] ++ [(7, [105, 102])] : List (Int × List UInt8)) = [(3, name), (13, name), (6, name), (7, [105, 102])] from rfl] at u3
  have m4 : ({ M3 with mem := M3.mem.set S1.next (some (.mp (mE [(3, name), (13, name), (6, name), (7, [105, 102])]))) } : St).mem.get S1.next = some (.mp (mE [(3, name), (13, name), (6, name), (7, [105, 102])])) := by show (M3.mem.set S1.next _).get S1.next = _; rw [T.get_set, if_pos rfl]
  have gb4 : ({ M3 with mem := M3.mem.set S1.next (some (.mp (mE [(3, name), (13, name), (6, name), (7, [105, 102])]))) } : St).mem.get S.next = some (.box (J7 e kv)) := by show (M3.mem.set S1.next _).get S.next = _; rw [T.get_set, if_neg (by omega)]; exact gb3
  have k4 : Fg S1 ({ M3 with mem := M3.mem.set S1.next (some (.mp (mE [(3, name), (13, name), (6, name), (7, [105, 102])]))) } : St) := ⟨k3.1, fun id hid => by show (M3.mem.set S1.next _).get id = _; rw [T.get_set, if_neg (by omega)]; exact k3.2 id hid⟩
  have n4 : ({ M3 with mem := M3.mem.set S1.next (some (.mp (mE [(3, name), (13, name), (6, name), (7, [105, 102])]))) } : St).next = S1.next + 1 := n3
  generalize hM4 : ({ M3 with mem := M3.mem.set S1.next (some (.mp (mE [(3, name), (13, name), (6, name), (7, [105, 102])]))) } : St) = M4 at u3 m4 gb4 k4 n4
  have u4 := N3 (k := 8) (s := [45, 62]) m4 (by simp)
  rw [show ([(3, name), (13, name), (6, name), (7, [105, 102])] ++ [(8, [45, 62])] : List (Int × List UInt8)) = [(3, name), (13, name), (6, name), (7, [105, 102]), (8, [45, 62])] from rfl] at u4
  have m5 : ({ M4 with mem := M4.mem.set S1.next (some (.mp (mE [(3, name), (13, name), (6, name), (7, [105, 102]), (8, [45, 62])]))) } : St).mem.get S1.next = some (.mp (mE [(3, name), (13, name), (6, name), (7, [105, 102]), (8, [45, 62])])) := by show (M4.mem.set S1.next _).get S1.next = _; rw [T.get_set, if_pos rfl]
  have gb5 : ({ M4 with mem := M4.mem.set S1.next (some (.mp (mE [(3, name), (13, name), (6, name), (7, [105, 102]), (8, [45, 62])]))) } : St).mem.get S.next = some (.box (J7 e kv)) := by show (M4.mem.set S1.next _).get S.next = _; rw [T.get_set, if_neg (by omega)]; exact gb4
  have k5 : Fg S1 ({ M4 with mem := M4.mem.set S1.next (some (.mp (mE [(3, name), (13, name), (6, name), (7, [105, 102]), (8, [45, 62])]))) } : St) := ⟨k4.1, fun id hid => by show (M4.mem.set S1.next _).get id = _; rw [T.get_set, if_neg (by omega)]; exact k4.2 id hid⟩
  have n5 : ({ M4 with mem := M4.mem.set S1.next (some (.mp (mE [(3, name), (13, name), (6, name), (7, [105, 102]), (8, [45, 62])]))) } : St).next = S1.next + 1 := n4
  generalize hM5 : ({ M4 with mem := M4.mem.set S1.next (some (.mp (mE [(3, name), (13, name), (6, name), (7, [105, 102]), (8, [45, 62])]))) } : St) = M5 at u4 m5 gb5 k5 n5
  have u5 := N3 (k := 9) (s := [102, 98, 121]) m5 (by simp)
  rw [show ([(3, name), (13, name), (6, name), (7, [105, 102]), (8, [45, 62])] ++ [(9, [102, 98, 121])] : List (Int × List UInt8)) = [(3, name), (13, name), (6, name), (7, [105, 102]), (8, [45, 62]), (9, [102, 98, 121])] from rfl] at u5
  have m6 : ({ M5 with mem := M5.mem.set S1.next (some (.mp (mE [(3, name), (13, name), (6, name), (7, [105, 102]), (8, [45, 62]), (9, [102, 98, 121])]))) } : St).mem.get S1.next = some (.mp (mE [(3, name), (13, name), (6, name), (7, [105, 102]), (8, [45, 62]), (9, [102, 98, 121])])) := by show (M5.mem.set S1.next _).get S1.next = _; rw [T.get_set, if_pos rfl]
  have gb6 : ({ M5 with mem := M5.mem.set S1.next (some (.mp (mE [(3, name), (13, name), (6, name), (7, [105, 102]), (8, [45, 62]), (9, [102, 98, 121])]))) } : St).mem.get S.next = some (.box (J7 e kv)) := by show (M5.mem.set S1.next _).get S.next = _; rw [T.get_set, if_neg (by omega)]; exact gb5
  have k6 : Fg S1 ({ M5 with mem := M5.mem.set S1.next (some (.mp (mE [(3, name), (13, name), (6, name), (7, [105, 102]), (8, [45, 62]), (9, [102, 98, 121])]))) } : St) := ⟨k5.1, fun id hid => by show (M5.mem.set S1.next _).get id = _; rw [T.get_set, if_neg (by omega)]; exact k5.2 id hid⟩
  have n6 : ({ M5 with mem := M5.mem.set S1.next (some (.mp (mE [(3, name), (13, name), (6, name), (7, [105, 102]), (8, [45, 62]), (9, [102, 98, 121])]))) } : St).next = S1.next + 1 := n5
  generalize hM6 : ({ M5 with mem := M5.mem.set S1.next (some (.mp (mE [(3, name), (13, name), (6, name), (7, [105, 102]), (8, [45, 62]), (9, [102, 98, 121])]))) } : St) = M6 at u5 m6 gb6 k6 n6
  have u6 := N3 (k := 10) (s := [112, 114, 101]) m6 (by simp)
  rw [show ([(3, name), (13, name), (6, name), (7, [105, 102]), (8, [45, 62]), (9, [102, 98, 121])] ++ [(10, [112, 114, 101])] : List (Int × List UInt8)) = [(3, name), (13, name), (6, name), (7, [105, 102]), (8, [45, 62]), (9, [102, 98, 121]), (10, [112, 114, 101])] from rfl] at u6
  have m7 : ({ M6 with mem := M6.mem.set S1.next (some (.mp (mE [(3, name), (13, name), (6, name), (7, [105, 102]), (8, [45, 62]), (9, [102, 98, 121]), (10, [112, 114, 101])]))) } : St).mem.get S1.next = some (.mp (mE [(3, name), (13, name), (6, name), (7, [105, 102]), (8, [45, 62]), (9, [102, 98, 121]), (10, [112, 114, 101])])) := by show (M6.mem.set S1.next _).get S1.next = _; rw [T.get_set, if_pos rfl]
  have gb7 : ({ M6 with mem := M6.mem.set S1.next (some (.mp (mE [(3, name), (13, name), (6, name), (7, [105, 102]), (8, [45, 62]), (9, [102, 98, 121]), (10, [112, 114, 101])]))) } : St).mem.get S.next = some (.box (J7 e kv)) := by show (M6.mem.set S1.next _).get S.next = _; rw [T.get_set, if_neg (by omega)]; exact gb6
  have k7 : Fg S1 ({ M6 with mem := M6.mem.set S1.next (some (.mp (mE [(3, name), (13, name), (6, name), (7, [105, 102]), (8, [45, 62]), (9, [102, 98, 121]), (10, [112, 114, 101])]))) } : St) := ⟨k6.1, fun id hid => by show (M6.mem.set S1.next _).get id = _; rw [T.get_set, if_neg (by omega)]; exact k6.2 id hid⟩
  have n7 : ({ M6 with mem := M6.mem.set S1.next (some (.mp (mE [(3, name), (13, name), (6, name), (7, [105, 102]), (8, [45, 62]), (9, [102, 98, 121]), (10, [112, 114, 101])]))) } : St).next = S1.next + 1 := n6
  generalize hM7 : ({ M6 with mem := M6.mem.set S1.next (some (.mp (mE [(3, name), (13, name), (6, name), (7, [105, 102]), (8, [45, 62]), (9, [102, 98, 121]), (10, [112, 114, 101])]))) } : St) = M7 at u6 m7 gb7 k7 n7
  have u7 := N3 (k := 11) (s := [119, 104, 101, 110]) m7 (by simp)
  rw [show ([(3, name), (13, name), (6, name), (7, [105, 102]), (8, [45, 62]), (9, [102, 98, 121]), (10, [112, 114, 101])] ++ [(11, [119, 104, 101, 110])] : List (Int × List UInt8)) = [(3, name), (13, name), (6, name), (7, [105, 102]), (8, [45, 62]), (9, [102, 98, 121]), (10, [112, 114, 101]), (11, [119, 104, 101, 110])] from rfl] at u7
  have m8 : ({ M7 with mem := M7.mem.set S1.next (some (.mp (mE [(3, name), (13, name), (6, name), (7, [105, 102]), (8, [45, 62]), (9, [102, 98, 121]), (10, [112, 114, 101]), (11, [119, 104, 101, 110])]))) } : St).mem.get S1.next = some (.mp (mE [(3, name), (13, name), (6, name), (7, [105, 102]), (8, [45, 62]), (9, [102, 98, 121]), (10, [112, 114, 101]), (11, [119, 104, 101, 110])])) := by show (M7.mem.set S1.next _).get S1.next = _; rw [T.get_set, if_pos rfl]
  have gb8 : ({ M7 with mem := M7.mem.set S1.next (some (.mp (mE [(3, name), (13, name), (6, name), (7, [105, 102]), (8, [45, 62]), (9, [102, 98, 121]), (10, [112, 114, 101]), (11, [119, 104, 101, 110])]))) } : St).mem.get S.next = some (.box (J7 e kv)) := by show (M7.mem.set S1.next _).get S.next = _; rw [T.get_set, if_neg (by omega)]; exact gb7
  have k8 : Fg S1 ({ M7 with mem := M7.mem.set S1.next (some (.mp (mE [(3, name), (13, name), (6, name), (7, [105, 102]), (8, [45, 62]), (9, [102, 98, 121]), (10, [112, 114, 101]), (11, [119, 104, 101, 110])]))) } : St) := ⟨k7.1, fun id hid => by show (M7.mem.set S1.next _).get id = _; rw [T.get_set, if_neg (by omega)]; exact k7.2 id hid⟩
  have n8 : ({ M7 with mem := M7.mem.set S1.next (some (.mp (mE [(3, name), (13, name), (6, name), (7, [105, 102]), (8, [45, 62]), (9, [102, 98, 121]), (10, [112, 114, 101]), (11, [119, 104, 101, 110])]))) } : St).next = S1.next + 1 := n7
  generalize hM8 : ({ M7 with mem := M7.mem.set S1.next (some (.mp (mE [(3, name), (13, name), (6, name), (7, [105, 102]), (8, [45, 62]), (9, [102, 98, 121]), (10, [112, 114, 101]), (11, [119, 104, 101, 110])]))) } : St) = M8 at u7 m8 gb8 k8 n8
  have u8 := N3 (k := 12) (s := [109, 101, 114, 103, 101]) m8 (by simp)
  rw [show ([(3, name), (13, name), (6, name), (7, [105, 102]), (8, [45, 62]), (9, [102, 98, 121]), (10, [112, 114, 101]), (11, [119, 104, 101, 110])] ++ [(12, [109, 101, 114, 103, 101])] : List (Int × List UInt8)) = [(3, name), (13, name), (6, name), (7, [105, 102]), (8, [45, 62]), (9, [102, 98, 121]), (10, [112, 114, 101]), (11, [119, 104, 101, 110]), (12, [109, 101, 114, 103, 101])] from rfl] at u8
  have m9 : ({ M8 with mem := M8.mem.set S1.next (some (.mp (mE [(3, name), (13, name), (6, name), (7, [105, 102]), (8, [45, 62]), (9, [102, 98, 121]), (10, [112, 114, 101]), (11, [119, 104, 101, 110]), (12, [109, 101, 114, 103, 101])]))) } : St).mem.get S1.next = some (.mp (mE [(3, name), (13, name), (6, name), (7, [105, 102]), (8, [45, 62]), (9, [102, 98, 121]), (10, [112, 114, 101]), (11, [119, 104, 101, 110]), (12, [109, 101, 114, 103, 101])])) := by show (M8.mem.set S1.next _).get S1.next = _; rw [T.get_set, if_pos rfl]
  have gb9 : ({ M8 with mem := M8.mem.set S1.next (some (.mp (mE [(3, name), (13, name), (6, name), (7, [105, 102]), (8, [45, 62]), (9, [102, 98, 121]), (10, [112, 114, 101]), (11, [119, 104, 101, 110]), (12, [109, 101, 114, 103, 101])]))) } : St).mem.get S.next = some (.box (J7 e kv)) := by show (M8.mem.set S1.next _).get S.next = _; rw [T.get_set, if_neg (by omega)]; exact gb8
  have k9 : Fg S1 ({ M8 with mem := M8.mem.set S1.next (some (.mp (mE [(3, name), (13, name), (6, name), (7, [105, 102]), (8, [45, 62]), (9, [102, 98, 121]), (10, [112, 114, 101]), (11, [119, 104, 101, 110]), (12, [109, 101, 114, 103, 101])]))) } : St) := ⟨k8.1, fun id hid => by show (M8.mem.set S1.next _).get id = _; rw [T.get_set, if_neg (by omega)]; exact k8.2 id hid⟩
  have n9 : ({ M8 with mem := M8.mem.set S1.next (some (.mp (mE [(3, name), (13, name), (6, name), (7, [105, 102]), (8, [45, 62]), (9, [102, 98, 121]), (10, [112, 114, 101]), (11, [119, 104, 101, 110]), (12, [109, 101, 114, 103, 101])]))) } : St).next = S1.next + 1 := n8
  generalize hM9 : ({ M8 with mem := M8.mem.set S1.next (some (.mp (mE [(3, name), (13, name), (6, name), (7, [105, 102]), (8, [45, 62]), (9, [102, 98, 121]), (10, [112, 114, 101]), (11, [119, 104, 101, 110]), (12, [109, 101, 114, 103, 101])]))) } : St) = M9 at u8 m9 gb9 k9 n9
  have u9 := N3 (k := 14) (s := [97, 119, 97, 105, 116]) m9 (by simp)
  rw [show ([(3, name), (13, name), (6, name), (7, [105, 102]), (8, [45, 62]), (9, [102, 98, 121]), (10, [112, 114, 101]), (11, [119, 104, 101, 110]), (12, [109, 101, 114, 103, 101])] ++ [(14, [97, 119, 97, 105, 116])] : List (Int × List UInt8)) = [(3, name), (13, name), (6, name), (7, [105, 102]), (8, [45, 62]), (9, [102, 98, 121]), (10, [112, 114, 101]), (11, [119, 104, 101, 110]), (12, [109, 101, 114, 103, 101]), (14, [97, 119, 97, 105, 116])] from rfl] at u9
  have m10 : ({ M9 with mem := M9.mem.set S1.next (some (.mp (mE [(3, name), (13, name), (6, name), (7, [105, 102]), (8, [45, 62]), (9, [102, 98, 121]), (10, [112, 114, 101]), (11, [119, 104, 101, 110]), (12, [109, 101, 114, 103, 101]), (14, [97, 119, 97, 105, 116])]))) } : St).mem.get S1.next = some (.mp (mE [(3, name), (13, name), (6, name), (7, [105, 102]), (8, [45, 62]), (9, [102, 98, 121]), (10, [112, 114, 101]), (11, [119, 104, 101, 110]), (12, [109, 101, 114, 103, 101]), (14, [97, 119, 97, 105, 116])])) := by show (M9.mem.set S1.next _).get S1.next = _; rw [T.get_set, if_pos rfl]
  have gb10 : ({ M9 with mem := M9.mem.set S1.next (some (.mp (mE [(3, name), (13, name), (6, name), (7, [105, 102]), (8, [45, 62]), (9, [102, 98, 121]), (10, [112, 114, 101]), (11, [119, 104, 101, 110]), (12, [109, 101, 114, 103, 101]), (14, [97, 119, 97, 105, 116])]))) } : St).mem.get S.next = some (.box (J7 e kv)) := by show (M9.mem.set S1.next _).get S.next = _; rw [T.get_set, if_neg (by omega)]; exact gb9
  have k10 : Fg S1 ({ M9 with mem := M9.mem.set S1.next (some (.mp (mE [(3, name), (13, name), (6, name), (7, [105, 102]), (8, [45, 62]), (9, [102, 98, 121]), (10, [112, 114, 101]), (11, [119, 104, 101, 110]), (12, [109, 101, 114, 103, 101]), (14, [97, 119, 97, 105, 116])]))) } : St) := ⟨k9.1, fun id hid => by show (M9.mem.set S1.next _).get id = _; rw [T.get_set, if_neg (by omega)]; exact k9.2 id hid⟩
  have n10 : ({ M9 with mem := M9.mem.set S1.next (some (.mp (mE [(3, name), (13, name), (6, name), (7, [105, 102]), (8, [45, 62]), (9, [102, 98, 121]), (10, [112, 114, 101]), (11, [119, 104, 101, 110]), (12, [109, 101, 114, 103, 101]), (14, [97, 119, 97, 105, 116])]))) } : St).next = S1.next + 1 := n9
  generalize hM10 : ({ M9 with mem := M9.mem.set S1.next (some (.mp (mE [(3, name), (13, name), (6, name), (7, [105, 102]), (8, [45, 62]), (9, [102, 98, 121]), (10, [112, 114, 101]), (11, [119, 104, 101, 110]), (12, [109, 101, 114, 103, 101]), (14, [97, 119, 97, 105, 116])]))) } : St) = M10 at u9 m10 gb10 k10 n10
  have u10 := N3 (k := 5) (s := [110, 111, 116]) m10 (by simp)
  rw [show ([(3, name), (13, name), (6, name), (7, [105, 102]), (8, [45, 62]), (9, [102, 98, 121]), (10, [112, 114, 101]), (11, [119, 104, 101, 110]), (12, [109, 101, 114, 103, 101]), (14, [97, 119, 97, 105, 116])] ++ [(5, [110, 111, 116])] : List (Int × List UInt8)) = [(3, name), (13, name), (6, name), (7, [105, 102]), (8, [45, 62]), (9, [102, 98, 121]), (10, [112, 114, 101]), (11, [119, 104, 101, 110]), (12, [109, 101, 114, 103, 101]), (14, [97, 119, 97, 105, 116]), (5, [110, 111, 116])] from rfl] at u10
  have m11 : ({ M10 with mem := M10.mem.set S1.next (some (.mp (mE [(3, name), (13, name), (6, name), (7, [105, 102]), (8, [45, 62]), (9, [102, 98, 121]), (10, [112, 114, 101]), (11, [119, 104, 101, 110]), (12, [109, 101, 114, 103, 101]), (14, [97, 119, 97, 105, 116]), (5, [110, 111, 116])]))) } : St).mem.get S1.next = some (.mp (mE [(3, name), (13, name), (6, name), (7, [105, 102]), (8, [45, 62]), (9, [102, 98, 121]), (10, [112, 114, 101]), (11, [119, 104, 101, 110]), (12, [109, 101, 114, 103, 101]), (14, [97, 119, 97, 105, 116]), (5, [110, 111, 116])])) := by show (M10.mem.set S1.next _).get S1.next = _; rw [T.get_set, if_pos rfl]
  have gb11 : ({ M10 with mem := M10.mem.set S1.next (some (.mp (mE [(3, name), (13, name), (6, name), (7, [105, 102]), (8, [45, 62]), (9, [102, 98, 121]), (10, [112, 114, 101]), (11, [119, 104, 101, 110]), (12, [109, 101, 114, 103, 101]), (14, [97, 119, 97, 105, 116]), (5, [110, 111, 116])]))) } : St).mem.get S.next = some (.box (J7 e kv)) := by show (M10.mem.set S1.next _).get S.next = _; rw [T.get_set, if_neg (by omega)]; exact gb10
  have k11 : Fg S1 ({ M10 with mem := M10.mem.set S1.next (some (.mp (mE [(3, name), (13, name), (6, name), (7, [105, 102]), (8, [45, 62]), (9, [102, 98, 121]), (10, [112, 114, 101]), (11, [119, 104, 101, 110]), (12, [109, 101, 114, 103, 101]), (14, [97, 119, 97, 105, 116]), (5, [110, 111, 116])]))) } : St) := ⟨k10.1, fun id hid => by show (M10.mem.set S1.next _).get id = _; rw [T.get_set, if_neg (by omega)]; exact k10.2 id hid⟩
  have n11 : ({ M10 with mem := M10.mem.set S1.next (some (.mp (mE [(3, name), (13, name), (6, name), (7, [105, 102]), (8, [45, 62]), (9, [102, 98, 121]), (10, [112, 114, 101]), (11, [119, 104, 101, 110]), (12, [109, 101, 114, 103, 101]), (14, [97, 119, 97, 105, 116]), (5, [110, 111, 116])]))) } : St).next = S1.next + 1 := n10
  generalize hM11 : ({ M10 with mem := M10.mem.set S1.next (some (.mp (mE [(3, name), (13, name), (6, name), (7, [105, 102]), (8, [45, 62]), (9, [102, 98, 121]), (10, [112, 114, 101]), (11, [119, 104, 101, 110]), (12, [109, 101, 114, 103, 101]), (14, [97, 119, 97, 105, 116]), (5, [110, 111, 116])]))) } : St) = M11 at u10 m11 gb11 k11 n11
  have u11 := N3 (k := 4) (s := [45]) m11 (by simp)
  rw [show ([(3, name), (13, name), (6, name), (7, [105, 102]), (8, [45, 62]), (9, [102, 98, 121]), (10, [112, 114, 101]), (11, [119, 104, 101, 110]), (12, [109, 101, 114, 103, 101]), (14, [97, 119, 97, 105, 116]), (5, [110, 111, 116])] ++ [(4, [45])] : List (Int × List UInt8)) = [(3, name), (13, name), (6, name), (7, [105, 102]), (8, [45, 62]), (9, [102, 98, 121]), (10, [112, 114, 101]), (11, [119, 104, 101, 110]), (12, [109, 101, 114, 103, 101]), (14, [97, 119, 97, 105, 116]), (5, [110, 111, 116]), (4, [45])] from rfl] at u11
  have m12 : ({ M11 with mem := M11.mem.set S1.next (some (.mp (mE [(3, name), (13, name), (6, name), (7, [105, 102]), (8, [45, 62]), (9, [102, 98, 121]), (10, [112, 114, 101]), (11, [119, 104, 101, 110]), (12, [109, 101, 114, 103, 101]), (14, [97, 119, 97, 105, 116]), (5, [110, 111, 116]), (4, [45])]))) } : St).mem.get S1.next = some (.mp (mE [(3, name), (13, name), (6, name), (7, [105, 102]), (8, [45, 62]), (9, [102, 98, 121]), (10, [112, 114, 101]), (11, [119, 104, 101, 110]), (12, [109, 101, 114, 103, 101]), (14, [97, 119, 97, 105, 116]), (5, [110, 111, 116]), (4, [45])])) := by show (M11.mem.set S1.next _).get S1.next = _; rw [T.get_set, if_pos rfl]
  have gb12 : ({ M11 with mem := M11.mem.set S1.next (some (.mp (mE [(3, name), (13, name), (6, name), (7, [105, 102]), (8, [45, 62]), (9, [102, 98, 121]), (10, [112, 114, 101]), (11, [119, 104, 101, 110]), (12, [109, 101, 114, 103, 101]), (14, [97, 119, 97, 105, 116]), (5, [110, 111, 116]), (4, [45])]))) } : St).mem.get S.next = some (.box (J7 e kv)) := by show (M11.mem.set S1.next _).get S.next = _; rw [T.get_set, if_neg (by omega)]; exact gb11
  have k12 : Fg S1 ({ M11 with mem := M11.mem.set S1.next (some (.mp (mE [(3, name), (13, name), (6, name), (7, [105, 102]), (8, [45, 62]), (9, [102, 98, 121]), (10, [112, 114, 101]), (11, [119, 104, 101, 110]), (12, [109, 101, 114, 103, 101]), (14, [97, 119, 97, 105, 116]), (5, [110, 111, 116]), (4, [45])]))) } : St) := ⟨k11.1, fun id hid => by show (M11.mem.set S1.next _).get id = _; rw [T.get_set, if_neg (by omega)]; exact k11.2 id hid⟩
  have n12 : ({ M11 with mem := M11.mem.set S1.next (some (.mp (mE [(3, name), (13, name), (6, name), (7, [105, 102]), (8, [45, 62]), (9, [102, 98, 121]), (10, [112, 114, 101]), (11, [119, 104, 101, 110]), (12, [109, 101, 114, 103, 101]), (14, [97, 119, 97, 105, 116]), (5, [110, 111, 116]), (4, [45])]))) } : St).next = S1.next + 1 := n11
  generalize hM12 : ({ M11 with mem := M11.mem.set S1.next (some (.mp (mE [(3, name), (13, name), (6, name), (7, [105, 102]), (8, [45, 62]), (9, [102, 98, 121]), (10, [112, 114, 101]), (11, [119, 104, 101, 110]), (12, [109, 101, 114, 103, 101]), (14, [97, 119, 97, 105, 116]), (5, [110, 111, 116]), (4, [45])]))) } : St) = M12 at u11 m12 gb12 k12 n12
  have hx : J7 e kv = exC kind pos n name off kv := by rw [← he]; rfl
  have p0 := ld9x (hx ▸ gb0)
  have p1 := ld9x (hx ▸ gb1)
  have p2 := ld9x (hx ▸ gb2)
  have lk := look61 (k := (kind : Int)) m12
  have lp := ld3x (hx ▸ gb12)
  have hwo : Hp [(3, name), (13, name), (6, name), (7, [105, 102]), (8, [45, 62]), (9, [102, 98, 121]), (10, [112, 114, 101]), (11, [119, 104, 101, 110]), (12, [109, 101, 114, 103, 101]), (14, [97, 119, 97, 105, 116]), (5, [110, 111, 116]), (4, [45])] (kind : Int) = Pu e := by rw [← he]; rfl
  rw [hwo] at lk
  have hpo : Wz e = pos := by rw [← he]; rfl
  have lp0 := lp.1
  have lp1 := lp.2
  have kA : Gr q S M12 := (kS.trans k12).b
  have hS2 := hS.keep kA
  have t1 := ld45 (hS2.2.2 (st, [Hz q tx]) (by simp)).2.2
  have t2 := (hS2.2.2 (tx, [D5 s]) (by simp)).2.2
  have hf2 := hf.keep hS.2.1 (kS.trans k12)
  simp only [D5,Dy] at u0 u1 u2 u3 u4 u5 u6 u7 u8 u9 u10 u11 p0 p1 p2 lk lp0 lp1
  simp only [Hz] at t1
  refine gW (J7 e kv) q tx st S1.next S.next S S1 M0 M1 M2 M3 M4 M5 M6 M7 M8 M9 M10 M11 M12 name (Pu e) kind pos _ hS1 rfl hmk u0 u1 u2 u3 u4 u5 u6 u7 u8 u9 u10 u11 p0 p1 p2 lk lp0 lp1 t1 ?_
  refine WC.mono (Ub q tx s (Pu e) pos b hs hw (hpo ▸ hp) M12 hf2 hS2.2.1 t2) ?_
  rintro _ ⟨S', rfl, f', k'⟩
  exact ⟨S', rfl, S', rfl, by rw [hpo]; exact f', kA.trans k'⟩
end Go.Ax
