/-
  How many levels an expression has: reasoned over.
-/
import Derived.Test.YtjgknelmjdallaaGreatDoorPlPi
noncomputable section
namespace Go.Ax
open Go.RowKit Go.Proofs
set_option linter.unusedVariables false
set_option linter.unusedSimpArgs false
set_option maxRecDepth 100000

def maxG (x y : Value) : Operand → Value := fun z => match z with
  | .tmp 0 => x
  | _ => y
theorem max_eq (F : Operand → Value) (dst : Option Tmp) (k l : Tmp) (ty : TypeId) (pos : String) (af : Array Edge) (gd : Option (Nat × Bool)) : execOp F { dst := dst, op := .call { callee := .builtin .max, args := #[.tmp k, .tmp l], argTypes := #[3, 3] }, type := ty, pos := pos, after := af, guard := gd } = execOp (maxG (F (.tmp k)) (F (.tmp l))) { dst := none, op := .call { callee := .builtin .max, args := #[.tmp 0, .tmp 1], argTypes := #[3, 3] }, type := ty, pos := "", after := #[], guard := none } := by kernel_rfl
theorem max_val (a b : Int) (ty : TypeId) : Pk Tryz.prog 4000 (execOp (maxG (.int .i64 a) (.int .i64 b)) { dst := none, op := .call { callee := .builtin .max, args := #[.tmp 0, .tmp 1], argTypes := #[3, 3] }, type := ty, pos := "", after := #[], guard := none }) = some (.int .i64 (if b > a then b else a)) := by kernel_rfl
def maxX (P : Program) (G : Gl) (f : T AV) (S : St) (o : Oper) : OR := ground P G f S o
def maxO (r : OR) (S : St) (x y : Option AV) : OR := match x, y with
  | some (.v (.int .i64 a)), some (.v (.int .i64 b)) => .val (.v (.int .i64 (if b > a then b else a))) S
  | _, _ => r
theorem maxO_ii (r : OR) (S : St) (a b : Int) : maxO r S (some (.v (.int .i64 a))) (some (.v (.int .i64 b))) = .val (.v (.int .i64 (if b > a then b else a))) S := rfl
theorem dL (f : T AV) (S : St) (dst : Option Tmp) (k l : Tmp) (ty : TypeId) (pos : String) (af : Array Edge) (gd : Option (Nat × Bool)) :
    ground Tryz.prog gR f S { dst := dst, op := .call { callee := .builtin .max, args := #[.tmp k, .tmp l], argTypes := #[3, 3] }, type := ty, pos := pos, after := af, guard := gd } = maxO (maxX Tryz.prog gR f S { dst := dst, op := .call { callee := .builtin .max, args := #[.tmp k, .tmp l], argTypes := #[3, 3] }, type := ty, pos := pos, after := af, guard := gd }) S (f.get k) (f.get l) := by
  unfold maxO
  split
  · rename_i a b h1 h2
    have hg1 : Er gR f (.tmp k) = some (.int .i64 a) := by unfold Er; simp only [Cz,h1]; rfl
    have hg2 : Er gR f (.tmp l) = some (.int .i64 b) := by unfold Er; simp only [Cz,h2]; rfl
    unfold ground
    have hall : ((Op.call { callee := .builtin .max, args := #[.tmp k, .tmp l], argTypes := #[3, 3] } : Op).operands.toList.all fun x => (Er gR f x).isSome) = true := by
      show ([Operand.tmp k, Operand.tmp l].all fun x => (Er gR f x).isSome) = true
      simp only [List.all_cons,List.all_nil,hg1,hg2,Option.isSome_some,Bool.and_self]
    refine (if_pos hall).trans ?_
    rw [max_eq]
    have e1 : (Er gR f (.tmp k)).getD undef = .int .i64 a := by rw [hg1]; rfl
    have e2 : (Er gR f (.tmp l)).getD undef = .int .i64 b := by rw [hg2]; rfl
    simp only [e1,e2,max_val]
    rfl
  · rfl
mutual
def bK : PE → Int
  | .mk _ _ _ _ _ kids => IntKind.i64.wrap (gI kids 0 + 1)
def gI : List PE → Int → Int
  | [], m => m
  | e :: r, m => gI r (if bK e > m then bK e else m)
end
/-- No row of kids is too long to be counted. -/
inductive Wide : PE → Prop where
  | mk (kind pos : Nat) (n : Int) (name : List UInt8) (off : Bool) (kids : List PE) (h : kids.length ≤ 2000000) (hk : ∀ e ∈ kids, Wide e) : Wide (.mk kind pos n name off kids)
theorem RepF.len : ∀ {es : List AV} {l : List PE}, RepF es l → es.length = l.length := fun {es l} h => by
  induction es generalizing l with
  | nil => cases h; rfl
  | cons a r ih => cases h with
    | cons _ e _ l2 h h2 => simp [ih h2]
theorem Sx {S : St} {id kind pos : Nat} {n : Int} {name : List UInt8} {off : Bool} {kv : AV} (h : S.mem.get id = some (.box (exC kind pos n name off kv))) : Dw Tryz.prog S 28 (.ptr id 5) = some kv := by
  have a28 : Fv Tryz.prog 28 = some false := by kernel_rfl
  simp [Dw, D6, h, a28, exC]
theorem dA (S : St) : Ji Tryz.prog S 28 .nils = some 0 := by kernel_rfl
theorem mN (S : St) (tok off : Nat) (es : List AV) : Ji Tryz.prog S 28 (.sl tok off 6 es) = some es.length := by
  have h : Tryz.prog.underlying 28 = some (.slice 30) := rfl
  simp only [Ji,h]
theorem idx28 (tok off : Nat) (es : List AV) (j : Nat) (h : j < es.length) (ys : List AV) (hy : es[j] = .agg ys) : Ff Tryz.prog 28 (.sl tok off 6 es) (.v (.int .i64 (j : Int))) = some (.ep ys) := by
  have h0 : (0 : Int) ≤ (j : Int) := by omega
  simp [Ff, h0, e28, s30, h, hy, AV.cells]
theorem lep30 (S : St) (ys : List AV) (h : ys.length = 6) : Dw Tryz.prog S 30 (.ep ys) = some (.agg ys) := by
  have e : ys.take 6 = ys := List.take_of_length_le (by omega)
  simp [Dw, D6, a30, s30, h, e]
theorem nC : ∃ fn, E1.F 78 = some fn := Option.isSome_iff_exists.1 (by kernel_rfl)
noncomputable def Rc : Code := match Tryz.f78.body with
  | some (.seq _ (.seq _ (.seq _ (.seq (.block _ (.loop c)) _)))) => c
  | some (.seq _ (.seq _ (.seq (.seq _ (.block _ (.loop c))) _))) => c
  | some (.seq _ (.seq _ (.seq (.seq _ (.seq (.block _ (.loop c)) _)) _))) => c
  | _ => .skip
def pC (e : PE) : Prop := ∀ (ys : List AV), RepE (.agg ys) e → ∀ S, WC E1 78 [.agg ys] S (fun r => ∃ S', r = .ret (.v (.int .i64 (bK e))) S' ∧ Fg S S')
def oZ (S0 : St) (d : Int) (r : O) : Prop := ∃ t' S', r = .out (.exit 0) ⟨t', []⟩ S' ∧ t'.get 3 = some (.v (.int .i64 d)) ∧ Fg S0 S'
set_option maxHeartbeats 16000000 in
theorem Sg (S0 : St) (tok off : Nat) (es : List AV) (hes : es.length ≤ 2000000) (kv : AV) (hkv : kv = .sl tok off 6 es ∨ es = []) : ∀ (suf : List PE) (j : Nat) (m : Int) (t : T AV) (S : St), RepF (es.drop j) suf → j ≤ es.length → (∀ e ∈ suf, pC e) →
    t.get 3 = some (.v (.int .i64 m)) → t.get 7 = some kv → t.get 8 = some (.v (.int .i64 (es.length : Int))) → t.get 9 = some (.v (.int .i64 (j : Int))) → Fg S0 S → WX E1 20 (.loop Rc) ⟨t, []⟩ S (oZ S0 (gI suf m))
  | [], j, m, t, S, hr, hj, hd, h3, h7, h8, h9, hk => by
    refine Fc (Es ?_)
    have hl : j = es.length := by have := hr.len; rw [List.length_drop] at this; simp at this; omega
    have hlt : ¬ ((j : Int) < (es.length : Int)) := by omega
    simp only [A3,A6,Bb,Bc,Cr,Bn,B4,C9,Cu,B5,Cs,Ct,Da,Ci,Be,Bo,Bp,A2,A9,Ba,A5,De,B6,Bm,Bh,A8,A4,Bi,Bg,Bf,Bq,Br,B9,Ca,Bv,C0,Cz,C1,A0,A1,C2,Dd,ofOpt,ofOptS,Bw,Dh,Di,Cj,Cl,Bk,Bl,C4,Bj,Df,A7,Bd,Cm,Cn,Co,Cp,Cq,B3,B1,Nat.reduceLT,Nat.reduceAdd,Nat.reduceEqDiff,Aa,Ab,reduceIte,Ac,Ad,Ae,Af,Ag,Ah,Ai,Aj,Ak,Al,Am,Ao,Ap,Aq,Ar,Au,Av,Aw,Option.toList,Ay,Az,Tryz.f78,Cg,Ch,B7,B8,Do,Rc,h3,h7,h8,h9,hlt]
    exact ⟨_, _, rfl, by simp [T.get_set, h3, gI], hk⟩
  | e :: suf, j, m, t, S, hr, hj, hd, h3, h7, h8, h9, hk => by
    refine Fc (Es ?_)
    have hl : j < es.length := by have := hr.len; rw [List.length_drop] at this; simp at this; omega
    have hlt : ((j : Int) < (es.length : Int)) := by omega
    rw [List.drop_eq_getElem_cons hl] at hr
    obtain ⟨fn1, hf1⟩ := nC
    cases hr with
    | cons _ _ _ _ hr1 hr2 =>
    obtain ⟨ys, hy, hyl⟩ := hr1.agg
    rw [hy] at hr1
    have q0 : kv = .sl tok off 6 es := by
      rcases hkv with h | h
      · exact h
      · rw [h] at hl; cases hl
    subst q0
    have q1 := idx28 tok off es j hl ys hy
    have q2 := lep30 S ys hyl
    have q3 := Rx (Ea S exZ) rfl hyl
    have g3 := E9 (S.newBox exZ) S.next ys
    have k3 : Fg S ((S.newBox exZ).put S.next ys) := E5 (Eb S _) (Nat.le_refl _) _
    generalize hS3 : (S.newBox exZ).put S.next ys = S3 at q3 g3 k3
    have q4 := ld30 g3 hyl
    have w1 : IntKind.i64.wrap ((j : Int) + 1) = ((j + 1 : Nat) : Int) := Hv (j := 1) (by omega)
    simp only [A3,A6,Bb,Bc,Cr,Bn,B4,C9,Cu,B5,Cs,Ct,Da,Ci,Be,Bo,Bp,A2,A9,Ba,A5,De,B6,Bm,Bh,A8,A4,Bi,Bg,Bf,Bq,Br,B9,Ca,Bv,C0,Cz,C1,A0,A1,C2,Dd,ofOpt,ofOptS,Bw,Dh,Di,Cj,Cl,Bk,Bl,C4,Bj,Df,A7,Bd,Cm,Cn,Co,Cp,Cq,B3,B1,Nat.reduceLT,Nat.reduceAdd,Nat.reduceEqDiff,Aa,Ab,reduceIte,Ac,Ad,Ae,Af,Ag,Ah,Ai,Aj,Ak,Al,Am,Ao,Ap,Aq,Ar,Au,Av,Aw,Option.toList,Ay,Az,Tryz.f78,Cg,Ch,B7,B8,Do,Rc,h3,h7,h8,h9,hlt,q1,q2,q3,q4,hf1]
    refine WC.mono (hd e (List.mem_cons_self ..) ys hr1 S3) ?_
    rintro _ ⟨S4, rfl, k4⟩
    simp only [A3,A6,Bb,Bc,Cr,Bn,B4,C9,Cu,B5,Cs,Ct,Da,Ci,Be,Bo,Bp,A2,A9,Ba,A5,De,B6,Bm,Bh,A8,A4,Bi,Bg,Bf,Bq,Br,B9,Ca,Bv,C0,Cz,C1,A0,A1,C2,Dd,ofOpt,ofOptS,Bw,Dh,Di,Cj,Cl,Bk,Bl,C4,Bj,Df,A7,Bd,Cm,Cn,Co,Cp,Cq,B3,B1,Nat.reduceLT,Nat.reduceAdd,Nat.reduceEqDiff,Aa,Ab,reduceIte,Ac,Ad,Ae,Af,Ag,Ah,Ai,Aj,Ak,Al,Am,Ao,Ap,Aq,Ar,Au,Av,Aw,Option.toList,Ay,Az,Tryz.f78,Cg,Ch,B7,B8,Do,Rc,h3,h7,h8,h9,dL,maxO_ii,w1]
    exact Sg S0 tok off es hes _ (.inl rfl) suf (j + 1) _ _ _ hr2 hl (fun e he => hd e (List.mem_cons_of_mem _ he)) (by simp [T.get_set]) (by simp [T.get_set, h7]) (by simp [T.get_set, h8]) (by simp [T.get_set]) (hk.trans (k3.trans k4))
set_option maxHeartbeats 16000000 in
theorem deep_w : ∀ {e : PE}, Wide e → pC e := fun {e} hw => by
  induction hw with
  | mk kind pos n name off kids hlen hk ih =>
    intro ys hr S
    cases hr with
    | mk _ _ _ _ _ kv _ hkk =>
    refine Ek Tryz.f78 (by kernel_rfl) (by kernel_rfl) (by kernel_rfl) (show (_ : Nat) ≤ _ from by show (_ : Nat) ≤ _; simp [Tryz.f78]) ?_
    have g1 := Ea S (exC kind pos n name off kv)
    have l1 := Sx g1
    cases hkk with
    | nil =>
      simp only [A3,A6,Bb,Bc,Cr,Bn,B4,C9,Cu,B5,Cs,Ct,Da,Ci,Be,Bo,Bp,A2,A9,Ba,A5,De,B6,Bm,Bh,A8,A4,Bi,Bg,Bf,Bq,Br,B9,Ca,Bv,C0,Cz,C1,A0,A1,C2,Dd,ofOpt,ofOptS,Bw,Dh,Di,Cj,Cl,Bk,Bl,C4,Bj,Df,A7,Bd,Cm,Cn,Co,Cp,Cq,B3,B1,Nat.reduceLT,Nat.reduceAdd,Nat.reduceEqDiff,Aa,Ab,reduceIte,Ac,Ad,Ae,Af,Ag,Ah,Ai,Aj,Ak,Al,Am,Ao,Ap,Aq,Ar,Au,Av,Aw,Option.toList,Ay,Az,Tryz.f78,Cg,Ch,B7,B8,Do,fe5,l1,dA]
      refine WX.mono (Sg (S.newBox (exC kind pos n name off .nils)) 0 0 [] (by simp) .nils (.inr rfl) [] 0 0 _ _ .nil (by simp) (fun e h => by cases h) (by simp [T.get_set]) (by simp [T.get_set]) (by simp [T.get_set]) (by simp [T.get_set]) ⟨Nat.le_refl _, fun _ _ => rfl⟩) ?_
      rintro _ ⟨t', S', rfl, g3, k9⟩
      simp only [A3,A6,Bb,Bc,Cr,Bn,B4,C9,Cu,B5,Cs,Ct,Da,Ci,Be,Bo,Bp,A2,A9,Ba,A5,De,B6,Bm,Bh,A8,A4,Bi,Bg,Bf,Bq,Br,B9,Ca,Bv,C0,Cz,C1,A0,A1,C2,Dd,ofOpt,ofOptS,Bw,Dh,Di,Cj,Cl,Bk,Bl,C4,Bj,Df,A7,Bd,Cm,Cn,Co,Cp,Cq,B3,B1,Nat.reduceLT,Nat.reduceAdd,Nat.reduceEqDiff,Aa,Ab,reduceIte,Ac,Ad,Ae,Af,Ag,Ah,Ai,Aj,Ak,Al,Am,Ao,Ap,Aq,Ar,Au,Av,Aw,Option.toList,Ay,Az,Tryz.f78,Cg,Ch,B7,B8,Do,g3]
      exact ⟨_, rfl, (Eb S _).trans k9⟩
    | row tok o es _ hf =>
      have hl := hf.len
      simp only [A3,A6,Bb,Bc,Cr,Bn,B4,C9,Cu,B5,Cs,Ct,Da,Ci,Be,Bo,Bp,A2,A9,Ba,A5,De,B6,Bm,Bh,A8,A4,Bi,Bg,Bf,Bq,Br,B9,Ca,Bv,C0,Cz,C1,A0,A1,C2,Dd,ofOpt,ofOptS,Bw,Dh,Di,Cj,Cl,Bk,Bl,C4,Bj,Df,A7,Bd,Cm,Cn,Co,Cp,Cq,B3,B1,Nat.reduceLT,Nat.reduceAdd,Nat.reduceEqDiff,Aa,Ab,reduceIte,Ac,Ad,Ae,Af,Ag,Ah,Ai,Aj,Ak,Al,Am,Ao,Ap,Aq,Ar,Au,Av,Aw,Option.toList,Ay,Az,Tryz.f78,Cg,Ch,B7,B8,Do,fe5,l1,mN]
      refine WX.mono (Sg (S.newBox (exC kind pos n name off (.sl tok o 6 es))) tok o es (by omega) (.sl tok o 6 es) (.inl rfl) kids 0 0 _ _ hf (by omega) ih (by simp [T.get_set]) (by simp [T.get_set]) (by simp [T.get_set]) (by simp [T.get_set]) ⟨Nat.le_refl _, fun _ _ => rfl⟩) ?_
      rintro _ ⟨t', S', rfl, g3, k9⟩
      simp only [A3,A6,Bb,Bc,Cr,Bn,B4,C9,Cu,B5,Cs,Ct,Da,Ci,Be,Bo,Bp,A2,A9,Ba,A5,De,B6,Bm,Bh,A8,A4,Bi,Bg,Bf,Bq,Br,B9,Ca,Bv,C0,Cz,C1,A0,A1,C2,Dd,ofOpt,ofOptS,Bw,Dh,Di,Cj,Cl,Bk,Bl,C4,Bj,Df,A7,Bd,Cm,Cn,Co,Cp,Cq,B3,B1,Nat.reduceLT,Nat.reduceAdd,Nat.reduceEqDiff,Aa,Ab,reduceIte,Ac,Ad,Ae,Af,Ag,Ah,Ai,Aj,Ak,Al,Am,Ao,Ap,Aq,Ar,Au,Av,Aw,Option.toList,Ay,Az,Tryz.f78,Cg,Ch,B7,B8,Do,g3]
      exact ⟨_, rfl, (Eb S _).trans k9⟩
end Go.Ax
