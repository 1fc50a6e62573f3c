/-
  Expressions that are made: reasoned over.
-/
import Derived.Test.YtjgknelmjdallaaGreatDoorPlPa
noncomputable section
namespace Go.Ax
open Go.RowKit Go.Proofs
set_option linter.unusedVariables false
set_option linter.unusedSimpArgs false
set_option maxRecDepth 100000

/-- An expression's cells. -/
def exC (kind pos : Nat) (n : Int) (name : List UInt8) (off : Bool) (kv : AV) : List AV := [Dy kind, Dy pos, .v (.int .i64 n), D5 name, .v (.bool off), kv]
def exZ : List AV := exC 0 0 0 [] false .nils
/-- What stands for kids. -/
def V3 (kv : AV) : Prop := kv = .nils ∨ ∃ tok off es, kv = .sl tok off 6 es
theorem a30 : Fv Tryz.prog 30 = some true := by kernel_rfl
theorem s30 : Fj Tryz.prog 30 = some 6 := by kernel_rfl
theorem Do (S : St) : Hr Tryz.prog S 30 = some (.ptr S.next 0, S.newBox exZ) := rfl
theorem Rx {S : St} {id : Nat} {cs ys : List AV} (h : S.mem.get id = some (.box cs)) (hl : cs.length = 6) (hy : ys.length = 6) : Du Tryz.prog S 30 (.ptr id 0) (.agg ys) = some (S.put id ys) := by
  have h2 : (AV.agg ys).noTup = true := rfl
  simp [Du, h, s30, h2, AV.cells, hl, hy, St.put, List.drop_eq_nil_of_le]
theorem ld30 {S : St} {id : Nat} {cs : List AV} (h : S.mem.get id = some (.box cs)) (hl : cs.length = 6) : Dw Tryz.prog S 30 (.ptr id 0) = some (.agg cs) := by
  have e : cs.take 6 = cs := List.take_of_length_le (by omega)
  simp [Dw, D6, h, a30, s30, hl, e]
theorem b30 (k a : Int) (kv : AV) (h : V3 kv) : Gk Tryz.prog 30 [(0, .v (.int .i64 k)), (1, .v (.int .i64 a)), (5, kv)] = some (.agg [.v (.int .i64 k), .v (.int .i64 a), .v (.int .i64 0), D5 [], .v (.bool false), kv]) := by
  rcases h with rfl | ⟨tok, off, es, rfl⟩ <;> rfl
theorem ld3b {S : St} {id : Nat} {t : Tk} (h : S.mem.get id = some (.box (Dz t))) : Dw Tryz.prog S 3 (.ptr id 1) = some (.v (.int .i64 (t.pos : Int))) := (ld3k h).2
theorem fd1 (b : Nat) : Dt Tryz.prog 68 (.ptr b 0) 1 = some (.ptr b 1) := (fc68 b).2.1
theorem fd3 (b : Nat) : Dt Tryz.prog 68 (.ptr b 0) 3 = some (.ptr b 3) := (fc68 b).2.2
theorem Cg (t : Tk) : (Fm t).noTup = true := rfl
theorem Ch (t : Tk) : (Fm t).cells = Dz t := rfl
theorem B7 (xs : List AV) : (AV.agg xs).noTup = true := rfl
theorem B8 (xs : List AV) : (AV.agg xs).cells = xs := rfl
theorem Lp (S : St) (b : Nat) (cs : List AV) : (S.put b cs).next = S.next := rfl
set_option maxHeartbeats 4000000 in
theorem Md (S : St) (kind : Nat) (t : Tk) (kv : AV) (hk : V3 kv) : WC E1 82 [Dy kind, Fm t, kv] S (fun r => ∃ S', r = .ret (.agg (exC kind t.pos 0 [] false kv)) S' ∧ Fg S S') := by
  refine Ek Tryz.f82 (by kernel_rfl) (by kernel_rfl) (by kernel_rfl) (show (_ : Nat) ≤ _ from by show (_ : Nat) ≤ _; simp [Tryz.f82]) ?_
  have g1 : ((S.newBox (Dz t)).newBox exZ).mem.get S.next = some (.box (Dz t)) := (Gi (Nat.lt_succ_self _)).trans (Ea S _)
  have g2 : ((S.newBox (Dz t)).newBox exZ).mem.get (S.newBox (Dz t)).next = some (.box exZ) := Ea _ _
  have q1 := ld3b g1
  have q2 := b30 kind t.pos kv hk
  have q3 := Rx g2 rfl (show ([.v (.int .i64 (kind : Int)), .v (.int .i64 (t.pos : Int)), .v (.int .i64 0), D5 [], .v (.bool false), kv] : List AV).length = 6 from rfl)
  have q4 := ld30 (E9 ((S.newBox (Dz t)).newBox exZ) (S.newBox (Dz t)).next [.v (.int .i64 (kind : Int)), .v (.int .i64 (t.pos : Int)), .v (.int .i64 0), D5 [], .v (.bool false), kv]) rfl
  simp only [Dy]
  simp only [A3,A6,Bb,Bc,Cr,Bn,B4,C9,Cu,B5,Cs,Ct,Da,Bu,Be,Bo,Bp,A2,A9,Ba,A5,Dc,B6,Bm,Bh,A8,A4,Bi,Bg,Bf,Bq,Br,B9,Ca,Bv,C0,Cz,C1,A0,A1,C2,Dd,ofOpt,ofOptS,Bw,Dh,Di,Cj,Cl,Bk,Bl,C4,Bj,Df,A7,Bd,Cm,Cn,Co,Cp,Cq,B3,B1,Nat.reduceLT,Nat.reduceAdd,Nat.reduceEqDiff,Aa,Ab,reduceIte,Ac,Ad,Ae,Af,Ag,Ah,Ai,Aj,Ak,Al,Am,Ao,Ap,Aq,Ar,Au,Av,Aw,Option.toList,Ay,Az,Tryz.f82,Cg,Ch,Do,fd1,q1,q2,q3,q4]
  refine ⟨_, rfl, E5 ((Eb S _).trans (Eb _ _)) (Nat.le_succ _) _⟩
theorem Ot : ∃ fn, E1.F 82 = some fn := Option.isSome_iff_exists.1 (by kernel_rfl)
theorem e28 : Gu Tryz.prog 28 = some (none, 30) := by kernel_rfl
theorem z30 : Jy Tryz.prog 30 = some (.agg exZ) := by kernel_rfl
theorem Tq (xs ys : List AV) (hx : xs.length = 6) (hy : ys.length = 6) : D3 Tryz.prog 28 2 [(0, .agg xs), (1, .agg ys)] = some (.sl 1 0 6 [.agg xs, .agg ys]) := by
  simp [D3, e28, s30, z30, B7, B8, hx, hy]
  rfl
theorem O9 (xs : List AV) (hx : xs.length = 6) : D3 Tryz.prog 28 1 [(0, .agg xs)] = some (.sl 1 0 6 [.agg xs]) := by
  simp [D3, e28, s30, z30, B7, B8, hx]
theorem row28_3 (xs ys zs : List AV) (hx : xs.length = 6) (hy : ys.length = 6) (hz : zs.length = 6) : D3 Tryz.prog 28 3 [(0, .agg xs), (1, .agg ys), (2, .agg zs)] = some (.sl 1 0 6 [.agg xs, .agg ys, .agg zs]) := by
  simp [D3, e28, s30, z30, B7, B8, hx, hy, hz]
  rfl
theorem fa30 (b : Nat) : Dt Tryz.prog 30 (.ptr b 0) 2 = some (.ptr b 2) ∧ Dt Tryz.prog 30 (.ptr b 0) 3 = some (.ptr b 3) ∧ Dt Tryz.prog 30 (.ptr b 0) 4 = some (.ptr b 4) := ⟨by kernel_rfl, by kernel_rfl, by kernel_rfl⟩
theorem O7 {S : St} {id kind pos : Nat} {n : Int} {name : List UInt8} {off : Bool} {kv : AV} (h : S.mem.get id = some (.box (exC kind pos n name off kv))) (s : List UInt8) : Du Tryz.prog S 9 (.ptr id 3) (.v (.string ⟨⟨s⟩⟩)) = some (S.put id (exC kind pos n s off kv)) := by
  have h2 : (AV.v (.string ⟨⟨s⟩⟩)).noTup = true := rfl
  simp [Du, h, s9, h2, AV.cells, St.put, exC, D5]
theorem st30_n {S : St} {id kind pos : Nat} {n : Int} {name : List UInt8} {off : Bool} {kv : AV} (h : S.mem.get id = some (.box (exC kind pos n name off kv))) (m : Int) : Du Tryz.prog S 2 (.ptr id 2) (.v (.int .i64 m)) = some (S.put id (exC kind pos m name off kv)) := by
  have h2 : (AV.v (.int .i64 m)).noTup = true := rfl
  have s2 : Fj Tryz.prog 2 = some 1 := by kernel_rfl
  simp [Du, h, s2, h2, AV.cells, St.put, exC]
set_option maxHeartbeats 8000000 in
theorem bO (S : St) (t : Tk) (xs ys : List AV) (hx : xs.length = 6) (hy : ys.length = 6) : WC E1 174 [Fm t, .agg xs, .agg ys] S (fun r => ∃ S', r = .ret (.agg (exC 6 t.pos 0 t.text false (.sl 1 0 6 [.agg xs, .agg ys]))) S' ∧ Fg S S') := by
  refine Ek Tryz.f174 (by kernel_rfl) (by kernel_rfl) (by kernel_rfl) (show (_ : Nat) ≤ _ from by show (_ : Nat) ≤ _; simp [Tryz.f174]) ?_
  obtain ⟨fn1, hf1⟩ := Ot
  generalize hS1 : S.newBox (Dz t) = S1
  generalize hS2 : S1.newBox xs = S2
  generalize hS3 : S2.newBox ys = S3
  generalize hS4 : S3.newBox exZ = S4
  have n1 : S1.next = S.next + 1 := by rw [← hS1]; rfl
  have n2 : S2.next = S.next + 2 := by rw [← hS2]; show S1.next + 1 = _; omega
  have n3 : S3.next = S.next + 3 := by rw [← hS3]; show S2.next + 1 = _; omega
  have n4 : S4.next = S.next + 4 := by rw [← hS4]; show S3.next + 1 = _; omega
  have k1 : Fg S S1 := by rw [← hS1]; exact Eb _ _
  have k2 : Fg S1 S2 := by rw [← hS2]; exact Eb _ _
  have k3 : Fg S2 S3 := by rw [← hS3]; exact Eb _ _
  have k4 : Fg S3 S4 := by rw [← hS4]; exact Eb _ _
  have gt : S4.mem.get S.next = some (.box (Dz t)) := ((k2.trans (k3.trans k4)).2 _ (by omega)).trans (by rw [← hS1]; exact Ea _ _)
  have gx : S4.mem.get S1.next = some (.box xs) := ((k3.trans k4).2 _ (by omega)).trans (by rw [← hS2]; exact Ea _ _)
  have gy : S4.mem.get S2.next = some (.box ys) := (k4.2 _ (by omega)).trans (by rw [← hS3]; exact Ea _ _)
  have gz : S4.mem.get S3.next = some (.box exZ) := by rw [← hS4]; exact Ea _ _
  have l1 := Qz gt
  have l2 := ld30 gx hx
  have l3 := ld30 gy hy
  have r1 := Tq xs ys hx hy
  simp only [A3,A6,Bb,Bc,Cr,Bn,B4,C9,Cu,B5,Cs,Ct,Da,Bu,Be,Bo,Bp,A2,A9,Ba,A5,Dc,B6,Bm,Bh,A8,A4,Bi,Bg,Bf,Bq,Br,B9,Ca,Bv,C0,Cz,C1,A0,A1,C2,Dd,ofOpt,ofOptS,Bw,Dh,Di,Cj,Cl,Bk,Bl,C4,Bj,Df,A7,Bd,Cm,Cn,Co,Cp,Cq,B3,B1,Nat.reduceLT,Nat.reduceAdd,Nat.reduceEqDiff,Aa,Ab,reduceIte,Ac,Ad,Ae,Af,Ag,Ah,Ai,Aj,Ak,Al,Am,Ao,Ap,Aq,Ar,Au,Av,Aw,Option.toList,Ay,Az,Tryz.f174,Cg,Ch,B7,B8,Do,hS1,hS2,hS3,hS4,l1,l2,l3,r1,hf1]
  refine WC.mono (Md S4 6 t (.sl 1 0 6 [.agg xs, .agg ys]) (.inr ⟨_, _, _, rfl⟩)) ?_
  rintro _ ⟨S5, rfl, k5⟩
  have gn : (S5.newBox exZ).mem.get S5.next = some (.box exZ) := Ea _ _
  have q1 := Rx gn rfl (show (exC 6 t.pos 0 [] false (.sl 1 0 6 [.agg xs, .agg ys])).length = 6 from rfl)
  generalize hS6 : (S5.newBox exZ).put S5.next (exC 6 t.pos 0 [] false (.sl 1 0 6 [.agg xs, .agg ys])) = S6 at q1
  have k6 : Fg S5 S6 := by rw [← hS6]; exact E5 (Eb _ _) (Nat.le_refl _) _
  have g6 : S6.mem.get S5.next = some (.box (exC 6 t.pos 0 [] false (.sl 1 0 6 [.agg xs, .agg ys]))) := by rw [← hS6]; exact E9 _ _ _
  have gt6 : S6.mem.get S.next = some (.box (Dz t)) := ((k5.trans k6).2 _ (by omega)).trans gt
  have gz6 : S6.mem.get S3.next = some (.box exZ) := ((k5.trans k6).2 _ (by omega)).trans gz
  have ft := fa68 S.next
  have lt := Yt gt6
  have fe := (fa30 S5.next).2.1
  have q2 := O7 g6 t.text
  have g7 : (S6.put S5.next (exC 6 t.pos 0 t.text false (.sl 1 0 6 [.agg xs, .agg ys]))).mem.get S5.next = some (.box (exC 6 t.pos 0 t.text false (.sl 1 0 6 [.agg xs, .agg ys]))) := E9 _ _ _
  have hne : S3.next ≠ S5.next := by have := k5.1; omega
  have gz7 : (S6.put S5.next (exC 6 t.pos 0 t.text false (.sl 1 0 6 [.agg xs, .agg ys]))).mem.get S3.next = some (.box exZ) := (Fx hne).trans gz6
  have l7 := ld30 g7 rfl
  have q3 := Rx gz7 rfl (show (exC 6 t.pos 0 t.text false (.sl 1 0 6 [.agg xs, .agg ys])).length = 6 from rfl)
  have l8 := ld30 (E9 (S6.put S5.next (exC 6 t.pos 0 t.text false (.sl 1 0 6 [.agg xs, .agg ys]))) S3.next (exC 6 t.pos 0 t.text false (.sl 1 0 6 [.agg xs, .agg ys]))) rfl
  unfold D5 at lt
  simp only [A3,A6,Bb,Bc,Cr,Bn,B4,C9,Cu,B5,Cs,Ct,Da,Bu,Be,Bo,Bp,A2,A9,Ba,A5,Dc,B6,Bm,Bh,A8,A4,Bi,Bg,Bf,Bq,Br,B9,Ca,Bv,C0,Cz,C1,A0,A1,C2,Dd,ofOpt,ofOptS,Bw,Dh,Di,Cj,Cl,Bk,Bl,C4,Bj,Df,A7,Bd,Cm,Cn,Co,Cp,Cq,B3,B1,Nat.reduceLT,Nat.reduceAdd,Nat.reduceEqDiff,Aa,Ab,reduceIte,Ac,Ad,Ae,Af,Ag,Ah,Ai,Aj,Ak,Al,Am,Ao,Ap,Aq,Ar,Au,Av,Aw,Option.toList,Ay,Az,Tryz.f174,Do,q1,ft,lt,fe,q2,l7,q3,l8]
  refine ⟨_, rfl, ?_⟩
  have kk : Fg S S6 := k1.trans (k2.trans (k3.trans (k4.trans (k5.trans k6))))
  exact E5 (E5 kk (by have := k5.1; omega) _) (by omega) _
def convX (P : Program) (G : Gl) (f : T AV) (S : St) (o : Oper) : OR := ground P G f S o
def oC (r : OR) (S : St) (x : Option AV) : OR := match x with
  | some (.v (.int .u64 n)) => .val (.v (.int .i64 (IntKind.i64.wrap n))) S
  | _ => r
theorem Xo (n : Int) : Lr Tryz.prog 66 2 (.v (.int .u64 n)) = none := by
  have h1 : Tryz.prog.underlying 66 = some (.int .u64) := rfl
  simp only [Lr,h1]
theorem Sz (f : T AV) (S : St) (dst : Option Tmp) (k : Tmp) (ty : TypeId) (pos : String) (af : Array Edge) (gd : Option (Nat × Bool)) :
    ground Tryz.prog gR f S { dst := dst, op := .convert 66 2 (.tmp k), type := ty, pos := pos, after := af, guard := gd } = oC (convX Tryz.prog gR f S { dst := dst, op := .convert 66 2 (.tmp k), type := ty, pos := pos, after := af, guard := gd }) S (f.get k) := by
  unfold oC
  split
  · rename_i n h
    have hg : Er gR f (.tmp k) = some (.int .u64 n) := by unfold Er; simp only [Cz,h]; rfl
    unfold ground
    simp only [Op.operands,List.all_cons,List.all_nil,hg,Option.isSome_some,Bool.and_self,Aa]
    have e : execOp (fun x => (Er gR f x).getD undef) { dst := dst, op := .convert 66 2 (.tmp k), type := ty, pos := pos, after := af, guard := gd } = execOp (fun _ => .int .u64 n) { dst := none, op := .convert 66 2 (.tmp 0), type := ty, pos := "", after := #[], guard := none } := by
      simp only [execOp,hg,Ae]
    rw [e]
    have e3 : Pk Tryz.prog 4000 (execOp (fun _ => Value.int .u64 n) { dst := none, op := .convert 66 2 (.tmp 0), type := ty, pos := "", after := #[], guard := none }) = some (.int .i64 (IntKind.i64.wrap n)) := by rfl
    rw [e3]; rfl
  · rfl
theorem gJ (r : OR) (S : St) (n : Int) : oC r S (some (.v (.int .u64 n))) = .val (.v (.int .i64 (IntKind.i64.wrap n))) S := rfl
def negX (P : Program) (G : Gl) (f : T AV) (S : St) (o : Oper) : OR := ground P G f S o
def negO (r : OR) (S : St) (x : Option AV) : OR := match x with
  | some (.v (.int .i64 n)) => .val (.v (.int .i64 (IntKind.i64.wrap (0 - n)))) S
  | _ => r
theorem dK (f : T AV) (S : St) (dst : Option Tmp) (k : Tmp) (ty : TypeId) (pos : String) (af : Array Edge) (gd : Option (Nat × Bool)) :
    ground Tryz.prog gR f S { dst := dst, op := .unOp .neg 2 (.tmp k), type := ty, pos := pos, after := af, guard := gd } = negO (negX Tryz.prog gR f S { dst := dst, op := .unOp .neg 2 (.tmp k), type := ty, pos := pos, after := af, guard := gd }) S (f.get k) := by
  unfold negO
  split
  · rename_i n h
    have hg : Er gR f (.tmp k) = some (.int .i64 n) := by unfold Er; simp only [Cz,h]; rfl
    unfold ground
    simp only [Op.operands,List.all_cons,List.all_nil,hg,Option.isSome_some,Bool.and_self,Aa]
    have e : execOp (fun x => (Er gR f x).getD undef) { dst := dst, op := .unOp .neg 2 (.tmp k), type := ty, pos := pos, after := af, guard := gd } = execOp (fun _ => .int .i64 n) { dst := none, op := .unOp .neg 2 (.tmp 0), type := ty, pos := "", after := #[], guard := none } := by
      simp only [execOp,hg,Ae]
    rw [e]
    have e3 : Pk Tryz.prog 4000 (execOp (fun _ => Value.int .i64 n) { dst := none, op := .unOp .neg 2 (.tmp 0), type := ty, pos := "", after := #[], guard := none }) = some (.int .i64 (IntKind.i64.wrap (0 - n))) := by rfl
    rw [e3]; rfl
  · rfl
theorem negO_i (r : OR) (S : St) (n : Int) : negO r S (some (.v (.int .i64 n))) = .val (.v (.int .i64 (IntKind.i64.wrap (0 - n)))) S := rfl
theorem C3 (a : ByteArray) : D3 Tryz.prog 69 1 [(0, .v (.string a))] = some (.sl 1 0 1 [.v (.string a)]) := by kernel_rfl
theorem C8 (a b : ByteArray) : D3 Tryz.prog 69 2 [(0, .v (.string a)), (1, .v (.string b))] = some (.sl 1 0 1 [.v (.string a), .v (.string b)]) := by kernel_rfl
theorem C7 (a b c : ByteArray) : D3 Tryz.prog 69 3 [(0, .v (.string a)), (1, .v (.string b)), (2, .v (.string c))] = some (.sl 1 0 1 [.v (.string a), .v (.string b), .v (.string c)]) := by kernel_rfl
theorem C6 (a b c d : ByteArray) : D3 Tryz.prog 69 4 [(0, .v (.string a)), (1, .v (.string b)), (2, .v (.string c)), (3, .v (.string d))] = some (.sl 1 0 1 [.v (.string a), .v (.string b), .v (.string c), .v (.string d)]) := by kernel_rfl
theorem C5 (a b c d e f : ByteArray) : D3 Tryz.prog 69 6 [(0, .v (.string a)), (1, .v (.string b)), (2, .v (.string c)), (3, .v (.string d)), (4, .v (.string e)), (5, .v (.string f))] = some (.sl 1 0 1 [.v (.string a), .v (.string b), .v (.string c), .v (.string d), .v (.string e), .v (.string f)]) := by kernel_rfl
end Go.Ax
