/-
  Tokens, one by one: reasoned over.
-/
import Derived.Test.YtjgknelmjdallaaGreatDoorPlLa2
noncomputable section
namespace Go.Ax
open Go.RowKit Go.Proofs
set_option linter.unusedVariables false
set_option linter.unusedSimpArgs false
set_option maxRecDepth 100000

def Ru : List (List UInt8) := [[110, 111, 100, 101], [114, 101, 116, 117, 114, 110, 115], [118, 97, 114], [108, 101, 116], [116, 101, 108], [105, 110, 116], [98, 111, 111, 108], [102, 117, 116, 117, 114, 101], [119, 104, 101, 110], [110, 111, 116], [97, 110, 100], [111, 114], [120, 111, 114], [105, 102], [116, 104, 101, 110], [101, 108, 115, 101], [112, 114, 101], [102, 98, 121], [109, 101, 114, 103, 101], [97, 115, 121, 110, 99], [97, 119, 97, 105, 116], [97, 102, 116, 101, 114], [116, 114, 117, 101], [102, 97, 108, 115, 101], [109, 111, 100]]
def Gd : List (List UInt8) := [[60, 62], [60, 61], [62, 61], [45, 62], [40], [41], [44], [59], [58], [61], [60], [62], [43], [45], [42], [47]]
structure Tk where
  kind : Nat
  pos : Nat
  text : List UInt8
  num : Nat
def N8 (n : Nat) : AV := .v (.int .u64 (n : Int))
def Dz (t : Tk) : List AV := [Dy t.kind, Dy t.pos, D5 t.text, N8 t.num]
def Fm (t : Tk) : AV := .agg (Dz t)
def Dx : Tk := ⟨0, 0, [], 0⟩
def Mg (l : List UInt8) (i : Nat) : Tk × Nat :=
  if l.take (cnt Fs l) ∈ Ru then (⟨3, i, l.take (cnt Fs l), 0⟩, 0) else if 30 < cnt Fs l then (Dx, 3) else (⟨1, i, l.take (cnt Fs l), 0⟩, 0)
def aK (l : List UInt8) (i : Nat) : Option (Tk × Nat) :=
  if 1 < cnt Ed l ∧ l.head? = some 48 then some (Dx, 1) else if Hi 0 (l.take (cnt Ed l)) < 18446744073709551616 then (if 9223372036854775808 < Hi 0 (l.take (cnt Ed l)) then some (Dx, 3) else some (⟨2, i, l.take (cnt Ed l), Hi 0 (l.take (cnt Ed l))⟩, 0)) else some (Dx, 3)
def Oa (l : List UInt8) (i : Nat) : Tk × Nat := match Gd.find? (fun s => G5 s l) with
  | some s => (⟨4, i, s, 0⟩, 0)
  | none => (Dx, 1)
def Jk (l : List UInt8) (i : Nat) : Option (Tk × Nat) := match l with
  | [] => none
  | b :: _ => if Km b then some (Mg l i) else if Ed b then aK l i else some (Oa l i)
/-- All that was there is as it was. -/
def Fg (S S' : St) : Prop := S.next ≤ S'.next ∧ ∀ id, id < S.next → S'.mem.get id = S.mem.get id
theorem Fg.refl (S : St) : Fg S S := ⟨Nat.le_refl _, fun _ _ => rfl⟩
theorem Fg.trans {S S1 S2 : St} (h : Fg S S1) (k : Fg S1 S2) : Fg S S2 := ⟨Nat.le_trans h.1 k.1, fun id hid => (k.2 id (Nat.lt_of_lt_of_le hid h.1)).trans (h.2 id hid)⟩
def St.put (S : St) (id : Nat) (cs : List AV) : St := { S with mem := S.mem.set id (some (.box cs)) }
theorem Eb (S : St) (cs : List AV) : Fg S (S.newBox cs) := ⟨Nat.le_succ _, fun id hid => by
  show (S.mem.set S.next _).get id = _
  rw [T.get_set, if_neg (by omega)]⟩
theorem E5 {S S' : St} (h : Fg S S') {id : Nat} (hid : S.next ≤ id) (cs : List AV) : Fg S (S'.put id cs) := ⟨h.1, fun k hk => by
  show (S'.mem.set id _).get k = _
  rw [T.get_set, if_neg (by omega)]; exact h.2 k hk⟩
theorem Ea (S : St) (cs : List AV) : (S.newBox cs).mem.get S.next = some (.box cs) := by
  show (S.mem.set S.next _).get S.next = _
  rw [T.get_set, if_pos rfl]
theorem E9 (S : St) (id : Nat) (cs : List AV) : (S.put id cs).mem.get id = some (.box cs) := by
  show (S.mem.set id _).get id = _
  rw [T.get_set, if_pos rfl]
theorem a68 : Fv Tryz.prog 68 = some true := by kernel_rfl
theorem s68 : Fj Tryz.prog 68 = some 4 := by kernel_rfl
theorem kQ {S : St} {id : Nat} {cs ys : List AV} (h : S.mem.get id = some (.box cs)) (hl : cs.length = 4) (hy : ys.length = 4) : Du Tryz.prog S 68 (.ptr id 0) (.agg ys) = some (S.put id ys) := by
  have h2 : (AV.agg ys).noTup = true := rfl
  simp [Du, h, s68, h2, AV.cells, hl, hy, St.put, List.drop_eq_nil_of_le]
theorem Kg (S : St) (cs ys : List AV) (hl : cs.length = 4) (hy : ys.length = 4) : Du Tryz.prog (S.newBox cs) 68 (.ptr S.next 0) (.agg ys) = some ((S.newBox cs).put S.next ys) := kQ (Ea S cs) hl hy
theorem G1 (S : St) (id : Nat) (cs : List AV) (hl : cs.length = 4) : Dw Tryz.prog (S.put id cs) 68 (.ptr id 0) = some (.agg cs) := by
  have e : cs.take 4 = cs := List.take_of_length_le (by omega)
  simp [Dw, D6, E9, a68, s68, hl, e]
theorem Dp (S : St) : Hr Tryz.prog S 68 = some (.ptr S.next 0, S.newBox (Dz Dx)) := rfl
theorem Tf : Gk Tryz.prog 68 [] = some (.agg (Dz Dx)) := rfl
theorem oN (a b c : AV) (k i : Int) (s : ByteArray) (ha : a = .v (.int .i64 k)) (hb : b = .v (.int .i64 i)) (hc : c = .v (.string s)) : Gk Tryz.prog 68 [(0, a), (1, b), (2, c)] = some (.agg [a, b, c, N8 0]) := by
  subst ha; subst hb; subst hc; rfl
theorem b68_4 (k i u : Int) (s : ByteArray) : Gk Tryz.prog 68 [(0, .v (.int .i64 k)), (1, .v (.int .i64 i)), (2, .v (.string s)), (3, .v (.int .u64 u))] = some (.agg [.v (.int .i64 k), .v (.int .i64 i), .v (.string s), .v (.int .u64 u)]) := rfl
theorem fZ : ∃ fn, E1.F 129 = some fn := Option.isSome_iff_exists.1 (by kernel_rfl)
theorem fnOk132 : ∃ fn, E1.F 132 = some fn := Option.isSome_iff_exists.1 (by kernel_rfl)
theorem fnOk134 : ∃ fn, E1.F 134 = some fn := Option.isSome_iff_exists.1 (by kernel_rfl)
theorem fnOk100 : ∃ fn, E1.F 100 = some fn := Option.isSome_iff_exists.1 (by kernel_rfl)
theorem fnOk102 : ∃ fn, E1.F 102 = some fn := Option.isSome_iff_exists.1 (by kernel_rfl)
theorem fnOk103 : ∃ fn, E1.F 103 = some fn := Option.isSome_iff_exists.1 (by kernel_rfl)
theorem fnOk133 : ∃ fn, E1.F 133 = some fn := Option.isSome_iff_exists.1 (by kernel_rfl)
theorem nD : ∃ fn, E1.F 65 = some fn := Option.isSome_iff_exists.1 (by kernel_rfl)
theorem fnOk66 : ∃ fn, E1.F 66 = some fn := Option.isSome_iff_exists.1 (by kernel_rfl)
theorem z9 : Jy Tryz.prog 9 = some (.v (.string ⟨#[]⟩)) := by kernel_rfl
set_option maxHeartbeats 4000000 in
theorem words_w (S : St) : WC E1 132 [] S (fun r => r = .ret (.sl 1 0 1 (Ru.map D5)) S) := by
  refine Ek Tryz.f132 (by kernel_rfl) (by kernel_rfl) (by kernel_rfl) (show (_ : Nat) ≤ _ from by show (_ : Nat) ≤ _; simp [Tryz.f132]) ?_
  simp only [A3,A6,Bb,Bc,Cr,Bn,B4,C9,Cu,B5,Cs,Ct,Da,Bu,Be,Bo,Bp,A2,A9,Ba,A5,Dc,B6,Bm,Bh,A8,A4,Bi,Bg,Bf,Bq,Br,B9,Ca,Bv,C0,Cz,C1,A0,A1,C2,Dd,ofOpt,ofOptS,Bw,Dh,Di,Cj,Cl,Bk,Bl,C4,Bj,Df,A7,Bd,Cm,Cn,Co,Cp,Cq,B3,B1,Nat.reduceLT,Nat.reduceAdd,Nat.reduceEqDiff,Aa,Ab,reduceIte,Ac,Ad,Ae,Af,Ag,Ah,Ai,Aj,Ak,Al,Am,Ao,Ap,Aq,Ar,Au,Av,Aw,Option.toList,Ay,Az,Tryz.f132]
  have h : ∀ ps, ps = (List.range 25).zip (Ru.map D5) → D3 Tryz.prog 69 25 ps = some (.sl 1 0 1 (Ru.map D5)) := fun ps h => by subst h; kernel_rfl
  rw [h _ (by kernel_rfl)]
  simp only [A3,A6,Bb,Bc,Cr,Bn,B4,C9,Cu,B5,Cs,Ct,Da,Bu,Be,Bo,Bp,A2,A9,Ba,A5,Dc,B6,Bm,Bh,A8,A4,Bi,Bg,Bf,Bq,Br,B9,Ca,Bv,C0,Cz,C1,A0,A1,C2,Dd,ofOpt,ofOptS,Bw,Dh,Di,Cj,Cl,Bk,Bl,C4,Bj,Df,A7,Bd,Cm,Cn,Co,Cp,Cq,B3,B1,Nat.reduceLT,Nat.reduceAdd,Nat.reduceEqDiff,Aa,Ab,reduceIte,Ac,Ad,Ae,Af,Ag,Ah,Ai,Aj,Ak,Al,Am,Ao,Ap,Aq,Ar,Au,Av,Aw,Option.toList,Ay,Az,Tryz.f132]
set_option maxHeartbeats 4000000 in
theorem signs_w (S : St) : WC E1 134 [] S (fun r => r = .ret (.sl 1 0 1 (Gd.map D5)) S) := by
  refine Ek Tryz.f134 (by kernel_rfl) (by kernel_rfl) (by kernel_rfl) (show (_ : Nat) ≤ _ from by show (_ : Nat) ≤ _; simp [Tryz.f134]) ?_
  simp only [A3,A6,Bb,Bc,Cr,Bn,B4,C9,Cu,B5,Cs,Ct,Da,Bu,Be,Bo,Bp,A2,A9,Ba,A5,Dc,B6,Bm,Bh,A8,A4,Bi,Bg,Bf,Bq,Br,B9,Ca,Bv,C0,Cz,C1,A0,A1,C2,Dd,ofOpt,ofOptS,Bw,Dh,Di,Cj,Cl,Bk,Bl,C4,Bj,Df,A7,Bd,Cm,Cn,Co,Cp,Cq,B3,B1,Nat.reduceLT,Nat.reduceAdd,Nat.reduceEqDiff,Aa,Ab,reduceIte,Ac,Ad,Ae,Af,Ag,Ah,Ai,Aj,Ak,Al,Am,Ao,Ap,Aq,Ar,Au,Av,Aw,Option.toList,Ay,Az,Tryz.f134]
  have h : ∀ ps, ps = (List.range 16).zip (Gd.map D5) → D3 Tryz.prog 69 16 ps = some (.sl 1 0 1 (Gd.map D5)) := fun ps h => by subst h; kernel_rfl
  rw [h _ (by kernel_rfl)]
  simp only [A3,A6,Bb,Bc,Cr,Bn,B4,C9,Cu,B5,Cs,Ct,Da,Bu,Be,Bo,Bp,A2,A9,Ba,A5,Dc,B6,Bm,Bh,A8,A4,Bi,Bg,Bf,Bq,Br,B9,Ca,Bv,C0,Cz,C1,A0,A1,C2,Dd,ofOpt,ofOptS,Bw,Dh,Di,Cj,Cl,Bk,Bl,C4,Bj,Df,A7,Bd,Cm,Cn,Co,Cp,Cq,B3,B1,Nat.reduceLT,Nat.reduceAdd,Nat.reduceEqDiff,Aa,Ab,reduceIte,Ac,Ad,Ae,Af,Ag,Ah,Ai,Aj,Ak,Al,Am,Ao,Ap,Aq,Ar,Au,Av,Aw,Option.toList,Ay,Az,Tryz.f134]
theorem T7 (p : UInt8 → Bool) : ∀ l : List UInt8, (l.take (cnt p l)).all p = true
  | [] => rfl
  | b :: r => by
    unfold cnt
    split
    · rename_i h; rw [List.take_succ_cons, List.all_cons, h, T7 p r]; rfl
    · rfl
theorem parse_w (s : List UInt8) (hn : s ≠ []) (hd : s.all Ed = true) (h : Hi 0 s < 18446744073709551616) (hl : s.length ≤ 100000) (S : St) : WC E1 133 [D5 s, .v (.int .i64 10), .v (.int .i64 64)] S (fun r => r = .ret (.tup [N8 (Hi 0 s), .v .nilIface]) S) := by
  refine V0 (g := Ix puI) (by kernel_rfl) ?_
  have hs : (⟨⟨s⟩⟩ : ByteArray).size = s.length := rfl
  have hc : s ≠ [] ∧ s.all Pf = true ∧ Hi 0 s < 18446744073709551616 ∧ (⟨⟨s⟩⟩ : ByteArray).size ≤ 9223372036854775806 := ⟨hn, hd, h, by rw [hs]; omega⟩
  have e : puI [D5 s, .v (.int .i64 10), .v (.int .i64 64)] = some (.tup [N8 (Hi 0 s), .v .nilIface]) := by
    show (if s ≠ [] ∧ s.all Pf = true ∧ Hi 0 s < 18446744073709551616 ∧ (⟨⟨s⟩⟩ : ByteArray).size ≤ 9223372036854775806 then _ else _) = _
    rw [if_pos hc]; rfl
  simp only [Ix,e]
theorem range_w (s : List UInt8) (hn : s ≠ []) (hd : s.all Ed = true) (h : ¬ Hi 0 s < 18446744073709551616) (hl : s.length ≤ 100000) (S : St) : WC E1 133 [D5 s, .v (.int .i64 10), .v (.int .i64 64)] S (fun r => r = .ret (.tup [N8 18446744073709551615, .iface 251 (.ep [])]) S) := by
  refine V0 (g := Ix puI) (by kernel_rfl) ?_
  have hs : (⟨⟨s⟩⟩ : ByteArray).size = s.length := rfl
  have hc : ¬ (s ≠ [] ∧ s.all Pf = true ∧ Hi 0 s < 18446744073709551616 ∧ (⟨⟨s⟩⟩ : ByteArray).size ≤ 9223372036854775806) := fun hh => h hh.2.2.1
  have hc2 : s ≠ [] ∧ s.all Pf = true ∧ 18446744073709551616 ≤ Hi 0 s ∧ (⟨⟨s⟩⟩ : ByteArray).size ≤ 281474976710656 := ⟨hn, hd, by omega, by rw [hs]; omega⟩
  have e : puI [D5 s, .v (.int .i64 10), .v (.int .i64 64)] = some (.tup [N8 18446744073709551615, .iface 251 (.ep [])]) := by
    show (if s ≠ [] ∧ s.all Pf = true ∧ Hi 0 s < 18446744073709551616 ∧ (⟨⟨s⟩⟩ : ByteArray).size ≤ 9223372036854775806 then _ else if s ≠ [] ∧ s.all Pf = true ∧ 18446744073709551616 ≤ Hi 0 s ∧ (⟨⟨s⟩⟩ : ByteArray).size ≤ 281474976710656 then _ else _) = _
    rw [if_neg hc, if_pos hc2]; rfl
  simp only [Ix,e]
/-- What one of the three answers. -/
def Zi (S : St) (p : Tk × Nat) (r : R) : Prop := ∃ S', r = .ret (.tup [Fm p.1, Dy p.2]) S' ∧ Fg S S'
set_option maxHeartbeats 4000000 in
theorem word_w (l : List UInt8) (hl : l.length ≤ 100000) (i : Nat) (hi : i ≤ l.length) (S : St) : WC E1 100 [D5 l, Dy i] S (Zi S (Mg (l.drop i) i)) := by
  refine Ek Tryz.f100 (by kernel_rfl) (by kernel_rfl) (by kernel_rfl) (show (_ : Nat) ≤ _ from by show (_ : Nat) ≤ _; simp [Tryz.f100]) ?_
  obtain ⟨fn1, hf1⟩ := dM
  obtain ⟨fn2, hf2⟩ := fZ
  obtain ⟨fn3, hf3⟩ := fnOk132
  have hc := P8 Fs (l.drop i)
  rw [List.length_drop] at hc
  have hs := Ue l i (i + cnt Fs (l.drop i)) (by omega) (by omega)
  rw [Nat.add_sub_cancel_left] at hs
  have hL := fun S => Qy S ((l.drop i).take (cnt Fs (l.drop i)))
  have hlen : ((l.drop i).take (cnt Fs (l.drop i))).length = cnt Fs (l.drop i) := by rw [List.length_take, List.length_drop]; omega
  rw [hlen] at hL
  simp only [D5,Dy]
  simp only [A3,A6,Bb,Bc,Cr,Bn,B4,C9,Cu,B5,Cs,Ct,Da,Bu,Be,Bo,Bp,A2,A9,Ba,A5,Dc,B6,Bm,Bh,A8,A4,Bi,Bg,Bf,Bq,Br,B9,Ca,Bv,C0,Cz,C1,A0,A1,C2,Dd,ofOpt,ofOptS,Bw,Dh,Di,Cj,Cl,Bk,Bl,C4,Bj,Df,A7,Bd,Cm,Cn,Co,Cp,Cq,B3,B1,Nat.reduceLT,Nat.reduceAdd,Nat.reduceEqDiff,Aa,Ab,reduceIte,Ac,Ad,Ae,Af,Ag,Ah,Ai,Aj,Ak,Al,Am,Ao,Ap,Aq,Ar,Au,Av,Aw,Option.toList,Ay,Az,Tryz.f100,Dp,hf1,hf2,hf3]
  refine WC.mono (Ro wordBT l hl i hi _) ?_
  rintro _ rfl
  simp only [Dy]
  simp only [A3,A6,Bb,Bc,Cr,Bn,B4,C9,Cu,B5,Cs,Ct,Da,Bu,Be,Bo,Bp,A2,A9,Ba,A5,Dc,B6,Bm,Bh,A8,A4,Bi,Bg,Bf,Bq,Br,B9,Ca,Bv,C0,Cz,C1,A0,A1,C2,Dd,ofOpt,ofOptS,Bw,Dh,Di,Cj,Cl,Bk,Bl,C4,Bj,Df,A7,Bd,Cm,Cn,Co,Cp,Cq,B3,B1,Nat.reduceLT,Nat.reduceAdd,Nat.reduceEqDiff,Aa,Ab,reduceIte,Ac,Ad,Ae,Af,Ag,Ah,Ai,Aj,Ak,Al,Am,Ao,Ap,Aq,Ar,Au,Av,Aw,Option.toList,Ay,Az,Tryz.f100,Dp,hf1,hf2,hf3,hs]
  refine WC.mono (words_w _) ?_
  rintro _ rfl
  simp only [A3,A6,Bb,Bc,Cr,Bn,B4,C9,Cu,B5,Cs,Ct,Da,Bu,Be,Bo,Bp,A2,A9,Ba,A5,Dc,B6,Bm,Bh,A8,A4,Bi,Bg,Bf,Bq,Br,B9,Ca,Bv,C0,Cz,C1,A0,A1,C2,Dd,ofOpt,ofOptS,Bw,Dh,Di,Cj,Cl,Bk,Bl,C4,Bj,Df,A7,Bd,Cm,Cn,Co,Cp,Cq,B3,B1,Nat.reduceLT,Nat.reduceAdd,Nat.reduceEqDiff,Aa,Ab,reduceIte,Ac,Ad,Ae,Af,Ag,Ah,Ai,Aj,Ak,Al,Am,Ao,Ap,Aq,Ar,Au,Av,Aw,Option.toList,Ay,Az,Tryz.f100,Dp,hf1,hf2,hf3,hs]
  refine WC.mono (P7 1 0 Ru ((l.drop i).take (cnt Fs (l.drop i))) (by decide) _) ?_
  rintro _ rfl
  have hst : ∀ ys : List AV, ys.length = 4 → Du Tryz.prog (S.newBox (Dz Dx)) 68 (.ptr S.next 0) (.agg ys) = some ((S.newBox (Dz Dx)).put S.next ys) := fun ys hy => Kg S _ ys rfl hy
  have keep : ∀ ys, Fg S ((S.newBox (Dz Dx)).put S.next ys) := fun ys => E5 (Eb S _) (Nat.le_refl _) ys
  by_cases hm : (l.drop i).take (cnt Fs (l.drop i)) ∈ Ru
  · have e : Mg (l.drop i) i = (⟨3, i, (l.drop i).take (cnt Fs (l.drop i)), 0⟩, 0) := by unfold Mg; rw [if_pos hm]
    rw [decide_eq_true hm]
    have hb := oN _ _ _ 3 i ⟨⟨(l.drop i).take (cnt Fs (l.drop i))⟩⟩ rfl rfl rfl
    have h1 := hst [.v (.int .i64 3), .v (.int .i64 i), .v (.string ⟨⟨(l.drop i).take (cnt Fs (l.drop i))⟩⟩), N8 0] rfl
    have h2 := G1 (S.newBox (Dz Dx)) S.next [.v (.int .i64 3), .v (.int .i64 i), .v (.string ⟨⟨(l.drop i).take (cnt Fs (l.drop i))⟩⟩), N8 0] rfl
    simp only [A3,A6,Bb,Bc,Cr,Bn,B4,C9,Cu,B5,Cs,Ct,Da,Bu,Be,Bo,Bp,A2,A9,Ba,A5,Dc,B6,Bm,Bh,A8,A4,Bi,Bg,Bf,Bq,Br,B9,Ca,Bv,C0,Cz,C1,A0,A1,C2,Dd,ofOpt,ofOptS,Bw,Dh,Di,Cj,Cl,Bk,Bl,C4,Bj,Df,A7,Bd,Cm,Cn,Co,Cp,Cq,B3,B1,Nat.reduceLT,Nat.reduceAdd,Nat.reduceEqDiff,Aa,Ab,reduceIte,Ac,Ad,Ae,Af,Ag,Ah,Ai,Aj,Ak,Al,Am,Ao,Ap,Aq,Ar,Au,Av,Aw,Option.toList,Ay,Az,Tryz.f100,hb,h1,h2]
    rw [e]
    exact ⟨_, rfl, keep _⟩
  · rw [decide_eq_false hm]
    by_cases h30 : 30 < cnt Fs (l.drop i)
    · have e : Mg (l.drop i) i = (Dx, 3) := by unfold Mg; rw [if_neg hm, if_pos h30]
      have hg : ((cnt Fs (l.drop i) : Nat) : Int) > 30 := by omega
      have h1 := hst (Dz Dx) rfl
      have h2 := G1 (S.newBox (Dz Dx)) S.next (Dz Dx) rfl
      simp only [A3,A6,Bb,Bc,Cr,Bn,B4,C9,Cu,B5,Cs,Ct,Da,Bu,Be,Bo,Bp,A2,A9,Ba,A5,Dc,B6,Bm,Bh,A8,A4,Bi,Bg,Bf,Bq,Br,B9,Ca,Bv,C0,Cz,C1,A0,A1,C2,Dd,ofOpt,ofOptS,Bw,Dh,Di,Cj,Cl,Bk,Bl,C4,Bj,Df,A7,Bd,Cm,Cn,Co,Cp,Cq,B3,B1,Nat.reduceLT,Nat.reduceAdd,Nat.reduceEqDiff,Aa,Ab,reduceIte,Ac,Ad,Ae,Af,Ag,Ah,Ai,Aj,Ak,Al,Am,Ao,Ap,Aq,Ar,Au,Av,Aw,Option.toList,Ay,Az,Tryz.f100,hL,hg,Tf,h1,h2]
      rw [e]
      exact ⟨_, rfl, keep _⟩
    · have e : Mg (l.drop i) i = (⟨1, i, (l.drop i).take (cnt Fs (l.drop i)), 0⟩, 0) := by unfold Mg; rw [if_neg hm, if_neg h30]
      have hg : ¬ ((cnt Fs (l.drop i) : Nat) : Int) > 30 := by omega
      have hb := oN _ _ _ 1 i ⟨⟨(l.drop i).take (cnt Fs (l.drop i))⟩⟩ rfl rfl rfl
      have h1 := hst [.v (.int .i64 1), .v (.int .i64 i), .v (.string ⟨⟨(l.drop i).take (cnt Fs (l.drop i))⟩⟩), N8 0] rfl
      have h2 := G1 (S.newBox (Dz Dx)) S.next [.v (.int .i64 1), .v (.int .i64 i), .v (.string ⟨⟨(l.drop i).take (cnt Fs (l.drop i))⟩⟩), N8 0] rfl
      simp only [A3,A6,Bb,Bc,Cr,Bn,B4,C9,Cu,B5,Cs,Ct,Da,Bu,Be,Bo,Bp,A2,A9,Ba,A5,Dc,B6,Bm,Bh,A8,A4,Bi,Bg,Bf,Bq,Br,B9,Ca,Bv,C0,Cz,C1,A0,A1,C2,Dd,ofOpt,ofOptS,Bw,Dh,Di,Cj,Cl,Bk,Bl,C4,Bj,Df,A7,Bd,Cm,Cn,Co,Cp,Cq,B3,B1,Nat.reduceLT,Nat.reduceAdd,Nat.reduceEqDiff,Aa,Ab,reduceIte,Ac,Ad,Ae,Af,Ag,Ah,Ai,Aj,Ak,Al,Am,Ao,Ap,Aq,Ar,Au,Av,Aw,Option.toList,Ay,Az,Tryz.f100,hL,hg,hb,h1,h2]
      rw [e]
      exact ⟨_, rfl, keep _⟩
end Go.Ax
noncomputable section
namespace Go.Ax
open Go.RowKit Go.Proofs
set_option linter.unusedVariables false
set_option linter.unusedSimpArgs false
set_option maxRecDepth 100000

theorem L5 (a b : AV) : Gz Tryz.prog 66 a b = false := by
  have h : Tryz.prog.underlying 66 = some (.int .u64) := rfl
  unfold Gz; rw [h]
theorem W7 : Gz Tryz.prog 110 (.iface 251 (.ep [])) (.v .nilIface) = true := by kernel_rfl
theorem Qw : Gz Tryz.prog 110 (.v .nilIface) (.v .nilIface) = false := by kernel_rfl
def nilO (r : OR) (S : St) (x : Option AV) : OR := match x with
  | some (.v .nilIface) => .val (.v (.bool false)) S
  | _ => r
def nP (P : Program) (G : Gl) (f : T AV) (S : St) (o : Oper) (op : BinOp) (t : TypeId) (a b : AV) : OR := Ns P G f S o op t a b
theorem Ty (f : T AV) (S : St) (k : Nat) (dst : Option Tmp) (ty : TypeId) (pos : String) (af : Array Edge) (gd : Option (Nat × Bool)) :
    Ns Tryz.prog gR f S { dst := dst, op := .binOp .neq 110 (.tmp k) (.const .nilIface) 110, type := ty, pos := pos, after := af, guard := gd } .neq 110 (.v .nilIface) (.v .nilIface) =
    nilO (nP Tryz.prog gR f S { dst := dst, op := .binOp .neq 110 (.tmp k) (.const .nilIface) 110, type := ty, pos := pos, after := af, guard := gd } .neq 110 (.v .nilIface) (.v .nilIface)) S (f.get k) := by
  unfold nilO
  split
  · rename_i hf
    have h0 : Nr Tryz.prog .neq 110 (.v .nilIface) (.v .nilIface) = none := by kernel_rfl
    unfold Ns
    rw [h0]
    have hg : Er gR f (.tmp k) = some .nilIface := by unfold Er; simp only [Cz,hf]; rfl
    have hc : Er gR f (.const .nilIface) = some .nilIface := rfl
    unfold ground
    simp only [Op.operands,List.all_cons,List.all_nil,hg,hc,Option.isSome_some,Bool.and_self,Aa]
    have e : execOp (fun x => (Er gR f x).getD undef) { dst := dst, op := .binOp .neq 110 (.tmp k) (.const .nilIface) 110, type := ty, pos := pos, after := af, guard := gd } = execOp (fun _ => .nilIface) { dst := none, op := .binOp .neq 110 (.tmp 29) (.const .nilIface) 110, type := 4, pos := "", after := #[], guard := none } := by
      simp only [execOp,hg,hc,Ae]
      rfl
    rw [e]
    have e3 : (Pk Tryz.prog 4000 (execOp (fun _ => Value.nilIface) { dst := none, op := .binOp .neq 110 (.tmp 29) (.const .nilIface) 110, type := 4, pos := "", after := #[], guard := none })) = some (.bool false) := by kernel_rfl
    rw [e3]; rfl
  · rfl
theorem Qt (r : OR) (S : St) : nilO r S (some (.v .nilIface)) = .val (.v (.bool false)) S := rfl
theorem gE : E8 .neq (.v .nilIface) (.v .nilIface) = none := rfl
theorem jC (l : List UInt8) (i : Nat) (h : i < l.length) : (l.drop i).head? = some l[i] := by rw [List.drop_eq_getElem_cons h]; rfl
set_option maxHeartbeats 8000000 in
theorem lR (l : List UInt8) (hl : l.length ≤ 100000) (i : Nat) (hi : i < l.length) (hd : Ed l[i] = true) (S : St) (p : Tk × Nat) (hp : aK (l.drop i) i = some p) : WC E1 102 [D5 l, Dy i] S (Zi S p) := by
  refine Ek Tryz.f102 (by kernel_rfl) (by kernel_rfl) (by kernel_rfl) (show (_ : Nat) ≤ _ from by show (_ : Nat) ≤ _; simp [Tryz.f102]) ?_
  obtain ⟨fn1, hf1⟩ := dM
  obtain ⟨fn2, hf2⟩ := fnOk133
  have hc := P8 Ed (l.drop i)
  rw [List.length_drop] at hc
  have hc1 : 1 ≤ cnt Ed (l.drop i) := by rw [List.drop_eq_getElem_cons hi, cnt, if_pos hd]; omega
  have hs := Ue l i (i + cnt Ed (l.drop i)) (by omega) (by omega)
  rw [Nat.add_sub_cancel_left] at hs
  have hL := fun S => Qy S ((l.drop i).take (cnt Ed (l.drop i)))
  have hlen : ((l.drop i).take (cnt Ed (l.drop i))).length = cnt Ed (l.drop i) := by rw [List.length_take, List.length_drop]; omega
  rw [hlen] at hL
  have h00 : ((l.drop i).take (cnt Ed (l.drop i)))[0]'(by omega) = l[i] := by simp
  have hx := idx9 ((l.drop i).take (cnt Ed (l.drop i))) 0 (by omega)
  rw [h00] at hx
  simp only [Int.ofNat_eq_natCast,Int.cast_ofNat_Int] at hx
  have hst : ∀ ys : List AV, ys.length = 4 → Du Tryz.prog (S.newBox (Dz Dx)) 68 (.ptr S.next 0) (.agg ys) = some ((S.newBox (Dz Dx)).put S.next ys) := fun ys hy => Kg S _ ys rfl hy
  have keep : ∀ ys, Fg S ((S.newBox (Dz Dx)).put S.next ys) := fun ys => E5 (Eb S _) (Nat.le_refl _) ys
  have z1 := hst (Dz Dx) rfl
  have z2 := G1 (S.newBox (Dz Dx)) S.next (Dz Dx) rfl
  simp only [D5,Dy]
  simp only [A3,A6,Bb,Bc,Cr,Bn,B4,C9,Cu,B5,Cs,Ct,Da,Bu,Be,Bo,Bp,A2,A9,Ba,A5,Dc,B6,Bm,Bh,A8,A4,Bi,Bg,Bf,Bq,Br,B9,Ca,Bv,C0,Cz,C1,A0,A1,C2,Dd,ofOpt,ofOptS,Bw,Dh,Di,Cj,Cl,Bk,Bl,C4,Bj,Df,A7,Bd,Cm,Cn,Co,Cp,Cq,B3,B1,Nat.reduceLT,Nat.reduceAdd,Nat.reduceEqDiff,Aa,Ab,reduceIte,Ac,Ad,Ae,Af,Ag,Ah,Ai,Aj,Ak,Al,Am,Ao,Ap,Aq,Ar,Au,Av,Aw,Option.toList,Ay,Az,Tryz.f102,Dp,hf1,hf2]
  refine WC.mono (Ro digitT l hl i (by omega) _) ?_
  rintro _ rfl
  simp only [Dy]
  have h48 : (((l[i].toNat : Nat) : Int) == 48) = decide (l[i] = 48) := by
    rw [Bool.eq_iff_iff]; simp only [beq_iff_eq,decide_eq_true_iff]
    constructor
    · intro h; exact UInt8.toNat_inj.1 (by show l[i].toNat = 48; omega)
    · intro h; rw [h]; rfl
  unfold aK at hp
  rw [jC l i hi] at hp
  by_cases hz : 1 < cnt Ed (l.drop i) ∧ l[i] = 48
  · rw [if_pos ⟨hz.1, by rw [hz.2]⟩] at hp
    injection hp with hp; subst hp
    have hg : ((cnt Ed (l.drop i) : Nat) : Int) > 1 := by omega
    rw [decide_eq_true hz.2] at h48
    simp only [A3,A6,Bb,Bc,Cr,Bn,B4,C9,Cu,B5,Cs,Ct,Da,Bu,Be,Bo,Bp,A2,A9,Ba,A5,Dc,B6,Bm,Bh,A8,A4,Bi,Bg,Bf,Bq,Br,B9,Ca,Bv,C0,Cz,C1,A0,A1,C2,Dd,ofOpt,ofOptS,Bw,Dh,Di,Cj,Cl,Bk,Bl,C4,Bj,Df,A7,Bd,Cm,Cn,Co,Cp,Cq,B3,B1,Nat.reduceLT,Nat.reduceAdd,Nat.reduceEqDiff,Aa,Ab,reduceIte,Ac,Ad,Ae,Af,Ag,Ah,Ai,Aj,Ak,Al,Am,Ao,Ap,Aq,Ar,Au,Av,Aw,Option.toList,Ay,Az,Tryz.f102,Dp,hf1,hf2,hs,hL,hg,hx,I1,Hs,h48,Tf,z1,z2]
    exact ⟨_, rfl, keep _⟩
  · rw [if_neg (fun h => hz ⟨h.1, by have := h.2; injection this⟩)] at hp
    split at hp
    case isFalse =>
      rename_i hv
      injection hp with hp; subst hp
      have hpw := fun S => range_w ((l.drop i).take (cnt Ed (l.drop i))) (by intro e; rw [e] at hlen; simp at hlen; omega) (T7 _ _) hv (by omega) S
      unfold D5 N8 at hpw
      by_cases hg : ((cnt Ed (l.drop i) : Nat) : Int) > 1
      · have h1 : ¬ l[i] = 48 := fun e => hz ⟨by omega, e⟩
        rw [decide_eq_false h1] at h48
        simp only [A3,A6,Bb,Bc,Cr,Bn,B4,C9,Cu,B5,Cs,Ct,Da,Bu,Be,Bo,Bp,A2,A9,Ba,A5,Dc,B6,Bm,Bh,A8,A4,Bi,Bg,Bf,Bq,Br,B9,Ca,Bv,C0,Cz,C1,A0,A1,C2,Dd,ofOpt,ofOptS,Bw,Dh,Di,Cj,Cl,Bk,Bl,C4,Bj,Df,A7,Bd,Cm,Cn,Co,Cp,Cq,B3,B1,Nat.reduceLT,Nat.reduceAdd,Nat.reduceEqDiff,Aa,Ab,reduceIte,Ac,Ad,Ae,Af,Ag,Ah,Ai,Aj,Ak,Al,Am,Ao,Ap,Aq,Ar,Au,Av,Aw,Option.toList,Ay,Az,Tryz.f102,Dp,hf1,hf2,hs,hL,hg,hx,I1,Hs,h48]
        refine WC.mono (hpw _) ?_
        rintro _ rfl
        simp only [A3,A6,Bb,Bc,Cr,Bn,B4,C9,Cu,B5,Cs,Ct,Da,Bu,Be,Bo,Bp,A2,A9,Ba,A5,Dc,B6,Bm,Bh,A8,A4,Bi,Bg,Bf,Bq,Br,B9,Ca,Bv,C0,Cz,C1,A0,A1,C2,Dd,ofOpt,ofOptS,Bw,Dh,Di,Cj,Cl,Bk,Bl,C4,Bj,Df,A7,Bd,Cm,Cn,Co,Cp,Cq,B3,B1,Nat.reduceLT,Nat.reduceAdd,Nat.reduceEqDiff,Aa,Ab,reduceIte,Ac,Ad,Ae,Af,Ag,Ah,Ai,Aj,Ak,Al,Am,Ao,Ap,Aq,Ar,Au,Av,Aw,Option.toList,Ay,Az,Tryz.f102,L5,W7,Cb,Tf,z1,z2]
        exact ⟨_, rfl, keep _⟩
      · simp only [A3,A6,Bb,Bc,Cr,Bn,B4,C9,Cu,B5,Cs,Ct,Da,Bu,Be,Bo,Bp,A2,A9,Ba,A5,Dc,B6,Bm,Bh,A8,A4,Bi,Bg,Bf,Bq,Br,B9,Ca,Bv,C0,Cz,C1,A0,A1,C2,Dd,ofOpt,ofOptS,Bw,Dh,Di,Cj,Cl,Bk,Bl,C4,Bj,Df,A7,Bd,Cm,Cn,Co,Cp,Cq,B3,B1,Nat.reduceLT,Nat.reduceAdd,Nat.reduceEqDiff,Aa,Ab,reduceIte,Ac,Ad,Ae,Af,Ag,Ah,Ai,Aj,Ak,Al,Am,Ao,Ap,Aq,Ar,Au,Av,Aw,Option.toList,Ay,Az,Tryz.f102,Dp,hf1,hf2,hs,hL,hg]
        refine WC.mono (hpw _) ?_
        rintro _ rfl
        simp only [A3,A6,Bb,Bc,Cr,Bn,B4,C9,Cu,B5,Cs,Ct,Da,Bu,Be,Bo,Bp,A2,A9,Ba,A5,Dc,B6,Bm,Bh,A8,A4,Bi,Bg,Bf,Bq,Br,B9,Ca,Bv,C0,Cz,C1,A0,A1,C2,Dd,ofOpt,ofOptS,Bw,Dh,Di,Cj,Cl,Bk,Bl,C4,Bj,Df,A7,Bd,Cm,Cn,Co,Cp,Cq,B3,B1,Nat.reduceLT,Nat.reduceAdd,Nat.reduceEqDiff,Aa,Ab,reduceIte,Ac,Ad,Ae,Af,Ag,Ah,Ai,Aj,Ak,Al,Am,Ao,Ap,Aq,Ar,Au,Av,Aw,Option.toList,Ay,Az,Tryz.f102,L5,W7,Cb,Tf,z1,z2]
        exact ⟨_, rfl, keep _⟩
    rename_i hv
    have hpw := fun S => parse_w ((l.drop i).take (cnt Ed (l.drop i))) (by intro e; rw [e] at hlen; simp at hlen; omega) (T7 _ _) hv (by omega) S
    unfold D5 N8 at hpw
    by_cases hg : ((cnt Ed (l.drop i) : Nat) : Int) > 1
    · have h1 : ¬ l[i] = 48 := fun e => hz ⟨by omega, e⟩
      rw [decide_eq_false h1] at h48
      simp only [A3,A6,Bb,Bc,Cr,Bn,B4,C9,Cu,B5,Cs,Ct,Da,Bu,Be,Bo,Bp,A2,A9,Ba,A5,Dc,B6,Bm,Bh,A8,A4,Bi,Bg,Bf,Bq,Br,B9,Ca,Bv,C0,Cz,C1,A0,A1,C2,Dd,ofOpt,ofOptS,Bw,Dh,Di,Cj,Cl,Bk,Bl,C4,Bj,Df,A7,Bd,Cm,Cn,Co,Cp,Cq,B3,B1,Nat.reduceLT,Nat.reduceAdd,Nat.reduceEqDiff,Aa,Ab,reduceIte,Ac,Ad,Ae,Af,Ag,Ah,Ai,Aj,Ak,Al,Am,Ao,Ap,Aq,Ar,Au,Av,Aw,Option.toList,Ay,Az,Tryz.f102,Dp,hf1,hf2,hs,hL,hg,hx,I1,Hs,h48]
      refine WC.mono (hpw _) ?_
      rintro _ rfl
      by_cases hb : ((Hi 0 ((l.drop i).take (cnt Ed (l.drop i))) : Nat) : Int) > 9223372036854775808
      · rw [if_pos (show 9223372036854775808 < Hi 0 ((l.drop i).take (cnt Ed (l.drop i))) by omega)] at hp
        injection hp with hp; subst hp
        simp only [A3,A6,Bb,Bc,Cr,Bn,B4,C9,Cu,B5,Cs,Ct,Da,Bu,Be,Bo,Bp,A2,A9,Ba,A5,Dc,B6,Bm,Bh,A8,A4,Bi,Bg,Bf,Bq,Br,B9,Ca,Bv,C0,Cz,C1,A0,A1,C2,Dd,ofOpt,ofOptS,Bw,Dh,Di,Cj,Cl,Bk,Bl,C4,Bj,Df,A7,Bd,Cm,Cn,Co,Cp,Cq,B3,B1,Nat.reduceLT,Nat.reduceAdd,Nat.reduceEqDiff,Aa,Ab,reduceIte,Ac,Ad,Ae,Af,Ag,Ah,Ai,Aj,Ak,Al,Am,Ao,Ap,Aq,Ar,Au,Av,Aw,Option.toList,Ay,Az,Tryz.f102,L5,Ty,Qt,Cb,Qw,gE,hb,Tf,z1,z2]
        exact ⟨_, rfl, keep _⟩
      · rw [if_neg (show ¬ 9223372036854775808 < Hi 0 ((l.drop i).take (cnt Ed (l.drop i))) by omega)] at hp
        injection hp with hp; subst hp
        have q1 := hst [.v (.int .i64 2), .v (.int .i64 i), .v (.string ⟨⟨(l.drop i).take (cnt Ed (l.drop i))⟩⟩), .v (.int .u64 (Hi 0 ((l.drop i).take (cnt Ed (l.drop i))) : Nat))] rfl
        have q2 := G1 (S.newBox (Dz Dx)) S.next [.v (.int .i64 2), .v (.int .i64 i), .v (.string ⟨⟨(l.drop i).take (cnt Ed (l.drop i))⟩⟩), .v (.int .u64 (Hi 0 ((l.drop i).take (cnt Ed (l.drop i))) : Nat))] rfl
        simp only [A3,A6,Bb,Bc,Cr,Bn,B4,C9,Cu,B5,Cs,Ct,Da,Bu,Be,Bo,Bp,A2,A9,Ba,A5,Dc,B6,Bm,Bh,A8,A4,Bi,Bg,Bf,Bq,Br,B9,Ca,Bv,C0,Cz,C1,A0,A1,C2,Dd,ofOpt,ofOptS,Bw,Dh,Di,Cj,Cl,Bk,Bl,C4,Bj,Df,A7,Bd,Cm,Cn,Co,Cp,Cq,B3,B1,Nat.reduceLT,Nat.reduceAdd,Nat.reduceEqDiff,Aa,Ab,reduceIte,Ac,Ad,Ae,Af,Ag,Ah,Ai,Aj,Ak,Al,Am,Ao,Ap,Aq,Ar,Au,Av,Aw,Option.toList,Ay,Az,Tryz.f102,L5,Ty,Qt,Cb,Qw,gE,hb,b68_4,q1,q2]
        exact ⟨_, rfl, keep _⟩
    · simp only [A3,A6,Bb,Bc,Cr,Bn,B4,C9,Cu,B5,Cs,Ct,Da,Bu,Be,Bo,Bp,A2,A9,Ba,A5,Dc,B6,Bm,Bh,A8,A4,Bi,Bg,Bf,Bq,Br,B9,Ca,Bv,C0,Cz,C1,A0,A1,C2,Dd,ofOpt,ofOptS,Bw,Dh,Di,Cj,Cl,Bk,Bl,C4,Bj,Df,A7,Bd,Cm,Cn,Co,Cp,Cq,B3,B1,Nat.reduceLT,Nat.reduceAdd,Nat.reduceEqDiff,Aa,Ab,reduceIte,Ac,Ad,Ae,Af,Ag,Ah,Ai,Aj,Ak,Al,Am,Ao,Ap,Aq,Ar,Au,Av,Aw,Option.toList,Ay,Az,Tryz.f102,Dp,hf1,hf2,hs,hL,hg]
      refine WC.mono (hpw _) ?_
      rintro _ rfl
      by_cases hb : ((Hi 0 ((l.drop i).take (cnt Ed (l.drop i))) : Nat) : Int) > 9223372036854775808
      · rw [if_pos (show 9223372036854775808 < Hi 0 ((l.drop i).take (cnt Ed (l.drop i))) by omega)] at hp
        injection hp with hp; subst hp
        simp only [A3,A6,Bb,Bc,Cr,Bn,B4,C9,Cu,B5,Cs,Ct,Da,Bu,Be,Bo,Bp,A2,A9,Ba,A5,Dc,B6,Bm,Bh,A8,A4,Bi,Bg,Bf,Bq,Br,B9,Ca,Bv,C0,Cz,C1,A0,A1,C2,Dd,ofOpt,ofOptS,Bw,Dh,Di,Cj,Cl,Bk,Bl,C4,Bj,Df,A7,Bd,Cm,Cn,Co,Cp,Cq,B3,B1,Nat.reduceLT,Nat.reduceAdd,Nat.reduceEqDiff,Aa,Ab,reduceIte,Ac,Ad,Ae,Af,Ag,Ah,Ai,Aj,Ak,Al,Am,Ao,Ap,Aq,Ar,Au,Av,Aw,Option.toList,Ay,Az,Tryz.f102,L5,Ty,Qt,Cb,Qw,gE,hb,Tf,z1,z2]
        exact ⟨_, rfl, keep _⟩
      · rw [if_neg (show ¬ 9223372036854775808 < Hi 0 ((l.drop i).take (cnt Ed (l.drop i))) by omega)] at hp
        injection hp with hp; subst hp
        have q1 := hst [.v (.int .i64 2), .v (.int .i64 i), .v (.string ⟨⟨(l.drop i).take (cnt Ed (l.drop i))⟩⟩), .v (.int .u64 (Hi 0 ((l.drop i).take (cnt Ed (l.drop i))) : Nat))] rfl
        have q2 := G1 (S.newBox (Dz Dx)) S.next [.v (.int .i64 2), .v (.int .i64 i), .v (.string ⟨⟨(l.drop i).take (cnt Ed (l.drop i))⟩⟩), .v (.int .u64 (Hi 0 ((l.drop i).take (cnt Ed (l.drop i))) : Nat))] rfl
        simp only [A3,A6,Bb,Bc,Cr,Bn,B4,C9,Cu,B5,Cs,Ct,Da,Bu,Be,Bo,Bp,A2,A9,Ba,A5,Dc,B6,Bm,Bh,A8,A4,Bi,Bg,Bf,Bq,Br,B9,Ca,Bv,C0,Cz,C1,A0,A1,C2,Dd,ofOpt,ofOptS,Bw,Dh,Di,Cj,Cl,Bk,Bl,C4,Bj,Df,A7,Bd,Cm,Cn,Co,Cp,Cq,B3,B1,Nat.reduceLT,Nat.reduceAdd,Nat.reduceEqDiff,Aa,Ab,reduceIte,Ac,Ad,Ae,Af,Ag,Ah,Ai,Aj,Ak,Al,Am,Ao,Ap,Aq,Ar,Au,Av,Aw,Option.toList,Ay,Az,Tryz.f102,L5,Ty,Qt,Cb,Qw,gE,hb,b68_4,q1,q2]
        exact ⟨_, rfl, keep _⟩
noncomputable def Mj : Code := match Tryz.f103.body with
  | some (.seq _ (.seq (.seq _ (.block _ (.loop c))) _)) => c
  | _ => .skip
set_option maxHeartbeats 8000000 in
theorem Wq (l : List UInt8) (i : Nat) (hi : i ≤ l.length) (S : St) (b : Nat) (hS : S.mem.get b = some (.box (Dz Dx))) : ∀ (m j : Nat) (t : T AV), j + m = Gd.length → t.get 0 = some (D5 l) → t.get 1 = some (Dy i) → t.get 4 = some (.ptr b 0) → t.get 8 = some (.sl 1 0 1 (Gd.map D5)) → t.get 9 = some (Dy Gd.length) → t.get 10 = some (Dy j) →
    WX E1 24 (.loop Mj) ⟨t, []⟩ S (fun r => ∃ t', t'.get 4 = some (.ptr b 0) ∧ ((r = .out (.exit 0) ⟨t', []⟩ S ∧ (Gd.drop j).find? (fun s => G5 s (l.drop i)) = none) ∨ (∃ s, r = .out .ret ⟨t', []⟩ (S.put b (Dz ⟨4, i, s, 0⟩)) ∧ t'.get 5 = some (Dy 0) ∧ (Gd.drop j).find? (fun s => G5 s (l.drop i)) = some s)))
  | 0, j, t, hj, h0, h1, h4, h8, h9, h10 => by
    refine Fc (Es ?_)
    have hlt : ¬ ((j : Int) < (Gd.length : Int)) := by omega
    have hd : Gd.drop j = [] := List.drop_eq_nil_of_le (by omega)
    simp only [D5,Dy] at h0 h1 h8 h9 h10 ⊢
    simp only [A3,A6,Bb,Bc,Cr,Bn,B4,C9,Cu,B5,Cs,Ct,Da,Bu,Be,Bo,Bp,A2,A9,Ba,A5,Dc,B6,Bm,Bh,A8,A4,Bi,Bg,Bf,Bq,Br,B9,Ca,Bv,C0,Cz,C1,A0,A1,C2,Dd,ofOpt,ofOptS,Bw,Dh,Di,Cj,Cl,Bk,Bl,C4,Bj,Df,A7,Bd,Cm,Cn,Co,Cp,Cq,B3,B1,Nat.reduceLT,Nat.reduceAdd,Nat.reduceEqDiff,Aa,Ab,reduceIte,Ac,Ad,Ae,Af,Ag,Ah,Ai,Aj,Ak,Al,Am,Ao,Ap,Aq,Ar,Au,Av,Aw,Option.toList,Ay,Az,Mj,Tryz.f103,h0,h1,h8,h9,h10,hlt]
    refine ⟨_, ?_, .inl ⟨rfl, by rw [hd]; rfl⟩⟩
    simp only [A0,Nat.reduceEqDiff,Ab,h4]
  | m + 1, j, t, hj, h0, h1, h4, h8, h9, h10 => by
    refine Fc (Es ?_)
    have hjl : j < Gd.length := by omega
    have hlt : ((j : Int) < (Gd.length : Int)) := by omega
    have hd : Gd.drop j = Gd[j] :: Gd.drop (j + 1) := List.drop_eq_getElem_cons hjl
    have hx := idx69 1 0 Gd j hjl
    have h16 : Gd.length = 16 := rfl
    have hw := Mf (i := j) (by omega)
    have hs := Zv l i hi
    obtain ⟨fn1, hf1⟩ := nA
    simp only [D5,Dy] at h0 h1 h8 h9 h10 hx ⊢
    simp only [A3,A6,Bb,Bc,Cr,Bn,B4,C9,Cu,B5,Cs,Ct,Da,Bu,Be,Bo,Bp,A2,A9,Ba,A5,Dc,B6,Bm,Bh,A8,A4,Bi,Bg,Bf,Bq,Br,B9,Ca,Bv,C0,Cz,C1,A0,A1,C2,Dd,ofOpt,ofOptS,Bw,Dh,Di,Cj,Cl,Bk,Bl,C4,Bj,Df,A7,Bd,Cm,Cn,Co,Cp,Cq,B3,B1,Nat.reduceLT,Nat.reduceAdd,Nat.reduceEqDiff,Aa,Ab,reduceIte,Ac,Ad,Ae,Af,Ag,Ah,Ai,Aj,Ak,Al,Am,Ao,Ap,Aq,Ar,Au,Av,Aw,Option.toList,Ay,Az,Mj,Tryz.f103,h0,h1,h8,h9,h10,hlt,hx,mG,hf1,hs]
    refine WC.mono (pre_w (l.drop i) Gd[j] S) ?_
    rintro _ rfl
    cases hb : G5 Gd[j] (l.drop i)
    · simp only [A3,A6,Bb,Bc,Cr,Bn,B4,C9,Cu,B5,Cs,Ct,Da,Bu,Be,Bo,Bp,A2,A9,Ba,A5,Dc,B6,Bm,Bh,A8,A4,Bi,Bg,Bf,Bq,Br,B9,Ca,Bv,C0,Cz,C1,A0,A1,C2,Dd,ofOpt,ofOptS,Bw,Dh,Di,Cj,Cl,Bk,Bl,C4,Bj,Df,A7,Bd,Cm,Cn,Co,Cp,Cq,B3,B1,Nat.reduceLT,Nat.reduceAdd,Nat.reduceEqDiff,Aa,Ab,reduceIte,Ac,Ad,Ae,Af,Ag,Ah,Ai,Aj,Ak,Al,Am,Ao,Ap,Aq,Ar,Au,Av,Aw,Option.toList,Ay,Az,Mj,Tryz.f103,h0,h1,h8,h9,h10,hw]
      refine WX.mono (Wq l i hi S b hS m (j + 1) _ (by omega) ?_ ?_ ?_ ?_ ?_ ?_) ?_
      · simp only [A0,Nat.reduceEqDiff,Ab,h0]; rfl
      · simp only [A0,Nat.reduceEqDiff,Ab,h1]; rfl
      · simp only [A0,Nat.reduceEqDiff,Ab,h4]
      · simp only [A0,Nat.reduceEqDiff,Ab,h8]
      · simp only [A0,Nat.reduceEqDiff,Ab,h9]; rfl
      · simp only [A0,Nat.reduceEqDiff,Aa]; rfl
      · rintro r ⟨t', h4', ⟨rfl, h⟩ | ⟨s, rfl, h5, h⟩⟩
        · exact ⟨t', h4', .inl ⟨rfl, by rw [hd, List.find?_cons, hb]; exact h⟩⟩
        · exact ⟨t', h4', .inr ⟨s, rfl, h5, by rw [hd, List.find?_cons, hb]; exact h⟩⟩
    · have hbl := oN _ _ _ 4 i ⟨⟨Gd[j]⟩⟩ rfl rfl rfl
      have h1s := kQ hS rfl (show ([.v (.int .i64 4), .v (.int .i64 i), .v (.string ⟨⟨Gd[j]⟩⟩), N8 0] : List AV).length = 4 from rfl)
      simp only [A3,A6,Bb,Bc,Cr,Bn,B4,C9,Cu,B5,Cs,Ct,Da,Bu,Be,Bo,Bp,A2,A9,Ba,A5,Dc,B6,Bm,Bh,A8,A4,Bi,Bg,Bf,Bq,Br,B9,Ca,Bv,C0,Cz,C1,A0,A1,C2,Dd,ofOpt,ofOptS,Bw,Dh,Di,Cj,Cl,Bk,Bl,C4,Bj,Df,A7,Bd,Cm,Cn,Co,Cp,Cq,B3,B1,Nat.reduceLT,Nat.reduceAdd,Nat.reduceEqDiff,Aa,Ab,reduceIte,Ac,Ad,Ae,Af,Ag,Ah,Ai,Aj,Ak,Al,Am,Ao,Ap,Aq,Ar,Au,Av,Aw,Option.toList,Ay,Az,Mj,Tryz.f103,h0,h1,h4,h8,h9,h10,hbl,h1s]
      refine ⟨_, ?_, .inr ⟨Gd[j], rfl, ?_, by rw [hd, List.find?_cons, hb]⟩⟩
      · simp only [A0,Nat.reduceEqDiff,Ab,h4]
      · simp only [A0,Nat.reduceEqDiff,Aa]; rfl
set_option maxHeartbeats 8000000 in
theorem sign_w (l : List UInt8) (i : Nat) (hi : i ≤ l.length) (S : St) : WC E1 103 [D5 l, Dy i] S (Zi S (Oa (l.drop i) i)) := by
  refine Ek Tryz.f103 (by kernel_rfl) (by kernel_rfl) (by kernel_rfl) (show (_ : Nat) ≤ _ from by show (_ : Nat) ≤ _; simp [Tryz.f103]) ?_
  obtain ⟨fn1, hf1⟩ := fnOk134
  have key := fun t h0 h1 h4 h8 h9 h10 => Wq l i hi (S.newBox (Dz Dx)) S.next (Ea S _) Gd.length 0 t (by omega) h0 h1 h4 h8 h9 h10
  unfold Mj at key
  simp only [Tryz.f103] at key
  have keep : ∀ ys, Fg S ((S.newBox (Dz Dx)).put S.next ys) := fun ys => E5 (Eb S _) (Nat.le_refl _) ys
  have hL := fun S => len69 S 1 0 (Gd.map D5)
  rw [List.length_map] at hL
  simp only [A3,A6,Bb,Bc,Cr,Bn,B4,C9,Cu,B5,Cs,Ct,Da,Bu,Be,Bo,Bp,A2,A9,Ba,A5,Dc,B6,Bm,Bh,A8,A4,Bi,Bg,Bf,Bq,Br,B9,Ca,Bv,C0,Cz,C1,A0,A1,C2,Dd,ofOpt,ofOptS,Bw,Dh,Di,Cj,Cl,Bk,Bl,C4,Bj,Df,A7,Bd,Cm,Cn,Co,Cp,Cq,B3,B1,Nat.reduceLT,Nat.reduceAdd,Nat.reduceEqDiff,Aa,Ab,reduceIte,Ac,Ad,Ae,Af,Ag,Ah,Ai,Aj,Ak,Al,Am,Ao,Ap,Aq,Ar,Au,Av,Aw,Option.toList,Ay,Az,Tryz.f103,Dp,hf1]
  refine WC.mono (signs_w _) ?_
  rintro _ rfl
  simp only [A3,A6,Bb,Bc,Cr,Bn,B4,C9,Cu,B5,Cs,Ct,Da,Bu,Be,Bo,Bp,A2,A9,Ba,A5,Dc,B6,Bm,Bh,A8,A4,Bi,Bg,Bf,Bq,Br,B9,Ca,Bv,C0,Cz,C1,A0,A1,C2,Dd,ofOpt,ofOptS,Bw,Dh,Di,Cj,Cl,Bk,Bl,C4,Bj,Df,A7,Bd,Cm,Cn,Co,Cp,Cq,B3,B1,Nat.reduceLT,Nat.reduceAdd,Nat.reduceEqDiff,Aa,Ab,reduceIte,Ac,Ad,Ae,Af,Ag,Ah,Ai,Aj,Ak,Al,Am,Ao,Ap,Aq,Ar,Au,Av,Aw,Option.toList,Ay,Az,Tryz.f103,hL]
  refine WX.mono (key _ ?_ ?_ ?_ ?_ ?_ ?_) ?_
  · simp only [A0,A1,Nat.reduceEqDiff,Aa,Ab]
  · simp only [A0,A1,Nat.reduceEqDiff,Aa,Ab]
  · simp only [A0,A1,Nat.reduceEqDiff,Aa,Ab]
  · simp only [A0,A1,Nat.reduceEqDiff,Aa,Ab]
  · simp only [A0,A1,Nat.reduceEqDiff,Aa,Ab]; rfl
  · simp only [A0,A1,Nat.reduceEqDiff,Aa,Ab]; rfl
  · rintro r ⟨t', h4, ⟨rfl, h⟩ | ⟨s, rfl, h5, h⟩⟩
    · have e : Oa (l.drop i) i = (Dx, 1) := by unfold Oa; rw [List.drop_zero] at h; rw [h]
      have q1 := Kg S (Dz Dx) (Dz Dx) rfl rfl
      have q2 := G1 (S.newBox (Dz Dx)) S.next (Dz Dx) rfl
      simp only [A3,A6,Bb,Bc,Cr,Bn,B4,C9,Cu,B5,Cs,Ct,Da,Bu,Be,Bo,Bp,A2,A9,Ba,A5,Dc,B6,Bm,Bh,A8,A4,Bi,Bg,Bf,Bq,Br,B9,Ca,Bv,C0,Cz,C1,A0,A1,C2,Dd,ofOpt,ofOptS,Bw,Dh,Di,Cj,Cl,Bk,Bl,C4,Bj,Df,A7,Bd,Cm,Cn,Co,Cp,Cq,B3,B1,Nat.reduceLT,Nat.reduceAdd,Nat.reduceEqDiff,Aa,Ab,reduceIte,Ac,Ad,Ae,Af,Ag,Ah,Ai,Aj,Ak,Al,Am,Ao,Ap,Aq,Ar,Au,Av,Aw,Option.toList,Ay,Az,h4,Tf,q1,q2]
      rw [e]
      exact ⟨_, rfl, keep _⟩
    · have e : Oa (l.drop i) i = (⟨4, i, s, 0⟩, 0) := by unfold Oa; rw [List.drop_zero] at h; rw [h]
      have q2 := G1 (S.newBox (Dz Dx)) S.next (Dz ⟨4, i, s, 0⟩) rfl
      simp only [A3,A6,Bb,Bc,Cr,Bn,B4,C9,Cu,B5,Cs,Ct,Da,Bu,Be,Bo,Bp,A2,A9,Ba,A5,Dc,B6,Bm,Bh,A8,A4,Bi,Bg,Bf,Bq,Br,B9,Ca,Bv,C0,Cz,C1,A0,A1,C2,Dd,ofOpt,ofOptS,Bw,Dh,Di,Cj,Cl,Bk,Bl,C4,Bj,Df,A7,Bd,Cm,Cn,Co,Cp,Cq,B3,B1,Nat.reduceLT,Nat.reduceAdd,Nat.reduceEqDiff,Aa,Ab,reduceIte,Ac,Ad,Ae,Af,Ag,Ah,Ai,Aj,Ak,Al,Am,Ao,Ap,Aq,Ar,Au,Av,Aw,Option.toList,Ay,Az,h4,h5,q2]
      rw [e]
      exact ⟨_, rfl, keep _⟩
set_option maxHeartbeats 8000000 in
theorem next_w (l : List UInt8) (hl : l.length ≤ 100000) (i : Nat) (hi : i < l.length) (S : St) (p : Tk × Nat) (hp : Jk (l.drop i) i = some p) : WC E1 66 [D5 l, Dy i] S (Zi S p) := by
  refine Ek Tryz.f66 (by kernel_rfl) (by kernel_rfl) (by kernel_rfl) (show (_ : Nat) ≤ _ from by show (_ : Nat) ≤ _; simp [Tryz.f66]) ?_
  obtain ⟨fn1, hf1⟩ := mY
  obtain ⟨fn2, hf2⟩ := fnOk100
  obtain ⟨fn3, hf3⟩ := gA
  obtain ⟨fn4, hf4⟩ := fnOk102
  obtain ⟨fn5, hf5⟩ := fnOk103
  have hx := idx9 l i hi
  rw [List.drop_eq_getElem_cons hi] at hp
  simp only [Jk] at hp
  rw [← List.drop_eq_getElem_cons hi] at hp
  simp only [D5,Dy]
  simp only [A3,A6,Bb,Bc,Cr,Bn,B4,C9,Cu,B5,Cs,Ct,Da,Bu,Be,Bo,Bp,A2,A9,Ba,A5,Dc,B6,Bm,Bh,A8,A4,Bi,Bg,Bf,Bq,Br,B9,Ca,Bv,C0,Cz,C1,A0,A1,C2,Dd,ofOpt,ofOptS,Bw,Dh,Di,Cj,Cl,Bk,Bl,C4,Bj,Df,A7,Bd,Cm,Cn,Co,Cp,Cq,B3,B1,Nat.reduceLT,Nat.reduceAdd,Nat.reduceEqDiff,Aa,Ab,reduceIte,Ac,Ad,Ae,Af,Ag,Ah,Ai,Aj,Ak,Al,Am,Ao,Ap,Aq,Ar,Au,Av,Aw,Option.toList,Ay,Az,Tryz.f66,Dp,hf1,hf2,hf3,hf4,hf5,hx]
  refine WC.mono (aR l[i] _) ?_
  rintro _ rfl
  have fin : ∀ S2 : St, Fg (S.newBox (Dz Dx)) S2 → ∀ q : Tk, Du Tryz.prog S2 68 (.ptr S.next 0) (Fm q) = some (S2.put S.next (Dz q)) ∧ Dw Tryz.prog (S2.put S.next (Dz q)) 68 (.ptr S.next 0) = some (Fm q) ∧ Fg S (S2.put S.next (Dz q)) := fun S2 hk q =>
    ⟨kQ (by rw [hk.2 S.next (Nat.lt_succ_self _)]; exact Ea S _) rfl rfl, G1 _ _ _ rfl, E5 ((Eb S _).trans hk) (Nat.le_refl _) _⟩
  cases hb : Km l[i]
  · rw [hb] at hp
    simp only [Am,Ab] at hp
    simp only [A3,A6,Bb,Bc,Cr,Bn,B4,C9,Cu,B5,Cs,Ct,Da,Bu,Be,Bo,Bp,A2,A9,Ba,A5,Dc,B6,Bm,Bh,A8,A4,Bi,Bg,Bf,Bq,Br,B9,Ca,Bv,C0,Cz,C1,A0,A1,C2,Dd,ofOpt,ofOptS,Bw,Dh,Di,Cj,Cl,Bk,Bl,C4,Bj,Df,A7,Bd,Cm,Cn,Co,Cp,Cq,B3,B1,Nat.reduceLT,Nat.reduceAdd,Nat.reduceEqDiff,Aa,Ab,reduceIte,Ac,Ad,Ae,Af,Ag,Ah,Ai,Aj,Ak,Al,Am,Ao,Ap,Aq,Ar,Au,Av,Aw,Option.toList,Ay,Az,Tryz.f66,hf1,hf2,hf3,hf4,hf5]
    refine WC.mono (Zc l[i] _) ?_
    rintro _ rfl
    cases hb2 : Ed l[i]
    · rw [hb2] at hp
      simp only [Am,Ab] at hp
      injection hp with hp; subst hp
      simp only [A3,A6,Bb,Bc,Cr,Bn,B4,C9,Cu,B5,Cs,Ct,Da,Bu,Be,Bo,Bp,A2,A9,Ba,A5,Dc,B6,Bm,Bh,A8,A4,Bi,Bg,Bf,Bq,Br,B9,Ca,Bv,C0,Cz,C1,A0,A1,C2,Dd,ofOpt,ofOptS,Bw,Dh,Di,Cj,Cl,Bk,Bl,C4,Bj,Df,A7,Bd,Cm,Cn,Co,Cp,Cq,B3,B1,Nat.reduceLT,Nat.reduceAdd,Nat.reduceEqDiff,Aa,Ab,reduceIte,Ac,Ad,Ae,Af,Ag,Ah,Ai,Aj,Ak,Al,Am,Ao,Ap,Aq,Ar,Au,Av,Aw,Option.toList,Ay,Az,Tryz.f66,hf1,hf2,hf3,hf4,hf5]
      refine WC.mono (sign_w l i (by omega) _) ?_
      rintro _ ⟨S2, rfl, hk⟩
      obtain ⟨q1, q2, q3⟩ := fin S2 hk (Oa (l.drop i) i).1
      simp only [A3,A6,Bb,Bc,Cr,Bn,B4,C9,Cu,B5,Cs,Ct,Da,Bu,Be,Bo,Bp,A2,A9,Ba,A5,Dc,B6,Bm,Bh,A8,A4,Bi,Bg,Bf,Bq,Br,B9,Ca,Bv,C0,Cz,C1,A0,A1,C2,Dd,ofOpt,ofOptS,Bw,Dh,Di,Cj,Cl,Bk,Bl,C4,Bj,Df,A7,Bd,Cm,Cn,Co,Cp,Cq,B3,B1,Nat.reduceLT,Nat.reduceAdd,Nat.reduceEqDiff,Aa,Ab,reduceIte,Ac,Ad,Ae,Af,Ag,Ah,Ai,Aj,Ak,Al,Am,Ao,Ap,Aq,Ar,Au,Av,Aw,Option.toList,Ay,Az,Tryz.f66,Cb,q1,q2]
      exact ⟨_, rfl, q3⟩
    · rw [hb2] at hp
      simp only [Aa] at hp
      simp only [A3,A6,Bb,Bc,Cr,Bn,B4,C9,Cu,B5,Cs,Ct,Da,Bu,Be,Bo,Bp,A2,A9,Ba,A5,Dc,B6,Bm,Bh,A8,A4,Bi,Bg,Bf,Bq,Br,B9,Ca,Bv,C0,Cz,C1,A0,A1,C2,Dd,ofOpt,ofOptS,Bw,Dh,Di,Cj,Cl,Bk,Bl,C4,Bj,Df,A7,Bd,Cm,Cn,Co,Cp,Cq,B3,B1,Nat.reduceLT,Nat.reduceAdd,Nat.reduceEqDiff,Aa,Ab,reduceIte,Ac,Ad,Ae,Af,Ag,Ah,Ai,Aj,Ak,Al,Am,Ao,Ap,Aq,Ar,Au,Av,Aw,Option.toList,Ay,Az,Tryz.f66,hf1,hf2,hf3,hf4,hf5]
      refine WC.mono (lR l hl i hi hb2 _ p hp) ?_
      rintro _ ⟨S2, rfl, hk⟩
      obtain ⟨q1, q2, q3⟩ := fin S2 hk p.1
      simp only [A3,A6,Bb,Bc,Cr,Bn,B4,C9,Cu,B5,Cs,Ct,Da,Bu,Be,Bo,Bp,A2,A9,Ba,A5,Dc,B6,Bm,Bh,A8,A4,Bi,Bg,Bf,Bq,Br,B9,Ca,Bv,C0,Cz,C1,A0,A1,C2,Dd,ofOpt,ofOptS,Bw,Dh,Di,Cj,Cl,Bk,Bl,C4,Bj,Df,A7,Bd,Cm,Cn,Co,Cp,Cq,B3,B1,Nat.reduceLT,Nat.reduceAdd,Nat.reduceEqDiff,Aa,Ab,reduceIte,Ac,Ad,Ae,Af,Ag,Ah,Ai,Aj,Ak,Al,Am,Ao,Ap,Aq,Ar,Au,Av,Aw,Option.toList,Ay,Az,Tryz.f66,Cb,q1,q2]
      exact ⟨_, rfl, q3⟩
  · rw [hb] at hp
    simp only [Aa] at hp
    injection hp with hp; subst hp
    simp only [A3,A6,Bb,Bc,Cr,Bn,B4,C9,Cu,B5,Cs,Ct,Da,Bu,Be,Bo,Bp,A2,A9,Ba,A5,Dc,B6,Bm,Bh,A8,A4,Bi,Bg,Bf,Bq,Br,B9,Ca,Bv,C0,Cz,C1,A0,A1,C2,Dd,ofOpt,ofOptS,Bw,Dh,Di,Cj,Cl,Bk,Bl,C4,Bj,Df,A7,Bd,Cm,Cn,Co,Cp,Cq,B3,B1,Nat.reduceLT,Nat.reduceAdd,Nat.reduceEqDiff,Aa,Ab,reduceIte,Ac,Ad,Ae,Af,Ag,Ah,Ai,Aj,Ak,Al,Am,Ao,Ap,Aq,Ar,Au,Av,Aw,Option.toList,Ay,Az,Tryz.f66,hf1,hf2,hf3,hf4,hf5]
    refine WC.mono (word_w l hl i (by omega) _) ?_
    rintro _ ⟨S2, rfl, hk⟩
    obtain ⟨q1, q2, q3⟩ := fin S2 hk (Mg (l.drop i) i).1
    simp only [A3,A6,Bb,Bc,Cr,Bn,B4,C9,Cu,B5,Cs,Ct,Da,Bu,Be,Bo,Bp,A2,A9,Ba,A5,Dc,B6,Bm,Bh,A8,A4,Bi,Bg,Bf,Bq,Br,B9,Ca,Bv,C0,Cz,C1,A0,A1,C2,Dd,ofOpt,ofOptS,Bw,Dh,Di,Cj,Cl,Bk,Bl,C4,Bj,Df,A7,Bd,Cm,Cn,Co,Cp,Cq,B3,B1,Nat.reduceLT,Nat.reduceAdd,Nat.reduceEqDiff,Aa,Ab,reduceIte,Ac,Ad,Ae,Af,Ag,Ah,Ai,Aj,Ak,Al,Am,Ao,Ap,Aq,Ar,Au,Av,Aw,Option.toList,Ay,Az,Tryz.f66,Cb,q1,q2]
    exact ⟨_, rfl, q3⟩
end Go.Ax
