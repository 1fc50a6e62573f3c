/-
  Layer 20: what is to be answered; the surroundings.
-/
import Derived.Test.YtbchlfdjedbfhaaDoorWG9
import Derived.Lib.ItoaLen
import Derived.Lib.Join
import Derived.Lib.AppendIntMem
import Derived.Lib.Bytealg
import Derived.Lib.ParseIntB
import Derived.Test.YtbchlfdjedbfhaaDoorAxShelf
import Derived.Lib.AtoiErrMem
import Derived.IntWalk
set_option linter.unusedVariables false
set_option linter.unusedSimpArgs false
set_option maxHeartbeats 16000000
noncomputable section
namespace Go.Ax
open Go.RowKit Go.Proofs
set_option linter.unusedVariables false
set_option linter.unusedSimpArgs false
set_option maxRecDepth 100000
theorem rowT_of {P : Program} {t e sz : Nat} (h1 : elemT P t = some (none, e)) (h2 : P.underlying t = some (.slice e)) (h3 : (P.info? e).map (fun i => (i.zero.map fun z => z.cells.size, i.size, decide (i.bytes ≤ 1000))) = some (some sz, sz, true)) (h4 : 0 < sz) : ∃ bytes, RowT P t e sz bytes := by
  cases hi : P.info? e with
  | none => rw [hi] at h3; cases h3
  | some i =>
    rw [hi] at h3
    simp only [Option.map_some, Option.some.injEq, Prod.mk.injEq] at h3
    obtain ⟨h5, h6, h7⟩ := h3
    cases hz : i.zero with
    | none => rw [hz] at h5; cases h5
    | some z =>
      rw [hz] at h5
      simp only [Option.map_some, Option.some.injEq] at h5
      exact ⟨i.bytes, h1, h2, ⟨i, z, hi, hz, by rw [h5, h6], h6, rfl⟩, h4, of_decide_eq_true h7⟩
/-- What lies at the variables: the powers of ten, and that strconv.ErrRange holds a pointer. -/
def powG : List AV := Lib.pow10Tab.map fun z => .v (.int .u64 z)
def gZ : Gl := fun g => Bool.rec (Bool.rec none (some powG) (Nat.beq g 3)) (some [.iface 143 (.ep [])]) (Nat.beq g 5)
theorem gnot (f : T AV) (S : St) (dst : Option Tmp) (k : Tmp) (ty : TypeId) (pos : String) (af : Array Edge) (gd : Option (Nat × Bool)) :
    ground Tryd.prog gZ f S { dst := dst, op := .unOp .not 4 (.tmp k), type := ty, pos := pos, after := af, guard := gd } = notO (groundX Tryd.prog gZ f S { dst := dst, op := .unOp .not 4 (.tmp k), type := ty, pos := pos, after := af, guard := gd }) S (f.get k) := by
  unfold notO
  split
  · rename_i b h
    have hg : groundO gZ f (.tmp k) = some (.bool b) := by unfold groundO; simp only [evalO, h]; rfl
    unfold ground
    simp only [Op.operands, List.all_cons, List.all_nil, hg, Option.isSome_some, Bool.and_self, if_true]
    have e : execOp (fun x => (groundO gZ f x).getD undef) { dst := dst, op := .unOp .not 4 (.tmp k), type := ty, pos := pos, after := af, guard := gd } = execOp (fun _ => .bool b) { dst := dst, op := .unOp .not 4 (.tmp k), type := ty, pos := pos, after := af, guard := gd } := by
      simp only [execOp, hg, Option.getD_some]
    rw [e]
    cases b <;> rfl
  · rfl
theorem fb_strN (l m : List UInt8) : fastBin .neq (.v (.string ⟨⟨l⟩⟩)) (.v (.string ⟨⟨m⟩⟩)) = some (.v (.bool (!decide (l = m)))) := by
  have e := fb_eqS l m
  simp only [fastBin] at e ⊢
  simp only [Option.some.injEq, AV.v.injEq, Value.bool.injEq] at e ⊢
  rw [← e]
theorem fb_neqSx (l m : List UInt8) : fastBin .neq (.v (.string ⟨⟨l⟩⟩)) (.v (.string ⟨⟨m⟩⟩)) = some (.v (.bool (!decide (l = m)))) := fb_strN l m
/-- A text in parts, at each of a byte. -/
def splitB (c : UInt8) : List UInt8 → List (List UInt8)
  | [] => [[]]
  | b :: r => if b = c then [] :: splitB c r else match splitB c r with
    | [] => [[b]]
    | w :: ws => (b :: w) :: ws
def preB (cur : List UInt8) : List (List UInt8) → List (List UInt8)
  | [] => [cur]
  | w :: ws => (cur ++ w) :: ws
theorem preB_stop (c : UInt8) (cur r : List UInt8) : preB cur (splitB c (c :: r)) = cur :: splitB c r := by
  have e : splitB c (c :: r) = [] :: splitB c r := by rw [splitB, if_pos rfl]
  rw [e]; show (cur ++ []) :: _ = _; rw [List.append_nil]
theorem preB_go {b c : UInt8} (h : b ≠ c) (cur r : List UInt8) : preB cur (splitB c (b :: r)) = preB (cur ++ [b]) (splitB c r) := by
  rw [splitB, if_neg h]
  cases splitB c r with
  | nil => rfl
  | cons w ws => show (cur ++ b :: w) :: ws = (cur ++ [b] ++ w) :: ws; rw [List.append_assoc]; rfl
theorem preB_end (c : UInt8) (cur : List UInt8) : preB cur (splitB c []) = [cur] := by show [cur ++ []] = _; rw [List.append_nil]
/-- What digits spell, behind what was spelt. -/
def numV : Nat → List UInt8 → Nat
  | a, [] => a
  | a, d :: r => numV (a * 10 + (d.toNat - 48)) r
def digB (d : UInt8) : Bool := 48 ≤ d.toNat && d.toNat ≤ 57
/-- A number by tens: what it is, the error's number. -/
def numF (s : List UInt8) : Int × Nat :=
  let t := if s.head? = some 45 then s.drop 1 else s
  if t = [] ∨ (t.head? = some 48 ∧ s ≠ [48]) then (0, 1)
  else if t.all digB = false then (0, 1)
  else if s.head? = some 45 then (if numV 0 t ≤ 9223372036854775808 then (-(numV 0 t : Int), 0) else (0, 3))
  else (if numV 0 t ≤ 9223372036854775807 then ((numV 0 t : Int), 0) else (0, 3))
def valF (s : List UInt8) (truth : Bool) : Int × Nat :=
  if truth then (if s = [116, 114, 117, 101] then (1, 0) else if s = [102, 97, 108, 115, 101] then (0, 0) else (0, 1)) else numF s
/-- A row's words: the values, the error's number. -/
def rowsF : List Bool → List (List UInt8) → List Int × Nat
  | [], [] => ([], 0)
  | _ :: _, [] => ([], 12)
  | [], _ :: _ => ([], 12)
  | t :: ts, w :: ws => if (valF w t).2 = 0 then (if (rowsF ts ws).2 = 0 then ((valF w t).1 :: (rowsF ts ws).1, 0) else ([], (rowsF ts ws).2)) else ([], (valF w t).2)
def rowF (ts : List Bool) (l : List UInt8) : List Int × Nat :=
  if ts = [] then ([], if l = [46] then 0 else 1) else rowsF ts (splitB 32 l)
/-- The rows of lines: so many stand ahead, from the so-many-th line on. -/
def linesF (ts : List Bool) : Nat → Nat → List (List UInt8) → List (List Int) × Int × Nat
  | _, _, [] => ([], -1, 0)
  | k, n, l :: r => if l = [] then linesF ts (k + 1) n r
    else if n = 200 then ([], k, 14)
    else if (rowF ts l).2 = 0 then (if (linesF ts (k + 1) (n + 1) r).2.2 = 0 then ((rowF ts l).1 :: (linesF ts (k + 1) (n + 1) r).1, -1, 0) else linesF ts (k + 1) (n + 1) r)
    else ([], k, (rowF ts l).2)
def i64A (x : Int) : AV := .v (.int .i64 x)
def byteV (c : UInt8) : AV := .v (.int .u8 (c.toNat : Int))
/-- A declaration of a type. -/
def dcl (t : Bool) (a : AV) : Prop := ∃ nm at_ fu ck off, a = .agg [nm, at_, .v (.bool t), fu, ck, off]
def dcls : List Bool → List AV → Prop
  | [], [] => True
  | t :: ts, a :: r => dcl t a ∧ dcls ts r
  | _, _ => False
def isDcls (v : AV) (ts : List Bool) : Prop := (v = .nils ∧ ts = []) ∨ ∃ tok off es, v = .sl tok off 6 es ∧ dcls ts es
def rowVal (ts : List Bool) (x : List Int × Nat) : AV := if ts = [] ∨ x.2 ≠ 0 then .nils else .sl 0 0 1 (x.1.map i64A)
def SpSplit (args : List AV) (a : AV) : Prop := ∀ l c, args = [strS l, byteV c] → l.length ≤ 100000 → a = .sl 0 0 1 ((splitB c l).map strS)
def SpNum (args : List AV) (a : AV) : Prop := ∀ l, args = [strS l] → l.length ≤ 100000 → a = .tup [i64A (numF l).1, i64A (numF l).2]
def SpVal (args : List AV) (a : AV) : Prop := ∀ l t, args = [strS l, .v (.bool t)] → l.length ≤ 100000 → a = .tup [i64A (valF l t).1, i64A (valF l t).2]
def SpRow (args : List AV) (a : AV) : Prop := ∀ v ts l, args = [v, strS l] → isDcls v ts → ts.length ≤ 1000 → l.length ≤ 100000 → a = .tup [rowVal ts (rowF ts l), i64A (rowF ts l).2]
/-- A value's word. -/
def wordF (v : Int) (t : Bool) : List UInt8 := if t then (if v = 0 then [102, 97, 108, 115, 101] else [116, 114, 117, 101]) else Lib.itoa v
/-- The first words of a row as a line. -/
def lineTo (ts : List Bool) (vs : List Int) : Nat → List UInt8
  | 0 => []
  | j + 1 => (lineTo ts vs j ++ if j = 0 then [] else [32]) ++ wordF (vs.getD j 0) (ts.getD j false)
def lineF (ts : List Bool) (vs : List Int) : List UInt8 := if ts = [] then [46] else lineTo ts vs ts.length
def isInts (v : AV) (vs : List Int) : Prop := (v = .nils ∧ vs = []) ∨ (∃ tok off, v = .sl tok off 1 (vs.map i64A)) ∨ ∃ a, v = .v (.slice (some a) 0 0) ∧ vs = []
def okInts (vs : List Int) : Prop := ∀ x ∈ vs, -9223372036854775808 ≤ x ∧ x ≤ 9223372036854775807
def linesVal (ts : List Bool) (x : List (List Int) × Int × Nat) : AV := if x.2.2 ≠ 0 then .nils else .sl 0 0 1 (x.1.map fun r => rowVal ts (r, 0))
def SpLine (args : List AV) (a : AV) : Prop := ∀ v ts w vs, args = [v, w] → isDcls v ts → isInts w vs → okInts vs → ts.length ≤ 1000 → a = strS (lineF ts vs)
def SpParse (args : List AV) (a : AV) : Prop := ∀ a0 a1 v a3 a4 a5 ts l, args = [.agg [a0, a1, v, a3, a4, a5], strS l] → isDcls v ts → ts.length ≤ 1000 → l.length ≤ 100000 → a = .tup [linesVal ts (linesF ts 0 0 (splitB 10 l)), i64A (linesF ts 0 0 (splitB 10 l)).2.1, i64A (linesF ts 0 0 (splitB 10 l)).2.2]
def boolA (b : Bool) : AV := .v (.bool b)
def isBools (w : AV) (bs : List Bool) : Prop := (w = .nils ∧ bs = []) ∨ ∃ tok off, w = .sl tok off 1 (bs.map boolA)
def declT (b : Bool) : AV := .agg [strS [97], .v (.int .i64 0), .v (.bool b), .v (.bool false), strS [], .v (.bool false)]
def SpDecls (args : List AV) (a : AV) : Prop := ∀ w bs, args = [w] → isBools w bs → a = .sl 0 0 6 ((bs.take 5).map declT)
def SpOwn (args : List AV) (a : AV) : Prop := ∀ bs : List Bool, args = [.sl 0 0 6 (bs.map declT)] → bs.length ≤ 5 → a = .sl 0 0 6 (bs.map declT)
def SpSame (args : List AV) (a : AV) : Prop := ∀ x y xs ys, args = [x, y] → isInts x xs → isInts y ys → ys.length ≤ 100000 → a = i64A (if xs = ys then 0 else -1)
def rows20 : List AV → List (List Int) → Prop
  | [], [] => True
  | e :: es, r :: rs => isInts e r ∧ rows20 es rs
  | _, _ => False
def isRows (v : AV) (rows : List (List Int)) : Prop := (v = .nils ∧ rows = []) ∨ ∃ tok off es, v = .sl tok off 1 es ∧ rows20 es rows
def SpFeed (args : List AV) (a : AV) : Prop := ∀ (bs : List Bool) (l : List UInt8), args = [.agg [strS [], i64A 0, .sl 0 0 6 (bs.map declT), .nils, .nils, .nils], strS l] → bs.length ≤ 5 → l.length ≤ 100000 → ∃ v, a = .tup [v, i64A (linesF bs 0 0 (splitB 10 l)).2.1, i64A (linesF bs 0 0 (splitB 10 l)).2.2] ∧ isRows v (linesF bs 0 0 (splitB 10 l)).1
def SpFRow (args : List AV) (a : AV) : Prop := ∀ (bs : List Bool) w vs, args = [.sl 0 0 6 (bs.map declT), w] → bs.length ≤ 5 → isInts w vs → okInts vs → a = strS (lineF bs vs)
def SpAw (args : List AV) (a : AV) : Prop := args = [] → a = .v (.bool true)
/-- The values that a row of numbers gives of types. -/
def rowOf (ts : List Bool) (vs : List Int) : Nat → List Int
  | 0 => []
  | j + 1 => rowOf ts vs j ++ [if ts.getD j false then bits .and .i64 (vs.getD j 0) 1 else vs.getD j 0]
def SpLRow (args : List AV) (a : AV) : Prop := ∀ a0 a1 v a3 a4 a5 ts w vs, args = [.agg [a0, a1, v, a3, a4, a5], w] → isDcls v ts → isInts w vs → ts.length ≤ 1000 → a = .sl 0 0 1 ((rowOf ts vs ts.length).map i64A)
/-- Where a byte stands first. -/
def idxB (c : UInt8) (l : List UInt8) : Int := Lib.indexByte l c
def SpIdx (args : List AV) (a : AV) : Prop := ∀ l c, args = [strS l, strS [c]] → a = i64A (idxB c l)
def SpFmt (args : List AV) (a : AV) : Prop := ∀ n, args = [i64A n, i64A 10] → -9223372036854775808 ≤ n → n ≤ 9223372036854775807 → a = strS (Lib.itoa n)
def repB : Nat → List UInt8 → List UInt8
  | 0, _ => []
  | n + 1, l => l ++ repB n l
def SpRep (args : List AV) (a : AV) : Prop := ∀ l (n : Nat), args = [strS l, i64A (n : Int)] → l.length ≤ 1000 → n ≤ 1000 → a = strS (repB n l)
def SpTens (args : List AV) (a : AV) : Prop := ∀ l, args = [strS l] → l.length ≤ 100000 → a = .v (.bool (decide ((numF l).2 ≠ 1)))
def SpTrim (args : List AV) (a : AV) : Prop := ∀ l, args = [strS l, strS [45]] → l.length ≤ 100000 → a = strS (if l.head? = some 45 then l.drop 1 else l)
def SpTruth (args : List AV) (a : AV) : Prop := ∀ l, args = [strS l] → l.length ≤ 100000 → a = .tup [i64A (valF l true).1, i64A (valF l true).2]
def SpDVal (args : List AV) (a : AV) : Prop := ∀ (t : Bool) (l : List UInt8), args = [declT t, strS l] → l.length ≤ 100000 → a = .tup [i64A (valF l t).1, i64A (valF l t).2]
def SpRowO (args : List AV) (a : AV) : Prop := ∀ (bs : List Bool) (l : List UInt8), args = [.sl 0 0 6 (bs.map declT), strS l] → bs.length ≤ 5 → l.length ≤ 100000 → a = .tup [rowVal bs (rowF bs l), i64A (rowF bs l).2]
def dclU (d : AV) (t : Bool) : Prop := ∃ nm at_ fu ck off, d = .agg [nm, at_, .v (.bool t), fu, ck, off]
def SpWordO (args : List AV) (a : AV) : Prop := ∀ d t x, args = [d, i64A x] → dclU d t → -9223372036854775808 ≤ x → x ≤ 9223372036854775807 → a = strS (wordF x t)
def SpFB (args : List AV) (a : AV) : Prop := ∀ b, args = [.v (.bool b)] → a = strS (if b then [116, 114, 117, 101] else [102, 97, 108, 115, 101])
def SpPort (args : List AV) (a : AV) : Prop := ∀ d t w vs, args = [d, w] → dclU d t → isInts w vs → okInts vs → vs.length ≤ 1000 → a = strS (Lib.join (vs.map fun x => wordF x t) [32])
def SpecZ (k : FuncId) (args : List AV) (a : AV) : Prop := match k with
  | 45 => SpIdx args a
  | 36 => SpFmt args a
  | 19 => SpRep args a
  | 55 => SpTens args a
  | 65 => SpTrim args a
  | 46 => SpTruth args a
  | 47 => SpNum args a
  | 33 => SpDVal args a
  | 21 => SpRowO args a
  | 24 => SpWordO args a
  | 35 => SpFB args a
  | 18 => SpPort args a
  | 22 => SpSplit args a
  | 48 => SpNum args a
  | 34 => SpVal args a
  | 23 => SpRow args a
  | 16 => SpLine args a
  | 12 => SpParse args a
  | 9 => SpDecls args a
  | 11 => SpOwn args a
  | 13 => SpSame args a
  | 10 => SpFeed args a
  | 15 => SpFRow args a
  | 7 => SpAw args a
  | 14 => SpLRow args a
  | _ => False
def knz (k : Nat) : Bool := [22, 48, 34, 23, 16, 12, 9, 11, 13, 10, 15, 7, 14, 45, 36, 19, 55, 65, 46, 47, 33, 21, 24, 35, 18].any (Nat.beq k)
def strsOf : List AV → Option (List (List UInt8))
  | [] => some []
  | .v (.string s) :: r => match strsOf r with
    | some l => some (s.data.toList :: l)
    | none => none
  | _ => none
/-- strings.Join of a row of one's own. -/
def joinB (args : List AV) (S : St) : R := match args with
  | [.bs id 0 n 1, .v (.string s)] => match S.mem.get id with
    | some (.box cs) => match strsOf cs with
      | some ws => if ws.length = n ∧ n ≤ 1000000 ∧ (Lib.join ws s.data.toList).length ≤ 1000000000 then .ret (strS (Lib.join ws s.data.toList)) S else .fail
      | none => .fail
    | _ => .fail
  | [.sl _ _ 1 es, .v (.string s)] => match strsOf es with
    | some ws => if ws.length ≤ 1000000 ∧ (Lib.join ws s.data.toList).length ≤ 1000000000 then .ret (strS (Lib.join ws s.data.toList)) S else .fail
    | none => .fail
  | _ => .fail
/-- strconv.ParseInt of a number's text. -/
def pintB (args : List AV) (S : St) : R := match args with
  | [.v (.string s), .v (.int .i64 10), .v (.int .i64 64)] => if s.size ≤ 100000 then (if (numF s.data.toList).2 = 0 then .ret (.tup [i64A (numF s.data.toList).1, .v .nilIface]) S else if (numF s.data.toList).2 = 3 then .ret (.tup [i64A (Lib.intSat 64 s.data.toList), .iface 132 (.ep [])]) S else .fail) else .fail
  | _ => .fail
def EZ : Env := { P := Tryd.prog, G := gZ, F := E1.F, I := fun k => Bool.rec (Bool.rec (Bool.rec none (some pintB) (Nat.beq k 56)) (some joinB) (Nat.beq k 17)) (some (pureG gZ Tryd.prog SpecZ k)) (knz k), M := fun _ => 0 }
theorem ez_P : EZ.P = Tryd.prog := _root_.id rfl
theorem ez_G : EZ.G = gZ := _root_.id rfl
theorem ez_F : EZ.F = E1.F := _root_.id rfl
theorem ez_M (t : TypeId) : EZ.M t = 0 := _root_.id rfl
theorem ez_ok : EZ.Ok := ⟨fun k fn h => e1_ok.fn k fn h⟩
theorem ez_mix : EZ.P.follows .mixedOrders = true := e1_mix
theorem ez_I {k : Nat} (h : knz k = true) : EZ.I k = some (pureG gZ Tryd.prog SpecZ k) := by
  show (Bool.rec (Bool.rec (Bool.rec none (some pintB) (Nat.beq k 56)) (some joinB) (Nat.beq k 17)) (some (pureG gZ Tryd.prog SpecZ k)) (knz k) : Option (List AV → St → R)) = _
  rw [h]
theorem ez_join : EZ.I 17 = some joinB := by
  show (Bool.rec (Bool.rec (Bool.rec none (some pintB) (Nat.beq 17 56)) (some joinB) (Nat.beq 17 17)) (some (pureG gZ Tryd.prog SpecZ 17)) (knz 17) : Option (List AV → St → R)) = _
  rw [show knz 17 = false from by decide]
  rfl
theorem ez_pint : EZ.I 56 = some pintB := by
  show (Bool.rec (Bool.rec (Bool.rec none (some pintB) (Nat.beq 56 56)) (some joinB) (Nat.beq 56 17)) (some (pureG gZ Tryd.prog SpecZ 56)) (knz 56) : Option (List AV → St → R)) = _
  rw [show knz 56 = false from by decide]
  rfl
end Go.Ax
noncomputable section
namespace Go.Ax
open Go.RowKit Go.Proofs
set_option linter.unusedVariables false
set_option linter.unusedSimpArgs false
set_option maxRecDepth 100000
theorem str_inj {l m : List UInt8} (h : strS l = strS m) : l = m := by
  unfold strS at h; simpa using h
theorem numV_ge : ∀ (l : List UInt8) (a : Nat), a ≤ numV a l
  | [], a => Nat.le_refl _
  | c :: r, a => by
    have := numV_ge r (a * 10 + (c.toNat - 48))
    show a ≤ numV (a * 10 + (c.toNat - 48)) r
    omega
theorem parseM_ok : ∀ (l : List UInt8) (a : Nat), l.all digB = true → numV a l < 18446744073709551616 → Lib.parseUintM (2 ^ 64 - 1) a l = .ok (numV a l)
  | [], a, _, _ => rfl
  | c :: r, a, hd, h => by
    rw [List.all_cons, Bool.and_eq_true] at hd
    have hc : 48 ≤ c.toNat ∧ c.toNat ≤ 57 := by have := hd.1; unfold digB at this; simpa using this
    have h1 : a * 10 + (c.toNat - 48) ≤ numV (a * 10 + (c.toNat - 48)) r := numV_ge r _
    have h2 : numV a (c :: r) = numV (a * 10 + (c.toNat - 48)) r := rfl
    rw [h2] at h ⊢
    unfold Lib.parseUintM
    rw [if_pos hc, if_neg (by omega), if_neg (by omega)]
    exact parseM_ok r _ hd.2 h
theorem parse_ok {l : List UInt8} (hn : l ≠ []) (hd : l.all digB = true) (h : numV 0 l < 18446744073709551616) : Lib.parseUintB 64 l = .ok (numV 0 l) := by
  unfold Lib.parseUintB; rw [if_neg hn]; exact parseM_ok l 0 hd h
theorem parseM_range : ∀ (l : List UInt8) (a : Nat), l.all digB = true → a < 18446744073709551616 → 18446744073709551616 ≤ numV a l → Lib.parseUintM (2 ^ 64 - 1) a l = .range
  | [], a, _, h1, h2 => absurd h1 (Nat.not_lt.2 h2)
  | c :: r, a, hd, h1, h => by
    rw [List.all_cons, Bool.and_eq_true] at hd
    have hc : 48 ≤ c.toNat ∧ c.toNat ≤ 57 := by have := hd.1; unfold digB at this; simpa using this
    have h2 : numV a (c :: r) = numV (a * 10 + (c.toNat - 48)) r := rfl
    rw [h2] at h
    unfold Lib.parseUintM
    rw [if_pos hc]
    by_cases h3 : 1844674407370955162 ≤ a
    · rw [if_pos h3]
    · rw [if_neg h3]
      by_cases h4 : 2 ^ 64 - 1 < a * 10 + (c.toNat - 48)
      · rw [if_pos h4]
      · rw [if_neg h4]
        exact parseM_range r _ hd.2 (by omega) h
theorem parse_range {l : List UInt8} (hn : l ≠ []) (hd : l.all digB = true) (h : 18446744073709551616 ≤ numV 0 l) : Lib.parseUintB 64 l = .range := by
  unfold Lib.parseUintB; rw [if_neg hn]; exact parseM_range l 0 hd (by decide) h
theorem VRL.three {γ : Gh} {w : World} {a b c : AV} {vs : List Value} (h : VRL γ w [a, b, c] vs) : ∃ x y z, vs = [x, y, z] ∧ VR γ w a x ∧ VR γ w b y ∧ VR γ w c z := by
  obtain ⟨h1, h2⟩ := h
  match vs, h1 with
  | [x, y, z], _ => exact ⟨x, y, z, rfl, h2 0 (by simp) (by simp), h2 1 (by simp) (by simp), h2 2 (by simp) (by simp)⟩
theorem strsOf_some : ∀ {es : List AV} {ws : List (List UInt8)}, strsOf es = some ws → es = ws.map strS
  | [], ws, h => by injection h with h; subst h; rfl
  | a :: r, ws, h => by
    unfold strsOf at h
    split at h
    · cases ‹_ :: _ = []›
    · rename_i s r' heq
      injection heq with e1 e2; subst e1; subst e2
      split at h
      · rename_i l hl
        injection h with h; subst h
        rw [strsOf_some hl]; rfl
      · cases h
    · cases h
theorem VRL.two' {γ : Gh} {w : World} {a b : AV} {vs : List Value} (h : VRL γ w [a, b] vs) : ∃ x y, vs = [x, y] ∧ VR γ w a x ∧ VR γ w b y := by
  obtain ⟨h1, h2⟩ := h
  match vs, h1 with
  | [x, y], _ => exact ⟨x, y, rfl, h2 0 (by simp) (by simp), h2 1 (by simp) (by simp)⟩
theorem flat_strS (ws : List (List UInt8)) : flat (ws.map strS) = ws.map strS := by
  induction ws with
  | nil => rfl
  | cons a r ih =>
    have : flat (strS a :: r.map strS) = strS a :: flat (r.map strS) := rfl
    rw [List.map_cons, this, ih]
theorem get_eq {l m : List AV} (h : l = m) (k : Nat) (h1 : k < l.length) : l[k] = m[k]'(h ▸ h1) := by subst h; rfl
theorem powG_len : powG.length = 20 := by unfold powG; rw [List.length_map, Lib.pow10Tab_length]
theorem gPowZ : Tryd.prog.globalNamed "internal/strconv.uint64pow10" = some 3 := by kernel_rfl
theorem tab_of {γ : Gh} {w : World} (h : GR γ w gZ) : Lib.TabIs Tryd.prog w "internal/strconv.uint64pow10" .u64 Lib.pow10Tab := by
  obtain ⟨h1, h2⟩ := h 3 powG rfl
  obtain ⟨arr, T, fr, ha, hs⟩ := h2 (by rw [powG_len]; omega)
  unfold Lib.TabIs World.var?
  rw [gPowZ]
  simp only [Option.bind_some, ha]
  congr 1
  rw [powG_len] at hs
  apply Array.ext
  · simp [hs, Lib.pow10Tab_length]
  · intro i hi1 hi2
    cases h1 with
    | ep cs b o c hc h3 hr =>
      have hi : i < powG.length := by rw [powG_len]; omega
      have e1 := (hc i hi).2
      have e2 := hr i hi
      rw [Nat.zero_add, cells_at ha, Array.getElem?_eq_getElem hi1] at e1
      injection e1 with e1
      have e3 : powG[i] = .v (.int .u64 (Lib.pow10Tab[i]'(by rw [Lib.pow10Tab_length]; omega))) := by simp [powG]
      rw [e3, ← e1] at e2
      have : ∀ {z : Int} {v : Value}, VR γ w (.v (.int .u64 z)) v → v = .int .u64 z := fun h => by cases h; rfl
      rw [this e2]
      simp
theorem ep_pt {γ : Gh} {w : World} {a : AV} {v : Value} (h : VR γ w (.iface 143 a) v) : ∃ p, v = .iface 143 p := by
  cases h with
  | iface t a x h => exact ⟨x, rfl⟩
theorem gZ_cell {γ : Gh} {w : World} (h : GR γ w gZ) : ∃ p, w.cell? ⟨5, 0, none⟩ = some (.iface 143 p) := by
  have := (h 5 _ rfl).1
  cases this with
  | ep cs b o c h h1 hr =>
    have h2 := (h 0 (by simp)).2
    have h3 := hr 0 (by simp)
    simp only [List.getElem_cons_zero, Nat.add_zero] at h2 h3
    obtain ⟨p, hp⟩ := ep_pt h3
    exact ⟨p, by rw [h2, hp]⟩
theorem vr_drop0 {γ : Gh} {w : World} {x : Value} (hs : scalar x = true) {v : Value} (h : VR γ w (.v x) v) : VR ⟨fun _ => none, γ.im⟩ w (.v x) v := by
  cases h; exact .v _ hs
theorem powG_v (k : Nat) (h : k < powG.length) : ∃ z : Int, powG[k] = .v (.int .u64 z) := by
  unfold powG
  exact ⟨_, List.getElem_map ..⟩
theorem gZ_drop {γ : Gh} {w : World} (hg : GR γ w gZ) : GR ⟨fun _ => none, γ.im⟩ w gZ := by
  intro g cs h
  have h0 := h
  unfold gZ at h
  cases hb : Nat.beq g 5 with
  | true =>
    have : g = 5 := Nat.eq_of_beq_eq_true hb
    subst this
    rw [hb] at h
    injection h with h; subst h
    refine ⟨?_, fun h2 => absurd h2 (by simp)⟩
    have := (hg 5 _ h0).1
    cases this with
    | ep _ b o c h1 h2 hr =>
      refine .ep _ _ _ c h1 h2 (fun k hk => ?_)
      have hk0 : k = 0 := by simp at hk; exact hk
      subst hk0
      have h3 := hr 0 (by simp)
      simp only [List.getElem_cons_zero] at h3 ⊢
      generalize c 0 = z at h3
      cases h3 with
      | iface t a x h4 =>
        refine .iface _ _ _ ?_
        cases h4 with
        | ep _ b o c h1 h2 hr => exact .ep _ _ _ c (fun k hk => absurd hk (Nat.not_lt_zero k)) h2 (fun k hk => absurd hk (Nat.not_lt_zero k))
  | false =>
    rw [hb] at h
    cases hb2 : Nat.beq g 3 with
    | false => rw [hb2] at h; cases h
    | true =>
      have : g = 3 := Nat.eq_of_beq_eq_true hb2
      subst this
      rw [hb2] at h
      injection h with h; subst h
      refine ⟨?_, (hg 3 _ h0).2⟩
      have := (hg 3 _ h0).1
      cases this with
      | ep _ b o c h1 h2 hr =>
        refine .ep _ _ _ c h1 h2 (fun k hk => ?_)
        have h3 := hr k hk
        obtain ⟨z, hz⟩ := powG_v k hk
        rw [hz] at h3 ⊢
        exact vr_drop0 rfl h3
theorem pureQ_of {w w' : World} {im : Nat → Nat → Prop} (him : ∀ b o, im b o → ∃ v, w.cell? ⟨b, o, none⟩ = some v) {a : AV} {v : Value} (hb : Below w.heap.size w w') (hv : ∀ γ w, VR γ w a v) : PureQ w im a (.returned v) w' :=
  ⟨v, ⟨fun _ => none, im⟩, rfl, hb, fun b o h => by obtain ⟨v, hv⟩ := him b o h; exact ⟨v, (hb.cell (World.block_lt_of_cell? w _ hv)).trans hv⟩, fun _ _ _ h => h, fun _ _ => hv _ _⟩
theorem knIdx (l : List UInt8) (c : UInt8) : ∃ a, KnG gZ Tryd.prog SpecZ 45 [strS l, strS [c]] a := by
  refine ⟨i64A (idxB c l), rfl, rfl, fun w im him hg vs hv => ?_, fun l' c' e => ?_⟩
  · obtain ⟨x, y, rfl, hx, hy⟩ := hv.two'
    cases hx; cases hy
    refine (Tryd.strings_Index_one ⟨⟨l⟩⟩ c w).mono fun e w' he => ?_
    obtain ⟨rfl, rfl⟩ := he
    exact pureQ_of him (.refl _ _) fun _ _ => .v _ rfl
  · simp only [List.cons.injEq, and_true] at e
    rw [str_inj e.1, (List.cons.inj (str_inj e.2)).1]
theorem knFmt (n : Int) (h0 : -9223372036854775808 ≤ n) (h1 : n ≤ 9223372036854775807) : ∃ a, KnG gZ Tryd.prog SpecZ 36 [i64A n, i64A 10] a := by
  refine ⟨strS (Lib.itoa n), rfl, rfl, fun w im him hg vs hv => ?_, fun n' e _ _ => ?_⟩
  · obtain ⟨x, y, rfl, hx, hy⟩ := hv.two'
    cases hx; cases hy
    refine (Tryd.strconv_FormatInt_10 n h0 h1 w (tab_of hg)).mono fun e w' he => ?_
    obtain ⟨rfl, k, os, rfl⟩ := he
    exact pureQ_of him (Lib.below_grow _ w (Nat.le_refl _) k os) fun _ _ => .v _ rfl
  · simp only [List.cons.injEq, and_true, i64A, AV.v.injEq, Value.int.injEq, true_and] at e
    rw [e]
theorem rep_is (l : List UInt8) : ∀ n, Lib.repeatL l n = repB n l
  | 0 => rfl
  | n + 1 => by rw [repB, ← rep_is l n]; rfl
theorem rep_len (l : List UInt8) : ∀ n, (repB n l).length = n * l.length
  | 0 => by simp [repB]
  | n + 1 => by rw [repB, List.length_append, rep_len l n, Nat.add_mul]; omega
theorem knRep (l : List UInt8) (n : Nat) (hl : l.length ≤ 1000) (hn : n ≤ 1000) : ∃ a, KnG gZ Tryd.prog SpecZ 19 [strS l, i64A (n : Int)] a := by
  refine ⟨strS (repB n l), rfl, rfl, fun w im him hg vs hv => ?_, fun l' n' e _ _ => ?_⟩
  · obtain ⟨x, y, rfl, hx, hy⟩ := hv.two'
    cases hx; cases hy
    have hs : (⟨⟨l⟩⟩ : ByteArray).size = l.length := rfl
    have hm : l.length * n ≤ 1000 * 1000 := Nat.mul_le_mul hl hn
    refine (Tryd.strings_Repeat ⟨⟨l⟩⟩ n w (by omega) (by rw [hs]; omega)).mono fun e w' he => ?_
    obtain ⟨rfl, hb⟩ := he
    rw [rep_is]
    exact pureQ_of him hb fun _ _ => .v _ rfl
  · simp only [List.cons.injEq, and_true, i64A, AV.v.injEq, Value.int.injEq, true_and] at e
    rw [str_inj e.1, show n = n' from by omega]
theorem pint_is (l : List UInt8) : ((numF l).2 = 0 → Lib.parseIntB 64 l = .ok (numF l).1) ∧ ((numF l).2 = 3 → Lib.parseIntB 64 l = .range) := by
  cases l with
  | nil => exact ⟨fun h => absurd h (show (1 : Nat) ≠ 0 by decide), fun h => absurd h (show (1 : Nat) ≠ 3 by decide)⟩
  | cons c r =>
    unfold numF
    simp only [List.head?_cons, Option.some.injEq, List.drop_one, List.tail_cons]
    unfold Lib.parseIntB
    simp only
    by_cases hc : c = 45
    · subst hc
      rw [if_pos rfl]
      have e1 : ((45 : UInt8).toNat = 43 ∨ (45 : UInt8).toNat = 45) := .inr rfl
      rw [if_pos e1]
      by_cases h1 : r = [] ∨ (r.head? = some 48 ∧ (45 : UInt8) :: r ≠ [48])
      · rw [if_pos h1]; exact ⟨fun h => absurd h (show (1 : Nat) ≠ 0 by decide), fun h => absurd h (show (1 : Nat) ≠ 3 by decide)⟩
      · rw [if_neg h1]
        cases hd : r.all digB with
        | false => rw [if_pos rfl]; exact ⟨fun h => absurd h (show (1 : Nat) ≠ 0 by decide), fun h => absurd h (show (1 : Nat) ≠ 3 by decide)⟩
        | true =>
          rw [if_neg (by decide), if_pos rfl]
          have hr : r ≠ [] := fun e => h1 (.inl e)
          have en : ((45 : UInt8).toNat = 45) = True := eq_true rfl
          by_cases h2 : numV 0 r ≤ 9223372036854775808
          · rw [if_pos h2, parse_ok hr hd (by omega)]
            refine ⟨fun _ => ?_, fun h => absurd h (show (0 : Nat) ≠ 3 by decide)⟩
            simp only [en, not_true, false_and, if_false, true_and, if_true]
            rw [if_neg (by omega)]
          · rw [if_neg h2]
            refine ⟨fun h => absurd h (show (3 : Nat) ≠ 0 by decide), fun _ => ?_⟩
            by_cases h3 : numV 0 r < 18446744073709551616
            · rw [parse_ok hr hd h3]
              simp only [en, not_true, false_and, if_false, true_and]
              rw [if_pos (by omega)]
            · rw [parse_range hr hd (by omega)]
    · rw [if_neg hc]
      by_cases h1 : c :: r = [] ∨ ((c :: r).head? = some 48 ∧ c :: r ≠ [48])
      · rw [if_pos h1]; exact ⟨fun h => absurd h (show (1 : Nat) ≠ 0 by decide), fun h => absurd h (show (1 : Nat) ≠ 3 by decide)⟩
      · rw [if_neg h1]
        cases hd : (c :: r).all digB with
        | false => rw [if_pos rfl]; exact ⟨fun h => absurd h (show (1 : Nat) ≠ 0 by decide), fun h => absurd h (show (1 : Nat) ≠ 3 by decide)⟩
        | true =>
          rw [if_neg (by decide), if_neg hc]
          have hcd : 48 ≤ c.toNat ∧ c.toNat ≤ 57 := by
            rw [List.all_cons, Bool.and_eq_true] at hd
            have := hd.1; unfold digB at this; simpa using this
          have e1 : ¬ (c.toNat = 43 ∨ c.toNat = 45) := by omega
          rw [if_neg e1]
          have en : (c.toNat = 45) = False := eq_false (by omega)
          have hne : c :: r ≠ [] := by simp
          by_cases h2 : numV 0 (c :: r) ≤ 9223372036854775807
          · rw [if_pos h2, parse_ok hne hd (by omega)]
            refine ⟨fun _ => ?_, fun h => absurd h (show (0 : Nat) ≠ 3 by decide)⟩
            simp only [en, not_false_iff, true_and, false_and, if_false]
            rw [if_neg (by omega)]
          · rw [if_neg h2]
            refine ⟨fun h => absurd h (show (3 : Nat) ≠ 0 by decide), fun _ => ?_⟩
            by_cases h3 : numV 0 (c :: r) < 18446744073709551616
            · rw [parse_ok hne hd h3]
              simp only [en, not_false_iff, true_and]
              rw [if_pos (by omega)]
            · rw [parse_range hne hd (by omega)]
theorem numF_cases (l : List UInt8) : (numF l).2 = 0 ∨ (numF l).2 = 1 ∨ (numF l).2 = 3 := by
  unfold numF
  simp only
  generalize (if l.head? = some 45 then l.drop 1 else l) = t
  by_cases h1 : t = [] ∨ (t.head? = some 48 ∧ l ≠ [48])
  · rw [if_pos h1]; exact .inr (.inl rfl)
  · rw [if_neg h1]
    by_cases h2 : t.all digB = false
    · rw [if_pos h2]; exact .inr (.inl rfl)
    · rw [if_neg h2]
      by_cases h3 : l.head? = some 45
      · rw [if_pos h3]
        by_cases h4 : numV 0 t ≤ 9223372036854775808
        · rw [if_pos h4]; exact .inl rfl
        · rw [if_neg h4]; exact .inr (.inr rfl)
      · rw [if_neg h3]
        by_cases h4 : numV 0 t ≤ 9223372036854775807
        · rw [if_pos h4]; exact .inl rfl
        · rw [if_neg h4]; exact .inr (.inr rfl)
theorem pintB_ok (base : Nat) (w0 : World) (args : List AV) (S : St) (hne : pintB args S ≠ .fail) (γ : Gh) (w : World) (vs : List Value) (hS : SR base w0 γ S w) (hg : GR γ w gZ) (hv : VRL γ w args vs) : Calls Tryd.prog 56 vs.toArray w (RetOk base w0 γ S w (pintB args S)) := by
  unfold pintB at hne ⊢
  split at hne
  · rename_i s
    split at hne
    case isFalse => exact absurd rfl hne
    rename_i hl
    rw [if_pos hl]
    obtain ⟨x, y, z, rfl, hx, hy, hz⟩ := hv.three
    cases hx; cases hy; cases hz
    split at hne
    · rename_i h0
      rw [if_pos h0]
      refine (Tryd.strconv_ParseInt_10_at64_ok s (by omega) _ ((pint_is s.data.toList).1 h0) w).mono fun e w' he => ?_
      obtain ⟨rfl, he⟩ := he
      have hb : Below w.heap.size w w' := by
        rcases he with rfl | ⟨t, rfl⟩
        · exact .refl _ _
        · exact Lib.bytesWorld_below _ _ _
      obtain ⟨q1, q2⟩ := hS.after hb
      exact ⟨γ, _, q1, q2, .tup _ _ rfl (fun k hk hk' => by
          match k, hk with
          | 0, _ => exact .v _ rfl
          | 1, _ => exact .v _ rfl), rfl⟩
    · rename_i h0
      rw [if_neg h0]
      split at hne
      case isFalse => exact absurd rfl hne
      rename_i h3
      rw [if_pos h3]
      obtain ⟨p, hp⟩ := gZ_cell hg
      refine (Tryd.strconv_ParseInt_10_at64_range s (by omega) ((pint_is s.data.toList).2 h3) _ w hp (.inr ⟨_, _, rfl⟩)).mono fun e w' he => ?_
      obtain ⟨N, rfl, he2, he3, he4⟩ := he
      obtain ⟨q1, q2⟩ := hS.after he4
      exact ⟨γ, _, q1, q2, .tup _ _ rfl (fun k hk hk' => by
          match k, hk with
          | 0, _ => exact .v _ rfl
          | 1, _ => exact .iface _ _ _ (.ep [] N 0 (fun _ => undef) (fun k h => absurd h (Nat.not_lt_zero k)) (fun _ h => absurd h List.not_mem_nil) (fun k h => absurd h (Nat.not_lt_zero k)))), rfl⟩
  · exact absurd rfl hne
theorem joinB_ok (base : Nat) (w0 : World) (args : List AV) (S : St) (hne : joinB args S ≠ .fail) (γ : Gh) (w : World) (vs : List Value) (hS : SR base w0 γ S w) (hv : VRL γ w args vs) : Calls Tryd.prog 17 vs.toArray w (RetOk base w0 γ S w (joinB args S)) := by
  have fin : ∀ (b o cap : Nat) (s : ByteArray) (ws : List (List UInt8)), b < w.heap.size → ws.length ≤ 1000000 → ws.length ≤ cap → (Lib.join ws s.data.toList).length ≤ 1000000000 → (∀ (j : Nat) x, ws[j]? = some x → w.cell? ⟨b, o + j, none⟩ = some (.string ⟨⟨x⟩⟩)) →
      Calls Tryd.prog 17 #[.slice (some ⟨b, o, none⟩) ws.length cap, .string s] w (RetOk base w0 γ S w (.ret (strS (Lib.join ws s.data.toList)) S)) := fun b o cap s ws hbk hn hcap hlen hc => by
    have hcell : ∀ (j : Nat) (x : ByteArray), (ws.map (fun l => (⟨⟨l⟩⟩ : ByteArray)))[j]? = some x → w.cell? ⟨b, o + j, none⟩ = some (.string x) := fun j x hj => by
      rw [List.getElem?_map] at hj
      cases hw : ws[j]? with
      | none => rw [hw] at hj; cases hj
      | some l => rw [hw] at hj; injection hj with hj; subst hj; exact hc j l hw
    have hJ : (ws.map (fun l => (⟨⟨l⟩⟩ : ByteArray))).map (·.data.toList) = ws := by rw [List.map_map]; exact (List.map_congr_left (fun _ _ => rfl)).trans (List.map_id _)
    have := Tryd.strings_Join b o cap (ws.map (fun l => (⟨⟨l⟩⟩ : ByteArray))) s w hcell hbk (by rw [List.length_map]; omega) (by rw [List.length_map]; omega) (by rw [hJ]; omega)
    rw [hJ, List.length_map] at this
    refine this.mono fun e w' he => ?_
    obtain ⟨rfl, hb⟩ := he
    obtain ⟨q1, q2⟩ := hS.after hb
    exact ⟨γ, _, q1, q2, .v _ rfl, rfl⟩
  have str_of : ∀ {γ : Gh} {w : World} {l : List UInt8} {v : Value}, VR γ w (strS l) v → v = .string ⟨⟨l⟩⟩ := fun h => by cases h; rfl
  unfold joinB at hne ⊢
  split at hne
  · rename_i id n s
    cases hm : S.mem.get id with
    | none => rw [hm] at hne; exact absurd rfl hne
    | some c =>
      cases c with
      | tip m => rw [hm] at hne; exact absurd rfl hne
      | mp es => rw [hm] at hne; exact absurd rfl hne
      | box cs =>
        rw [hm] at hne
        simp only at hne ⊢
        cases hws : strsOf cs with
        | none => rw [hws] at hne; exact absurd rfl hne
        | some ws =>
          rw [hws] at hne
          simp only at hne ⊢
          split at hne
          case isFalse => exact absurd rfl hne
          rename_i hc
          rw [if_pos hc]
          obtain ⟨h1, h2, h3⟩ := hc
          obtain ⟨x, y, rfl, hx, hy⟩ := hv.two'
          cases hy
          cases hx with
          | bs _ _ _ _ b s2 cap hloc hcap hsz hb =>
            obtain ⟨b', s', l1, l2, l3⟩ := hS.live id _ hm
            rw [hloc] at l1; injection l1 with l1; injection l1 with l1 l4; subst l1; subst l4
            obtain ⟨hs0, _, _, arr, T, xs, ys, ha, hxy, hvr⟩ := l3
            subst hs0
            have he := strsOf_some hws
            subst he
            subst h1
            refine fin b (0 + 0) cap s ws (Array.getElem?_eq_some_iff.1 ha).1 h2 hcap h3 fun j z hj => ?_
            obtain ⟨hj1, hj2⟩ := List.getElem?_eq_some_iff.1 hj
            obtain ⟨u, hu, hvu⟩ := hvr.get (n := j) (b := strS z) (by rw [List.getElem?_map, hj]; rfl)
            rw [cells_at ha]
            have hu2 : arr[0 + 0 + j]? = some u := by
              rw [show 0 + 0 + j = j from by omega, ← Array.getElem?_toList, hxy, List.getElem?_append_left (List.getElem?_eq_some_iff.1 hu).1]; exact hu
            rw [hu2, str_of hvu]
  · rename_i tok off es s
    cases hws : strsOf es with
    | none => simp only [hws] at hne; exact absurd rfl hne
    | some ws =>
      simp only [hws] at hne ⊢
      split at hne
      case isFalse => exact absurd rfl hne
      rename_i hc
      rw [if_pos hc]
      obtain ⟨x, y, rfl, hx, hy⟩ := hv.two'
      cases hy
      have he := strsOf_some hws
      subst he
      cases hx with
      | sl _ _ _ _ b o cap c hsz hes h1 h2 hr ht hf hcap hb =>
        rw [flat_strS] at h2
        obtain ⟨arr, T, fr, ha, hle⟩ := hb
        have hl : (ws.map strS).length = ws.length := List.length_map ..
        rw [hl] at hcap ⊢
        refine fin b o cap s ws (Array.getElem?_eq_some_iff.1 ha).1 hc.1 hcap hc.2 fun j z hj => ?_
        obtain ⟨hj1, hj2⟩ := List.getElem?_eq_some_iff.1 hj
        have e1 := (h2 j (by rw [hl]; exact hj1)).2
        have e2 := hr j (by rw [flat_strS, hl]; exact hj1)
        have e3 : (flat (ws.map strS))[j]'(by rw [flat_strS, hl]; exact hj1) = strS ws[j] := by
          rw [get_eq (flat_strS ws) j, List.getElem_map]
        rw [e3, hj2] at e2
        rw [e1, str_of e2]
  · exact absurd rfl hne
theorem ez_intr : IntrOk EZ := fun k g hk base w0 args S hne γ w vs hS hg hv => by
  have hk2 : (Bool.rec (Bool.rec (Bool.rec none (some pintB) (Nat.beq k 56)) (some joinB) (Nat.beq k 17)) (some (pureG gZ Tryd.prog SpecZ k)) (knz k) : Option (List AV → St → R)) = some g := hk
  cases hb : knz k with
  | true =>
    rw [hb] at hk2
    injection hk2 with hk2; subst hk2
    exact pureG_ok gZ_drop base w0 args S hne γ w vs hS hg hv
  | false =>
    rw [hb] at hk2
    cases hc : Nat.beq k 17 with
    | false =>
      rw [hc] at hk2
      cases hd : Nat.beq k 56 with
      | false => rw [hd] at hk2; cases hk2
      | true =>
        rw [hd] at hk2
        injection hk2 with hk2; subst hk2
        have : k = 56 := Nat.eq_of_beq_eq_true hd
        subst this
        exact pintB_ok base w0 args S hne γ w vs hS hg hv
    | true =>
      rw [hc] at hk2
      injection hk2 with hk2; subst hk2
      have : k = 17 := Nat.eq_of_beq_eq_true hc
      subst this
      exact joinB_ok base w0 args S hne γ w vs hS hv
end Go.Ax
noncomputable section
namespace Go.Ax
open Go.RowKit Go.Proofs
set_option linter.unusedVariables false
set_option linter.unusedSimpArgs false
set_option maxRecDepth 100000
abbrev KnZ (k : FuncId) (args : List AV) : Prop := ∃ a, KnG gZ Tryd.prog SpecZ k args a
theorem bodyZ {k : FuncId} {args : List AV} (fn : Func) (hF : E1.F k = some fn) (hb : fn.body.isSome = true) (hl : args.length ≤ fn.ntmps)
    (h : W EZ fn.ntmps (fn.body.getD .skip) ⟨initT args 0, []⟩ St0 (finW EZ fn.results.toList (fun r => ∃ a S', r = .ret a S' ∧ freeV a = true ∧ SpecZ k args (clean a)))) : KnZ k args :=
  pureOfG ez_ok ez_intr ez_mix fn hF hb hl h
theorem callZ {k : FuncId} {args args' : List AV} {S : St} {Q : R → Prop} (hk : KnZ k args') (hkn : knz k = true) (hf : freeL args = true) (hc : cleanL args = args') (h : ∀ a, freeV a = true → clean a = a → SpecZ k args' a → Q (.ret a S)) : WC EZ k args S Q := by
  subst hc
  obtain ⟨a, ha, hka⟩ := pureG_is (P := Tryd.prog) (Spec := SpecZ) hf hk
  refine WC_known (ez_I hkn) ?_
  rw [ha S]
  exact h a hka.free hka.cln hka.spec
theorem yuS : Tryd.prog.underlying 44 = some (.slice 9) := by kernel_rfl
theorem yeS : elemT Tryd.prog 44 = some (none, 9) := by kernel_rfl
theorem yzeS : sizeT Tryd.prog 9 = some 1 := by kernel_rfl
theorem yiS : (Tryd.prog.info? 9).map (fun i => (i.zero.map fun z => z.cells.size, i.size, decide (i.bytes ≤ 1000))) = some (some 1, 1, true) := by kernel_rfl
theorem ytS : ∃ bytes, RowT Tryd.prog 44 9 1 bytes := rowT_of yeS yuS yiS (by decide)
theorem yrS_0 : oBuildSlice Tryd.prog 44 0 [] = some (.sl 1 0 1 []) := by kernel_rfl
theorem ynS (S : St) (tok off : Nat) (es : List AV) : oLen Tryd.prog S 44 (.sl tok off 1 es) = some es.length := by simp [oLen, yuS]
theorem ynnS (S : St) : oLen Tryd.prog S 44 .nils = some 0 := by simp [oLen, yuS]
theorem yxS (tok off : Nat) (es : List AV) (i : Nat) (h : i < es.length) : oIndexAddr Tryd.prog 44 (.sl tok off 1 es) (.v (.int .i64 (i : Int))) = some (.ep es[i].cells) := by
  have h0 : (0 : Int) ≤ (i : Int) := by omega
  simp [oIndexAddr, h0, yeS, yzeS, h]
theorem yuI : Tryd.prog.underlying 42 = some (.slice 2) := by kernel_rfl
theorem yeI : elemT Tryd.prog 42 = some (none, 2) := by kernel_rfl
theorem yzeI : sizeT Tryd.prog 2 = some 1 := by kernel_rfl
theorem yiI : (Tryd.prog.info? 2).map (fun i => (i.zero.map fun z => z.cells.size, i.size, decide (i.bytes ≤ 1000))) = some (some 1, 1, true) := by kernel_rfl
theorem ytI : ∃ bytes, RowT Tryd.prog 42 2 1 bytes := rowT_of yeI yuI yiI (by decide)
theorem yrI_0 : oBuildSlice Tryd.prog 42 0 [] = some (.sl 1 0 1 []) := by kernel_rfl
theorem ynI (S : St) (tok off : Nat) (es : List AV) : oLen Tryd.prog S 42 (.sl tok off 1 es) = some es.length := by simp [oLen, yuI]
theorem ynnI (S : St) : oLen Tryd.prog S 42 .nils = some 0 := by simp [oLen, yuI]
theorem yxI (tok off : Nat) (es : List AV) (i : Nat) (h : i < es.length) : oIndexAddr Tryd.prog 42 (.sl tok off 1 es) (.v (.int .i64 (i : Int))) = some (.ep es[i].cells) := by
  have h0 : (0 : Int) ≤ (i : Int) := by omega
  simp [oIndexAddr, h0, yeI, yzeI, h]
theorem yuD : Tryd.prog.underlying 25 = some (.slice 51) := by kernel_rfl
theorem yeD : elemT Tryd.prog 25 = some (none, 51) := by kernel_rfl
theorem yzeD : sizeT Tryd.prog 51 = some 6 := by kernel_rfl
theorem yiD : (Tryd.prog.info? 51).map (fun i => (i.zero.map fun z => z.cells.size, i.size, decide (i.bytes ≤ 1000))) = some (some 6, 6, true) := by kernel_rfl
theorem ytD : ∃ bytes, RowT Tryd.prog 25 51 6 bytes := rowT_of yeD yuD yiD (by decide)
theorem yrD_0 : oBuildSlice Tryd.prog 25 0 [] = some (.sl 1 0 6 []) := by kernel_rfl
theorem ynD (S : St) (tok off : Nat) (es : List AV) : oLen Tryd.prog S 25 (.sl tok off 6 es) = some es.length := by simp [oLen, yuD]
theorem ynnD (S : St) : oLen Tryd.prog S 25 .nils = some 0 := by simp [oLen, yuD]
theorem yxD (tok off : Nat) (es : List AV) (i : Nat) (h : i < es.length) : oIndexAddr Tryd.prog 25 (.sl tok off 6 es) (.v (.int .i64 (i : Int))) = some (.ep es[i].cells) := by
  have h0 : (0 : Int) ≤ (i : Int) := by omega
  simp [oIndexAddr, h0, yeD, yzeD, h]
theorem yuR : Tryd.prog.underlying 27 = some (.slice 42) := by kernel_rfl
theorem yeR : elemT Tryd.prog 27 = some (none, 42) := by kernel_rfl
theorem yzeR : sizeT Tryd.prog 42 = some 1 := by kernel_rfl
theorem yiR : (Tryd.prog.info? 42).map (fun i => (i.zero.map fun z => z.cells.size, i.size, decide (i.bytes ≤ 1000))) = some (some 1, 1, true) := by kernel_rfl
theorem ytR : ∃ bytes, RowT Tryd.prog 27 42 1 bytes := rowT_of yeR yuR yiR (by decide)
theorem yrR_0 : oBuildSlice Tryd.prog 27 0 [] = some (.sl 1 0 1 []) := by kernel_rfl
theorem ynR (S : St) (tok off : Nat) (es : List AV) : oLen Tryd.prog S 27 (.sl tok off 1 es) = some es.length := by simp [oLen, yuR]
theorem ynnR (S : St) : oLen Tryd.prog S 27 .nils = some 0 := by simp [oLen, yuR]
theorem yxR (tok off : Nat) (es : List AV) (i : Nat) (h : i < es.length) : oIndexAddr Tryd.prog 27 (.sl tok off 1 es) (.v (.int .i64 (i : Int))) = some (.ep es[i].cells) := by
  have h0 : (0 : Int) ≤ (i : Int) := by omega
  simp [oIndexAddr, h0, yeR, yzeR, h]
theorem yuB : Tryd.prog.underlying 22 = some (.slice 4) := by kernel_rfl
theorem yeB : elemT Tryd.prog 22 = some (none, 4) := by kernel_rfl
theorem yzeB : sizeT Tryd.prog 4 = some 1 := by kernel_rfl
theorem yiB : (Tryd.prog.info? 4).map (fun i => (i.zero.map fun z => z.cells.size, i.size, decide (i.bytes ≤ 1000))) = some (some 1, 1, true) := by kernel_rfl
theorem ytB : ∃ bytes, RowT Tryd.prog 22 4 1 bytes := rowT_of yeB yuB yiB (by decide)
theorem yrB_0 : oBuildSlice Tryd.prog 22 0 [] = some (.sl 1 0 1 []) := by kernel_rfl
theorem ynB (S : St) (tok off : Nat) (es : List AV) : oLen Tryd.prog S 22 (.sl tok off 1 es) = some es.length := by simp [oLen, yuB]
theorem ynnB (S : St) : oLen Tryd.prog S 22 .nils = some 0 := by simp [oLen, yuB]
theorem yxB (tok off : Nat) (es : List AV) (i : Nat) (h : i < es.length) : oIndexAddr Tryd.prog 22 (.sl tok off 1 es) (.v (.int .i64 (i : Int))) = some (.ep es[i].cells) := by
  have h0 : (0 : Int) ≤ (i : Int) := by omega
  simp [oIndexAddr, h0, yeB, yzeB, h]
theorem yuO : Tryd.prog.underlying 31 = some (.slice 56) := by kernel_rfl
theorem yeO : elemT Tryd.prog 31 = some (none, 56) := by kernel_rfl
theorem yzeO : sizeT Tryd.prog 56 = some 6 := by kernel_rfl
theorem yiO : (Tryd.prog.info? 56).map (fun i => (i.zero.map fun z => z.cells.size, i.size, decide (i.bytes ≤ 1000))) = some (some 6, 6, true) := by kernel_rfl
theorem ytO : ∃ bytes, RowT Tryd.prog 31 56 6 bytes := rowT_of yeO yuO yiO (by decide)
theorem yrO_0 : oBuildSlice Tryd.prog 31 0 [] = some (.sl 1 0 6 []) := by kernel_rfl
theorem ynO (S : St) (tok off : Nat) (es : List AV) : oLen Tryd.prog S 31 (.sl tok off 6 es) = some es.length := by simp [oLen, yuO]
theorem ynnO (S : St) : oLen Tryd.prog S 31 .nils = some 0 := by simp [oLen, yuO]
theorem yxO (tok off : Nat) (es : List AV) (i : Nat) (h : i < es.length) : oIndexAddr Tryd.prog 31 (.sl tok off 6 es) (.v (.int .i64 (i : Int))) = some (.ep es[i].cells) := by
  have h0 : (0 : Int) ≤ (i : Int) := by omega
  simp [oIndexAddr, h0, yeO, yzeO, h]
theorem ygE : isAggT Tryd.prog 51 = some true := by kernel_rfl
theorem yzE : sizeT Tryd.prog 51 = some 6 := by kernel_rfl
theorem ylE (S : St) (p k : Nat) : oLoad Tryd.prog S 51 (.ptr p k) = clN (S.mem.get p) k 6 := vldG ygE yzE S p k
theorem yleE (S : St) (cs : List AV) : oLoad Tryd.prog S 51 (.ep cs) = if 6 ≤ cs.length then some (.agg (cs.take 6)) else none := vldGE ygE yzE S cs
theorem ysE (S : St) (p k : Nat) (v : AV) : oStore Tryd.prog S 51 (.ptr p k) v = vstB S (S.mem.get p) p k v 6 := vstG yzE S p k v
theorem yaE (S : St) : oAlloc Tryd.prog S 51 = some (.ptr S.next 0, S.newBox [strS [], .v (.int .i64 0), .v (.bool false), .v (.bool false), strS [], .v (.bool false)]) := by kernel_rfl
theorem yfE_0 (p k : Nat) : oFieldAddr Tryd.prog 51 (.ptr p k) 0 = some (.ptr p (k + 0)) := by kernel_rfl
theorem yfE_1 (p k : Nat) : oFieldAddr Tryd.prog 51 (.ptr p k) 1 = some (.ptr p (k + 1)) := by kernel_rfl
theorem yfE_2 (p k : Nat) : oFieldAddr Tryd.prog 51 (.ptr p k) 2 = some (.ptr p (k + 2)) := by kernel_rfl
theorem yfE_3 (p k : Nat) : oFieldAddr Tryd.prog 51 (.ptr p k) 3 = some (.ptr p (k + 3)) := by kernel_rfl
theorem yfE_4 (p k : Nat) : oFieldAddr Tryd.prog 51 (.ptr p k) 4 = some (.ptr p (k + 4)) := by kernel_rfl
theorem yfE_5 (p k : Nat) : oFieldAddr Tryd.prog 51 (.ptr p k) 5 = some (.ptr p (k + 5)) := by kernel_rfl
theorem ygM : isAggT Tryd.prog 35 = some true := by kernel_rfl
theorem yzM : sizeT Tryd.prog 35 = some 6 := by kernel_rfl
theorem ylM (S : St) (p k : Nat) : oLoad Tryd.prog S 35 (.ptr p k) = clN (S.mem.get p) k 6 := vldG ygM yzM S p k
theorem yleM (S : St) (cs : List AV) : oLoad Tryd.prog S 35 (.ep cs) = if 6 ≤ cs.length then some (.agg (cs.take 6)) else none := vldGE ygM yzM S cs
theorem ysM (S : St) (p k : Nat) (v : AV) : oStore Tryd.prog S 35 (.ptr p k) v = vstB S (S.mem.get p) p k v 6 := vstG yzM S p k v
theorem yaM (S : St) : oAlloc Tryd.prog S 35 = some (.ptr S.next 0, S.newBox [strS [], .v (.int .i64 0), .nils, .nils, .nils, .nils]) := by kernel_rfl
theorem ygN : isAggT Tryd.prog 40 = some true := by kernel_rfl
theorem yzN : sizeT Tryd.prog 40 = some 6 := by kernel_rfl
theorem ylN (S : St) (p k : Nat) : oLoad Tryd.prog S 40 (.ptr p k) = clN (S.mem.get p) k 6 := vldG ygN yzN S p k
theorem yleN (S : St) (cs : List AV) : oLoad Tryd.prog S 40 (.ep cs) = if 6 ≤ cs.length then some (.agg (cs.take 6)) else none := vldGE ygN yzN S cs
theorem ysN (S : St) (p k : Nat) (v : AV) : oStore Tryd.prog S 40 (.ptr p k) v = vstB S (S.mem.get p) p k v 6 := vstG yzN S p k v
theorem yaN (S : St) : oAlloc Tryd.prog S 40 = some (.ptr S.next 0, S.newBox [strS [], .v (.int .i64 0), .nils, .nils, .nils, .nils]) := by kernel_rfl
theorem yfN_2 (p k : Nat) : oFieldAddr Tryd.prog 40 (.ptr p k) 2 = some (.ptr p (k + 2)) := by kernel_rfl
theorem yg2 : isAggT Tryd.prog 2 = some false := by kernel_rfl
theorem yle2 (S : St) (c : AV) (cs : List AV) : oLoad Tryd.prog S 2 (.ep (c :: cs)) = some c := vldSE yg2 S c cs
theorem yg25 : isAggT Tryd.prog 25 = some false := by kernel_rfl
theorem yle25 (S : St) (c : AV) (cs : List AV) : oLoad Tryd.prog S 25 (.ep (c :: cs)) = some c := vldSE yg25 S c cs
theorem yl2 (S : St) (p k : Nat) : oLoad Tryd.prog S 2 (.ptr p k) = cl1 (S.mem.get p) k := vldS yg2 S p k
theorem yg3 : isAggT Tryd.prog 3 = some false := by kernel_rfl
theorem yl3 (S : St) (p k : Nat) : oLoad Tryd.prog S 3 (.ptr p k) = cl1 (S.mem.get p) k := vldS yg3 S p k
theorem yg4 : isAggT Tryd.prog 4 = some false := by kernel_rfl
theorem yl4 (S : St) (p k : Nat) : oLoad Tryd.prog S 4 (.ptr p k) = cl1 (S.mem.get p) k := vldS yg4 S p k
theorem yg9 : isAggT Tryd.prog 9 = some false := by kernel_rfl
theorem yl9 (S : St) (p k : Nat) : oLoad Tryd.prog S 9 (.ptr p k) = cl1 (S.mem.get p) k := vldS yg9 S p k
theorem yl25 (S : St) (p k : Nat) : oLoad Tryd.prog S 25 (.ptr p k) = cl1 (S.mem.get p) k := vldS yg25 S p k
theorem yrS_1 (x : List UInt8) : oBuildSlice Tryd.prog 44 1 [(0, .v (.string ⟨⟨x⟩⟩))] = some (.sl 1 0 1 [.v (.string ⟨⟨x⟩⟩)]) := by
  obtain ⟨z, hz⟩ : ∃ z, zeroA Tryd.prog 9 = some z := Option.isSome_iff_exists.1 (by kernel_rfl)
  have h1 : (AV.v (.string ⟨⟨x⟩⟩)).noTup = true := rfl
  simp [oBuildSlice, yeS, yzeS, hz, h1, AV.cells]
theorem yrI_1 (x : Int) : oBuildSlice Tryd.prog 42 1 [(0, .v (.int .i64 x))] = some (.sl 1 0 1 [.v (.int .i64 x)]) := by kernel_rfl
theorem yle9 (S : St) (c : AV) (cs : List AV) : oLoad Tryd.prog S 9 (.ep (c :: cs)) = some c := vldSE yg9 S c cs
theorem yle4 (S : St) (c : AV) (cs : List AV) : oLoad Tryd.prog S 4 (.ep (c :: cs)) = some c := vldSE yg4 S c cs
theorem yfD_2 (a0 a1 a2 a3 a4 a5 : AV) : oFieldAddr Tryd.prog 51 (.ep [a0, a1, a2, a3, a4, a5]) 2 = some (.ep [a2, a3, a4, a5]) := by kernel_rfl
theorem str_free (l : List UInt8) : freeV (strS l) = true := rfl
theorem strs_free : ∀ ws : List (List UInt8), freeL (ws.map strS) = true ∧ cleanL (ws.map strS) = ws.map strS
  | [] => ⟨rfl, rfl⟩
  | t :: r => by
    have ih := strs_free r
    exact ⟨by rw [List.map_cons, freeL, ih.1]; rfl, by rw [List.map_cons, cleanL, ih.2]; rfl⟩
theorem ints_free : ∀ ws : List Int, freeL (ws.map i64A) = true ∧ cleanL (ws.map i64A) = ws.map i64A
  | [] => ⟨rfl, rfl⟩
  | t :: r => by
    have ih := ints_free r
    exact ⟨by rw [List.map_cons, freeL, ih.1]; rfl, by rw [List.map_cons, cleanL, ih.2]; rfl⟩
theorem wrapS (i : Nat) (h : i ≤ 999999999) : IntKind.i64.wrap ((i : Int) + 1) = ((i + 1 : Nat) : Int) := wrap_one (by omega)
theorem byte_inj {l m : UInt8} (h : byteV l = byteV m) : l = m := by
  unfold byteV at h
  simp only [AV.v.injEq, Value.int.injEq, true_and] at h
  exact UInt8.toNat_inj.1 (by omega)
end Go.Ax
noncomputable section
namespace Go.Ax
open Go.RowKit Go.Proofs
set_option linter.unusedVariables false
set_option linter.unusedSimpArgs false
set_option maxRecDepth 100000
def spLB : Code := match Tryd.f22.body with
  | some (.seq _ (.seq _ (.seq _ (.seq (.seq _ (.block _ (.loop c))) _)))) => c
  | _ => .skip
theorem spLB_is : (match spLB with | .skip => false | _ => true) = true := by kernel_rfl
theorem split_ne (c : UInt8) : ∀ l, splitB c l ≠ []
  | [] => by unfold splitB; simp
  | b :: r => by
    rw [splitB]
    split
    · simp
    · split <;> simp
theorem take_snoc (l : List UInt8) (f i : Nat) (hf : f ≤ i) (hi : i < l.length) : (l.drop f).take (i + 1 - f) = (l.drop f).take (i - f) ++ [l[i]] := by
  have e : i + 1 - f = (i - f) + 1 := by omega
  rw [e, List.take_add_one, List.getElem?_drop, show f + (i - f) = i by omega, List.getElem?_eq_getElem hi]
  rfl
theorem drop_self (l : List UInt8) (f : Nat) : (l.drop f).take (f - f) = [] := by rw [Nat.sub_self, List.take_zero]
theorem sp_lp (l : List UInt8) (c : UInt8) (hl : l.length ≤ 100000) : ∀ (n i f tk : Nat) (acc : List (List UInt8)) (t : T AV) (S : St), i + n = l.length + 1 → f ≤ i → (i ≤ l.length → splitB c l = acc ++ preB ((l.drop f).take (i - f)) (splitB c (l.drop i))) → (i = l.length + 1 → splitB c l = acc) → acc.length ≤ i → RowO 1 S tk (acc.map strS) → 2 ≤ S.next → t.get 0 = some (strS l) → t.get 1 = some (byteV c) → t.get 5 = some (.sl tk 0 1 (acc.map strS)) → t.get 6 = some (.v (.int .i64 (f : Int))) → t.get 7 = some (.v (.int .i64 (i : Int))) →
    WX EZ 36 (.loop spLB) ⟨t, []⟩ S (fun r => ∃ t' S' tk4, r = .out (.exit 0) ⟨t', []⟩ S' ∧ t'.get 5 = some (.sl tk4 0 1 ((splitB c l).map strS)))
  | 0, i, f, tk, acc, t, S, hi, hf, hinv, hend, hacc, RO, hn, T0, T1, T5, T6, T7 => by
    refine WX_loop (W_sound ?_)
    have hle : decide ((i : Int) ≤ (l.length : Int)) = false := by rw [decide_eq_false_iff_not]; omega
    simp only [strS, byteV] at T0 T1
    simp (maxSteps := 2000000) (disch := omega) only [thenW_exit, W_skip, W_region, W_seq, W_cond, W_block, W_exit, seqQ_normal2, seqQ_exit2, WL_nil2, WL_cons, execL_val2, putL_some2, condW_f2, wantedA, exec1, evalO, T.get_set, callA, ofOpt, neNil3, fb_leq, fb_eqlI, Nat.reduceLT, Nat.reduceEqDiff, if_true, if_false, true_and, List.getElem?_toArray, List.getElem?_cons_succ, List.getElem?_cons_zero, Option.bind_some, Bool.false_eq_true, ez_P, spLB, Tryd.f22, len9, T0, T7, hle]
    refine ⟨_, _, tk, rfl, ?_⟩
    rw [hend (by omega)]
    simp only [T.get_set, Nat.reduceEqDiff, if_false, T5]
  | n + 1, i, f, tk, acc, t, S, hi, hf, hinv, hend, hacc, RO, hn, T0, T1, T5, T6, T7 => by
    refine WX_loop (W_sound ?_)
    have hle : decide ((i : Int) ≤ (l.length : Int)) = true := by rw [decide_eq_true_eq]; omega
    have hw := wrapS i (by omega)
    obtain ⟨bytes, hrt⟩ := ytS
    have hinv := hinv (by omega)
    have hsl := sl9 l f i hf (by omega)
    have hal : (acc.map strS).length ≤ 2000000 := by rw [List.length_map]; omega
    obtain ⟨S2, happ, ro2, n2, k2⟩ := push_row (E := EZ) hrt rfl rfl RO hn (strS ((l.drop f).take (i - f))) rfl hal
    have hm : acc.map strS ++ [strS ((l.drop f).take (i - f))] = (acc ++ [(l.drop f).take (i - f)]).map strS := by rw [List.map_append]; rfl
    rw [hm] at happ ro2
    have T0' := T0
    simp only [strS, byteV] at T0 T1 happ
    by_cases he : i = l.length
    · have heq : ((i : Int) == (l.length : Int)) = true := by rw [beq_iff_eq]; omega
      simp (maxSteps := 2000000) (disch := omega) only [thenW_normal, thenW_exit, W_skip, W_region, W_seq, W_cond, W_block, W_exit, seqQ_normal2, seqQ_exit2, blockW_normal2, WL_nil2, WL_cons, execL_no, execL_val2, putL_some2, condW_t2, wantedA, exec1, evalO, T.get_set, callA, mapO, ofOpt, ofOptS, ofConst, partsA, neNil3, fb_leq, fb_add, fb_eqlI, Nat.reduceLT, Nat.reduceEqDiff, if_true, if_false, true_and, List.getElem?_toArray, List.getElem?_cons_succ, List.getElem?_cons_zero, Option.bind_some, Bool.false_eq_true, Bool.true_beq, Option.toList, List.head?_cons, ez_P, ez_G, spLB, Tryd.f22, neNil5, len9, yrS_1, T0, T1, T5, T6, T7, hle, heq, hsl, happ, hw]
      refine WX.mono (sp_lp l c hl n (i + 1) (i + 1) S.next (acc ++ [(l.drop f).take (i - f)]) _ S2 (by omega) (Nat.le_refl _) (fun h => by omega) (fun _ => ?_) (by rw [List.length_append]; show acc.length + 1 ≤ _; omega) ro2 (by omega) ?_ ?_ ?_ ?_ ?_) (fun r h => h)
      · rw [hinv, he, List.drop_of_length_le (Nat.le_refl _), preB_end]
      all_goals simp only [T.get_set, Nat.reduceEqDiff, if_true, if_false, T0, T1, strS, byteV]
    · have heq : ((i : Int) == (l.length : Int)) = false := by rw [beq_eq_false_iff_ne]; omega
      have hil : i < l.length := by omega
      have hx := idx9 l i hil
      have hd : l.drop i = l[i] :: l.drop (i + 1) := List.drop_eq_getElem_cons hil
      by_cases hc : l[i] = c
      · have hbc : (((l[i]).toNat : Int) == (c.toNat : Int)) = true := by rw [hc]; simp
        rw [hd, hc, preB_stop] at hinv
        simp (maxSteps := 2000000) (disch := omega) only [thenW_normal, thenW_exit, W_skip, W_region, W_seq, W_cond, W_block, W_exit, seqQ_normal2, seqQ_exit2, blockW_normal2, WL_nil2, WL_cons, execL_val2, putL_some2, condW_t2, wantedA, exec1, evalO, T.get_set, callA, mapO, ofOpt, ofOptS, ofConst, partsA, neNil3, fb_leq, fb_add, fb_eqlI, Nat.reduceLT, Nat.reduceEqDiff, if_true, if_false, true_and, List.getElem?_toArray, List.getElem?_cons_succ, List.getElem?_cons_zero, Option.bind_some, beq_self_eq_true, Bool.false_eq_true, Option.toList, List.head?_cons, ez_P, ez_G, spLB, Tryd.f22, neNil5, len9, yrS_1, T0, T1, T5, T6, T7, hle, heq, hx, hbc, hsl, happ, hw]
        refine WX.mono (sp_lp l c hl n (i + 1) (i + 1) S.next (acc ++ [(l.drop f).take (i - f)]) _ S2 (by omega) (Nat.le_refl _) (fun h => ?_) (fun h => by omega) (by rw [List.length_append]; show acc.length + 1 ≤ _; omega) ro2 (by omega) ?_ ?_ ?_ ?_ ?_) (fun r h => h)
        · rw [hinv, drop_self, List.append_assoc]
          have hne : splitB c (l.drop (i + 1)) = preB [] (splitB c (l.drop (i + 1))) := by
            cases h2 : splitB c (l.drop (i + 1)) with
            | nil => exact absurd h2 (split_ne c _)
            | cons w ws => rfl
          rw [← hne]; rfl
        all_goals simp only [T.get_set, Nat.reduceEqDiff, if_true, if_false, T0, T1, strS, byteV]
      · have hbc : (((l[i]).toNat : Int) == (c.toNat : Int)) = false := by
          rw [beq_eq_false_iff_ne]; intro e; exact hc (UInt8.toNat_inj.1 (by omega))
        rw [hd, preB_go hc, ← take_snoc l f i hf hil] at hinv
        simp (maxSteps := 2000000) (disch := omega) only [thenW_normal, thenW_exit, W_skip, W_region, W_seq, W_cond, W_block, W_exit, seqQ_normal2, seqQ_exit2, blockW_normal2, WL_nil2, WL_cons, execL_val2, putL_some2, condW_t2, condW_f2, wantedA, exec1, evalO, T.get_set, callA, mapO, ofOpt, ofConst, neNil3, fb_leq, fb_add, fb_eqlI, Nat.reduceLT, Nat.reduceEqDiff, if_true, if_false, true_and, List.getElem?_toArray, List.getElem?_cons_succ, List.getElem?_cons_zero, Option.bind_some, beq_self_eq_true, Bool.false_eq_true, Option.toList, List.head?_cons, ez_P, ez_G, spLB, Tryd.f22, neNil5, len9, T0, T1, T5, T6, T7, hle, heq, hx, hbc, hw]
        refine WX.mono (sp_lp l c hl n (i + 1) f tk acc _ S (by omega) (by omega) (fun h => hinv) (fun h => by omega) (by omega) RO hn ?_ ?_ ?_ ?_ ?_) (fun r h => h)
        all_goals simp only [T.get_set, Nat.reduceEqDiff, if_true, if_false, T0, T1, T5, T6, strS, byteV]
theorem split_k (l : List UInt8) (c : UInt8) (hl : l.length ≤ 100000) : KnZ 22 [strS l, byteV c] := by
  refine bodyZ Tryd.f22 (by kernel_rfl) (by kernel_rfl) (show (_ : Nat) ≤ _ from by show (_ : Nat) ≤ _; simp [Tryd.f22]) ?_
  have key := fun t S => sp_lp l c hl (l.length + 1) 0 0 1 [] t S (by omega) (Nat.le_refl _) (fun _ => by
    rw [List.drop_zero, Nat.sub_self, List.take_zero, List.nil_append]
    cases h2 : splitB c l with
    | nil => exact absurd h2 (split_ne c _)
    | cons w ws => rfl) (fun h => by omega) (Nat.zero_le _) (.inl rfl)
  unfold spLB at key
  simp only [Tryd.f22] at key
  simp (maxSteps := 2000000) (disch := omega) only [W_region, W_seq, W_block, W_loop, seqQ_normal2, WL_nil2, WL_cons, execL_val2, putL_some2, wantedA, exec1, evalO, initT, T.get_set, T.get_leaf, ofOpt, ofConst, partsA, Nat.reduceLT, Nat.reduceEqDiff, if_true, if_false, true_and, Option.getD_some, Nat.zero_add, ez_P, Tryd.f22, strS, byteV, yrS_0, initT]
  refine WX.mono (key _ _ ?_ ?_ ?_ ?_ ?_ ?_) ?_
  · simp only [st0_next]; omega
  all_goals try (simp only [T.get_set, T.get_leaf, Nat.reduceEqDiff, if_true, if_false, strS, byteV] <;> rfl)
  rintro _ ⟨t', S', tk4, rfl, h5⟩
  simp (maxSteps := 2000000) (disch := omega) only [W_region, W_seq, W_ret, seqQ_normal2, seqQ_exit2, blockW_exit2, WL_nil2, WL_cons, execL_val2, putL_some2, wantedA, exec1, evalO, T.get_set, ofOpt, finW_ret, giveW, resultsA, tupA, Nat.reduceLT, Nat.reduceEqDiff, if_true, if_false, true_and, h5]
  refine ⟨_, _, rfl, (strs_free _).1, ?_⟩
  intro l2 c2 h h2
  injection h with h3 h4
  injection h4 with h4 h5
  have e1 := str_inj h3
  have e2 := byte_inj h4
  subst e1; subst e2
  show AV.sl 0 0 1 (cleanL _) = _
  rw [(strs_free _).2]
theorem use_split {S : St} {Q : R → Prop} {l : List UInt8} {c : UInt8} (hl : l.length ≤ 100000) (h : Q (.ret (.sl 0 0 1 ((splitB c l).map strS)) S)) : WC EZ 22 [strS l, byteV c] S Q :=
  callZ (split_k l c hl) (by kernel_rfl) rfl rfl fun a _ _ hs => by
    have := hs l c rfl hl
    subst this
    exact h
end Go.Ax
noncomputable section
namespace Go.Ax
open Go.RowKit Go.Proofs
set_option linter.unusedVariables false
set_option linter.unusedSimpArgs false
set_option maxRecDepth 100000
theorem u8w {n : Nat} (h : n < 256) : IntKind.u8.wrap (n : Int) = (n : Int) := by
  have : IntKind.u8.wrap (n : Int) = (n : Int) % 256 := by simp [IntKind.wrap, IntKind.bits, IntKind.signed]
  rw [this]; omega
theorem i64w {n : Int} (h : -9223372036854775808 ≤ n ∧ n ≤ 9223372036854775807) : IntKind.i64.wrap n = n := IntWalk.i64_in _ h
theorem convB_none (n : Int) : oConvert Tryd.prog 5 2 (.v (.int .u8 n)) = none := by
  have h1 : Tryd.prog.underlying 5 = some (.int .u8) := by kernel_rfl
  simp only [oConvert, h1]
def convB (r : OR) (S : St) (x : Option AV) : OR := match x with
  | some (.v (.int .u8 n)) => .val (.v (.int .i64 (IntKind.i64.wrap n))) S
  | _ => r
theorem convB_u (r : OR) (S : St) (n : Int) : convB r S (some (.v (.int .u8 n))) = .val (.v (.int .i64 (IntKind.i64.wrap n))) S := rfl
def convX (P : Program) (G : Gl) (f : T AV) (S : St) (o : Oper) : OR := ground P G f S o
theorem gconvB (f : T AV) (S : St) (dst : Option Tmp) (k : Tmp) (ty : TypeId) (pos : String) (af : Array Edge) (gd : Option (Nat × Bool)) :
    ground Tryd.prog gZ f S { dst := dst, op := .convert 5 2 (.tmp k), type := ty, pos := pos, after := af, guard := gd } = convB (convX Tryd.prog gZ f S { dst := dst, op := .convert 5 2 (.tmp k), type := ty, pos := pos, after := af, guard := gd }) S (f.get k) := by
  unfold convB
  split
  · rename_i n h
    have hg : groundO gZ f (.tmp k) = some (.int .u8 n) := by unfold groundO; simp only [evalO, h]; rfl
    unfold ground
    simp only [Op.operands, List.all_cons, List.all_nil, hg, Option.isSome_some, Bool.and_self, if_true]
    have e : execOp (fun x => (groundO gZ f x).getD undef) { dst := dst, op := .convert 5 2 (.tmp k), type := ty, pos := pos, after := af, guard := gd } = execOp (fun _ => .int .u8 n) { dst := none, op := .convert 5 2 (.tmp 0), type := ty, pos := "", after := #[], guard := none } := by
      simp only [execOp, hg, Option.getD_some]
    rw [e]
    have e3 : pureN Tryd.prog 4000 (execOp (fun _ => Value.int .u8 n) { dst := none, op := .convert 5 2 (.tmp 0), type := ty, pos := "", after := #[], guard := none }) = some (.int .i64 (IntKind.i64.wrap n)) := by rfl
    rw [e3]; rfl
  · rfl
def negO (r : OR) (S : St) (x : Option AV) : OR := match x with
  | some (.v (.int .i64 n)) => .val (.v (.int .i64 (IntKind.i64.wrap (0 - n)))) S
  | _ => r
theorem negO_i (r : OR) (S : St) (n : Int) : negO r S (some (.v (.int .i64 n))) = .val (.v (.int .i64 (IntKind.i64.wrap (0 - n)))) S := rfl
def negX (P : Program) (G : Gl) (f : T AV) (S : St) (o : Oper) : OR := ground P G f S o
theorem gneg (f : T AV) (S : St) (dst : Option Tmp) (k : Tmp) (ty : TypeId) (pos : String) (af : Array Edge) (gd : Option (Nat × Bool)) :
    ground Tryd.prog gZ f S { dst := dst, op := .unOp .neg 2 (.tmp k), type := ty, pos := pos, after := af, guard := gd } = negO (negX Tryd.prog gZ f S { dst := dst, op := .unOp .neg 2 (.tmp k), type := ty, pos := pos, after := af, guard := gd }) S (f.get k) := by
  unfold negO
  split
  · rename_i n h
    have hg : groundO gZ f (.tmp k) = some (.int .i64 n) := by unfold groundO; simp only [evalO, h]; rfl
    unfold ground
    simp only [Op.operands, List.all_cons, List.all_nil, hg, Option.isSome_some, Bool.and_self, if_true]
    have e : execOp (fun x => (groundO gZ f x).getD undef) { dst := dst, op := .unOp .neg 2 (.tmp k), type := ty, pos := pos, after := af, guard := gd } = execOp (fun _ => .int .i64 n) { dst := none, op := .unOp .neg 2 (.tmp 0), type := ty, pos := "", after := #[], guard := none } := by
      simp only [execOp, hg, Option.getD_some]
    rw [e]
    have e3 : pureN Tryd.prog 4000 (execOp (fun _ => Value.int .i64 n) { dst := none, op := .unOp .neg 2 (.tmp 0), type := ty, pos := "", after := #[], guard := none }) = some (.int .i64 (IntKind.i64.wrap (0 - n))) := by rfl
    rw [e3]; rfl
  · rfl
theorem numV_snoc : ∀ (xs : List UInt8) (a : Nat) (b : UInt8), numV a (xs ++ [b]) = numV a xs * 10 + (b.toNat - 48)
  | [], a, b => rfl
  | c :: xs, a, b => numV_snoc xs _ b
theorem fbz_mul (k : IntKind) (x y : Int) : fastBin .mul (.v (.int k x)) (.v (.int k y)) = some (.v (.int k (k.wrap (x * y)))) := by simp [fastBin]
theorem fbz_sub (k : IntKind) (x y : Int) : fastBin .sub (.v (.int k x)) (.v (.int k y)) = some (.v (.int k (k.wrap (x - y)))) := by simp [fastBin]
theorem wrap_digit (b : UInt8) (h : digB b = true) : IntKind.u8.wrap ((b.toNat : Int) - 48) = ((b.toNat - 48 : Nat) : Int) ∧ IntKind.i64.wrap ((b.toNat - 48 : Nat) : Int) = ((b.toNat - 48 : Nat) : Int) ∧ b.toNat - 48 ≤ 9 := by
  unfold digB at h
  simp only [Bool.and_eq_true, decide_eq_true_eq] at h
  have e : (b.toNat : Int) - 48 = ((b.toNat - 48 : Nat) : Int) := by omega
  rw [e]
  exact ⟨u8w (by omega), i64w (by omega), by omega⟩
def nuLB : Code := match Tryd.f48.body with
  | some (.seq _ (.seq _ (.seq _ (.seq _ (.seq _ (.seq _ (.seq (.seq _ (.block _ (.loop c))) _))))))) => c
  | _ => .skip
theorem nuLB_is : (match nuLB with | .skip => false | _ => true) = true := by kernel_rfl
def NuI (ds : List UInt8) (i : Nat) (ov : Bool) (m : Int) : Prop := (ds.take i).all digB = true ∧ (ov = false → numV 0 (ds.take i) ≤ 9223372036854775808 ∧ m = -(numV 0 (ds.take i) : Int)) ∧ (ov = true → 9223372036854775808 < numV 0 (ds.take i))
def NuEnd (ds : List UInt8) (t0 : Option AV) (S : St) (r : O) : Prop := (∃ t', r = .out .ret ⟨t', []⟩ S ∧ t'.get 2 = some (.v (.int .i64 0)) ∧ t'.get 3 = some (.v (.int .i64 1)) ∧ ds.all digB = false) ∨ (∃ t' ov m, r = .out (.exit 0) ⟨t', []⟩ S ∧ t'.get 0 = t0 ∧ t'.get 4 = some (strS ds) ∧ t'.get 5 = some (.v (.int .i64 m)) ∧ t'.get 6 = some (.v (.bool ov)) ∧ NuI ds ds.length ov m)
theorem nu_lp {ds : List UInt8} (hl : ds.length ≤ 100000) (t0 : Option AV) : ∀ (n i : Nat) (t : T AV) (S : St) (ov : Bool) (m : Int), i + n = ds.length → NuI ds i ov m → t.get 0 = t0 → t.get 4 = some (strS ds) → t.get 5 = some (.v (.int .i64 m)) → t.get 6 = some (.v (.bool ov)) → t.get 7 = some (.v (.int .i64 (i : Int))) → WX EZ 80 (.loop nuLB) ⟨t, []⟩ S (NuEnd ds t0 S)
  | 0, i, t, S, ov, m, hi, hI, T0, T4, T5, T6, T7 => by
    refine WX_loop (W_sound ?_)
    have hi : i = ds.length := by omega
    subst hi
    have hlt : decide (((ds.length : Nat) : Int) < ((ds.length : Nat) : Int)) = false := by rw [decide_eq_false_iff_not]; omega
    have T4' := T4
    simp only [strS] at T4
    simp (maxSteps := 2000000) (disch := omega) only [thenW_exit, W_skip, W_region, W_seq, W_cond, W_block, W_exit, seqQ_normal2, seqQ_exit2, WL_nil2, WL_cons, execL_val2, putL_some2, condW_f2, wantedA, exec1, evalO, T.get_set, callA, ofOpt, neNil3, fb_lss, Nat.reduceLT, Nat.reduceEqDiff, if_true, if_false, true_and, Bool.false_eq_true, ez_P, ez_G, nuLB, Tryd.f48, len9, T4, T7, hlt]
    refine .inr ⟨_, ov, m, rfl, ?_, ?_, ?_, ?_, hI⟩ <;> simp only [T.get_set, Nat.reduceEqDiff, if_false, T0, T4, T5, T6, strS]
  | n + 1, i, t, S, ov, m, hi, hI, T0, T4, T5, T6, T7 => by
    refine WX_loop (W_sound ?_)
    have hil : i < ds.length := by omega
    have hlt : decide ((i : Int) < (ds.length : Int)) = true := by rw [decide_eq_true_eq]; omega
    have hw := wrapS i (by omega)
    have hx := idx9 ds i hil
    have T4' := T4
    simp only [strS] at T4
    have htk : ds.take (i + 1) = ds.take i ++ [ds[i]] := List.take_succ_eq_append_getElem hil
    have hall : (ds.take (i + 1)).all digB = ((ds.take i).all digB && digB ds[i]) := by rw [htk, List.all_append]; simp
    have hnv : numV 0 (ds.take (i + 1)) = numV 0 (ds.take i) * 10 + (ds[i].toNat - 48) := by rw [htk, numV_snoc]
    obtain ⟨hI1, hI2, hI3⟩ := hI
    cases hb : digB ds[i] with
    | false =>
      have hbad : ds.all digB = false := by
        rw [List.all_eq_false]
        exact ⟨ds[i], List.getElem_mem hil, by rw [hb]; simp⟩
      by_cases hlo : ds[i].toNat < 48
      · have h48 : decide (((ds[i]).toNat : Int) < 48) = true := by rw [decide_eq_true_eq]; omega
        simp (maxSteps := 2000000) (disch := omega) only [thenW_exit, thenW_ret, W_skip, W_region, W_seq, W_cond, W_block, W_exit, W_ret, seqQ_normal2, seqQ_exit2, seqQ_ret2, blockW_ret2, WL_nil2, WL_cons, execL_no, execL_val2, putL_some2, condW_t2, wantedA, exec1, evalO, T.get_set, callA, ofOpt, ofConst, neNil3, fb_lss, Nat.reduceLT, Nat.reduceEqDiff, if_true, if_false, true_and, List.getElem?_toArray, List.getElem?_cons_succ, List.getElem?_cons_zero, Option.bind_some, Bool.false_eq_true, Bool.true_beq, ez_P, ez_G, nuLB, Tryd.f48, neNil5, len9, convB_none, gconvB, convB_u, fbz_sub, T4, T7, hlt, hx, h48]
        exact .inl ⟨_, rfl, by simp only [T.get_set, Nat.reduceEqDiff, if_true, if_false], by simp only [T.get_set, Nat.reduceEqDiff, if_true, if_false], hbad⟩
      · have h48 : decide (((ds[i]).toNat : Int) < 48) = false := by rw [decide_eq_false_iff_not]; omega
        have hhi : 57 < ds[i].toNat := by
          unfold digB at hb
          simp only [Bool.and_eq_false_iff, decide_eq_false_iff_not] at hb
          omega
        have h57 : decide (((ds[i]).toNat : Int) > 57) = true := by rw [decide_eq_true_eq]; omega
        simp (maxSteps := 2000000) (disch := omega) only [thenW_exit, thenW_ret, W_skip, W_region, W_seq, W_cond, W_block, W_exit, W_ret, seqQ_normal2, seqQ_exit2, seqQ_ret2, blockW_ret2, WL_nil2, WL_cons, execL_val2, putL_some2, condW_t2, wantedA, exec1, evalO, T.get_set, callA, ofOpt, ofConst, neNil3, fb_lss, fb_gtr, Nat.reduceLT, Nat.reduceEqDiff, if_true, if_false, true_and, List.getElem?_toArray, List.getElem?_cons_succ, List.getElem?_cons_zero, Option.bind_some, beq_self_eq_true, Bool.false_eq_true, ez_P, ez_G, nuLB, Tryd.f48, neNil5, len9, convB_none, gconvB, convB_u, fbz_sub, T4, T7, hlt, hx, h48, h57]
        exact .inl ⟨_, rfl, by simp only [T.get_set, Nat.reduceEqDiff, if_true, if_false], by simp only [T.get_set, Nat.reduceEqDiff, if_true, if_false], hbad⟩
    | true =>
      obtain ⟨d1, d2, d3⟩ := wrap_digit _ hb
      have hdig := hb
      unfold digB at hdig
      simp only [Bool.and_eq_true, decide_eq_true_eq] at hdig
      have h48 : decide (((ds[i]).toNat : Int) < 48) = false := by rw [decide_eq_false_iff_not]; omega
      have h57 : decide (((ds[i]).toNat : Int) > 57) = false := by rw [decide_eq_false_iff_not]; omega
      rw [hI1, hb] at hall
      have next : ∀ (t' : T AV) (ov' : Bool) (m' : Int), NuI ds (i + 1) ov' m' → t'.get 0 = t0 → t'.get 4 = some (strS ds) → t'.get 5 = some (.v (.int .i64 m')) → t'.get 6 = some (.v (.bool ov')) → t'.get 7 = some (.v (.int .i64 ((i + 1 : Nat) : Int))) → WX EZ 80 (.loop nuLB) ⟨t', []⟩ S (NuEnd ds t0 S) := fun t' ov' m' => nu_lp hl t0 n (i + 1) t' S ov' m' (by omega)
      unfold NuI at next
      rw [hnv, hall] at next
      generalize hV : numV 0 (ds.take i) = V at *
      generalize ds[i].toNat = bn at *
      cases ov with
      | true =>
        have := hI3 rfl
        simp (maxSteps := 2000000) (disch := omega) only [thenW_normal, thenW_exit, thenW_ret, W_skip, W_region, W_seq, W_cond, W_block, W_exit, W_ret, seqQ_normal2, seqQ_exit2, seqQ_ret2, blockW_normal2, blockW_ret2, WL_nil2, WL_cons, execL_no, execL_val2, putL_some2, condW_t2, condW_f2, wantedA, exec1, evalO, T.get_set, callA, ofOpt, ofConst, neNil3, notO_bool, fb_lss, fb_gtr, fb_add, Nat.reduceLT, Nat.reduceEqDiff, if_true, if_false, true_and, List.getElem?_toArray, List.getElem?_cons_succ, List.getElem?_cons_zero, Option.bind_some, beq_self_eq_true, Bool.false_eq_true, Bool.not_true, Bool.true_beq, ez_P, ez_G, gnot, nuLB, Tryd.f48, neNil5, neNil2, len9, convB_none, gconvB, convB_u, fbz_mul, fbz_sub, T4, T5, T6, T7, hlt, hx, h48, h57, d1, d2, hw]
        refine next _ true m ⟨rfl, (fun h => by cases h), fun _ => by omega⟩ ?_ ?_ ?_ ?_ ?_ <;> simp only [T.get_set, Nat.reduceEqDiff, if_true, if_false, T0, T4, T5, T6, strS]
      | false =>
        obtain ⟨hV1, hm⟩ := hI2 rfl
        by_cases hbig : 922337203685477580 < V
        · have hc1 : decide (m < -922337203685477580) = true := by rw [decide_eq_true_eq]; omega
          simp (maxSteps := 2000000) (disch := omega) only [thenW_normal, thenW_exit, thenW_ret, W_skip, W_region, W_seq, W_cond, W_block, W_exit, W_ret, seqQ_normal2, seqQ_exit2, seqQ_ret2, blockW_normal2, blockW_ret2, WL_nil2, WL_cons, execL_no, execL_val2, putL_some2, condW_t2, condW_f2, wantedA, exec1, evalO, T.get_set, callA, ofOpt, ofConst, neNil3, notO_bool, fb_lss, fb_gtr, fb_add, Nat.reduceLT, Nat.reduceEqDiff, if_true, if_false, true_and, List.getElem?_toArray, List.getElem?_cons_succ, List.getElem?_cons_zero, Option.bind_some, beq_self_eq_true, Bool.false_eq_true, Bool.not_true, Bool.true_beq, ez_P, ez_G, gnot, nuLB, Tryd.f48, neNil5, neNil2, len9, convB_none, gconvB, convB_u, fbz_mul, fbz_sub, T4, T5, T6, T7, hlt, hx, h48, h57, d1, d2, hw, hc1]
          refine next _ true m ⟨rfl, (fun h => by cases h), fun _ => by omega⟩ ?_ ?_ ?_ ?_ ?_ <;> simp only [T.get_set, Nat.reduceEqDiff, if_true, if_false, T0, T4, T5, T6, strS]
        · have hc1 : decide (m < -922337203685477580) = false := by rw [decide_eq_false_iff_not]; omega
          by_cases heq : V = 922337203685477580
          · have hc2 : (m == -922337203685477580) = true := by rw [beq_iff_eq]; omega
            by_cases h8 : 8 < bn - 48
            · have hc3 : decide (((bn - 48 : Nat) : Int) > 8) = true := by rw [decide_eq_true_eq]; omega
              simp (maxSteps := 2000000) (disch := omega) only [thenW_normal, thenW_exit, thenW_ret, W_skip, W_region, W_seq, W_cond, W_block, W_exit, W_ret, seqQ_normal2, seqQ_exit2, seqQ_ret2, blockW_normal2, blockW_ret2, WL_nil2, WL_cons, execL_val2, putL_some2, condW_t2, condW_f2, wantedA, exec1, evalO, T.get_set, callA, ofOpt, ofConst, neNil3, notO_bool, fb_lss, fb_gtr, fb_add, fb_eqlI, Nat.reduceLT, Nat.reduceEqDiff, if_true, if_false, true_and, List.getElem?_toArray, List.getElem?_cons_succ, List.getElem?_cons_zero, Option.bind_some, beq_self_eq_true, Bool.false_eq_true, Bool.not_true, ez_P, ez_G, gnot, nuLB, Tryd.f48, neNil5, neNil2, len9, convB_none, gconvB, convB_u, fbz_mul, fbz_sub, T4, T5, T6, T7, hlt, hx, h48, h57, d1, d2, hw, hc1, hc2, hc3]
              refine next _ true m ⟨rfl, (fun h => by cases h), fun _ => by omega⟩ ?_ ?_ ?_ ?_ ?_ <;> simp only [T.get_set, Nat.reduceEqDiff, if_true, if_false, T0, T4, T5, T6, strS]
            · have hc3 : decide (((bn - 48 : Nat) : Int) > 8) = false := by rw [decide_eq_false_iff_not]; omega
              have q1 : IntKind.i64.wrap (10 * m) = 10 * m := i64w (by omega)
              have q2 : IntKind.i64.wrap (10 * m - ((bn - 48 : Nat) : Int)) = 10 * m - ((bn - 48 : Nat) : Int) := i64w (by omega)
              simp (maxSteps := 2000000) (disch := omega) only [thenW_normal, thenW_exit, thenW_ret, W_skip, W_region, W_seq, W_cond, W_block, W_exit, W_ret, seqQ_normal2, seqQ_exit2, seqQ_ret2, blockW_normal2, blockW_ret2, WL_nil2, WL_cons, execL_val2, putL_some2, condW_t2, condW_f2, wantedA, exec1, evalO, T.get_set, callA, ofOpt, ofConst, neNil3, notO_bool, fb_lss, fb_gtr, fb_add, fb_eqlI, Nat.reduceLT, Nat.reduceEqDiff, if_true, if_false, true_and, List.getElem?_toArray, List.getElem?_cons_succ, List.getElem?_cons_zero, Option.bind_some, beq_self_eq_true, Bool.false_eq_true, Bool.not_false, ez_P, ez_G, gnot, nuLB, Tryd.f48, neNil5, neNil2, len9, convB_none, gconvB, convB_u, fbz_mul, fbz_sub, T4, T5, T6, T7, hlt, hx, h48, h57, d1, d2, hw, hc1, hc2, hc3, q1, q2]
              refine next _ false (10 * m - ((bn - 48 : Nat) : Int)) ⟨rfl, fun _ => ⟨by omega, by omega⟩, (fun h => by cases h)⟩ ?_ ?_ ?_ ?_ ?_ <;> simp only [T.get_set, Nat.reduceEqDiff, if_true, if_false, T0, T4, T5, T6, strS]
          · have hc2 : (m == -922337203685477580) = false := by rw [beq_eq_false_iff_ne]; omega
            have q1 : IntKind.i64.wrap (10 * m) = 10 * m := i64w (by omega)
            have q2 : IntKind.i64.wrap (10 * m - ((bn - 48 : Nat) : Int)) = 10 * m - ((bn - 48 : Nat) : Int) := i64w (by omega)
            simp (maxSteps := 2000000) (disch := omega) only [thenW_normal, thenW_exit, thenW_ret, W_skip, W_region, W_seq, W_cond, W_block, W_exit, W_ret, seqQ_normal2, seqQ_exit2, seqQ_ret2, blockW_normal2, blockW_ret2, WL_nil2, WL_cons, execL_no, execL_val2, putL_some2, condW_t2, condW_f2, wantedA, exec1, evalO, T.get_set, callA, ofOpt, ofConst, neNil3, notO_bool, fb_lss, fb_gtr, fb_add, fb_eqlI, Nat.reduceLT, Nat.reduceEqDiff, if_true, if_false, true_and, List.getElem?_toArray, List.getElem?_cons_succ, List.getElem?_cons_zero, Option.bind_some, beq_self_eq_true, Bool.false_eq_true, Bool.not_true, Bool.not_false, Bool.false_beq, ez_P, ez_G, gnot, nuLB, Tryd.f48, neNil5, neNil2, len9, convB_none, gconvB, convB_u, fbz_mul, fbz_sub, T4, T5, T6, T7, hlt, hx, h48, h57, d1, d2, hw, hc1, hc2, q1, q2]
            refine next _ false (10 * m - ((bn - 48 : Nat) : Int)) ⟨rfl, fun _ => ⟨by omega, by omega⟩, (fun h => by cases h)⟩ ?_ ?_ ?_ ?_ ?_ <;> simp only [T.get_set, Nat.reduceEqDiff, if_true, if_false, T0, T4, T5, T6, strS]
end Go.Ax
noncomputable section
namespace Go.Ax
open Go.RowKit Go.Proofs
set_option linter.unusedVariables false
set_option linter.unusedSimpArgs false
set_option maxRecDepth 100000
theorem num_fin {s : List UInt8} {x : Int} {e : Nat} (h : numF s = (x, e)) (S' : St) : ∃ a S'', R.ret (.tup [.v (.int .i64 x), .v (.int .i64 (e : Int))]) S' = R.ret a S'' ∧ freeV a = true ∧ SpecZ 48 [strS s] (clean a) := by
  refine ⟨_, _, rfl, rfl, ?_⟩
  intro l hl _
  injection hl with h3 _
  have := str_inj h3
  subst this
  rw [h]; rfl
/-- What is answered behind the loop. -/
theorem num_loop {s ds : List UInt8} (neg : Bool) (hs : s = if neg then 45 :: ds else ds) (hn : neg = false → s.head? ≠ some 45) (h0 : ds ≠ []) (hz : ¬ (ds.head? = some 48 ∧ s ≠ [48])) :
    (ds.all digB = false → numF s = (0, 1)) ∧ (ds.all digB = true → (neg = true → numV 0 ds ≤ 9223372036854775808 → numF s = (-(numV 0 ds : Int), 0)) ∧ (neg = true → 9223372036854775808 < numV 0 ds → numF s = (0, 3)) ∧ (neg = false → numV 0 ds ≤ 9223372036854775807 → numF s = ((numV 0 ds : Int), 0)) ∧ (neg = false → 9223372036854775807 < numV 0 ds → numF s = (0, 3))) := by
  have ht : (if s.head? = some 45 then s.drop 1 else s) = ds := by
    cases neg with
    | true => rw [hs]; simp
    | false => rw [if_neg (hn rfl), hs]; rfl
  have h1 : ¬ (ds = [] ∨ (ds.head? = some 48 ∧ s ≠ [48])) := fun h => h.elim h0 hz
  unfold numF
  simp only [ht]
  rw [if_neg h1]
  refine ⟨fun h => by rw [if_pos h], fun h => ?_⟩
  rw [if_neg (by rw [h]; decide)]
  refine ⟨fun hg hv => ?_, fun hg hv => ?_, fun hg hv => ?_, fun hg hv => ?_⟩
  · have e : s.head? = some 45 := by rw [hs, hg]; rfl
    rw [if_pos e, if_pos hv]
  · have e : s.head? = some 45 := by rw [hs, hg]; rfl
    rw [if_pos e, if_neg (by omega)]
  · rw [if_neg (hn hg), if_pos hv]
  · rw [if_neg (hn hg), if_neg (by omega)]
theorem num_bad {s : List UInt8} (h : let t := if s.head? = some 45 then s.drop 1 else s; t = [] ∨ (t.head? = some 48 ∧ s ≠ [48])) : numF s = (0, 1) := by
  unfold numF
  simp only at h ⊢
  rw [if_pos h]
theorem num_neg (s ds : List UInt8) (hl : s.length ≤ 100000) (hs : s = 45 :: ds) (h0 : ds ≠ []) (hz : ¬ (ds.head? = some 48)) : KnZ 48 [strS s] := by
  refine bodyZ Tryd.f48 (by kernel_rfl) (by kernel_rfl) (show (_ : Nat) ≤ _ from by show (_ : Nat) ≤ _; simp [Tryd.f48]) ?_
  have hdl : ds.length ≤ 100000 := by rw [hs, List.length_cons] at hl; omega
  have hspec := num_loop (s := s) (ds := ds) true (by rw [hs]; rfl) (fun h => by cases h) h0 (fun h => hz h.1)
  have key := fun t S => nu_lp hdl (some (strS s)) ds.length 0 t S false 0 (by omega) ⟨by rw [List.take_zero]; rfl, fun _ => ⟨by rw [List.take_zero]; exact Nat.zero_le _, by rw [List.take_zero]; rfl⟩, (fun h => by cases h)⟩
  unfold nuLB at key
  simp only [Tryd.f48] at key
  have hsl : 0 < s.length := by rw [hs]; simp
  have hgt : decide (((s.length : Nat) : Int) > 0) = true := by rw [decide_eq_true_eq]; omega
  have e0 : s[0].toNat = 45 := by simp only [hs]; rfl
  have hx0 : fastIndex Tryd.prog 9 (.v (.string ⟨⟨s⟩⟩)) (.v (.int .i64 0)) = some (.v (.int .u8 45)) := by
    have := idx9 s 0 hsl
    rw [e0] at this
    exact this
  have hdr : s.drop 1 = ds := by rw [hs]; rfl
  have hfr : fastSlice Tryd.prog 9 (.v (.string ⟨⟨s⟩⟩)) (some (.v (.int .i64 1))) none = some (.v (.string ⟨⟨ds⟩⟩)) := by
    have := sl9_from s 1 (by omega)
    rw [hdr] at this
    exact this
  obtain ⟨d, r, hdr2⟩ : ∃ d r, ds = d :: r := by cases ds with | nil => exact absurd rfl h0 | cons d r => exact ⟨d, r, rfl⟩
  have hne : decide (ds = []) = false := by rw [decide_eq_false_iff_not]; exact h0
  have hx1 : fastIndex Tryd.prog 9 (.v (.string ⟨⟨ds⟩⟩)) (.v (.int .i64 0)) = some (.v (.int .u8 ((ds[0]'(by rw [hdr2]; simp)).toNat : Int))) := idx9 ds 0 (by rw [hdr2]; simp)
  have hd48 : (((ds[0]'(by rw [hdr2]; simp)).toNat : Int) == 48) = false := by
    rw [beq_eq_false_iff_ne]; intro e
    refine hz ?_
    have e2 : ((d.toNat : Nat) : Int) = 48 := by simp only [hdr2] at e; simpa using e
    have : d.toNat = 48 := by omega
    rw [hdr2]; simp only [List.head?_cons, Option.some.injEq]
    exact UInt8.toNat_inj.1 this
  generalize hq : (ds[0]'(by rw [hdr2]; simp)).toNat = q at hx1 hd48
  have hts : decide (ds = s) = false := by rw [decide_eq_false_iff_not, hs]; intro h; have := congrArg List.length h; simp at this
  clear hdr hdr2 hq
  simp (maxSteps := 2000000) (disch := omega) only [W_skip, W_region, W_seq, W_cond, W_block, W_loop, W_ret, seqQ_normal2, seqQ_ret2, WL_nil2, WL_cons, execL_no, execL_val2, putL_some2, condW_t2, condW_f2, wantedA, exec1, evalO, initT, T.get_set, T.get_leaf, callA, mapO, ofOpt, ofConst, neNil3, finW_ret, giveW, resultsA, tupA, fb_gtr, fb_eqlI, fb_eqS, neNil9, Nat.reduceLT, Nat.reduceEqDiff, if_true, if_false, true_and, Option.getD_some, List.getElem?_toArray, List.getElem?_cons_succ, List.getElem?_cons_zero, Option.bind_some, beq_self_eq_true, Bool.false_eq_true, Bool.not_true, Bool.false_beq, Option.toList, List.head?_cons, List.head?_nil, ez_P, ez_G, Tryd.f48, strS, neNil5, neNil9, len9, fb_eqS, initT, hgt, hx0, hfr, hne, hx1, hd48]
  refine WX.mono (key _ _ ?_ ?_ ?_ ?_ ?_) ?_
  · simp only [T.get_set, T.get_leaf, Nat.reduceEqDiff, if_true, if_false, strS] <;> rfl
  · simp only [T.get_set, T.get_leaf, Nat.reduceEqDiff, if_true, if_false, strS] <;> rfl
  · simp only [T.get_set, T.get_leaf, Nat.reduceEqDiff, if_true, if_false] <;> rfl
  · simp only [T.get_set, T.get_leaf, Nat.reduceEqDiff, if_true, if_false] <;> rfl
  · simp only [T.get_set, T.get_leaf, Nat.reduceEqDiff, if_true, if_false] <;> rfl
  intro r' hr
  rcases hr with ⟨t', rfl, r2, r3, hbad⟩ | ⟨t', ov, m, rfl, r0, r4, r5, r6, hI1, hI2, hI3⟩
  · simp (maxSteps := 2000000) (disch := omega) only [seqQ_ret2, blockW_ret2, finW_ret, giveW, resultsA, tupA, r2, r3]
    exact num_fin (e := 1) (hspec.1 hbad) _
  · rw [List.take_length] at hI1 hI2 hI3
    obtain ⟨p1, p2, p3, p4⟩ := hspec.2 hI1
    simp only [strS] at r0 r4
    cases ov with
    | true =>
      simp (maxSteps := 2000000) (disch := omega) only [W_skip, W_region, W_seq, W_cond, W_ret, seqQ_normal2, seqQ_exit2, seqQ_ret2, blockW_exit2, WL_nil2, WL_cons, execL_val2, putL_some2, condW_t2, condW_f2, wantedA, exec1, evalO, T.get_set, ofOpt, ofConst, finW_ret, giveW, resultsA, tupA, fb_eqlI, fb_eqS, neNil9, Nat.reduceLT, Nat.reduceEqDiff, if_true, if_false, true_and, Bool.false_eq_true, ez_P, ez_G, neNil2, neNil9, gneg, negO_i, fb_eqS, r0, r4, r5, r6, hts]
      exact num_fin (e := 3) (p2 rfl (hI3 rfl)) _
    | false =>
      obtain ⟨hv, rfl⟩ := hI2 rfl
      simp (maxSteps := 2000000) (disch := omega) only [W_skip, W_region, W_seq, W_cond, W_ret, seqQ_normal2, seqQ_exit2, seqQ_ret2, blockW_exit2, WL_nil2, WL_cons, execL_val2, putL_some2, condW_t2, condW_f2, wantedA, exec1, evalO, T.get_set, ofOpt, ofConst, finW_ret, giveW, resultsA, tupA, fb_eqlI, fb_eqS, neNil9, Nat.reduceLT, Nat.reduceEqDiff, if_true, if_false, true_and, Bool.false_eq_true, ez_P, ez_G, neNil2, neNil9, gneg, negO_i, fb_eqS, r0, r4, r5, r6, hts]
      exact num_fin (e := 0) (p1 rfl hv) _
end Go.Ax
