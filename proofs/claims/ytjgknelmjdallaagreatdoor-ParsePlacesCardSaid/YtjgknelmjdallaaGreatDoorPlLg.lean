/-
  The lexer as a function of which one knows what it answers.
-/
import Derived.Test.YtjgknelmjdallaaGreatDoorPlLf
noncomputable section
namespace Go.Ax
open Go.RowKit Go.Proofs
set_option linter.unusedVariables false
set_option linter.unusedSimpArgs false
set_option maxRecDepth 100000

/-- The same, for the kernel: from what is left of the text. -/
def oP (F L : Nat) : Nat → List UInt8 → Nat → Option ((Nat × Nat) ⊕ List Tk)
  | 0, _, _ => none
  | n + 1, r, i => match r with
    | [] => some (.inr [⟨5, L, [], 0⟩])
    | b :: r' => match Jk (b :: r') i with
      | none => none
      | some p => if p.2 = 0 then (match oP F L n (((b :: r').drop p.1.text.length).drop (Je F ((b :: r').drop p.1.text.length))) (i + p.1.text.length + Je F ((b :: r').drop p.1.text.length)) with
          | none => none
          | some (.inl x) => some (.inl x)
          | some (.inr ts) => some (.inr (p.1 :: ts))) else some (.inl (i, p.2))
def lexK (L : Nat) (l : List UInt8) : Option ((Nat × Nat) ⊕ List Tk) := Bool.rec (motive := fun _ => Option ((Nat × Nat) ⊕ List Tk)) (some (.inl (4000, 3))) (oP (L + 1) L (L + 1) (l.drop (Je (L + 1) l)) (Je (L + 1) l)) (Nat.ble L 4000)
def iW (args : List AV) (S : St) : R := match args with
  | [.v (.string s)] => if s.size ≤ 1000000 then (match lexK s.data.toList.length s.data.toList with
      | some (.inr ts) => .ret (.tup [.sl 0 0 4 (ts.map Fm), .agg (Eo 0 0)]) S
      | some (.inl x) => .ret (.tup [.nils, .agg (Eo x.1 x.2)]) S
      | none => .fail) else .fail
  | _ => .fail
/-- Values that hang on no name. -/
def AV.plain : AV → Bool
  | .v _ => true
  | _ => false
theorem VR.plain {γ γ' : Gh} {w w' : World} {a : AV} {x : Value} (h : VR γ w a x) (hp : a.plain = true) : VR γ' w' a x := by
  cases h with
  | v x h => exact .v x h
  | _ => cases hp
def X8 : List AV → Option (List (List UInt8))
  | [] => some []
  | .v (.string s) :: r => match X8 r with
    | some l => some (s.data.toList :: l)
    | none => none
  | _ => none
/-- Does a text stand in a row of texts? -/
def memK (s : List UInt8) (ws : List (List UInt8)) : Bool := List.rec (motive := fun _ => Bool) false (fun w _ ih => Bool.rec (motive := fun _ => Bool) ih true (Jp s w)) ws
def Lh (args : List AV) (S : St) : R := match args with
  | [.sl tok off 1 es, .v (.string s)] => match X8 es with
    | some ws => if ws.length ≤ 100000 then .ret (.v (.bool (memK s.data.toList ws))) S else .fail
    | none => .fail
  | _ => .fail
/-- The surroundings, with the lexer and the look into a row of texts known. -/
def knownI (k : Nat) : Option (List AV → St → R) := Bool.rec (Bool.rec (E1.I k) (some Lh) (Nat.beq k 129)) (some iW) (Nat.beq k 25)
def E2 : Env := { P := Tryz.prog, G := gR, F := E1.F, I := knownI, M := rowM }
end Go.Ax
