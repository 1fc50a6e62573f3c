/-
  The contract of Text, for any expression of at most six levels that is shaped as the page says.
-/
import Derived.Test.YthhkjjdhecpmlaaDoorTrI
import Derived.Test.YthhkjjdhecpmlaaDoorTy
namespace Go.Proofs.YthhkjjdhecpmlaaDoor
open Go.RowKit
set_option linter.unusedVariables false
set_option linter.unusedSimpArgs false

def kindE : Ex → Int | .mk k _ _ _ _ _ => k
def bndE : Ex → Int | .mk k _ n nm _ _ => bnd k n nm
/-- A kid's text as one that must bind so closely. -/
def kidT (f : Ex → ByteArray) (kids : List Ex) (i : Nat) (least : Int) : ByteArray :=
  match kids[i]? with
  | some e => wrapT (bndE e) least (f e)
  | none => ⟨#[]⟩
/-- The kind of the first kid. -/
def kind0 (kids : List Ex) : Int :=
  match kids with
  | e :: _ => kindE e
  | [] => 0
/-- An expression's text, out of its kids' texts. -/
def shapeT (f : Ex → ByteArray) (k n : Int) (nm : ByteArray) (off : Bool) (kids : List Ex) : ByteArray :=
  if k = 1 then ib n
  else if k = 2 then (if n = 0 then ⟨#[102, 97, 108, 115, 101]⟩ else ⟨#[116, 114, 117, 101]⟩)
  else if k = 3 then nm
  else if k = 4 then negT (kind0 kids) (kidT f kids 0 8)
  else if k = 5 then ⟨#[110, 111, 116, 32]⟩ ++ kidT f kids 0 4
  else if k = 6 then kidT f kids 0 (if signB nm = 5 then 6 else signB nm) ++ ⟨#[32]⟩ ++ nm ++ ⟨#[32]⟩ ++ kidT f kids 1 (signB nm + 1)
  else if k = 7 then ⟨#[105, 102, 32]⟩ ++ kidT f kids 0 0 ++ ⟨#[32, 116, 104, 101, 110, 32]⟩ ++ kidT f kids 1 0 ++ ⟨#[32, 101, 108, 115, 101, 32]⟩ ++ kidT f kids 2 0
  else if k = 8 then kidT f kids 0 2 ++ ⟨#[32, 45, 62, 32]⟩ ++ kidT f kids 1 1
  else if k = 9 then kidT f kids 0 0 ++ ⟨#[32, 102, 98, 121, 32]⟩ ++ kidT f kids 1 1
  else if k = 10 then ⟨#[112, 114, 101, 32]⟩ ++ kidT f kids 0 8
  else if k = 11 then (if off = true then kidT f kids 0 9 ++ (⟨#[32, 119, 104, 101, 110, 32, 110, 111, 116, 32]⟩ ++ nm) else kidT f kids 0 9 ++ (⟨#[32, 119, 104, 101, 110, 32]⟩ ++ nm))
  else if k = 12 then ⟨#[109, 101, 114, 103, 101, 32]⟩ ++ nm ++ ⟨#[32, 40]⟩ ++ kidT f kids 0 0 ++ ⟨#[41, 32, 40]⟩ ++ kidT f kids 1 0 ++ ⟨#[41]⟩
  else if k = 13 then nm ++ ⟨#[40]⟩ ++ joinT (kids.map f) ++ ⟨#[41]⟩
  else if kids = [] then ⟨#[97, 119, 97, 105, 116, 32]⟩ ++ nm else ⟨#[97, 119, 97, 105, 116, 32]⟩ ++ nm ++ (⟨#[32, 97, 102, 116, 101, 114, 32, 40]⟩ ++ joinT (kids.map f) ++ ⟨#[41]⟩)
/-- An expression's text, looking so many levels down. -/
def txtN : Nat → Ex → ByteArray
  | 0, _ => ⟨#[]⟩
  | d + 1, .mk k _ n nm off kids => shapeT (txtN d) k n nm off kids

/-- How many kids a kind has. -/
def need (k : Int) (m : Nat) : Prop :=
  ((k = 1 ∨ k = 2 ∨ k = 3) ∧ m = 0) ∨ ((k = 4 ∨ k = 5 ∨ k = 10 ∨ k = 11) ∧ m = 1) ∨ ((k = 6 ∨ k = 8 ∨ k = 9 ∨ k = 12) ∧ m = 2) ∨ (k = 7 ∧ m = 3) ∨ ((k = 13 ∨ k = 14) ∧ m ≤ 3)
/-- Shaped as the page says, of at most so many levels. -/
def Fit : Nat → Ex → Prop
  | 0, _ => False
  | d + 1, .mk k _ n nm _ kids => (-9223372036854775808 ≤ n ∧ n ≤ 9223372036854775807) ∧ nm.size ≤ 20 ∧ need k kids.length ∧ ∀ i (h : i < kids.length), Fit d kids[i]

theorem Fit.kind {d : Nat} {e : Ex} (h : Fit d e) : 1 ≤ kindE e ∧ kindE e ≤ 14 := by
  cases d with
  | zero => exact h.elim
  | succ d =>
    obtain ⟨k, a, n, nm, off, kids⟩ := e
    obtain ⟨_, _, hn, _⟩ := h
    unfold need at hn
    show 1 ≤ k ∧ k ≤ 14
    omega
theorem bnd_range (k n : Int) (nm : ByteArray) : 0 ≤ bnd k n nm ∧ bnd k n nm ≤ 10 := by
  have := signB_range nm
  unfold bnd
  repeat' (split; · omega)
  omega
theorem wrapT_zero (k n : Int) (nm t : ByteArray) : wrapT (bnd k n nm) 0 t = t := by
  unfold wrapT
  rw [if_neg (by have := bnd_range k n nm; omega)]
theorem pow_below {w w' : World} {B : Nat} (h : Pow w) (hb : Below B w w') (hB : 0 < B) : Pow w' := var?_below hb gPow hB h

/-- A kid's contract, out of that of the texts below. -/
theorem kid_any {d : Nat} {w : World} {B : Nat} {b o cap : Nat} {kids : List Ex} (k a n : Int) (nm : ByteArray) (off : Bool) (i : Nat) (least : Int)
    (hd : ∀ e v, Fit d e → Rep w B d e v → TextAt w B v (txtN d e) ∧ (txtN d e).size ≤ 100000)
    (hf : ∀ i (h : i < kids.length), Fit d kids[i]) (hB : B ≤ w.heap.size) (hbB : b < B) (hl : kids.length ≤ 1000000)
    (hk : ∀ i (h : i < kids.length), ∃ c0 c1 c2 c3 c4 c5, Six w b (o + i * 6) c0 c1 c2 c3 c4 c5 ∧ Rep w B d kids[i] (.agg #[c0, c1, c2, c3, c4, c5])) (hi : i < kids.length) :
    KidAt w (exVal k a n nm off (.slice (some ⟨b, o, none⟩) kids.length cap)) i least (kidT (txtN d) kids i least) ∧ (kidT (txtN d) kids i least).size ≤ 100002 := by
  obtain ⟨c0, c1, c2, c3, c4, c5, h6, hr⟩ := hk i hi
  have hfi := hf i hi
  have hkd := hfi.kind
  obtain ⟨hT, hsz⟩ := hd _ _ hfi hr
  have e1 : kidT (txtN d) kids i least = wrapT (bndE kids[i]) least (txtN d kids[i]) := by unfold kidT; rw [List.getElem?_eq_getElem hi]
  rw [e1]
  refine ⟨?_, Nat.le_trans (wrapT_size _ _ _) (by omega)⟩
  generalize kids[i] = E at hr hfi hkd hT hsz
  obtain ⟨k1, a1, n1, nm1, off1, ks1⟩ := E
  cases d with
  | zero => exact hr.elim
  | succ d =>
    obtain ⟨s, hv, _⟩ := hr
    injection hv with hv
    obtain ⟨rfl, rfl, rfl, rfl, rfl, rfl⟩ : c0 = .int .i64 k1 ∧ c1 = .int .i64 a1 ∧ c2 = .int .i64 n1 ∧ c3 = .string nm1 ∧ c4 = .bool off1 ∧ c5 = s := by simpa using hv
    exact kid_of k a n nm off b o kids.length cap i least k1 a1 n1 nm1 off1 _ _ B w (by omega) hkd hi hl hbB hB h6 hT
end Go.Proofs.YthhkjjdhecpmlaaDoor
