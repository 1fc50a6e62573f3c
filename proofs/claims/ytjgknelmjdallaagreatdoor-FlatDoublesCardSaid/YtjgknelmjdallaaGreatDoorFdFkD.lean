/-
  FlatDoubles: short words for what lies in memory.
-/
import Derived.Test.YtjgknelmjdallaaGreatDoorFdTt
import Derived.Test.YtjgknelmjdallaaGreatDoorFdVa
namespace Go.Ax
def kI (n : Int) : AV := .v (.int .i64 n)
def kS (l : List UInt8) : AV := .v (.string ⟨⟨l⟩⟩)
def aV (v : Int) : AV := .agg [.v (.bool false), kI 0, kI v]
def sC : AV := .v (.string ⟨#[99, 111, 112, 121]⟩)
def sP : AV := .v (.string ⟨#[43]⟩)
def bF : AV := .v (.bool false)
def bT : AV := .v (.bool true)
def oC (p : Nat × Cell) : Nat × Option Cell := (p.1, some p.2)
def qC (d : Int) (t : Nat) (a : Int) : AV := .agg [sC, kI d, .sl t 0 3 [aV a], .nils]
def qP (d : Int) (t : Nat) (a b : Int) : AV := .agg [sP, kI d, .sl t 0 3 [aV a, aV b], .nils]
end Go.Ax
