/-
  What comes in as a tree (a struct that holds a row of itself): read as data, it can be read so many levels down (Raw).
-/
import Derived.Test.YthhkjjdhecpmlaaDoorSo
import Derived.Deep.Slices
import Derived.Deep.Fields
import Derived.ChangeSame
import Derived.OpenShut
namespace Go.Proofs.YthhkjjdhecpmlaaDoor
open Go.ChangeShapes Go.WideShapes Go.Deep Go.RowKit
set_option linter.unusedVariables false
set_option linter.unusedSimpArgs false
theorem cells45 : Tryd.prog.cellsOf 45 = 6 := by kernel_rfl
theorem cellsOf3 : Tryd.prog.cellsOf 3 = 1 := by kernel_rfl
theorem cellsOf2 : Tryd.prog.cellsOf 2 = 1 := by kernel_rfl
theorem cellsOf9 : Tryd.prog.cellsOf 9 = 1 := by kernel_rfl
theorem cellsOf4 : Tryd.prog.cellsOf 4 = 1 := by kernel_rfl
theorem cellsOf43 : Tryd.prog.cellsOf 43 = 1 := by kernel_rfl
section
variable {H : Type} {enc : TypeId × Value → H} {w : World}
/-- The fields of a tree that can be read. -/
theorem trod_six {fuel : Nat} {cs : List Value} {x : DataW H × List MemPlace} (h : DataW.trod enc Tryd.prog w 0 (fun _ => true) true fuel 45 cs = some x) :
    ∃ (k a n : Int) (nm : ByteArray) (off : Bool) (c5 : Value) (m : Nat) (y : DataW H × List MemPlace), cs = [.int .i64 k, .int .i64 a, .int .i64 n, .string nm, .bool off, c5] ∧ (-9223372036854775808 ≤ n ∧ n ≤ 9223372036854775807) ∧ DataW.trod enc Tryd.prog w 0 (fun _ => true) true m 43 [c5] = some y := by
  obtain ⟨xs, n, _, _, hlen, hx, hg⟩ := DataW.trod_struct Tryd.underlying45 h
  rw [cells45] at hlen
  have hx6 : xs.length = 6 := hx
  obtain ⟨c0, c1, c2, c3, c4, c5, rfl⟩ : ∃ c0 c1 c2 c3 c4 c5, cs = [c0, c1, c2, c3, c4, c5] := by
    cases cs with
    | nil => simp at hlen
    | cons c0 r => cases r with
      | nil => simp at hlen
      | cons c1 r => cases r with
        | nil => simp at hlen
        | cons c2 r => cases r with
          | nil => simp at hlen
          | cons c3 r => cases r with
            | nil => simp at hlen
            | cons c4 r => cases r with
              | nil => simp at hlen
              | cons c5 r => cases r with
                | nil => exact ⟨_, _, _, _, _, _, rfl⟩
                | cons c6 r => simp at hlen
  have g0 : DataW.trod enc Tryd.prog w 0 (fun _ => true) true n 3 (([c0, c1, c2, c3, c4, c5].drop 0).take (Tryd.prog.cellsOf 3)) = xs[0]? := hg 0 _ rfl
  have g2 : DataW.trod enc Tryd.prog w 0 (fun _ => true) true n 2 (([c0, c1, c2, c3, c4, c5].drop 2).take (Tryd.prog.cellsOf 2)) = xs[2]? := hg 2 _ rfl
  have g1 : DataW.trod enc Tryd.prog w 0 (fun _ => true) true n 3 (([c0, c1, c2, c3, c4, c5].drop 1).take (Tryd.prog.cellsOf 3)) = xs[1]? := hg 1 _ rfl
  have g3 : DataW.trod enc Tryd.prog w 0 (fun _ => true) true n 9 (([c0, c1, c2, c3, c4, c5].drop 3).take (Tryd.prog.cellsOf 9)) = xs[3]? := hg 3 _ rfl
  have g4 : DataW.trod enc Tryd.prog w 0 (fun _ => true) true n 4 (([c0, c1, c2, c3, c4, c5].drop 4).take (Tryd.prog.cellsOf 4)) = xs[4]? := hg 4 _ rfl
  have g5 : DataW.trod enc Tryd.prog w 0 (fun _ => true) true n 43 (([c0, c1, c2, c3, c4, c5].drop 5).take (Tryd.prog.cellsOf 43)) = xs[5]? := hg 5 _ rfl
  rw [List.getElem?_eq_getElem (by omega)] at g0 g1 g2 g3 g4 g5
  rw [cellsOf3] at g0 g1
  rw [cellsOf2] at g2
  rw [cellsOf9] at g3
  rw [cellsOf4] at g4
  rw [cellsOf43] at g5
  obtain ⟨k, h0, _⟩ := DataW.trod_int Tryd.underlying3 g0
  obtain ⟨a, h1, _⟩ := DataW.trod_int Tryd.underlying3 g1
  obtain ⟨z, h2, _, hz⟩ := DataW.trod_int Tryd.underlying2 g2
  obtain ⟨nm, h3, _⟩ := DataW.trod_string Tryd.underlying9 g3
  obtain ⟨off, h4, _⟩ := DataW.trod_bool Tryd.underlying4 g4
  simp at h0 h1 h2 h3 h4
  subst h0 h1 h2 h3 h4
  refine ⟨k, a, z, nm, off, c5, n, _, rfl, ?_, g5⟩
  have e1 : IntKind.i64.min = -9223372036854775808 := by decide
  have e2 : IntKind.i64.max = 9223372036854775807 := by decide
  simp [Lit.wf, e1, e2] at hz
  omega
set_option maxRecDepth 20000 in
theorem raw_of_trod : ∀ (d : Nat) {fuel : Nat} {cs : List Value} {x : DataW H × List MemPlace}, DataW.trod enc Tryd.prog w 0 (fun _ => true) true fuel 45 cs = some x → Raw w w.heap.size d (.agg cs.toArray) := by
  intro d
  induction d with
  | zero =>
    intro fuel cs x h
    obtain ⟨k, a, n, nm, off, c5, m, y, rfl, hn, h5⟩ := trod_six h
    rcases open_slice Tryd.underlying43 h5 with ⟨hc, _⟩ | ⟨ad, len, cap, m2, n2, D, Pl, hc, _, hl, hm, _⟩
    · simp at hc; subst hc; exact ⟨k, a, n, nm, off, none, 0, 0, rfl, hn, by omega⟩
    · simp at hc; subst hc; exact ⟨k, a, n, nm, off, some ad, len, cap, rfl, hn, by unfold maxLen at hm; omega⟩
  | succ d ih =>
    intro fuel cs x h
    obtain ⟨k, a, n, nm, off, c5, m, y, rfl, hn, h5⟩ := trod_six h
    rcases open_slice Tryd.underlying43 h5 with ⟨hc, _⟩ | ⟨ad, len, cap, m2, n2, D, Pl, hc, _, hl, hm, hmm, _, hi⟩
    · simp at hc; subst hc; exact ⟨k, a, n, nm, off, none, 0, 0, rfl, hn, by omega, fun i hi => absurd hi (Nat.not_lt_zero _)⟩
    · simp at hc; subst hc
      refine ⟨k, a, n, nm, off, some ad, len, cap, rfl, hn, by unfold maxLen at hm; omega, fun i hil => ?_⟩
      obtain ⟨cs', hcs, ht⟩ := hi i (by rw [hmm]; simp; omega)
      rw [cells45] at hcs
      obtain ⟨_, hcl, hat⟩ := World.cells?_some hcs
      obtain ⟨k1, a1, n1, nm1, off1, d5, m1, y1, rfl, _, _⟩ := trod_six ht
      have hr := ih ht
      have q0 := hat 0 (by omega)
      obtain ⟨cs0, hcs0, ht0⟩ := hi 0 (by rw [hmm]; simp; omega)
      rw [cells45] at hcs0
      obtain ⟨_, _, hat0⟩ := World.cells?_some hcs0
      obtain ⟨k9, a9, n9, nm9, off9, d9, m9, y9, rfl, _, _⟩ := trod_six ht0
      have p0 := hat0 0 (by omega)
      obtain ⟨b, o, sp⟩ := ad
      have hspot : sp = none := by simpa [Addr.add] using World.cell?_spot p0
      subst hspot
      have q1 := hat 1 (by omega)
      have q2 := hat 2 (by omega)
      have q3 := hat 3 (by omega)
      have q4 := hat 4 (by omega)
      have q5 := hat 5 (by omega)
      have A : ∀ j, ((⟨b, o, none⟩ : Addr).add (i * 6)).add j = ⟨b, o + i * 6 + j, none⟩ := fun j => by
        have h1 : ∀ (b o j : Nat), (⟨b, o, none⟩ : Addr).add j = ⟨b, o + j, none⟩ := fun b o j => by unfold Addr.add; split <;> simp_all
        rw [h1, h1]
      rw [A] at q0 q1 q2 q3 q4 q5
      exact ⟨b, o, _, _, _, _, _, _, rfl, World.block_lt_of_cell? w _ q0, ⟨q0, q1, q2, q3, q4, q5⟩, hr⟩
end
end Go.Proofs.YthhkjjdhecpmlaaDoor
