/-
  The contract of Text, for any expression of at most six levels that is shaped as the page says: the sizes, and the induction.
-/
import Derived.Test.YthhkjjdhecpmlaaDoorTrJ
import Derived.Lib.ItoaLen
namespace Go.Proofs.YthhkjjdhecpmlaaDoor
open Go.RowKit
set_option linter.unusedVariables false
set_option linter.unusedSimpArgs false

theorem ib_size {n : Int} (h : -9223372036854775808 ≤ n ∧ n ≤ 9223372036854775807) : (ib n).size ≤ 21 := by
  have := Lib.itoa_length_le n h.1 h.2
  unfold ib
  show (Lib.itoa n).toArray.size ≤ 21
  simpa using this
theorem kidT_size {f : Ex → ByteArray} {kids : List Ex} {M : Nat} (h : ∀ i (h : i < kids.length), (f kids[i]).size ≤ M) (i : Nat) (l : Int) : (kidT f kids i l).size ≤ M + 2 := by
  unfold kidT
  by_cases hi : i < kids.length
  · rw [List.getElem?_eq_getElem hi]
    exact Nat.le_trans (wrapT_size _ _ _) (by have := h i hi; omega)
  · rw [List.getElem?_eq_none (by omega)]
    exact Nat.zero_le _
theorem joinT_size {f : Ex → ByteArray} {kids : List Ex} {M : Nat} (h : ∀ i (h : i < kids.length), (f kids[i]).size ≤ M) : (joinT (kids.map f)).size ≤ kids.length * M + 2 * kids.length := by
  have h1 := join_le (M := M) [44, 32] (kids.map f) (fun t ht => by
    obtain ⟨e, he, rfl⟩ := List.mem_map.1 ht
    obtain ⟨i, hi, rfl⟩ := List.getElem_of_mem he
    exact h i hi)
  unfold joinT
  show Array.size _ ≤ _
  simpa using h1
theorem negT_size (k : Int) (t : ByteArray) : (negT k t).size ≤ t.size + 3 := by
  unfold negT
  split
  · rw [ByteArray.size_append, ByteArray.size_append]; show 2 + t.size + 1 ≤ _; omega
  · rw [ByteArray.size_append]; show 1 + t.size ≤ _; omega
theorem shapeT_size {f : Ex → ByteArray} {kids : List Ex} {M : Nat} (h : ∀ i (h : i < kids.length), (f kids[i]).size ≤ M) (k n : Int) (nm : ByteArray) (off : Bool)
    (hn : -9223372036854775808 ≤ n ∧ n ≤ 9223372036854775807) (hnm : nm.size ≤ 20) (hk : kids.length ≤ 3) : (shapeT f k n nm off kids).size ≤ 3 * M + 66 := by
  have hK := kidT_size h
  have hJ := joinT_size h
  have hJ2 : (joinT (kids.map f)).size ≤ 3 * M + 6 := by
    have : kids.length * M ≤ 3 * M := Nat.mul_le_mul_right _ hk
    omega
  have hI := ib_size hn
  have h00 := hK 0 0; have h01 := hK 1 0; have h02 := hK 2 0; have h08 := hK 0 8; have h04 := hK 0 4; have h0a := hK 0 (if signB nm = 5 then 6 else signB nm); have h1a := hK 1 (signB nm + 1)
  have h06 := hK 0 6; have h0s := hK 0 (signB nm); have h0b := hK 0 2; have h1b := hK 1 1; have h09 := hK 0 9
  have hN := negT_size (kind0 kids) (kidT f kids 0 8)
  have z0 : (⟨#[110, 111, 116, 32]⟩ : ByteArray).size = 4 := rfl
  have z1 : (⟨#[32]⟩ : ByteArray).size = 1 := rfl
  have z2 : (⟨#[105, 102, 32]⟩ : ByteArray).size = 3 := rfl
  have z3 : (⟨#[32, 116, 104, 101, 110, 32]⟩ : ByteArray).size = 6 := rfl
  have z4 : (⟨#[32, 101, 108, 115, 101, 32]⟩ : ByteArray).size = 6 := rfl
  have z5 : (⟨#[32, 45, 62, 32]⟩ : ByteArray).size = 4 := rfl
  have z6 : (⟨#[32, 102, 98, 121, 32]⟩ : ByteArray).size = 5 := rfl
  have z7 : (⟨#[112, 114, 101, 32]⟩ : ByteArray).size = 4 := rfl
  have z8 : (⟨#[32, 119, 104, 101, 110, 32, 110, 111, 116, 32]⟩ : ByteArray).size = 10 := rfl
  have z9 : (⟨#[32, 119, 104, 101, 110, 32]⟩ : ByteArray).size = 6 := rfl
  have z10 : (⟨#[109, 101, 114, 103, 101, 32]⟩ : ByteArray).size = 6 := rfl
  have z11 : (⟨#[32, 40]⟩ : ByteArray).size = 2 := rfl
  have z12 : (⟨#[41, 32, 40]⟩ : ByteArray).size = 3 := rfl
  have z13 : (⟨#[41]⟩ : ByteArray).size = 1 := rfl
  have z14 : (⟨#[40]⟩ : ByteArray).size = 1 := rfl
  have z15 : (⟨#[97, 119, 97, 105, 116, 32]⟩ : ByteArray).size = 6 := rfl
  have z16 : (⟨#[32, 97, 102, 116, 101, 114, 32, 40]⟩ : ByteArray).size = 8 := rfl
  have z17 : (⟨#[102, 97, 108, 115, 101]⟩ : ByteArray).size = 5 := rfl
  have z18 : (⟨#[116, 114, 117, 101]⟩ : ByteArray).size = 4 := rfl
  unfold shapeT
  by_cases g1 : k = 1
  · rw [if_pos g1]; (try simp only [ByteArray.size_append]); (try simp only [z0, z1, z2, z3, z4, z5, z6, z7, z8, z9, z10, z11, z12, z13, z14, z15, z16, z17, z18]); omega
  rw [if_neg g1]
  by_cases g2 : k = 2
  · rw [if_pos g2]
    by_cases hz : n = 0
    · rw [if_pos hz]; (try simp only [ByteArray.size_append]); (try simp only [z0, z1, z2, z3, z4, z5, z6, z7, z8, z9, z10, z11, z12, z13, z14, z15, z16, z17, z18]); omega
    · rw [if_neg hz]; (try simp only [ByteArray.size_append]); (try simp only [z0, z1, z2, z3, z4, z5, z6, z7, z8, z9, z10, z11, z12, z13, z14, z15, z16, z17, z18]); omega
  rw [if_neg g2]
  by_cases g3 : k = 3
  · rw [if_pos g3]; (try simp only [ByteArray.size_append]); (try simp only [z0, z1, z2, z3, z4, z5, z6, z7, z8, z9, z10, z11, z12, z13, z14, z15, z16, z17, z18]); omega
  rw [if_neg g3]
  by_cases g4 : k = 4
  · rw [if_pos g4]; (try simp only [ByteArray.size_append]); (try simp only [z0, z1, z2, z3, z4, z5, z6, z7, z8, z9, z10, z11, z12, z13, z14, z15, z16, z17, z18]); omega
  rw [if_neg g4]
  by_cases g5 : k = 5
  · rw [if_pos g5]; (try simp only [ByteArray.size_append]); (try simp only [z0, z1, z2, z3, z4, z5, z6, z7, z8, z9, z10, z11, z12, z13, z14, z15, z16, z17, z18]); omega
  rw [if_neg g5]
  by_cases g6 : k = 6
  · rw [if_pos g6]; (try simp only [ByteArray.size_append]); (try simp only [z0, z1, z2, z3, z4, z5, z6, z7, z8, z9, z10, z11, z12, z13, z14, z15, z16, z17, z18]); omega
  rw [if_neg g6]
  by_cases g7 : k = 7
  · rw [if_pos g7]; (try simp only [ByteArray.size_append]); (try simp only [z0, z1, z2, z3, z4, z5, z6, z7, z8, z9, z10, z11, z12, z13, z14, z15, z16, z17, z18]); omega
  rw [if_neg g7]
  by_cases g8 : k = 8
  · rw [if_pos g8]; (try simp only [ByteArray.size_append]); (try simp only [z0, z1, z2, z3, z4, z5, z6, z7, z8, z9, z10, z11, z12, z13, z14, z15, z16, z17, z18]); omega
  rw [if_neg g8]
  by_cases g9 : k = 9
  · rw [if_pos g9]; (try simp only [ByteArray.size_append]); (try simp only [z0, z1, z2, z3, z4, z5, z6, z7, z8, z9, z10, z11, z12, z13, z14, z15, z16, z17, z18]); omega
  rw [if_neg g9]
  by_cases g10 : k = 10
  · rw [if_pos g10]; (try simp only [ByteArray.size_append]); (try simp only [z0, z1, z2, z3, z4, z5, z6, z7, z8, z9, z10, z11, z12, z13, z14, z15, z16, z17, z18]); omega
  rw [if_neg g10]
  by_cases g11 : k = 11
  · rw [if_pos g11]
    by_cases hz : off = true
    · rw [if_pos hz]; (try simp only [ByteArray.size_append]); (try simp only [z0, z1, z2, z3, z4, z5, z6, z7, z8, z9, z10, z11, z12, z13, z14, z15, z16, z17, z18]); omega
    · rw [if_neg hz]; (try simp only [ByteArray.size_append]); (try simp only [z0, z1, z2, z3, z4, z5, z6, z7, z8, z9, z10, z11, z12, z13, z14, z15, z16, z17, z18]); omega
  rw [if_neg g11]
  by_cases g12 : k = 12
  · rw [if_pos g12]; (try simp only [ByteArray.size_append]); (try simp only [z0, z1, z2, z3, z4, z5, z6, z7, z8, z9, z10, z11, z12, z13, z14, z15, z16, z17, z18]); omega
  rw [if_neg g12]
  by_cases g13 : k = 13
  · rw [if_pos g13]; (try simp only [ByteArray.size_append]); (try simp only [z0, z1, z2, z3, z4, z5, z6, z7, z8, z9, z10, z11, z12, z13, z14, z15, z16, z17, z18]); omega
  rw [if_neg g13]
  by_cases hz : kids = []
  · rw [if_pos hz]; (try simp only [ByteArray.size_append]); (try simp only [z0, z1, z2, z3, z4, z5, z6, z7, z8, z9, z10, z11, z12, z13, z14, z15, z16, z17, z18]); omega
  · rw [if_neg hz]; (try simp only [ByteArray.size_append]); (try simp only [z0, z1, z2, z3, z4, z5, z6, z7, z8, z9, z10, z11, z12, z13, z14, z15, z16, z17, z18]); omega
theorem need_le {k : Int} {m : Nat} (h : need k m) : m ≤ 3 := by unfold need at h; omega
theorem txt_size : ∀ (d : Nat) (e : Ex), Fit d e → (txtN d e).size + 33 ≤ 33 * 3 ^ d
  | 0, _, h => h.elim
  | d + 1, .mk k a n nm off kids, h => by
    obtain ⟨hn, hnm, hk, hf⟩ := h
    have h1 := shapeT_size (f := txtN d) (M := 33 * 3 ^ d - 33) (fun i hi => by have := txt_size d _ (hf i hi); omega) k n nm off hn hnm (need_le hk)
    have h2 : 1 ≤ 3 ^ d := Nat.one_le_pow _ _ (by decide)
    show (shapeT (txtN d) k n nm off kids).size + 33 ≤ 33 * 3 ^ (d + 1)
    rw [Nat.pow_succ]
    omega
end Go.Proofs.YthhkjjdhecpmlaaDoor
