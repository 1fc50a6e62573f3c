/-
  Package girandoleref01: number.
-/
import Derived.Test.YthhkjjdhecpmlaaDoorRfB
namespace Go.Proofs.YthhkjjdhecpmlaaDoor
open Go.RowKit

/-- The number of a row of digits, and the error's. -/
def refNum (t : ByteArray) : Nat × Int :=
  if 1 < t.size ∧ t.data.toList.head? = some 48 then (0, 1) else if 9223372036854775808 < numV 0 t.data.toList then (0, 3) else (numV 0 t.data.toList, 0)
theorem refNum_zero {t : ByteArray} (h1 : 1 < t.size) (hp : 0 < t.size) (h2 : (((t[0]'hp).toNat : Int) == 48) = true) : refNum t = (0, 1) := by
  unfold refNum
  rw [if_pos ⟨h1, by
    rw [head_of hp]
    have := beq_iff_eq.1 h2
    exact congrArg some (UInt8.toNat_inj.1 (by show (t[0]'hp).toNat = 48; omega))⟩]
theorem refNum_pass {t : ByteArray} (h : t.size ≤ 1 ∨ ∃ hp : 0 < t.size, (((t[0]'hp).toNat : Int) == 48) = false) :
    refNum t = if 9223372036854775808 < numV 0 t.data.toList then (0, 3) else (numV 0 t.data.toList, 0) := by
  unfold refNum
  rw [if_neg]
  rintro ⟨h1, h2⟩
  rcases h with h | ⟨hp, h⟩
  · omega
  · rw [head_of hp] at h2
    have h3 := Option.some.inj h2
    rw [h3] at h
    exact absurd h (by decide)
theorem numV_step {t : ByteArray} {i n : Nat} (h : i < t.size) : numV n (t.data.toList.drop i) = numV (n * 10 + (t[i].toNat - 48)) (t.data.toList.drop (i + 1)) := by
  rw [List.drop_eq_getElem_cons (by simpa using h)]; rfl

set_option maxHeartbeats 2000000 in
set_option maxRecDepth 20000 in
theorem number_tail (t : ByteArray) (w : World) (ht : t.size ≤ 100000) (hd : Digs t.data.toList) (V : Nat) (hV : numV 0 t.data.toList = V) (r : Nat × Int)
    (hr : r = if 9223372036854775808 < V then (0, 3) else (V, 0)) (hz : refNum t = r) (hn : t.size ≤ 1 ∨ ∃ hp : 0 < t.size, (((t[0]'hp).toNat : Int) == 48) = false) :
    Calls Tryd.prog 82 #[.string t] w fun e w' => e = .returned (.tuple #[.int .u64 (refNum t).1, .int .i64 (refNum t).2]) ∧ w = w' := by
  have HD := Lib.hid hd; have HV := Lib.hid hV; have HR := Lib.hid (hz.trans hr); clear hd hV hr hz
  rcases hn with h1 | ⟨hp, h2⟩
  · go_enter Tryd.func82, Tryd.ntmps82
    go_wp2_with fail
    go_loop [4, 5] (fun v t' => ∃ i n : Nat, i ≤ t.size ∧ t' = .int .i64 i ∧ v = .int .u64 n ∧ Hid (numV n (t.data.toList.drop i) = V ∧ n ≤ 9223372036854775808)) (fun _ t' => t.size - (intOf t').toNat)
    case atStart => exact ⟨0, 0, Nat.zero_le _, rfl, rfl, Lib.hid ⟨HV.out, by omega⟩⟩
    case round =>
      obtain ⟨i, n, hi, rfl, rfl, HJ⟩ := hrel
      by_cases hlt : i < t.size
      · obtain ⟨c, hc⟩ : ∃ c, t[i] = c := ⟨_, rfl⟩
        have hdc := HD.out c (by rw [← hc]; exact List.getElem_mem (l := t.data.toList) (by simpa using hlt))
        have hst := numV_step (n := n) hlt
        rw [hc] at hst
        have HST := Lib.hid (hst.symm.trans HJ.out.1)
        have HGE := Lib.hid (numV_ge (t.data.toList.drop (i + 1)) (n * 10 + (c.toNat - 48)))
        clear hst
        by_cases hbig : (922337203685477580 : Int) < (n : Int)
        · have hv : refNum t = (0, 3) := by
            rw [HR.out, if_pos]
            have h1 := HGE.out; rw [HST.out] at h1; omega
          have HVV := Lib.hid hv; clear hv
          go_wp2_with fail
          go_ret2
          rw [HVV.out]; exact ⟨rfl, rfl⟩
        · have hd1 : (48 : Int) ≤ c.toNat := by omega
          have hd2 : (c.toNat : Int) ≤ 57 := by omega
          have hc2 : ((n * 10 + (c.toNat - 48) : Nat) : Int) = 10 * (n : Int) + ((c.toNat : Int) - 48) := by omega
          obtain ⟨m, hm⟩ : ∃ m, n * 10 + (c.toNat - 48) = m := ⟨_, rfl⟩
          rw [hm] at hc2
          have HM := Lib.hid hm; have HC2 := Lib.hid hc2; clear hm hc2 hdc
          have hs1 : 10 * (n : Int) + ((c.toNat : Int) - 48) = (m : Int) := HC2.out.symm
          by_cases hbig2 : (9223372036854775808 : Int) < (m : Int)
          · have hv : refNum t = (0, 3) := by
              rw [HR.out, if_pos]
              have h1 := HGE.out; rw [HST.out, HM.out] at h1; omega
            have HVV := Lib.hid hv; clear hv
            go_wp2_with fail
            go_ret2
            rw [HVV.out]; exact ⟨rfl, rfl⟩
          · have HLE := Lib.hid (show m ≤ 9223372036854775808 by omega)
            go_wp2_with fail
            go_round
            case rel => exact ⟨i + 1, m, by omega, by go_num, rfl, Lib.hid ⟨by rw [← HM.out]; exact HST.out, HLE.out⟩⟩
            case measure => simp [intOf]; omega
      · have he : n = V := by
          have h1 := HJ.out.1
          rw [List.drop_eq_nil_of_le (by simpa using Nat.le_of_not_lt hlt)] at h1
          exact h1
        have hv : refNum t = (n, 0) := by
          rw [HR.out, if_neg (by have := HJ.out.2; omega), he]
        have HVV := Lib.hid hv; clear hv he
        go_wp2_with fail
        go_ret2
        rw [HVV.out]; exact ⟨rfl, rfl⟩
  · by_cases h1 : 1 < t.size
    · go_enter Tryd.func82, Tryd.ntmps82
      go_wp2_with fail
      go_loop [4, 5] (fun v t' => ∃ i n : Nat, i ≤ t.size ∧ t' = .int .i64 i ∧ v = .int .u64 n ∧ Hid (numV n (t.data.toList.drop i) = V ∧ n ≤ 9223372036854775808)) (fun _ t' => t.size - (intOf t').toNat)
      case atStart => exact ⟨0, 0, Nat.zero_le _, rfl, rfl, Lib.hid ⟨HV.out, by omega⟩⟩
      case round =>
        obtain ⟨i, n, hi, rfl, rfl, HJ⟩ := hrel
        by_cases hlt : i < t.size
        · obtain ⟨c, hc⟩ : ∃ c, t[i] = c := ⟨_, rfl⟩
          have hdc := HD.out c (by rw [← hc]; exact List.getElem_mem (l := t.data.toList) (by simpa using hlt))
          have hst := numV_step (n := n) hlt
          rw [hc] at hst
          have HST := Lib.hid (hst.symm.trans HJ.out.1)
          have HGE := Lib.hid (numV_ge (t.data.toList.drop (i + 1)) (n * 10 + (c.toNat - 48)))
          clear hst
          by_cases hbig : (922337203685477580 : Int) < (n : Int)
          · have hv : refNum t = (0, 3) := by
              rw [HR.out, if_pos]
              have h1 := HGE.out; rw [HST.out] at h1; omega
            have HVV := Lib.hid hv; clear hv
            go_wp2_with fail
            go_ret2
            rw [HVV.out]; exact ⟨rfl, rfl⟩
          · have hd1 : (48 : Int) ≤ c.toNat := by omega
            have hd2 : (c.toNat : Int) ≤ 57 := by omega
            have hc2 : ((n * 10 + (c.toNat - 48) : Nat) : Int) = 10 * (n : Int) + ((c.toNat : Int) - 48) := by omega
            obtain ⟨m, hm⟩ : ∃ m, n * 10 + (c.toNat - 48) = m := ⟨_, rfl⟩
            rw [hm] at hc2
            have HM := Lib.hid hm; have HC2 := Lib.hid hc2; clear hm hc2 hdc
            have hs1 : 10 * (n : Int) + ((c.toNat : Int) - 48) = (m : Int) := HC2.out.symm
            by_cases hbig2 : (9223372036854775808 : Int) < (m : Int)
            · have hv : refNum t = (0, 3) := by
                rw [HR.out, if_pos]
                have h1 := HGE.out; rw [HST.out, HM.out] at h1; omega
              have HVV := Lib.hid hv; clear hv
              go_wp2_with fail
              go_ret2
              rw [HVV.out]; exact ⟨rfl, rfl⟩
            · have HLE := Lib.hid (show m ≤ 9223372036854775808 by omega)
              go_wp2_with fail
              go_round
              case rel => exact ⟨i + 1, m, by omega, by go_num, rfl, Lib.hid ⟨by rw [← HM.out]; exact HST.out, HLE.out⟩⟩
              case measure => simp [intOf]; omega
        · have he : n = V := by
            have h1 := HJ.out.1
            rw [List.drop_eq_nil_of_le (by simpa using Nat.le_of_not_lt hlt)] at h1
            exact h1
          have hv : refNum t = (n, 0) := by
            rw [HR.out, if_neg (by have := HJ.out.2; omega), he]
          have HVV := Lib.hid hv; clear hv he
          go_wp2_with fail
          go_ret2
          rw [HVV.out]; exact ⟨rfl, rfl⟩
    · go_enter Tryd.func82, Tryd.ntmps82
      go_wp2_with fail
      go_loop [4, 5] (fun v t' => ∃ i n : Nat, i ≤ t.size ∧ t' = .int .i64 i ∧ v = .int .u64 n ∧ Hid (numV n (t.data.toList.drop i) = V ∧ n ≤ 9223372036854775808)) (fun _ t' => t.size - (intOf t').toNat)
      case atStart => exact ⟨0, 0, Nat.zero_le _, rfl, rfl, Lib.hid ⟨HV.out, by omega⟩⟩
      case round =>
        obtain ⟨i, n, hi, rfl, rfl, HJ⟩ := hrel
        by_cases hlt : i < t.size
        · obtain ⟨c, hc⟩ : ∃ c, t[i] = c := ⟨_, rfl⟩
          have hdc := HD.out c (by rw [← hc]; exact List.getElem_mem (l := t.data.toList) (by simpa using hlt))
          have hst := numV_step (n := n) hlt
          rw [hc] at hst
          have HST := Lib.hid (hst.symm.trans HJ.out.1)
          have HGE := Lib.hid (numV_ge (t.data.toList.drop (i + 1)) (n * 10 + (c.toNat - 48)))
          clear hst
          by_cases hbig : (922337203685477580 : Int) < (n : Int)
          · have hv : refNum t = (0, 3) := by
              rw [HR.out, if_pos]
              have h1 := HGE.out; rw [HST.out] at h1; omega
            have HVV := Lib.hid hv; clear hv
            go_wp2_with fail
            go_ret2
            rw [HVV.out]; exact ⟨rfl, rfl⟩
          · have hd1 : (48 : Int) ≤ c.toNat := by omega
            have hd2 : (c.toNat : Int) ≤ 57 := by omega
            have hc2 : ((n * 10 + (c.toNat - 48) : Nat) : Int) = 10 * (n : Int) + ((c.toNat : Int) - 48) := by omega
            obtain ⟨m, hm⟩ : ∃ m, n * 10 + (c.toNat - 48) = m := ⟨_, rfl⟩
            rw [hm] at hc2
            have HM := Lib.hid hm; have HC2 := Lib.hid hc2; clear hm hc2 hdc
            have hs1 : 10 * (n : Int) + ((c.toNat : Int) - 48) = (m : Int) := HC2.out.symm
            by_cases hbig2 : (9223372036854775808 : Int) < (m : Int)
            · have hv : refNum t = (0, 3) := by
                rw [HR.out, if_pos]
                have h1 := HGE.out; rw [HST.out, HM.out] at h1; omega
              have HVV := Lib.hid hv; clear hv
              go_wp2_with fail
              go_ret2
              rw [HVV.out]; exact ⟨rfl, rfl⟩
            · have HLE := Lib.hid (show m ≤ 9223372036854775808 by omega)
              go_wp2_with fail
              go_round
              case rel => exact ⟨i + 1, m, by omega, by go_num, rfl, Lib.hid ⟨by rw [← HM.out]; exact HST.out, HLE.out⟩⟩
              case measure => simp [intOf]; omega
        · have he : n = V := by
            have h1 := HJ.out.1
            rw [List.drop_eq_nil_of_le (by simpa using Nat.le_of_not_lt hlt)] at h1
            exact h1
          have hv : refNum t = (n, 0) := by
            rw [HR.out, if_neg (by have := HJ.out.2; omega), he]
          have HVV := Lib.hid hv; clear hv he
          go_wp2_with fail
          go_ret2
          rw [HVV.out]; exact ⟨rfl, rfl⟩
set_option maxHeartbeats 800000 in
set_option maxRecDepth 20000 in
theorem refNumber_any (t : ByteArray) (w : World) (ht : t.size ≤ 100000) (hd : Digs t.data.toList) :
    Calls Tryd.prog 82 #[.string t] w fun e w' => e = .returned (.tuple #[.int .u64 (refNum t).1, .int .i64 (refNum t).2]) ∧ w = w' := by
  by_cases h1 : 1 < t.size
  · cases h2 : (((t[0]'(by omega)).toNat : Int) == 48)
    · have hn : t.size ≤ 1 ∨ ∃ hp : 0 < t.size, (((t[0]'hp).toNat : Int) == 48) = false := Or.inr ⟨by omega, h2⟩
      exact number_tail t w ht hd _ rfl _ (refNum_pass hn) rfl hn
    · have HZ := Lib.hid (refNum_zero h1 (by omega) h2)
      go_enter Tryd.func82, Tryd.ntmps82
      go_wp2_with fail
      go_ret2
      rw [HZ.out]; exact ⟨rfl, rfl⟩
  · have hn : t.size ≤ 1 ∨ ∃ hp : 0 < t.size, (((t[0]'hp).toNat : Int) == 48) = false := Or.inl (by omega)
    exact number_tail t w ht hd _ rfl _ (refNum_pass hn) rfl hn
end Go.Proofs.YthhkjjdhecpmlaaDoor
