/-
  slices.Grow of a nil row, as a function of which one knows what it answers.
-/
import Derived.Test.YtjgknelmjdallaaGreatDoorPlXf
import Derived.Test.YtjgknelmjdallaaGreatDoorProg
import Derived.ProofKit
import Derived.Laws.Slices
import Derived.IntWalk
import Derived.Lib.AppendZerosOnto
import Derived.Test.YtjgknelmjdallaaGreatDoorAxShelf
import Derived.Lib.AtoiErrMem
import Derived.KernelRfl
import Derived.Lib.ParseIntB
noncomputable section
namespace Go.Ax
open Go.RowKit Go.Proofs
set_option linter.unusedVariables false
set_option linter.unusedSimpArgs false
def N5 (sz : Nat) (args : List AV) (S : St) : R := match args with
  | [.nils, .v (.int .i64 n)] => if n = 0 then .ret .nils S else if 0 < n ∧ n ≤ 3000 ∧ 0 < sz then .ret (.sl S.next 0 sz []) ⟨S.next + 1, S.mem.set S.next (some (.tip 0))⟩ else .fail
  | _ => .fail
theorem mX {P : Program} {k : FuncId} {sz e : Nat} (h0 : ∀ w, Calls P k #[.slice none 0 0, .int .i64 0] w fun x w' => x = .returned (.slice none 0 0) ∧ w' = w)
    (h1 : ∀ (n : Nat) (w : World), 0 < n → n ≤ 3000 → Calls P k #[.slice none 0 0, .int .i64 n] w fun x w' => ∃ c, x = .returned (.slice (some ⟨w.heap.size, 0, none⟩) 0 c) ∧ w'.ownsRow w.heap.size e sz (.slice (some ⟨w.heap.size, 0, none⟩) 0 c) 0 [] ∧ Below w.heap.size w w')
    (base : Nat) (w0 : World) (args : List AV) (S : St) (hne : N5 sz args S ≠ .fail) (γ : Gh) (w : World) (vs : List Value) (hS : SR base w0 γ S w) (hv : VRL γ w args vs) : Calls P k vs.toArray w (Ma base w0 γ S w (N5 sz args S)) := by
  generalize hr : N5 sz args S = r at hne ⊢
  unfold N5 at hr
  split at hr
  · rename_i n
    obtain ⟨x, y, rfl, hx, hy⟩ := hv.two
    cases hx; cases hy
    split at hr
    · rename_i hn
      subst hn; subst hr
      refine (h0 w).mono fun x w' ⟨hx, hw⟩ => ?_
      subst hx; subst hw
      exact ⟨γ, _, hS, .refl _ _ _, .nils, rfl⟩
    · split at hr
      · rename_i hn
        obtain ⟨n1, n2, n3⟩ := hn
        subst hr
        have := h1 n.toNat w (by omega) (by omega)
        rw [show ((n.toNat : Nat) : Int) = n by omega] at this
        refine this.mono fun x w' ⟨c, hx, hown, hb⟩ => ?_
        subst hx
        obtain ⟨k1, k2⟩ := hS.after hb
        rcases hown.2 with ⟨hnil, _⟩ | ⟨g, cap, cur, hg, hlo, hcur, hc1, hc2, hc3, hc4⟩
        · cases hnil
        · injection hg with hg1 hg2 hg3
          injection hg1 with hg1
          injection hg1 with hg1
          subst hg3; subst hg1
          have hlt : w.heap.size < w'.heap.size := (Array.getElem?_eq_some_iff.1 hcur).1
          have hf := k1.fresh S.next (Nat.le_refl _)
          have hnew : ∀ id c s', S.mem.get id = some c → γ.loc id ≠ some (w.heap.size, s') := fun id c s' hm hl => by
            have := hS.inb id _ _ hl; omega
          obtain ⟨j1, j2⟩ := k1.name w.heap.size 0 (.tip 0) hS.hbase hlt ⟨cur, e, hcur, fun o ho => by have := P3 hS ho; omega, Nat.zero_le _⟩ hnew
          have hx2 := k2.newName (s := 0) (c := .tip 0) hf.1 hf.2 rfl
          refine ⟨γ.withLoc S.next w.heap.size 0, _, j1, hx2, ?_, rfl⟩
          refine .sl S.next 0 sz [] w.heap.size 0 c (fun _ => undef) n3 (fun _ h => absurd h List.not_mem_nil) (fun _ h => absurd h List.not_mem_nil) (fun k h => absurd h (Nat.not_lt_zero k)) (fun k h => absurd h (Nat.not_lt_zero k)) (fun _ => ⟨0, ?_, rfl⟩) (fun h => ?_) (Nat.zero_le _) ⟨cur, e, (0, 0), hcur, by omega⟩
          · show (if S.next = S.next then _ else _) = _; rw [if_pos rfl]
          · have := hS.pos; omega
      · exact absurd hr.symm hne
  · exact absurd hr.symm hne
theorem aW : (Tryz.prog.info? 54).map (fun i => (i.zero, i.size, i.bytes)) = some (some (.agg #[.string ⟨#[]⟩, .int .i64 0, .bool false, .bool false, .string ⟨#[]⟩, .bool false]), 6, 56) := by kernel_rfl
theorem T5 : Tryz.prog.underlying 46 = some (.slice 54) := by kernel_rfl
theorem Gg {P : Program} {t : TypeId} {z : Option Value} {s b : Nat} (h : (P.info? t).map (fun i => (i.zero, i.size, i.bytes)) = some (z, s, b)) : ∃ i, P.info? t = some i ∧ i.zero = z ∧ i.size = s ∧ i.bytes = b := by
  cases hi : P.info? t with
  | none => rw [hi] at h; cases h
  | some i =>
    rw [hi] at h
    simp only [Option.map_some,Option.some.injEq,Prod.mk.injEq] at h
    exact ⟨i, rfl, h.1, h.2.1, h.2.2⟩
set_option maxHeartbeats 4000000 in
set_option maxRecDepth 100000 in
theorem jE (w : World) : Calls Tryz.prog 94 #[.slice none 0 0, .int .i64 0] w fun e w' => e = .returned (.slice none 0 0) ∧ w' = w := by
  go_enter Tryz.func94, Tryz.ntmps94
  go_wp2_with fail
  go_ret
  exact ⟨rfl, rfl⟩
set_option maxHeartbeats 4000000 in
set_option maxRecDepth 100000 in
theorem jD (n : Nat) (w : World) (h0 : 0 < n) (hn : n ≤ 3000) :
    Calls Tryz.prog 94 #[.slice none 0 0, .int .i64 n] w fun e w' => ∃ c, e = .returned (.slice (some ⟨w.heap.size, 0, none⟩) 0 c) ∧ w'.ownsRow w.heap.size 54 6 (.slice (some ⟨w.heap.size, 0, none⟩) 0 c) 0 [] ∧ Below w.heap.size w w' := by
  obtain ⟨i0, hi, hz0, hz1, hz2⟩ := Gg aW
  have hrz : ∀ ty, (Builtin.append_ #[46, 3] ty #[.slice none 0 0, .int .i64 ((n : Nat) : Int)]).run Tryz.prog w =
      .ok (.slice (some ⟨w.heap.size, 0, none⟩) n (grownCap w n 0 54)) (w.drew.alloc (.cells (#[] ++ Builtin.zeroCells (Value.cells (.agg #[.string ⟨#[]⟩, .int .i64 0, .bool false, .bool false, .string ⟨#[]⟩, .bool false])) n ++ Builtin.zeroCells (Value.cells (.agg #[.string ⟨#[]⟩, .int .i64 0, .bool false, .bool false, .string ⟨#[]⟩, .bool false])) (grownCap w n 0 54 - n)) 54)) := fun ty => by
    have h := Lib.run_append_grow_zeros w 46 3 ty 54 i0 _ .i64 .i64 T5 Tryz.underlying3 hi hz0 none 0 0 [] (by rw [hz1]; exact run_firstCells_none w.drew 6 0 0 0) n h0 (by omega) (by omega) (by omega) (by rw [hz2]; omega)
      (growslice_fits (by omega) (by rw [hz2]; omega))
    simpa using h
  have hG1 := Kn w n 0 54
  have hG2 := grownCap_le_maxLen w n 0 54 (by unfold maxLen; omega)
  obtain ⟨G, hG⟩ : ∃ G, G = grownCap w n 0 54 := ⟨_, rfl⟩
  rw [← hG] at hrz hG1 hG2
  clear hG
  have h4 : ((n : Int) > 0) := by omega
  unfold maxLen at hG2
  go_enter Tryz.func94, Tryz.ntmps94
  go_wp2_with (at_builtin; refine Lib.wpList_append_run _ rfl _ _ _ _ rfl _ _ rfl rfl _ _ (hrz _) ?_)
  all_goals
    go_ret
    refine ⟨G, rfl, World.ownsRow_made w.drew _ G (Nat.le_refl _) (by unfold maxLen; omega) ?_, ((Below.refl _ _).drew).alloc (Nat.le_refl _) _⟩
    simp only [Array.size_append,size_zeroCells]
    simp [Value.cells]
    omega
theorem mW (base : Nat) (w0 : World) (args : List AV) (S : St) (hne : N5 6 args S ≠ .fail) (γ : Gh) (w : World) (vs : List Value) (hS : SR base w0 γ S w) (hv : VRL γ w args vs) : Calls Tryz.prog 94 vs.toArray w (Ma base w0 γ S w (N5 6 args S)) :=
  mX jE (fun n w h0 h1 => jD n w h0 h1) base w0 args S hne γ w vs hS hv
end Go.Ax
noncomputable section
namespace Go.Ax
open Go.RowKit Go.Proofs
set_option linter.unusedVariables false
set_option linter.unusedSimpArgs false
set_option maxRecDepth 100000
/-- What digits spell, D6 what was spelt. -/
def Hi : Nat → List UInt8 → Nat
  | a, [] => a
  | a, c :: r => Hi (a * 10 + (c.toNat - 48)) r
def Pf (b : UInt8) : Bool := 48 ≤ b.toNat && b.toNat ≤ 57
/-- strconv.ParseUint of digits. -/
def puI (args : List AV) : Option AV := match args with
  | [.v (.string s), .v (.int .i64 10), .v (.int .i64 64)] => if s.data.toList ≠ [] ∧ s.data.toList.all Pf = true ∧ Hi 0 s.data.toList < 18446744073709551616 ∧ s.size ≤ 9223372036854775806 then some (.tup [.v (.int .u64 (Hi 0 s.data.toList)), .v .nilIface])
    else if s.data.toList ≠ [] ∧ s.data.toList.all Pf = true ∧ 18446744073709551616 ≤ Hi 0 s.data.toList ∧ s.size ≤ 281474976710656 then some (.tup [.v (.int .u64 18446744073709551615), .iface 251 (.ep [])]) else none
  | _ => none
/-- What lies at the variables: strconv.ErrRange holds a pointer. -/
def gR : Gl := fun g => Bool.rec none (some [.iface 278 (.ep [])]) (Nat.beq g 5)
def rowM (t : Nat) : Nat := Bool.rec (Bool.rec (Bool.rec (Bool.rec 0 2 (Nat.beq t 138)) 2 (Nat.beq t 136)) 1 (Nat.beq t 47)) 1 (Nat.beq t 28)
def E1 : Env := { P := Tryz.prog, G := gR, F := fun k => match Tryz.prog.funcs[k]? with | some fn => if fn.body.isSome then some fn else none | none => none, I := fun k => Bool.rec (Bool.rec none (some (N5 6)) (Nat.beq k 94)) (some (Ix puI)) (Nat.beq k 133), M := rowM }
theorem nT : (Tryz.prog.funcs.toList.all fun fn => !(fn.name == "runtime.NumGoroutine")) = true := by kernel_rfl
theorem Q8 : E1.Ok := ⟨fun k fn h => by
  simp only [E1] at h
  split at h
  · rename_i fn' hf
    split at h
    · rename_i hb
      injection h with h; subst h
      have hm : fn' ∈ Tryz.prog.funcs.toList := by
        have := Array.mem_of_getElem? hf
        simpa using this
      have := List.all_eq_true.1 nT fn' hm
      exact ⟨hf, by simpa using this, Option.isSome_iff_exists.1 hb⟩
    · cases h
  · cases h⟩
theorem fE : ∀ (l : List UInt8) (a : Nat), a ≤ Hi a l
  | [], a => Nat.le_refl _
  | c :: r, a => by
    have := fE r (a * 10 + (c.toNat - 48))
    show a ≤ Hi (a * 10 + (c.toNat - 48)) r
    omega
theorem W2 : ∀ (l : List UInt8) (a : Nat), l.all Pf = true → Hi a l < 18446744073709551616 → Lib.parseUintM (2 ^ 64 - 1) a l = .ok (Hi a l)
  | [], a, _, _ => rfl
  | c :: r, a, hd, h => by
    rw [List.all_cons, Bool.and_eq_true] at hd
    have hc : 48 ≤ c.toNat ∧ c.toNat ≤ 57 := by have := hd.1; unfold Pf at this; simpa using this
    have h1 : a * 10 + (c.toNat - 48) ≤ Hi (a * 10 + (c.toNat - 48)) r := fE r _
    have h2 : Hi a (c :: r) = Hi (a * 10 + (c.toNat - 48)) r := rfl
    rw [h2] at h ⊢
    unfold Lib.parseUintM
    rw [if_pos hc, if_neg (by omega), if_neg (by omega)]
    exact W2 r _ hd.2 h
theorem aC {l : List UInt8} (hn : l ≠ []) (hd : l.all Pf = true) (h : Hi 0 l < 18446744073709551616) : Lib.parseUintB 64 l = .ok (Hi 0 l) := by
  unfold Lib.parseUintB; rw [if_neg hn]; exact W2 l 0 hd h
theorem Qn : ∀ (l : List UInt8) (a : Nat), l.all Pf = true → a < 18446744073709551616 → 18446744073709551616 ≤ Hi a l → Lib.parseUintM (2 ^ 64 - 1) a l = .range
  | [], a, _, h1, h2 => absurd h1 (Nat.not_lt.2 h2)
  | c :: r, a, hd, h1, h => by
    rw [List.all_cons, Bool.and_eq_true] at hd
    have hc : 48 ≤ c.toNat ∧ c.toNat ≤ 57 := by have := hd.1; unfold Pf at this; simpa using this
    have h2 : Hi a (c :: r) = Hi (a * 10 + (c.toNat - 48)) r := rfl
    rw [h2] at h
    unfold Lib.parseUintM
    rw [if_pos hc]
    by_cases h3 : 1844674407370955162 ≤ a
    · rw [if_pos h3]
    · rw [if_neg h3]
      by_cases h4 : 2 ^ 64 - 1 < a * 10 + (c.toNat - 48)
      · rw [if_pos h4]
      · rw [if_neg h4]
        exact Qn r _ hd.2 (by omega) h
theorem aB {l : List UInt8} (hn : l ≠ []) (hd : l.all Pf = true) (h : 18446744073709551616 ≤ Hi 0 l) : Lib.parseUintB 64 l = .range := by
  unfold Lib.parseUintB; rw [if_neg hn]; exact Qn l 0 hd (by decide) h
theorem VRL.three {γ : Gh} {w : World} {a b c : AV} {vs : List Value} (h : VRL γ w [a, b, c] vs) : ∃ x y z, vs = [x, y, z] ∧ VR γ w a x ∧ VR γ w b y ∧ VR γ w c z := by
  obtain ⟨h1, h2⟩ := h
  match vs, h1 with
  | [x, y, z], _ => exact ⟨x, y, z, rfl, h2 0 (by simp) (by simp), h2 1 (by simp) (by simp), h2 2 (by simp) (by simp)⟩
theorem gR_cell {γ : Gh} {w : World} (h : GR γ w gR) : ∃ p, w.cell? ⟨5, 0, none⟩ = some (.iface 278 p) := by
  have := h 5 _ rfl
  cases this with
  | ep cs b o c h h1 hr =>
    have h2 := (h 0 (by simp)).2
    have h3 := hr 0 (by simp)
    simp only [List.getElem_cons_zero,Nat.add_zero] at h2 h3
    generalize c 0 = z at h2 h3
    cases h3 with
    | iface t a x h4 => exact ⟨x, h2⟩
theorem puI_ok : ∀ args a, puI args = some a → ∀ γ w (vs : List Value), GR γ w gR → VRL γ w args vs → Calls Tryz.prog 133 vs.toArray w fun e w' => Below w.heap.size w w' ∧ ∃ v, e = .returned v ∧ ∀ γ w, VR γ w a v := by
  intro args a h γ w vs hg hv
  unfold puI at h
  split at h
  · rename_i s
    obtain ⟨x, y, z, rfl, hx, hy, hz⟩ := hv.three
    cases hx; cases hy; cases hz
    split at h
    · rename_i hc
      obtain ⟨h0, h1, h2, h3⟩ := hc
      injection h with h; subst h
      refine (Tryz.strconv_ParseUint_10_at64_ok s h3 _ (aC h0 h1 h2) w).mono fun e w' he => ⟨?_, _, he.1, fun γ w => ?_⟩
      · rcases he.2 with rfl | rfl
        · exact .refl _ _
        · exact Lib.bytesWorld_below _ _ _
      · exact .tup _ _ rfl (fun k hk hk' => by
          match k, hk with
          | 0, _ => exact .v _ rfl
          | 1, _ => exact .v _ rfl)
    · split at h
      · rename_i hc
        obtain ⟨h0, h1, h2, h3⟩ := hc
        injection h with h; subst h
        obtain ⟨p, hp⟩ := gR_cell hg
        refine (Tryz.strconv_ParseUint_10_at64_range s h3 (aB h0 h1 h2) _ w hp (.inr ⟨_, _, rfl⟩)).mono fun e w' he => ?_
        obtain ⟨N, he1, he2, he3, he4⟩ := he
        refine ⟨he4, _, he1, fun γ w => ?_⟩
        exact .tup _ _ rfl (fun k hk hk' => by
          match k, hk with
          | 0, _ => exact .v _ rfl
          | 1, _ => exact .iface _ _ _ (.ep [] N 0 (fun _ => undef) (fun k h => absurd h (Nat.not_lt_zero k)) (fun _ h => absurd h List.not_mem_nil) (fun k h => absurd h (Nat.not_lt_zero k))))
      · cases h
  · cases h
theorem Q9 : Ju E1 := fun k g hk base w0 args S hne γ w vs hS hg hv => by
  have hk2 : (Bool.rec (Bool.rec none (some (N5 6)) (Nat.beq k 94)) (some (Ix puI)) (Nat.beq k 133) : Option (List AV → St → R)) = some g := hk
  cases hb : Nat.beq k 133 with
  | false =>
    rw [hb] at hk2
    cases hc : Nat.beq k 94 with
    | false => rw [hc] at hk2; cases hk2
    | true =>
      rw [hc] at hk2
      injection hk2 with hk2; subst hk2
      have : k = 94 := Nat.eq_of_beq_eq_true hc
      subst this
      exact mW base w0 args S hne γ w vs hS hv
  | true =>
    rw [hb] at hk2
    injection hk2 with hk2; subst hk2
    have : k = 133 := Nat.eq_of_beq_eq_true hb
    subst this
    cases hga : puI args with
    | none => exact absurd (by simp [Ix, hga]) hne
    | some a =>
      refine (puI_ok args a hga γ w vs hg hv).mono fun e w' h => ?_
      obtain ⟨hb, v, rfl, hvr⟩ := h
      obtain ⟨h1, h2⟩ := hS.after hb
      show Ma base w0 γ S w (Ix puI args S) (.returned v) w'
      simp only [Ix,hga]
      exact ⟨γ, v, h1, h2, hvr _ _, rfl⟩
theorem Sd : E1.P.follows .mixedOrders = true := by kernel_rfl
end Go.Ax
