/-
  slices.Grow of a nil row, as a function of which one knows what it answers.
-/
import Derived.Test.YtmlelgncmjpcoaaGreatDoorWXf
import Derived.Test.YtmlelgncmjpcoaaGreatDoorProg
import Derived.ProofKit
import Derived.Laws.Slices
import Derived.IntWalk
import Derived.Lib.AppendZerosOnto
import Derived.KernelRfl
noncomputable section
namespace Go.Ax
open Go.RowKit Go.Proofs
set_option linter.unusedVariables false
set_option linter.unusedSimpArgs false
def growI (sz : Nat) (args : List AV) (S : St) : R := match args with
  | [.nils, .v (.int .i64 n)] => if n = 0 then .ret .nils S else if 0 < n ∧ n ≤ 3000 ∧ 0 < sz then .ret (.sl S.next 0 sz []) ⟨S.next + 1, S.mem.set S.next (some (.tip 0))⟩ else .fail
  | _ => .fail
theorem growI_ok {P : Program} {k : FuncId} {sz e : Nat} (h0 : ∀ w, Calls P k #[.slice none 0 0, .int .i64 0] w fun x w' => x = .returned (.slice none 0 0) ∧ w' = w)
    (h1 : ∀ (n : Nat) (w : World), 0 < n → n ≤ 3000 → Calls P k #[.slice none 0 0, .int .i64 n] w fun x w' => ∃ c, x = .returned (.slice (some ⟨w.heap.size, 0, none⟩) 0 c) ∧ w'.ownsRow w.heap.size e sz (.slice (some ⟨w.heap.size, 0, none⟩) 0 c) 0 [] ∧ Below w.heap.size w w')
    (base : Nat) (w0 : World) (args : List AV) (S : St) (hne : growI sz args S ≠ .fail) (γ : Gh) (w : World) (vs : List Value) (hS : SR base w0 γ S w) (hv : VRL γ w args vs) : Calls P k vs.toArray w (RetOk base w0 γ S w (growI sz args S)) := by
  generalize hr : growI sz args S = r at hne ⊢
  unfold growI at hr
  split at hr
  · rename_i n
    obtain ⟨x, y, rfl, hx, hy⟩ := hv.two
    cases hx; cases hy
    split at hr
    · rename_i hn
      subst hn; subst hr
      refine (h0 w).mono fun x w' ⟨hx, hw⟩ => ?_
      subst hx; subst hw
      exact ⟨γ, _, hS, .refl _ _ _, .nils, rfl⟩
    · split at hr
      · rename_i hn
        obtain ⟨n1, n2, n3⟩ := hn
        subst hr
        have := h1 n.toNat w (by omega) (by omega)
        rw [show ((n.toNat : Nat) : Int) = n by omega] at this
        refine this.mono fun x w' ⟨c, hx, hown, hb⟩ => ?_
        subst hx
        obtain ⟨k1, k2⟩ := hS.after hb
        rcases hown.2 with ⟨hnil, _⟩ | ⟨g, cap, cur, hg, hlo, hcur, hc1, hc2, hc3, hc4⟩
        · cases hnil
        · injection hg with hg1 hg2 hg3
          injection hg1 with hg1
          injection hg1 with hg1
          subst hg3; subst hg1
          have hlt : w.heap.size < w'.heap.size := (Array.getElem?_eq_some_iff.1 hcur).1
          have hf := k1.fresh S.next (Nat.le_refl _)
          have hnew : ∀ id c s', S.mem.get id = some c → γ.loc id ≠ some (w.heap.size, s') := fun id c s' hm hl => by
            have := hS.inb id _ _ hl; omega
          obtain ⟨j1, j2⟩ := k1.name w.heap.size 0 (.tip 0) hS.hbase hlt ⟨cur, e, hcur, fun o ho => by have := imc_lt hS ho; omega, Nat.zero_le _⟩ hnew
          have hx2 := k2.newName (s := 0) (c := .tip 0) hf.1 hf.2 rfl
          refine ⟨γ.withLoc S.next w.heap.size 0, _, j1, hx2, ?_, rfl⟩
          refine .sl S.next 0 sz [] w.heap.size 0 c (fun _ => undef) n3 (fun _ h => absurd h List.not_mem_nil) (fun _ h => absurd h List.not_mem_nil) (fun k h => absurd h (Nat.not_lt_zero k)) (fun k h => absurd h (Nat.not_lt_zero k)) (fun _ => ⟨0, ?_, rfl⟩) (fun h => ?_) (Nat.zero_le _) ⟨cur, e, (0, 0), hcur, by omega⟩
          · show (if S.next = S.next then _ else _) = _; rw [if_pos rfl]
          · have := hS.pos; omega
      · exact absurd hr.symm hne
  · exact absurd hr.symm hne
theorem infoDecl : (Tryz.prog.info? 125).map (fun i => (i.zero, i.size, i.bytes)) = some (some (.agg #[.string ⟨#[]⟩, .int .i64 0, .bool false, .bool false, .string ⟨#[]⟩, .bool false]), 6, 56) := by kernel_rfl
theorem underDecls : Tryz.prog.underlying 49 = some (.slice 125) := by kernel_rfl
theorem infoG_parts {P : Program} {t : TypeId} {z : Option Value} {s b : Nat} (h : (P.info? t).map (fun i => (i.zero, i.size, i.bytes)) = some (z, s, b)) : ∃ i, P.info? t = some i ∧ i.zero = z ∧ i.size = s ∧ i.bytes = b := by
  cases hi : P.info? t with
  | none => rw [hi] at h; cases h
  | some i =>
    rw [hi] at h
    simp only [Option.map_some, Option.some.injEq, Prod.mk.injEq] at h
    exact ⟨i, rfl, h.1, h.2.1, h.2.2⟩
set_option maxHeartbeats 4000000 in
set_option maxRecDepth 100000 in
theorem grow_none (w : World) : Calls Tryz.prog 135 #[.slice none 0 0, .int .i64 0] w fun e w' => e = .returned (.slice none 0 0) ∧ w' = w := by
  go_enter Tryz.func135, Tryz.ntmps135
  go_wp2_with fail
  go_ret
  exact ⟨rfl, rfl⟩
set_option maxHeartbeats 4000000 in
set_option maxRecDepth 100000 in
theorem grow_some (n : Nat) (w : World) (h0 : 0 < n) (hn : n ≤ 3000) :
    Calls Tryz.prog 135 #[.slice none 0 0, .int .i64 n] w fun e w' => ∃ c, e = .returned (.slice (some ⟨w.heap.size, 0, none⟩) 0 c) ∧ w'.ownsRow w.heap.size 125 6 (.slice (some ⟨w.heap.size, 0, none⟩) 0 c) 0 [] ∧ Below w.heap.size w w' := by
  obtain ⟨i0, hi, hz0, hz1, hz2⟩ := infoG_parts infoDecl
  have hrz : ∀ ty, (Builtin.append_ #[49, 3] ty #[.slice none 0 0, .int .i64 ((n : Nat) : Int)]).run Tryz.prog w =
      .ok (.slice (some ⟨w.heap.size, 0, none⟩) n (grownCap w n 0 125)) (w.drew.alloc (.cells (#[] ++ Builtin.zeroCells (Value.cells (.agg #[.string ⟨#[]⟩, .int .i64 0, .bool false, .bool false, .string ⟨#[]⟩, .bool false])) n ++ Builtin.zeroCells (Value.cells (.agg #[.string ⟨#[]⟩, .int .i64 0, .bool false, .bool false, .string ⟨#[]⟩, .bool false])) (grownCap w n 0 125 - n)) 125)) := fun ty => by
    have h := Lib.run_append_grow_zeros w 49 3 ty 125 i0 _ .i64 .i64 underDecls Tryz.underlying3 hi hz0 none 0 0 [] (by rw [hz1]; exact run_firstCells_none w.drew 6 0 0 0) n h0 (by omega) (by omega) (by omega) (by rw [hz2]; omega)
      (growslice_fits (by omega) (by rw [hz2]; omega))
    simpa using h
  have hG1 := grownCap_ge w n 0 125
  have hG2 := grownCap_le_maxLen w n 0 125 (by unfold maxLen; omega)
  obtain ⟨G, hG⟩ : ∃ G, G = grownCap w n 0 125 := ⟨_, rfl⟩
  rw [← hG] at hrz hG1 hG2
  clear hG
  have h4 : ((n : Int) > 0) := by omega
  unfold maxLen at hG2
  go_enter Tryz.func135, Tryz.ntmps135
  go_wp2_with (at_builtin; refine Lib.wpList_append_run _ rfl _ _ _ _ rfl _ _ rfl rfl _ _ (hrz _) ?_)
  all_goals
    go_ret
    refine ⟨G, rfl, World.ownsRow_made w.drew _ G (Nat.le_refl _) (by unfold maxLen; omega) ?_, ((Below.refl _ _).drew).alloc (Nat.le_refl _) _⟩
    simp only [Array.size_append, size_zeroCells]
    simp [Value.cells]
    omega
theorem grow_I (base : Nat) (w0 : World) (args : List AV) (S : St) (hne : growI 6 args S ≠ .fail) (γ : Gh) (w : World) (vs : List Value) (hS : SR base w0 γ S w) (hv : VRL γ w args vs) : Calls Tryz.prog 135 vs.toArray w (RetOk base w0 γ S w (growI 6 args S)) :=
  growI_ok grow_none (fun n w h0 h1 => grow_some n w h0 h1) base w0 args S hne γ w vs hS hv
end Go.Ax
noncomputable section
namespace Go.Ax
open Go.RowKit Go.Proofs
set_option linter.unusedVariables false
set_option linter.unusedSimpArgs false
set_option maxRecDepth 100000
def rowM (t : Nat) : Nat := Bool.rec (Bool.rec (Bool.rec (Bool.rec (Bool.rec (Bool.rec 0 1 (Nat.beq t 50)) 1 (Nat.beq t 131)) 2 (Nat.beq t 89)) 2 (Nat.beq t 91)) 2 (Nat.beq t 218)) 2 (Nat.beq t 34)
def E1 : Env := { P := Tryz.prog, G := fun _ => none, F := fun k => match Tryz.prog.funcs[k]? with | some fn => if fn.body.isSome then some fn else none | none => none, I := fun k => Bool.rec none (some (growI 6)) (Nat.beq k 135), M := rowM }
theorem e1_names : (Tryz.prog.funcs.toList.all fun fn => !(fn.name == "runtime.NumGoroutine")) = true := by kernel_rfl
theorem e1_ok : E1.Ok := ⟨fun k fn h => by
  simp only [E1] at h
  split at h
  · rename_i fn' hf
    split at h
    · rename_i hb
      injection h with h; subst h
      have hm : fn' ∈ Tryz.prog.funcs.toList := by
        have := Array.mem_of_getElem? hf
        simpa using this
      have := List.all_eq_true.1 e1_names fn' hm
      exact ⟨hf, by simpa using this, Option.isSome_iff_exists.1 hb⟩
    · cases h
  · cases h⟩
theorem e1_intr : IntrOk E1 := fun k g hk base w0 args S hne γ w vs hS hg hv => by
  have hk2 : (Bool.rec none (some (growI 6)) (Nat.beq k 135) : Option (List AV → St → R)) = some g := hk
  cases hc : Nat.beq k 135 with
  | false => rw [hc] at hk2; cases hk2
  | true =>
    rw [hc] at hk2
    injection hk2 with hk2; subst hk2
    have : k = 135 := Nat.eq_of_beq_eq_true hc
    subst this
    exact grow_I base w0 args S hne γ w vs hS hv
theorem e1_mix : E1.P.follows .mixedOrders = true := by kernel_rfl
end Go.Ax
