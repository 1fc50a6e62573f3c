/-
  Rows that are stored into: make.
-/
import Derived.Test.YtjgknelmjdallaaGreatDoorFcK3
import Derived.Laws.MakeOwn
noncomputable section
namespace Go.Ax
open Go.RowKit
set_option linter.unusedVariables false
set_option linter.unusedSimpArgs false
variable {P : Program} {base : Nat} {w0 : World}
def repA (cs : List AV) (c : Nat) : List AV := Nat.rec (motive := fun _ => List AV) [] (fun _ ih => cs ++ ih) c
theorem repA_len (cs : List AV) : ∀ c, (repA cs c).length = c * cs.length
  | 0 => by show ([] : List AV).length = _; simp
  | c + 1 => by show (cs ++ repA cs c).length = _; rw [List.length_append, repA_len cs c, Nat.add_mul]; omega
theorem repA_one {cs : List AV} (h : ∀ x ∈ cs, x.one = true) : ∀ c, ∀ x ∈ repA cs c, x.one = true
  | 0, x, hx => by cases hx
  | c + 1, x, hx => by
    have hx : x ∈ cs ++ repA cs c := hx
    rcases List.mem_append.1 hx with hx | hx
    · exact h x hx
    · exact repA_one h c x hx
theorem repA_get (cs : List AV) (hp : 0 < cs.length) : ∀ (c k : Nat), k < c * cs.length → (repA cs c)[k]? = cs[k % cs.length]?
  | 0, k, h => by simp at h
  | c + 1, k, h => by
    show (cs ++ repA cs c)[k]? = _
    by_cases hk : k < cs.length
    · rw [List.getElem?_append_left hk, Nat.mod_eq_of_lt hk]
    · rw [List.getElem?_append_right (by omega), repA_get cs hp c (k - cs.length) (by rw [Nat.add_mul] at h; omega), ← Nat.mod_eq_sub_mod (by omega)]
theorem made_VRL {γ : Gh} {w : World} {cs : List AV} {z : Array Value} (h : VRL γ w cs z.toList) (hp : 0 < z.size) (c : Nat) : VRL γ w (repA cs c) (madeCells z (c * z.size)).toList := by
  have hl : cs.length = z.size := by have := h.1; simp at this; exact this.symm
  refine ⟨by rw [repA_len, hl]; simp [size_madeCells], fun k hk hk' => ?_⟩
  have hk2 : k < c * cs.length := by rw [repA_len] at hk; exact hk
  have hm : k % z.size < z.size := Nat.mod_lt _ hp
  have e1 : (repA cs c)[k] = cs[k % z.size]'(by omega) := by
    have h1 := repA_get cs (by omega) c k hk2
    rw [List.getElem?_eq_getElem hk, hl, List.getElem?_eq_getElem (by omega)] at h1
    injection h1
  have e2 : (madeCells z (c * z.size)).toList[k] = z.toList[k % z.size]'(by simp; exact hm) := by
    simp [madeCells, hm]
  rw [e1, e2]
  exact h.2 _ _ _
def oMake (P : Program) (S : St) (t : TypeId) (l c : AV) : Option (AV × St) := match l, c with
  | .v (.int _ l), .v (.int _ c) => match P.underlying t with
    | some (.slice e) => match P.info? e with
      | some i => match i.zero with
        | some z => match ofConst 8 z with
          | some za => if 0 ≤ l ∧ l ≤ c ∧ (i.bytes : Int) * c ≤ 281474976710656 ∧ c ≤ 9223372036854775807 ∧ za.noTup = true ∧ z.cells.size = i.size ∧ 0 < i.size then
              (if l = 0 then some (.sl S.next 0 i.size [], ⟨S.next + 1, S.mem.set S.next (some (.tip 0))⟩) else some (.bs S.next 0 l.toNat i.size, S.newBox (repA za.cells c.toNat))) else none
          | none => none
        | none => none
      | none => none
    | _ => none
  | _, _ => none
theorem oMake_sound {γ : Gh} {S S' : St} {w : World} (hS : SR base w0 γ S w) {t : TypeId} {l c : AV} {v u : Value} (hv : VR γ w l v) (hu : VR γ w c u) {r : AV} (ho : oMake P S t l c = some (r, S')) : OkV P base w0 γ S w (Instr.makeSlice t v u) r S' := by
  unfold oMake at ho
  split at ho
  · rename_i kl l kc c
    cases hv; cases hu
    split at ho
    · rename_i e ht
      split at ho
      · rename_i i hi
        split at ho
        · rename_i z hz
          split at ho
          · rename_i za hza
            split at ho
            · rename_i hc
              obtain ⟨c1, c2, c3, c4, c5, c6, c7⟩ := hc
              have hrun := run_make (P := P) w t e i z ht hi hz kl kc l c c1 c2 c3 c4
              have hzv := ofConst_sound (w := w) (γ := γ) hza
              have hcs := hzv.cells
              have hm := made_VRL hcs (by omega) c.toNat
              rw [c6] at hm
              have hones := repA_one (hzv.ones (noTup_ne c5)) c.toNat
              split at ho
              · rename_i hl
                injection ho with ho; injection ho with h1 h2; subst h1; subst h2
                subst hl
                obtain ⟨k1, k2⟩ := hS.allocIm (madeCells z.cells (c.toNat * i.size)) e 0 (Nat.zero_le _)
                have k1 : SR base w0 γ S (w.alloc (.cells (madeCells z.cells (c.toNat * i.size)) e)) := by
                  refine ⟨k1.below, k1.hbase, fun b o hi => k1.imc b o (.inl hi), k1.fresh, k1.pos, k1.inb, fun id c e => ?_, k1.inj⟩
                  obtain ⟨b, s, l1, l2, l3⟩ := hS.live id c e
                  exact ⟨b, s, l1, l2, l3.keep (ev_alloc γ w _) (Below.heap_alloc w _ _ (hS.inb id b s l1)) (fun _ h => h)⟩
                have hf := k1.fresh S.next (Nat.le_refl _)
                have hnew : ∀ id c s', S.mem.get id = some c → γ.loc id ≠ some (w.heap.size, s') := fun id c s' hm hl => by
                  have := hS.inb id _ _ hl; omega
                obtain ⟨j1, j2⟩ := k1.name w.heap.size 0 (.tip 0) hS.hbase (by simp) ⟨_, e, heap_alloc_new w _, fun o ho => by have := imc_lt hS ho; omega, Nat.zero_le _⟩ hnew
                have hx2 : Ext γ S w _ _ _ := (Ext.alloc (.cells (madeCells z.cells (c.toNat * i.size)) e)).newName (s := 0) (c := .tip 0) hf.1 hf.2 rfl
                refine ⟨_, _, γ.withLoc S.next w.heap.size 0, hrun, j1, hx2, ?_⟩
                refine .sl S.next 0 i.size [] w.heap.size 0 c.toNat (fun _ => undef) c7 (fun _ h => absurd h List.not_mem_nil) (fun _ h => absurd h List.not_mem_nil) (fun k h => absurd h (Nat.not_lt_zero k)) (fun k h => absurd h (Nat.not_lt_zero k)) (fun _ => ⟨0, ?_, rfl⟩) (fun h => ?_) (Nat.zero_le _) ⟨_, e, (0, 0), heap_alloc_new w _, by rw [size_madeCells]; omega⟩
                · show (if S.next = S.next then _ else _) = _; rw [if_pos rfl]
                · have := hS.pos; omega
              · rename_i hl
                injection ho with ho; injection ho with h1 h2; subst h1; subst h2
                obtain ⟨k1, k2⟩ := hS.newBox e hm hones
                have hx : Ext γ S w (γ.withLoc S.next w.heap.size 0) (S.newBox (repA za.cells c.toNat)) (w.alloc (.cells (madeCells z.cells (c.toNat * i.size)).toList.toArray e)) := Ext.newBox hS _ _
                refine ⟨_, _, γ.withLoc S.next w.heap.size 0, hrun, by simpa [St.newBox] using k1, by simpa [St.newBox] using hx, ?_⟩
                exact .bs S.next 0 l.toNat i.size w.heap.size 0 c.toNat (by show (if S.next = S.next then _ else _) = _; rw [if_pos rfl]) (by omega) c7 ⟨_, e, (0, 0), heap_alloc_new w _, by rw [size_madeCells]; omega⟩
            · cases ho
          · cases ho
        · cases ho
      · cases ho
    · cases ho
  · cases ho
end Go.Ax
