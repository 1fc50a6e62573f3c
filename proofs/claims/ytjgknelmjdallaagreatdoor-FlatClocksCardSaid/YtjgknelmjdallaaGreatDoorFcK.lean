/-
  Operations, one by one: maps that are made and written, type assertions.
-/
import Derived.Test.YtjgknelmjdallaaGreatDoorFcJ
noncomputable section
namespace Go.Ax
open Go.RowKit
set_option linter.unusedVariables false
set_option linter.unusedSimpArgs false
variable {P : Program} {base : Nat} {w0 : World}

def oMakeMap (S : St) : AV × St := (.map S.next, { next := S.next + 1, mem := S.mem.set S.next (some (.mp [])) })
theorem oMakeMap_sound {γ : Gh} {S : St} {w : World} (hS : SR base w0 γ S w) (t : TypeId) : OkV P base w0 γ S w (Instr.makeMap t none) (oMakeMap S).1 (oMakeMap S).2 := by
  obtain ⟨k1, k2⟩ := hS.newMap
  exact ⟨.map (some w.heap.size), w.alloc (.map #[] 0), _, by simp [Instr.makeMap], k1, Ext.newBox hS _ _, .map S.next w.heap.size 0 (by show (if S.next = S.next then _ else _) = _; rw [if_pos rfl])⟩
theorem bytes_beq {a b : ByteArray} (h : (a == b) = true) : a = b := by
  obtain ⟨a⟩ := a
  obtain ⟨b⟩ := b
  have h : (a == b) = true := h
  rw [eq_of_beq h]
theorem bytes_refl (a : ByteArray) : (a == a) = true := by
  obtain ⟨a⟩ := a
  show (a == a) = true
  simp
theorem sameNow_eq {d : TypeDesc} {k k' : Value} (h : Instr.sameNow d k k' = some true) : k' = k ∧ ∀ n, Instr.sameBits n k' k = true := by
  unfold Instr.sameNow at h
  split at h
  · rename_i kd a kd' b
    split at h
    · rename_i hk
      subst hk
      injection h with h
      have : a = b := by simpa using h
      subst this
      exact ⟨rfl, fun n => by simp [Instr.sameBits]⟩
    · cases h
  · rename_i a b
    injection h with h
    have : a = b := bytes_beq h
    subst this
    exact ⟨rfl, fun n => by simp [Instr.sameBits, bytes_refl]⟩
  · rename_i a b
    injection h with h
    have : a = b := by simpa using h
    subst this
    exact ⟨rfl, fun n => by simp [Instr.sameBits]⟩
  · cases h
theorem MapR.snoc {γ : Gh} {w : World} {es : List (Value × AV)} {ms : Array MapEntry} (h : MapR γ w es ms.toList) {k : Value} {a : AV} {v : Value} (hv : VR γ w a v) (born : Nat) : MapR γ w (es ++ [(k, a)]) (ms.push { key := k, val := v, born }).toList := by
  obtain ⟨hl, hk⟩ := h
  refine ⟨by simp at hl ⊢; exact hl, fun i h1 h2 => ?_⟩
  simp only [Array.toList_push] at h2 ⊢
  by_cases hi : i < es.length
  · rw [List.getElem_append_left (by omega), List.getElem_append_left hi]
    exact hk i hi (by omega)
  · have hi2 : i = es.length := by simp at h1; omega
    subst hi2
    rw [List.getElem_append_right (by omega), List.getElem_append_right (by omega)]
    simp [hl]
    exact hv
theorem MapR.put {γ : Gh} {w : World} {es : List (Value × AV)} {ms : Array MapEntry} (h : MapR γ w es ms.toList) {k : Value} {a : AV} {v : Value} (hv : VR γ w a v) (j : Nat) : MapR γ w (es.set j (k, a)) (ms.modify j fun e => { e with key := k, val := v }).toList := by
  obtain ⟨hl, hk⟩ := h
  refine ⟨by simp at hl ⊢; exact hl, fun i h1 h2 => ?_⟩
  have h1' : i < es.length := by simpa using h1
  have h2' : i < ms.size := by simp at hl; omega
  have := hk i h1' (by simpa using h2')
  rw [List.getElem_set]
  have e : (ms.modify j fun e => { e with key := k, val := v }).toList[i] = if j = i then { ms[i] with key := k, val := v } else ms[i] := by
    rw [Array.getElem_toList, Array.getElem_modify]
  rw [e]
  split
  · exact ⟨rfl, hv⟩
  · simpa using this
def oMapUpdate (P : Program) (S : St) (t : TypeId) (m k x : AV) : Option St :=
  match m with
  | .map id => match mapT P t, S.mem.get id, toVal 8 k with
    | some (_, d, _), some (.mp es), some kv => match findA d kv es 0 with
      | some (some (j, _)) => some { S with mem := S.mem.set id (some (.mp (es.set j (kv, x)))) }
      | some none => some { S with mem := S.mem.set id (some (.mp (es ++ [(kv, x)]))) }
      | none => none
    | _, _, _ => none
  | _ => none
theorem oMapUpdate_sound {γ : Gh} {S S' : St} {w : World} (hS : SR base w0 γ S w) {t : TypeId} {m k x : AV} {vm vk vx : Value} (hm : VR γ w m vm) (hk : VR γ w k vk) (hx : VR γ w x vx) (ho : oMapUpdate P S t m k x = some S') :
    ∃ w' γ', (Instr.mapUpdate t vm vk vx).run P w = .ok () w' ∧ SR base w0 γ' S' w' ∧ Ext γ S w γ' S' w' := by
  unfold oMapUpdate at ho
  split at ho
  · rename_i id
    split at ho
    · rename_i kt d et es kv ht hme hkv
      obtain ⟨u1, u2, u3⟩ := mapT_spec ht
      have hkk := toVal_sound hkv hk
      subst hkk
      cases hm with
      | map _ b s hl =>
      obtain ⟨b2, s2, l1, l2, l3⟩ := hS.live id _ hme
      rw [hl] at l1; injection l1 with l1; injection l1 with e1 e2; subst e1; subst e2
      obtain ⟨_, ms, clock, ha, hr⟩ := l3
      have hck := checkKey_run (P := P) u2 u3 false 9999 vk w
      split at ho
      · rename_i j a hfa
        injection ho with ho; subst ho
        rcases findA_sound hr hfa with ⟨e1, e2⟩ | ⟨j', a', v, e1, e2, e3, k', e4, e5⟩
        · cases e1
        · injection e1 with e1; injection e1 with e11 e12; subst e12
          have hj : j = j' := by omega
          subst hj
          have hfk : (Instr.findKey kt vk ms.toList).run P w = .ok (some (j, v)) w := by
            simp only [Instr.findKey, Sem.run_bind, run_underlying u2, Result.andThen_ok, e2, Sem.run_pure, Nat.zero_add]
          obtain ⟨q1, q2⟩ := sameNow_eq e5
          subst q1
          obtain ⟨hjl, hje⟩ := List.getElem?_eq_some_iff.1 e4
          have hjm : j < ms.size := by have := hr.1; simp at this; omega
          have hkey : ms[j].key = k' := by
            have := (hr.2 j hjl (by simpa using hjm)).1
            rw [hje] at this
            simpa using this
          have hb : Instr.sameBits 10000 k' k' = true := q2 10000
          obtain ⟨r1, r2⟩ := hS.mapSet (es' := es.set j (k', x)) (clock := clock) hme hl (hr.put (k := k') hx j)
          refine ⟨_, γ, ?_, r1, r2⟩
          simp [Instr.mapUpdate, run_underlying u1, getMap_run ha, hck, hfk, Instr.keyThatStays, hjm, hkey, hb, setMap_run _ ha]
      · rename_i hfa
        injection ho with ho; subst ho
        rcases findA_sound hr hfa with ⟨e1, e2⟩ | ⟨j', a', v, e1, _⟩
        · have hfk : (Instr.findKey kt vk ms.toList).run P w = .ok none w := by
            simp only [Instr.findKey, Sem.run_bind, run_underlying u2, Result.andThen_ok, e2, Sem.run_pure]
          obtain ⟨r1, r2⟩ := hS.mapSet (es' := es ++ [(vk, x)]) (clock := clock + 1) hme hl (hr.snoc (k := vk) hx clock)
          refine ⟨_, γ, ?_, r1, r2⟩
          simp [Instr.mapUpdate, run_underlying u1, getMap_run ha, hck, hfk, setMap_run _ ha]
        · cases e1
      · cases ho
    · cases ho
  · cases ho
/-- Type assertions to a type that is no interface. -/
def oAssert (P : Program) (t : TypeId) (ok : Bool) (a : AV) : Option AV :=
  match P.underlying t with
  | none => none
  | some (.interface _) => none
  | some _ => match a with
    | .iface u x => if u == t then some (if ok then .tup [x, .v (.bool true)] else x)
      else if ok then (match zeroA P t with | some z => some (.tup [z, .v (.bool false)]) | none => none) else none
    | .v .nilIface => if ok then (match zeroA P t with | some z => some (.tup [z, .v (.bool false)]) | none => none) else none
    | _ => none
theorem oAssert_sound {γ : Gh} {S : St} {w : World} (hS : SR base w0 γ S w) {t xt : TypeId} {ok : Bool} {a : AV} {v : Value} (hv : VR γ w a v) {r : AV} (ho : oAssert P t ok a = some r) : OkV P base w0 γ S w (Instr.typeAssert v xt t ok) r S := by
  unfold oAssert at ho
  split at ho
  · cases ho
  · cases ho
  · rename_i d hd hu
    have hnot : ∀ ms, d ≠ .interface ms := fun ms e => hd ms e
    split at ho
    · rename_i u x
      cases hv with
      | iface _ _ xv hx =>
      split at ho
      · rename_i hut
        have hut : u = t := by simpa using hut
        subst hut
        injection ho with ho; subst ho
        cases ok
        · refine OkV.pure hS (v := xv) ?_ hx
          simp only [Instr.typeAssert, Sem.run_bind, run_underlying hu, Result.andThen_ok]
          cases d <;> first | exact absurd rfl (hnot _) | simp
        · refine OkV.pure hS (v := .tuple #[xv, .bool true]) ?_ (vr_pair hx true)
          simp only [Instr.typeAssert, Sem.run_bind, run_underlying hu, Result.andThen_ok]
          cases d <;> first | exact absurd rfl (hnot _) | simp
      · rename_i hut
        have hut : ¬ u = t := by simpa using hut
        split at ho
        · rename_i hok
          split at ho
          · rename_i z hz
            injection ho with ho; subst ho
            obtain ⟨zv, hzr, hzv⟩ := zeroA_sound (γ := γ) (w := w) hz
            refine OkV.pure hS (v := .tuple #[zv, .bool false]) ?_ (vr_pair hzv false)
            simp only [Instr.typeAssert, Sem.run_bind, run_underlying hu, Result.andThen_ok]
            cases d <;> first | exact absurd rfl (hnot _) | simp [hut, hok, hzr]
          · cases ho
        · cases ho
    · cases hv
      split at ho
      · rename_i hok
        split at ho
        · rename_i z hz
          injection ho with ho; subst ho
          obtain ⟨zv, hzr, hzv⟩ := zeroA_sound (γ := γ) (w := w) hz
          refine OkV.pure hS (v := .tuple #[zv, .bool false]) ?_ (vr_pair hzv false)
          simp only [Instr.typeAssert, Sem.run_bind, run_underlying hu, Result.andThen_ok]
          cases d <;> first | exact absurd rfl (hnot _) | simp [hok, hzr]
        · cases ho
      · cases ho
    · cases ho
end Go.Ax
