/-
  Strings as rows of bytes, and back.
-/
import Derived.Test.YtjgknelmjdallaaGreatDoorFcK
import Derived.Laws.IdiomStrings
noncomputable section
namespace Go.Ax
open Go.RowKit
set_option linter.unusedVariables false
set_option linter.unusedSimpArgs false
variable {P : Program} {base : Nat} {w0 : World}
def byteA (b : UInt8) : AV := .v (.int .u8 b.toNat)
def intsA : List AV → Option (List Int)
  | [] => some []
  | .v (.int .u8 n) :: r => match intsA r with
    | some l => some (n :: l)
    | none => none
  | _ => none
def oConvert (P : Program) (src dst : TypeId) (a : AV) : Option AV :=
  match P.underlying src, P.underlying dst, a with
  | some .string, some (.slice e), .v (.string s) => match P.underlying e with
    | some (.int .u8) => some (.sl 0 0 1 (s.data.toList.map byteA))
    | _ => none
  | some (.slice e), some .string, .sl _ _ sz es => match P.underlying e with
    | some (.int .u8) => if sz == 1 then match intsA es with
        | some l => some (.v (.string (l.foldl (fun r n => r.push (UInt8.ofNat n.toNat)) ByteArray.empty)))
        | none => none
      else none
    | _ => none
  | _, _, _ => none
theorem intsA_sound {γ : Gh} {w : World} : ∀ {es : List AV} {l : List Int} {vs : List Value}, intsA es = some l → VRL γ w (flat es) vs → vs = l.map (Value.int .u8)
  | [], l, vs, h, hv => by
    injection h with h; subst h
    exact List.eq_nil_of_length_eq_zero hv.1
  | a :: r, l, vs, h, hv => by
    cases a with
    | v x =>
      cases x with
      | int k n =>
        cases k <;> simp only [intsA] at h <;> try (cases h; done)
        split at h
        · rename_i l' hl
          injection h with h; subst h
          rw [flat_cons] at hv
          obtain ⟨y, ys, rfl, hy, hys⟩ := VRL.head (as := flat r) hv
          cases hy
          rw [intsA_sound hl hys]; rfl
        · cases h
      | _ => simp [intsA] at h
    | _ => simp [intsA] at h
theorem oConvert_sound {γ : Gh} {S : St} {w : World} (hS : SR base w0 γ S w) {src dst : TypeId} {a : AV} {v : Value} (hv : VR γ w a v) {r : AV} (ho : oConvert P src dst a = some r) : OkV P base w0 γ S w (convert src dst v) r S := by
  unfold oConvert at ho
  split at ho
  · rename_i e s h1 h2
    split at ho
    · rename_i h3
      injection ho with ho; subst ho
      cases hv
      obtain ⟨d1, d2⟩ := hS.drew
      have hrun := run_bytes_of_string w src dst e s h1 h2 h3
      have hge := grownCap_ge w s.size 0 e
      generalize grownCap w s.size 0 e = cap at hrun hge
      obtain ⟨arr, harr⟩ : ∃ arr : Array Value, arr = bytesRow s cap := ⟨_, rfl⟩
      rw [← harr] at hrun
      have hds : s.data.size = s.size := rfl
      have hal : arr.size = cap := by rw [harr]; simp [bytesRow]; omega
      obtain ⟨k1, k2⟩ := d1.allocIm arr e s.size (by omega) (arr.size, arr.size + 1)
      have hx := Ext.allocIm (S := S) arr e s.size k2
      have hx2 : Ext γ S w _ S _ := Ext.trans (S1 := S) (w1 := w.drew) (Ext.of_same (w := w) (w' := w.drew) rfl d2) hx
      have e1 : w.drew.heap.size = w.heap.size := rfl
      refine ⟨.slice (some ⟨w.heap.size, 0, none⟩) s.size cap, _, _, hrun, k1, hx2, ?_⟩
      have hl : (s.data.toList.map byteA).length = s.size := by rw [List.length_map, Array.length_toList]; rfl
      have hfl : flat (s.data.toList.map byteA) = s.data.toList.map byteA := flat_bytes _
      have hcell : ∀ k, k < s.data.size → arr[k]? = some (.int .u8 ((s.data[k]?.getD 0).toNat : Int)) := fun k hk => by
        rw [harr]
        unfold bytesRow
        rw [Array.getElem?_append_left (by simpa using hk), Array.getElem?_map, Array.getElem?_eq_getElem hk]
        rfl
      have := VR.sl (γ := γ.withIm w.drew.heap.size 0 s.size) (w := w.drew.alloc (.cells arr e (arr.size, arr.size + 1))) 0 0 1 (s.data.toList.map byteA) w.heap.size 0 cap (fun k => .int .u8 ((s.data[k]?.getD 0).toNat : Int)) (by decide) (fun x hx => by obtain ⟨b, _, rfl⟩ := List.mem_map.1 hx; rfl) (fun x hx => by
          rw [hfl] at hx; obtain ⟨b, _, rfl⟩ := List.mem_map.1 hx; rfl) (fun k hk => by
          rw [hfl, hl] at hk
          refine ⟨.inr ⟨rfl, by omega, by omega⟩, ?_⟩
          have := alloc_new_cell w.drew arr e (fr := (arr.size, arr.size + 1)) (hcell k hk)
          rw [e1] at this
          rw [Nat.zero_add]
          exact this) (fun k hk => by
          have hk2 := hk
          rw [hfl, hl] at hk2
          have h5 : k < s.data.size := by omega
          have : (flat (s.data.toList.map byteA))[k] = byteA s.data[k] := by simp only [hfl]; simp
          rw [this]
          have h6 : (s.data[k]?.getD 0) = s.data[k] := by rw [Array.getElem?_eq_getElem h5]; rfl
          rw [h6]
          exact .v _ rfl) (fun h => by omega) (fun h => by omega) (by omega) ⟨arr, e, (arr.size, arr.size + 1), by
            have := heap_alloc_new w.drew (.cells arr e (arr.size, arr.size + 1))
            rwa [e1] at this, by omega⟩
      rw [hl] at this
      exact this
    · cases ho
  · rename_i e tok off sz es h1 h2
    split at ho
    · rename_i h3
      split at ho
      · rename_i hsz
        have hsz : sz = 1 := by simpa using hsz
        subst hsz
        split at ho
        · rename_i l hl
          injection ho with ho; subst ho
          cases hv with
          | sl _ _ _ _ b o cap c hs hes hone hcl hr ht hf hc hb =>
          obtain ⟨s1, s2⟩ := sl_cells hcl hr
          have hvs := intsA_sound hl s1
          have hfe : (flat es).length = es.length := by rw [flat_length hes]; simp
          have hld : (loadCells ⟨b, o, none⟩ es.length).run P w = .ok (l.map (Value.int .u8)).toArray w := by
            have := run_loadCells_list (P := P) w ⟨b, o, none⟩ ((List.range (flat es).length).map c) (fun j u hu => by rw [Addr.add_mid]; exact s2 j u hu)
            rw [hvs] at this
            have hll : (l.map (Value.int .u8)).length = es.length := by rw [← hvs]; simp [hfe]
            rwa [hll] at this
          refine OkV.pure hS (v := .string (l.foldl (fun r n => r.push (UInt8.ofNat n.toNat)) ByteArray.empty)) ?_ (.v _ rfl)
          rw [run_convert_bytes_string w src dst e (some ⟨b, o, none⟩) es.length cap h1 h3 h2]
          exact run_bytesToString w ⟨b, o, none⟩ es.length cap l hld
        · cases ho
      · cases ho
    · cases ho
  · cases ho
end Go.Ax
