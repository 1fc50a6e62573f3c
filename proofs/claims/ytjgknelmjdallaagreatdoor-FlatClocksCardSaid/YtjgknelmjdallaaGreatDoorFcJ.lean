/-
  Operations, one by one: lengths, appends, maps, type assertions.
-/
import Derived.Test.YtjgknelmjdallaaGreatDoorFcI
noncomputable section
namespace Go.Ax
open Go.RowKit
set_option linter.unusedVariables false
set_option linter.unusedSimpArgs false
variable {P : Program} {base : Nat} {w0 : World}

/-- What an append takes from its second argument. -/
def srcA (P : Program) (tx : TypeId) (sz : Nat) (x : AV) : Option (List AV) :=
  match P.underlying tx, x with
  | some (.slice _), .nils => some []
  | some (.slice _), .sl _ _ sz' ns => if sz' == sz then some ns else none
  | some .string, .v (.string s) => if sz == 1 then some (s.data.toList.map fun b => .v (.int .u8 b.toNat)) else none
  | _, _ => none
/-- May a row be appended to? -/
def tipOk (S : St) (tok m : Nat) : Bool := match tok with
  | 0 => false
  | 1 => true
  | k + 2 => match S.mem.get (k + 2) with
    | some (.tip n) => n == m
    | _ => false
theorem tipOk_spec {S : St} {tok m : Nat} (h : tipOk S tok m = true) : tok = 1 ∨ 2 ≤ tok ∧ S.mem.get tok = some (.tip m) := by
  unfold tipOk at h
  split at h
  · cases h
  · exact .inl rfl
  · rename_i k
    split at h
    · rename_i n hn
      have : n = m := by simpa using h
      subst this
      exact .inr ⟨by omega, hn⟩
    · cases h
def oAppend (P : Program) (S : St) (t tx : TypeId) (a x : AV) : Option (AV × St) :=
  match elemT P t with
  | some (none, e) => match P.info? e with
    | some i => match i.zero with
      | some z => if z.cells.size == i.size && decide (0 < i.size) then
          match srcA P tx i.size x with
          | some [] => match a with
            | .nils => some (a, S)
            | .sl _ _ sz _ => if sz == i.size then some (a, S) else none
            | _ => none
          | some (n :: ns) => match a with
            | .nils => if decide ((n :: ns).length * i.bytes ≤ 140737488355328) && decide ((n :: ns).length ≤ 9223372036854775807) then some (.sl S.next 0 i.size (n :: ns), S.grown 1 ((n :: ns).length * i.size)) else none
            | .sl tok off sz es => if sz == i.size && decide ((es.length + (n :: ns).length) * i.bytes ≤ 140737488355328) && decide (es.length + (n :: ns).length ≤ 9223372036854775807) && tipOk S tok (off + es.length * i.size) then
                some (.sl S.next 0 i.size (es ++ n :: ns), S.grown tok ((es ++ n :: ns).length * i.size)) else none
            | _ => none
          | none => none
        else none
      | none => none
    | none => none
  | _ => none
theorem flat_bytes (l : List UInt8) : flat (l.map fun b => AV.v (.int .u8 b.toNat)) = l.map fun b => AV.v (.int .u8 b.toNat) := by
  induction l with
  | nil => rfl
  | cons b r ih => rw [List.map_cons, flat_cons, ih]; rfl
theorem srcA_sound {γ : Gh} {w : World} {tx : TypeId} {sz : Nat} {x : AV} {v : Value} (hv : VR γ w x v) {ns : List AV} (h : srcA P tx sz x = some ns) :
    ∃ news, Src P sz tx v ns.length news w ∧ (∀ e ∈ ns, e.cells.length = sz) ∧ (∀ x ∈ flat ns, x.one = true) ∧ VRL γ w (flat ns) news := by
  unfold srcA at h
  split at h
  · rename_i e' hu
    injection h with h; subst h
    cases hv
    exact ⟨[], Src.ofNil w hu 0, fun _ h => (by cases h), fun _ h => (by simp [flat] at h), VRL.nil γ w⟩
  · rename_i e' tok off sz' ns' hu
    split at h
    · rename_i hs
      have hs : sz' = sz := by simpa using hs
      subst hs
      injection h with h; subst h
      cases hv with
      | sl _ _ _ _ b o cap c hsz hes h1 hcl hr ht hf hc hb =>
      obtain ⟨k1, k2⟩ := sl_cells hcl hr
      refine ⟨_, Src.ofSlice w hu ⟨b, o, none⟩ ns'.length cap _ (by simp [flat_length hes]) (fun j u hu => by rw [Addr.add_mid]; exact k2 j u hu) (k1.ones h1), hes, h1, k1⟩
    · cases h
  · rename_i s hu
    split at h
    · rename_i hs
      have hs : sz = 1 := by simpa using hs
      subst hs
      injection h with h; subst h
      cases hv
      have hl : (s.data.toList.map fun b => AV.v (.int .u8 b.toNat)).length = s.size := by rw [List.length_map, Array.length_toList]; rfl
      have := Src.ofString (P := P) w hu s
      refine ⟨byteCells s, by rw [hl]; exact this, fun e he => ?_, fun e he => ?_, ?_⟩
      · obtain ⟨b, _, rfl⟩ := List.mem_map.1 he; rfl
      · rw [flat_bytes] at he
        obtain ⟨b, _, rfl⟩ := List.mem_map.1 he; rfl
      · rw [flat_bytes]
        refine ⟨by simp [byteCells], fun k hk hk' => ?_⟩
        simp [byteCells]
        exact .v _ rfl
    · cases h
  · cases h
theorem append_none {w : World} {t tx ty e : TypeId} {i : TypeInfo} (ht : P.underlying t = some (.slice e)) (hi : P.info? e = some i) {x : Value} (hs : Src P i.size tx x 0 [] w) (bs : Option Addr) (n c : Nat) (hc : n ≤ c) :
    (Builtin.append_ #[t, tx] ty #[.slice bs n c, x]).run P w = .ok (.slice bs n c) w := by
  rcases hs.kind with ⟨e', hk⟩ | hk <;> cases bs <;> simp [Builtin.append_, run_underlying ht, run_underlying hk, sizeOf, typeInfo, hi, hs.len, hc, hs.cells, storeCells]
theorem oAppend_sound {γ : Gh} {S S' : St} {w : World} (hS : SR base w0 γ S w) {t tx ty : TypeId} {a x r : AV} {v u : Value} (hv : VR γ w a v) (hu : VR γ w x u) (ho : oAppend P S t tx a x = some (r, S')) :
    OkV P base w0 γ S w (Builtin.append_ #[t, tx] ty #[v, u]) r S' := by
  unfold oAppend at ho
  split at ho
  · rename_i e he
    have ht := elemT_slice he
    split at ho
    · rename_i i hi
      split at ho
      · rename_i z hz
        split at ho
        · rename_i hc
          simp only [Bool.and_eq_true, beq_iff_eq, decide_eq_true_eq] at hc
          split at ho
          · rename_i hsrc
            obtain ⟨news, s1, s2, s3, s4⟩ := srcA_sound hu hsrc
            have hn : news = [] := List.eq_nil_of_length_eq_zero s4.1
            subst hn
            split at ho
            · injection ho with ho; injection ho with h1 h2; subst h1; subst h2
              cases hv
              exact OkV.pure hS (append_none ht hi s1 none 0 0 (Nat.le_refl _)) .nils
            · rename_i tok off sz es
              split at ho
              · injection ho with ho; injection ho with h1 h2; subst h1; subst h2
                have hv' := hv
                cases hv with
                | sl _ _ _ _ b o cap c hsz hes h1 hcl hr ht2 hf hcp hb =>
                exact OkV.pure hS (append_none ht hi s1 (some ⟨b, o, none⟩) es.length cap hcp) hv'
              · cases ho
            · cases ho
          · rename_i n ns hsrc
            obtain ⟨news, s1, s2, s3, s4⟩ := srcA_sound hu hsrc
            split at ho
            · split at ho
              · rename_i hb
                simp only [Bool.and_eq_true, decide_eq_true_eq] at hb
                injection ho with ho; injection ho with h1 h2; subst h1; subst h2
                have := append_sound hS t tx ty e i z i.size ht hi hz rfl hc.1 hc.2 u (n :: ns) news s1 s2 s3 s4 (Nat.succ_pos _) .nils v hv 1 [] (.inl ⟨rfl, rfl⟩) (by simpa using hb.1) (by simpa using hb.2)
                obtain ⟨v', w', γ', k1, k2, k3, k4⟩ := this
                exact ⟨v', w', γ', k1, by simpa using k2, by simpa using k3, by simpa using k4⟩
              · cases ho
            · rename_i tok off sz es
              split at ho
              · rename_i hb
                simp only [Bool.and_eq_true, decide_eq_true_eq, beq_iff_eq] at hb
                obtain ⟨⟨⟨hsz, hb1⟩, hb2⟩, hb3⟩ := hb
                subst hsz
                injection ho with ho; injection ho with h1 h2; subst h1; subst h2
                have := append_sound hS t tx ty e i z i.size ht hi hz rfl hc.1 hc.2 u (n :: ns) news s1 s2 s3 s4 (Nat.succ_pos _) (.sl tok off i.size es) v hv tok es (.inr ⟨off, rfl, tipOk_spec hb3⟩) hb1 hb2
                obtain ⟨v', w', γ', k1, k2, k3, k4⟩ := this
                exact ⟨v', w', γ', k1, k2, k3, k4⟩
              · cases ho
            · cases ho
          · cases ho
        · cases ho
      · cases ho
    · cases ho
  · cases ho
theorem getMap_run {w : World} {r : Nat} {es : Array MapEntry} {clock : Nat} (hb : w.heap[r]? = some (.map es clock)) : (getObj r).run P w = .ok (.map es clock) w := by
  simp [getObj, Sem.run, hb]
theorem setMap_run {w : World} {r : Nat} {es : Array MapEntry} {clock : Nat} (o : Obj) (hb : w.heap[r]? = some (.map es clock)) : (setObj r o).run P w = .ok () { w with heap := w.heap.setIfInBounds r o } := by
  simp [setObj, Sem.run, hb]
def oLen (P : Program) (S : St) (t : TypeId) (a : AV) : Option Nat :=
  match P.underlying t, a with
  | some (.slice _), .nils => some 0
  | some (.slice _), .sl _ _ _ es => some es.length
  | some (.slice _), .bs _ _ n _ => some n
  | some (.map _ _), .nilm => some 0
  | some (.map _ _), .map id => match S.mem.get id with
    | some (.mp es) => some es.length
    | _ => none
  | some .string, .v (.string s) => some s.size
  | _, _ => none
theorem oLen_sound {γ : Gh} {S : St} {w : World} (hS : SR base w0 γ S w) {t ty : TypeId} {a : AV} {v : Value} (hv : VR γ w a v) {n : Nat} (ho : oLen P S t a = some n) : (Builtin.len_ #[t] ty #[v]).run P w = .ok (goInt n) w := by
  unfold oLen at ho
  split at ho
  · rename_i e hu; injection ho with ho; subst ho; cases hv; simp [Builtin.len_, run_underlying hu]
  · rename_i e tok off sz es hu; injection ho with ho; subst ho; cases hv; simp [Builtin.len_, run_underlying hu]
  · rename_i e id off m sz hu; injection ho with ho; subst ho; cases hv; simp [Builtin.len_, run_underlying hu]
  · rename_i e e2 hu; injection ho with ho; subst ho; cases hv; simp [Builtin.len_, run_underlying hu]
  · rename_i e e2 id hu
    split at ho
    · rename_i es hm
      injection ho with ho; subst ho
      cases hv with
      | map _ b s hl =>
      obtain ⟨b2, s2, l1, l2, l3⟩ := hS.live id _ hm
      rw [hl] at l1; injection l1 with l1; injection l1 with e1 e2; subst e1; subst e2
      obtain ⟨_, ms, clock, ha, hr⟩ := l3
      have hl2 := hr.1
      have hl3 : ms.size = es.length := by simpa using hl2
      simp [Builtin.len_, run_underlying hu, getMap_run ha, hl3]
    · cases ho
  · rename_i s hu; injection ho with ho; subst ho; cases hv; simp [Builtin.len_, run_underlying hu]
  · cases ho

/-- A map's block gets another content. -/
theorem SR.mapSet {γ : Gh} {S : St} {w : World} (h : SR base w0 γ S w) {id b s : Nat} {es es' : List (Value × AV)} (hm : S.mem.get id = some (.mp es)) (hl : γ.loc id = some (b, s)) {ms : Array MapEntry} {clock : Nat} (hr : MapR γ w es' ms.toList) :
    SR base w0 γ { S with mem := S.mem.set id (some (.mp es')) } { w with heap := w.heap.setIfInBounds b (.map ms clock) } ∧ Ext γ S w γ { S with mem := S.mem.set id (some (.mp es')) } { w with heap := w.heap.setIfInBounds b (.map ms clock) } := by
  obtain ⟨b2, s2, l1, l2, l3⟩ := h.live id _ hm
  rw [hl] at l1; injection l1 with l1; injection l1 with e1 e2; subst e1; subst e2
  obtain ⟨hs0, ms0, clock0, ha, hr0⟩ := l3
  have hblt := h.inb id b s hl
  have hne : ∀ k, k ≠ b → (w.heap.setIfInBounds b (.map ms clock))[k]? = w.heap[k]? := fun k hk => Array.getElem?_setIfInBounds_ne (by omega)
  have hself : (w.heap.setIfInBounds b (.map ms clock))[b]? = some (.map ms clock) := Array.getElem?_setIfInBounds_self_of_lt hblt
  have hnoim : ∀ o, ¬ γ.im b o := fun o ho => by
    obtain ⟨v, hv⟩ := h.imc b o ho
    simp [World.cell?, ha] at hv
  have ev : Ev γ w γ { w with heap := w.heap.setIfInBounds b (.map ms clock) } := by
    refine ⟨fun _ _ h => h, fun _ _ h => h, fun b' o v hi hv => ?_, fun b' arr T fr h2 => ?_⟩
    · by_cases e : b' = b
      · subst e; exact absurd hi (hnoim o)
      · exact (World.cell?_of_block (a := ⟨b', o, none⟩) (w := w) (hne b' e)).trans hv
    · by_cases e : b' = b
      · subst e; rw [ha] at h2; cases h2
      · exact ⟨arr, fr, (hne b' e).trans h2, rfl⟩
  have G : ∀ i, (S.mem.set id (some (.mp es'))).get i = if i = id then some (.mp es') else S.mem.get i := fun i => Go.Ax.T.get_set _ _ _ _
  have sub : ∀ i c, (S.mem.set id (some (.mp es'))).get i = some c → ∃ d, S.mem.get i = some d := fun i c e => by
    rw [G] at e
    split at e
    · rename_i hq; exact ⟨_, hq ▸ hm⟩
    · exact ⟨_, e⟩
  refine ⟨⟨⟨h.below.os, h.below.tape, h.below.output, by simpa using h.below.size, fun k hk => (hne k (by omega)).trans (h.below.block k hk)⟩, by simpa using h.hbase, fun b' o hi => ?_, fun i hi => ?_, h.pos, fun i b' s' e => by simpa using h.inb i b' s' e, fun i c e => ?_, fun i i' c1 c2 b' s1 s2 e1 e2 q1 q2 => ?_⟩, Ext.store (b := b) ev (by simp) hne rfl ⟨id, _, s, hm, hl⟩ (fun i ⟨c, hc⟩ => sub i c hc)⟩
  · obtain ⟨v, hv⟩ := h.imc b' o hi; exact ⟨v, ev.cell b' o v hi hv⟩
  · have := h.fresh i hi
    refine ⟨this.1, ?_⟩
    show (S.mem.set id _).get i = none
    rw [G, if_neg (fun e => by subst e; rw [hl] at this; cases this.1)]
    exact this.2
  · have e : (S.mem.set id _).get i = some c := e
    rw [G] at e
    split at e
    · rename_i hid
      injection e with e; subst e; subst hid
      exact ⟨b, s, hl, l2, hs0, ms, clock, hself, hr.1, fun k h1 h2 => ⟨(hr.2 k h1 h2).1, (hr.2 k h1 h2).2.mono ev⟩⟩
    · rename_i hid
      obtain ⟨b', s', q1, q2, q3⟩ := h.live i c e
      have hbb : b' ≠ b := fun eb => by subst eb; exact hid (h.inj i id c _ b' s' s e hm q1 hl)
      exact ⟨b', s', q1, q2, q3.keep ev (hne b' hbb) (fun _ h => h)⟩
  · obtain ⟨d1, E1⟩ := sub i c1 e1
    obtain ⟨d2, E2⟩ := sub i' c2 e2
    exact h.inj i i' d1 d2 b' s1 s2 E1 E2 q1 q2
/-- A key's place. -/
def findA (d : TypeDesc) (k : Value) : List (Value × AV) → Nat → Option (Option (Nat × AV))
  | [], _ => some none
  | (k', a) :: es, i => match Instr.sameNow d k k' with
    | some true => some (some (i, a))
    | some false => findA d k es (i + 1)
    | none => none
theorem MapR.tail {γ : Gh} {w : World} {k : Value} {a : AV} {es : List (Value × AV)} {m : MapEntry} {ms : List MapEntry} (h : MapR γ w ((k, a) :: es) (m :: ms)) : m.key = k ∧ VR γ w a m.val ∧ MapR γ w es ms := by
  have h0 := h.2 0 (by simp) (by simp)
  exact ⟨h0.1, h0.2, by simpa using h.1, fun j h1 h2 => h.2 (j + 1) (by simpa using h1) (by simpa using h2)⟩
theorem findA_sound {γ : Gh} {w : World} {d : TypeDesc} {k : Value} : ∀ {es : List (Value × AV)} {ms : List MapEntry} {i : Nat} {r : Option (Nat × AV)}, MapR γ w es ms → findA d k es i = some r →
    (r = none ∧ Instr.findNow d k ms i = some none) ∨ ∃ j a v, r = some (i + j, a) ∧ Instr.findNow d k ms i = some (some (i + j, v)) ∧ VR γ w a v ∧ (∃ k', es[j]? = some (k', a) ∧ Instr.sameNow d k k' = some true)
  | [], ms, i, r, hm, h => by
    have : ms = [] := List.eq_nil_of_length_eq_zero hm.1
    subst this
    injection h with h
    exact .inl ⟨h.symm, rfl⟩
  | (k', a) :: es, ms, i, r, hm, h => by
    cases ms with
    | nil => have := hm.1; simp at this
    | cons m ms =>
    obtain ⟨h1, h2, h3⟩ := hm.tail
    unfold findA at h
    split at h
    · rename_i hs
      injection h with h
      exact .inr ⟨0, a, m.val, by simpa using h.symm, by simp [Instr.findNow, h1, hs], h2, k', rfl, hs⟩
    · rename_i hs
      rcases findA_sound h3 h with ⟨e1, e2⟩ | ⟨j, a', v, e1, e2, e3, k2, e4, e5⟩
      · exact .inl ⟨e1, by simp [Instr.findNow, h1, hs, e2]⟩
      · exact .inr ⟨j + 1, a', v, by rw [e1]; congr 2; omega, by simp [Instr.findNow, h1, hs, e2]; omega, e3, k2, by simpa using e4, e5⟩
    · cases h
def plainKey : TypeDesc → Bool
  | .string => true
  | .int _ => true
  | .bool => true
  | _ => false
theorem checkKey_run {t : TypeId} {d : TypeDesc} (hu : P.underlying t = some d) (hd : plainKey d = true) (e : Bool) (n : Nat) (v : Value) (w : World) : (Instr.checkKey e (n + 1) t v).run P w = .ok () w := by
  cases d <;> first | (cases hd; done) | simp [Instr.checkKey, run_underlying hu]
def mapT (P : Program) (t : TypeId) : Option (TypeId × TypeDesc × TypeId) := match P.underlying t with
  | some (.map k e) => match P.underlying k with
    | some d => if plainKey d then some (k, d, e) else none
    | none => none
  | _ => none
theorem mapT_spec {t k e : TypeId} {d : TypeDesc} (h : mapT P t = some (k, d, e)) : P.underlying t = some (.map k e) ∧ P.underlying k = some d ∧ plainKey d = true := by
  unfold mapT at h
  split at h
  · rename_i k' e' hu
    split at h
    · rename_i d' hd
      split at h
      · rename_i hp
        injection h with h; injection h with h1 h2; injection h2 with h2 h3; subst h1; subst h2; subst h3
        exact ⟨hu, hd, hp⟩
      · cases h
    · cases h
  · cases h
def entriesA (S : St) : AV → Option (List (Value × AV))
  | .nilm => some []
  | .map id => match S.mem.get id with
    | some (.mp es) => some es
    | _ => none
  | _ => none
def oLookup (P : Program) (S : St) (t : TypeId) (m k : AV) (ok : Bool) : Option AV :=
  match mapT P t, entriesA S m, toVal 8 k with
  | some (kt, d, et), some es, some kv => match findA d kv es 0 with
    | some (some (_, a)) => some (if ok then .tup [a, .v (.bool true)] else a)
    | some none => match zeroA P et with
      | some z => some (if ok then .tup [z, .v (.bool false)] else z)
      | none => none
    | none => none
  | _, _, _ => none
theorem vr_pair {γ : Gh} {w : World} {a : AV} {v : Value} (h : VR γ w a v) (b : Bool) : VR γ w (.tup [a, .v (.bool b)]) (.tuple #[v, .bool b]) := by
  have := VRL.cons h (VRL.cons (.v (.bool b) rfl) (VRL.nil γ w))
  exact .tup [a, .v (.bool b)] [v, .bool b] this.1 this.2
theorem oLookup_sound {γ : Gh} {S : St} {w : World} (hS : SR base w0 γ S w) {t : TypeId} {m k : AV} {vm vk : Value} (hm : VR γ w m vm) (hk : VR γ w k vk) {ok : Bool} {r : AV} (ho : oLookup P S t m k ok = some r) : OkV P base w0 γ S w (Instr.lookup t vm vk ok) r S := by
  unfold oLookup at ho
  split at ho
  · rename_i kt d et es kv ht hes hkv
    obtain ⟨u1, u2, u3⟩ := mapT_spec ht
    have hkk := toVal_sound hkv hk
    subst hkk
    have key : ∃ ms : Array MapEntry, MapR γ w es ms.toList ∧ ((vm = .map none ∧ ms = #[]) ∨ ∃ b clock, vm = .map (some b) ∧ w.heap[b]? = some (.map ms clock)) := by
      unfold entriesA at hes
      split at hes
      · injection hes with hes; subst hes
        cases hm
        exact ⟨#[], ⟨rfl, fun _ h => by cases h⟩, .inl ⟨rfl, rfl⟩⟩
      · rename_i id
        split at hes
        · rename_i es' hme
          injection hes with hes; subst hes
          cases hm with
          | map _ b s hl =>
          obtain ⟨b2, s2, l1, l2, l3⟩ := hS.live id _ hme
          rw [hl] at l1; injection l1 with l1; injection l1 with e1 e2; subst e1; subst e2
          obtain ⟨_, ms, clock, ha, hr⟩ := l3
          exact ⟨ms, hr, .inr ⟨b, clock, rfl, ha⟩⟩
        · cases hes
      · cases hes
    obtain ⟨ms, hmr, hcase⟩ := key
    have hck := fun e => checkKey_run (P := P) u2 u3 e 9999 vk w
    split at ho
    · rename_i j a hfa
      injection ho with ho; subst ho
      rcases findA_sound hmr hfa with ⟨e1, e2⟩ | ⟨j', a', v, e1, e2, e3, _⟩
      · cases e1
      · injection e1 with e1; injection e1 with e11 e12; subst e12
        have hfk : (Instr.findKey kt vk ms.toList).run P w = .ok (some (0 + j', v)) w := by
          simp only [Instr.findKey, Sem.run_bind, run_underlying u2, Result.andThen_ok, e2, Sem.run_pure]
        have hr : (Instr.lookup t vm vk ok).run P w = .ok (if ok then .tuple #[v, .bool true] else v) w := by
          rcases hcase with ⟨rfl, rfl⟩ | ⟨b, clock, rfl, hb⟩
          · have hfk' := hfk
            simp only [Array.toList_empty] at hfk'
            simp [Instr.lookup, run_underlying u1, hck, hfk']
          · simp [Instr.lookup, run_underlying u1, getMap_run hb, hck, hfk]
        refine OkV.pure hS hr ?_
        cases ok
        · exact e3
        · exact vr_pair e3 true
    · rename_i hfa
      split at ho
      · rename_i z hz
        injection ho with ho; subst ho
        obtain ⟨zv, hzr, hzv⟩ := zeroA_sound (γ := γ) (w := w) hz
        rcases findA_sound hmr hfa with ⟨e1, e2⟩ | ⟨j', a', v, e1, _⟩
        · have hfk : (Instr.findKey kt vk ms.toList).run P w = .ok none w := by
            simp only [Instr.findKey, Sem.run_bind, run_underlying u2, Result.andThen_ok, e2, Sem.run_pure]
          have hr : (Instr.lookup t vm vk ok).run P w = .ok (if ok then .tuple #[zv, .bool false] else zv) w := by
            rcases hcase with ⟨rfl, rfl⟩ | ⟨b, clock, rfl, hb⟩
            · have hfk' := hfk
              simp only [Array.toList_empty] at hfk'
              simp [Instr.lookup, run_underlying u1, hck, hfk', hzr]
            · simp [Instr.lookup, run_underlying u1, getMap_run hb, hck, hfk, hzr]
          refine OkV.pure hS hr ?_
          cases ok
          · exact hzv
          · exact vr_pair hzv false
        · cases e1
      · cases ho
    · cases ho
  · cases ho
end Go.Ax
