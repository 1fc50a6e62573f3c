/-
  Appends to rows that are stored into: the row is a variable's, whether there was room or not.
-/
import Derived.Test.YtjgknelmjdallaaGreatDoorFcK4
noncomputable section
namespace Go.Ax
open Go.RowKit
set_option linter.unusedVariables false
set_option linter.unusedSimpArgs false
variable {P : Program} {base : Nat} {w0 : World}
/-- A block that has no name, and of which nothing is known to stay, is written to. -/
theorem SR.scribble {w : World} {γ : Gh} {S : St} (h : SR base w0 γ S w) {b o : Nat} (hb : base ≤ b) (hn : ∀ id c s, S.mem.get id = some c → γ.loc id ≠ some (b, s)) (him : ∀ o, ¬ γ.im b o) {arr : Array Value} {T : TypeId} {fr : Nat × Nat} (ha : w.heap[b]? = some (Obj.cells arr T fr)) (y : List Value) :
    SR base w0 γ S (w.setCells b o y) ∧ Ev γ w γ (w.setCells b o y) := by
  obtain ⟨⟨arr', ha', hs'⟩, hk⟩ := setCells_block b y o w arr T fr ha
  obtain ⟨r1, r2, r3, r4⟩ := setCells_rest b y o w
  have ev : Ev γ w γ (w.setCells b o y) := by
    refine ⟨fun _ _ h => h, fun _ _ h => h, fun b' o' v hi hv => ?_, fun b' arr2 T2 fr2 h2 => ?_⟩
    · by_cases e : b' = b
      · subst e; exact absurd hi (him o')
      · exact (World.cell?_of_block (a := ⟨b', o', none⟩) (hk b' e)).trans hv
    · by_cases e : b' = b
      · subst e
        rw [ha] at h2; injection h2 with h2; injection h2 with q1 q2 q3; subst q1; subst q2; subst q3
        exact ⟨arr', _, ha', hs'⟩
      · exact ⟨arr2, fr2, (hk b' e).trans h2, rfl⟩
  refine ⟨⟨below_setCells h.below b _ y hb hk, by rw [r4]; exact h.hbase, fun b' o' hi => ?_, h.fresh, h.pos, fun id b' s' e => by rw [r4]; exact h.inb id b' s' e, fun id c e => ?_, h.inj⟩, ev⟩
  · obtain ⟨v, hv⟩ := h.imc b' o' hi; exact ⟨v, ev.cell b' o' v hi hv⟩
  · obtain ⟨b', s', q1, q2, q3⟩ := h.live id c e
    have hbb : b' ≠ b := fun eb => by subst eb; exact hn id c s' e q1
    exact ⟨b', s', q1, q2, q3.keep ev (hk b' hbb) (fun _ h => h)⟩
/-- A new block with a name, of whose content the beginning is known. -/
theorem SR.newBoxP {w : World} {γ : Gh} {S : St} (h : SR base w0 γ S w) (T : TypeId) {cs : List AV} {x y : List Value} (hr : VRL γ w cs x) (h1 : ∀ c ∈ cs, c.one = true) {arr : Array Value} (harr : arr.toList = x ++ y) :
    SR base w0 (γ.withLoc S.next w.heap.size 0) (S.newBox cs) (w.alloc (.cells arr T)) ∧ Ext γ S w (γ.withLoc S.next w.heap.size 0) (S.newBox cs) (w.alloc (.cells arr T)) := by
  obtain ⟨a1, a2⟩ := h.allocIm arr T 0 (Nat.zero_le _)
  have h0 : SR base w0 γ S (w.alloc (.cells arr T)) := by
    refine ⟨a1.below, a1.hbase, fun b o hi => a1.imc b o (.inl hi), a1.fresh, a1.pos, a1.inb, fun id c e => ?_, a1.inj⟩
    obtain ⟨b, s, l1, l2, l3⟩ := h.live id c e
    exact ⟨b, s, l1, l2, l3.keep (ev_alloc γ w _) (Below.heap_alloc w _ _ (h.inb id b s l1)) (fun _ h => h)⟩
  have key := h0.name w.heap.size 0 (.box cs) h.hbase (by simp) ⟨rfl, fun o ho => by have := imc_lt h ho; omega, h1, arr, T, x, y, heap_alloc_new w _, harr, hr.mono (ev_alloc γ w _)⟩
    (fun id c s' e l => by have := h.inb id _ _ l; omega)
  exact ⟨key.1, Ext.newBox h _ _⟩
theorem St.kill_zero (S : St) : S.kill 0 = S := rfl
/-- The row's old name is gone, the new one bears all. -/
def St.moved (S : St) (tok : Nat) (cs : List AV) : St := { next := S.next + 1, mem := (S.kill tok).mem.set S.next (some (.box cs)) }
def oAppendM (P : Program) (S : St) (t tx : TypeId) (all : Bool) (a x : AV) : Option (AV × St) :=
  match elemT P t with
  | some (none, e) => match P.info? e with
    | some i => match i.zero with
      | some z => if z.cells.size == i.size && decide (0 < i.size) then
          match srcA P tx i.size x with
          | some (n :: ns) => if decide ((n :: ns).length * i.bytes ≤ 140737488355328) && decide ((n :: ns).length ≤ 9223372036854775807) then (match a with
            | .nils => if all then some (.bs S.next 0 (n :: ns).length i.size, S.newBox (flat (n :: ns))) else none
            | .sl 1 _ sz [] => if sz == i.size then some (.bs S.next 0 (n :: ns).length i.size, S.newBox (flat (n :: ns))) else none
            | .bs (id + 2) 0 len sz => match S.mem.get (id + 2) with
              | some (.box cs) => if sz == i.size && decide (len * sz ≤ cs.length) && decide ((len + (n :: ns).length) * i.bytes ≤ 140737488355328) && decide (len + (n :: ns).length ≤ 9223372036854775807) then
                  some (.bs S.next 0 (len + (n :: ns).length) i.size, S.moved (id + 2) (cs.take (len * sz) ++ flat (n :: ns))) else none
              | _ => none
            | _ => none) else none
          | _ => none
        else none
      | none => none
    | none => none
  | _ => none
theorem firstCells_nil (w : World) (size : Nat) (b o cap : Nat) : (Builtin.firstCells size 0 (.slice (some ⟨b, o, none⟩) 0 cap)).run P w = .ok #[] w :=
  run_firstCells_some w size 0 ⟨b, o, none⟩ 0 cap [] (by simp) (fun j u h => by cases h)
theorem oAppendM_sound {γ : Gh} {S S' : St} {w : World} (hS : SR base w0 γ S w) {t tx ty : TypeId} {all : Bool} {a x r : AV} {v u : Value} (hv : VR γ w a v) (hu : VR γ w x u) (ho : oAppendM P S t tx all a x = some (r, S')) :
    OkV P base w0 γ S w (Builtin.append_ #[t, tx] ty #[v, u]) r S' := by
  unfold oAppendM at ho
  split at ho
  case h_2 => cases ho
  rename_i e he
  have ht := elemT_slice he
  split at ho
  case h_2 => cases ho
  rename_i i hi
  split at ho
  case h_2 => cases ho
  rename_i z hz
  split at ho
  case isFalse => cases ho
  rename_i hc
  simp only [Bool.and_eq_true, beq_iff_eq, decide_eq_true_eq] at hc
  obtain ⟨hzs, hsz0⟩ := hc
  split at ho
  case h_2 => cases ho
  rename_i n ns hsrc
  obtain ⟨news, s1, s2, s3, s4⟩ := srcA_sound hu hsrc
  generalize hN : n :: ns = N at ho s1 s2 s3 s4
  have hN0 : 0 < N.length := by rw [← hN]; simp
  have hnl : news.length = N.length * i.size := by rw [s4.1, flat_length s2]
  split at ho
  case isFalse => cases ho
  rename_i hbd
  simp only [Bool.and_eq_true, decide_eq_true_eq] at hbd
  obtain ⟨hb1, hb2⟩ := hbd
  obtain ⟨d1, d2⟩ := hS.drew
  have hxd : Ext γ S w γ S w.drew := Ext.of_same (w := w) (w' := w.drew) rfl d2
  -- out of nothing
  have fresh : ∀ (bs : Option Addr) (sCap : Nat), v = .slice bs 0 sCap → (Builtin.firstCells i.size 0 (.slice bs 0 sCap)).run P w.drew = .ok #[] w.drew → sCap < N.length →
      OkV P base w0 γ S w (Builtin.append_ #[t, tx] ty #[v, u]) (.bs S.next 0 N.length i.size) (S.newBox (flat N)) := fun bs sCap hve hfc hcap => by
    subst hve
    have hrun := run_append_grow_src w t tx ty e i z ht hi hz bs 0 sCap [] hfc u N.length news s1 (by omega) (by omega) (growslice_fits (by omega) (by simpa using hb1))
    simp only [List.nil_append, Nat.zero_add] at hrun
    have hge := grownCap_ge w N.length sCap e
    obtain ⟨k1, k2⟩ := d1.newBoxP e (s4.mono d2) s3 (y := (Builtin.zeroCells z.cells (grownCap w N.length sCap e - N.length)).toList) (arr := news.toArray ++ Builtin.zeroCells z.cells (grownCap w N.length sCap e - N.length)) (by simp)
    refine ⟨_, _, γ.withLoc S.next w.heap.size 0, hrun, k1, hxd.trans k2, ?_⟩
    refine .bs S.next 0 N.length i.size w.heap.size 0 _ (by show (if S.next = S.next then _ else _) = _; rw [if_pos rfl]) hge hsz0 ⟨_, e, (0, 0), heap_alloc_new w.drew _, ?_⟩
    rw [Array.size_append, size_zeroCells, hzs]
    simp only [List.size_toArray, hnl]
    rw [← Nat.add_mul]
    have : N.length + (grownCap w N.length sCap e - N.length) = grownCap w N.length sCap e := by omega
    rw [this]; omega
  split at ho
  · split at ho
    · injection ho with ho; injection ho with h1 h2; subst h1; subst h2
      cases hv
      exact fresh none 0 rfl (run_firstCells_none w.drew i.size 0 0 0) hN0
    · cases ho
  · rename_i off sz
    split at ho
    · injection ho with ho; injection ho with h1 h2; subst h1; subst h2
      cases hv with
      | sl _ _ _ _ b o cap c hsz hes h1 hcl hr ht2 hf hcp hb =>
      have hcap : cap = 0 := by have := hf rfl; simpa using this
      subst hcap
      exact fresh (some ⟨b, o, none⟩) 0 rfl (firstCells_nil w.drew i.size b o 0) hN0
    · cases ho
  · rename_i id len sz
    split at ho
    case h_2 => cases ho
    rename_i cs hm
    split at ho
    case isFalse => cases ho
    rename_i hq
    simp only [Bool.and_eq_true, beq_iff_eq, decide_eq_true_eq] at hq
    obtain ⟨⟨⟨hsz, hlen⟩, hq1⟩, hq2⟩ := hq
    subst hsz
    injection ho with ho; injection ho with h1 h2; subst h1; subst h2
    cases hv with
    | bs _ _ _ _ b s cap hl hcp hszp hblk =>
    obtain ⟨b2, s2', l1, l2, l3⟩ := hS.live _ _ hm
    rw [hl] at l1; injection l1 with l1; injection l1 with e1 e2; subst e1; subst e2
    obtain ⟨rfl, him, hone, arr, T, xx, yy, ha, hx, hr⟩ := l3
    obtain ⟨arr2, T2, fr2, ha2, hle⟩ := hblk
    rw [ha] at ha2; injection ha2 with ha2; injection ha2 with q1 q2 q3; subst q1; subst q2; subst q3
    simp only [Nat.zero_add] at hle
    have hxl : xx.length = cs.length := hr.1
    have hcell : ∀ k, w.cell? ⟨b, k, none⟩ = arr[k]? := cells_at ha
    have holds : VRL γ w (cs.take (len * i.size)) (xx.take (len * i.size)) := hr.take _
    have hol : (xx.take (len * i.size)).length = len * i.size := by simp; omega
    have hones : ∀ c ∈ cs.take (len * i.size) ++ flat N, c.one = true := fun c hc => by
      rcases List.mem_append.1 hc with h | h
      · exact hone c (List.mem_of_mem_take h)
      · exact s3 c h
    have hkn := St.kill_next S (id + 2)
    have hK := hS.kill (id + 2)
    have hkx := Ext.kill γ S w (id + 2)
    have hnon : ∀ i' c s', (S.kill (id + 2)).mem.get i' = some c → γ.loc i' ≠ some (b, s') := fun i' c s' e l => by
      rw [St.kill_get S (id + 2) i' (by omega)] at e
      split at e
      · cases e
      · rename_i hid
        exact hid (hS.inj i' (id + 2) c _ b s' 0 e hm l hl)
    by_cases hroom : len + N.length ≤ cap
    · -- there is room
      have hmul : (len + N.length) * i.size ≤ cap * i.size := Nat.mul_le_mul_right _ hroom
      rw [Nat.add_mul] at hmul
      have hrun := run_append_room_src w t tx ty e i ht hi b (0 + 0) len cap u N.length news s1 hroom (fun j hj => by rw [hcell]; simp; omega) (fun j hj => by simp [World.frozen?, ha])
      obtain ⟨p1, p2⟩ := hK.scribble (o := 0 + 0 + len * i.size) l2 hnon him ha news
      obtain ⟨⟨arr', ha', hs'⟩, hk⟩ := setCells_block b news (0 + 0 + len * i.size) w arr T (0, 0) ha
      have hbl := hS.inb (id + 2) b 0 hl
      have harr' : arr'.toList = (xx.take (len * i.size) ++ news) ++ arr'.toList.drop (len * i.size + news.length) := by
        have h0 : arr'.toList = arr'.toList.take (len * i.size + news.length) ++ arr'.toList.drop (len * i.size + news.length) := (List.take_append_drop _ _).symm
        have h1 : arr'.toList.take (len * i.size + news.length) = xx.take (len * i.size) ++ news := by
          apply List.ext_getElem
          · simp; omega
          · intro k hk1 hk2
            have hk3 : k < arr'.size := by simp at hk1; omega
            have hcl : (w.setCells b (0 + 0 + len * i.size) news).cell? ⟨b, k, none⟩ = some arr'[k] := by rw [cells_at ha']; simp [hk3]
            rw [List.getElem_take]
            by_cases hlt : k < len * i.size
            · rw [List.getElem_append_left (by omega), List.getElem_take]
              have hc := World.cell?_setCells_out b news (0 + 0 + len * i.size) w ⟨b, k, none⟩ (fun _ _ => by show k < _ ∨ _ ≤ k; omega)
              rw [hcl, hcell, Array.getElem?_eq_getElem (by omega)] at hc
              injection hc with hc
              have h9 : arr.toList[k]'(by simp; omega) = (xx ++ yy)[k]'(by rw [← hx]; simp; omega) := by simp only [hx]
              rw [List.getElem_append_left (by omega)] at h9
              simp only [Array.getElem_toList] at h9 ⊢
              rw [hc, h9]
            · rw [List.getElem_append_right (by omega)]
              have hc := World.cell?_setCells_in b news (0 + 0 + len * i.size) w (fun j hj => by rw [hcell]; simp; omega) (k - len * i.size) (by simp at hk1; omega)
              rw [show 0 + 0 + len * i.size + (k - len * i.size) = k by omega, hcl] at hc
              injection hc with hc
              simp only [Array.getElem_toList, hol]
              exact hc
        exact h0.trans (by rw [h1])
      obtain ⟨q1, q2⟩ := p1.name b 0 (.box (cs.take (len * i.size) ++ flat N)) l2 (by rw [(setCells_rest b news _ w).2.2.2]; exact hbl) ⟨rfl, him, hones, arr', T, _, _, ha', harr', (holds.append s4).mono p2⟩ hnon
      rw [hkn] at q1 q2
      have hev := p2.trans q2
      refine ⟨_, _, γ.withLoc S.next b 0, hrun, q1, ?_, ?_⟩
      · refine ⟨hev, Nat.le_succ _, fun id' hid => ?_, by rw [(setCells_rest b news _ w).2.2.2]; exact Nat.le_refl _, fun id' c' b' s' e l => ?_, fun b' hb' hnot => ?_⟩
        · show (if id' = S.next then _ else γ.loc id') = γ.loc id'
          rw [if_neg (by omega)]
        · have e : ((S.kill (id + 2)).mem.set S.next _).get id' = some c' := e
          have l : (if id' = S.next then some (b, 0) else γ.loc id') = some (b', s') := l
          rw [Go.Ax.T.get_set] at e
          split at e
          · rename_i hid
            rw [if_pos hid] at l
            injection l with l; injection l with l1 l2; subst l1
            exact .inr ⟨id + 2, _, 0, hm, hl⟩
          · rename_i hid
            rw [if_neg hid] at l
            exact .inr ⟨id', c', s', kill_sub S _ id' c' e, l⟩
        · have hbb : b' ≠ b := fun e => by subst e; exact hnot (id + 2) _ 0 hm hl
          exact ⟨hk b' hbb, fun _ ho => ho⟩
      · refine .bs S.next 0 (len + N.length) i.size b 0 cap (by show (if S.next = S.next then _ else _) = _; rw [if_pos rfl]) hroom hszp ⟨arr', T, (0, 0), ha', by omega⟩
    · -- there is none
      have hfirst : (Builtin.firstCells i.size len (.slice (some ⟨b, 0 + 0, none⟩) len cap)).run P w.drew = .ok (xx.take (len * i.size)).toArray w.drew :=
        run_firstCells_some w.drew i.size len ⟨b, 0 + 0, none⟩ len cap _ hol (fun j v hj => by
          rw [Addr.add_mid]
          show w.cell? ⟨b, 0 + 0 + j, none⟩ = _
          rw [hcell]
          obtain ⟨hjl, hje⟩ := List.getElem?_eq_some_iff.1 hj
          have hj2 : j < xx.length := by simp at hjl; omega
          have hj3 : j < arr.size := by have := congrArg List.length hx; simp at this; omega
          have h9 : arr.toList[j]'(by simpa using hj3) = (xx ++ yy)[j]'(by rw [← hx]; simpa using hj3) := by simp only [hx]
          rw [List.getElem_append_left hj2] at h9
          rw [List.getElem_take] at hje
          rw [show 0 + 0 + j = j by omega, Array.getElem?_eq_getElem hj3]
          simp only [Array.getElem_toList] at h9
          rw [h9, hje])
      have hrun := run_append_grow_src w t tx ty e i z ht hi hz (some ⟨b, 0 + 0, none⟩) len cap _ hfirst u N.length news s1 (by omega) (by omega) (growslice_fits (by omega) hq1)
      have hge := grownCap_ge w (len + N.length) cap e
      obtain ⟨d3, d4⟩ := hK.drew
      obtain ⟨k1, k2⟩ := d3.newBoxP e ((holds.append s4).mono d4) hones (y := (Builtin.zeroCells z.cells (grownCap w (len + N.length) cap e - (len + N.length))).toList) (arr := (xx.take (len * i.size) ++ news).toArray ++ Builtin.zeroCells z.cells (grownCap w (len + N.length) cap e - (len + N.length))) (by simp)
      have ek : (S.kill (id + 2)).newBox (cs.take (len * i.size) ++ flat N) = S.moved (id + 2) (cs.take (len * i.size) ++ flat N) := by
        unfold St.newBox St.moved; rw [hkn]
      rw [ek, hkn] at k1 k2
      have hkd : Ext γ (S.kill (id + 2)) w γ (S.kill (id + 2)) w.drew := Ext.of_same (w := w) (w' := w.drew) rfl d4
      refine ⟨_, _, γ.withLoc S.next w.heap.size 0, hrun, k1, hkx.trans (hkd.trans k2), ?_⟩
      refine .bs S.next 0 (len + N.length) i.size w.heap.size 0 _ (by show (if S.next = S.next then _ else _) = _; rw [if_pos rfl]) hge hszp ⟨_, e, (0, 0), heap_alloc_new w.drew _, ?_⟩
      rw [Array.size_append, size_zeroCells, hzs]
      simp only [List.size_toArray, List.length_append, hol, hnl]
      rw [← Nat.add_mul, ← Nat.add_mul]
      have : len + N.length + (grownCap w (len + N.length) cap e - (len + N.length)) = grownCap w (len + N.length) cap e := by omega
      rw [this]; omega
  · cases ho
end Go.Ax
