/-
  Appends, in place or not, and maps: what they make of abstract states.
-/
import Derived.Test.YtjgknelmjdallaaGreatDoorFcE
import Derived.Deep.AppendSrc
noncomputable section
namespace Go.Ax
open Go.RowKit
set_option linter.unusedVariables false
set_option linter.unusedSimpArgs false

def St.kill (S : St) (tok : Nat) : St := match tok with
  | 0 => S
  | 1 => S
  | k + 2 => { S with mem := S.mem.set (k + 2) none }
theorem SR.kill {base : Nat} {w0 w : World} {γ : Gh} {S : St} (h : SR base w0 γ S w) (tok : Nat) : SR base w0 γ (S.kill tok) w := by
  unfold St.kill
  split
  · exact h
  · exact h
  · rename_i k
    have G : ∀ i, (S.mem.set (k + 2) none).get i = if i = k + 2 then none else S.mem.get i := fun i => T.get_set _ _ _ _
    refine ⟨h.below, h.hbase, h.imc, fun i hi => ?_, h.pos, h.inb, fun i c e => ?_, fun i i' c c' b s s' e1 e2 l1 l2 => ?_⟩
    · refine ⟨(h.fresh i hi).1, ?_⟩
      show (S.mem.set (k + 2) none).get i = none
      rw [G]; split
      · rfl
      · exact (h.fresh i hi).2
    · have e : (S.mem.set (k + 2) none).get i = some c := e
      rw [G] at e; split at e
      · cases e
      · exact h.live i c e
    · have e1 : (S.mem.set (k + 2) none).get i = some c := e1
      have e2 : (S.mem.set (k + 2) none).get i' = some c' := e2
      rw [G] at e1 e2; split at e1 <;> split at e2
      · cases e1
      · cases e1
      · cases e2
      · exact h.inj i i' c c' b s s' e1 e2 l1 l2
theorem St.kill_next (S : St) (tok : Nat) : (S.kill tok).next = S.next := by unfold St.kill; split <;> rfl
theorem St.kill_get (S : St) (tok i : Nat) (h : 2 ≤ tok) : (S.kill tok).mem.get i = if i = tok then none else S.mem.get i := by
  obtain ⟨k, rfl⟩ : ∃ k, tok = k + 2 := ⟨tok - 2, by omega⟩
  show (S.mem.set (k + 2) none).get i = _
  exact T.get_set _ _ _ _
theorem kill_sub (S : St) (tok id : Nat) (c : Cell) (h : (S.kill tok).mem.get id = some c) : S.mem.get id = some c := by
  by_cases h2 : 2 ≤ tok
  · rw [St.kill_get S tok id h2] at h
    split at h
    · cases h
    · exact h
  · have : tok = 0 ∨ tok = 1 := by omega
    rcases this with rfl | rfl <;> exact h
theorem Ext.kill (γ : Gh) (S : St) (w : World) (tok : Nat) : Ext γ S w γ (S.kill tok) w :=
  ⟨.refl _ _, by rw [St.kill_next]; exact Nat.le_refl _, fun _ _ => rfl, Nat.le_refl _, fun id c b s h l => .inr ⟨id, c, s, kill_sub S tok id c h, l⟩, fun _ _ _ => ⟨rfl, fun _ h => h⟩⟩
/-- The state behind an append. -/
def St.grown (S : St) (tok m : Nat) : St := { next := S.next + 1, mem := (S.kill tok).mem.set S.next (some (.tip m)) }
/-- The append, with what it keeps. -/
theorem Ext.grown_new {base : Nat} {w0 : World} {γ : Gh} {S : St} {w : World} (h : SR base w0 γ S w) (tok m n : Nat) (arr : Array Value) (T : TypeId) (ev : Ev γ w (γ.withIm w.heap.size 0 n) (w.alloc (.cells arr T))) :
    Ext γ S w ((γ.withIm w.heap.size 0 n).withLoc S.next w.heap.size 0) (S.grown tok m) (w.alloc (.cells arr T)) := by
  have k := h.kill tok
  have e1 : Ext γ (S.kill tok) w (γ.withIm w.heap.size 0 n) (S.kill tok) (w.alloc (.cells arr T)) := Ext.allocIm arr T n ev
  have e2 := e1.newName (s := 0) (c := .tip m) (k.fresh _ (Nat.le_refl _)).1 (k.fresh _ (Nat.le_refl _)).2 rfl
  have e3 := (Ext.kill γ S w tok).trans e2
  rw [St.kill_next] at e3
  exact e3
/-- Cells behind a row's end are laid. -/
theorem SR.push {base : Nat} {w0 w : World} {γ : Gh} {S : St} (h : SR base w0 γ S w) {tok b s m : Nat} (ht2 : 2 ≤ tok) (hm : S.mem.get tok = some (.tip m)) (hl : γ.loc tok = some (b, s)) {arr : Array Value} {T : TypeId} {fr : Nat × Nat} (ha : w.heap[b]? = some (Obj.cells arr T fr)) (y : List Value)
    (hfit : s + m + y.length ≤ arr.size) :
    SR base w0 (γ.withIm b (s + m) y.length) (S.kill tok) (w.setCells b (s + m) y) ∧ Ev γ w (γ.withIm b (s + m) y.length) (w.setCells b (s + m) y) ∧ base ≤ b ∧ fr = (0, 0) ∧ (∀ k, γ.im b k → k < s + m) ∧
      (∀ id c s', (S.kill tok).mem.get id = some c → γ.loc id ≠ some (b, s')) ∧ (∀ k, k ≠ b → (w.setCells b (s + m) y).heap[k]? = w.heap[k]?) := by
  obtain ⟨b2, s2, l1, l2, l3⟩ := h.live tok _ hm
  rw [hl] at l1; injection l1 with l1; injection l1 with e1 e2; subst e1; subst e2
  obtain ⟨arr2, T2, ha2, him, hsz⟩ := l3
  rw [ha] at ha2; injection ha2 with ha2; injection ha2 with q1 q2 q3; subst q1; subst q2; subst q3
  obtain ⟨⟨arr', ha', hs'⟩, hk⟩ := setCells_block b y (s + m) w arr T (0, 0) ha
  obtain ⟨r1, r2, r3, r4⟩ := setCells_rest b y (s + m) w
  have hne : ∀ id c s', (S.kill tok).mem.get id = some c → γ.loc id ≠ some (b, s') := fun id c s' e l => by
    rw [St.kill_get S tok id ht2] at e
    split at e
    · cases e
    · rename_i hid
      exact hid (h.inj id tok c _ b s' s e hm l hl)
  have ev : Ev γ w (γ.withIm b (s + m) y.length) (w.setCells b (s + m) y) := by
    refine ⟨fun _ _ h => h, fun _ _ h => .inl h, fun b' o v hi hv => ?_, fun b' arr2 T2 fr2 h2 => ?_⟩
    · by_cases e : b' = b
      · subst e
        have := him o hi
        rw [World.cell?_setCells_out b' y (s + m) w ⟨b', o, none⟩ (fun _ _ => .inl this)]
        exact hv
      · exact (World.cell?_of_block (a := ⟨b', o, none⟩) (hk b' e)).trans hv
    · by_cases e : b' = b
      · subst e
        rw [ha] at h2; injection h2 with h2; injection h2 with q1 q2 q3; subst q1; subst q2; subst q3
        exact ⟨arr', _, ha', hs'⟩
      · exact ⟨arr2, fr2, (hk b' e).trans h2, rfl⟩
  have hK := h.kill tok
  refine ⟨⟨below_setCells h.below b _ y l2 hk, by rw [r4]; exact h.hbase, ?_, ?_, hK.pos, fun id b' s' e => by rw [r4]; exact h.inb id b' s' e, ?_, hK.inj⟩, ev, l2, rfl, him, hne, hk⟩
  · rintro b' o (hi | ⟨rfl, ho1, ho2⟩)
    · obtain ⟨v, hv⟩ := h.imc b' o hi; exact ⟨v, ev.cell b' o v hi hv⟩
    · exact ⟨arr'[o]'(by omega), by rw [cells_at ha']; exact Array.getElem?_eq_getElem (by omega)⟩
  · exact hK.fresh
  · intro id c e
    obtain ⟨b', s', q1, q2, q3⟩ := hK.live id c e
    have hbb : b' ≠ b := fun eb => by subst eb; exact hne id c s' e q1
    exact ⟨b', s', q1, q2, q3.keep ev (hk b' hbb) (fun o ho => ho.resolve_right (fun ⟨e, _⟩ => hbb e))⟩

theorem flat_append (a b : List AV) : flat (a ++ b) = flat a ++ flat b := by simp [flat]
theorem flat_length {es : List AV} {sz : Nat} (h : ∀ e ∈ es, e.cells.length = sz) : (flat es).length = es.length * sz := by
  induction es with
  | nil => simp [flat]
  | cons e r ih =>
    have : flat (e :: r) = e.cells ++ flat r := by simp [flat]
    rw [this, List.length_append, ih (fun x hx => h x (List.mem_cons_of_mem _ hx)), h e (List.mem_cons_self ..), List.length_cons, Nat.succ_mul]; omega
theorem grownCap_ge (w : World) (need old : Nat) (e : TypeId) : need ≤ grownCap w need old e := by
  unfold grownCap Question.cut; simp
/-- A row of one's own that holds these elements, in a new block. -/
theorem SR.fresh_row {base : Nat} {w0 w : World} {γ : Gh} {S : St} (h : SR base w0 γ S w) (tok sz : Nat) (es : List AV) (xs rest : List Value) (cap : Nat) (T : TypeId) (hsz : 0 < sz) (hes : ∀ e ∈ es, e.cells.length = sz) (h1 : ∀ x ∈ flat es, x.one = true)
    (hr : VRL γ w (flat es) xs) (hcap : es.length ≤ cap) (hrest : cap * sz ≤ xs.length + rest.length) {arr : Array Value} (harr : arr = (xs ++ rest).toArray) :
    ∃ γ', SR base w0 γ' (S.grown tok (es.length * sz)) (w.alloc (.cells arr T)) ∧ Ext γ S w γ' (S.grown tok (es.length * sz)) (w.alloc (.cells arr T)) ∧
      VR γ' (w.alloc (.cells arr T)) (.sl S.next 0 sz es) (.slice (some ⟨w.heap.size, 0, none⟩) es.length cap) := by
  have hxl : xs.length = es.length * sz := by rw [hr.1, flat_length hes]
  have hal : arr.size = xs.length + rest.length := by rw [harr]; simp
  obtain ⟨a1, a2⟩ := (h.kill tok).allocIm arr T xs.length (by omega)
  have hkn := St.kill_next S tok
  have hnew : ∀ id c s', (S.kill tok).mem.get id = some c → (γ.withIm w.heap.size 0 xs.length).loc id ≠ some (w.heap.size, s') := fun id c s' e l => by
    have := (h.kill tok).inb id _ _ l; omega
  obtain ⟨b1, b2⟩ := a1.name w.heap.size 0 (.tip (es.length * sz)) h.hbase (by simp) ⟨arr, T, heap_alloc_new w _, fun k hk => by
      rcases hk with hk | ⟨_, _, hk⟩
      · have := imc_lt h hk; omega
      · omega, by omega⟩ hnew
  rw [hkn] at b1 b2
  refine ⟨_, b1, Ext.grown_new h tok _ _ arr T a2, ?_⟩
  refine .sl S.next 0 sz es w.heap.size 0 cap (fun k => xs.getD k undef) hsz hes h1 (fun k hk => ⟨.inr ⟨rfl, by omega, by rw [hr.1]; omega⟩, ?_⟩) (fun k hk => ?_) (fun _ => ⟨0, by show (if S.next = S.next then _ else _) = _; rw [if_pos rfl], rfl⟩)
    (fun e => by have := h.pos; omega) hcap ⟨arr, T, (0, 0), heap_alloc_new w _, by omega⟩
  · have hk2 : k < xs.length := by rw [hr.1]; exact hk
    rw [Nat.zero_add]
    refine alloc_new_cell w arr T ?_
    rw [harr]
    simp [List.getElem?_append_left hk2, List.getElem?_eq_getElem hk2]
  · have hk2 : k < xs.length := by rw [hr.1]; exact hk
    have := (hr.2 k hk hk2).mono (a2.trans b2)
    simpa [List.getD, List.getElem?_eq_getElem hk2] using this
/-- What a slice of the kind holds, as cells. -/
theorem sl_cells {γ : Gh} {w : World} {es : List AV} {b o : Nat} {c : Nat → Value} (h : ∀ k, k < (flat es).length → γ.im b (o + k) ∧ w.cell? ⟨b, o + k, none⟩ = some (c k)) (hr : ∀ k (h : k < (flat es).length), VR γ w (flat es)[k] (c k)) :
    VRL γ w (flat es) ((List.range (flat es).length).map c) ∧ ∀ j u, ((List.range (flat es).length).map c)[j]? = some u → w.cell? ⟨b, o + j, none⟩ = some u := by
  refine ⟨⟨by simp, fun k hk hk' => by simpa using hr k hk⟩, fun j u hu => ?_⟩
  obtain ⟨hj, rfl⟩ := List.getElem?_eq_some_iff.1 hu
  simp at hj
  simpa using (h j hj).2
theorem append_sound {P : Program} {base : Nat} {w0 w : World} {γ : Gh} {S : St} (h : SR base w0 γ S w) (t tx ty e : TypeId) (i : TypeInfo) (z : Value) (sz : Nat) (ht : P.underlying t = some (.slice e)) (hi : P.info? e = some i) (hz : i.zero = some z) (hs : i.size = sz) (hzs : z.cells.size = sz) (hsz : 0 < sz)
    (x : Value) (ns : List AV) (news : List Value) (hsrc : Src P sz tx x ns.length news w) (hns : ∀ e ∈ ns, e.cells.length = sz) (hn1 : ∀ x ∈ flat ns, x.one = true) (hnr : VRL γ w (flat ns) news) (hn0 : 0 < ns.length)
    (a : AV) (v : Value) (hv : VR γ w a v) (tok : Nat) (es : List AV) (ha : (a = .nils ∧ es = []) ∨ ∃ off, a = .sl tok off sz es ∧ (tok = 1 ∨ 2 ≤ tok ∧ S.mem.get tok = some (.tip (off + es.length * sz))))
    (hb : (es.length + ns.length) * i.bytes ≤ 140737488355328) (hl : es.length + ns.length ≤ 9223372036854775807) :
    ∃ v' w' γ', (Builtin.append_ #[t, tx] ty #[v, x]).run P w = .ok v' w' ∧ SR base w0 γ' (S.grown tok ((es ++ ns).length * sz)) w' ∧ Ext γ S w γ' (S.grown tok ((es ++ ns).length * sz)) w' ∧ VR γ' w' (.sl S.next 0 sz (es ++ ns)) v' := by
  subst hs
  have hap : ∀ e ∈ es ++ ns, (∀ e ∈ es, e.cells.length = i.size) → e.cells.length = i.size := fun e he hes => by
    rcases List.mem_append.1 he with h | h
    · exact hes e h
    · exact hns e h
  -- the arm that grows
  have grow : ∀ (bs : Option Addr) (sCap : Nat) (olds : List Value), v = .slice bs es.length sCap → (Builtin.firstCells i.size es.length (.slice bs es.length sCap)).run P w.drew = .ok olds.toArray w.drew → VRL γ w (flat es) olds → (∀ e ∈ es, e.cells.length = i.size) → (∀ x ∈ flat es, x.one = true) → sCap < es.length + ns.length →
      ∃ v' w' γ', (Builtin.append_ #[t, tx] ty #[v, x]).run P w = .ok v' w' ∧ SR base w0 γ' (S.grown tok ((es ++ ns).length * i.size)) w' ∧ Ext γ S w γ' (S.grown tok ((es ++ ns).length * i.size)) w' ∧ VR γ' w' (.sl S.next 0 i.size (es ++ ns)) v' := by
    intro bs sCap olds hve hold hor hes h1 hg
    subst hve
    have hrun := run_append_grow_src w t tx ty e i z ht hi hz bs es.length sCap olds hold x ns.length news hsrc hg (by omega) (growslice_fits hg hb)
    obtain ⟨d1, d2⟩ := h.drew
    have hge := grownCap_ge w (es.length + ns.length) sCap e
    have hfl : flat (es ++ ns) = flat es ++ flat ns := flat_append es ns
    have hol : olds.length = es.length * i.size := by rw [hor.1, flat_length hes]
    have hnl : news.length = ns.length * i.size := by rw [hnr.1, flat_length hns]
    have key := d1.fresh_row tok i.size (es ++ ns) (olds ++ news) (Builtin.zeroCells z.cells (grownCap w (es.length + ns.length) sCap e - (es.length + ns.length))).toList (grownCap w (es.length + ns.length) sCap e) e hsz
      (fun x hx => hap x hx hes) (fun x hx => by
        rw [hfl] at hx
        rcases List.mem_append.1 hx with h | h
        · exact h1 x h
        · exact hn1 x h) (by rw [hfl]; exact (hor.append hnr).mono d2) (by simpa using hge) (by
        have hzc : (Builtin.zeroCells z.cells (grownCap w (es.length + ns.length) sCap e - (es.length + ns.length))).size = (grownCap w (es.length + ns.length) sCap e - (es.length + ns.length)) * i.size := by rw [size_zeroCells, hzs]
        have hq : (es.length + ns.length) * i.size + (grownCap w (es.length + ns.length) sCap e - (es.length + ns.length)) * i.size = grownCap w (es.length + ns.length) sCap e * i.size := by rw [← Nat.add_mul]; congr 1; omega
        have hzl : (Builtin.zeroCells z.cells (grownCap w (es.length + ns.length) sCap e - (es.length + ns.length))).toList.length = (grownCap w (es.length + ns.length) sCap e - (es.length + ns.length)) * i.size := by rw [← hzc]; exact Array.length_toList
        rw [List.length_append, hol, hnl, hzl, ← Nat.add_mul]
        omega) (arr := (olds ++ news).toArray ++ Builtin.zeroCells z.cells (grownCap w (es.length + ns.length) sCap e - (es.length + ns.length))) (by apply Array.ext'; simp)
    obtain ⟨γ', k1, k2, k3⟩ := key
    have e1 : w.drew.heap.size = w.heap.size := rfl
    rw [e1] at k3
    exact ⟨_, _, γ', hrun, k1, Ext.trans (S1 := S) (w1 := w.drew) (Ext.of_same (w := w) (w' := w.drew) rfl d2) k2, by simpa using k3⟩
  rcases ha with ⟨rfl, rfl⟩ | ⟨off, rfl, htok⟩
  · cases hv
    exact grow none 0 [] rfl (run_firstCells_none w.drew i.size 0 0 0) (VRL.nil γ w) (fun _ h => by cases h) (fun _ h => by simp [flat] at h) (by simpa using hn0)
  · cases hv with
    | sl _ _ _ _ b o cap c _ hes h1 hcells hr htk hf hc hblk =>
    obtain ⟨holdr, holdc⟩ := sl_cells hcells hr
    have hol : ((List.range (flat es).length).map c).length = es.length * i.size := by simp [flat_length hes]
    have hfirst : (Builtin.firstCells i.size es.length (.slice (some ⟨b, o, none⟩) es.length cap)).run P w.drew = .ok ((List.range (flat es).length).map c).toArray w.drew :=
      run_firstCells_some w.drew i.size es.length ⟨b, o, none⟩ es.length cap _ hol (fun j u hu => by rw [Addr.add_mid]; exact holdc j u hu)
    by_cases hroom : es.length + ns.length ≤ cap
    · have ht2 : 2 ≤ tok ∧ S.mem.get tok = some (.tip (off + es.length * i.size)) := by
        rcases htok with h1 | h2
        · have := hf h1; omega
        · exact h2
      obtain ⟨s, hloc, rfl⟩ := htk ht2.1
      obtain ⟨arr, T, fr, harr, hle⟩ := hblk
      have hmul : (es.length + ns.length) * i.size ≤ cap * i.size := Nat.mul_le_mul_right _ hroom
      rw [Nat.add_mul] at hmul
      have hnl : news.length = ns.length * i.size := by rw [hnr.1, flat_length hns]
      obtain ⟨p1, p2, p3, rfl, p5, p6, p7⟩ := h.push ht2.1 ht2.2 hloc harr news (by omega)
      have hcell : ∀ k, w.cell? ⟨b, k, none⟩ = arr[k]? := cells_at harr
      have hrun := run_append_room_src w t tx ty e i ht hi b (s + off) es.length cap x ns.length news hsrc hroom (fun j hj => by rw [hcell]; simp; omega) (fun j hj => by simp [World.frozen?, harr])
      rw [show s + off + es.length * i.size = s + (off + es.length * i.size) by omega] at hrun
      obtain ⟨⟨arr', ha', hs'⟩, hk⟩ := setCells_block b news (s + (off + es.length * i.size)) w arr T (0, 0) harr
      have hkn := St.kill_next S tok
      have hbl := h.inb tok b s hloc
      obtain ⟨q1, q2⟩ := p1.name b (s + off) (.tip ((es ++ ns).length * i.size)) p3 (by rw [(setCells_rest b news _ w).2.2.2]; exact hbl) ⟨arr', T, ha', fun k hk2 => by
          rw [List.length_append, Nat.add_mul]
          rcases hk2 with hk2 | ⟨_, _, hk2⟩
          · have := p5 k hk2; omega
          · omega, by rw [List.length_append, Nat.add_mul]; omega⟩ p6
      rw [hkn] at q1 q2
      have hev := p2.trans q2
      have hext : Ext γ S w ((γ.withIm b (s + (off + es.length * i.size)) news.length).withLoc S.next b (s + off)) (S.grown tok ((es ++ ns).length * i.size)) (w.setCells b (s + (off + es.length * i.size)) news) := by
        refine ⟨hev, Nat.le_succ _, fun id hid => ?_, by rw [(setCells_rest b news _ w).2.2.2]; exact Nat.le_refl _, fun id c' b' s' e l => ?_, fun b' hb' hnot => ?_⟩
        · show (if id = S.next then _ else γ.loc id) = γ.loc id
          rw [if_neg (by omega)]
        · have e : ((S.kill tok).mem.set S.next _).get id = some c' := e
          have l : (if id = S.next then some (b, s + off) else γ.loc id) = some (b', s') := l
          rw [Go.Ax.T.get_set] at e
          split at e
          · rename_i hid
            rw [if_pos hid] at l
            injection l with l; injection l with l1 l2; subst l1
            exact .inr ⟨tok, _, s, ht2.2, hloc⟩
          · rename_i hid
            rw [if_neg hid] at l
            exact .inr ⟨id, c', s', kill_sub S tok id c' e, l⟩
        · have hbb : b' ≠ b := fun e => by subst e; exact hnot tok _ s ht2.2 hloc
          exact ⟨p7 b' hbb, fun o ho => ho.resolve_right (fun ⟨e, _⟩ => hbb e)⟩
      refine ⟨_, _, _, hrun, q1, hext, ?_⟩
      have hfl : flat (es ++ ns) = flat es ++ flat ns := flat_append es ns
      have hfe : (flat es).length = es.length * i.size := flat_length hes
      have hfn : (flat ns).length = ns.length * i.size := flat_length hns
      rw [show es.length + ns.length = (es ++ ns).length by simp]
      refine .sl S.next 0 i.size (es ++ ns) b (s + off) cap (fun k => if k < es.length * i.size then c k else news.getD (k - es.length * i.size) undef) hsz (fun x hx => hap x hx hes) (fun x hx => ?_) (fun k hk2 => ?_) (fun k hk2 => ?_)
        (fun _ => ⟨s + off, by show (if S.next = S.next then _ else _) = _; rw [if_pos rfl], by omega⟩) (fun e => by have := h.pos; omega) (by simpa using hroom) ⟨arr', T, (0, 0), ha', by omega⟩
      · rw [hfl] at hx
        rcases List.mem_append.1 hx with h | h
        · exact h1 x h
        · exact hn1 x h
      · rw [hfl, List.length_append] at hk2
        by_cases hlt : k < es.length * i.size
        · rw [if_pos hlt]
          have := hcells k (by omega)
          exact ⟨hev.im _ _ this.1, hev.cell _ _ _ this.1 this.2⟩
        · rw [if_neg hlt]
          refine ⟨.inr ⟨rfl, by omega, by omega⟩, ?_⟩
          have := World.cell?_setCells_in b news (s + (off + es.length * i.size)) w (fun j hj => by rw [hcell]; simp; omega) (k - es.length * i.size) (by omega)
          rw [show s + (off + es.length * i.size) + (k - es.length * i.size) = s + off + k by omega] at this
          rw [this, List.getD, List.getElem?_eq_getElem (by omega)]
          rfl
      · have hk3 := hk2
        rw [hfl, List.length_append] at hk3
        by_cases hlt : k < es.length * i.size
        · have := (hr k (by omega)).mono hev
          have he : (flat (es ++ ns))[k] = (flat es)[k]'(by omega) := by simp only [hfl]; rw [List.getElem_append_left (by omega)]
          rw [he, if_pos hlt]; exact this
        · have := (hnr.2 (k - es.length * i.size) (by omega) (by omega)).mono hev
          have he : (flat (es ++ ns))[k] = (flat ns)[k - es.length * i.size]'(by omega) := by simp only [hfl]; rw [List.getElem_append_right (by omega)]; congr 1; omega
          rw [he, if_neg hlt, List.getD, List.getElem?_eq_getElem (by omega)]
          exact this
    · exact grow (some ⟨b, o, none⟩) cap _ rfl hfirst holdr hes h1 (by omega)
end Go.Ax
