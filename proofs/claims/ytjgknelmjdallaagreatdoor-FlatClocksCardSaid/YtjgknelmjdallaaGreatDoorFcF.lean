/-
  Operations on memory, one by one: loads, stores, new variables, addresses, parts.
-/
import Derived.Test.YtjgknelmjdallaaGreatDoorFcD
noncomputable section
namespace Go.Ax
open Go.RowKit
set_option linter.unusedVariables false
set_option linter.unusedSimpArgs false
variable {P : Program} {base : Nat} {w0 : World}

/-- What holds behind an operation that yields a value. -/
def OkV (P : Program) (base : Nat) (w0 : World) (γ : Gh) (S : St) (w : World) (s : Sem Value) (a : AV) (S' : St) : Prop :=
  ∃ v w' γ', s.run P w = .ok v w' ∧ SR base w0 γ' S' w' ∧ Ext γ S w γ' S' w' ∧ VR γ' w' a v
theorem OkV.pure {γ : Gh} {S : St} {w : World} {s : Sem Value} {a : AV} {v : Value} (h : SR base w0 γ S w) (hr : s.run P w = .ok v w) (hv : VR γ w a v) : OkV P base w0 γ S w s a S :=
  ⟨v, w, γ, hr, h, .refl _ _ _, hv⟩

def isAggT (P : Program) (t : TypeId) : Option Bool := match P.underlying t with
  | some (.struct _) => some true
  | some (.array _ _) => some true
  | some _ => some false
  | none => none
def sizeT (P : Program) (t : TypeId) : Option Nat := match P.info? t with
  | some i => some i.size
  | none => none
theorem isAggT_run {t : TypeId} {b : Bool} (h : isAggT P t = some b) (w : World) : (isAgg t).run P w = .ok b w := by
  unfold isAggT at h
  unfold isAgg
  split at h
  · rename_i fs hu; injection h with h; subst h; rw [Sem.run_bind, run_underlying hu w]; simp
  · rename_i n e hu; injection h with h; subst h; rw [Sem.run_bind, run_underlying hu w]; simp
  · rename_i d h1 h2 hu; injection h with h; subst h; rw [Sem.run_bind, run_underlying hu w]
    cases d <;> simp_all
  · cases h
theorem sizeT_run {t : TypeId} {n : Nat} (h : sizeT P t = some n) (w : World) : (sizeOf t).run P w = .ok n w := by
  unfold sizeT at h
  split at h
  · rename_i i hi; injection h with h; subst h; simp [sizeOf, typeInfo, hi]
  · cases h

/-- The cells from an address on. -/
def behind (S : St) : AV → Option (List AV)
  | .ptr id off => match S.mem.get id with
    | some (.box cs) => if off ≤ cs.length then some (cs.drop off) else none
    | _ => none
  | .ep cs => some cs
  | _ => none
theorem behind_sound {γ : Gh} {S : St} {w : World} (h : SR base w0 γ S w) {a : AV} {v : Value} (hv : VR γ w a v) {cs : List AV} (hb : behind S a = some cs) :
    ∃ b o xs, v = .pointer (some ⟨b, o, none⟩) ∧ VRL γ w cs xs ∧ w.rangeAt b o xs ∧ ∀ c ∈ cs, c.one = true := by
  cases hv with
  | ptr id off b s hl =>
    simp only [behind] at hb
    split at hb
    · rename_i cs0 hm
      split at hb
      · rename_i hle
        injection hb with hb; subst hb
        obtain ⟨b2, s2, l1, l2, l3⟩ := h.live id _ hm
        rw [hl] at l1; injection l1 with l1; injection l1 with e1 e2; subst e1; subst e2
        obtain ⟨rfl, ho, h1, arr, T, x, y, ha, hx, hr⟩ := l3
        refine ⟨b, 0 + off, x.drop off, rfl, hr.drop off, fun j u hu => ?_, fun c hc => h1 c (List.mem_of_mem_drop hc)⟩
        rw [cells_at ha]
        rw [List.getElem?_drop] at hu
        have h9 : arr.toList[off + j]? = some u := by rw [hx, List.getElem?_append_left (List.getElem?_eq_some_iff.1 hu).1]; exact hu
        simpa [Nat.add_assoc] using h9
      · cases hb
    · cases hb
  | ep cs0 b o c hc h1 hr =>
    injection hb with hb; subst hb
    refine ⟨b, o, (List.range cs0.length).map c, rfl, ⟨by simp, fun k hk hk' => by simpa using hr k hk⟩, fun j u hu => ?_, h1⟩
    obtain ⟨hj, rfl⟩ := List.getElem?_eq_some_iff.1 hu
    simp at hj
    simpa using (hc j hj).2
  | _ => simp [behind] at hb
def oLoad (P : Program) (S : St) (t : TypeId) (a : AV) : Option AV :=
  match behind S a with
  | none => none
  | some cs => match isAggT P t with
    | some true => match sizeT P t with
      | some n => if n ≤ cs.length then some (.agg (cs.take n)) else none
      | none => none
    | some false => cs.head?
    | none => none
theorem oLoad_same {γ : Gh} {S : St} {w : World} (h : SR base w0 γ S w) {a : AV} {v : Value} (hv : VR γ w a v) {t : TypeId} {r : AV} (ho : oLoad P S t a = some r) : ∃ u, (Instr.loadAt t v).run P w = .ok u w ∧ VR γ w r u := by
  unfold oLoad at ho
  split at ho
  · cases ho
  · rename_i cs hb
    obtain ⟨b, o, xs, rfl, hr, hc, h1⟩ := behind_sound h hv hb
    split at ho
    · rename_i ha
      split at ho
      · rename_i n hn
        split at ho
        · rename_i hle
          injection ho with ho; subst ho
          have hl : (loadCells ⟨b, o, none⟩ n).run P w = .ok (xs.take n).toArray w := by
            have := run_loadCells_list (P := P) w ⟨b, o, none⟩ (xs.take n) (fun j u hu => by
              rw [Addr.add_mid]
              rw [List.getElem?_take] at hu
              split at hu
              · exact hc j u hu
              · cases hu)
            rwa [List.length_take, Nat.min_eq_left (by rw [hr.1]; exact hle)] at this
          refine ⟨.agg (xs.take n).toArray, ?_, (.agg (cs.take n) (xs.take n) (by simp [hr.1]) (fun c hc => h1 c (List.mem_of_mem_take hc)) (hr.take n).2)⟩
          simp [Instr.loadAt, Instr.sureAddr, loadVar, isAggT_run ha, sizeT_run hn, hl]
        · cases ho
      · cases ho
    · rename_i ha
      cases cs with
      | nil => cases ho
      | cons c cs =>
        injection ho with ho; subst ho
        obtain ⟨x, xs', rfl, hx, _⟩ := hr.head
        have := hc 0 x rfl
        refine ⟨x, ?_, hx⟩
        simp at this
        simp [Instr.loadAt, Instr.sureAddr, loadVar, isAggT_run ha, this]
    · cases ho
theorem oLoad_sound {γ : Gh} {S : St} {w : World} (h : SR base w0 γ S w) {a : AV} {v : Value} (hv : VR γ w a v) {t : TypeId} {r : AV} (ho : oLoad P S t a = some r) : OkV P base w0 γ S w (Instr.loadAt t v) r S := by
  obtain ⟨u, h1, h2⟩ := oLoad_same h hv ho
  exact OkV.pure h h1 h2
def AV.noTup : AV → Bool
  | .tup _ => false
  | _ => true
theorem noTup_ne {a : AV} (h : a.noTup = true) : ∀ vs, a ≠ .tup vs := fun vs e => by subst e; cases h
def oStore (P : Program) (S : St) (t : TypeId) (a x : AV) : Option St :=
  match a with
  | .ptr id off => match S.mem.get id with
    | some (.box cs) => match sizeT P t with
      | some n => if x.noTup && n == x.cells.length && decide (off + x.cells.length ≤ cs.length) then some { S with mem := S.mem.set id (some (.box (cs.take off ++ x.cells ++ cs.drop (off + x.cells.length)))) } else none
      | none => none
    | _ => none
  | _ => none
theorem run_storeVar_any (w : World) (b o : Nat) (t : TypeId) (v : Value) (n : Nat) (hn : (sizeOf t).run P w = .ok n w) (hs : v.cells.size = n) (ht : ∀ j, j < n → (w.cell? ⟨b, o + j, none⟩).isSome = true ∧ w.frozen? ⟨b, o + j, none⟩ = false) (h1 : ∀ u ∈ v.cells.toList, u.oneCell' = true) :
    (storeVar t ⟨b, o, none⟩ v).run P w = .ok () (w.setCells b o v.cells.toList) := by
  have := run_storeCells_cells (P := P) b o v.cells.toList 0 w (fun j hj => by simpa using (ht j (by simp at hj; omega)).1) (fun j hj => by simpa using (ht j (by simp at hj; omega)).2) h1
  simp only [Nat.add_zero] at this
  simp [storeVar, hn, hs, this]
theorem oStore_sound {γ : Gh} {S S' : St} {w : World} (h : SR base w0 γ S w) {a x : AV} {v u : Value} (hv : VR γ w a v) (hu : VR γ w x u) {t : TypeId} (ho : oStore P S t a x = some S') :
    ∃ w' γ', (Instr.storeAt t v u).run P w = .ok () w' ∧ SR base w0 γ' S' w' ∧ Ext γ S w γ' S' w' := by
  unfold oStore at ho
  split at ho
  · rename_i id off
    split at ho
    · rename_i cs hm
      split at ho
      · rename_i n hn
        split at ho
        · rename_i hc
          simp only [Bool.and_eq_true, beq_iff_eq, decide_eq_true_eq] at hc
          obtain ⟨⟨hnt, hn2⟩, hfit⟩ := hc
          injection ho with ho; subst ho
          cases hv with
          | ptr _ _ b s hl =>
          have hcells := hu.cells
          have hones := hu.ones (noTup_ne hnt)
          have hlen := hcells.1
          obtain ⟨b2, s2, l1, l2, l3⟩ := h.live id _ hm
          rw [hl] at l1; injection l1 with l1; injection l1 with e1 e2; subst e1; subst e2
          obtain ⟨k1, k2⟩ := h.store hm hl hcells hones hfit
          obtain ⟨rfl, hno, hone, arr, T, xx, yy, ha, hx, hr⟩ := l3
          have hal : cs.length ≤ arr.size := by rw [← hr.1]; have := congrArg List.length hx; simp at this; omega
          obtain ⟨_, hk⟩ := setCells_block b u.cells.toList (0 + off) w arr T (0, 0) ha
          refine ⟨_, γ, ?_, k1, Ext.store (b := b) k2 (setCells_rest b _ _ w).2.2.2 hk rfl ⟨id, _, 0, hm, hl⟩ (fun i hi => ?_)⟩
          · have := run_storeVar_any (P := P) w b (0 + off) t u n (sizeT_run hn w) (by simp at hlen; omega) (fun j hj => by
              rw [cells_at ha]
              refine ⟨by simp; omega, by simp [World.frozen?, ha]⟩) (hcells.ones hones)
            simp only [Nat.zero_add] at this ⊢
            simp [Instr.storeAt, Instr.sureAddr, this]
          · obtain ⟨c, hc⟩ := hi
            have hc : (S.mem.set id _).get i = some c := hc
            rw [Go.Ax.T.get_set] at hc
            split at hc
            · rename_i e; exact ⟨_, e ▸ hm⟩
            · exact ⟨c, hc⟩
        · cases ho
      · cases ho
    · cases ho
  · cases ho
def St.newBox (S : St) (cs : List AV) : St := { next := S.next + 1, mem := S.mem.set S.next (some (.box cs)) }
def oAlloc (P : Program) (S : St) (e : TypeId) : Option (AV × St) :=
  match P.info? e with
  | some i => match i.zero with
    | some z => match ofConst 8 z with
      | some a => if a.noTup then some (.ptr S.next 0, S.newBox a.cells) else none
      | none => none
    | none => none
  | none => none
theorem newBox_sound {γ : Gh} {S : St} {w : World} (h : SR base w0 γ S w) {a : AV} {v : Value} (hv : VR γ w a v) (hnt : a.noTup = true) (e : TypeId) :
    OkV P base w0 γ S w (do pure (.pointer (some (← newVar e v)))) (.ptr S.next 0) (S.newBox a.cells) := by
  obtain ⟨k1, k2⟩ := h.newBox e hv.cells (hv.ones (noTup_ne hnt))
  have hx : Ext γ S w (γ.withLoc S.next w.heap.size 0) (S.newBox a.cells) (w.alloc (.cells v.cells.toList.toArray e)) := Ext.newBox h _ _
  refine ⟨.pointer (some ⟨w.heap.size, 0, none⟩), w.alloc (.cells v.cells e), γ.withLoc S.next w.heap.size 0, by simp [newVar, newRow], by simpa [St.newBox] using k1, by simpa [St.newBox] using hx, ?_⟩
  exact .ptr S.next 0 w.heap.size 0 (by show (if S.next = S.next then _ else _) = _; rw [if_pos rfl])
theorem oAlloc_sound {γ : Gh} {S S' : St} {w : World} (h : SR base w0 γ S w) {e : TypeId} {a : AV} (ho : oAlloc P S e = some (a, S')) : OkV P base w0 γ S w (Instr.alloc e true (.tuple #[])) a S' := by
  unfold oAlloc at ho
  split at ho
  · rename_i i hi
    split at ho
    · rename_i z hz
      split at ho
      · rename_i z' hz'
        split at ho
        · rename_i hnt
          injection ho with ho; injection ho with h1 h2; subst h1; subst h2
          obtain ⟨v, w', γ', hr, r⟩ := newBox_sound (P := P) h (ofConst_sound (w := w) (γ := γ) hz') hnt e
          exact ⟨v, w', γ', by simpa [Instr.alloc, zeroValue, typeInfo, hi, hz] using hr, r⟩
        · cases ho
      · cases ho
    · cases ho
  · cases ho

/-- A part of a struct's cells. -/
def oPart (P : Program) (t : TypeId) (cs : List AV) (off : Nat) : Option AV :=
  match isAggT P t with
  | some true => match sizeT P t with
    | some n => if off + n ≤ cs.length then some (.agg ((cs.drop off).take n)) else none
    | none => none
  | some false => cs[off]?
  | none => none
theorem oPart_sound {γ : Gh} {w : World} {t : TypeId} {cs : List AV} {xs : List Value} (hr : VRL γ w cs xs) (h1 : ∀ c ∈ cs, c.one = true) {off : Nat} {r : AV} (ho : oPart P t cs off = some r) : ∃ v, (part t xs.toArray off).run P w = .ok v w ∧ VR γ w r v := by
  unfold oPart at ho
  split at ho
  · rename_i ha
    split at ho
    · rename_i n hn
      split at ho
      · rename_i hle
        injection ho with ho; subst ho
        refine ⟨.agg ((xs.drop off).take n).toArray, ?_, .agg _ _ (by simp [hr.1]) (fun c hc => h1 c (List.mem_of_mem_drop (List.mem_of_mem_take hc))) ((hr.drop off).take n).2⟩
        simp [part, isAggT_run ha, sizeT_run hn]
      · cases ho
    · cases ho
  · rename_i ha
    obtain ⟨y, hy, hv⟩ := hr.get ho
    exact ⟨y, by simp [part, isAggT_run ha, hy], hv⟩
  · cases ho
def fieldsOf (P : Program) (t : TypeId) : Option (Array Field) := match P.underlying t with
  | some (.struct fs) => some fs
  | _ => none
theorem fieldsOf_run {t : TypeId} {fs : Array Field} (h : fieldsOf P t = some fs) (w : World) : (underlying t).run P w = .ok (.struct fs) w := by
  unfold fieldsOf at h
  split at h
  · rename_i fs' hu; injection h with h; subst h; exact run_underlying hu w
  · cases h
def oField (P : Program) (t : TypeId) (a : AV) (f : Nat) : Option AV :=
  match a with
  | .agg cs => match fieldsOf P t with
    | some fs => match fs[f]? with
      | some fd => oPart P fd.type cs fd.offset
      | none => none
    | none => none
  | _ => none
theorem oField_sound {γ : Gh} {S : St} {w : World} (h : SR base w0 γ S w) {a : AV} {v : Value} (hv : VR γ w a v) {t : TypeId} {f : Nat} {r : AV} (ho : oField P t a f = some r) : OkV P base w0 γ S w (Instr.field t v f) r S := by
  unfold oField at ho
  split at ho
  · split at ho
    · rename_i fs hfs
      split at ho
      · rename_i fd hfd
        cases hv with
        | agg cs x hx h1 hk =>
        obtain ⟨u, hu, hru⟩ := oPart_sound ⟨hx, hk⟩ h1 ho
        exact OkV.pure h (by simp [Instr.field, fieldsOf_run hfs, hfd, asAgg, hu]) hru
      · cases ho
    · cases ho
  · cases ho
/-- An address so many cells on. -/
def shift : AV → Nat → Option AV
  | .ptr id off, n => some (.ptr id (off + n))
  | .ep cs, n => if n ≤ cs.length then some (.ep (cs.drop n)) else none
  | _, _ => none
theorem shift_sound {γ : Gh} {w : World} {a : AV} {v : Value} (hv : VR γ w a v) {n : Nat} {r : AV} (ho : shift a n = some r) : ∃ b o, v = .pointer (some ⟨b, o, none⟩) ∧ VR γ w r (.pointer (some ⟨b, o + n, none⟩)) := by
  cases hv with
  | ptr id off b s hl =>
    injection ho with ho; subst ho
    exact ⟨b, s + off, rfl, by rw [Nat.add_assoc]; exact .ptr id (off + n) b s hl⟩
  | ep cs b o c hc h1 hr =>
    simp only [shift] at ho
    split at ho
    · rename_i hle
      injection ho with ho; subst ho
      refine ⟨b, o, rfl, .ep (cs.drop n) b (o + n) (fun k => c (n + k)) (fun k hk => ?_) (fun x hx => h1 x (List.mem_of_mem_drop hx)) (fun k hk => ?_)⟩
      · have := hc (n + k) (by simp at hk; omega)
        rwa [← Nat.add_assoc] at this
      · rw [List.getElem_drop]
        exact hr (n + k) (by simp at hk; omega)
    · cases ho
  | _ => simp [shift] at ho
def oFieldAddr (P : Program) (s : TypeId) (a : AV) (f : Nat) : Option AV :=
  match fieldsOf P s with
  | some fs => match fs[f]? with
    | some fd => match sizeT P fd.type with
      | some (_ + 1) => shift a fd.offset
      | _ => none
    | none => none
  | none => none
theorem oFieldAddr_sound {γ : Gh} {S : St} {w : World} (h : SR base w0 γ S w) {a : AV} {v : Value} (hv : VR γ w a v) {s : TypeId} {f : Nat} {r : AV} (ho : oFieldAddr P s a f = some r) : OkV P base w0 γ S w (Instr.fieldAt s v f) r S := by
  unfold oFieldAddr at ho
  split at ho
  · rename_i fs hfs
    split at ho
    · rename_i fd hfd
      split at ho
      · rename_i n hn
        obtain ⟨b, o, rfl, hr⟩ := shift_sound hv ho
        exact OkV.pure h (by simp [Instr.fieldAt, fieldsOf_run hfs, hfd, Instr.sureAddr, fieldPlace, sizeT_run hn, Addr.add_mid]) hr
      · cases ho
    · cases ho
  · cases ho
def elemT (P : Program) (t : TypeId) : Option (Option Nat × TypeId) := match P.underlying t with
  | some (.slice e) => some (none, e)
  | some (.array n e) => some (some n, e)
  | _ => none
def oIndexAddr (P : Program) (t : TypeId) (a : AV) (ix : AV) : Option AV :=
  match ix with
  | .v (.int _ i) => if 0 ≤ i then
      match elemT P t with
      | some (none, e) => match a, sizeT P e with
        | .sl _ _ sz es, some n => if n == sz then match es[i.toNat]? with
            | some x => some (.ep x.cells)
            | none => none
          else none
        | .bs id off len sz, some n => if n == sz && decide (i < (len : Int)) then some (.ptr id (off + i.toNat * sz)) else none
        | _, _ => none
      | some (some len, e) => match sizeT P e with
        | some n => if i < len then shift a (i.toNat * n) else none
        | none => none
      | none => none
    else none
  | _ => none
theorem flat_cons (e : AV) (r : List AV) : flat (e :: r) = e.cells ++ flat r := by simp [flat]
theorem flat_at {sz : Nat} : ∀ {es : List AV} (h : ∀ e ∈ es, e.cells.length = sz) {i : Nat} {x : AV} (hx : es[i]? = some x), i * sz + sz ≤ (flat es).length ∧ ∀ k, k < sz → (flat es)[i * sz + k]? = x.cells[k]?
  | [], h, i, x, hx => by simp at hx
  | e :: r, h, i, x, hx => by
    have he := h e (List.mem_cons_self ..)
    rw [flat_cons]
    cases i with
    | zero =>
      simp at hx; subst hx
      exact ⟨by simp; omega, fun k hk => by rw [Nat.zero_mul, Nat.zero_add, List.getElem?_append_left (by omega)]⟩
    | succ i =>
      obtain ⟨h1, h2⟩ := flat_at (es := r) (fun y hy => h y (List.mem_cons_of_mem _ hy)) (by simpa using hx)
      rw [Nat.succ_mul]
      refine ⟨by simp; omega, fun k hk => ?_⟩
      rw [List.getElem?_append_right (by omega), show i * sz + sz + k - e.cells.length = i * sz + k by omega]
      exact h2 k hk
theorem elem_ep {γ : Gh} {w : World} {es : List AV} {sz b o : Nat} {c : Nat → Value} (hes : ∀ e ∈ es, e.cells.length = sz) (h1 : ∀ x ∈ flat es, x.one = true) (h : ∀ k, k < (flat es).length → γ.im b (o + k) ∧ w.cell? ⟨b, o + k, none⟩ = some (c k)) (hr : ∀ k (h : k < (flat es).length), VR γ w (flat es)[k] (c k))
    {i : Nat} {x : AV} (hx : es[i]? = some x) : VR γ w (.ep x.cells) (.pointer (some ⟨b, o + i * sz, none⟩)) := by
  obtain ⟨f1, f2⟩ := flat_at hes hx
  have hxm : x ∈ es := List.mem_of_getElem? hx
  have hxl := hes x hxm
  refine .ep x.cells b (o + i * sz) (fun k => c (i * sz + k)) (fun k hk => ?_) (fun y hy => h1 y ?_) (fun k hk => ?_)
  · have := h (i * sz + k) (by omega)
    rwa [← Nat.add_assoc] at this
  · exact List.mem_flatMap.2 ⟨x, hxm, hy⟩
  · have := hr (i * sz + k) (by omega)
    have e := f2 k (by omega)
    rw [List.getElem?_eq_getElem (by omega), List.getElem?_eq_getElem (by omega)] at e
    injection e with e
    rw [e] at this; exact this
theorem oIndexAddr_sound {γ : Gh} {S : St} {w : World} (h : SR base w0 γ S w) {a ix : AV} {v u : Value} (hv : VR γ w a v) (hu : VR γ w ix u) {t : TypeId} {r : AV} (ho : oIndexAddr P t a ix = some r) : OkV P base w0 γ S w (Instr.indexAt t v u) r S := by
  unfold oIndexAddr at ho
  split at ho
  · rename_i k i
    cases hu
    split at ho
    · rename_i hi0
      split at ho
      · rename_i e he
        have hu : P.underlying t = some (.slice e) := by
          unfold elemT at he
          split at he <;> simp_all
        split at ho
        · rename_i tok off sz es n hn
          split at ho
          · rename_i hsz
            have hsz : n = sz := by simpa using hsz
            subst hsz
            split at ho
            · rename_i x hx
              injection ho with ho; subst ho
              cases hv with
              | sl _ _ _ _ b o cap c hs hes h1 hc hr ht hf hcp hblk =>
              have hlt : i.toNat < es.length := (List.getElem?_eq_some_iff.1 hx).1
              have hil : i < (es.length : Int) := by omega
              have hia : (0 ≤ i ∧ i < (es.length : Int)) := ⟨hi0, hil⟩
              refine OkV.pure h (v := .pointer (some ⟨b, o + i.toNat * n, none⟩)) ?_ (elem_ep hes h1 hc hr hx)
              simp [Instr.indexAt, asIntOf, run_underlying hu, hia, sizeT_run hn, Addr.add_mid]
            · cases ho
          · cases ho
        · rename_i id off len sz n hn
          split at ho
          · rename_i hc
            simp only [Bool.and_eq_true, beq_iff_eq, decide_eq_true_eq] at hc
            obtain ⟨hsz, hil⟩ := hc
            subst hsz
            injection ho with ho; subst ho
            cases hv with
            | bs _ _ _ _ b s cap hl hc2 hsz2 hb2 =>
            have hia : (0 ≤ i ∧ i < (len : Int)) := ⟨hi0, hil⟩
            refine OkV.pure h (v := .pointer (some ⟨b, s + (off + i.toNat * n), none⟩)) ?_ (.ptr _ _ _ _ hl)
            simp [Instr.indexAt, asIntOf, run_underlying hu, hia, sizeT_run hn, Addr.add_mid, Nat.add_assoc]
          · cases ho
        · cases ho
      · rename_i len e he
        have hu : P.underlying t = some (.array len e) := by
          unfold elemT at he
          split at he <;> simp_all
        split at ho
        · rename_i n hn
          split at ho
          · rename_i hil
            obtain ⟨b, o, rfl, hr⟩ := shift_sound hv ho
            have hia : (0 ≤ i ∧ i < (len : Int)) := ⟨hi0, hil⟩
            refine OkV.pure h ?_ hr
            simp [Instr.indexAt, Instr.sureAddr, asIntOf, run_underlying hu, hia, sizeT_run hn, Addr.add_mid]
          · cases ho
        · cases ho
      · cases ho
    · cases ho
  · cases ho
end Go.Ax
