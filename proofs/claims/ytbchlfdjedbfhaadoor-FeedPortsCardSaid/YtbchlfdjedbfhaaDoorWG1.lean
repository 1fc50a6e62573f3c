/-
  Operations on memory, one by one: loads, stores, new variables, addresses, parts.
-/
import Derived.Test.YtbchlfdjedbfhaaDoorWG0
set_option linter.unusedVariables false
set_option linter.unusedSimpArgs false
noncomputable section
namespace Go.Ax
open Go.RowKit
set_option linter.unusedVariables false
set_option linter.unusedSimpArgs false
variable {P : Program} {base : Nat} {w0 : World}
/-- What holds behind an operation that yields a value. -/
def OkV (P : Program) (base : Nat) (w0 : World) (γ : Gh) (S : St) (w : World) (s : Sem Value) (a : AV) (S' : St) : Prop :=
  ∃ v w' γ', s.run P w = .ok v w' ∧ SR base w0 γ' S' w' ∧ Ext γ S w γ' S' w' ∧ VR γ' w' a v
theorem OkV.pure {γ : Gh} {S : St} {w : World} {s : Sem Value} {a : AV} {v : Value} (h : SR base w0 γ S w) (hr : s.run P w = .ok v w) (hv : VR γ w a v) : OkV P base w0 γ S w s a S :=
  ⟨v, w, γ, hr, h, .refl _ _ _, hv⟩
def isAggT (P : Program) (t : TypeId) : Option Bool := match P.underlying t with
  | some (.struct _) => some true
  | some (.array _ _) => some true
  | some _ => some false
  | none => none
def sizeT (P : Program) (t : TypeId) : Option Nat := match P.info? t with
  | some i => some i.size
  | none => none
theorem isAggT_run {t : TypeId} {b : Bool} (h : isAggT P t = some b) (w : World) : (isAgg t).run P w = .ok b w := by
  unfold isAggT at h
  unfold isAgg
  split at h
  · rename_i fs hu; injection h with h; subst h; rw [Sem.run_bind, run_underlying hu w]; simp
  · rename_i n e hu; injection h with h; subst h; rw [Sem.run_bind, run_underlying hu w]; simp
  · rename_i d h1 h2 hu; injection h with h; subst h; rw [Sem.run_bind, run_underlying hu w]
    cases d <;> simp_all
  · cases h
theorem sizeT_run {t : TypeId} {n : Nat} (h : sizeT P t = some n) (w : World) : (sizeOf t).run P w = .ok n w := by
  unfold sizeT at h
  split at h
  · rename_i i hi; injection h with h; subst h; simp [sizeOf, typeInfo, hi]
  · cases h
/-- The cells from an address on. -/
def behind (S : St) : AV → Option (List AV)
  | .ptr id off => match S.mem.get id with
    | some (.box cs) => if off ≤ cs.length then some (cs.drop off) else none
    | _ => none
  | .ep cs => some cs
  | _ => none
theorem behind_sound {γ : Gh} {S : St} {w : World} (h : SR base w0 γ S w) {a : AV} {v : Value} (hv : VR γ w a v) {cs : List AV} (hb : behind S a = some cs) :
    ∃ b o xs, v = .pointer (some ⟨b, o, none⟩) ∧ VRL γ w cs xs ∧ w.rangeAt b o xs ∧ ∀ c ∈ cs, c.one = true := by
  cases hv with
  | ptr id off b s hl =>
    simp only [behind] at hb
    split at hb
    · rename_i cs0 hm
      split at hb
      · rename_i hle
        injection hb with hb; subst hb
        obtain ⟨b2, s2, l1, l2, l3⟩ := h.live id _ hm
        rw [hl] at l1; injection l1 with l1; injection l1 with e1 e2; subst e1; subst e2
        obtain ⟨rfl, ho, h1, arr, T, x, y, ha, hx, hr⟩ := l3
        refine ⟨b, 0 + off, x.drop off, rfl, hr.drop off, fun j u hu => ?_, fun c hc => h1 c (List.mem_of_mem_drop hc)⟩
        rw [cells_at ha]
        rw [List.getElem?_drop] at hu
        have h9 : arr.toList[off + j]? = some u := by rw [hx, List.getElem?_append_left (List.getElem?_eq_some_iff.1 hu).1]; exact hu
        simpa [Nat.add_assoc] using h9
      · cases hb
    · cases hb
  | ep cs0 b o c hc h1 hr =>
    injection hb with hb; subst hb
    refine ⟨b, o, (List.range cs0.length).map c, rfl, ⟨by simp, fun k hk hk' => by simpa using hr k hk⟩, fun j u hu => ?_, h1⟩
    obtain ⟨hj, rfl⟩ := List.getElem?_eq_some_iff.1 hu
    simp at hj
    simpa using (hc j hj).2
  | _ => simp [behind] at hb
def oLoad (P : Program) (S : St) (t : TypeId) (a : AV) : Option AV :=
  match behind S a with
  | none => none
  | some cs => match isAggT P t with
    | some true => match sizeT P t with
      | some n => if n ≤ cs.length then some (.agg (cs.take n)) else none
      | none => none
    | some false => cs.head?
    | none => none
theorem oLoad_same {γ : Gh} {S : St} {w : World} (h : SR base w0 γ S w) {a : AV} {v : Value} (hv : VR γ w a v) {t : TypeId} {r : AV} (ho : oLoad P S t a = some r) : ∃ u, (Instr.loadAt t v).run P w = .ok u w ∧ VR γ w r u := by
  unfold oLoad at ho
  split at ho
  · cases ho
  · rename_i cs hb
    obtain ⟨b, o, xs, rfl, hr, hc, h1⟩ := behind_sound h hv hb
    split at ho
    · rename_i ha
      split at ho
      · rename_i n hn
        split at ho
        · rename_i hle
          injection ho with ho; subst ho
          have hl : (loadCells ⟨b, o, none⟩ n).run P w = .ok (xs.take n).toArray w := by
            have := run_loadCells_list (P := P) w ⟨b, o, none⟩ (xs.take n) (fun j u hu => by
              rw [Addr.add_mid]
              rw [List.getElem?_take] at hu
              split at hu
              · exact hc j u hu
              · cases hu)
            rwa [List.length_take, Nat.min_eq_left (by rw [hr.1]; exact hle)] at this
          refine ⟨.agg (xs.take n).toArray, ?_, (.agg (cs.take n) (xs.take n) (by simp [hr.1]) (fun c hc => h1 c (List.mem_of_mem_take hc)) (hr.take n).2)⟩
          simp [Instr.loadAt, Instr.sureAddr, loadVar, isAggT_run ha, sizeT_run hn, hl]
        · cases ho
      · cases ho
    · rename_i ha
      cases cs with
      | nil => cases ho
      | cons c cs =>
        injection ho with ho; subst ho
        obtain ⟨x, xs', rfl, hx, _⟩ := hr.head
        have := hc 0 x rfl
        refine ⟨x, ?_, hx⟩
        simp at this
        simp [Instr.loadAt, Instr.sureAddr, loadVar, isAggT_run ha, this]
    · cases ho
theorem oLoad_sound {γ : Gh} {S : St} {w : World} (h : SR base w0 γ S w) {a : AV} {v : Value} (hv : VR γ w a v) {t : TypeId} {r : AV} (ho : oLoad P S t a = some r) : OkV P base w0 γ S w (Instr.loadAt t v) r S := by
  obtain ⟨u, h1, h2⟩ := oLoad_same h hv ho
  exact OkV.pure h h1 h2
def AV.noTup : AV → Bool
  | .tup _ => false
  | _ => true
theorem noTup_ne {a : AV} (h : a.noTup = true) : ∀ vs, a ≠ .tup vs := fun vs e => by subst e; cases h
def oStore (P : Program) (S : St) (t : TypeId) (a x : AV) : Option St :=
  match a with
  | .ptr id off => match S.mem.get id with
    | some (.box cs) => match sizeT P t with
      | some n => if x.noTup && n == x.cells.length && decide (off + x.cells.length ≤ cs.length) then some { S with mem := S.mem.set id (some (.box (cs.take off ++ x.cells ++ cs.drop (off + x.cells.length)))) } else none
      | none => none
    | _ => none
  | _ => none
theorem run_storeVar_any (w : World) (b o : Nat) (t : TypeId) (v : Value) (n : Nat) (hn : (sizeOf t).run P w = .ok n w) (hs : v.cells.size = n) (ht : ∀ j, j < n → (w.cell? ⟨b, o + j, none⟩).isSome = true ∧ w.frozen? ⟨b, o + j, none⟩ = false) (h1 : ∀ u ∈ v.cells.toList, u.oneCell' = true) :
    (storeVar t ⟨b, o, none⟩ v).run P w = .ok () (w.setCells b o v.cells.toList) := by
  have := run_storeCells_cells (P := P) b o v.cells.toList 0 w (fun j hj => by simpa using (ht j (by simp at hj; omega)).1) (fun j hj => by simpa using (ht j (by simp at hj; omega)).2) h1
  simp only [Nat.add_zero] at this
  simp [storeVar, hn, hs, this]
theorem oStore_sound {γ : Gh} {S S' : St} {w : World} (h : SR base w0 γ S w) {a x : AV} {v u : Value} (hv : VR γ w a v) (hu : VR γ w x u) {t : TypeId} (ho : oStore P S t a x = some S') :
    ∃ w' γ', (Instr.storeAt t v u).run P w = .ok () w' ∧ SR base w0 γ' S' w' ∧ Ext γ S w γ' S' w' := by
  unfold oStore at ho
  split at ho
  · rename_i id off
    split at ho
    · rename_i cs hm
      split at ho
      · rename_i n hn
        split at ho
        · rename_i hc
          simp only [Bool.and_eq_true, beq_iff_eq, decide_eq_true_eq] at hc
          obtain ⟨⟨hnt, hn2⟩, hfit⟩ := hc
          injection ho with ho; subst ho
          cases hv with
          | ptr _ _ b s hl =>
          have hcells := hu.cells
          have hones := hu.ones (noTup_ne hnt)
          have hlen := hcells.1
          obtain ⟨b2, s2, l1, l2, l3⟩ := h.live id _ hm
          rw [hl] at l1; injection l1 with l1; injection l1 with e1 e2; subst e1; subst e2
          obtain ⟨k1, k2⟩ := h.store hm hl hcells hones hfit
          obtain ⟨rfl, hno, hone, arr, T, xx, yy, ha, hx, hr⟩ := l3
          have hal : cs.length ≤ arr.size := by rw [← hr.1]; have := congrArg List.length hx; simp at this; omega
          obtain ⟨_, hk⟩ := setCells_block b u.cells.toList (0 + off) w arr T (0, 0) ha
          refine ⟨_, γ, ?_, k1, Ext.store (b := b) k2 (setCells_rest b _ _ w).2.2.2 hk rfl ⟨id, _, 0, hm, hl⟩ (fun i hi => ?_)⟩
          · have := run_storeVar_any (P := P) w b (0 + off) t u n (sizeT_run hn w) (by simp at hlen; omega) (fun j hj => by
              rw [cells_at ha]
              refine ⟨by simp; omega, by simp [World.frozen?, ha]⟩) (hcells.ones hones)
            simp only [Nat.zero_add] at this ⊢
            simp [Instr.storeAt, Instr.sureAddr, this]
          · obtain ⟨c, hc⟩ := hi
            have hc : (S.mem.set id _).get i = some c := hc
            rw [Go.Ax.T.get_set] at hc
            split at hc
            · rename_i e; exact ⟨_, e ▸ hm⟩
            · exact ⟨c, hc⟩
        · cases ho
      · cases ho
    · cases ho
  · cases ho
def St.newBox (S : St) (cs : List AV) : St := { next := S.next + 1, mem := S.mem.set S.next (some (.box cs)) }
def oAlloc (P : Program) (S : St) (e : TypeId) : Option (AV × St) :=
  match P.info? e with
  | some i => match i.zero with
    | some z => match ofConst 8 z with
      | some a => if a.noTup then some (.ptr S.next 0, S.newBox a.cells) else none
      | none => none
    | none => none
  | none => none
theorem newBox_sound {γ : Gh} {S : St} {w : World} (h : SR base w0 γ S w) {a : AV} {v : Value} (hv : VR γ w a v) (hnt : a.noTup = true) (e : TypeId) :
    OkV P base w0 γ S w (do pure (.pointer (some (← newVar e v)))) (.ptr S.next 0) (S.newBox a.cells) := by
  obtain ⟨k1, k2⟩ := h.newBox e hv.cells (hv.ones (noTup_ne hnt))
  have hx : Ext γ S w (γ.withLoc S.next w.heap.size 0) (S.newBox a.cells) (w.alloc (.cells v.cells.toList.toArray e)) := Ext.newBox h _ _
  refine ⟨.pointer (some ⟨w.heap.size, 0, none⟩), w.alloc (.cells v.cells e), γ.withLoc S.next w.heap.size 0, by simp [newVar, newRow], by simpa [St.newBox] using k1, by simpa [St.newBox] using hx, ?_⟩
  exact .ptr S.next 0 w.heap.size 0 (by show (if S.next = S.next then _ else _) = _; rw [if_pos rfl])
theorem oAlloc_sound {γ : Gh} {S S' : St} {w : World} (h : SR base w0 γ S w) {e : TypeId} {a : AV} (ho : oAlloc P S e = some (a, S')) : OkV P base w0 γ S w (Instr.alloc e true (.tuple #[])) a S' := by
  unfold oAlloc at ho
  split at ho
  · rename_i i hi
    split at ho
    · rename_i z hz
      split at ho
      · rename_i z' hz'
        split at ho
        · rename_i hnt
          injection ho with ho; injection ho with h1 h2; subst h1; subst h2
          obtain ⟨v, w', γ', hr, r⟩ := newBox_sound (P := P) h (ofConst_sound (w := w) (γ := γ) hz') hnt e
          exact ⟨v, w', γ', by simpa [Instr.alloc, zeroValue, typeInfo, hi, hz] using hr, r⟩
        · cases ho
      · cases ho
    · cases ho
  · cases ho
/-- A part of a struct's cells. -/
def oPart (P : Program) (t : TypeId) (cs : List AV) (off : Nat) : Option AV :=
  match isAggT P t with
  | some true => match sizeT P t with
    | some n => if off + n ≤ cs.length then some (.agg ((cs.drop off).take n)) else none
    | none => none
  | some false => cs[off]?
  | none => none
theorem oPart_sound {γ : Gh} {w : World} {t : TypeId} {cs : List AV} {xs : List Value} (hr : VRL γ w cs xs) (h1 : ∀ c ∈ cs, c.one = true) {off : Nat} {r : AV} (ho : oPart P t cs off = some r) : ∃ v, (part t xs.toArray off).run P w = .ok v w ∧ VR γ w r v := by
  unfold oPart at ho
  split at ho
  · rename_i ha
    split at ho
    · rename_i n hn
      split at ho
      · rename_i hle
        injection ho with ho; subst ho
        refine ⟨.agg ((xs.drop off).take n).toArray, ?_, .agg _ _ (by simp [hr.1]) (fun c hc => h1 c (List.mem_of_mem_drop (List.mem_of_mem_take hc))) ((hr.drop off).take n).2⟩
        simp [part, isAggT_run ha, sizeT_run hn]
      · cases ho
    · cases ho
  · rename_i ha
    obtain ⟨y, hy, hv⟩ := hr.get ho
    exact ⟨y, by simp [part, isAggT_run ha, hy], hv⟩
  · cases ho
def fieldsOf (P : Program) (t : TypeId) : Option (Array Field) := match P.underlying t with
  | some (.struct fs) => some fs
  | _ => none
theorem fieldsOf_run {t : TypeId} {fs : Array Field} (h : fieldsOf P t = some fs) (w : World) : (underlying t).run P w = .ok (.struct fs) w := by
  unfold fieldsOf at h
  split at h
  · rename_i fs' hu; injection h with h; subst h; exact run_underlying hu w
  · cases h
def oField (P : Program) (t : TypeId) (a : AV) (f : Nat) : Option AV :=
  match a with
  | .agg cs => match fieldsOf P t with
    | some fs => match fs[f]? with
      | some fd => oPart P fd.type cs fd.offset
      | none => none
    | none => none
  | _ => none
theorem oField_sound {γ : Gh} {S : St} {w : World} (h : SR base w0 γ S w) {a : AV} {v : Value} (hv : VR γ w a v) {t : TypeId} {f : Nat} {r : AV} (ho : oField P t a f = some r) : OkV P base w0 γ S w (Instr.field t v f) r S := by
  unfold oField at ho
  split at ho
  · split at ho
    · rename_i fs hfs
      split at ho
      · rename_i fd hfd
        cases hv with
        | agg cs x hx h1 hk =>
        obtain ⟨u, hu, hru⟩ := oPart_sound ⟨hx, hk⟩ h1 ho
        exact OkV.pure h (by simp [Instr.field, fieldsOf_run hfs, hfd, asAgg, hu]) hru
      · cases ho
    · cases ho
  · cases ho
/-- An address so many cells on. -/
def shift : AV → Nat → Option AV
  | .ptr id off, n => some (.ptr id (off + n))
  | .ep cs, n => if n ≤ cs.length then some (.ep (cs.drop n)) else none
  | _, _ => none
theorem shift_sound {γ : Gh} {w : World} {a : AV} {v : Value} (hv : VR γ w a v) {n : Nat} {r : AV} (ho : shift a n = some r) : ∃ b o, v = .pointer (some ⟨b, o, none⟩) ∧ VR γ w r (.pointer (some ⟨b, o + n, none⟩)) := by
  cases hv with
  | ptr id off b s hl =>
    injection ho with ho; subst ho
    exact ⟨b, s + off, rfl, by rw [Nat.add_assoc]; exact .ptr id (off + n) b s hl⟩
  | ep cs b o c hc h1 hr =>
    simp only [shift] at ho
    split at ho
    · rename_i hle
      injection ho with ho; subst ho
      refine ⟨b, o, rfl, .ep (cs.drop n) b (o + n) (fun k => c (n + k)) (fun k hk => ?_) (fun x hx => h1 x (List.mem_of_mem_drop hx)) (fun k hk => ?_)⟩
      · have := hc (n + k) (by simp at hk; omega)
        rwa [← Nat.add_assoc] at this
      · rw [List.getElem_drop]
        exact hr (n + k) (by simp at hk; omega)
    · cases ho
  | _ => simp [shift] at ho
def oFieldAddr (P : Program) (s : TypeId) (a : AV) (f : Nat) : Option AV :=
  match fieldsOf P s with
  | some fs => match fs[f]? with
    | some fd => match sizeT P fd.type with
      | some (_ + 1) => shift a fd.offset
      | _ => none
    | none => none
  | none => none
theorem oFieldAddr_sound {γ : Gh} {S : St} {w : World} (h : SR base w0 γ S w) {a : AV} {v : Value} (hv : VR γ w a v) {s : TypeId} {f : Nat} {r : AV} (ho : oFieldAddr P s a f = some r) : OkV P base w0 γ S w (Instr.fieldAt s v f) r S := by
  unfold oFieldAddr at ho
  split at ho
  · rename_i fs hfs
    split at ho
    · rename_i fd hfd
      split at ho
      · rename_i n hn
        obtain ⟨b, o, rfl, hr⟩ := shift_sound hv ho
        exact OkV.pure h (by simp [Instr.fieldAt, fieldsOf_run hfs, hfd, Instr.sureAddr, fieldPlace, sizeT_run hn, Addr.add_mid]) hr
      · cases ho
    · cases ho
  · cases ho
def elemT (P : Program) (t : TypeId) : Option (Option Nat × TypeId) := match P.underlying t with
  | some (.slice e) => some (none, e)
  | some (.array n e) => some (some n, e)
  | _ => none
def oIndexAddr (P : Program) (t : TypeId) (a : AV) (ix : AV) : Option AV :=
  match ix with
  | .v (.int _ i) => if 0 ≤ i then
      match elemT P t with
      | some (none, e) => match a, sizeT P e with
        | .sl _ _ sz es, some n => if n == sz then match es[i.toNat]? with
            | some x => some (.ep x.cells)
            | none => none
          else none
        | .bs id off len sz, some n => if n == sz && decide (i < (len : Int)) then some (.ptr id (off + i.toNat * sz)) else none
        | _, _ => none
      | some (some len, e) => match sizeT P e with
        | some n => if i < len then shift a (i.toNat * n) else none
        | none => none
      | none => none
    else none
  | _ => none
theorem flat_cons (e : AV) (r : List AV) : flat (e :: r) = e.cells ++ flat r := by simp [flat]
theorem flat_at {sz : Nat} : ∀ {es : List AV} (h : ∀ e ∈ es, e.cells.length = sz) {i : Nat} {x : AV} (hx : es[i]? = some x), i * sz + sz ≤ (flat es).length ∧ ∀ k, k < sz → (flat es)[i * sz + k]? = x.cells[k]?
  | [], h, i, x, hx => by simp at hx
  | e :: r, h, i, x, hx => by
    have he := h e (List.mem_cons_self ..)
    rw [flat_cons]
    cases i with
    | zero =>
      simp at hx; subst hx
      exact ⟨by simp; omega, fun k hk => by rw [Nat.zero_mul, Nat.zero_add, List.getElem?_append_left (by omega)]⟩
    | succ i =>
      obtain ⟨h1, h2⟩ := flat_at (es := r) (fun y hy => h y (List.mem_cons_of_mem _ hy)) (by simpa using hx)
      rw [Nat.succ_mul]
      refine ⟨by simp; omega, fun k hk => ?_⟩
      rw [List.getElem?_append_right (by omega), show i * sz + sz + k - e.cells.length = i * sz + k by omega]
      exact h2 k hk
theorem elem_ep {γ : Gh} {w : World} {es : List AV} {sz b o : Nat} {c : Nat → Value} (hes : ∀ e ∈ es, e.cells.length = sz) (h1 : ∀ x ∈ flat es, x.one = true) (h : ∀ k, k < (flat es).length → γ.im b (o + k) ∧ w.cell? ⟨b, o + k, none⟩ = some (c k)) (hr : ∀ k (h : k < (flat es).length), VR γ w (flat es)[k] (c k))
    {i : Nat} {x : AV} (hx : es[i]? = some x) : VR γ w (.ep x.cells) (.pointer (some ⟨b, o + i * sz, none⟩)) := by
  obtain ⟨f1, f2⟩ := flat_at hes hx
  have hxm : x ∈ es := List.mem_of_getElem? hx
  have hxl := hes x hxm
  refine .ep x.cells b (o + i * sz) (fun k => c (i * sz + k)) (fun k hk => ?_) (fun y hy => h1 y ?_) (fun k hk => ?_)
  · have := h (i * sz + k) (by omega)
    rwa [← Nat.add_assoc] at this
  · exact List.mem_flatMap.2 ⟨x, hxm, hy⟩
  · have := hr (i * sz + k) (by omega)
    have e := f2 k (by omega)
    rw [List.getElem?_eq_getElem (by omega), List.getElem?_eq_getElem (by omega)] at e
    injection e with e
    rw [e] at this; exact this
theorem oIndexAddr_sound {γ : Gh} {S : St} {w : World} (h : SR base w0 γ S w) {a ix : AV} {v u : Value} (hv : VR γ w a v) (hu : VR γ w ix u) {t : TypeId} {r : AV} (ho : oIndexAddr P t a ix = some r) : OkV P base w0 γ S w (Instr.indexAt t v u) r S := by
  unfold oIndexAddr at ho
  split at ho
  · rename_i k i
    cases hu
    split at ho
    · rename_i hi0
      split at ho
      · rename_i e he
        have hu : P.underlying t = some (.slice e) := by
          unfold elemT at he
          split at he <;> simp_all
        split at ho
        · rename_i tok off sz es n hn
          split at ho
          · rename_i hsz
            have hsz : n = sz := by simpa using hsz
            subst hsz
            split at ho
            · rename_i x hx
              injection ho with ho; subst ho
              cases hv with
              | sl _ _ _ _ b o cap c hs hes h1 hc hr ht hf hcp hblk =>
              have hlt : i.toNat < es.length := (List.getElem?_eq_some_iff.1 hx).1
              have hil : i < (es.length : Int) := by omega
              have hia : (0 ≤ i ∧ i < (es.length : Int)) := ⟨hi0, hil⟩
              refine OkV.pure h (v := .pointer (some ⟨b, o + i.toNat * n, none⟩)) ?_ (elem_ep hes h1 hc hr hx)
              simp [Instr.indexAt, asIntOf, run_underlying hu, hia, sizeT_run hn, Addr.add_mid]
            · cases ho
          · cases ho
        · rename_i id off len sz n hn
          split at ho
          · rename_i hc
            simp only [Bool.and_eq_true, beq_iff_eq, decide_eq_true_eq] at hc
            obtain ⟨hsz, hil⟩ := hc
            subst hsz
            injection ho with ho; subst ho
            cases hv with
            | bs _ _ _ _ b s cap hl hc2 hsz2 hb2 =>
            have hia : (0 ≤ i ∧ i < (len : Int)) := ⟨hi0, hil⟩
            refine OkV.pure h (v := .pointer (some ⟨b, s + (off + i.toNat * n), none⟩)) ?_ (.ptr _ _ _ _ hl)
            simp [Instr.indexAt, asIntOf, run_underlying hu, hia, sizeT_run hn, Addr.add_mid, Nat.add_assoc]
          · cases ho
        · cases ho
      · rename_i len e he
        have hu : P.underlying t = some (.array len e) := by
          unfold elemT at he
          split at he <;> simp_all
        split at ho
        · rename_i n hn
          split at ho
          · rename_i hil
            obtain ⟨b, o, rfl, hr⟩ := shift_sound hv ho
            have hia : (0 ≤ i ∧ i < (len : Int)) := ⟨hi0, hil⟩
            refine OkV.pure h ?_ hr
            simp [Instr.indexAt, Instr.sureAddr, asIntOf, run_underlying hu, hia, sizeT_run hn, Addr.add_mid]
          · cases ho
        · cases ho
      · cases ho
    · cases ho
  · cases ho
end Go.Ax
noncomputable section
namespace Go.Ax
open Go.RowKit
set_option linter.unusedVariables false
set_option linter.unusedSimpArgs false
variable {P : Program} {base : Nat} {w0 : World}
def splice {α : Type} (cs : List α) (off : Nat) (ys : List α) : List α := cs.take off ++ ys ++ cs.drop (off + ys.length)
theorem splice_length {α : Type} {cs : List α} {off : Nat} {ys : List α} (h : off + ys.length ≤ cs.length) : (splice cs off ys).length = cs.length := by simp [splice]; omega
theorem splice_cons {α : Type} {cs : List α} {off : Nat} {y : α} {ys : List α} (h : off + ys.length + 1 ≤ cs.length) : splice (cs.set off y) (off + 1) ys = splice cs off (y :: ys) := by
  unfold splice
  apply List.ext_getElem?
  intro k
  simp only [List.getElem?_append, List.length_append, List.length_take, List.length_set, List.length_cons, List.getElem?_take, List.getElem?_set, List.getElem?_drop]
  by_cases h1 : k < off
  · have : k < min (off + 1) cs.length := by omega
    have h3 : k < min off cs.length := by omega
    have h4 : off ≠ k := by omega
    simp [h1, this, h3, h4, show k < off + 1 by omega, show k < min (off + 1) cs.length + ys.length by omega, show k < min off cs.length + (ys.length + 1) by omega]
  · by_cases h2 : k = off
    · subst h2
      have : k < min (k + 1) cs.length := by omega
      have h3 : ¬ k < min k cs.length := by omega
      simp [this, h3, show k < cs.length by omega, show k < min (k + 1) cs.length + ys.length by omega, show k < min k cs.length + (ys.length + 1) by omega, show k - min k cs.length = 0 by omega]
    · have a1 : ¬ k < min (off + 1) cs.length := by omega
      have a2 : ¬ k < min off cs.length := by omega
      by_cases h5 : k < off + 1 + ys.length
      · have a3 : k < min (off + 1) cs.length + ys.length := by omega
        have a4 : k < min off cs.length + (ys.length + 1) := by omega
        obtain ⟨j, hj⟩ : ∃ j, k - min off cs.length = j + 1 := ⟨k - min off cs.length - 1, by omega⟩
        have hj2 : k - min (off + 1) cs.length = j := by omega
        simp [a1, a2, a3, a4, hj, hj2]
      · have a3 : ¬ k < min (off + 1) cs.length + ys.length := by omega
        have a4 : ¬ k < min off cs.length + (ys.length + 1) := by omega
        have e1 : off + 1 + ys.length + (k - (min (off + 1) cs.length + ys.length)) = k := by omega
        have e2 : off + (ys.length + 1) + (k - (min off cs.length + (ys.length + 1))) = k := by omega
        have h4 : off ≠ k := by omega
        simp [a3, a4, e1, e2, h4]
theorem splice_nil {α : Type} (cs : List α) (off : Nat) : splice cs off [] = cs := by simp [splice]
/-- What the model's fill does with one part. -/
theorem fold_set : ∀ (xs : List Value) (n off : Nat) (cs : Array Value), off + n + xs.length ≤ cs.size →
    ((xs.zipIdx n).foldl (fun cs (p : Value × Nat) => cs.setIfInBounds (off + p.2) p.1) cs).toList = splice cs.toList (off + n) xs
  | [], n, off, cs, _ => by simp [splice_nil]
  | x :: xs, n, off, cs, h => by
    simp only [List.length_cons] at h
    rw [List.zipIdx_cons, List.foldl_cons, fold_set xs (n + 1) off _ (by simp; omega)]
    rw [Array.toList_setIfInBounds]
    exact splice_cons (by simp; omega)
theorem VRL.splice {γ : Gh} {w : World} {cs : List AV} {xs : List Value} (h : VRL γ w cs xs) {off : Nat} {ys : List AV} {zs : List Value} (hy : VRL γ w ys zs) : VRL γ w (splice cs off ys) (splice xs off zs) := by
  unfold Ax.splice
  rw [hy.1]
  exact ((h.take off).append hy).append (h.drop _)
def fillA (place : Nat → Option (Nat × Nat)) (cs : List AV) : List (Nat × AV) → Option (List AV)
  | [] => some cs
  | (i, a) :: r => match place i with
    | none => none
    | some (off, size) => if a.noTup && a.cells.length == size && decide (off + size ≤ cs.length) then fillA place (splice cs off a.cells) r else none
theorem fillA_sound {γ : Gh} {w : World} (place : Nat → Option (Nat × Nat)) : ∀ (ps : List (Nat × AV)) (vs : List (Nat × Value)) (cs r : List AV) (xs : Array Value),
    VRL γ w cs xs.toList → (∀ c ∈ cs, c.one = true) → vs.map (·.1) = ps.map (·.1) → VRL γ w (ps.map (·.2)) (vs.map (·.2)) → fillA place cs ps = some r → ∃ ys, Instr.fill place xs vs = some ys ∧ VRL γ w r ys.toList ∧ ∀ c ∈ r, c.one = true
  | [], vs, cs, r, xs, hc, h1, hi, hv, h => by
    injection h with h; subst h
    have : vs = [] := by simpa using hi
    subst this
    exact ⟨xs, rfl, hc, h1⟩
  | (i, a) :: ps, vs, cs, r, xs, hc, h1, hi, hv, h => by
    cases vs with
    | nil => simp at hi
    | cons p vs =>
    obtain ⟨j, v⟩ := p
    simp only [List.map_cons, List.cons.injEq] at hi
    obtain ⟨hi1, hi2⟩ := hi
    subst hi1
    obtain ⟨x, xs', he, hx, hxs⟩ := hv.head
    simp only [List.map_cons, List.cons.injEq] at he
    obtain ⟨rfl, rfl⟩ := he
    unfold fillA at h
    split at h
    · cases h
    · rename_i off size hp
      split at h
      · rename_i hcond
        simp only [Bool.and_eq_true, beq_iff_eq, decide_eq_true_eq] at hcond
        obtain ⟨⟨hnt, hs⟩, hfit⟩ := hcond
        have hcells := hx.cells
        have hvs : v.cells.size = size := by have := hcells.1; simp at this; omega
        have hsz : xs.size = cs.length := by have := hc.1; simpa using this
        have hfold := fold_set v.cells.toList 0 off xs (by simp; omega)
        have hz : v.cells.zipIdx.foldl (fun (cs : Array Value) (p : Value × Nat) => cs.setIfInBounds (off + p.2) p.1) xs = (v.cells.toList.zipIdx 0).foldl (fun (cs : Array Value) (p : Value × Nat) => cs.setIfInBounds (off + p.2) p.1) xs := by
          rw [← Array.foldl_toList]
          simp
        obtain ⟨ys, e1, e2, e3⟩ := fillA_sound place ps vs (splice cs off a.cells) r (v.cells.zipIdx.foldl (fun cs (p : Value × Nat) => cs.setIfInBounds (off + p.2) p.1) xs) (by
            rw [hz, hfold]; exact hc.splice hcells) (fun c hm => by
            simp only [splice, List.mem_append] at hm
            rcases hm with (hm | hm) | hm
            · exact h1 c (List.mem_of_mem_take hm)
            · exact hx.ones (noTup_ne hnt) c hm
            · exact h1 c (List.mem_of_mem_drop hm)) hi2 hxs h
        refine ⟨ys, ?_, e2, e3⟩
        have hno : ¬ (v.cells.size ≠ size ∨ off + v.cells.size > xs.size) := by omega
        simp only [Instr.fill, hp]
        rw [if_neg (by simpa using (by omega : v.cells.size = size ∧ off + v.cells.size ≤ xs.size))]
        exact e1
      · cases h
def zeroA (P : Program) (t : TypeId) : Option AV := match P.info? t with
  | some i => match i.zero with
    | some z => ofConst 8 z
    | none => none
  | none => none
theorem zeroA_sound {γ : Gh} {w : World} {t : TypeId} {a : AV} (h : zeroA P t = some a) : ∃ z, (zeroValue t).run P w = .ok z w ∧ VR γ w a z := by
  unfold zeroA at h
  split at h
  · rename_i i hi
    split at h
    · rename_i z hz
      exact ⟨z, by simp [zeroValue, typeInfo, hi, hz], ofConst_sound h⟩
    · cases h
  · cases h
/-- The places of a struct's fields. -/
def placesA (P : Program) : List Field → Option (List (Nat × Nat))
  | [] => some []
  | f :: r => match sizeT P f.type with
    | some n => match placesA P r with
      | some l => some ((f.offset, n) :: l)
      | none => none
    | none => none
theorem places_run {fs : Array Field} {l : List (Nat × Nat)} (h : placesA P fs.toList = some l) (w : World) : (fs.mapM fun (f : Field) => (Functor.map (Prod.mk f.offset) (sizeOf f.type) : Sem (Nat × Nat))).run P w = .ok l.toArray w := by
  rw [Array.mapM_eq_mapM_toList]
  have key : ∀ (fs : List Field) (l : List (Nat × Nat)), placesA P fs = some l → (fs.mapM fun (f : Field) => (Functor.map (Prod.mk f.offset) (sizeOf f.type) : Sem (Nat × Nat))).run P w = .ok l w := by
    intro fs
    induction fs with
    | nil => intro l h; injection h with h; subst h; simp
    | cons f r ih =>
      intro l h
      unfold placesA at h
      split at h
      · rename_i n hn
        split at h
        · rename_i l' hl
          injection h with h; subst h
          have := ih l' hl
          simp [List.mapM_cons, sizeT_run hn, this]
        · cases h
      · cases h
  have := key fs.toList l h
  simp [this]
theorem elemT_array {t e : TypeId} {len : Nat} (h : elemT P t = some (some len, e)) : P.underlying t = some (.array len e) := by
  unfold elemT at h
  split at h
  · injection h with h; injection h with h1 h2; cases h1
  · rename_i n e' hu
    injection h with h; injection h with h1 h2
    injection h1 with h1
    subst h1; subst h2; exact hu
  · cases h
def oBuildA (P : Program) (t : TypeId) (z : AV) (parts : List (Nat × AV)) : Option AV := match elemT P t with
  | some (some _, e) => match sizeT P e with
    | some n => match fillA (fun i => some (i * n, n)) z.cells parts with
      | some cs => if z.noTup then some (.agg cs) else none
      | none => none
    | none => none
  | _ => none
def oBuild (P : Program) (t : TypeId) (parts : List (Nat × AV)) : Option AV :=
  match zeroA P t, fieldsOf P t with
  | some z, some fs => match placesA P fs.toList with
    | some pl => match fillA (fun i => pl[i]?) z.cells parts with
      | some cs => if z.noTup then some (.agg cs) else none
      | none => none
    | none => none
  | some z, none => oBuildA P t z parts
  | _, _ => none
theorem oBuild_sound {γ : Gh} {S : St} {w : World} (h : SR base w0 γ S w) {t : TypeId} {parts : List (Nat × AV)} {vs : Array (Nat × Value)} (hi : vs.toList.map (·.1) = parts.map (·.1)) (hv : VRL γ w (parts.map (·.2)) (vs.toList.map (·.2))) {r : AV} (ho : oBuild P t parts = some r) :
    OkV P base w0 γ S w (Instr.build t vs) r S := by
  unfold oBuild at ho
  split at ho
  · rename_i z fs hz hfs
    split at ho
    · rename_i pl hpl
      split at ho
      · rename_i cs hcs
        split at ho
        · rename_i hnt
          injection ho with ho; subst ho
          obtain ⟨zv, hzr, hzv⟩ := zeroA_sound (γ := γ) (w := w) hz
          obtain ⟨ys, e1, e2, e3⟩ := fillA_sound (γ := γ) (w := w) (fun i => pl[i]?) parts vs.toList z.cells cs zv.cells hzv.cells (hzv.ones (noTup_ne hnt)) hi hv hcs
          have hp := places_run hpl w
          refine OkV.pure h (v := .agg ys) ?_ ?_
          · simp [Instr.build, hzr, fieldsOf_run hfs, hp, e1]
          · rw [← Array.toArray_toList (xs := ys)]
            exact .agg cs ys.toList e2.1 e3 e2.2
        · cases ho
      · cases ho
    · cases ho
  · rename_i z hz hfs
    unfold oBuildA at ho
    split at ho
    · rename_i len e he
      split at ho
      · rename_i n hn
        split at ho
        · rename_i cs hcs
          split at ho
          · rename_i hnt
            injection ho with ho; subst ho
            obtain ⟨zv, hzr, hzv⟩ := zeroA_sound (γ := γ) (w := w) hz
            obtain ⟨ys, e1, e2, e3⟩ := fillA_sound (γ := γ) (w := w) (fun i => some (i * n, n)) parts vs.toList z.cells cs zv.cells hzv.cells (hzv.ones (noTup_ne hnt)) hi hv hcs
            refine OkV.pure h (v := .agg ys) ?_ ?_
            · simp [Instr.build, hzr, run_underlying (elemT_array he), sizeT_run hn, e1]
            · rw [← Array.toArray_toList (xs := ys)]
              exact .agg cs ys.toList e2.1 e3 e2.2
          · cases ho
        · cases ho
      · cases ho
    · cases ho
  · cases ho
end Go.Ax
noncomputable section
namespace Go.Ax
open Go.RowKit
set_option linter.unusedVariables false
set_option linter.unusedSimpArgs false
variable {P : Program} {base : Nat} {w0 : World}
theorem fill_seq (sz : Nat) : ∀ (vs : List Value) (k : Nat) (xs : Array Value), (∀ v ∈ vs, v.cells.size = sz) → (k + vs.length) * sz ≤ xs.size →
    ∃ ys, Instr.fill (fun i => some (i * sz, sz)) xs ((vs.zipIdx k).map fun p => (p.2, p.1)) = some ys ∧ ys.toList = splice xs.toList (k * sz) (vs.flatMap fun v => v.cells.toList)
  | [], k, xs, _, _ => ⟨xs, rfl, by simp [splice_nil]⟩
  | v :: vs, k, xs, hs, hl => by
    have hv := hs v (List.mem_cons_self ..)
    have hmul : (k + (vs.length + 1)) * sz = k * sz + sz + vs.length * sz := by rw [show k + (vs.length + 1) = k + 1 + vs.length by omega, Nat.add_mul, Nat.succ_mul]
    simp only [List.length_cons] at hl
    have hfold := fold_set v.cells.toList 0 (k * sz) xs (by simp; omega)
    have hz : v.cells.zipIdx.foldl (fun (cs : Array Value) (p : Value × Nat) => cs.setIfInBounds (k * sz + p.2) p.1) xs = (v.cells.toList.zipIdx 0).foldl (fun (cs : Array Value) (p : Value × Nat) => cs.setIfInBounds (k * sz + p.2) p.1) xs := by
      rw [← Array.foldl_toList]
      simp
    have hlen : (v.cells.zipIdx.foldl (fun (cs : Array Value) (p : Value × Nat) => cs.setIfInBounds (k * sz + p.2) p.1) xs).size = xs.size := by
      have := congrArg List.length (hz ▸ hfold)
      rw [splice_length (by simp; omega)] at this
      simpa using this
    obtain ⟨ys, e1, e2⟩ := fill_seq sz vs (k + 1) (v.cells.zipIdx.foldl (fun (cs : Array Value) (p : Value × Nat) => cs.setIfInBounds (k * sz + p.2) p.1) xs) (fun u hu => hs u (List.mem_cons_of_mem _ hu)) (by rw [hlen, show k + 1 + vs.length = k + (vs.length + 1) by omega]; exact hl)
    refine ⟨ys, ?_, ?_⟩
    · rw [List.zipIdx_cons, List.map_cons]
      simp only [Instr.fill]
      rw [if_neg (by simp; omega)]
      exact e1
    · rw [e2, hz, hfold, List.flatMap_cons]
      have hfl : (vs.flatMap fun v => v.cells.toList).length = vs.length * sz := by
        have : ∀ l : List Value, (∀ v ∈ l, v.cells.size = sz) → (l.flatMap fun v => v.cells.toList).length = l.length * sz := by
          intro l
          induction l with
          | nil => intro _; simp
          | cons x r ih => intro h; simp only [List.flatMap_cons, List.length_append, List.length_cons, Nat.succ_mul]; rw [ih (fun u hu => h u (List.mem_cons_of_mem _ hu))]; have := h x (List.mem_cons_self ..); simp; omega
        exact this vs (fun u hu => hs u (List.mem_cons_of_mem _ hu))
      unfold splice
      have hvl : v.cells.toList.length = sz := by simpa using hv
      rw [Nat.add_zero, Nat.succ_mul]
      apply List.ext_getElem?
      intro j
      simp only [List.getElem?_append, List.length_append, List.length_take, List.getElem?_take, List.getElem?_drop, List.length_drop]
      have hxl : xs.toList.length = xs.size := by simp
      by_cases h1 : j < k * sz
      · simp [h1, hxl, hvl, hfl, show j < min (k * sz) xs.size by omega, show j < k * sz + sz by omega, show j < min (k * sz) xs.size + sz by omega, show j < min (k * sz + sz) (min (k * sz) xs.size + sz + (xs.size - (k * sz + sz))) by omega, show j < min (k * sz + sz) (min (k * sz) xs.size + sz + (xs.size - (k * sz + sz))) + vs.length * sz by omega, show j < min (k * sz) xs.size + (sz + vs.length * sz) by omega]
      · by_cases h2 : j < k * sz + sz
        · simp [h1, h2, hxl, hvl, hfl, show ¬ j < min (k * sz) xs.size by omega, show j < min (k * sz) xs.size + sz by omega, show j < min (k * sz + sz) (min (k * sz) xs.size + sz + (xs.size - (k * sz + sz))) by omega, show j < min (k * sz + sz) (min (k * sz) xs.size + sz + (xs.size - (k * sz + sz))) + vs.length * sz by omega, show j < min (k * sz) xs.size + (sz + vs.length * sz) by omega, show j - min (k * sz) xs.size < sz by omega]
        · by_cases h3 : j < k * sz + sz + vs.length * sz
          · simp [h1, h2, hxl, hvl, hfl, show ¬ j < min (k * sz) xs.size by omega, show ¬ j < min (k * sz + sz) (min (k * sz) xs.size + sz + (xs.size - (k * sz + sz))) by omega, show j < min (k * sz + sz) (min (k * sz) xs.size + sz + (xs.size - (k * sz + sz))) + vs.length * sz by omega, show j < min (k * sz) xs.size + (sz + vs.length * sz) by omega, show ¬ j - min (k * sz) xs.size < sz by omega, show j - min (k * sz + sz) (min (k * sz) xs.size + sz + (xs.size - (k * sz + sz))) = j - min (k * sz) xs.size - sz by omega]
          · have a1 : ¬ j < min (k * sz + sz) (min (k * sz) xs.size + sz + (xs.size - (k * sz + sz))) + vs.length * sz := by omega
            have a2 : ¬ j < min (k * sz) xs.size + (sz + vs.length * sz) := by omega
            have a3 : ∀ q, ¬ k * sz + sz + vs.length * sz + q < min (k * sz) xs.size := by omega
            have a4 : ∀ q, ¬ k * sz + sz + vs.length * sz + q < min (k * sz) xs.size + sz := by omega
            have a5 : k * sz + sz + (k * sz + sz + vs.length * sz + (j - (min (k * sz + sz) (min (k * sz) xs.size + sz + (xs.size - (k * sz + sz))) + vs.length * sz)) - (min (k * sz) xs.size + sz)) = j := by omega
            have a6 : k * sz + (sz + vs.length * sz) + (j - (min (k * sz) xs.size + (sz + vs.length * sz))) = j := by omega
            simp [h1, h2, hxl, hvl, hfl, a1, a2, a3, a4, a5, a6]
theorem cells_flat {γ : Gh} {w : World} : ∀ {as : List AV} {vs : List Value}, VRL γ w as vs → VRL γ w (flat as) (vs.flatMap fun v => v.cells.toList)
  | [], vs, h => by
    have : vs = [] := List.eq_nil_of_length_eq_zero h.1
    subst this; exact VRL.nil γ w
  | a :: as, vs, h => by
    obtain ⟨x, xs, rfl, hx, hr⟩ := h.head
    rw [flat_cons, List.flatMap_cons]
    exact hx.cells.append (cells_flat hr)
theorem ones_flat {γ : Gh} {w : World} {as : List AV} {vs : List Value} (h : VRL γ w as vs) (hn : as.all AV.noTup = true) : ∀ x ∈ flat as, x.one = true := fun x hx => by
  obtain ⟨a, ha, hxa⟩ := List.mem_flatMap.1 hx
  obtain ⟨k, hk, rfl⟩ := List.getElem_of_mem ha
  exact (h.2 k hk (by rw [h.1]; exact hk)).ones (noTup_ne (List.all_eq_true.1 hn _ ha)) x hxa
def oBuildSlice (P : Program) (t : TypeId) (len : Nat) (parts : List (Nat × AV)) : Option AV :=
  match elemT P t with
  | some (none, e) => match sizeT P e, zeroA P e with
    | some (k + 1), some _ => if (parts.map (·.1) == List.range len) && (parts.all fun p => p.2.noTup && p.2.cells.length == k + 1) && decide (len * (k + 1) ≤ 16777216) then some (.sl 1 0 (k + 1) (parts.map (·.2))) else none
    | _, _ => none
  | _ => none
theorem elemT_slice {t e : TypeId} (h : elemT P t = some (none, e)) : P.underlying t = some (.slice e) := by
  unfold elemT at h
  split at h <;> simp_all
theorem zip_range : ∀ (l : List (Nat × Value)) (n : Nat), l.map (·.1) = List.range' n l.length → l = ((l.map (·.2)).zipIdx n).map fun p => (p.2, p.1)
  | [], _, _ => rfl
  | (i, v) :: r, n, h => by
    simp only [List.map_cons, List.length_cons, List.range'_succ, List.cons.injEq] at h
    rw [List.map_cons, List.zipIdx_cons, List.map_cons, ← zip_range r (n + 1) h.2, h.1]
theorem oBuildSlice_sound {γ : Gh} {S : St} {w : World} (h : SR base w0 γ S w) {t : TypeId} {len : Nat} {parts : List (Nat × AV)} {vs : Array (Nat × Value)} (hi : vs.toList.map (·.1) = parts.map (·.1)) (hv : VRL γ w (parts.map (·.2)) (vs.toList.map (·.2))) {r : AV} (ho : oBuildSlice P t len parts = some r) :
    OkV P base w0 γ S w (Instr.buildSlice t len vs) r S := by
  unfold oBuildSlice at ho
  split at ho
  · rename_i e he
    have hu := elemT_slice he
    split at ho
    · rename_i k z hk hz
      split at ho
      · rename_i hc
        simp only [Bool.and_eq_true, beq_iff_eq, decide_eq_true_eq] at hc
        obtain ⟨⟨hr, hall⟩, hsz⟩ := hc
        injection ho with ho; subst ho
        obtain ⟨zv, hzr, hzv⟩ := zeroA_sound (γ := γ) (w := w) hz
        have hpl : parts.length = len := by have := congrArg List.length hr; simpa using this
        have hcell : ∀ p ∈ parts, p.2.noTup = true ∧ p.2.cells.length = k + 1 := fun p hp => by simpa using List.all_eq_true.1 hall p hp
        have hes : ∀ x ∈ parts.map (·.2), x.cells.length = k + 1 := fun x hx => by
          obtain ⟨p, hp, rfl⟩ := List.mem_map.1 hx; exact (hcell p hp).2
        have hnt : (parts.map (·.2)).all AV.noTup = true := List.all_eq_true.2 fun x hx => by
          obtain ⟨p, hp, rfl⟩ := List.mem_map.1 hx; exact (hcell p hp).1
        have hvl : (vs.toList.map (·.2)).length = len := by rw [hv.1]; simpa using hpl
        have hvs : ∀ u ∈ vs.toList.map (·.2), u.cells.size = k + 1 := fun u hu => by
          obtain ⟨j, hj, rfl⟩ := List.getElem_of_mem hu
          have hj2 : j < (parts.map (·.2)).length := by rw [← hv.1]; exact hj
          have h1 := (hv.2 j hj2 hj).cells.1
          rw [hes _ (List.getElem_mem hj2)] at h1
          simpa using h1
        have hzip := zip_range vs.toList 0 (by
          rw [hi, hr, List.range_eq_range']
          congr 1
          simpa using hvl.symm)
        obtain ⟨Z, hZ⟩ : ∃ Z : Array Value, Z = (Array.range (len * (k + 1))).map (fun i => (if len * (k + 1) = 0 then #[] else zv.cells : Array Value)[i % (if len * (k + 1) = 0 then #[] else zv.cells : Array Value).size]!) := ⟨_, rfl⟩
        have hZs : Z.size = len * (k + 1) := by rw [hZ]; simp
        obtain ⟨ys, e1, e2⟩ := fill_seq (k + 1) (vs.toList.map (·.2)) 0 Z hvs (by rw [hvl, hZs]; simp)
        rw [← hzip] at e1
        have hfr := cells_flat hv
        have hfl : (flat (parts.map (·.2))).length = len * (k + 1) := by rw [flat_length hes]; simp [hpl]
        have hys : ys.toList = (vs.toList.map (·.2)).flatMap fun v => v.cells.toList := by
          rw [e2]
          unfold splice
          have : ((vs.toList.map (·.2)).flatMap fun v => v.cells.toList).length = len * (k + 1) := by rw [hfr.1, hfl]
          rw [Nat.zero_mul, List.take_zero, List.nil_append, Nat.zero_add, this, List.drop_eq_nil_of_le (by rw [Array.length_toList, hZs]; exact Nat.le_refl _), List.append_nil]
        have hyl : ys.size = len * (k + 1) := by rw [← Array.length_toList, hys, hfr.1, hfl]
        obtain ⟨k1, k2⟩ := h.allocIm ys e ys.size (Nat.le_refl _)
        have hx := Ext.allocIm (S := S) ys e ys.size k2
        refine ⟨.slice (some ⟨w.heap.size, 0, none⟩) len len, w.alloc (.cells ys e), _, ?_, k1, hx, ?_⟩
        · have h24 : ¬ (16777216 < len * (k + 1)) := by omega
          by_cases h0 : len * (k + 1) = 0
          · rw [if_pos h0] at hZ
            have hl0 : len = 0 := by
              rcases Nat.mul_eq_zero.1 h0 with h | h
              · exact h
              · omega
            subst hl0
            simp at hZ
            subst hZ
            simp [Instr.buildSlice, run_underlying hu, sizeT_run hk, e1, newRow]
          · rw [if_neg h0] at hZ
            have hl0 : ¬ len = 0 := fun e => h0 (by rw [e, Nat.zero_mul])
            have e1' := e1
            rw [hZ] at e1'
            simp [Instr.buildSlice, run_underlying hu, sizeT_run hk, h24, hl0, hzr, e1', newRow]
            exact fun hq => absurd hq h0
        · have hpm : (parts.map (·.2)).length = len := by simpa using hpl
          have := VR.sl (γ := γ.withIm w.heap.size 0 ys.size) (w := w.alloc (.cells ys e)) 1 0 (k + 1) (parts.map (·.2)) w.heap.size 0 len (fun j => ys.getD j undef) (Nat.succ_pos _) hes (ones_flat hv hnt) (fun j hj => by
              refine ⟨.inr ⟨rfl, by omega, by omega⟩, ?_⟩
              rw [Nat.zero_add]
              refine alloc_new_cell w ys e ?_
              have : j < ys.size := by omega
              simp [this]) (fun j hj => by
              have hj2 : j < ((vs.toList.map (·.2)).flatMap fun v => v.cells.toList).length := by rw [hfr.1]; exact hj
              have := (hfr.2 j hj hj2).mono k2
              have hj3 : j < ys.size := by omega
              have e : ys.getD j undef = ((vs.toList.map (·.2)).flatMap fun v => v.cells.toList)[j] := by
                have : ys.toList[j]'(by simpa using hj3) = ((vs.toList.map (·.2)).flatMap fun v => v.cells.toList)[j] := by simp only [hys]
                rw [← this]; simp [hj3]
              rw [e]; exact this) (fun h => by omega) (fun _ => hpm.symm) (by omega) ⟨ys, e, (0, 0), heap_alloc_new w _, by omega⟩
          rw [hpm] at this
          exact this
      · cases ho
    · cases ho
  · cases ho
end Go.Ax
noncomputable section
namespace Go.Ax
open Go.RowKit
set_option linter.unusedVariables false
set_option linter.unusedSimpArgs false
variable {P : Program} {base : Nat} {w0 : World}
/-- A bound of a slice: what was given, or what stands for it. -/
def boundA : Option AV → Nat → Option Nat
  | none, n => some n
  | some (.v (.int _ i)), _ => if 0 ≤ i then some i.toNat else none
  | _, _ => none
def oSlice (P : Program) (t : TypeId) (a : AV) (lo hi : Option AV) : Option AV :=
  match elemT P t with
  | some (none, e) => match a, sizeT P e with
    | .sl tok off sz es, some n => match boundA lo 0, boundA hi es.length with
      | some l, some h => if n == sz && decide (l ≤ h) && decide (h ≤ es.length) then
          if l == h then some (.sl 0 0 sz [])
          else if h == es.length then some (.sl tok (off + l * sz) sz (es.drop l))
          else some (.sl 0 0 sz ((es.drop l).take (h - l)))
        else none
      | _, _ => none
    | .nils, some _ => match boundA lo 0, boundA hi 0 with
      | some 0, some 0 => some .nils
      | _, _ => none
    | .bs id off n0 sz, some n => match boundA lo 0, boundA hi n0 with
      | some l, some h => if n == sz && decide (l < h) && decide (h ≤ n0) then some (.bs id (off + l * sz) (h - l) sz) else none
      | _, _ => none
    | _, _ => none
  | _ => none
/-- A row's beginning, without room behind it. -/
def oSlice3 (P : Program) (t : TypeId) (a hi mx : AV) : Option AV :=
  match elemT P t with
  | some (none, e) => match a, sizeT P e with
    | .sl _ _ sz es, some n => match boundA (some hi) 0, boundA (some mx) 0 with
      | some h, some m => if n == sz && h == m && decide (h ≤ es.length) then some (.sl 1 0 sz (es.take h)) else none
      | _, _ => none
    | .nils, some _ => match boundA (some hi) 0, boundA (some mx) 0 with
      | some 0, some 0 => some .nils
      | _, _ => none
    | _, _ => none
  | _ => none
theorem bound_at {γ : Gh} {w : World} {a : AV} {v : Value} {n : Nat} (h : boundA (some a) 0 = some n) (hv : VR γ w a v) : ∃ k, v = .int k (n : Int) := by
  unfold boundA at h
  split at h
  · cases ‹some a = none›
  · rename_i heq; injection heq with heq; subst heq
    cases hv
    split at h
    · injection h with h
      exact ⟨_, by congr 1; omega⟩
    · cases h
  · cases h
/-- The bounds, in the model. -/
theorem bounds_run {γ : Gh} {w : World} {lo hi : Option AV} {vlo vhi : Option Value} (hlo : ∀ a, lo = some a → ∃ v, vlo = some v ∧ VR γ w a v) (hlo0 : lo = none → vlo = none) (hhi : ∀ a, hi = some a → ∃ v, vhi = some v ∧ VR γ w a v) (hhi0 : hi = none → vhi = none)
    {isS : Bool} {len cap l h : Nat} (h1 : boundA lo 0 = some l) (h2 : boundA hi len = some h) (hlh : l ≤ h) (hhl : h ≤ len) (hc : len ≤ cap) : (Instr.sliceBounds isS len cap vlo vhi none).run P w = .ok (l, h, cap) w := by
  have H : (vhi = none ∧ h = len) ∨ ∃ k, vhi = some (.int k (h : Int)) := by
    cases hi with
    | none => injection h2 with h2; exact .inl ⟨hhi0 rfl, h2.symm⟩
    | some a =>
      obtain ⟨v, hv, hr⟩ := hhi a rfl
      unfold boundA at h2
      split at h2
      · cases ‹some a = none›
      · rename_i heq; injection heq with heq; subst heq
        cases hr
        split at h2
        · injection h2 with h2
          exact .inr ⟨_, by rw [hv]; congr 2; omega⟩
        · cases h2
      · cases h2
  have L : (vlo = none ∧ l = 0) ∨ ∃ k, vlo = some (.int k (l : Int)) := by
    cases lo with
    | none => injection h1 with h1; exact .inl ⟨hlo0 rfl, h1.symm⟩
    | some a =>
      obtain ⟨v, hv, hr⟩ := hlo a rfl
      unfold boundA at h1
      split at h1
      · cases ‹some a = none›
      · rename_i heq; injection heq with heq; subst heq
        cases hr
        split at h1
        · injection h1 with h1
          exact .inr ⟨_, by rw [hv]; congr 2; omega⟩
        · cases h1
      · cases h1
  have hb : (0 : Int) ≤ (h : Int) ∧ (h : Int) ≤ (cap : Int) := by omega
  have lb : (0 : Int) ≤ (l : Int) ∧ (l : Int) ≤ (h : Int) := by omega
  rcases H with ⟨rfl, rfl⟩ | ⟨k, rfl⟩ <;> rcases L with ⟨rfl, rfl⟩ | ⟨k', rfl⟩ <;> simp [Instr.sliceBounds, Instr.sliceBound, asIntOf, hb, lb, hlh] <;> omega
theorem flat_drop {sz : Nat} : ∀ {es : List AV} (h : ∀ e ∈ es, e.cells.length = sz) (l : Nat), flat (es.drop l) = (flat es).drop (l * sz)
  | [], _, l => by simp [flat]
  | e :: r, h, 0 => by simp
  | e :: r, h, l + 1 => by
    have he := h e (List.mem_cons_self ..)
    rw [List.drop_succ_cons, flat_drop (es := r) (fun y hy => h y (List.mem_cons_of_mem _ hy)) l, flat_cons, Nat.succ_mul, show l * sz + sz = e.cells.length + l * sz by omega, List.drop_length_add_append]
theorem flat_take {sz : Nat} : ∀ {es : List AV} (h : ∀ e ∈ es, e.cells.length = sz) (l : Nat), flat (es.take l) = (flat es).take (l * sz)
  | [], _, l => by simp [flat]
  | e :: r, h, 0 => by simp [flat]
  | e :: r, h, l + 1 => by
    have he := h e (List.mem_cons_self ..)
    rw [List.take_succ_cons, flat_cons, flat_take (es := r) (fun y hy => h y (List.mem_cons_of_mem _ hy)) l, flat_cons, Nat.succ_mul, show l * sz + sz = e.cells.length + l * sz by omega, List.take_length_add_append]
theorem oSlice3_sound {γ : Gh} {S : St} {w : World} (hS : SR base w0 γ S w) {t : TypeId} {a hi mx : AV} {v vh vm : Value} (hv : VR γ w a v) (hh : VR γ w hi vh) (hm : VR γ w mx vm) {r : AV} (ho : oSlice3 P t a hi mx = some r) : OkV P base w0 γ S w (Instr.sliceAt t v none (some vh) (some vm)) r S := by
  unfold oSlice3 at ho
  split at ho
  · rename_i e he
    have hu := elemT_slice he
    split at ho
    · rename_i tok off sz es n hn
      split at ho
      · rename_i h m h1 h2
        obtain ⟨k1, rfl⟩ := bound_at h1 hh
        obtain ⟨k2, rfl⟩ := bound_at h2 hm
        split at ho
        · rename_i hc
          simp only [Bool.and_eq_true, beq_iff_eq, decide_eq_true_eq] at hc
          obtain ⟨⟨hns, hhm⟩, hhl⟩ := hc
          subst hns; subst hhm
          injection ho with ho; subst ho
          cases hv with
          | sl _ _ _ _ b o cap c hs hes hone hcl hr ht hf hcp hblk =>
          have hcap : (0 : Int) ≤ (h : Int) ∧ (h : Int) ≤ (cap : Int) := by omega
          have hself : (0 : Int) ≤ (h : Int) ∧ (h : Int) ≤ (h : Int) := by omega
          have hrun : (Instr.sliceAt t (.slice (some ⟨b, o, none⟩) es.length cap) none (some (.int k1 (h : Int))) (some (.int k2 (h : Int)))).run P w = .ok (.slice (some ⟨b, o, none⟩) h h) w := by
            simp [Instr.sliceAt, Instr.slice, run_underlying hu, Instr.sliceBounds, Instr.sliceBound, asIntOf, hcap, sizeT_run hn, Addr.add_mid]
            intro hlt; omega
          refine OkV.pure hS hrun ?_
          obtain ⟨arr, T, fr, harr, hle⟩ := hblk
          have hd := flat_take hes h
          have hlen : (es.take h).length = h := by simp; omega
          have hfl : (flat es).length = es.length * n := flat_length hes
          have hmul : h * n ≤ es.length * n := Nat.mul_le_mul_right _ hhl
          have hmul2 : es.length * n ≤ cap * n := Nat.mul_le_mul_right _ hcp
          have hq := VR.sl (γ := γ) (w := w) 1 0 n (es.take h) b o h c hs (fun e he => hes e (List.mem_of_mem_take he)) (fun x hx => hone x (by rw [hd] at hx; exact List.mem_of_mem_take hx)) (fun k hk => by
              rw [hd] at hk; simp at hk
              exact hcl k (by omega)) (fun k hk => by
              have hk2 := hk
              rw [hd] at hk2; simp at hk2
              have := hr k (by omega)
              have e : (flat (es.take h))[k] = (flat es)[k]'(by omega) := by simp only [hd]; rw [List.getElem_take]
              rw [e]; exact this) (fun h2 => by omega) (fun _ => hlen.symm) (by rw [hlen]; exact Nat.le_refl _) ⟨arr, T, fr, harr, by omega⟩
          rwa [hlen] at hq
        · cases ho
      · cases ho
    · rename_i n hn
      split at ho
      · rename_i h1 h2
        obtain ⟨k1, rfl⟩ := bound_at h1 hh
        obtain ⟨k2, rfl⟩ := bound_at h2 hm
        injection ho with ho; subst ho
        cases hv
        refine OkV.pure hS (v := .slice none 0 0) ?_ .nils
        simp [Instr.sliceAt, Instr.slice, run_underlying hu, Instr.sliceBounds, Instr.sliceBound, asIntOf, sizeT_run hn]
      · cases ho
    · cases ho
  · cases ho
theorem oSlice_sound {γ : Gh} {S : St} {w : World} (hS : SR base w0 γ S w) {t : TypeId} {a : AV} {v : Value} (hv : VR γ w a v) {lo hi : Option AV} {vlo vhi : Option Value} (hlo : ∀ a, lo = some a → ∃ v, vlo = some v ∧ VR γ w a v) (hlo0 : lo = none → vlo = none)
    (hhi : ∀ a, hi = some a → ∃ v, vhi = some v ∧ VR γ w a v) (hhi0 : hi = none → vhi = none) {r : AV} (ho : oSlice P t a lo hi = some r) : OkV P base w0 γ S w (Instr.sliceAt t v vlo vhi none) r S := by
  unfold oSlice at ho
  split at ho
  · rename_i e he
    have hu := elemT_slice he
    split at ho
    · rename_i tok off sz es n hn
      split at ho
      · rename_i l h h1 h2
        split at ho
        · rename_i hc
          simp only [Bool.and_eq_true, beq_iff_eq, decide_eq_true_eq] at hc
          obtain ⟨⟨hns, hlh⟩, hhl⟩ := hc
          subst hns
          cases hv with
          | sl _ _ _ _ b o cap c hs hes hone hcl hr ht hf hcp hblk =>
          have hb := bounds_run (P := P) (isS := true) hlo hlo0 hhi hhi0 h1 h2 hlh hhl hcp
          have hrun : (Instr.sliceAt t (.slice (some ⟨b, o, none⟩) es.length cap) vlo vhi none).run P w = .ok (.slice (if cap = l then some ⟨b, o, none⟩ else some ⟨b, o + l * n, none⟩) (h - l) (cap - l)) w := by
            simp [Instr.sliceAt, Instr.slice, run_underlying hu, hb, sizeT_run hn, Addr.add_mid]
          obtain ⟨arr, T, fr, harr, hle⟩ := hblk
          split at ho
          · rename_i heq
            have heq : l = h := by simpa using heq
            subst heq
            injection ho with ho; subst ho
            by_cases hcl2 : cap = l
            · rw [if_pos hcl2] at hrun
              refine OkV.pure hS hrun ?_
              have hq := VR.sl (γ := γ) (w := w) 0 0 n [] b o (cap - l) (fun _ => undef) hs (fun _ h => by cases h) (fun _ h => by simp [flat] at h) (fun k hk => by simp [flat] at hk) (fun k hk => by simp [flat] at hk) (fun h => by omega) (fun h => by omega) (Nat.zero_le _)
                ⟨arr, T, fr, harr, by rw [hcl2, Nat.sub_self, Nat.zero_mul]; omega⟩
              simpa using hq
            · rw [if_neg hcl2] at hrun
              refine OkV.pure hS hrun ?_
              have hmul : l * n + (cap - l) * n = cap * n := by rw [← Nat.add_mul]; congr 1; omega
              have hq := VR.sl (γ := γ) (w := w) 0 0 n [] b (o + l * n) (cap - l) (fun _ => undef) hs (fun _ h => by cases h) (fun _ h => by simp [flat] at h) (fun k hk => by simp [flat] at hk) (fun k hk => by simp [flat] at hk) (fun h => by omega) (fun h => by omega) (Nat.zero_le _)
                ⟨arr, T, fr, harr, by omega⟩
              simpa using hq
          · rename_i hne
            have hne : l ≠ h := by simpa using hne
            have hcl2 : ¬ cap = l := by omega
            rw [if_neg hcl2] at hrun
            have hmul : l * n + (cap - l) * n = cap * n := by rw [← Nat.add_mul]; congr 1; omega
            have hfl : (flat es).length = es.length * n := flat_length hes
            have hd := flat_drop hes l
            have hlmul : l * n ≤ es.length * n := Nat.mul_le_mul_right _ (by omega)
            split at ho
            · rename_i hh
              have hh : h = es.length := by simpa using hh
              injection ho with ho; subst ho
              refine OkV.pure hS hrun ?_
              have hlen : (es.drop l).length = h - l := by simp; omega
              rw [← hlen]
              refine .sl tok (off + l * n) n (es.drop l) b (o + l * n) (cap - l) (fun k => c (l * n + k)) hs (fun e he => hes e (List.mem_of_mem_drop he)) (fun x hx => hone x (by rw [hd] at hx; exact List.mem_of_mem_drop hx)) (fun k hk => ?_) (fun k hk => ?_) (fun h2 => ?_) (fun h1 => ?_) (by rw [hlen]; omega) ⟨arr, T, fr, harr, by omega⟩
              · rw [hd] at hk; simp at hk
                have := hcl (l * n + k) (by omega)
                rwa [← Nat.add_assoc] at this
              · have hk2 := hk
                rw [hd] at hk2; simp at hk2
                have := hr (l * n + k) (by omega)
                have e : (flat (es.drop l))[k] = (flat es)[l * n + k]'(by omega) := by simp only [hd]; rw [List.getElem_drop]
                rw [e]; exact this
              · obtain ⟨s, hs1, hs2⟩ := ht h2
                exact ⟨s, hs1, by omega⟩
              · have := hf h1; omega
            · rename_i hh
              have hh : h ≠ es.length := by simpa using hh
              injection ho with ho; subst ho
              refine OkV.pure hS hrun ?_
              have hlen : ((es.drop l).take (h - l)).length = h - l := by simp; omega
              have hes2 : ∀ e ∈ es.drop l, e.cells.length = n := fun e he => hes e (List.mem_of_mem_drop he)
              have hd2 := flat_take hes2 (h - l)
              rw [hd] at hd2
              have hmul2 : (h - l) * n + l * n = h * n := by rw [← Nat.add_mul]; congr 1; omega
              have hmul3 : h * n ≤ es.length * n := Nat.mul_le_mul_right _ hhl
              have hq := VR.sl (γ := γ) (w := w) 0 0 n ((es.drop l).take (h - l)) b (o + l * n) (cap - l) (fun k => c (l * n + k)) hs (fun e he => hes2 e (List.mem_of_mem_take he)) (fun x hx => hone x (by rw [hd2] at hx; exact List.mem_of_mem_drop (List.mem_of_mem_take hx))) (fun k hk => by
                  rw [hd2] at hk; simp at hk
                  have := hcl (l * n + k) (by omega)
                  rwa [← Nat.add_assoc] at this) (fun k hk => by
                  have hk2 := hk
                  rw [hd2] at hk2; simp at hk2
                  have := hr (l * n + k) (by omega)
                  have e : (flat ((es.drop l).take (h - l)))[k] = (flat es)[l * n + k]'(by omega) := by simp only [hd2]; rw [List.getElem_take, List.getElem_drop]
                  rw [e]; exact this) (fun h2 => by omega) (fun h1 => by omega) (by rw [hlen]; omega) ⟨arr, T, fr, harr, by omega⟩
              rwa [hlen] at hq
        · cases ho
      · cases ho
    · rename_i n hn
      split at ho
      · rename_i h1 h2
        injection ho with ho; subst ho
        cases hv
        have hb := bounds_run (P := P) (isS := true) (len := 0) (cap := 0) hlo hlo0 hhi hhi0 h1 h2 (Nat.le_refl _) (Nat.le_refl _) (Nat.le_refl _)
        refine OkV.pure hS (v := .slice none 0 0) ?_ .nils
        simp [Instr.sliceAt, Instr.slice, run_underlying hu, hb, sizeT_run hn]
      · cases ho
    · rename_i id off n0 sz n hn
      split at ho
      · rename_i l h h1 h2
        split at ho
        · rename_i hc
          simp only [Bool.and_eq_true, beq_iff_eq, decide_eq_true_eq] at hc
          obtain ⟨⟨hns, hlh⟩, hhl⟩ := hc
          subst hns
          injection ho with ho; subst ho
          cases hv with
          | bs _ _ _ _ b s cap hloc hcp hsz hblk =>
          have hb := bounds_run (P := P) (isS := true) hlo hlo0 hhi hhi0 h1 h2 (Nat.le_of_lt hlh) hhl hcp
          have hcl2 : ¬ cap = l := by omega
          have hrun : (Instr.sliceAt t (.slice (some ⟨b, s + off, none⟩) n0 cap) vlo vhi none).run P w = .ok (.slice (some ⟨b, s + off + l * n, none⟩) (h - l) (cap - l)) w := by
            simp [Instr.sliceAt, Instr.slice, run_underlying hu, hb, sizeT_run hn, Addr.add_mid, hcl2]
          obtain ⟨arr, T, fr, harr, hle⟩ := hblk
          refine OkV.pure hS hrun ?_
          have hmul : l * n + (cap - l) * n = cap * n := by rw [← Nat.add_mul]; congr 1; omega
          have := VR.bs (γ := γ) (w := w) id (off + l * n) (h - l) n b s (cap - l) hloc (by omega) hsz ⟨arr, T, fr, harr, by omega⟩
          rw [← Nat.add_assoc] at this
          exact this
        · cases ho
      · cases ho
    · cases ho
  · cases ho
def oExtract (a : AV) (i : Nat) : Option AV := match a with
  | .tup vs => vs[i]?
  | _ => none
theorem oExtract_sound {γ : Gh} {S : St} {w : World} (hS : SR base w0 γ S w) {a : AV} {v : Value} (hv : VR γ w a v) {i : Nat} {r : AV} (ho : oExtract a i = some r) : OkV P base w0 γ S w (Instr.extract v i) r S := by
  unfold oExtract at ho
  split at ho
  · cases hv with
    | tup vs x hx hk =>
    obtain ⟨y, hy, hr⟩ := VRL.get (γ := γ) (w := w) ⟨hx, hk⟩ ho
    exact OkV.pure hS (by simp [Instr.extract, hy]) hr
  · cases ho
def oMakeI (P : Program) (t : TypeId) (a : AV) : Option AV := match P.underlying t with
  | some (.interface _) => none
  | some _ => some (.iface t a)
  | none => none
theorem oMakeI_sound {γ : Gh} {S : St} {w : World} (hS : SR base w0 γ S w) {a : AV} {v : Value} (hv : VR γ w a v) {t : TypeId} {r : AV} (ho : oMakeI P t a = some r) : OkV P base w0 γ S w (Instr.makeInterface t v) r S := by
  unfold oMakeI at ho
  split at ho
  · cases ho
  · rename_i d hd hu
    injection ho with ho; subst ho
    refine OkV.pure hS (v := .iface t v) ?_ (.iface t a v hv)
    simp only [Instr.makeInterface, Sem.run_bind, run_underlying hu, Result.andThen_ok]
    try (split; · rename_i ms; exact absurd rfl (hd ms))
    all_goals rfl
  · cases ho
/-- Two values of which one is nil, and the other one is not. -/
def neNil (P : Program) (t : TypeId) (a b : AV) : Bool :=
  match P.underlying t, a, b with
  | some (.slice _), .sl _ _ _ _, .nils => true
  | some (.slice _), .nils, .sl _ _ _ _ => true
  | some (.slice _), .bs _ _ _ _, .nils => true
  | some (.slice _), .nils, .bs _ _ _ _ => true
  | some (.pointer _), .ptr _ _, .nilp => true
  | some (.pointer _), .nilp, .ptr _ _ => true
  | some (.pointer _), .ep _, .nilp => true
  | some (.pointer _), .nilp, .ep _ => true
  | some (.map _ _), .map _, .nilm => true
  | some (.map _ _), .nilm, .map _ => true
  | some (.func _ _ _), .fn _ _ _, .v .nilFunc => true
  | some (.func _ _ _), .v .nilFunc, .fn _ _ _ => true
  | some (.interface _), .iface _ _, .v .nilIface => true
  | some (.interface _), .v .nilIface, .iface _ _ => true
  | _, _, _ => false
theorem neNil_sound {γ : Gh} {w : World} {t : TypeId} {a b : AV} {v u : Value} (hv : VR γ w a v) (hu : VR γ w b u) (h : neNil P t a b = true) (x y : Operand) (op : BinOp) (hop : op = .eql ∨ op = .neq) :
    (do eqGuard op t x y v u; binOp op t v u : Sem Value).run P w = .ok (.bool (op == .neq)) w := by
  have e : ∃ r, (Op.equal t v u).run P w = .ok r w ∧ r = false := by
    refine ⟨false, ?_, rfl⟩
    suffices H : ∀ d, (Op.equalIn (d + 1) t v u).run P w = .ok false w from H 9999
    intro d
    unfold neNil at h
    split at h <;> first | (rename_i hd; cases hv; cases hu; simp [Op.equalIn, run_underlying hd]; done) | (cases h; done) | skip
    all_goals (rename_i hd; cases hv <;> cases hu <;> simp [Op.equalIn, run_underlying hd])
  obtain ⟨r, hr, rfl⟩ := e
  unfold neNil at h
  rcases hop with rfl | rfl <;> (split at h <;> first | (cases hv; cases hu; simp [eqGuard, binOp, hr]; done) | (cases h; done))
end Go.Ax
noncomputable section
namespace Go.Ax
open Go.RowKit
set_option linter.unusedVariables false
set_option linter.unusedSimpArgs false
variable {P : Program} {base : Nat} {w0 : World}
/-- What an append takes from its second argument. -/
def srcA (P : Program) (tx : TypeId) (sz : Nat) (x : AV) : Option (List AV) :=
  match P.underlying tx, x with
  | some (.slice _), .nils => some []
  | some (.slice _), .sl _ _ sz' ns => if sz' == sz then some ns else none
  | some .string, .v (.string s) => if sz == 1 then some (s.data.toList.map fun b => .v (.int .u8 b.toNat)) else none
  | _, _ => none
/-- May a row be appended to? -/
def tipOk (S : St) (tok m : Nat) : Bool := match tok with
  | 0 => false
  | 1 => true
  | k + 2 => match S.mem.get (k + 2) with
    | some (.tip n) => n == m
    | _ => false
theorem tipOk_spec {S : St} {tok m : Nat} (h : tipOk S tok m = true) : tok = 1 ∨ 2 ≤ tok ∧ S.mem.get tok = some (.tip m) := by
  unfold tipOk at h
  split at h
  · cases h
  · exact .inl rfl
  · rename_i k
    split at h
    · rename_i n hn
      have : n = m := by simpa using h
      subst this
      exact .inr ⟨by omega, hn⟩
    · cases h
def oAppend (P : Program) (S : St) (t tx : TypeId) (a x : AV) : Option (AV × St) :=
  match elemT P t with
  | some (none, e) => match P.info? e with
    | some i => match i.zero with
      | some z => if z.cells.size == i.size && decide (0 < i.size) then
          match srcA P tx i.size x with
          | some [] => match a with
            | .nils => some (a, S)
            | .sl _ _ sz _ => if sz == i.size then some (a, S) else none
            | _ => none
          | some (n :: ns) => match a with
            | .nils => if decide ((n :: ns).length * i.bytes ≤ 140737488355328) && decide ((n :: ns).length ≤ 9223372036854775807) then some (.sl S.next 0 i.size (n :: ns), S.grown 1 ((n :: ns).length * i.size)) else none
            | .sl tok off sz es => if sz == i.size && decide ((es.length + (n :: ns).length) * i.bytes ≤ 140737488355328) && decide (es.length + (n :: ns).length ≤ 9223372036854775807) && tipOk S tok (off + es.length * i.size) then
                some (.sl S.next 0 i.size (es ++ n :: ns), S.grown tok ((es ++ n :: ns).length * i.size)) else none
            | _ => none
          | none => none
        else none
      | none => none
    | none => none
  | _ => none
theorem flat_bytes (l : List UInt8) : flat (l.map fun b => AV.v (.int .u8 b.toNat)) = l.map fun b => AV.v (.int .u8 b.toNat) := by
  induction l with
  | nil => rfl
  | cons b r ih => rw [List.map_cons, flat_cons, ih]; rfl
theorem srcA_sound {γ : Gh} {w : World} {tx : TypeId} {sz : Nat} {x : AV} {v : Value} (hv : VR γ w x v) {ns : List AV} (h : srcA P tx sz x = some ns) :
    ∃ news, Src P sz tx v ns.length news w ∧ (∀ e ∈ ns, e.cells.length = sz) ∧ (∀ x ∈ flat ns, x.one = true) ∧ VRL γ w (flat ns) news := by
  unfold srcA at h
  split at h
  · rename_i e' hu
    injection h with h; subst h
    cases hv
    exact ⟨[], Src.ofNil w hu 0, fun _ h => (by cases h), fun _ h => (by simp [flat] at h), VRL.nil γ w⟩
  · rename_i e' tok off sz' ns' hu
    split at h
    · rename_i hs
      have hs : sz' = sz := by simpa using hs
      subst hs
      injection h with h; subst h
      cases hv with
      | sl _ _ _ _ b o cap c hsz hes h1 hcl hr ht hf hc hb =>
      obtain ⟨k1, k2⟩ := sl_cells hcl hr
      refine ⟨_, Src.ofSlice w hu ⟨b, o, none⟩ ns'.length cap _ (by simp [flat_length hes]) (fun j u hu => by rw [Addr.add_mid]; exact k2 j u hu) (k1.ones h1), hes, h1, k1⟩
    · cases h
  · rename_i s hu
    split at h
    · rename_i hs
      have hs : sz = 1 := by simpa using hs
      subst hs
      injection h with h; subst h
      cases hv
      have hl : (s.data.toList.map fun b => AV.v (.int .u8 b.toNat)).length = s.size := by rw [List.length_map, Array.length_toList]; rfl
      have := Src.ofString (P := P) w hu s
      refine ⟨byteCells s, by rw [hl]; exact this, fun e he => ?_, fun e he => ?_, ?_⟩
      · obtain ⟨b, _, rfl⟩ := List.mem_map.1 he; rfl
      · rw [flat_bytes] at he
        obtain ⟨b, _, rfl⟩ := List.mem_map.1 he; rfl
      · rw [flat_bytes]
        refine ⟨by simp [byteCells], fun k hk hk' => ?_⟩
        simp [byteCells]
        exact .v _ rfl
    · cases h
  · cases h
theorem append_none {w : World} {t tx ty e : TypeId} {i : TypeInfo} (ht : P.underlying t = some (.slice e)) (hi : P.info? e = some i) {x : Value} (hs : Src P i.size tx x 0 [] w) (bs : Option Addr) (n c : Nat) (hc : n ≤ c) :
    (Builtin.append_ #[t, tx] ty #[.slice bs n c, x]).run P w = .ok (.slice bs n c) w := by
  rcases hs.kind with ⟨e', hk⟩ | hk <;> cases bs <;> simp [Builtin.append_, run_underlying ht, run_underlying hk, sizeOf, typeInfo, hi, hs.len, hc, hs.cells, storeCells]
theorem oAppend_sound {γ : Gh} {S S' : St} {w : World} (hS : SR base w0 γ S w) {t tx ty : TypeId} {a x r : AV} {v u : Value} (hv : VR γ w a v) (hu : VR γ w x u) (ho : oAppend P S t tx a x = some (r, S')) :
    OkV P base w0 γ S w (Builtin.append_ #[t, tx] ty #[v, u]) r S' := by
  unfold oAppend at ho
  split at ho
  · rename_i e he
    have ht := elemT_slice he
    split at ho
    · rename_i i hi
      split at ho
      · rename_i z hz
        split at ho
        · rename_i hc
          simp only [Bool.and_eq_true, beq_iff_eq, decide_eq_true_eq] at hc
          split at ho
          · rename_i hsrc
            obtain ⟨news, s1, s2, s3, s4⟩ := srcA_sound hu hsrc
            have hn : news = [] := List.eq_nil_of_length_eq_zero s4.1
            subst hn
            split at ho
            · injection ho with ho; injection ho with h1 h2; subst h1; subst h2
              cases hv
              exact OkV.pure hS (append_none ht hi s1 none 0 0 (Nat.le_refl _)) .nils
            · rename_i tok off sz es
              split at ho
              · injection ho with ho; injection ho with h1 h2; subst h1; subst h2
                have hv' := hv
                cases hv with
                | sl _ _ _ _ b o cap c hsz hes h1 hcl hr ht2 hf hcp hb =>
                exact OkV.pure hS (append_none ht hi s1 (some ⟨b, o, none⟩) es.length cap hcp) hv'
              · cases ho
            · cases ho
          · rename_i n ns hsrc
            obtain ⟨news, s1, s2, s3, s4⟩ := srcA_sound hu hsrc
            split at ho
            · split at ho
              · rename_i hb
                simp only [Bool.and_eq_true, decide_eq_true_eq] at hb
                injection ho with ho; injection ho with h1 h2; subst h1; subst h2
                have := append_sound hS t tx ty e i z i.size ht hi hz rfl hc.1 hc.2 u (n :: ns) news s1 s2 s3 s4 (Nat.succ_pos _) .nils v hv 1 [] (.inl ⟨rfl, rfl⟩) (by simpa using hb.1) (by simpa using hb.2)
                obtain ⟨v', w', γ', k1, k2, k3, k4⟩ := this
                exact ⟨v', w', γ', k1, by simpa using k2, by simpa using k3, by simpa using k4⟩
              · cases ho
            · rename_i tok off sz es
              split at ho
              · rename_i hb
                simp only [Bool.and_eq_true, decide_eq_true_eq, beq_iff_eq] at hb
                obtain ⟨⟨⟨hsz, hb1⟩, hb2⟩, hb3⟩ := hb
                subst hsz
                injection ho with ho; injection ho with h1 h2; subst h1; subst h2
                have := append_sound hS t tx ty e i z i.size ht hi hz rfl hc.1 hc.2 u (n :: ns) news s1 s2 s3 s4 (Nat.succ_pos _) (.sl tok off i.size es) v hv tok es (.inr ⟨off, rfl, tipOk_spec hb3⟩) hb1 hb2
                obtain ⟨v', w', γ', k1, k2, k3, k4⟩ := this
                exact ⟨v', w', γ', k1, k2, k3, k4⟩
              · cases ho
            · cases ho
          · cases ho
        · cases ho
      · cases ho
    · cases ho
  · cases ho
theorem getMap_run {w : World} {r : Nat} {es : Array MapEntry} {clock : Nat} (hb : w.heap[r]? = some (.map es clock)) : (getObj r).run P w = .ok (.map es clock) w := by
  simp [getObj, Sem.run, hb]
theorem setMap_run {w : World} {r : Nat} {es : Array MapEntry} {clock : Nat} (o : Obj) (hb : w.heap[r]? = some (.map es clock)) : (setObj r o).run P w = .ok () { w with heap := w.heap.setIfInBounds r o } := by
  simp [setObj, Sem.run, hb]
def oLen (P : Program) (S : St) (t : TypeId) (a : AV) : Option Nat :=
  match P.underlying t, a with
  | some (.slice _), .nils => some 0
  | some (.slice _), .sl _ _ _ es => some es.length
  | some (.slice _), .bs _ _ n _ => some n
  | some (.map _ _), .nilm => some 0
  | some (.map _ _), .map id => match S.mem.get id with
    | some (.mp es) => some es.length
    | _ => none
  | some .string, .v (.string s) => some s.size
  | some (.slice _), .v (.slice (some _) 0 0) => some 0
  | _, _ => none
theorem oLen_sound {γ : Gh} {S : St} {w : World} (hS : SR base w0 γ S w) {t ty : TypeId} {a : AV} {v : Value} (hv : VR γ w a v) {n : Nat} (ho : oLen P S t a = some n) : (Builtin.len_ #[t] ty #[v]).run P w = .ok (goInt n) w := by
  unfold oLen at ho
  split at ho
  · rename_i e hu; injection ho with ho; subst ho; cases hv; simp [Builtin.len_, run_underlying hu]
  · rename_i e tok off sz es hu; injection ho with ho; subst ho; cases hv; simp [Builtin.len_, run_underlying hu]
  · rename_i e id off m sz hu; injection ho with ho; subst ho; cases hv; simp [Builtin.len_, run_underlying hu]
  · rename_i e e2 hu; injection ho with ho; subst ho; cases hv; simp [Builtin.len_, run_underlying hu]
  · rename_i e e2 id hu
    split at ho
    · rename_i es hm
      injection ho with ho; subst ho
      cases hv with
      | map _ b s hl =>
      obtain ⟨b2, s2, l1, l2, l3⟩ := hS.live id _ hm
      rw [hl] at l1; injection l1 with l1; injection l1 with e1 e2; subst e1; subst e2
      obtain ⟨_, ms, clock, ha, hr⟩ := l3
      have hl2 := hr.1
      have hl3 : ms.size = es.length := by simpa using hl2
      simp [Builtin.len_, run_underlying hu, getMap_run ha, hl3]
    · cases ho
  · rename_i s hu; injection ho with ho; subst ho; cases hv; simp [Builtin.len_, run_underlying hu]
  · rename_i e a hu; injection ho with ho; subst ho; cases hv; simp [Builtin.len_, run_underlying hu]
  · cases ho
/-- A map's block gets another content. -/
theorem SR.mapSet {γ : Gh} {S : St} {w : World} (h : SR base w0 γ S w) {id b s : Nat} {es es' : List (Value × AV)} (hm : S.mem.get id = some (.mp es)) (hl : γ.loc id = some (b, s)) {ms : Array MapEntry} {clock : Nat} (hr : MapR γ w es' ms.toList) :
    SR base w0 γ { S with mem := S.mem.set id (some (.mp es')) } { w with heap := w.heap.setIfInBounds b (.map ms clock) } ∧ Ext γ S w γ { S with mem := S.mem.set id (some (.mp es')) } { w with heap := w.heap.setIfInBounds b (.map ms clock) } := by
  obtain ⟨b2, s2, l1, l2, l3⟩ := h.live id _ hm
  rw [hl] at l1; injection l1 with l1; injection l1 with e1 e2; subst e1; subst e2
  obtain ⟨hs0, ms0, clock0, ha, hr0⟩ := l3
  have hblt := h.inb id b s hl
  have hne : ∀ k, k ≠ b → (w.heap.setIfInBounds b (.map ms clock))[k]? = w.heap[k]? := fun k hk => Array.getElem?_setIfInBounds_ne (by omega)
  have hself : (w.heap.setIfInBounds b (.map ms clock))[b]? = some (.map ms clock) := Array.getElem?_setIfInBounds_self_of_lt hblt
  have hnoim : ∀ o, ¬ γ.im b o := fun o ho => by
    obtain ⟨v, hv⟩ := h.imc b o ho
    simp [World.cell?, ha] at hv
  have ev : Ev γ w γ { w with heap := w.heap.setIfInBounds b (.map ms clock) } := by
    refine ⟨fun _ _ h => h, fun _ _ h => h, fun b' o v hi hv => ?_, fun b' arr T fr h2 => ?_⟩
    · by_cases e : b' = b
      · subst e; exact absurd hi (hnoim o)
      · exact (World.cell?_of_block (a := ⟨b', o, none⟩) (w := w) (hne b' e)).trans hv
    · by_cases e : b' = b
      · subst e; rw [ha] at h2; cases h2
      · exact ⟨arr, fr, (hne b' e).trans h2, rfl⟩
  have G : ∀ i, (S.mem.set id (some (.mp es'))).get i = if i = id then some (.mp es') else S.mem.get i := fun i => Go.Ax.T.get_set _ _ _ _
  have sub : ∀ i c, (S.mem.set id (some (.mp es'))).get i = some c → ∃ d, S.mem.get i = some d := fun i c e => by
    rw [G] at e
    split at e
    · rename_i hq; exact ⟨_, hq ▸ hm⟩
    · exact ⟨_, e⟩
  refine ⟨⟨⟨h.below.os, h.below.tape, h.below.output, by simpa using h.below.size, fun k hk => (hne k (by omega)).trans (h.below.block k hk)⟩, by simpa using h.hbase, fun b' o hi => ?_, fun i hi => ?_, h.pos, fun i b' s' e => by simpa using h.inb i b' s' e, fun i c e => ?_, fun i i' c1 c2 b' s1 s2 e1 e2 q1 q2 => ?_⟩, Ext.store (b := b) ev (by simp) hne rfl ⟨id, _, s, hm, hl⟩ (fun i ⟨c, hc⟩ => sub i c hc)⟩
  · obtain ⟨v, hv⟩ := h.imc b' o hi; exact ⟨v, ev.cell b' o v hi hv⟩
  · have := h.fresh i hi
    refine ⟨this.1, ?_⟩
    show (S.mem.set id _).get i = none
    rw [G, if_neg (fun e => by subst e; rw [hl] at this; cases this.1)]
    exact this.2
  · have e : (S.mem.set id _).get i = some c := e
    rw [G] at e
    split at e
    · rename_i hid
      injection e with e; subst e; subst hid
      exact ⟨b, s, hl, l2, hs0, ms, clock, hself, hr.1, fun k h1 h2 => ⟨(hr.2 k h1 h2).1, (hr.2 k h1 h2).2.mono ev⟩⟩
    · rename_i hid
      obtain ⟨b', s', q1, q2, q3⟩ := h.live i c e
      have hbb : b' ≠ b := fun eb => by subst eb; exact hid (h.inj i id c _ b' s' s e hm q1 hl)
      exact ⟨b', s', q1, q2, q3.keep ev (hne b' hbb) (fun _ h => h)⟩
  · obtain ⟨d1, E1⟩ := sub i c1 e1
    obtain ⟨d2, E2⟩ := sub i' c2 e2
    exact h.inj i i' d1 d2 b' s1 s2 E1 E2 q1 q2
/-- A key's place. -/
def findA (d : TypeDesc) (k : Value) : List (Value × AV) → Nat → Option (Option (Nat × AV))
  | [], _ => some none
  | (k', a) :: es, i => match Instr.sameNow d k k' with
    | some true => some (some (i, a))
    | some false => findA d k es (i + 1)
    | none => none
theorem MapR.tail {γ : Gh} {w : World} {k : Value} {a : AV} {es : List (Value × AV)} {m : MapEntry} {ms : List MapEntry} (h : MapR γ w ((k, a) :: es) (m :: ms)) : m.key = k ∧ VR γ w a m.val ∧ MapR γ w es ms := by
  have h0 := h.2 0 (by simp) (by simp)
  exact ⟨h0.1, h0.2, by simpa using h.1, fun j h1 h2 => h.2 (j + 1) (by simpa using h1) (by simpa using h2)⟩
theorem findA_sound {γ : Gh} {w : World} {d : TypeDesc} {k : Value} : ∀ {es : List (Value × AV)} {ms : List MapEntry} {i : Nat} {r : Option (Nat × AV)}, MapR γ w es ms → findA d k es i = some r →
    (r = none ∧ Instr.findNow d k ms i = some none) ∨ ∃ j a v, r = some (i + j, a) ∧ Instr.findNow d k ms i = some (some (i + j, v)) ∧ VR γ w a v ∧ (∃ k', es[j]? = some (k', a) ∧ Instr.sameNow d k k' = some true)
  | [], ms, i, r, hm, h => by
    have : ms = [] := List.eq_nil_of_length_eq_zero hm.1
    subst this
    injection h with h
    exact .inl ⟨h.symm, rfl⟩
  | (k', a) :: es, ms, i, r, hm, h => by
    cases ms with
    | nil => have := hm.1; simp at this
    | cons m ms =>
    obtain ⟨h1, h2, h3⟩ := hm.tail
    unfold findA at h
    split at h
    · rename_i hs
      injection h with h
      exact .inr ⟨0, a, m.val, by simpa using h.symm, by simp [Instr.findNow, h1, hs], h2, k', rfl, hs⟩
    · rename_i hs
      rcases findA_sound h3 h with ⟨e1, e2⟩ | ⟨j, a', v, e1, e2, e3, k2, e4, e5⟩
      · exact .inl ⟨e1, by simp [Instr.findNow, h1, hs, e2]⟩
      · exact .inr ⟨j + 1, a', v, by rw [e1]; congr 2; omega, by simp [Instr.findNow, h1, hs, e2]; omega, e3, k2, by simpa using e4, e5⟩
    · cases h
def plainKey : TypeDesc → Bool
  | .string => true
  | .int _ => true
  | .bool => true
  | _ => false
theorem checkKey_run {t : TypeId} {d : TypeDesc} (hu : P.underlying t = some d) (hd : plainKey d = true) (e : Bool) (n : Nat) (v : Value) (w : World) : (Instr.checkKey e (n + 1) t v).run P w = .ok () w := by
  cases d <;> first | (cases hd; done) | simp [Instr.checkKey, run_underlying hu]
def mapT (P : Program) (t : TypeId) : Option (TypeId × TypeDesc × TypeId) := match P.underlying t with
  | some (.map k e) => match P.underlying k with
    | some d => if plainKey d then some (k, d, e) else none
    | none => none
  | _ => none
theorem mapT_spec {t k e : TypeId} {d : TypeDesc} (h : mapT P t = some (k, d, e)) : P.underlying t = some (.map k e) ∧ P.underlying k = some d ∧ plainKey d = true := by
  unfold mapT at h
  split at h
  · rename_i k' e' hu
    split at h
    · rename_i d' hd
      split at h
      · rename_i hp
        injection h with h; injection h with h1 h2; injection h2 with h2 h3; subst h1; subst h2; subst h3
        exact ⟨hu, hd, hp⟩
      · cases h
    · cases h
  · cases h
def entriesA (S : St) : AV → Option (List (Value × AV))
  | .nilm => some []
  | .map id => match S.mem.get id with
    | some (.mp es) => some es
    | _ => none
  | _ => none
def oLookup (P : Program) (S : St) (t : TypeId) (m k : AV) (ok : Bool) : Option AV :=
  match mapT P t, entriesA S m, toVal 8 k with
  | some (kt, d, et), some es, some kv => match findA d kv es 0 with
    | some (some (_, a)) => some (if ok then .tup [a, .v (.bool true)] else a)
    | some none => match zeroA P et with
      | some z => some (if ok then .tup [z, .v (.bool false)] else z)
      | none => none
    | none => none
  | _, _, _ => none
theorem vr_pair {γ : Gh} {w : World} {a : AV} {v : Value} (h : VR γ w a v) (b : Bool) : VR γ w (.tup [a, .v (.bool b)]) (.tuple #[v, .bool b]) := by
  have := VRL.cons h (VRL.cons (.v (.bool b) rfl) (VRL.nil γ w))
  exact .tup [a, .v (.bool b)] [v, .bool b] this.1 this.2
theorem oLookup_sound {γ : Gh} {S : St} {w : World} (hS : SR base w0 γ S w) {t : TypeId} {m k : AV} {vm vk : Value} (hm : VR γ w m vm) (hk : VR γ w k vk) {ok : Bool} {r : AV} (ho : oLookup P S t m k ok = some r) : OkV P base w0 γ S w (Instr.lookup t vm vk ok) r S := by
  unfold oLookup at ho
  split at ho
  · rename_i kt d et es kv ht hes hkv
    obtain ⟨u1, u2, u3⟩ := mapT_spec ht
    have hkk := toVal_sound hkv hk
    subst hkk
    have key : ∃ ms : Array MapEntry, MapR γ w es ms.toList ∧ ((vm = .map none ∧ ms = #[]) ∨ ∃ b clock, vm = .map (some b) ∧ w.heap[b]? = some (.map ms clock)) := by
      unfold entriesA at hes
      split at hes
      · injection hes with hes; subst hes
        cases hm
        exact ⟨#[], ⟨rfl, fun _ h => by cases h⟩, .inl ⟨rfl, rfl⟩⟩
      · rename_i id
        split at hes
        · rename_i es' hme
          injection hes with hes; subst hes
          cases hm with
          | map _ b s hl =>
          obtain ⟨b2, s2, l1, l2, l3⟩ := hS.live id _ hme
          rw [hl] at l1; injection l1 with l1; injection l1 with e1 e2; subst e1; subst e2
          obtain ⟨_, ms, clock, ha, hr⟩ := l3
          exact ⟨ms, hr, .inr ⟨b, clock, rfl, ha⟩⟩
        · cases hes
      · cases hes
    obtain ⟨ms, hmr, hcase⟩ := key
    have hck := fun e => checkKey_run (P := P) u2 u3 e 9999 vk w
    split at ho
    · rename_i j a hfa
      injection ho with ho; subst ho
      rcases findA_sound hmr hfa with ⟨e1, e2⟩ | ⟨j', a', v, e1, e2, e3, _⟩
      · cases e1
      · injection e1 with e1; injection e1 with e11 e12; subst e12
        have hfk : (Instr.findKey kt vk ms.toList).run P w = .ok (some (0 + j', v)) w := by
          simp only [Instr.findKey, Sem.run_bind, run_underlying u2, Result.andThen_ok, e2, Sem.run_pure]
        have hr : (Instr.lookup t vm vk ok).run P w = .ok (if ok then .tuple #[v, .bool true] else v) w := by
          rcases hcase with ⟨rfl, rfl⟩ | ⟨b, clock, rfl, hb⟩
          · have hfk' := hfk
            simp only [Array.toList_empty] at hfk'
            simp [Instr.lookup, run_underlying u1, hck, hfk']
          · simp [Instr.lookup, run_underlying u1, getMap_run hb, hck, hfk]
        refine OkV.pure hS hr ?_
        cases ok
        · exact e3
        · exact vr_pair e3 true
    · rename_i hfa
      split at ho
      · rename_i z hz
        injection ho with ho; subst ho
        obtain ⟨zv, hzr, hzv⟩ := zeroA_sound (γ := γ) (w := w) hz
        rcases findA_sound hmr hfa with ⟨e1, e2⟩ | ⟨j', a', v, e1, _⟩
        · have hfk : (Instr.findKey kt vk ms.toList).run P w = .ok none w := by
            simp only [Instr.findKey, Sem.run_bind, run_underlying u2, Result.andThen_ok, e2, Sem.run_pure]
          have hr : (Instr.lookup t vm vk ok).run P w = .ok (if ok then .tuple #[zv, .bool false] else zv) w := by
            rcases hcase with ⟨rfl, rfl⟩ | ⟨b, clock, rfl, hb⟩
            · have hfk' := hfk
              simp only [Array.toList_empty] at hfk'
              simp [Instr.lookup, run_underlying u1, hck, hfk', hzr]
            · simp [Instr.lookup, run_underlying u1, getMap_run hb, hck, hfk, hzr]
          refine OkV.pure hS hr ?_
          cases ok
          · exact hzv
          · exact vr_pair hzv false
        · cases e1
      · cases ho
    · cases ho
  · cases ho
end Go.Ax
