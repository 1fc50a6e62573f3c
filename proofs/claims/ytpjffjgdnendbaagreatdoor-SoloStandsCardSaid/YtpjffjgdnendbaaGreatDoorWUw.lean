/-
  A region in which a row of values is made that is stored into later.
-/
import Derived.Test.YtpjffjgdnendbaaGreatDoorWUd
noncomputable section
namespace Go.Ax
open Go.RowKit
set_option linter.unusedVariables false
set_option linter.unusedSimpArgs false
section
variable {P : Program} {base : Nat} {w0 : World}
def oBuildBox (P : Program) (S : St) (t : TypeId) (len : Nat) (parts : List (Nat × AV)) : Option (AV × St) :=
  match elemT P t with
  | some (none, e) => match sizeT P e, zeroA P e with
    | some (k + 1), some _ => if (parts.map (·.1) == List.range len) && (parts.all fun p => p.2.noTup && p.2.cells.length == k + 1) && decide (len * (k + 1) ≤ 16777216) then some (.bs S.next 0 len (k + 1), S.newBox (flat (parts.map (·.2)))) else none
    | _, _ => none
  | _ => none
theorem oBuildBox_sound {γ : Gh} {S : St} {w : World} (h : SR base w0 γ S w) {t : TypeId} {len : Nat} {parts : List (Nat × AV)} {vs : Array (Nat × Value)} (hi : vs.toList.map (·.1) = parts.map (·.1)) (hv : VRL γ w (parts.map (·.2)) (vs.toList.map (·.2))) {r : AV} {S' : St} (ho : oBuildBox P S t len parts = some (r, S')) :
    OkV P base w0 γ S w (Instr.buildSlice t len vs) r S' := by
  unfold oBuildBox at ho
  split at ho
  · rename_i e he
    have hu := elemT_slice he
    split at ho
    · rename_i k z hk hz
      split at ho
      · rename_i hc
        simp only [Bool.and_eq_true, beq_iff_eq, decide_eq_true_eq] at hc
        obtain ⟨⟨hr, hall⟩, hsz⟩ := hc
        injection ho with ho; injection ho with ho1 ho2; subst ho1; subst ho2
        obtain ⟨zv, hzr, hzv⟩ := zeroA_sound (γ := γ) (w := w) hz
        have hpl : parts.length = len := by have := congrArg List.length hr; simpa using this
        have hcell : ∀ p ∈ parts, p.2.noTup = true ∧ p.2.cells.length = k + 1 := fun p hp => by simpa using List.all_eq_true.1 hall p hp
        have hes : ∀ x ∈ parts.map (·.2), x.cells.length = k + 1 := fun x hx => by
          obtain ⟨p, hp, rfl⟩ := List.mem_map.1 hx; exact (hcell p hp).2
        have hnt : (parts.map (·.2)).all AV.noTup = true := List.all_eq_true.2 fun x hx => by
          obtain ⟨p, hp, rfl⟩ := List.mem_map.1 hx; exact (hcell p hp).1
        have hvl : (vs.toList.map (·.2)).length = len := by rw [hv.1]; simpa using hpl
        have hvs : ∀ u ∈ vs.toList.map (·.2), u.cells.size = k + 1 := fun u hu => by
          obtain ⟨j, hj, rfl⟩ := List.getElem_of_mem hu
          have hj2 : j < (parts.map (·.2)).length := by rw [← hv.1]; exact hj
          have h1 := (hv.2 j hj2 hj).cells.1
          rw [hes _ (List.getElem_mem hj2)] at h1
          simpa using h1
        have hzip := zip_range vs.toList 0 (by
          rw [hi, hr, List.range_eq_range']
          congr 1
          simpa using hvl.symm)
        obtain ⟨Z, hZ⟩ : ∃ Z : Array Value, Z = (Array.range (len * (k + 1))).map (fun i => (if len * (k + 1) = 0 then #[] else zv.cells : Array Value)[i % (if len * (k + 1) = 0 then #[] else zv.cells : Array Value).size]!) := ⟨_, rfl⟩
        have hZs : Z.size = len * (k + 1) := by rw [hZ]; simp
        obtain ⟨ys, e1, e2⟩ := fill_seq (k + 1) (vs.toList.map (·.2)) 0 Z hvs (by rw [hvl, hZs]; simp)
        rw [← hzip] at e1
        have hfr := cells_flat hv
        have hfl : (flat (parts.map (·.2))).length = len * (k + 1) := by rw [flat_length hes]; simp [hpl]
        have hys : ys.toList = (vs.toList.map (·.2)).flatMap fun v => v.cells.toList := by
          rw [e2]
          unfold splice
          have : ((vs.toList.map (·.2)).flatMap fun v => v.cells.toList).length = len * (k + 1) := by rw [hfr.1, hfl]
          rw [Nat.zero_mul, List.take_zero, List.nil_append, Nat.zero_add, this, List.drop_eq_nil_of_le (by rw [Array.length_toList, hZs]; exact Nat.le_refl _), List.append_nil]
        have hyl : ys.size = len * (k + 1) := by rw [← Array.length_toList, hys, hfr.1, hfl]
        have hys2 : VRL γ w (flat (parts.map (·.2))) ys.toList := by rw [hys]; exact hfr
        obtain ⟨k1, k2⟩ := h.newBox e hys2 (ones_flat hv hnt)
        rw [Array.toArray_toList] at k1 k2
        have hx : Ext γ S w _ (S.newBox (flat (parts.map (·.2)))) (w.alloc (.cells ys e)) := Ext.newBox h (.cells ys e) _
        refine ⟨.slice (some ⟨w.heap.size, 0, none⟩) len len, w.alloc (.cells ys e), γ.withLoc S.next w.heap.size 0, ?_, k1, hx, ?_⟩
        · have h24 : ¬ (16777216 < len * (k + 1)) := by omega
          by_cases h0 : len * (k + 1) = 0
          · rw [if_pos h0] at hZ
            have hl0 : len = 0 := by
              rcases Nat.mul_eq_zero.1 h0 with h | h
              · exact h
              · omega
            subst hl0
            simp at hZ
            subst hZ
            simp [Instr.buildSlice, run_underlying hu, sizeT_run hk, e1, newRow]
          · rw [if_neg h0] at hZ
            have hl0 : ¬ len = 0 := fun e => h0 (by rw [e, Nat.zero_mul])
            have e1' := e1
            rw [hZ] at e1'
            simp [Instr.buildSlice, run_underlying hu, sizeT_run hk, h24, hl0, hzr, e1', newRow]
            exact fun hq => absurd hq h0
        · exact .bs S.next 0 len (k + 1) w.heap.size 0 len (by show (if S.next = S.next then _ else _) = _; rw [if_pos rfl]) (Nat.le_refl _) (Nat.succ_pos _) ⟨ys, e, (0, 0), heap_alloc_new w _, by omega⟩
      · cases ho
    · cases ho
  · cases ho
end
def exec1B (E : Env) (f : T AV) (S : St) (o : Oper) : OR := match o.op with
  | .buildSlice t len parts => match partsA E.G f parts.toList with
    | some ps => ofOptS (oBuildBox E.P S t len ps)
    | none => .fail
  | _ => exec1 E f S o
section
variable {E : Env} {base : Nat} {w0 : World} {γ : Gh} {S : St} {w : World} {f : T AV} {act : Act} {o : Oper}
theorem exec1B_sound (hE : E.Ok) (hS : SR base w0 γ S w) (hf : FR γ w f act.tmps) (hg : GR γ w E.G) : OkO E base w0 γ S w act o (exec1B E f S o) := by
  unfold exec1B
  split
  · rename_i t len parts ho
    split
    · rename_i ps hps
      obtain ⟨h1, h2⟩ := partsA_sound hf hg hps
      exact OkO.ofOptS (s := Instr.buildSlice t len (parts.map fun (i, x) => (i, act.eval x))) (by simp only [execOp, ho]) fun a S' h => oBuildBox_sound hS (by simpa using h1) (by simpa using h2) h
    · trivial
  · exact exec1_sound hE hS hf hg
end
def stepOB (E : Env) (callK : CallK) (n : Nat) (ops : Array Oper) (o : Oper) (f : Fr) (S : St) : O :=
  match wantedA ops o f.tmps with
  | none => .fail
  | some false => putA n f o.dst (.tup []) S
  | some true => match exec1B E f.tmps S o with
    | .val a S' => putA n f o.dst a S'
    | .skip S' => putA n f o.dst (.tup []) S'
    | .enter k args S' => match callK k args S' with
      | .ret a S'' => putA n f o.dst a S''
      | .pan a S'' => .out (.pan a) f S''
      | .fail => .fail
    | .dfr fn caps args S' => putA n { f with dfr := ⟨fn, caps, args⟩ :: f.dfr } o.dst (.tup []) S'
    | .pan a S' => .out (.pan a) f S'
    | .fail => .fail
section
variable {E : Env} {base : Nat} {w0 : World} {Q : Exit → Act → World → Prop}
theorem stepOB_sound (hE : E.Ok) {callK : CallK} (hC : CallOk E base w0 callK) {γ : Gh} {S : St} {w : World} {n : Nat} {ops : Array Oper} {o : Oper} {f : Fr} {act : Act} (hS : SR base w0 γ S w) (ha : AR γ w n f act) (hg : GR γ w E.G)
    {K : Act → World → Prop} (hH : Holds base w0 n γ S w (fun x a w => match x with | .normal => K a w | x => Q x a w) (stepOB E callK n ops o f S)) :
    if Region.wanted o (yielded ops act.tmps) then o.wp E.P act w K Q else K (act.put o.dst undef) w := by
  unfold stepOB at hH
  split at hH
  · exact hH.elim
  · rename_i hw
    rw [wantedA_sound ha hw, if_neg (by simp)]
    exact put_holds (v := undef) hH hS (.refl _ _ _) ha (by have := VR.tup (γ := γ) (w := w) [] [] rfl (fun k h => by cases h); exact this)
  · rename_i hw
    rw [wantedA_sound ha hw, if_pos rfl]
    have hex := exec1B_sound (o := o) hE hS ha.tmps hg
    have hund : ∀ {γ' : Gh} {w' : World}, VR γ' w' (.tup []) undef := fun {γ'} {w'} => by have := VR.tup (γ := γ') (w := w') [] [] rfl (fun k h => by cases h); exact this
    unfold Oper.wp
    split at hH
    · rename_i a S' he
      rw [he] at hex
      obtain ⟨v, w', γ', hr, h1, h2, h3⟩ := hex
      rw [hr]
      exact put_holds hH h1 h2 (ha.mono h2.ev) h3
    · rename_i S' he
      rw [he] at hex
      obtain ⟨w', γ', hr, h1, h2⟩ := hex
      rw [hr]
      exact put_holds hH h1 h2 (ha.mono h2.ev) hund
    · rename_i k args S' he
      rw [he] at hex
      obtain ⟨rfl, hF, vs, hr, h3⟩ := hex
      rw [hr]
      have hne : callK k args S' ≠ .fail := fun e => by rw [e] at hH; exact hH.elim
      refine (hC k args S' hne γ w vs hS hg h3 hF).mono fun e w' hret => ?_
      unfold RetOk at hret
      split at hret
      · rename_i a S'' hk
        rw [hk] at hH
        obtain ⟨γ', v, k1, k2, k3, rfl⟩ := hret
        exact put_holds hH k1 k2 (ha.mono k2.ev) k3
      · rename_i a S'' hk
        rw [hk] at hH
        obtain ⟨γ', v, k1, k2, k3, rfl⟩ := hret
        exact hH γ' act w' k1 k2 (ha.mono k2.ev) v k3
      · exact hret.elim
    · rename_i fn caps args S' he
      rw [he] at hex
      obtain ⟨rfl, cv, av, hr, h1, h2⟩ := hex
      rw [hr]
      exact put_holds (act := { act with defers := { target := .fn fn cv.toArray, args := av.toArray } :: act.defers }) hH hS (.refl _ _ _) ⟨ha.tmps, ha.size, ⟨cv, av, rfl, h1, h2⟩, ha.dfr⟩ hund
    · rename_i a S' he
      rw [he] at hex
      obtain ⟨rfl, v, hr, hv⟩ := hex
      rw [hr]
      exact hH γ act w hS (.refl _ _ _) ha v hv
    · exact hH.elim
/-- Operations in a row. -/
def runLB (E : Env) (callK : CallK) (n : Nat) (ops : Array Oper) : List Oper → Fr → St → O
  | [], f, S => .out .normal f S
  | o :: rest, f, S => match stepOB E callK n ops o f S with
    | .out .normal f' S' => runLB E callK n ops rest f' S'
    | r => r
theorem runLB_sound (hE : E.Ok) {callK : CallK} (hC : CallOk E base w0 callK) {n : Nat} {ops : Array Oper} : ∀ (l : List Oper) (γ : Gh) (S : St) (w : World) (f : Fr) (act : Act), SR base w0 γ S w → AR γ w n f act → GR γ w E.G →
    Holds base w0 n γ S w Q (runLB E callK n ops l f S) → wpList E.P ops Q l act w
  | [], γ, S, w, f, act, hS, ha, hg, hH => hH γ act w hS (.refl _ _ _) ha
  | o :: rest, γ, S, w, f, act, hS, ha, hg, hH => by
    refine wpList_step fun K hK => ?_
    refine stepOB_sound hE hC hS ha hg ?_
    unfold runLB at hH
    split at hH
    · rename_i f' S' hs
      rw [hs]
      intro γ' act' w' h1 h2 h3
      exact hK _ _ (runLB_sound hE hC rest γ' S' w' f' act' h1 h3 (hg.mono h2.ev) (hH.later h2))
    · rename_i r hr
      cases hst : stepOB E callK n ops o f S with
      | fail => rw [hst] at hH; exact hH.elim
      | out e f' S' =>
        rw [hst] at hH
        intro γ' act' w' h1 h2 h3
        have := hH γ' act' w' h1 h2 h3
        cases e with
        | normal => exact absurd hst (hr f' S')
        | exit id => exact this
        | ret => exact this
        | pan a => exact this
end
theorem noCalls (E : Env) (base : Nat) (w0 : World) : CallOk E base w0 (fun _ _ _ => .fail) := fun k args S h => absurd rfl h
/-- A region of such operations, without calls. -/
theorem region_B {E : Env} (hE : E.Ok) (hG : E.G = fun _ => none) {n id : Nat} {ops : Array Oper} {f f' : T AV} {S S' : St} (h : runLB E (fun _ _ _ => .fail) n ops ops.toList ⟨f, []⟩ S = .out .normal ⟨f', []⟩ S') {Q : Exit → Act → World → Prop} {K : Act → World → Prop} {act : Act} {γ : Gh} {base : Nat} {w0 w : World}
    (hS : SR base w0 γ S w) (hf : FR γ w f act.tmps) (hn : act.tmps.size = n) (hd : act.defers = [])
    (hQ : ∀ act' w' γ', act'.tmps.size = n → act'.defers = [] → SR base w0 γ' S' w' → FR γ' w' f' act'.tmps → K act' w') : (Code.region id ops false).wp E.P (Exit.then K Q) act w := by
  refine wp_region_list (runLB_sound (Q := Exit.then K Q) hE (noCalls E base w0) _ γ S w ⟨f, []⟩ act hS ⟨hf, hn, by rw [hd]; trivial⟩ (by rw [hG]; exact GR.none) ?_)
  rw [h]
  intro γ' act' w' h1 h2 h3
  have hd' : act'.defers = [] := by
    have hdd := h3.dfr
    cases hx : act'.defers with
    | nil => rfl
    | cons a r => rw [hx] at hdd; exact hdd.elim
  exact hQ act' w' γ' h3.size hd' h1 h3.tmps
/-- Code that is known to end so: whatever may come of it. -/
theorem codeWg {E : Env} (hE : E.Ok) (hI : IntrOk E) (hmix : E.P.follows .mixedOrders = true) (hG : E.G = fun _ => none) {n : Nat} {c : Code} {f : T AV} {S : St} {R : O → Prop}
    (h : W E n c ⟨f, []⟩ S R) {Q : Exit → Act → World → Prop} {act : Act} {γ : Gh} {base : Nat} {w0 w : World} (hS : SR base w0 γ S w) (hf : FR γ w f act.tmps) (hn : act.tmps.size = n) (hd : act.defers = [])
    (hQ : ∀ r, R r → Holds base w0 n γ S w Q r) : c.wp E.P Q act w := by
  obtain ⟨r, ⟨m0, hm⟩, hr⟩ := W_sound h
  refine (run_sound hE hI (drawnNew_ok hE hmix) m0).code base w0 Q n c γ S w ⟨f, []⟩ act hS ⟨hf, hn, by rw [hd]; trivial⟩ (by rw [hG]; exact GR.none) ?_
  rw [hm m0 (Nat.le_refl _)]
  exact hQ r hr
theorem dfr_nil {γ : Gh} {w : World} {n : Nat} {f : T AV} {act : Act} (h : AR γ w n ⟨f, []⟩ act) : act.defers = [] := by
  have hdd := h.dfr
  cases hx : act.defers with
  | nil => rfl
  | cons a r => rw [hx] at hdd; exact hdd.elim
end Go.Ax
