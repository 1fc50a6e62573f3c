/-
  The model does what the abstract run does, whatever the code.
-/
import Derived.Test.YtjgknelmjdallaaGreatDoorFcM
import Derived.Recover
noncomputable section
namespace Go.Ax
open Go.RowKit
set_option linter.unusedVariables false
set_option linter.unusedSimpArgs false
/-- A loop, from its head on. -/
def LWp (P : Program) (c : Code) (Q : Exit → Act → World → Prop) (a : Act) (w : World) : Prop :=
  ∀ (b : Frame) (k : List Item) (cs : List Frame), ∃ e a' w', Q e a' w' ∧ Arrives P (lone (b.at a (.code c :: .inLoop c :: k)) cs w) b k cs e a' w'
theorem LWp.loop {P : Program} {c : Code} {Q : Exit → Act → World → Prop} {a : Act} {w : World} (h : LWp P c Q a w) : (Code.loop c).wp P Q a w := fun b k cs => by
  obtain ⟨e, a', w', hq, harr⟩ := h b k cs
  exact ⟨e, a', w', hq, .of_steps (.one step_loop) harr⟩
theorem LWp.round {P : Program} {c : Code} {Q : Exit → Act → World → Prop} {a : Act} {w : World} (h : c.wp P (Exit.then (LWp P c Q) Q) a w) : LWp P c Q a w := fun b k cs => by
  obtain ⟨e, a₁, w₁, hq, harr⟩ := h b (.inLoop c :: k) cs
  cases e with
  | normal =>
    obtain ⟨e₂, a₂, w₂, hq₂, harr₂⟩ := hq b k cs
    exact ⟨e₂, a₂, w₂, hq₂, .of_steps (Steps.trans harr (.one step_inLoop)) harr₂⟩
  | exit id => exact ⟨_, a₁, w₁, hq, .pass (x := .inLoop c) rfl (fun _ _ => .inl (by simp)) harr⟩
  | goto l => exact ⟨_, a₁, w₁, hq, .pass (x := .inLoop c) rfl (fun _ _ => .inl (by simp)) harr⟩
  | ret => exact ⟨_, a₁, w₁, hq, .pass (x := .inLoop c) rfl (fun _ _ => .inl (by simp)) harr⟩
  | panic ch => exact ⟨_, a₁, w₁, hq, .pass (x := .inLoop c) rfl (fun _ _ => .inl (by simp)) harr⟩
  | outgrown => exact ⟨_, a₁, w₁, hq, .pass (x := .inLoop c) rfl (fun _ _ => .inl (by simp)) harr⟩
structure CodeOk (E : Env) (rec : Nat → Code → Fr → St → O) : Prop where
  code : ∀ (base : Nat) (w0 : World) (Q : Exit → Act → World → Prop) (n : Nat) (c : Code) (γ : Gh) (S : St) (w : World) (f : Fr) (act : Act), SR base w0 γ S w → AR γ w n f act → GR γ w E.G → Holds base w0 n γ S w Q (rec n c f S) → c.wp E.P Q act w
  loop : ∀ (base : Nat) (w0 : World) (Q : Exit → Act → World → Prop) (n : Nat) (c : Code) (γ : Gh) (S : St) (w : World) (f : Fr) (act : Act), SR base w0 γ S w → AR γ w n f act → GR γ w E.G → Holds base w0 n γ S w Q (rec n (.loop c) f S) → LWp E.P c Q act w
section
variable {E : Env}
theorem initT_get : ∀ (l : List AV) (k t : Nat), (initT l k).get t = if t < k then none else l[t - k]?
  | [], k, t => by simp [initT, T.get_leaf]
  | a :: r, k, t => by
    unfold initT
    rw [T.get_set, initT_get r (k + 1) t]
    by_cases h : t = k
    · subst h; simp
    · by_cases h2 : t < k
      · simp [h, h2, show t < k + 1 by omega]
      · rw [if_neg h, if_neg (by omega), if_neg h2, show t - k = (t - (k + 1)) + 1 by omega]; rfl
theorem initT_FR {γ : Gh} {w : World} {args : List AV} {vs : List Value} (h : VRL γ w args vs) (n : Nat) : FR γ w (initT args 0) (vs.toArray ++ Array.replicate (n - vs.toArray.size) undef) := fun t a ht => by
  rw [initT_get] at ht
  simp at ht
  obtain ⟨y, hy, hv⟩ := h.get ht
  obtain ⟨hlt, hye⟩ := List.getElem?_eq_some_iff.1 hy
  refine ⟨by simp; omega, ?_⟩
  rw [Array.getD_eq_getD_getElem?, Array.getElem?_append_left (by simpa using hlt)]
  simpa [hlt, hye] using hv
def resM (tmps : Array Value) : ResultVar → Sem Value
  | .tmp t => pure (tmps.getD t undef)
  | .cell a t => do loadVar t (← asAddr (tmps.getD a undef))
theorem resultsA_run {base : Nat} {w0 : World} {γ : Gh} {S : St} {w : World} (hS : SR base w0 γ S w) {f : T AV} {tmps : Array Value} (hf : FR γ w f tmps) : ∀ {rs : List ResultVar} {l : List AV}, resultsA E f S rs = some l →
    ∃ vs : List Value, (rs.mapM (resM tmps)).run E.P w = .ok vs w ∧ VRL γ w l vs
  | [], l, h => by injection h with h; subst h; exact ⟨[], rfl, VRL.nil γ w⟩
  | .tmp t :: r, l, h => by
    unfold resultsA at h
    split at h
    · rename_i a l' ha hl
      injection h with h; subst h
      obtain ⟨vs, hv, hr⟩ := resultsA_run hS hf hl
      exact ⟨_, by simp [List.mapM_cons, resM, hv], VRL.cons (hf t a ha).2 hr⟩
    · cases h
  | .cell x t :: r, l, h => by
    unfold resultsA at h
    split at h
    · rename_i a ha
      split at h
      · rename_i b l' hb hl
        injection h with h; subst h
        obtain ⟨vs, hv, hr⟩ := resultsA_run hS hf hl
        have hx := (hf x a ha).2
        have hbe : ∃ cs, behind S a = some cs := by
          unfold oLoad at hb
          split at hb
          · cases hb
          · rename_i cs hcs; exact ⟨cs, hcs⟩
        obtain ⟨cs, hcs⟩ := hbe
        obtain ⟨bb, o, xs, hp, _, _, _⟩ := behind_sound hS hx hcs
        obtain ⟨v, hrun, hvr⟩ := oLoad_same (P := E.P) hS hx hb
        rw [hp] at hrun
        simp [Instr.loadAt, Instr.sureAddr] at hrun
        exact ⟨v :: vs, by simp [List.mapM_cons, resM, hp, asAddr, hrun, hv], VRL.cons hvr hr⟩
      · cases h
    · cases h
theorem results_run {base : Nat} {w0 : World} {γ : Gh} {S : St} {w : World} (hS : SR base w0 γ S w) {f : T AV} {tmps : Array Value} (hf : FR γ w f tmps) {fn : Func} {l : List AV} (h : resultsA E f S fn.results.toList = some l) :
    ∃ v, (results fn tmps).run E.P w = .ok v w ∧ VR γ w (tupA l) v := by
  obtain ⟨vs, hv, hr⟩ := resultsA_run hS hf h
  have e : results fn tmps = (do let vs ← fn.results.mapM (resM tmps); pure (if h : vs.size = 1 then vs[0] else .tuple vs)) := by
    unfold results
    rfl
  refine ⟨if h : vs.toArray.size = 1 then vs.toArray[0] else .tuple vs.toArray, ?_, ?_⟩
  · rw [e, Array.mapM_eq_mapM_toList]
    simp [hv]
  · unfold tupA
    split
    · rename_i a
      obtain ⟨x, xs, rfl, hx, hxs⟩ := hr.head
      have : xs = [] := List.eq_nil_of_length_eq_zero hxs.1
      subst this
      simpa using hx
    · rename_i l' hne
      have hl : ¬ vs.length = 1 := fun h1 => by
        rw [hr.1] at h1
        obtain ⟨a, ha⟩ := List.length_eq_one_iff.1 h1
        exact hne a ha
      rw [dif_neg (by simpa using hl)]
      exact .tup l vs hr.1 hr.2
theorem DfrL.nil_inv {γ : Gh} {w : World} {ms : List Deferred} (h : DfrL γ w [] ms) : ms = [] := by
  cases ms with
  | nil => rfl
  | cons m ms => exact h.elim
theorem giveA_sound {base : Nat} {w0 : World} {γ : Gh} {S : St} {w : World} (hS : SR base w0 γ S w) {f : T AV} {tmps : Array Value} (hf : FR γ w f tmps) {fn : Func} (h : giveA E fn f S ≠ .fail) :
    ∃ a v, giveA E fn f S = .ret a S ∧ (results fn tmps).run E.P w = .ok v w ∧ VR γ w a v := by
  unfold giveA at h ⊢
  split
  · rename_i l hl
    obtain ⟨v, h1, h2⟩ := results_run hS hf hl
    exact ⟨_, v, rfl, h1, h2⟩
  · rename_i hl; rw [hl] at h; exact absurd rfl h
/-- How a frame stands when a deferred call is made. -/
def ModeR (γ : Gh) (w : World) : Option AV → FrameMode → FrameMode → Prop
  | none, u, u' => u = .returning ∧ u' = .returning
  | some a, u, u' => ∃ v, VR γ w a v ∧ u = .panicking [{ v, recovered := false }] ∧ u' = .panicking [{ v, recovered := true }]
theorem dfrA_sound {rec : Nat → Code → Fr → St → O} (hE : E.Ok) (hR : CodeOk E rec) (base : Nat) (w0 : World) {k : FuncId} {args : List AV} {S S' : St} {m : Option AV} {b : Bool} (h : dfrA E rec k args S m = .ok b S') {γ : Gh} {w : World} {vs : List Value}
    (hS : SR base w0 γ S w) (hg : GR γ w E.G) (hv : VRL γ w args vs) {u u' : FrameMode} (hu : ModeR γ w m u u') :
    ∃ fn body, E.P.funcs[k]? = some fn ∧ (fn.name == "runtime.NumGoroutine") = false ∧ fn.body = some body ∧ CallsD E.P k vs.toArray u w fun e u2 w' => ∃ γ', SR base w0 γ' S' w' ∧ Ext γ S w γ' S' w' ∧ (∃ v, e = .returned v) ∧ u2 = u' := by
  unfold dfrA at h
  split at h
  · cases h
  · rename_i fn hfn
    obtain ⟨h1, h2, _⟩ := hE.fn k fn hfn
    split at h
    · rename_i id ops rest hbody
      split at h
      · rename_i o hops
        split at h
        · rename_i d hd
          split at h
          · rename_i hlen
            have hops2 : ops = #[o] := list1 hops
            subst hops2
            have hrec : o.guard = none ∧ o.dst = some d ∧ ∃ c, o.op = .call c ∧ c.callee = .builtin .recover := by
              unfold isRecover at hd
              split at hd
              · rename_i c hc
                split at hd
                · rename_i hcal
                  split at hd
                  · rename_i hgn
                    exact ⟨by simpa using hgn, hd, c, hc, hcal⟩
                  · cases hd
                · cases hd
              · cases hd
            obtain ⟨hgu, hdst, c, hop, hcal⟩ := hrec
            split at h
            · rename_i e f' S2 hrun
              have hend : f'.dfr = [] ∧ fn.results.toList = [] ∧ (e = .normal ∨ e = .ret) ∧ S2 = S' := by
                split at h
                · rename_i e1 e2; injection h with _ h3; exact ⟨e1, e2, .inl rfl, h3⟩
                · rename_i e1 e2; injection h with _ h3; exact ⟨e1, e2, .inr rfl, h3⟩
                · cases h
              obtain ⟨q1, q2, q3, rfl⟩ := hend
              refine ⟨fn, _, h1, h2, hbody, callsD_of_wpS h1 hbody fun c₀ cs hc₀ => ?_⟩
              refine wpS_seq (wpS_region ?_)
              have hexec : ∀ (ρ : Operand → Value), (execOp ρ o).run E.P w = .ok .recover w := fun ρ => by
                simp [execOp, hop, resolve, hcal, invoke, builtin]
              -- what recover answers
              have hans : ∃ v cs', (match recoverD (c₀ :: cs) with | some (v, cs') => (v, cs') | none => (Value.nilIface, c₀ :: cs)) = (v, cs') ∧ VR γ w (m.getD (.v .nilIface)) v ∧ cs' = { c₀ with mode := u' } :: cs := by
                cases m with
                | none =>
                  obtain ⟨rfl, rfl⟩ := hu
                  refine ⟨.nilIface, c₀ :: cs, by simp [recoverD, hc₀], .v _ rfl, ?_⟩
                  rw [← hc₀]
                | some a =>
                  obtain ⟨v, hv1, rfl, rfl⟩ := hu
                  exact ⟨v, _, by simp only [recoverD, hc₀], hv1, rfl⟩
              obtain ⟨v, cs', hm1, hm2, hm3⟩ := hans
              have hgoal : ∀ (Q : Exit → Act → List Frame → World → Prop) (act : Act), Q .normal (act.put o.dst v) cs' w → wpOpsS E.P #[o] Q (List.range #[o].size) act (c₀ :: cs) w := fun Q act hQ => by
                show wpOpsS E.P #[o] Q [0] act (c₀ :: cs) w
                simp only [wpOpsS]
                have : (#[o] : Array Oper)[0]? = some o := rfl
                rw [this]
                simp only [Region.wanted, hgu, if_true, hexec]
                cases hrd : recoverD (c₀ :: cs) with
                | none => rw [hrd] at hm1; injection hm1 with e1 e2; subst e1; subst e2; exact hQ
                | some p => obtain ⟨v2, cs2⟩ := p; rw [hrd] at hm1; injection hm1 with e1 e2; subst e1; subst e2; exact hQ
              refine hgoal _ _ ?_
              show rest.wpS E.P _ _ cs' w
              refine wpS_of_wp (hR.code base w0 _ fn.ntmps rest γ S w ⟨(initT args 0).set d (some (m.getD (.v .nilIface))), []⟩ _ hS ⟨?_, ?_, (by rw [hdst]; exact trivial)⟩ hg ?_)
              · have := FR.put (γ := γ) (w := w) (f := initT args 0) (act := { tmps := vs.toArray ++ Array.replicate (fn.ntmps - vs.toArray.size) undef, defers := [] }) (initT_FR hv fn.ntmps) (some d) fn.ntmps (by have := hv.1; simp; omega) hm2 (fun d' hd' => by injection hd' with hd'; subst hd'; exact hlen.2)
                rw [hdst]
                exact this
              · have := hv.1
                rw [hdst]
                simp [Act.put]; omega
              · rw [hrun]
                intro γ' act' w' k1 k2 k3
                have hd0 : act'.defers = [] := DfrL.nil_inv (by have := k3.dfr; rwa [q1] at this)
                have hres : (results fn act'.tmps).run E.P w' = .ok (.tuple #[]) w' := by
                  have : fn.results = #[] := by rw [← Array.toArray_toList (xs := fn.results), q2]
                  simp [results, this]
                rcases q3 with rfl | rfl
                · exact ⟨hd0, u', hm3, _, hres, γ', k1, k2, ⟨_, rfl⟩, rfl⟩
                · exact ⟨hd0, u', hm3, _, hres, γ', k1, k2, ⟨_, rfl⟩, rfl⟩
            · cases h
          · cases h
        · cases h
      · cases h
    · cases h
theorem invoke_run {k : FuncId} {fn : Func} {c : Code} (h1 : E.P.funcs[k]? = some fn) (h2 : (fn.name == "runtime.NumGoroutine") = false) (h3 : fn.body = some c) (caps args : Array Value) (w : World) : (invoke (.fn (.func k) caps) args).run E.P w = .ok (.enter k (args ++ caps)) w := by
  have h2' : ¬ fn.name = "runtime.NumGoroutine" := by simpa using h2
  simp [invoke, callFunc, h1, h2', h3]
theorem stepF_sound {rec : Nat → Code → Fr → St → O} (hE : E.Ok) (hI : IntrOk E) (hR : CodeOk E rec) (base : Nat) (w0 : World) : CallOk E base w0 (stepF E rec) := by
  intro k args S hne γ w vs hS hg hv hF
  generalize hr : stepF E rec k args S = r at *
  unfold stepF at hr
  split at hr
  · rename_i g hgk
    subst hr
    exact hI k g hgk base w0 args S hne γ w vs hS hg hv
  split at hr
  · exact absurd hr.symm hne
  · rename_i fn hfn
    obtain ⟨h1, h2, _⟩ := hE.fn k fn hfn
    split at hr
    · exact absurd hr.symm hne
    · rename_i c hc
      split at hr
      · rename_i hlen
        refine calls_of_wp_defers h1 hc (hR.code base w0 (bodyPostD E.P fn (RetOk base w0 γ S w r)) fn.ntmps c γ S w ⟨initT args 0, []⟩ _ hS ⟨initT_FR hv fn.ntmps, by have := hv.1; simp; omega, trivial⟩ hg ?_)
        generalize rec fn.ntmps c ⟨initT args 0, []⟩ S = o at hr
        cases o with
        | fail => exact absurd hr.symm hne
        | out e f' S' =>
          intro γ' act' w' k1 k2 k3
          -- the answer at the end, in whatever later state
          have give : ∀ (γ2 : Gh) (S2 : St) (w2 : World), SR base w0 γ2 S2 w2 → Ext γ S w γ2 S2 w2 → FR γ2 w2 f'.tmps act'.tmps → giveA E fn f'.tmps S2 = r → Leaves E.P fn act'.tmps (RetOk base w0 γ S w r) [] .returning w2 := fun γ2 S2 w2 j1 j2 j3 j4 => by
            obtain ⟨a, v, g1, g2, g3⟩ := giveA_sound (E := E) (fn := fn) j1 j3 (by rw [j4]; exact hne)
            rw [j4] at g1
            subst g1
            exact ⟨v, g2, γ2, v, j1, j2, g3, rfl⟩
          -- a deferred call
          have dfrd : ∀ (k2 : FuncId) (caps dargs : List AV) (m : Option AV) (u u' : FrameMode), f'.dfr = [⟨.func k2, caps, dargs⟩] → ModeR γ' w' m u u' → u ≠ .run → settle u' = .returning → (match dfrA E rec k2 (dargs ++ caps) S' m with | .ok _ S2 => giveA E fn f'.tmps S2 | .fail => .fail) = r →
              Leaves E.P fn act'.tmps (RetOk base w0 γ S w r) act'.defers u w' := fun k4 caps dargs m u u' hd hm hu hset hq => by
            have hdl := k3.dfr
            rw [hd] at hdl
            cases hdef : act'.defers with
            | nil => rw [hdef] at hdl; exact hdl.elim
            | cons d0 ds =>
              rw [hdef] at hdl
              obtain ⟨⟨cv, av, hde, hcv, hav⟩, hrest⟩ := hdl
              have hds : ds = [] := DfrL.nil_inv hrest
              subst hds
              split at hq
              · rename_i b S2 hda
                obtain ⟨fn2, body2, p1, p2, p3, p4⟩ := dfrA_sound hE hR base w0 hda k1 (hg.mono k2.ev) (hav.append hcv) hm
                rw [hde]
                refine leaves_cons (f := k4) (args := av.toArray ++ cv.toArray) hu (invoke_run p1 p2 p3 _ _ _) ?_
                have : (av ++ cv).toArray = av.toArray ++ cv.toArray := by simp
                rw [← this]
                refine p4.mono ?_
                rintro e2 u2 w2 ⟨γ2, j1, j2, ⟨v, rfl⟩, rfl⟩
                show Leaves _ _ _ _ [] (settle _) w2
                rw [hset]
                exact give γ2 S2 w2 j1 (k2.trans j2) (k3.tmps.mono j2.ev) hq
              · exact absurd hq.symm hne
          unfold endA at hr
          split at hr
          · rename_i e2 f2 S2 heq
            injection heq with q1 q2 q3; subst q1; subst q2; subst q3
            split at hr
            · rename_i hd
              have hd' : act'.defers = [] := DfrL.nil_inv (by have := k3.dfr; rwa [hd] at this)
              split at hr
              · show Leaves _ _ _ _ act'.defers .returning w'
                rw [hd']; exact give γ' _ w' k1 k2 k3.tmps hr
              · show Leaves _ _ _ _ act'.defers .returning w'
                rw [hd']; exact give γ' _ w' k1 k2 k3.tmps hr
              · subst hr
                intro v hvr
                show Leaves _ _ _ _ act'.defers (.panicking [{ v, recovered := false }]) w'
                rw [hd']
                exact ⟨γ', v, k1, k2, hvr, rfl⟩
              · exact absurd hr.symm hne
            · rename_i k4 caps dargs hd
              split at hr
              · exact dfrd k4 caps dargs none .returning .returning hd ⟨rfl, rfl⟩ (by simp) rfl hr
              · exact dfrd k4 caps dargs none .returning .returning hd ⟨rfl, rfl⟩ (by simp) rfl hr
              · rename_i a
                intro v hvr
                exact dfrd k4 caps dargs (some a) _ (.panicking [{ v, recovered := true }]) hd ⟨v, hvr, rfl, rfl⟩ (by simp) rfl hr
              · exact absurd hr.symm hne
            · exact absurd hr.symm hne
          · cases ‹O.out _ _ _ = O.fail›
      · exact absurd hr.symm hne
theorem holds_then {base : Nat} {w0 : World} {n : Nat} {γ : Gh} {S : St} {w : World} {Q : Exit → Act → World → Prop} {K : Act → World → Prop} {r : O} (h : Holds base w0 n γ S w (Exit.then K Q) r ) : Holds base w0 n γ S w (Exit.then K Q) r := h
theorem stepC_sound {D : Drawn} {rec : Nat → Code → Fr → St → O} (hE : E.Ok) (hI : IntrOk E) (hD : DrawnOk E D) (hR : CodeOk E rec) : CodeOk E (stepC E D rec (stepF E rec)) := by
  have loop : ∀ (base : Nat) (w0 : World) (Q : Exit → Act → World → Prop) (n : Nat) (c : Code) (γ : Gh) (S : St) (w : World) (f : Fr) (act : Act), SR base w0 γ S w → AR γ w n f act → GR γ w E.G →
      Holds base w0 n γ S w Q (stepC E D rec (stepF E rec) n (.loop c) f S) → LWp E.P c Q act w := by
    intro base w0 Q n c γ S w f act hS ha hg hH
    refine LWp.round (hR.code base w0 _ n c γ S w f act hS ha hg ?_)
    unfold stepC at hH
    simp only at hH
    split at hH
    · rename_i f' S' hr
      rw [hr]
      intro γ' act' w' k1 k2 k3
      exact hR.loop base w0 Q n c γ' S' w' f' act' k1 k3 (hg.mono k2.ev) (hH.later k2)
    · rename_i r hr
      cases hst : rec n c f S with
      | fail => rw [hst] at hH; exact hH.elim
      | out e f' S' =>
        rw [hst] at hH
        intro γ' act' w' k1 k2 k3
        have := hH γ' act' w' k1 k2 k3
        cases e with
        | normal => exact absurd hst (hr f' S')
        | exit id => exact this
        | ret => exact this
        | pan a => exact this
  refine ⟨fun base w0 Q n c γ S w f act hS ha hg hH => ?_, loop⟩
  cases c with
  | skip => exact wp_skip (hH γ act w hS (.refl _ _ _) ha)
  | label l => exact wp_label (hH γ act w hS (.refl _ _ _) ha)
  | region id ops draw =>
    cases draw with
    | false => exact wp_region_list (runL_sound hE (stepF_sound hE hI hR base w0) _ γ S w f act hS ha hg hH)
    | true => exact hD base w0 Q _ (stepF_sound hE hI hR base w0) n id ops γ S w f act hS ha hg hH
  | seq x y =>
    refine wp_seq (hR.code base w0 _ n x γ S w f act hS ha hg ?_)
    unfold stepC at hH
    simp only at hH
    split at hH
    · rename_i f' S' hr
      rw [hr]
      intro γ' act' w' k1 k2 k3
      exact hR.code base w0 Q n y γ' S' w' f' act' k1 k3 (hg.mono k2.ev) (hH.later k2)
    · rename_i r hr
      cases hst : rec n x f S with
      | fail => rw [hst] at hH; exact hH.elim
      | out e f' S' =>
        rw [hst] at hH
        intro γ' act' w' k1 k2 k3
        have := hH γ' act' w' k1 k2 k3
        cases e with
        | normal => exact absurd hst (hr f' S')
        | exit id => exact this
        | ret => exact this
        | pan a => exact this
  | cond c x y =>
    unfold stepC at hH
    simp only at hH
    split at hH
    · rename_i hc
      have hv := evalO_sound ha.tmps hg hc
      generalize hq : act.eval c = q at hv
      cases hv
      exact wp_cond_true hq (hR.code base w0 Q n x γ S w f act hS ha hg hH)
    · rename_i hc
      have hv := evalO_sound ha.tmps hg hc
      generalize hq : act.eval c = q at hv
      cases hv
      exact wp_cond_false hq (hR.code base w0 Q n y γ S w f act hS ha hg hH)
    · exact hH.elim
  | block id c =>
    refine wp_block (hR.code base w0 _ n c γ S w f act hS ha hg ?_)
    unfold stepC at hH
    simp only at hH
    split at hH
    · rename_i id' f' S' hr
      rw [hr]
      intro γ' act' w' k1 k2 k3
      show if id' = id then Q .normal act' w' else Q (.exit id') act' w'
      split
      · rename_i he
        rw [if_pos he] at hH
        exact hH γ' act' w' k1 k2 k3
      · rename_i he
        rw [if_neg he] at hH
        exact hH γ' act' w' k1 k2 k3
    · rename_i r hr
      cases hst : rec n c f S with
      | fail => rw [hst] at hH; exact hH.elim
      | out e f' S' =>
        rw [hst] at hH
        intro γ' act' w' k1 k2 k3
        have := hH γ' act' w' k1 k2 k3
        cases e with
        | normal => exact this
        | exit id' => exact absurd hst (hr id' f' S')
        | ret => exact this
        | pan a => exact this
  | loop c => exact (loop base w0 Q n c γ S w f act hS ha hg hH).loop
  | exit id => exact wp_exit (hH γ act w hS (.refl _ _ _) ha)
  | ret => exact wp_ret (hH γ act w hS (.refl _ _ _) ha)
  | rangeFunc => exact hH.elim
  | scope => exact hH.elim
  | goto => exact hH.elim
  | refuse => exact hH.elim
theorem run_sound {D : Drawn} (hE : E.Ok) (hI : IntrOk E) (hD : DrawnOk E D) : ∀ m, CodeOk E (run E D m)
  | 0 => ⟨fun _ _ _ _ _ _ _ _ _ _ _ _ _ h => h.elim, fun _ _ _ _ _ _ _ _ _ _ _ _ _ h => h.elim⟩
  | m + 1 => stepC_sound hE hI hD (run_sound hE hI hD m)
/-- A call that the abstract run makes to its end, the model makes to the same end. -/
theorem call_sound {D : Drawn} (hE : E.Ok) (hI : IntrOk E) (hD : DrawnOk E D) (m : Nat) (base : Nat) (w0 : World) : CallOk E base w0 (callN E D m) := stepF_sound hE hI (run_sound hE hI hD m) base w0
end
end Go.Ax
