/-
  Regions whose order is drawn, with or without a new variable among the calls: one order stands for all.
-/
import Derived.Test.YtjgknelmjdallaaGreatDoorFcSa
noncomputable section
namespace Go.Ax
open Go.RowKit
set_option linter.unusedVariables false
set_option linter.unusedSimpArgs false

/-- A new variable. -/
def isFl (P : Program) (o : Oper) : Option Tmp := match o.op, o.guard, o.dst with
  | .alloc e, none, some d => if (oAlloc P ⟨0, .leaf⟩ e).isSome then some d else none
  | _, _, _ => none
structure FlP where
  a : Nat
  d : Tmp
  pre : List Nat
  post : List Nat
def memB (l : List Nat) (x : Nat) : Bool := l.any fun y => Nat.beq y x
theorem memB_mem {l : List Nat} {x : Nat} : memB l x = true ↔ x ∈ l := by
  unfold memB
  rw [List.any_eq_true]
  exact ⟨fun ⟨y, hy, hb⟩ => (Nat.eq_of_beq_eq_true hb) ▸ hy, fun h => ⟨x, h, Nat.beq_refl x⟩⟩
def dstNe (ops : Array Oper) (d : Tmp) (p : Nat) : Bool := match ops[p]? with
  | some o => !(o.dst == some d)
  | none => true
def pureAt (ops : Array Oper) (d : Nat) (k : Nat) : Bool := match ops[k]? with
  | some o => isLook o && pureO o && !(o.dst == some d) && !(o.looksAt ops).contains d
  | none => false
theorem pureAt_spec {ops : Array Oper} {d k : Nat} (h : pureAt ops d k = true) : PureAt ops d k := by
  unfold pureAt at h
  split at h
  · rename_i o ho
    simp only [Bool.and_eq_true, Bool.not_eq_true'] at h
    obtain ⟨⟨⟨h1, h2⟩, h3⟩, h4⟩ := h
    refine ⟨o, ho, h1, h2, fun e => by rw [e] at h3; simp at h3, fun e => ?_⟩
    rw [List.contains_eq_mem, decide_eq_false_iff_not] at h4
    exact h4 e
  · cases h
theorem pairsOk_left {ops : Array Oper} {ms : List Nat} : ∀ {l m : List Nat}, pairsOk ops ms (l ++ m) = true → pairsOk ops ms l = true
  | [], m, h => rfl
  | j :: r, m, h => by
    have h : ((r ++ m).all (fun i => okP ops ms j i) && pairsOk ops ms (r ++ m)) = true := h
    rw [Bool.and_eq_true, List.all_append, Bool.and_eq_true] at h
    show (r.all (fun i => okP ops ms j i) && pairsOk ops ms r) = true
    rw [Bool.and_eq_true]
    exact ⟨h.1.1, pairsOk_left h.2⟩
theorem pairsOk_sub {ops : Array Oper} {ms : List Nat} {post : List Nat} : ∀ {pre rem : List Nat}, pairsOk ops ms (pre ++ post) = true → pairsOk ops ms rem = true → (∀ k ∈ rem, k ∈ pre) → pairsOk ops ms (rem ++ post) = true := by
  intro pre rem h hr hs
  have hpp : pairsOk ops ms post = true ∧ ∀ k ∈ pre, ∀ i ∈ post, okP ops ms k i = true := by
    clear hr hs
    induction pre with
    | nil => exact ⟨h, fun k hk => absurd hk List.not_mem_nil⟩
    | cons j r ih =>
      have h : ((r ++ post).all (fun i => okP ops ms j i) && pairsOk ops ms (r ++ post)) = true := h
      rw [Bool.and_eq_true] at h
      obtain ⟨k1, k2⟩ := ih h.2
      refine ⟨k1, fun k hk i hi => ?_⟩
      rcases List.mem_cons.1 hk with rfl | hk
      · exact List.all_eq_true.1 h.1 i (List.mem_append_right _ hi)
      · exact k2 k hk i hi
  induction rem with
  | nil => exact hpp.1
  | cons j r ih =>
    have hr : (r.all (fun i => okP ops ms j i) && pairsOk ops ms r) = true := hr
    rw [Bool.and_eq_true] at hr
    show ((r ++ post).all (fun i => okP ops ms j i) && pairsOk ops ms (r ++ post)) = true
    rw [Bool.and_eq_true, List.all_append, Bool.and_eq_true]
    exact ⟨⟨hr.1, List.all_eq_true.2 fun i hi => hpp.2 j (hs j (List.mem_cons_self ..)) i hi⟩, ih hr.2 fun k hk => hs k (List.mem_cons_of_mem _ hk)⟩
def flOk (P : Program) (ops : Array Oper) (ms : List Nat) (x : FlP) : Bool :=
  masksOk ms ops.toList 0 && nodupB (x.pre ++ x.post) && !memB (x.pre ++ x.post) x.a && (x.pre ++ x.post).all (fun p => decide (p < ops.size)) && (List.range ops.size).all (fun k => Nat.beq k x.a || memB (x.pre ++ x.post) k) &&
  pairsOk ops ms (x.pre ++ x.post) && x.post.all (fun p => (ms.getD p 0).testBit x.a && x.pre.all fun k => (ms.getD p 0).testBit k || pureAt ops x.d k) && x.pre.all (dstNe ops x.d) && (stepsD ops ms x.pre []).isSome && (stepsD ops ms x.post []).isSome &&
  (match ops[x.a]? with | some o => isFl P o == some x.d | none => false)
def flMake (P : Program) (ops : Array Oper) (ms : List Nat) (a : Nat) (d : Tmp) : FlP :=
  let all := List.range ops.size
  let pre0 := all.filter fun k => !(k == a) && !(ms.getD k 0).testBit a
  let post0 := all.filter fun k => (ms.getD k 0).testBit a
  let pre := eager ops ms pre0.length pre0 0
  ⟨a, d, pre, eager ops ms post0.length post0 (pre.foldl (fun m k => m ||| 2 ^ k) (2 ^ a))⟩
def flTry (P : Program) (ops : Array Oper) (ms : List Nat) : List Nat → Option FlP
  | [] => none
  | a :: r => match ops[a]? with
    | some o => match isFl P o with
      | some d => if flOk P ops ms (flMake P ops ms a d) then some (flMake P ops ms a d) else flTry P ops ms r
      | none => flTry P ops ms r
    | none => flTry P ops ms r
/-- An order of the one kind or the other. -/
def flFind (P : Program) (ops : Array Oper) : Option FlP :=
  let ms := bm ops.toList []
  if static ops ms (eager ops ms ops.size (List.range ops.size) 0) then none else flTry P ops ms (List.range ops.size)
theorem flTry_ok {P : Program} {ops : Array Oper} {ms : List Nat} : ∀ {l : List Nat} {x : FlP}, flTry P ops ms l = some x → flOk P ops ms x = true
  | [], x, h => by cases h
  | a :: r, x, h => by
    unfold flTry at h
    split at h
    · split at h
      · split at h
        · rename_i hk
          injection h with h; subst h; exact hk
        · exact flTry_ok h
      · exact flTry_ok h
    · exact flTry_ok h
theorem flFind_ok {P : Program} {ops : Array Oper} {x : FlP} (h : flFind P ops = some x) : flOk P ops (bm ops.toList []) x = true := by
  unfold flFind at h
  simp only at h
  split at h
  · cases h
  · exact flTry_ok h
def allSteps (ops : Array Oper) (x : FlP) : Option (List RS) := match stepsD ops (bm ops.toList []) x.pre [], ops[x.a]?, stepsD ops (bm ops.toList []) x.post [] with
  | some p, some o, some q => some (p ++ .op o :: q)
  | _, _, _ => none
def drawnFl (E : Env) (x : FlP) : Drawn := fun ck n ops f S => match allSteps ops x with
  | some rs => if x.d < n then fixX ⟨eraseT ops.toList f.tmps, f.dfr⟩ (runRS E ck n ops rs ⟨f.tmps.set x.d none, f.dfr⟩ S) else .fail
  | none => .fail
theorem isFl_spec {P : Program} {o : Oper} {d : Tmp} (h : isFl P o = some d) : ∃ e i z av, o.op = .alloc e ∧ o.guard = none ∧ o.dst = some d ∧ P.info? e = some i ∧ i.zero = some z ∧ ofConst 8 z = some av ∧ av.noTup = true ∧ ∀ S, oAlloc P S e = some (.ptr S.next 0, S.newBox av.cells) := by
  unfold isFl at h
  split at h
  · rename_i e d' ho hg hd
    split at h
    · rename_i hs
      injection h with h; subst h
      unfold oAlloc at hs
      cases hi : P.info? e with
      | none => rw [hi] at hs; cases hs
      | some i =>
        rw [hi] at hs
        cases hz : i.zero with
        | none => simp only [hz] at hs; cases hs
        | some z =>
          simp only [hz] at hs
          cases ha : ofConst 8 z with
          | none => simp only [ha] at hs; cases hs
          | some av =>
            simp only [ha] at hs
            split at hs
            · rename_i hn
              exact ⟨e, i, z, av, ho, hg, hd, hi, hz, ha, hn, fun S => by simp only [oAlloc, hi, hz, ha, if_pos hn]⟩
            · cases hs
    · cases h
  · cases h
theorem drawnFl_ok {E : Env} (hE : E.Ok) (hmix : E.P.follows .mixedOrders = true) {x : FlP} {ops : Array Oper} (hfl : flOk E.P ops (bm ops.toList []) x = true) (base : Nat) (w0 : World) (Q : Exit → Act → World → Prop) (callK : CallK) (hC : CallOk E base w0 callK) (n id : Nat) (γ : Gh) (S : St) (w : World) (f : Fr) (act : Act) (hS : SR base w0 γ S w) (ha : AR γ w n f act) (hg : GR γ w E.G)
    (hH : Holds base w0 n γ S w Q (drawnFl E x callK n ops f S)) : (Code.region id ops true).wp E.P Q act w := by
  unfold drawnFl at hH
  split at hH
  case h_2 => exact hH.elim
  rename_i rs hrs
  split at hH
  case isFalse => exact hH.elim
  rename_i hdn
  unfold allSteps at hrs
  generalize bm ops.toList [] = ms at hfl hrs
  unfold flOk at hfl
  simp only [Bool.and_eq_true] at hfl
  obtain ⟨⟨⟨⟨⟨⟨⟨⟨⟨⟨s1, s2⟩, s3⟩, s4⟩, s5⟩, s6⟩, s8⟩, s9⟩, s10⟩, s11⟩, s12⟩ := hfl
  obtain ⟨a, da, pre, post⟩ := x
  simp only at hH hdn hrs s2 s3 s4 s5 s6 s8 s9 s10 s11 s12
  have hnd := nodupB_nodup s2
  have hna : a ∉ pre ++ post := fun h => by rw [memB_mem.2 h] at s3; cases s3
  have hlt : ∀ p ∈ pre ++ post, p < ops.size := fun p hp => by have := List.all_eq_true.1 s4 p hp; simpa using this
  have hcov : ∀ k, k < ops.size → k ∈ pre ∨ k = a ∨ k ∈ post := fun k hk => by
    have := List.all_eq_true.1 s5 k (List.mem_range.2 hk)
    rw [Bool.or_eq_true] at this
    rcases this with h | h
    · exact .inr (.inl (Nat.eq_of_beq_eq_true h))
    · rcases List.mem_append.1 (memB_mem.1 h) with h | h
      · exact .inl h
      · exact .inr (.inr h)
  have hpost : ∀ p ∈ post, (ms.getD p 0).testBit a = true ∧ ∀ x ∈ pre, (ms.getD p 0).testBit x = true ∨ PureAt ops da x := fun p hp => by
    have := List.all_eq_true.1 s8 p hp
    rw [Bool.and_eq_true] at this
    refine ⟨this.1, fun x hx => ?_⟩
    have h2 := List.all_eq_true.1 this.2 x hx
    rw [Bool.or_eq_true] at h2
    exact h2.imp (fun h => h) pureAt_spec
  cases hoa : ops[a]? with
  | none => rw [hoa] at s12; cases s12
  | some oa =>
  rw [hoa] at s12 hrs
  split at hrs
  case h_2 => cases hrs
  rename_i rp oa' rq hrp hoa' hrq
  injection hoa' with hoa'; subst hoa'
  injection hrs with hrs; subst hrs
  have hfl2 : isFl E.P oa = some da := by simpa using s12
  obtain ⟨e, i, z, av, hop, hgd, hda, hi, hz, hav, hnt, hal⟩ := isFl_spec hfl2
  have hdp : ∀ p ∈ pre, ∀ o, ops[p]? = some o → o.dst ≠ some da := fun p hp o ho hd => by
    have := List.all_eq_true.1 s9 p hp
    unfold dstNe at this
    rw [ho] at this
    simp [hd] at this
  have hal2 : a < ops.size := (Array.getElem?_eq_some_iff.1 hoa).1
  obtain ⟨d1, d2⟩ := hS.drew
  have hx0 : Ext γ S w γ S w.drew := Ext.of_same (w := w) (w' := w.drew) rfl d2
  have hlist : ∀ (i : Nat) (b : Bool), i < ops.size → (Array.replicate ops.size false).getD i b = false := fun i b h => by simp [h]
  refine wp_region_any hmix ?_
  have hH2 := hH.later hx0
  generalize hfb : (⟨eraseT ops.toList f.tmps, f.dfr⟩ : Fr) = fb at hH2
  generalize hf1 : (⟨f.tmps.set da none, f.dfr⟩ : Fr) = f1 at hH2
  have hfbok : FbOk ops fb f1 := by
    subst hfb; subst hf1
    refine ⟨fun t y h => ?_, rfl, fun i o d ho hd => ?_⟩
    · obtain ⟨h1, h2⟩ := eraseT_sub _ _ t y h
      show (f.tmps.set da none).get t = some y
      rw [T.get_set, if_neg (fun e => by subst e; exact h2 oa (by have := Array.mem_of_getElem? hoa; simpa using this) hda)]
      exact h1
    · cases hq : (eraseT ops.toList f.tmps).get d with
      | none => rfl
      | some y =>
        have := (eraseT_sub _ _ d y hq).2 o (by have := Array.mem_of_getElem? ho; simpa using this)
        exact absurd hd this
  have ha1 : AR γ w.drew n f1 act := by
    subst hf1
    have := ha.mono d2
    refine ⟨fun t y h => ?_, this.size, this.dfr⟩
    have h : (f.tmps.set da none).get t = some y := h
    rw [T.get_set] at h
    split at h
    · cases h
    · exact this.tmps t y h
  have hfd : f1.tmps.get da = none := by
    subst hf1
    show (f.tmps.set da none).get da = none
    rw [T.get_set, if_pos rfl]
  -- the first part
  rw [runRS_append] at hH2
  have hR : drun E callK n ops ms fb pre f1 S [] = fixX fb (runRS E callK n ops rp f1 S) := by
    rcases drun_steps (E := E) (ck := callK) (n := n) (fb := fb) pre rp f1 S [] hrp (fun _ h => absurd h List.not_mem_nil) with h | h
    · rw [h] at hH2; exact hH2.elim
    · exact h
  refine drawn_pre (Q := Q) hE hC s1 (fb := fb) (γ0 := γ) (S0 := S) (ws := w.drew) d1.hbase hoa hop hgd hda hdn hi hz (pre := pre) (post := post) (fun h => hna (List.mem_append_left _ h)) hpost hcov (fun p hp => hlt p (List.mem_append_left _ hp)) hdp (R := fixX fb (runRS E callK n ops rp f1 S)) ?_ ?_ ?_
    ops.size pre none (Array.replicate ops.size false) f1 S γ w.drew act (by simp) (fun k => ⟨fun h => ⟨h, hlist k true (hlt k (List.mem_append_left _ h))⟩, fun h => h.1⟩) (List.nodup_append.1 hnd).1 (fun p hp hl => hlist p true hl) ?_ ?_ (fun i o ho hl => ?_) (pairsOk_left s6) d1 (.refl _ _ _) ha1 (hg.mono d2) hfbok hfd (fun b h => by cases h) hR
  · -- it does not fail
    intro hf
    cases hr : runRS E callK n ops rp f1 S with
    | fail => rw [hr] at hH2; exact hH2
    | out e f' S' => rw [hr] at hf; cases e <;> cases hf
  · -- a panic
    intro y S' hy γ' act' w' k1 k2 k3 v hvr
    cases hr : runRS E callK n ops rp f1 S with
    | fail => rw [hr] at hH2; exact hH2.elim
    | out e f' S2 =>
      rw [hr] at hy hH2
      cases e with
      | pan y2 =>
        have hy : O.out (.pan y2) fb S2 = .out (.pan y) fb S' := hy
        injection hy with q1 q2 q3
        injection q1 with q1
        subst q1; subst q3
        exact hH2 γ' act' w' k1 k2 k3 v hvr
      | normal => cases hy
      | exit i => cases hy
      | ret => cases hy
  · -- behind it
    intro fuel listed f2 S2 γ2 w2 act2 b rem hR2 hrp2 hrn hrpair hsz hpl hlen hdn2 hS2 hx2 ha2 hg2 hfb2 hpd
    have hne2 : fixX fb (runRS E callK n ops rp f1 S) ≠ .fail := by
      intro hf
      cases hr : runRS E callK n ops rp f1 S with
      | fail => rw [hr] at hH2; exact hH2
      | out e f' S' => rw [hr] at hf; cases e <;> cases hf
    obtain ⟨f', hR3, M, hM, hrun⟩ := pure_tail (E := E) (callK := callK) (n := n) (ops := ops) (ms := ms) (fb := fb) (da := da) (x := .ptr S2.next 0) (S := S2) (S2 := S2.newBox av.cells) (post := post) rem f2 [] [] _ (fun k hk => (hrp2 k hk).1) hR2 hne2
    cases hr : runRS E callK n ops rp f1 S with
    | fail => rw [hr] at hR3; cases hR3
    | out e2 f3 S' =>
      rw [hr] at hR3 hH2
      cases e2 with
      | pan y => cases hR3
      | exit i => cases hR3
      | ret => cases hR3
      | normal =>
        have hR3 : O.out .normal f3 S' = .out .normal f' S2 := hR3
        injection hR3 with _ q2 q3
        subst q2; subst q3
        simp only at hH2
        have hstep : stepO E callK n ops oa f3 S' = .out .normal ⟨f3.tmps.set da (some (.ptr S'.next 0)), f3.dfr⟩ (S'.newBox av.cells) := by
          unfold stepO wantedA
          rw [hgd]
          simp only [exec1, hop, hal, ofOptS, hda, putA, if_pos hdn]
        have est : runRS E callK n ops (.op oa :: rq) f3 S' = runRS E callK n ops rq ⟨f3.tmps.set da (some (.ptr S'.next 0)), f3.dfr⟩ (S'.newBox av.cells) := by
          have e : runRS E callK n ops (.op oa :: rq) f3 S' = match stepO E callK n ops oa f3 S' with
            | .out .normal f' S' => runRS E callK n ops rq f' S'
            | r => r := rfl
          rw [e, hstep]
        rw [est] at hH2
        obtain ⟨γ3, k1, k2, k3, k4⟩ := hpd.named (n := n) hS2 hx2 d1.hbase hav hnt ha2 hdn
        have hpost2 : drun E callK n ops ms fb post ⟨f3.tmps.set da (some (.ptr S'.next 0)), f3.dfr⟩ (S'.newBox av.cells) [] = fixX fb (runRS E callK n ops rq ⟨f3.tmps.set da (some (.ptr S'.next 0)), f3.dfr⟩ (S'.newBox av.cells)) := by
          rcases drun_steps (E := E) (ck := callK) (n := n) (fb := fb) post rq ⟨f3.tmps.set da (some (.ptr S'.next 0)), f3.dfr⟩ (S'.newBox av.cells) [] hrq (fun _ h => absurd h List.not_mem_nil) with h | h
          · rw [h] at hH2; exact hH2.elim
          · exact h
        have hfb3 : FbOk ops fb ⟨f2.tmps.set da (some (.ptr S'.next 0)), f2.dfr⟩ := by
          have := hfb2.put hoa (.ptr S'.next 0)
          unfold putT at this
          rw [hda] at this
          exact this
        have htail := drun_tail (E := E) (callK := callK) (n := n) (ops := ops) (ms := ms) (fb := fb) M hM post ⟨f3.tmps.set da (some (.ptr S'.next 0)), f3.dfr⟩ (S'.newBox av.cells) []
        have hrp3 : ∀ k ∈ rem ++ post, k < ops.size := fun k hk => by
          rcases List.mem_append.1 hk with h | h
          · exact hlt k (List.mem_append_left _ (hrp2 k h).2)
          · exact hlt k (List.mem_append_right _ h)
        refine drawn_any hE hC s1 (fb := fb) fuel (rem ++ post) listed _ (S'.newBox av.cells) γ3 w2 act2 hsz (fun k => ⟨fun h => ⟨hrp3 k h, (hpl k (hrp3 k h)).1 h⟩, fun h => (hpl k h.1).2 h.2⟩) ?_ (by simpa using hlen) hdn2 (pairsOk_sub s6 hrpair fun k hk => (hrp2 k hk).2) k1 k4 (hg2.mono k3) hfb3 ?_
        · have hn2 := List.nodup_append.1 hnd
          exact List.nodup_append.2 ⟨hrn, hn2.2.1, fun x hx y hy e => hn2.2.2 x (hrp2 x hx).2 y hy e⟩
        · rw [hrun, List.append_nil]
          rw [List.nil_append] at htail
          rw [htail, hpost2]
          exact hH2.later k2
  · show ((Array.replicate ops.size false).getD a true = true ↔ (none : Option Nat).isSome = true)
    rw [hlist a true hal2]; simp
  · show pre.length + 1 + post.length ≤ ops.size
    have hsub : (a :: (pre ++ post)) ⊆ List.range ops.size := fun k hk => by
      rcases List.mem_cons.1 hk with rfl | hk
      · exact List.mem_range.2 hal2
      · exact List.mem_range.2 (hlt k hk)
    have := (List.nodup_cons.2 ⟨hna, hnd⟩).length_le_of_subset hsub
    simp at this; omega
  · have hlt2 := (Array.getElem?_eq_some_iff.1 ho).1
    rw [hlist i false hlt2] at hl
    cases hl
end Go.Ax
