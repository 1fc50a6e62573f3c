/-
  TypesRight, walked to where its finitely many cases begin.
-/
import Derived.Test.YtddjnjhhkffjgaaGreatDoorCoWl
noncomputable section
namespace Go.Ax
open Go.RowKit Go.Proofs
set_option linter.unusedVariables false
set_option linter.unusedSimpArgs false
set_option maxRecDepth 100000
theorem typesRight_awake (w : World) : Calls Tryz.prog 12 #[] w fun e w' => e = .returned (.bool true) ∧ Below w.heap.size w w' :=
  callsX_true (E := E1) e1_ok e1_intr e1_mix rfl (m := 2000) (k := 12) (args := []) (by kernel_rfl) (by kernel_rfl) (vs := []) ⟨rfl, fun k hk => by cases hk⟩
section
variable {E : Env}
/-- A run that begins where something is known of memory. -/
theorem codeX_from (hE : E.Ok) (hI : IntrOk E) (hmix : E.P.follows .mixedOrders = true) (hG : E.G = fun _ => none) {m n t : Nat} {c : Code} {f : T AV} (h : endsTrue t ((comp E n c none).c (callX E m) f [] St0) = true) {Q : Exit → Act → World → Prop} {act : Act} {γ : Gh} {base : Nat} {w0 w : World} (hS : SR base w0 γ St0 w) (hf : FR γ w f act.tmps) (hn : act.tmps.size = n) (hd : act.defers = [])
    (hQ : ∀ act' w', act'.tmps.size = n → act'.defers = [] → act'.tmps[t]? = some (.bool true) → Below base w0 w' → Q .ret act' w') : c.wp E.P Q act w := by
  rcases comp_ok (E := E) (n := n) (callX_F m) c none f [] St0 with h0 | ⟨j, h0⟩
  · rw [h0] at h; cases h
  rw [← h0] at h
  have h : endsTrue t (runC E (drawnNew E) (callX E m) j n c ⟨f, []⟩ St0) = true := h
  refine (runC_sound hE (drawnNew_ok hE hmix) (callX_ok hE hI hmix m) j).code base w0 Q n c γ St0 w ⟨f, []⟩ act hS ⟨hf, hn, by rw [hd]; trivial⟩ (by rw [hG]; exact GR.none) ?_
  cases hr : runC E (drawnNew E) (callX E m) j n c ⟨f, []⟩ St0 with
  | fail => rw [hr] at h; cases h
  | out e f' S' =>
    rw [hr] at h
    cases e with
    | normal => cases h
    | exit i => cases h
    | pan a => cases h
    | ret =>
      intro γ' act' w' h1 h2 h3
      show Q .ret act' w'
      simp only [endsTrue] at h
      split at h
      · rename_i hdf
        split at h
        · rename_i b hb
          subst h
          obtain ⟨k1, k2⟩ := h3.tmps t _ hb
          have hdd := h3.dfr
          have hd' : act'.defers = [] := by
            rw [hdf] at hdd
            cases hx : act'.defers with
            | nil => rfl
            | cons a r => rw [hx] at hdd; exact hdd.elim
          refine hQ act' w' h3.size hd' ?_ h1.below
          have e1 : act'.tmps[t]? = some (act'.tmps[t]) := Array.getElem?_eq_getElem k1
          have e2 : act'.tmps.getD t undef = act'.tmps[t] := by simp [k1]
          rw [e1]
          rw [e2] at k2
          generalize act'.tmps[t] = z at k2
          cases k2
          rfl
        · cases h
      · cases h
end
/-- A frame of which some places are known. -/
def frL (l : List (Nat × AV)) : T AV := l.foldr (fun p f => f.set p.1 (some p.2)) .leaf
theorem frL_ok {γ : Gh} {w : World} {tmps : Array Value} : ∀ l : List (Nat × AV), (∀ p ∈ l, ∃ v, tmps[p.1]? = some v ∧ VR γ w p.2 v) → FR γ w (frL l) tmps
  | [], _ => fun t a h => by
    have h : (T.leaf : T AV).get t = some a := h
    rw [T.get_leaf] at h; cases h
  | p :: l, hp => fun t a h => by
    have hq : ((frL l).set p.1 (some p.2)).get t = some a := h
    rw [T.get_set] at hq
    split at hq
    · rename_i e; subst e
      injection hq with hq2; subst hq2
      obtain ⟨v, h1, h2⟩ := hp p (List.mem_cons_self ..)
      obtain ⟨hl, he⟩ := Array.getElem?_eq_some_iff.1 h1
      exact ⟨hl, by simp only [Array.getD_eq_getD_getElem?, h1, Option.getD_some]; exact h2⟩
    · exact frL_ok l (fun q hqq => hp q (List.mem_cons_of_mem _ hqq)) t a hq
/-- A new row of texts. -/
def strA (s : ByteArray) : AV := .v (.string s)
theorem flat_strs : ∀ ss : List ByteArray, flat (ss.map strA) = ss.map strA
  | [] => rfl
  | s :: r => by
    have ih := flat_strs r
    show AV.cells (strA s) ++ flat (r.map strA) = _
    rw [ih]; rfl
theorem strs_start (w : World) (ss : List ByteArray) (T : TypeId) : VR (Gh0.withIm w.heap.size 0 ss.length) (w.alloc (.cells (ss.map Value.string).toArray T)) (.sl 1 0 1 (ss.map strA)) (.slice (some ⟨w.heap.size, 0, none⟩) ss.length ss.length) := by
  have hfl := flat_strs ss
  have hmain : VR (Gh0.withIm w.heap.size 0 ss.length) (w.alloc (.cells (ss.map Value.string).toArray T)) (.sl 1 0 1 (ss.map strA)) (.slice (some ⟨w.heap.size, 0, none⟩) (ss.map strA).length ss.length) := by
   refine .sl 1 0 1 (ss.map strA) w.heap.size 0 ss.length (fun k => (ss.map Value.string).getD k undef) (by omega) (fun e he => ?_) (fun x hx => ?_) (fun k hk => ?_) (fun k hk => ?_) (fun h => absurd h (by omega)) (fun _ => by simp) (by simp) ⟨_, T, (0, 0), heap_alloc_new w _, by simp⟩
   · obtain ⟨s, _, rfl⟩ := List.mem_map.1 he; rfl
   · rw [hfl] at hx; obtain ⟨s, _, rfl⟩ := List.mem_map.1 hx; rfl
   · rw [hfl] at hk
     have hk2 : k < ss.length := by simpa using hk
     refine ⟨.inr ⟨rfl, by omega, by omega⟩, ?_⟩
     rw [Nat.zero_add]
     exact alloc_new_cell w _ T (by simp [hk2])
   · have hk2 : k < ss.length := by rw [hfl] at hk; simpa using hk
     have e1 : (flat (ss.map strA))[k] = strA ss[k] := by
       simp only [hfl, List.getElem_map]
     have e2 : (ss.map Value.string).getD k undef = .string ss[k] := by simp [hk2]
     rw [e1, e2]
     exact .v _ rfl
  simpa using hmain
/-- The signs. -/
def signsB : List ByteArray := [⟨#[43]⟩, ⟨#[45]⟩, ⟨#[42]⟩, ⟨#[60]⟩, ⟨#[60, 61]⟩, ⟨#[62]⟩, ⟨#[62, 61]⟩, ⟨#[61]⟩, ⟨#[60, 62]⟩, ⟨#[97, 110, 100]⟩, ⟨#[111, 114]⟩, ⟨#[120, 111, 114]⟩]
/-- The frame by then. -/
def frT (a b y : Bool) (k : Int) : T AV := frL [(0, .v (.bool a)), (1, .v (.bool b)), (2, .v (.bool y)), (9, .sl 1 0 1 (signsB.map strA)), (10, .v (.int .i64 k))]
/-- What is run behind that. -/
noncomputable def typesRightRest : Code := match Tryz.f4.body with
  | some (.seq _ (.seq _ (.seq _ (.seq _ r)))) => r
  | _ => .skip
theorem typesRight_walk (hc : ∀ (a b y : Bool) (k : Nat), k < 12 → endsTrue 8 ((comp E1 81 typesRightRest none).c (callX E1 2000) (frT a b y k) [] St0) = true) (a b y : Bool) (n : Int) (w : World) : Calls Tryz.prog 4 #[.bool a, .bool b, .bool y, .int .i64 n] w fun x w' => x = .returned (.bool true) ∧ Below w.heap.size w w' := by
  go_enter Tryz.func4, Tryz.ntmps4
  refine wp_seq_k fun K0 h0 => ?_
  have H0 := Lib.hid h0; clear h0
  go_wp2_with fail
  refine H0.out _ _ ?_
  clear H0 K0
  refine wp_seq_k fun K1 h1 => ?_
  have H1 := Lib.hid h1; clear h1
  go_wp2_with fail
  refine (typesRight_awake w).mono ?_
  rintro x w1 ⟨rfl, hb1⟩
  go_wp2_with fail
  refine H1.out _ _ ?_
  clear H1 K1
  refine wp_seq_k fun K2 h2 => ?_
  have H2 := Lib.hid h2; clear h2
  go_wp2_with fail
  refine H2.out _ _ ?_
  clear H2 K2
  refine wp_seq_k fun K3 h3 => ?_
  have H3 := Lib.hid h3; clear h3
  go_wp2_with fail
  refine H3.out _ _ ?_
  clear H3 K3
  obtain ⟨k, hk, hz⟩ := and_mod n 255 12 (by decide) (by decide)
  have hz2 : (bits BinOp.and IntKind.i64 n 255).tmod 12 = (k : Int) := hz
  rw [hz2]
  have hsl := strs_start w1 signsB 9
  obtain ⟨q1, q2⟩ := (SR.start w1).allocIm (signsB.map Value.string).toArray 9 12 (by decide)
  refine codeX_from (c := typesRightRest) (E := E1) e1_ok e1_intr e1_mix rfl (m := 2000) (n := 81) (t := 8) (f := frT a b y k) (hc a b y k hk) q1 (frL_ok _ ?_) rfl rfl ?_
  · intro p hp
    simp only [List.mem_cons, List.not_mem_nil, or_false] at hp
    rcases hp with rfl | rfl | rfl | rfl | rfl
    · exact ⟨_, rfl, .v _ rfl⟩
    · exact ⟨_, rfl, .v _ rfl⟩
    · exact ⟨_, rfl, .v _ rfl⟩
    · exact ⟨_, rfl, hsl⟩
    · exact ⟨_, rfl, .v _ rfl⟩
  intro act' w' hs hd ht hb2
  refine ⟨hd, .bool true, ?_, rfl, hb1.trans (hb2.mono hb1.size)⟩
  have h4 : act'.tmps.getD 8 undef = .bool true := by simp [Array.getD_eq_getD_getElem?, ht]
  simp [results, Tryz.f4, h4, go_sem, ht]
end Go.Ax
