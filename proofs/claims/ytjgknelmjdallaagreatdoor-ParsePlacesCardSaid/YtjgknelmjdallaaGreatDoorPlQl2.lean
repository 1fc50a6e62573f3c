/-
  The lexer always answers; a run that begins where variables are known.
-/
import Derived.Test.YtjgknelmjdallaaGreatDoorPlQi
import Derived.Test.YtjgknelmjdallaaGreatDoorPlVa
import Derived.Test.YtjgknelmjdallaaGreatDoorPlQk
noncomputable section
namespace Go.Ax
open Go.RowKit Go.Proofs
set_option linter.unusedVariables false
set_option linter.unusedSimpArgs false
set_option maxRecDepth 100000
theorem cH {b : UInt8} (h : Km b = true) : Fs b = true := by
  unfold Fs; rw [h]; rfl
theorem lY {l : List UInt8} {i : Nat} {t : Tk} (h : Jk l i = some (t, 0)) : 0 < t.text.length := by
  unfold Jk at h
  split at h
  · cases h
  · rename_i b r
    split at h
    · rename_i hb
      have hc : 0 < ((b :: r).take (cnt Fs (b :: r))).length := by
        rw [List.length_take]; unfold cnt; rw [if_pos (cH hb)]; simp
      injection h with h
      unfold Mg at h
      split at h
      · injection h with h1 h2; subst h1; exact hc
      · split at h
        · injection h with h1 h2; cases h2
        · injection h with h1 h2; subst h1; exact hc
    · split at h
      · rename_i hb
        have hc : 0 < ((b :: r).take (cnt Ed (b :: r))).length := by
          rw [List.length_take]; unfold cnt; rw [if_pos hb]; simp
        unfold aK at h
        split at h
        · injection h with h; injection h with h1 h2; cases h2
        · split at h
          · split at h
            · injection h with h; injection h with h1 h2; cases h2
            · injection h with h; injection h with h1 h2; subst h1; exact hc
          · injection h with h; injection h with h1 h2; cases h2
      · injection h with h
        unfold Oa at h
        split at h
        · rename_i s hs
          injection h with h1 h2; subst h1
          have := List.mem_of_find?_eq_some hs
          exact (show ∀ s ∈ Gd, 0 < s.length by decide) s this
        · injection h with h1 h2; cases h2
theorem iP {l : List UInt8} {i : Nat} (h : l ≠ []) : ∃ p, Jk l i = some p := by
  unfold Jk
  split
  · exact absurd rfl h
  · split
    · exact ⟨_, rfl⟩
    · split
      · unfold aK
        split
        · exact ⟨_, rfl⟩
        · split
          · split
            · exact ⟨_, rfl⟩
            · exact ⟨_, rfl⟩
          · exact ⟨_, rfl⟩
      · exact ⟨_, rfl⟩
theorem Xz (l : List UInt8) : ∀ n i, l.length + 1 ≤ n + i → i ≤ l.length → ∃ out, O3 l n i = some out
  | 0, i, h1, h2 => by omega
  | n + 1, i, h1, h2 => by
    unfold O3
    by_cases hi : i < l.length
    · rw [if_pos hi]
      obtain ⟨p, hp⟩ := iP (l := l.drop i) (i := i) (by intro e; have := congrArg List.length e; rw [List.length_drop] at this; simp at this; omega)
      rw [hp]
      simp only
      by_cases he : p.2 = 0
      · rw [if_pos he]
        have hq : Jk (l.drop i) i = some (p.1, 0) := by rw [hp, ← he]
        have h3 := lY hq
        have h4 := Qu hq
        rw [List.length_drop] at h4
        have h5 := Jh (l.length + 1) (l.drop (i + p.1.text.length))
        rw [List.length_drop] at h5
        obtain ⟨out, ho⟩ := Xz l n (i + p.1.text.length + Je (l.length + 1) (l.drop (i + p.1.text.length))) (by omega) (by omega)
        rw [ho]
        cases out with
        | inl x => exact ⟨_, rfl⟩
        | inr ts => exact ⟨_, rfl⟩
      · rw [if_neg he]; exact ⟨_, rfl⟩
    · rw [if_neg hi]; exact ⟨_, rfl⟩
theorem iU (l : List UInt8) : ∃ out, Me l = some out := by
  unfold Me
  split
  · exact ⟨_, rfl⟩
  · exact Xz l _ _ (by omega) (Jh _ _)
/-- Code that is known to end so, where variables are known. -/
theorem codeWG {E : Env} (hE : E.Ok) (hI : Ju E) (hmix : E.P.follows .mixedOrders = true) {n t : Nat} {c : Code} {f : T AV} {S : St}
    (h : W E n c ⟨f, []⟩ S (fun r => ∃ f' S', r = .out .ret ⟨f', []⟩ S' ∧ f'.get t = some (.v (.bool true)))) {Q : Exit → Act → World → Prop} {act : Act} {γ : Gh} {base : Nat} {w0 w : World} (hS : SR base w0 γ S w) (hg : GR γ w E.G) (hf : FR γ w f act.tmps) (hn : act.tmps.size = n) (hd : act.defers = [])
    (hQ : ∀ act' w', act'.tmps.size = n → act'.defers = [] → act'.tmps[t]? = some (.bool true) → Below base w0 w' → Q .ret act' w') : c.wp E.P Q act w := by
  obtain ⟨r, ⟨m0, hm⟩, f', S', rfl, ht⟩ := Es h
  refine (Mk hE hI (Im hE hmix) m0).code base w0 Q n c γ S w ⟨f, []⟩ act hS ⟨hf, hn, by rw [hd]; trivial⟩ hg ?_
  rw [hm m0 (Nat.le_refl _)]
  intro γ' act' w' h1 h2 h3
  show Q .ret act' w'
  obtain ⟨k1, k2⟩ := h3.tmps t _ ht
  have hdd := h3.dfr
  have hd' : act'.defers = [] := by
    cases hx : act'.defers with
    | nil => rfl
    | cons a r => rw [hx] at hdd; exact hdd.elim
  refine hQ act' w' h3.size hd' ?_ h1.below
  have e1 : act'.tmps[t]? = some (act'.tmps[t]) := Array.getElem?_eq_getElem k1
  have e2 : act'.tmps.getD t undef = act'.tmps[t] := by simp [k1]
  rw [e1]
  rw [e2] at k2
  generalize act'.tmps[t] = z at k2
  cases k2
  rfl
/-- All that lies in memory is known to stay. -/
def GhW (w : World) : Gh := { loc := fun _ => none, im := fun b o => b < w.heap.size ∧ ∃ v, w.cell? ⟨b, o, none⟩ = some v }
theorem SR.whole (w : World) : SR w.heap.size w (GhW w) St0 w :=
  ⟨.refl _ _, Nat.le_refl _, fun _ _ h => h.2, fun _ _ => ⟨rfl, rfl⟩, Nat.le_refl _, fun _ _ _ h => (by cases h), fun _ _ h => (by cases h), fun _ _ _ _ _ _ _ h => (by cases h)⟩
/-- What is asked of strconv.ErrRange: a pointer to a cell. -/
def RngIn (w : World) : Prop := ∃ b o : Nat, w.cell? ⟨5, 0, none⟩ = some (.iface 278 (.pointer (some ⟨b, o, none⟩)))
theorem RngIn.gr {w : World} (h : RngIn w) : GR (GhW w) w gR := by
  obtain ⟨b, o, h⟩ := h
  intro g cs hg
  unfold gR at hg
  cases hb : Nat.beq g 5 with
  | false => rw [hb] at hg; cases hg
  | true =>
    have : g = 5 := Nat.eq_of_beq_eq_true hb
    subst this
    rw [hb] at hg
    injection hg with hg; subst hg
    refine .ep _ 5 0 (fun _ => .iface 278 (.pointer (some ⟨b, o, none⟩))) (fun k hk => ?_) (fun x hx => ?_) (fun k hk => ?_)
    · have : k = 0 := by simp at hk; exact hk
      subst this
      exact ⟨⟨World.block_lt_of_cell? w _ h, _, h⟩, h⟩
    · simp only [List.mem_cons,List.not_mem_nil,or_false] at hx; subst hx; rfl
    · have : k = 0 := by simp at hk; exact hk
      subst this
      exact .iface _ _ _ (.ep [] b o (fun _ => undef) (fun k h => absurd h (Nat.not_lt_zero k)) (fun _ h => absurd h List.not_mem_nil) (fun k h => absurd h (Nat.not_lt_zero k)))
end Go.Ax
noncomputable section
namespace Go.Ax
open Go.RowKit Go.Proofs
set_option linter.unusedVariables false
set_option linter.unusedSimpArgs false
set_option maxRecDepth 100000
def puI0 (args : List AV) : Option AV := match args with
  | [.v (.string s), .v (.int .i64 10), .v (.int .i64 64)] => if s.data.toList ≠ [] ∧ s.data.toList.all Pf = true ∧ Hi 0 s.data.toList < 18446744073709551616 ∧ s.size ≤ 9223372036854775806 then some (.tup [.v (.int .u64 (Hi 0 s.data.toList)), .v .nilIface]) else none
  | _ => none
def E0 : Env := { P := Tryz.prog, G := fun _ => none, F := E1.F, I := fun k => Bool.rec (Bool.rec none (some (N5 6)) (Nat.beq k 94)) (some (Ix puI0)) (Nat.beq k 133), M := rowM }
theorem e0_ok : E0.Ok := ⟨fun k fn h => Q8.fn k fn h⟩
theorem e0_mix : E0.P.follows .mixedOrders = true := Sd
theorem puI0_ok : ∀ args a, puI0 args = some a → ∀ γ w (vs : List Value), VRL γ w args vs → Calls Tryz.prog 133 vs.toArray w fun e w' => Below w.heap.size w w' ∧ ∃ v, e = .returned v ∧ ∀ γ w, VR γ w a v := by
  intro args a h γ w vs hv
  unfold puI0 at h
  split at h
  · rename_i s
    split at h
    · rename_i hc
      obtain ⟨h0, h1, h2, h3⟩ := hc
      injection h with h; subst h
      obtain ⟨x, y, z, rfl, hx, hy, hz⟩ := hv.three
      cases hx; cases hy; cases hz
      refine (Tryz.strconv_ParseUint_10_at64_ok s h3 _ (aC h0 h1 h2) w).mono fun e w' he => ⟨?_, _, he.1, fun γ w => ?_⟩
      · rcases he.2 with rfl | rfl
        · exact .refl _ _
        · exact Lib.bytesWorld_below _ _ _
      · exact .tup _ _ rfl (fun k hk hk' => by
          match k, hk with
          | 0, _ => exact .v _ rfl
          | 1, _ => exact .v _ rfl)
    · cases h
  · cases h
theorem e0_intr : Ju E0 := fun k g hk base w0 args S hne γ w vs hS hg hv => by
  have hk2 : (Bool.rec (Bool.rec none (some (N5 6)) (Nat.beq k 94)) (some (Ix puI0)) (Nat.beq k 133) : Option (List AV → St → R)) = some g := hk
  cases hb : Nat.beq k 133 with
  | false =>
    rw [hb] at hk2
    cases hc : Nat.beq k 94 with
    | false => rw [hc] at hk2; cases hk2
    | true =>
      rw [hc] at hk2
      injection hk2 with hk2; subst hk2
      have : k = 94 := Nat.eq_of_beq_eq_true hc
      subst this
      exact mW base w0 args S hne γ w vs hS hv
  | true =>
    rw [hb] at hk2
    injection hk2 with hk2; subst hk2
    have : k = 133 := Nat.eq_of_beq_eq_true hb
    subst this
    exact iK (P := Tryz.prog) (k := 133) puI0_ok base w0 args S hne γ w vs hS hv
theorem lL (w : World) : Calls Tryz.prog 12 #[] w fun e w' => e = .returned (.bool true) ∧ Below w.heap.size w w' :=
  bM (E := E0) e0_ok e0_intr e0_mix rfl (m := 2000) (k := 12) (args := []) (by kernel_rfl) (by kernel_rfl) (vs := []) ⟨rfl, fun k hk => by cases hk⟩
end Go.Ax
noncomputable section
namespace Go.Ax
open Go.RowKit Go.Proofs
set_option linter.unusedVariables false
set_option linter.unusedSimpArgs false
set_option maxRecDepth 100000
/-- At most 1500 bytes. -/
def bL (s : ByteArray) : ByteArray := if 1500 < s.size then s.extract 0 1500 else s
theorem jU (s : ByteArray) : (bL s).size ≤ 1500 := by
  unfold bL; split
  · rw [ByteArray.size_extract]; omega
  · omega
set_option maxHeartbeats 400000 in
theorem oA (s : ByteArray) (w : World) (hs : s.size ≤ 9223372036854775807) :
    Calls Tryz.prog 18 #[.string s, .int .i64 1500] w fun e w' => e = .returned (.string (bL s)) ∧ w = w' := by
  by_cases h : (1500 : Int) < s.size
  · have H := Lib.hid (show bL s = s.extract 0 1500 by unfold bL; rw [if_pos (by omega)])
    go_enter Tryz.func18, Tryz.ntmps18
    go_wp2
    go_ret
    rw [H.out]; exact ⟨rfl, rfl⟩
  · have H := Lib.hid (show bL s = s by unfold bL; rw [if_neg (by omega)])
    go_enter Tryz.func18, Tryz.ntmps18
    go_wp2
    go_ret
    rw [H.out]; exact ⟨rfl, rfl⟩
theorem u9p : Tryz.prog.underlying 9 = some .string := by kernel_rfl
theorem pp_any (s0 : ByteArray) (w : World) (hs0 : s0.size ≤ 9223372036854775807) (hr : RngIn w) : Calls Tryz.prog 5 #[.string s0] w fun x w' => x = .returned (.bool true) ∧ Below w.heap.size w w' := by
  have HR := Lib.hid hr; clear hr
  have hs := jU s0
  go_enter Tryz.func5, Tryz.ntmps5
  refine wp_seq_k fun K0 h0 => ?_
  have H0 := Lib.hid h0; clear h0
  go_wp2_with fail
  refine H0.out _ _ ?_
  clear H0 K0
  refine wp_seq_k fun K1 h1 => ?_
  have H1 := Lib.hid h1; clear h1
  go_wp2_with fail
  refine (oA s0 _ hs0).mono ?_
  rintro x w' ⟨rfl, rfl⟩
  generalize bL s0 = s at *
  go_wp2_with fail
  refine H1.out _ _ ?_
  clear H1 K1
  refine wp_seq_k fun K2 h2 => ?_
  have H2 := Lib.hid h2; clear h2
  go_wp2_with fail
  refine (lL _).mono ?_
  rintro x w1 ⟨rfl, hb1⟩
  go_wp2_with fail
  refine H2.out _ _ ?_
  clear H2 K2
  have hlt0 : w.heap.size < (w.alloc (Obj.cells #[Value.string s] 9)).heap.size := by simp
  have hbw : Below w.heap.size w w1 := ((Below.refl w.heap.size w).alloc (Nat.le_refl _) _).trans (hb1.mono (Nat.le_of_lt hlt0))
  have hbk : w1.heap[w.heap.size]? = some (.cells #[.string s] 9 (0, 0)) := (hb1.block _ hlt0).trans (heap_alloc_new w _)
  obtain ⟨q1, q2⟩ := (SR.whole w).after hbw
  obtain ⟨j1, j2⟩ := q1.name w.heap.size 0 (.box [D5 s.data.toList]) (Nat.le_refl _) (Nat.lt_of_lt_of_le hlt0 hb1.size)
    ⟨rfl, fun o ho => absurd ho.1 (Nat.lt_irrefl _), fun c hc => by simp only [List.mem_cons,List.not_mem_nil,or_false] at hc; subst hc; rfl, #[.string s], 9, [.string s], [], hbk, by simp, VRL.cons (.v _ rfl) (VRL.nil _ _)⟩
    (fun id c s' e => by cases e)
  obtain ⟨out, ho⟩ := iU s.data.toList
  have hl : s.data.toList.length ≤ 1500 := by rw [Array.length_toList]; exact hs
  have hg : GR ((GhW w).withLoc 2 w.heap.size 0) w1 gR := (HR.out.gr.mono q2.ev).mono j2
  have hS2 : ({ next := 2 + 1, mem := (T.leaf).set 2 (some (.box [D5 s.data.toList])) } : St).mem.get 2 = some (.box [D5 s.data.toList]) := by
    show (T.leaf.set 2 _).get 2 = _
    rw [T.get_set, if_pos rfl]
  have hW := pp_rest s.data.toList hl out ho { next := 2 + 1, mem := (T.leaf).set 2 (some (.box [D5 s.data.toList])) } 2 (by show 2 ≤ 2 + 1; omega) (by show 2 < 2 + 1; omega) hS2 ((T.leaf).set 1 (some (.ptr 2 0))) (by rw [T.get_set, if_pos rfl])
  refine codeWG (c := Nb) (E := E1) Q8 Q9 Sd (t := 2) hW j1 hg ?_ rfl rfl ?_
  · intro t a h
    rw [T.get_set] at h
    split at h
    · rename_i e; subst e
      injection h with h; subst h
      refine ⟨(show 1 < 85 by decide), ?_⟩
      exact .ptr 2 0 w.heap.size 0 rfl
    · cases h
  intro act' w' hsz hd ht hb2
  refine ⟨hd, .bool true, ?_, rfl, hb2⟩
  have h4 : act'.tmps.getD 2 undef = .bool true := by simp [Array.getD_eq_getD_getElem?, ht]
  simp [results, Tryz.f5, h4, go_sem, ht]
end Go.Ax
