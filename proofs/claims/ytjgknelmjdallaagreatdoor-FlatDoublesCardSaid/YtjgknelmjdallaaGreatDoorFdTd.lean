/-
  Tables of calls, each known in its own way.
-/
import Derived.Test.YtjgknelmjdallaaGreatDoorFdTc
noncomputable section
namespace Go.Ax
open Go.RowKit
set_option linter.unusedVariables false
set_option linter.unusedSimpArgs false
/-- What a table says of a call is so. -/
def KnOk (P : Program) (f : FuncId) (k : Kn) : Prop := ∀ (base : Nat) (w0 : World) (S : St), k.N = S.next → (∀ p ∈ k.ins, S.mem.get p.1 = some p.2) → ∀ (γ : Gh) (w : World) (vs : List Value), SR base w0 γ S w → VRL γ w k.args vs →
    Calls P f vs.toArray w (RetOk base w0 γ S w (.ret k.res ⟨k.M, ofL S.mem k.outs⟩))
theorem knOk_of {E : Env} (hE : E.Ok ∧ IntrOk E) (hmix : E.P.follows .mixedOrders = true) (hG : E.G = fun _ => none) {f : FuncId} (hF : (E.F f).isSome = true) {k : Kn} {m : Nat} (h : k.says (callX E m f k.args k.st) = true) : KnOk E.P f k :=
  fun base w0 S hN hins γ w vs hS hv => kn_snd hE.1 hE.2 hmix hG hF k ⟨m, h⟩ base w0 S hN hins γ w vs hS hv
theorem tabG_snd {P : Program} {f : FuncId} {g : List AV → St → R} (hg : Sound P f g) : ∀ (ks : List Kn), (∀ k ∈ ks, KnOk P f k) → Sound P f (tabF ks g)
  | [], _, base, w0, args, S, hne, γ, w, vs, hS, hv => hg base w0 args S hne γ w vs hS hv
  | k :: ks, hks, base, w0, args, S, hne, γ, w, vs, hS, hv => by
    have e : tabF (k :: ks) g args S = Bool.rec (tabF ks g args S) (Bool.rec .fail (.ret k.res ⟨k.M, ofL S.mem k.outs⟩) (k.fitsF args S)) (Nat.beq k.N S.next) := rfl
    cases hN : Nat.beq k.N S.next with
    | false =>
      have e2 : tabF (k :: ks) g args S = tabF ks g args S := by rw [e, hN]
      rw [e2] at hne ⊢
      exact tabG_snd hg ks (fun k hk => hks k (List.mem_cons_of_mem _ hk)) base w0 args S hne γ w vs hS hv
    | true =>
      cases hf : k.fitsF args S with
      | false => exact absurd (by rw [e, hN, hf]) hne
      | true =>
        have e2 : tabF (k :: ks) g args S = .ret k.res ⟨k.M, ofL S.mem k.outs⟩ := by rw [e, hN, hf]
        rw [e2]
        have hN := nb hN
        obtain ⟨f1, f2⟩ := andF_eq hf
        have ha := eqLF_eq (eqF_eq 12) _ _ f1
        subst ha
        have hins : ∀ p ∈ k.ins, S.mem.get p.1 = some p.2 := fun p hp => sameF_eq (List.all_eq_true.1 f2 p hp)
        exact hks k (List.mem_cons_self ..) base w0 S hN hins γ w vs hS hv
theorem levelsG {E : Env} (hE : E.Ok ∧ IntrOk E) (hmix : E.P.follows .mixedOrders = true) (hG : E.G = fun _ => none) {f : FuncId} (hF : (E.F f).isSome = true) (ks : List Kn) (hk : ∀ k ∈ ks, KnOk E.P f k) :
    ∀ n, (levelsF E f ks n).Ok ∧ IntrOk (levelsF E f ks n)
  | 0 => hE
  | n + 1 => by
    obtain ⟨h1, h2⟩ := levelsG hE hmix hG hF ks hk n
    obtain ⟨p1, p2, p3⟩ := levelsF_same E f ks n
    refine ⟨withI_ok hE.1 f _, withI_intr hE.2 ?_⟩
    have hr : Sound E.P f (bodyX (levelsF E f ks n) f) := by
      have := body_snd h1 h2 (by rw [p1]; exact hmix) (by rw [p2]; exact hG) (f := f) (by rw [p3]; exact hF)
      rw [← p1]; exact this
    exact tabG_snd hr ks hk
/-- What is said of a box, if anything: faster. -/
def sameOF (a : Option Cell) (b : Option Cell) : Bool := Option.rec (motive := fun _ => Bool) true (fun c => sameF a c) b
/-- Does a run say so? Faster. -/
def Kn.saysF (k : Kn) : R → Bool
  | .ret a S => andF (eqF 12 a k.res) (andF (Nat.beq S.next k.M) (andF (k.outs.all (fun p => sameOF (S.mem.get p.1) p.2)) (k.ins.all (fun p => k.outs.any (fun q => Nat.beq q.1 p.1)))))
  | _ => false
theorem kn_sndF {E : Env} (hE : E.Ok) (hI : IntrOk E) (hmix : E.P.follows .mixedOrders = true) (hG : E.G = fun _ => none) {f : FuncId} (hF : (E.F f).isSome = true) (k : Kn) (hk : ∃ m, k.saysF (callX E m f k.args k.st) = true) (base : Nat) (w0 : World) (S : St) (hN : k.N = S.next) (hins : ∀ p ∈ k.ins, S.mem.get p.1 = some p.2) (γ : Gh) (w : World) (vs : List Value) (hS : SR base w0 γ S w) (hv : VRL γ w k.args vs) :
    Calls E.P f vs.toArray w (RetOk base w0 γ S w (.ret k.res ⟨k.M, ofL S.mem k.outs⟩)) := by
  have hs : ∀ id c, k.st.mem.get id = some c → S.mem.get id = some c := fun id c h => by
    rcases ofL_get .leaf _ id c h with h | ⟨_, h⟩
    · obtain ⟨p, hp, he⟩ := List.mem_map.1 h
      injection he with e1 e2
      injection e2 with e2
      rw [← e1, ← e2]; exact hins _ hp
    · rw [T.get_leaf] at h; cases h
  obtain ⟨q1, q2⟩ := hS.sub (S0 := k.st) hN hs
  obtain ⟨m, hm⟩ := hk
  cases hr : callX E m f k.args k.st with
  | fail => rw [hr] at hm; cases hm
  | pan a S1 => rw [hr] at hm; cases hm
  | ret a S1 =>
    rw [hr] at hm
    unfold Kn.saysF at hm
    obtain ⟨m1, hm⟩ := andF_eq hm
    obtain ⟨m2, hm⟩ := andF_eq hm
    obtain ⟨m3, m4⟩ := andF_eq hm
    have m1 := eqF_eq 12 _ _ m1
    subst m1
    have m2 := nb m2
    have := callX_ok hE hI hmix m base w0 f k.args k.st (by rw [hr]; exact fun e => by cases e) γ w vs q1 (by rw [hG]; exact GR.none) hv hF
    rw [hr] at this
    refine this.mono fun en w' he => ?_
    obtain ⟨γ', v, j1, j2, j3, rfl⟩ := he
    obtain ⟨r1, r2⟩ := hS.join (S0 := k.st) (Sj := ⟨k.M, ofL S.mem k.outs⟩) hN hs j1 j2 m2.symm (fun id c h => by
      have h : (ofL S.mem k.outs).get id = some c := h
      rcases ofL_get S.mem k.outs id c h with h | ⟨h1, h2⟩
      · exact .inl (sameF_eq (by have := List.all_eq_true.1 m3 _ h; exact this))
      · refine .inr ⟨?_, h2⟩
        cases hq : k.st.mem.get id with
        | none => rfl
        | some d =>
          exfalso
          rcases ofL_get .leaf _ id d hq with h3 | ⟨_, h3⟩
          · obtain ⟨p0, hp0, he0⟩ := List.mem_map.1 h3
            injection he0 with g1 g2
            have h4 := List.all_eq_true.1 m4 _ hp0
            rw [g1] at h4
            obtain ⟨q, hq1, hq2⟩ := List.any_eq_true.1 h4
            have := nb hq2
            obtain ⟨qi, qc⟩ := q
            have hqi : qi = id := this
            subst hqi
            exact h1 qc hq1
          · rw [T.get_leaf] at h3; cases h3)
    exact ⟨γ', v, r1, r2, j3, rfl⟩
theorem knOk_ofF {E : Env} (hE : E.Ok ∧ IntrOk E) (hmix : E.P.follows .mixedOrders = true) (hG : E.G = fun _ => none) {f : FuncId} (hF : (E.F f).isSome = true) {k : Kn} {m : Nat} (h : k.saysF (callX E m f k.args k.st) = true) : KnOk E.P f k :=
  fun base w0 S hN hins γ w vs hS hv => kn_sndF hE.1 hE.2 hmix hG hF k ⟨m, h⟩ base w0 S hN hins γ w vs hS hv
end Go.Ax
