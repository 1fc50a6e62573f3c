/-
  The table again, looked at faster.
-/
import Derived.Test.YtjgknelmjdallaaGreatDoorFdTt
noncomputable section
namespace Go.Ax
open Go.RowKit
set_option linter.unusedVariables false
set_option linter.unusedSimpArgs false
def eqLF (ih : AV → AV → Bool) (l : List AV) : List AV → Bool := List.rec (motive := fun _ => List AV → Bool) (fun m => List.rec (motive := fun _ => Bool) true (fun _ _ _ => false) m) (fun a _ ihl m => List.rec (motive := fun _ => Bool) false (fun b r _ => Bool.rec false (ihl r) (ih a b)) m) l
def andF (x y : Bool) : Bool := Bool.rec false y x
structure P4 where
  a : Nat
  b : Nat
  c : Nat
  d : Nat
structure P3L where
  a : Nat
  b : Nat
  c : Nat
  d : List AV
structure P2 where
  a : Nat
  b : Nat
def asV (b : AV) : Option (Value) := AV.casesOn (motive_1 := fun _ => Option (Value)) b (fun x => some x) none (fun _ _ => none) (fun _ => none) none (fun _ _ _ _ => none) none (fun _ => none) (fun _ _ _ => none) (fun _ _ => none) (fun _ => none) (fun _ => none) (fun _ _ _ _ => none)
def asNilp (b : AV) : Option (Unit) := AV.casesOn (motive_1 := fun _ => Option (Unit)) b (fun _ => none) (some ()) (fun _ _ => none) (fun _ => none) none (fun _ _ _ _ => none) none (fun _ => none) (fun _ _ _ => none) (fun _ _ => none) (fun _ => none) (fun _ => none) (fun _ _ _ _ => none)
def asPtr (b : AV) : Option (P2) := AV.casesOn (motive_1 := fun _ => Option (P2)) b (fun _ => none) none (fun x y => some ⟨x, y⟩) (fun _ => none) none (fun _ _ _ _ => none) none (fun _ => none) (fun _ _ _ => none) (fun _ _ => none) (fun _ => none) (fun _ => none) (fun _ _ _ _ => none)
def asNils (b : AV) : Option (Unit) := AV.casesOn (motive_1 := fun _ => Option (Unit)) b (fun _ => none) none (fun _ _ => none) (fun _ => none) (some ()) (fun _ _ _ _ => none) none (fun _ => none) (fun _ _ _ => none) (fun _ _ => none) (fun _ => none) (fun _ => none) (fun _ _ _ _ => none)
def asSl (b : AV) : Option (P3L) := AV.casesOn (motive_1 := fun _ => Option (P3L)) b (fun _ => none) none (fun _ _ => none) (fun _ => none) none (fun x y z u => some ⟨x, y, z, u⟩) none (fun _ => none) (fun _ _ _ => none) (fun _ _ => none) (fun _ => none) (fun _ => none) (fun _ _ _ _ => none)
def asNilm (b : AV) : Option (Unit) := AV.casesOn (motive_1 := fun _ => Option (Unit)) b (fun _ => none) none (fun _ _ => none) (fun _ => none) none (fun _ _ _ _ => none) (some ()) (fun _ => none) (fun _ _ _ => none) (fun _ _ => none) (fun _ => none) (fun _ => none) (fun _ _ _ _ => none)
def asMap (b : AV) : Option (Nat) := AV.casesOn (motive_1 := fun _ => Option (Nat)) b (fun _ => none) none (fun _ _ => none) (fun _ => none) none (fun _ _ _ _ => none) none (fun x => some x) (fun _ _ _ => none) (fun _ _ => none) (fun _ => none) (fun _ => none) (fun _ _ _ _ => none)
def asAgg (b : AV) : Option (List AV) := AV.casesOn (motive_1 := fun _ => Option (List AV)) b (fun _ => none) none (fun _ _ => none) (fun _ => none) none (fun _ _ _ _ => none) none (fun _ => none) (fun _ _ _ => none) (fun _ _ => none) (fun x => some x) (fun _ => none) (fun _ _ _ _ => none)
def asBs (b : AV) : Option (P4) := AV.casesOn (motive_1 := fun _ => Option (P4)) b (fun _ => none) none (fun _ _ => none) (fun _ => none) none (fun _ _ _ _ => none) none (fun _ => none) (fun _ _ _ => none) (fun _ _ => none) (fun _ => none) (fun _ => none) (fun x y z u => some ⟨x, y, z, u⟩)
abbrev Cmp := (AV → AV → Bool) → AV → Bool
def cV (x : Value) : Cmp := fun _ b => Option.rec (motive := fun _ => Bool) false (fun y => eqVal x y) (asV b)
def cNilp : Cmp := fun _ b => Option.rec (motive := fun _ => Bool) false (fun _ => true) (asNilp b)
def cPtr (x y : Nat) : Cmp := fun _ b => Option.rec (motive := fun _ => Bool) false (fun p => andF (Nat.beq x p.a) (Nat.beq y p.b)) (asPtr b)
def cNils : Cmp := fun _ b => Option.rec (motive := fun _ => Bool) false (fun _ => true) (asNils b)
def cSl (t o z : Nat) (es : List AV) : Cmp := fun ih b => Option.rec (motive := fun _ => Bool) false (fun p => andF (Nat.beq t p.a) (andF (Nat.beq o p.b) (andF (Nat.beq z p.c) (eqLF ih es p.d)))) (asSl b)
def cNilm : Cmp := fun _ b => Option.rec (motive := fun _ => Bool) false (fun _ => true) (asNilm b)
def cMap (x : Nat) : Cmp := fun _ b => Option.rec (motive := fun _ => Bool) false (fun y => Nat.beq x y) (asMap b)
def cAgg (cs : List AV) : Cmp := fun ih b => Option.rec (motive := fun _ => Bool) false (fun ds => eqLF ih cs ds) (asAgg b)
def cBs (x y z u : Nat) : Cmp := fun _ b => Option.rec (motive := fun _ => Bool) false (fun p => andF (Nat.beq x p.a) (andF (Nat.beq y p.b) (andF (Nat.beq z p.c) (Nat.beq u p.d)))) (asBs b)
def cNo1 (_ : List AV) : Cmp := fun _ _ => false
def cNoF (_ : Fn) (_ _ : List AV) : Cmp := fun _ _ => false
def cNoI (_ : TypeId) (_ : AV) : Cmp := fun _ _ => false
def eqH (a : AV) : Cmp := AV.casesOn (motive_1 := fun _ => Cmp) a cV cNilp cPtr cNo1 cNils cSl cNilm cMap cNoF cNoI cAgg cNo1 cBs
def eqF (n : Nat) : AV → AV → Bool := Nat.rec (motive := fun _ => AV → AV → Bool) (fun _ _ => false) (fun _ ih a b => eqH a ih b) n
theorem andF_eq {x y : Bool} (h : andF x y = true) : x = true ∧ y = true := by cases x <;> cases y <;> simp_all [andF]
theorem eqLF_eq {ih : AV → AV → Bool} (hi : ∀ a b, ih a b = true → a = b) : ∀ (l m : List AV), eqLF ih l m = true → l = m
  | [], [], _ => rfl
  | [], _ :: _, h => by cases h
  | _ :: _, [], h => by cases h
  | a :: r, b :: s, h => by
    have e : eqLF ih (a :: r) (b :: s) = Bool.rec false (eqLF ih r s) (ih a b) := rfl
    rw [e] at h
    cases hx : ih a b with
    | false => rw [hx] at h; cases h
    | true => rw [hx] at h; rw [hi a b hx, eqLF_eq hi r s h]
theorem eqF_eq : ∀ (n : Nat) (a b : AV), eqF n a b = true → a = b
  | 0, _, _, h => by cases h
  | n + 1, a, b, h => by
    have ih := eqF_eq n
    cases a <;> cases b <;> first | (cases h; done) | rfl | skip
    · rw [eqVal_eq h]
    · obtain ⟨h1, h2⟩ := andF_eq h
      rw [nb h1, nb h2]
    · obtain ⟨h1, h⟩ := andF_eq h
      obtain ⟨h2, h⟩ := andF_eq h
      obtain ⟨h3, h⟩ := andF_eq h
      rw [nb h1, nb h2, nb h3, eqLF_eq ih _ _ h]
    · rw [nb h]
    · rw [eqLF_eq ih _ _ h]
    · obtain ⟨h1, h⟩ := andF_eq h
      obtain ⟨h2, h⟩ := andF_eq h
      obtain ⟨h3, h⟩ := andF_eq h
      rw [nb h1, nb h2, nb h3, nb h]
theorem eqL_refl_of {l m : List AV} (h : l = m) (hm : eqL m m = true) : eqL l m = true := by rw [h]; exact hm
/-- A box as a table has it. -/
def sameF (a : Option Cell) (b : Cell) : Bool := Option.rec (motive := fun _ => Bool) false (fun c => Cell.casesOn (motive := fun _ => Bool) c
  (fun cs => Cell.casesOn (motive := fun _ => Bool) b (fun ds => eqLF (eqF 12) cs ds) (fun _ => false) (fun _ => false))
  (fun m => Cell.casesOn (motive := fun _ => Bool) b (fun _ => false) (fun k => Nat.beq m k) (fun _ => false))
  (fun es => Cell.casesOn (motive := fun _ => Bool) b (fun _ => false) (fun _ => false) (fun ds => eqM es ds))) a
theorem sameF_eq {a : Option Cell} {b : Cell} (h : sameF a b = true) : a = some b := by
  cases a with
  | none => cases h
  | some c =>
    cases c <;> cases b <;> first | (cases h; done) | skip
    · rw [eqLF_eq (eqF_eq 12) _ _ h]
    · rw [nb h]
    · rw [eqM_eq h]
theorem kn_snd {E : Env} (hE : E.Ok) (hI : IntrOk E) (hmix : E.P.follows .mixedOrders = true) (hG : E.G = fun _ => none) {f : FuncId} (hF : (E.F f).isSome = true) (k : Kn) (hk : ∃ m, k.says (callX E m f k.args k.st) = true) (base : Nat) (w0 : World) (S : St) (hN : k.N = S.next) (hins : ∀ p ∈ k.ins, S.mem.get p.1 = some p.2) (γ : Gh) (w : World) (vs : List Value) (hS : SR base w0 γ S w) (hv : VRL γ w k.args vs) :
    Calls E.P f vs.toArray w (RetOk base w0 γ S w (.ret k.res ⟨k.M, ofL S.mem k.outs⟩)) := by
  have hs : ∀ id c, k.st.mem.get id = some c → S.mem.get id = some c := fun id c h => by
    rcases ofL_get .leaf _ id c h with h | ⟨_, h⟩
    · obtain ⟨p, hp, he⟩ := List.mem_map.1 h
      injection he with e1 e2
      injection e2 with e2
      rw [← e1, ← e2]; exact hins _ hp
    · rw [T.get_leaf] at h; cases h
  obtain ⟨q1, q2⟩ := hS.sub (S0 := k.st) hN hs
  obtain ⟨m, hm⟩ := hk
  cases hr : callX E m f k.args k.st with
  | fail => rw [hr] at hm; cases hm
  | pan a S1 => rw [hr] at hm; cases hm
  | ret a S1 =>
    rw [hr] at hm
    unfold Kn.says at hm
    simp only [Bool.and_eq_true] at hm
    obtain ⟨⟨⟨m1, m2⟩, m3⟩, m4⟩ := hm
    have m1 := eqA_eq m1
    subst m1
    have m2 := nb m2
    have := callX_ok hE hI hmix m base w0 f k.args k.st (by rw [hr]; exact fun e => by cases e) γ w vs q1 (by rw [hG]; exact GR.none) hv hF
    rw [hr] at this
    refine this.mono fun en w' he => ?_
    obtain ⟨γ', v, j1, j2, j3, rfl⟩ := he
    obtain ⟨r1, r2⟩ := hS.join (S0 := k.st) (Sj := ⟨k.M, ofL S.mem k.outs⟩) hN hs j1 j2 m2.symm (fun id c h => by
      have h : (ofL S.mem k.outs).get id = some c := h
      rcases ofL_get S.mem k.outs id c h with h | ⟨h1, h2⟩
      · exact .inl (sameC_eq (by have := List.all_eq_true.1 m3 _ h; exact this))
      · refine .inr ⟨?_, h2⟩
        cases hq : k.st.mem.get id with
        | none => rfl
        | some d =>
          exfalso
          rcases ofL_get .leaf _ id d hq with h3 | ⟨_, h3⟩
          · obtain ⟨p0, hp0, he0⟩ := List.mem_map.1 h3
            injection he0 with g1 g2
            have h4 := List.all_eq_true.1 m4 _ hp0
            rw [g1] at h4
            obtain ⟨q, hq1, hq2⟩ := List.any_eq_true.1 h4
            have := nb hq2
            obtain ⟨qi, qc⟩ := q
            have hqi : qi = id := this
            subst hqi
            exact h1 qc hq1
          · rw [T.get_leaf] at h3; cases h3)
    exact ⟨γ', v, r1, r2, j3, rfl⟩
def Kn.fitsF (k : Kn) (args : List AV) (S : St) : Bool := andF (eqLF (eqF 12) args k.args) (k.ins.all (fun p => sameF (S.mem.get p.1) p.2))
def tabF (ks : List Kn) (g : List AV → St → R) (args : List AV) (S : St) : R := List.rec (motive := fun _ => R) (g args S) (fun k _ ih => Bool.rec ih (Bool.rec .fail (.ret k.res ⟨k.M, ofL S.mem k.outs⟩) (k.fitsF args S)) (Nat.beq k.N S.next)) ks
theorem tabF_snd {E : Env} (hE : E.Ok) (hI : IntrOk E) (hmix : E.P.follows .mixedOrders = true) (hG : E.G = fun _ => none) {f : FuncId} (hF : (E.F f).isSome = true) {g : List AV → St → R} (hg : Sound E.P f g) :
    ∀ (ks : List Kn), (∀ k ∈ ks, ∃ m, k.says (callX E m f k.args k.st) = true) → Sound E.P f (tabF ks g)
  | [], _, base, w0, args, S, hne, γ, w, vs, hS, hv => hg base w0 args S hne γ w vs hS hv
  | k :: ks, hks, base, w0, args, S, hne, γ, w, vs, hS, hv => by
    have e : tabF (k :: ks) g args S = Bool.rec (tabF ks g args S) (Bool.rec .fail (.ret k.res ⟨k.M, ofL S.mem k.outs⟩) (k.fitsF args S)) (Nat.beq k.N S.next) := rfl
    cases hN : Nat.beq k.N S.next with
    | false =>
      have e2 : tabF (k :: ks) g args S = tabF ks g args S := by rw [e, hN]
      rw [e2] at hne ⊢
      exact tabF_snd hE hI hmix hG hF hg ks (fun k hk => hks k (List.mem_cons_of_mem _ hk)) base w0 args S hne γ w vs hS hv
    | true =>
      cases hf : k.fitsF args S with
      | false => exact absurd (by rw [e, hN, hf]) hne
      | true =>
        have e2 : tabF (k :: ks) g args S = .ret k.res ⟨k.M, ofL S.mem k.outs⟩ := by rw [e, hN, hf]
        rw [e2]
        have hN := nb hN
        obtain ⟨f1, f2⟩ := andF_eq hf
        have ha := eqLF_eq (eqF_eq 12) _ _ f1
        subst ha
        have hins : ∀ p ∈ k.ins, S.mem.get p.1 = some p.2 := fun p hp => sameF_eq (List.all_eq_true.1 f2 p hp)
        exact kn_snd hE hI hmix hG hF k (hks k (List.mem_cons_self ..)) base w0 S hN hins γ w vs hS hv
/-- The same, and nothing known of one function. -/
def noI (E : Env) (f : FuncId) : Env := { P := E.P, G := E.G, F := E.F, I := fun k => Bool.rec (E.I k) none (Nat.beq k f), M := E.M }
/-- A call whose body is run, and whose calls are E's. -/
noncomputable def bodyX (E : Env) (f : FuncId) (args : List AV) (S : St) : R := (fnB (noI E f) f).f (callX E 2000) args S
theorem noI_ok {E : Env} (h : E.Ok) (f : FuncId) : (noI E f).Ok := ⟨fun k fn hk => h.fn k fn hk⟩
theorem noI_intr {E : Env} (hI : IntrOk E) (f : FuncId) : IntrOk (noI E f) := fun k g' hk base w0 args S hne γ w vs hS hG hv => by
  have hk2 : (Bool.rec (E.I k) none (Nat.beq k f) : Option (List AV → St → R)) = some g' := hk
  cases hb : Nat.beq k f with
  | false => rw [hb] at hk2; exact hI k g' hk2 base w0 args S hne γ w vs hS hG hv
  | true => rw [hb] at hk2; cases hk2
theorem body_snd {E : Env} (hE : E.Ok) (hI : IntrOk E) (hmix : E.P.follows .mixedOrders = true) (hG : E.G = fun _ => none) {f : FuncId} (hF : (E.F f).isSome = true) : Sound E.P f (bodyX E f) := fun base w0 args S hne γ w vs hS hv => by
  have hck : CkF (noI E f) (callX E 2000) := callX_F (E := E) 2000
  rcases fnB_ok hck f args S with h2 | ⟨_, j, h2⟩
  · exact absurd h2 hne
  · have e : bodyX E f args S = stepF (noI E f) (runC (noI E f) (drawnNew (noI E f)) (callX E 2000) j) f args S := h2
    rw [e] at hne ⊢
    exact stepF_sound (noI_ok hE f) (noI_intr hI f) (runC_sound (noI_ok hE f) (drawnNew_ok (noI_ok hE f) hmix) (callX_ok hE hI hmix 2000) j) base w0 f args S hne γ w vs hS (by have h9 : (noI E f).G = fun _ => none := hG; rw [h9]; exact GR.none) hv hF
/-- So many levelsF of calls, in the last of which the table is looked at first. -/
noncomputable def levelsF (E : Env) (f : FuncId) (ks : List Kn) : Nat → Env
  | 0 => E
  | n + 1 => withI E f (tabF ks (bodyX (levelsF E f ks n) f))
theorem levelsF_same (E : Env) (f : FuncId) (ks : List Kn) : ∀ n, (levelsF E f ks n).P = E.P ∧ (levelsF E f ks n).G = E.G ∧ (levelsF E f ks n).F = E.F
  | 0 => ⟨rfl, rfl, rfl⟩
  | n + 1 => ⟨rfl, rfl, rfl⟩
theorem levelsF_ok {E E0 : Env} (hE : E.Ok) (hI : IntrOk E) (hmix : E.P.follows .mixedOrders = true) (hG : E.G = fun _ => none) {f : FuncId} (hF : (E.F f).isSome = true) (hE0 : E0.Ok) (hI0 : IntrOk E0) (hP0 : E0.P = E.P) (hG0 : E0.G = fun _ => none) (hF0 : E0.F = E.F) (ks : List Kn) (hk : ∀ k ∈ ks, ∃ m, k.says (callX E0 m f k.args k.st) = true) :
    ∀ n, (levelsF E f ks n).Ok ∧ IntrOk (levelsF E f ks n)
  | 0 => ⟨hE, hI⟩
  | n + 1 => by
    obtain ⟨h1, h2⟩ := levelsF_ok hE hI hmix hG hF hE0 hI0 hP0 hG0 hF0 ks hk n
    obtain ⟨p1, p2, p3⟩ := levelsF_same E f ks n
    refine ⟨withI_ok hE f _, withI_intr hI ?_⟩
    have hr : Sound E0.P f (bodyX (levelsF E f ks n) f) := by
      have := body_snd h1 h2 (by rw [p1]; exact hmix) (by rw [p2]; exact hG) (f := f) (by rw [p3]; exact hF)
      rw [hP0, ← p1]; exact this
    have := tabF_snd hE0 hI0 (by rw [hP0]; exact hmix) hG0 (f := f) (by rw [hF0]; exact hF) hr ks hk
    rw [hP0] at this
    exact this
end Go.Ax
