/-
  A function that ends with one deferred function, which may recover: reasoned over.
-/
import Derived.Test.YtjgknelmjdallaaGreatDoorPlHa2
noncomputable section
namespace Go.Ax
open Go.RowKit
set_option linter.unusedVariables false
set_option linter.unusedSimpArgs false
/-- A deferred function that begins with recover: what it is handed, and what holds D6 it. -/
def bI (E : Env) (k : FuncId) (args : List AV) (S : St) (m : Option AV) (K : St → Prop) : Prop :=
  ∃ fn id ops rest o d, E.F k = some fn ∧ fn.body = some (.seq (.region id ops false) rest) ∧ ops.toList = [o] ∧ Sa o = some d ∧ args.length ≤ fn.ntmps ∧ d < fn.ntmps ∧ fn.results.toList = [] ∧
    WX E fn.ntmps rest ⟨(C1 args 0).set d (some (m.getD (.v .nilIface))), []⟩ S (fun r => ∃ f' S', (r = .out .normal f' S' ∨ r = .out .ret f' S') ∧ f'.dfr = [] ∧ K S')
def Po (E : Env) (rs : List ResultVar) (f : Fr) (S : St) (Q : R → Prop) : Prop := match Bj E f.tmps S rs with
  | some l => Q (.ret (Df l) S)
  | none => False
def nL (E : Env) (rs : List ResultVar) (Q : R → Prop) : O → Prop
  | .out e f S => match f.dfr with
    | [] => jL E rs Q (.out e f S)
    | [⟨.func k, caps, args⟩] => match e with
      | .normal => bI E k (args ++ caps) S none (fun S' => Po E rs f S' Q)
      | .ret => bI E k (args ++ caps) S none (fun S' => Po E rs f S' Q)
      | .pan a => bI E k (args ++ caps) S (some a) (fun S' => Po E rs f S' Q)
      | _ => False
    | _ => False
  | .fail => False
theorem P6 {E : Env} {k : FuncId} {args : List AV} {S : St} {m : Option AV} {K : St → Prop} (h : bI E k args S m K) : ∃ S' m0, K S' ∧ ∀ n, m0 ≤ n → bJ E (run E (Dr E) n) k args S m = .ok m.isSome S' := by
  obtain ⟨fn, id, ops, rest, o, d, h1, h2, h3, h4, h5, h6, h7, r, ⟨m0, hm⟩, f', S', hr, hd, hK⟩ := h
  refine ⟨S', m0, hK, fun n hn => ?_⟩
  have hx := hm n hn
  unfold bJ
  simp only [h1,h2,h3,h4]
  rw [if_pos ⟨h5, h6⟩, hx]
  rcases hr with rfl | rfl <;> simp only [hd,h7]
theorem WC_dfr {E : Env} {k : FuncId} {args : List AV} {S : St} {Q : R → Prop} (fn : Func) (hI : E.I k = none) (hF : E.F k = some fn) (hb : fn.body.isSome = true) (hl : args.length ≤ fn.ntmps)
    (h : WX E fn.ntmps (fn.body.getD .skip) ⟨C1 args 0, []⟩ S (nL E fn.results.toList Q)) : WC E k args S Q := by
  obtain ⟨r, ⟨m0, hm⟩, hq⟩ := h
  obtain ⟨c, hc⟩ := Option.isSome_iff_exists.1 hb
  have key : ∀ m, m0 ≤ m → ckN E m k args S = Q7 E (run E (Dr E) m) fn r := fun m hmm => by
    show Iw E (run E (Dr E) m) k args S = _
    unfold Iw
    rw [hI, hF]
    simp only [hc,if_pos hl]
    have := hm m hmm
    rw [hc] at this
    rw [show run E (Dr E) m fn.ntmps c ⟨C1 args 0, []⟩ S = r from this]
  cases r with
  | fail => exact hq.elim
  | out e f' S' =>
    simp only [nL] at hq
    split at hq
    · rename_i hd
      have give : ∀ (S' : St), C4 E fn.results.toList f' S' Q → ∃ l, Bj E f'.tmps S' fn.results.toList = some l ∧ Q (.ret (Df l) S') := fun S' hg => by
        unfold C4 at hg
        split at hg
        · rename_i l h1 h2; exact ⟨l, h2, hg⟩
        · exact hg.elim
      cases e with
      | normal =>
        obtain ⟨l, h2, h3⟩ := give S' hq
        exact ⟨_, ⟨m0, fun m hmm => by rw [key m hmm]; simp only [Q7,hd,Jn,h2]⟩, h3⟩
      | ret =>
        obtain ⟨l, h2, h3⟩ := give S' hq
        exact ⟨_, ⟨m0, fun m hmm => by rw [key m hmm]; simp only [Q7,hd,Jn,h2]⟩, h3⟩
      | pan a => exact ⟨_, ⟨m0, fun m hmm => by rw [key m hmm]; simp only [Q7,hd]⟩, hq.2⟩
      | exit id => exact hq.elim
    · rename_i k' caps args' hd
      have give : ∀ (S' : St), Po E fn.results.toList f' S' Q → ∃ l, Bj E f'.tmps S' fn.results.toList = some l ∧ Q (.ret (Df l) S') := fun S' hg => by
        unfold Po at hg
        split at hg
        · rename_i l h2; exact ⟨l, h2, hg⟩
        · exact hg.elim
      cases e with
      | normal =>
        obtain ⟨S2, m1, hK, h1⟩ := P6 hq
        obtain ⟨l, h2, h3⟩ := give S2 hK
        exact ⟨_, ⟨max m0 m1, fun m hmm => by rw [key m (by omega)]; simp only [Q7, hd, h1 m (by omega), Jn, h2]⟩, h3⟩
      | ret =>
        obtain ⟨S2, m1, hK, h1⟩ := P6 hq
        obtain ⟨l, h2, h3⟩ := give S2 hK
        exact ⟨_, ⟨max m0 m1, fun m hmm => by rw [key m (by omega)]; simp only [Q7, hd, h1 m (by omega), Jn, h2]⟩, h3⟩
      | pan a =>
        obtain ⟨S2, m1, hK, h1⟩ := P6 hq
        obtain ⟨l, h2, h3⟩ := give S2 hK
        exact ⟨_, ⟨max m0 m1, fun m hmm => by rw [key m (by omega)]; simp only [Q7, hd, h1 m (by omega), Jn, h2]⟩, h3⟩
      | exit id => exact hq.elim
    · exact hq.elim
end Go.Ax
