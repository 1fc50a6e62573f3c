/-
  Runs reasoned over: calls; clocks' On, Same and Equal as calls.
-/
import Derived.Test.YtddjnjhhkffjgaaGreatDoorCoCa
noncomputable section
namespace Go.Ax
open Go.RowKit Go.Proofs
set_option linter.unusedVariables false
set_option linter.unusedSimpArgs false
set_option maxRecDepth 100000
def callC (E : Env) (m : Nat) : CallK := Nat.rec (motive := fun _ => CallK) (fun _ _ _ => .fail) (fun _ ih => stepF E (runC E (drawnNew E) ih 5000)) m
theorem callC_ok {E : Env} (hE : E.Ok) (hI : IntrOk E) (hmix : E.P.follows .mixedOrders = true) : ∀ m base w0, CallOk E base w0 (callC E m)
  | 0, base, w0 => fun k args S h => absurd rfl h
  | m + 1, base, w0 => stepF_sound hE hI (runC_sound hE (drawnNew_ok hE hmix) (callC_ok hE hI hmix m) 5000) base w0
theorem callC_fn {E : Env} {m : Nat} {k : FuncId} {fn : Func} {args : List AV} {S : St} (hI : E.I k = none) (hF : E.F k = some fn) (hb : fn.body.isSome = true) (hl : args.length ≤ fn.ntmps) :
    callC E (m + 1) k args S = endA E (runC E (drawnNew E) (callC E m) 5000) fn (runC E (drawnNew E) (callC E m) 5000 fn.ntmps (fn.body.getD .skip) ⟨initT args 0, []⟩ S) := by
  obtain ⟨c, hc⟩ := Option.isSome_iff_exists.1 hb
  show stepF E (runC E (drawnNew E) (callC E m) 5000) k args S = _
  unfold stepF
  rw [hI, hF]
  simp only [hc, if_pos hl, Option.getD_some]
theorem endA_ret {E : Env} {rec : Nat → Code → Fr → St → O} {fn : Func} {f : T AV} {S : St} {t : Tmp} {a : AV} (hr : fn.results = #[.tmp t]) (ha : f.get t = some a) : endA E rec fn (.out .ret ⟨f, []⟩ S) = .ret a S := by
  simp only [endA, giveA, hr, resultsA, ha, tupA]
theorem on_call (m : Nat) (a : AV) (es : List AV) (s : ByteArray) (b : Bool) (S : St) (ha : isRow a es) (hlen : es.length ≤ 1000) :
    callC E1 (m + 1) 18 [a, .v (.string s), .v (.bool b)] S = .ret (.sl S.next 0 2 (es ++ [G s b])) (S.grown 1 ((es ++ [G s b]).length * 2)) := by
  rw [callC_fn (fn := Tryz.f18) (by kernel_rfl) (by kernel_rfl) (by kernel_rfl) (show _ ≤ _ from by show (_ : Nat) ≤ _; simp [Tryz.f18, Tryz.f40, Tryz.f19])]
  obtain ⟨f, h1, h2⟩ := on_run 4990 (callC E1 m) a es s b S ha hlen
  have h1' : runC E1 (drawnNew E1) (callC E1 m) 5000 Tryz.f18.ntmps (Tryz.f18.body.getD .skip) ⟨initT [a, .v (.string s), .v (.bool b)] 0, []⟩ S = .out .ret ⟨f, []⟩ (S.grown 1 ((es ++ [G s b]).length * 2)) := h1
  rw [h1']
  exact endA_ret rfl h2
theorem equal_call (m : Nat) (a b : AV) (l k : List Gd) (S : St) (ha : isRow a (gA l)) (hb : isRow b (gA k)) (hl : l.length ≤ 1000) :
    callC E1 (m + 1) 40 [a, b] S = .ret (.v (.bool (decide (l = k)))) S := by
  rw [callC_fn (fn := Tryz.f40) (by kernel_rfl) (by kernel_rfl) (by kernel_rfl) (show _ ≤ _ from by show (_ : Nat) ≤ _; simp [Tryz.f18, Tryz.f40, Tryz.f19])]
  obtain ⟨f, h1, h2⟩ := equal_run (callC E1 m) (4970 - l.length) a b l k S ha hb hl
  have h1' : runC E1 (drawnNew E1) (callC E1 m) 5000 Tryz.f40.ntmps (Tryz.f40.body.getD .skip) ⟨initT [a, b] 0, []⟩ S = .out .ret ⟨f, []⟩ S := by
    have e : 4970 - l.length + l.length + 30 = 5000 := by omega
    rw [e] at h1; exact h1
  rw [h1']
  exact endA_ret rfl h2
theorem fn40 : (E1.F 40).isSome = true := by kernel_rfl
theorem fn18 : (E1.F 18).isSome = true := by kernel_rfl
theorem fn19 : (E1.F 19).isSome = true := by kernel_rfl
theorem same_call (m : Nat) (a b : AV) (l k : List Gd) (S : St) (ha : isRow a (gA l)) (hb : isRow b (gA k)) (hl : l.length ≤ 1000) :
    callC E1 (m + 2) 19 [a, b] S = .ret (.v (.bool (decide (l = k)))) S := by
  rw [callC_fn (fn := Tryz.f19) (by kernel_rfl) (by kernel_rfl) (by kernel_rfl) (show _ ≤ _ from by show (_ : Nat) ≤ _; simp [Tryz.f18, Tryz.f40, Tryz.f19])]
  have hc := equal_call m a b l k S ha hb hl
  obtain ⟨fn, hfn⟩ := Option.isSome_iff_exists.1 fn40
  have h1 : ∃ f, runC E1 (drawnNew E1) (callC E1 (m + 1)) (4990 + 10) 8 (Tryz.f19.body.getD .skip) ⟨initT [a, b] 0, []⟩ S = .out .ret ⟨f, []⟩ S ∧ f.get 4 = some (.v (.bool (decide (l = k)))) := by
    simp only [Tryz.f19, Option.getD_some]
    simp only [seq_run, region_run, ret_run, runL_cons, runL_nil, stepO, wantedA, exec1, evalO, initT, T.get_set, T.get_leaf, putA, callA, mapO, ofOpt, ofConst, e1_P, e1_G, Nat.reduceLT, Nat.reduceAdd, Nat.reduceEqDiff, if_true, if_false, reduceIte, hfn, List.nil_append, List.append_nil, hc]
    exact ⟨_, rfl, by simp only [T.get_set, if_true]⟩
  obtain ⟨f, h1, h2⟩ := h1
  have h1' : runC E1 (drawnNew E1) (callC E1 (m + 1)) 5000 Tryz.f19.ntmps (Tryz.f19.body.getD .skip) ⟨initT [a, b] 0, []⟩ S = .out .ret ⟨f, []⟩ S := h1
  rw [h1']
  exact endA_ret rfl h2
/-- A drawn region that one order stands for. -/
theorem drawn_steps {E : Env} {ck : CallK} {n : Nat} {ops : Array Oper} {rs : List RS} (h1 : flFind E.P ops = none) (h2 : static ops (bm ops.toList []) (eager ops (bm ops.toList []) ops.size (List.range ops.size) 0) = true)
    (h3 : stepsD ops (bm ops.toList []) (eager ops (bm ops.toList []) ops.size (List.range ops.size) 0) [] = some rs) {f : Fr} {S : St} {f' : Fr} {S' : St} (hx : runRS E ck n ops rs f S = .out .normal f' S') : drawnNew E ck n ops f S = .out .normal f' S' := by
  unfold drawnNew
  rw [h1]
  simp only
  unfold drawnRun
  simp only
  rw [if_pos h2]
  rcases drun_steps (E := E) (ck := ck) (n := n) (fb := ⟨eraseT ops.toList f.tmps, f.dfr⟩) _ rs f S [] h3 (fun _ h => absurd h List.not_mem_nil) with h | h
  · rw [hx] at h; cases h
  · rw [h, hx]; rfl
end Go.Ax
