/-
  Numbers that are cut to size; a frame of a number and a truth.
-/
import Derived.Test.YtgnohckncmhodaaGreatDoorClG9
import Derived.ProofKit
import Derived.Lib.Hide
import Derived.Laws.BitsLemmas
import Derived.IntWalk
import Derived.Laws.Unary
import Derived.Test.YtgnohckncmhodaaGreatDoorClZbLg
set_option linter.unusedVariables false
set_option linter.unusedSimpArgs false
set_option maxHeartbeats 16000000
noncomputable section
namespace Go.Ax
open Go.RowKit Go.Proofs
set_option linter.unusedVariables false
set_option linter.unusedSimpArgs false
set_option maxRecDepth 100000
theorem and_any (x : Int) (m : Nat) (hm : m < 65536) : ∃ n : Nat, n ≤ m ∧ bits .and .i64 x (m : Int) = (n : Int) := by
  unfold bits
  simp only
  have h : (BitVec.ofInt IntKind.i64.bits x &&& BitVec.ofInt IntKind.i64.bits (m : Int)).toNat ≤ m := by
    rw [BitVec.toNat_and]
    refine Nat.le_trans Nat.and_le_right ?_
    have e : (BitVec.ofInt IntKind.i64.bits (m : Int)).toNat = m := by
      rw [BitVec.ofInt_natCast, BitVec.toNat_ofNat]
      exact Nat.mod_eq_of_lt (Nat.lt_of_lt_of_le hm (by decide))
    rw [e]; exact Nat.le_refl _
  exact ⟨_, h, IntWalk.i64_in _ (by omega)⟩
theorem and_mod (x : Int) (m q : Nat) (hm : m < 65536) (hq : 0 < q) : ∃ k : Nat, k < q ∧ (bits .and .i64 x (m : Int)).tmod (q : Int) = (k : Int) := by
  obtain ⟨n, hn, he⟩ := and_any x m hm
  refine ⟨n % q, Nat.mod_lt _ hq, ?_⟩
  rw [he, Int.tmod_eq_emod_of_nonneg (by omega)]
  exact (Int.natCast_emod n q).symm
/-- The frame by then: the number, the choice. -/
def fr (k : Int) (b : Bool) : T AV := (T.leaf.set 0 (some (.v (.int .i64 k)))).set 1 (some (.v (.bool b)))
theorem fr_ok {k : Int} {b : Bool} {w : World} {tmps : Array Value} (h0 : tmps[0]? = some (.int .i64 k)) (h1 : tmps[1]? = some (.bool b)) : FR Gh0 w (fr k b) tmps := by
  intro t a h
  unfold fr at h
  rw [T.get_set, T.get_set, T.get_leaf] at h
  split at h
  · rename_i e; subst e
    injection h with h; subst h
    obtain ⟨hl, he⟩ := Array.getElem?_eq_some_iff.1 h1
    exact ⟨hl, by simp only [Array.getD_eq_getD_getElem?, h1, Option.getD_some]; exact .v _ rfl⟩
  · split at h
    · rename_i e; subst e
      injection h with h; subst h
      obtain ⟨hl, he⟩ := Array.getElem?_eq_some_iff.1 h0
      exact ⟨hl, by simp only [Array.getD_eq_getD_getElem?, h0, Option.getD_some]; exact .v _ rfl⟩
    · cases h
end Go.Ax
noncomputable section
namespace Go.Ax
open Go.RowKit
set_option linter.unusedVariables false
set_option linter.unusedSimpArgs false
mutual
/-- The same value, with no name of the run's own. -/
def clean : AV → AV
  | .sl _ _ sz es => .sl 0 0 sz (cleanL es)
  | .agg cs => .agg (cleanL cs)
  | .tup vs => .tup (cleanL vs)
  | .v x => .v x
  | .nilp => .nilp
  | .nils => .nils
  | .nilm => .nilm
  | .ptr a b => .ptr a b
  | .ep cs => .ep cs
  | .map id => .map id
  | .fn f a b => .fn f a b
  | .iface t x => .iface t x
  | .bs a b c d => .bs a b c d
def cleanL : List AV → List AV
  | [] => []
  | a :: r => clean a :: cleanL r
end
mutual
/-- Does it point to nothing that may change? -/
def freeV : AV → Bool
  | .sl _ _ _ es => freeL es
  | .agg cs => freeL cs
  | .tup vs => freeL vs
  | .v _ => true
  | .nilp => true
  | .nils => true
  | .nilm => true
  | .ptr _ _ => false
  | .ep _ => false
  | .map _ => false
  | .fn _ _ _ => false
  | .iface _ _ => false
  | .bs _ _ _ _ => false
def freeL : List AV → Bool
  | [] => true
  | a :: r => freeV a && freeL r
end
theorem cleanL_map : ∀ es, cleanL es = es.map clean
  | [] => rfl
  | a :: r => by rw [cleanL, cleanL_map r]; rfl
theorem freeL_all : ∀ {es}, freeL es = true → ∀ a ∈ es, freeV a = true
  | [], _, a, h => by cases h
  | b :: r, h, a, ha => by
    rw [freeL, Bool.and_eq_true] at h
    rcases List.mem_cons.1 ha with rfl | ha
    · exact h.1
    · exact freeL_all h.2 a ha
theorem clean_one (a : AV) : (clean a).one = a.one := by cases a <;> rfl
theorem clean_cells (a : AV) : (clean a).cells = a.cells.map clean := by
  cases a <;> first | rfl | skip
  · show cleanL _ = _; rw [cleanL_map]; rfl
theorem flat_clean : ∀ es : List AV, flat (es.map clean) = (flat es).map clean
  | [] => rfl
  | a :: r => by
    unfold flat
    rw [List.map_cons, List.flatMap_cons, List.flatMap_cons, List.map_append, clean_cells]
    have := flat_clean r
    unfold flat at this
    rw [this]
theorem freeV_cells {a : AV} (h : freeV a = true) : ∀ c ∈ a.cells, freeV c = true := by
  cases a with
  | agg cs => exact freeL_all h
  | _ => intro c hc; simp only [AV.cells, List.mem_cons, List.not_mem_nil, or_false] at hc; subst hc; exact h
theorem free_flat {es : List AV} (h : freeL es = true) : ∀ c ∈ flat es, freeV c = true := by
  intro c hc
  unfold flat at hc
  rw [List.mem_flatMap] at hc
  obtain ⟨e, he, hce⟩ := hc
  exact freeV_cells (freeL_all h e he) c hce
/-- What points to nothing that may change stands for the same by any names, as long as the cells that stay are known to. -/
theorem VR.clean {γ γ' : Gh} {w : World} (him : ∀ b o, γ.im b o → γ'.im b o) {a : AV} {x : Value} (h : VR γ w a x) : freeV a = true → VR γ' w (Go.Ax.clean a) x := by
  induction h with
  | v x h => intro _; exact .v x h
  | nilp => intro _; exact .nilp
  | ptr id off b s h => intro hf; cases hf
  | ep cs b o c h h1 hr ih => intro hf; cases hf
  | nils => intro _; exact .nils
  | sl tok off sz es b o cap c hsz hes h1 h hr ht hf2 hc hb ih =>
    intro hf
    have hf : freeL es = true := hf
    show VR γ' w (.sl 0 0 sz (cleanL es)) _
    rw [cleanL_map]
    have hlen : (flat (es.map Go.Ax.clean)).length = (flat es).length := by rw [flat_clean, List.length_map]
    have key := VR.sl (γ := γ') (w := w) 0 0 sz (es.map Go.Ax.clean) b o cap c hsz (fun e he => by
        obtain ⟨e', he', rfl⟩ := List.mem_map.1 he
        rw [clean_cells, List.length_map]; exact hes e' he') (fun y hy => by
        rw [flat_clean] at hy
        obtain ⟨y', hy', rfl⟩ := List.mem_map.1 hy
        rw [clean_one]; exact h1 y' hy') (fun k hk => ⟨him _ _ (h k (by rw [← hlen]; exact hk)).1, (h k (by rw [← hlen]; exact hk)).2⟩) (fun k hk => by
        have hk' : k < (flat es).length := by rw [← hlen]; exact hk
        have := ih k hk' (free_flat hf _ (List.getElem_mem hk'))
        have e : (flat (es.map Go.Ax.clean))[k] = Go.Ax.clean (flat es)[k] := by
          simp only [flat_clean, List.getElem_map]
        rw [e]; exact this) (fun h => by omega) (fun h => by omega) (by rw [List.length_map]; exact hc) hb
    rw [List.length_map] at key
    exact key
  | nilm => intro _; exact .nilm
  | map id b s h => intro hf; cases hf
  | fn f first caps x y hx hy h1 h2 ih1 ih2 => intro hf; cases hf
  | iface t a x h ih => intro hf; cases hf
  | agg cs x hx h1 h ih =>
    intro hf
    have hf : freeL cs = true := hf
    show VR γ' w (.agg (cleanL cs)) _
    rw [cleanL_map]
    refine .agg _ x (by rw [hx, List.length_map]) (fun a ha => ?_) (fun k hk hk' => ?_)
    · obtain ⟨a', ha', rfl⟩ := List.mem_map.1 ha
      rw [clean_one]; exact h1 a' ha'
    · rw [List.getElem_map]
      have hk2 : k < cs.length := by rw [List.length_map] at hk; exact hk
      exact ih k hk2 hk' (freeL_all hf _ (List.getElem_mem hk2))
  | tup vs x hx h ih =>
    intro hf
    have hf : freeL vs = true := hf
    show VR γ' w (.tup (cleanL vs)) _
    rw [cleanL_map]
    refine .tup _ x (by rw [hx, List.length_map]) (fun k hk hk' => ?_)
    rw [List.getElem_map]
    have hk2 : k < vs.length := by rw [List.length_map] at hk; exact hk
    exact ih k hk2 hk' (freeL_all hf _ (List.getElem_mem hk2))
  | bs id off n2 sz b s cap h hc hsz hb => intro hf; cases hf
/-- More cells are known to stay. -/
def Gh.more (γ γ1 : Gh) : Gh := { γ with im := fun b o => γ.im b o ∨ γ1.im b o }
theorem SR.more {base : Nat} {w0 w w' : World} {γ γ1 : Gh} {S : St} (h : SR base w0 γ S w) (hb : Below w.heap.size w w') (hi : ∀ b o, γ1.im b o → w.heap.size ≤ b ∧ ∃ v, w'.cell? ⟨b, o, none⟩ = some v) : SR base w0 (γ.more γ1) S w' ∧ Ext γ S w (γ.more γ1) S w' := by
  have hc : ∀ b o v, w.cell? ⟨b, o, none⟩ = some v → w'.cell? ⟨b, o, none⟩ = some v := fun b o v hv => (hb.cell (World.block_lt_of_cell? w _ hv)).trans hv
  have ev : Ev γ w (γ.more γ1) w' := ⟨fun _ _ h => h, fun _ _ h => .inl h, fun b o v _ hv => hc b o v hv, fun b arr T fr ha => ⟨arr, fr, (hb.block b (Array.getElem?_eq_some_iff.1 ha).1).trans ha, rfl⟩⟩
  have him : ∀ b, b < w.heap.size → ∀ o, (γ.more γ1).im b o → γ.im b o := fun b hlt o ho => ho.elim id (fun h => by have := (hi b o h).1; omega)
  refine ⟨⟨h.below.trans (hb.mono h.hbase), Nat.le_trans h.hbase hb.size, fun b o ho => ?_, h.fresh, h.pos, fun id b s e => Nat.lt_of_lt_of_le (h.inb id b s e) hb.size, fun id c e => ?_, h.inj⟩,
    ⟨ev, Nat.le_refl _, fun _ _ => rfl, hb.size, fun id c b s h l => .inr ⟨id, c, s, h, l⟩, fun b hl _ => ⟨hb.block b hl, him b hl⟩⟩⟩
  · rcases ho with ho | ho
    · obtain ⟨v, hv⟩ := h.imc b o ho; exact ⟨v, hc b o v hv⟩
    · exact (hi b o ho).2
  · obtain ⟨b, s, h1, h2, h3⟩ := h.live id c e
    exact ⟨b, s, h1, h2, h3.keep ev (hb.block b (h.inb id b s h1)) (fun o => him b (h.inb id b s h1) o)⟩
/-- What a run answers, cleaned. -/
def cleanR : R → Option AV
  | .ret a _ => Bool.rec none (some (clean a)) (freeV a)
  | _ => none
theorem memo {E : Env} (hE : E.Ok) (hI : IntrOk E) (hmix : E.P.follows .mixedOrders = true) (hG : E.G = fun _ => none) {m : Nat} {k : FuncId} {args : List AV} {a : AV} (h : cleanR (callX E m k args St0) = some a) (hF : (E.F k).isSome = true)
    {base : Nat} {w0 : World} {γ : Gh} {S : St} {w : World} {vs : List Value} (hS : SR base w0 γ S w) (hv : VRL Gh0 w args vs) : Calls E.P k vs.toArray w (RetOk base w0 γ S w (.ret a S)) := by
  cases hr : callX E m k args St0 with
  | fail => rw [hr] at h; cases h
  | pan a S => rw [hr] at h; cases h
  | ret a1 S1 =>
    rw [hr] at h
    have hne : callX E m k args St0 ≠ .fail := by rw [hr]; exact fun e => by cases e
    have := callX_ok hE hI hmix m w.heap.size w k args St0 hne Gh0 w vs (SR.start w) (by rw [hG]; exact GR.none) hv hF
    rw [hr] at this
    refine this.mono fun e w' he => ?_
    obtain ⟨γ', v, h1, h2, h3, rfl⟩ := he
    cases hf : freeV a1 with
    | false => simp only [cleanR, hf] at h; cases h
    | true =>
      simp only [cleanR, hf] at h
      injection h with h; subst h
      have hi : ∀ b o, γ'.im b o → w.heap.size ≤ b ∧ ∃ v, w'.cell? ⟨b, o, none⟩ = some v := fun b o ho => by
        refine ⟨?_, h1.imc b o ho⟩
        by_cases hlt : b < w.heap.size
        · exact ((h2.frame b hlt (fun id c s hm hl => by cases hl)).2 o ho).elim
        · omega
      obtain ⟨q1, q2⟩ := hS.more h1.below hi
      exact ⟨_, v, q1, q2, h3.clean (γ' := γ.more γ') (fun b o ho => Or.inr ho) hf, rfl⟩
end Go.Ax
noncomputable section
namespace Go.Ax
open Go.RowKit Go.Proofs
set_option linter.unusedVariables false
set_option linter.unusedSimpArgs false
set_option maxRecDepth 100000
/-- The law's text with so many blanks behind it. -/
def clT (j : Nat) : List UInt8 := [110, 111, 100, 101, 32, 102, 40, 120, 58, 32, 105, 110, 116, 41, 32, 114, 101, 116, 117, 114, 110, 115, 32, 40, 121, 58, 32, 105, 110, 116, 41, 32, 108, 101, 116, 32, 121, 32, 61, 32, 120, 32, 43, 32, 49, 59, 32, 116, 101, 108] ++ List.replicate j 32
theorem clT_len (j : Nat) : (clT j).length = 50 + j := by unfold clT; rw [List.length_append, List.length_replicate]; rfl
theorem clT_snoc (j : Nat) : clT j ++ [32] = clT (j + 1) := by unfold clT; rw [List.append_assoc, List.replicate_succ', ]
/-- Code that is known to come to its end, with nothing made. -/
theorem codeN {E : Env} (hE : E.Ok) (hI : IntrOk E) (hmix : E.P.follows .mixedOrders = true) (hG : E.G = fun _ => none) {n : Nat} {c : Code} {f : T AV} {P : T AV → Prop}
    (h : W E n c ⟨f, []⟩ St0 (fun r => ∃ f', r = .out .normal ⟨f', []⟩ St0 ∧ P f')) {Q : Exit → Act → World → Prop} {K : Act → World → Prop} {act : Act} {w : World} (hf : FR Gh0 w f act.tmps) (hn : act.tmps.size = n) (hd : act.defers = [])
    (hQ : ∀ act' w' γ' f', act'.tmps.size = n → act'.defers = [] → P f' → FR γ' w' f' act'.tmps → Below w.heap.size w w' → K act' w') : c.wp E.P (Exit.then K Q) act w := by
  obtain ⟨r, ⟨m0, hm⟩, f', rfl, hp⟩ := W_sound h
  refine (run_sound hE hI (drawnNew_ok hE hmix) m0).code w.heap.size w (Exit.then K Q) n c Gh0 St0 w ⟨f, []⟩ act (SR.start w) ⟨hf, hn, by rw [hd]; trivial⟩ (by rw [hG]; exact GR.none) ?_
  rw [hm m0 (Nat.le_refl _)]
  intro γ' act' w' h1 h2 h3
  have hd' : act'.defers = [] := by
    have hdd := h3.dfr
    cases hx : act'.defers with
    | nil => rfl
    | cons a r => rw [hx] at hdd; exact hdd.elim
  exact hQ act' w' γ' f' h3.size hd' hp h3.tmps h1.below
def clRest : Code := match Tryz.f3.body with
  | some (.seq _ (.seq _ (.seq _ (.seq _ r)))) => r
  | _ => .skip
def clLoop : Code := match Tryz.f3.body with
  | some (.seq _ (.seq _ (.seq _ (.seq _ (.seq l _))))) => l
  | _ => .skip
def clTail : Code := match Tryz.f3.body with
  | some (.seq _ (.seq _ (.seq _ (.seq _ (.seq _ r))))) => r
  | _ => .skip
def clBody : Code := match Tryz.f3.body with
  | some (.seq _ (.seq _ (.seq _ (.seq _ (.seq (.block _ (.loop b)) _))))) => b
  | _ => .skip
theorem clRest_is : clRest = .seq clLoop clTail := by unfold clRest clLoop clTail; rw [Tryz.f3]
theorem fb_catC (a b : List UInt8) (h : a.length + b.length ≤ 4611686018427387904) : fastBin .add (.v (.string ⟨⟨a⟩⟩)) (.v (.string ⟨⟨b⟩⟩)) = some (.v (.string ⟨⟨a ++ b⟩⟩)) := by
  have h' : (⟨⟨a⟩⟩ : ByteArray).size + (⟨⟨b⟩⟩ : ByteArray).size ≤ 4611686018427387904 := h
  simp only [fastBin, if_pos h']
theorem neNil9c (a b : AV) : neNil Tryz.prog 9 a b = false := by unfold neNil; rw [Tryz.underlying9]
def LoopCl (k : Nat) (r : O) : Prop := ∃ t', r = .out (.exit 0) ⟨t', []⟩ St0 ∧ t'.get 0 = some (intA (50 + k)) ∧ t'.get 3 = some (strS (clT k))
theorem cl_cat (j : Nat) (hj : j ≤ 5000) : fastBin .add (.v (.string ⟨⟨clT j⟩⟩)) (.v (.string ⟨⟨[32]⟩⟩)) = some (.v (.string ⟨⟨clT (j + 1)⟩⟩)) := by
  rw [← clT_snoc]
  exact fb_catC (clT j) [32] (by rw [clT_len]; simp; omega)
theorem cl_lp (k : Nat) (hk : k ≤ 5000) : ∀ (m j : Nat) (t : T AV), j + m = k → t.get 0 = some (intA (50 + k)) → t.get 3 = some (strS (clT j)) → WX E1 41 (.loop clBody) ⟨t, []⟩ St0 (LoopCl k)
  | 0, j, t, hi, h0, h3 => by
    refine WX_loop (W_sound ?_)
    have hj : j = k := by omega
    subst hj
    have hl := clT_len j
    have hlt : ¬ (((50 + j : Nat) : Int) < ((50 + j : Nat) : Int)) := by omega
    simp only [intA, strS] at h0 h3
    simp only [thenW_normal,thenW_exit,W_skip,W_region,W_seq,W_cond,W_block,W_exit,seqQ_normal,seqQ_exit,blockW_normal,WL_nil,WL_cons,execL_val,putL_some,condW_t,condW_f,wantedA,exec1,evalO,T.get_set,ofOpt,ofConst,neNil3,neNil9c,callA,mapO,Option.toList,List.head?_cons,fb_lss,Nat.reduceLT,Nat.reduceAdd,Nat.reduceEqDiff,if_true,if_false,true_and,List.getElem?_toArray,List.getElem?_cons_succ,List.getElem?_cons_zero,Option.bind_some,Bool.false_eq_true,decide_true,decide_false,e1_P,e1_G,len9,clBody,Tryz.f3,h0,h3,hl,hlt]
    exact ⟨_, rfl, by simp only [T.get_set, Nat.reduceEqDiff, if_false, h0, intA], by simp only [T.get_set, Nat.reduceEqDiff, if_false, h3, strS]⟩
  | m + 1, j, t, hi, h0, h3 => by
    refine WX_loop (W_sound ?_)
    have hl := clT_len j
    have hlt : (((50 + j : Nat) : Int) < ((50 + k : Nat) : Int)) := by omega
    have hc := cl_cat j (by omega)
    have next : ∀ (t' : T AV), t'.get 0 = some (intA (50 + k)) → t'.get 3 = some (strS (clT (j + 1))) → WX E1 41 (.loop clBody) ⟨t', []⟩ St0 (LoopCl k) := fun t' => cl_lp k hk m (j + 1) t' (by omega)
    generalize clT (j + 1) = tn at hc next
    generalize clT j = tx at hc h3 hl
    simp only [intA, strS] at h0 h3
    simp only [thenW_normal,thenW_exit,W_skip,W_region,W_seq,W_cond,W_block,W_exit,seqQ_normal,seqQ_exit,blockW_normal,WL_nil,WL_cons,execL_val,putL_some,condW_t,condW_f,wantedA,exec1,evalO,T.get_set,ofOpt,ofConst,neNil3,neNil9c,callA,mapO,Option.toList,List.head?_cons,fb_lss,Nat.reduceLT,Nat.reduceAdd,Nat.reduceEqDiff,if_true,if_false,true_and,List.getElem?_toArray,List.getElem?_cons_succ,List.getElem?_cons_zero,Option.bind_some,Bool.false_eq_true,decide_true,decide_false,e1_P,e1_G,len9,clBody,Tryz.f3,h0,h3,hl,hlt,hc]
    refine next _ ?_ ?_ <;> simp only [T.get_set, Nat.reduceEqDiff, if_true, if_false, h0, intA, strS]
/-- The frame behind the loop: the number, the text. -/
def frC (k : Nat) : T AV := (T.leaf.set 0 (some (intA (50 + k)))).set 3 (some (strS (clT k)))
theorem frC_ok {k : Nat} {w : World} {tmps : Array Value} (h0 : tmps[0]? = some (.int .i64 ((50 + k : Nat) : Int))) (h1 : tmps[3]? = some (.string ⟨⟨clT k⟩⟩)) : FR Gh0 w (frC k) tmps := by
  intro t a h
  unfold frC at h
  rw [T.get_set, T.get_set, T.get_leaf] at h
  split at h
  · rename_i e; subst e
    injection h with h; subst h
    obtain ⟨hl, he⟩ := Array.getElem?_eq_some_iff.1 h1
    exact ⟨hl, by simp only [Array.getD_eq_getD_getElem?, h1, Option.getD_some]; exact .v _ rfl⟩
  · split at h
    · rename_i e; subst e
      injection h with h; subst h
      obtain ⟨hl, he⟩ := Array.getElem?_eq_some_iff.1 h0
      exact ⟨hl, by simp only [Array.getD_eq_getD_getElem?, h0, Option.getD_some]; exact .v _ rfl⟩
    · cases h
end Go.Ax
