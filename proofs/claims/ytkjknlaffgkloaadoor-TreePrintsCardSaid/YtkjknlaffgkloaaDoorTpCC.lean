/-
  girandolelaw02.TreePrints returns true whatever comes in, in whatever memory; its arguments read as they did. There are no further conditions.
-/
import Derived.Test.YtkjknlaffgkloaaDoorCards
import Derived.Test.YtkjknlaffgkloaaDoorTie
import Derived.Test.YtkjknlaffgkloaaDoorTpG26
import Derived.ProofKit
import Derived.OpenShut
import Derived.Deep.DeepHandedRow
import Derived.Stop.LaidErr
set_option linter.unusedVariables false
set_option linter.unusedSimpArgs false
namespace Go.Proofs.YtkjknlaffgkloaaDoor.treePrints
open Go.ChangeShapes Go.WideShapes Go.ChangeAt Go.RowKit
theorem powType:(Tryd.prog.globals[0]?).map (·.type)=some 127:=by kernel_rfl
theorem powCells:Tryd.prog.cellsOf 127=20:=by kernel_rfl
theorem cellsU:Tryd.prog.cellsOf 120=1:=by kernel_rfl
theorem powData:(Rows.laid_internal_strconv_uint64pow10:DataW Unit)=Lib.tabData .u64 Lib.pow10Tab:=by kernel_rfl
theorem pow_of{W:World}(h:laidMetH Tryd.prog Rows.treePrintsRow.laid W):Go.Ax.PowIn W:=by
 have h2:laidMet Tryd.prog [("math/bits.deBruijn32tab", Rows.laid_math_bits_deBruijn32tab),("math/bits.deBruijn64tab", Rows.laid_math_bits_deBruijn64tab),("internal/strconv.uint64pow10", Lib.tabData .u64 Lib.pow10Tab)] W:=by
  rw[← powData];exact h
 exact Lib.tabIs_of_head Go.Ax.gPowZ powType Tryd.underlying127 Tryd.underlying120 cellsU powCells h2.tail.tail
theorem ownL:ownKnob Tryd.prog.godebug=none:=by kernel_rfl
def fillL(cs:Array Value):Obj→Obj
 |.cells _ t frozen=>.cells cs t frozen
 |o=>o
noncomputable def lowL:Nat:=(World.holding Tryd.prog default ⟨#[],#[],[]⟩).heap.size
noncomputable def laidWorldL(os:Os):World :=
 let w0:=World.holding Tryd.prog os ⟨#[],#[],[]⟩
 { w0 with heap:=((w0.heap.modify 0 (fillL #[.int .u64 1,.int .u64 10,.int .u64 100,.int .u64 1000,.int .u64 10000,.int .u64 100000,.int .u64 1000000,.int .u64 10000000,.int .u64 100000000,.int .u64 1000000000,.int .u64 10000000000,.int .u64 100000000000,.int .u64 1000000000000,.int .u64 10000000000000,.int .u64 100000000000000,.int .u64 1000000000000000,.int .u64 10000000000000000,.int .u64 100000000000000000,.int .u64 1000000000000000000,.int .u64 10000000000000000000])).modify 2 (fillL #[.int .u8 0,.int .u8 1,.int .u8 28,.int .u8 2,.int .u8 29,.int .u8 14,.int .u8 24,.int .u8 3,.int .u8 30,.int .u8 22,.int .u8 20,.int .u8 15,.int .u8 25,.int .u8 17,.int .u8 4,.int .u8 8,.int .u8 31,.int .u8 27,.int .u8 13,.int .u8 23,.int .u8 21,.int .u8 19,.int .u8 16,.int .u8 7,.int .u8 26,.int .u8 12,.int .u8 18,.int .u8 6,.int .u8 11,.int .u8 5,.int .u8 10,.int .u8 9])).modify 3 (fillL #[.int .u8 0,.int .u8 1,.int .u8 56,.int .u8 2,.int .u8 57,.int .u8 49,.int .u8 28,.int .u8 3,.int .u8 61,.int .u8 58,.int .u8 42,.int .u8 50,.int .u8 38,.int .u8 29,.int .u8 17,.int .u8 4,.int .u8 62,.int .u8 47,.int .u8 59,.int .u8 36,.int .u8 45,.int .u8 43,.int .u8 51,.int .u8 22,.int .u8 53,.int .u8 39,.int .u8 33,.int .u8 30,.int .u8 24,.int .u8 18,.int .u8 12,.int .u8 5,.int .u8 63,.int .u8 55,.int .u8 48,.int .u8 27,.int .u8 60,.int .u8 41,.int .u8 37,.int .u8 16,.int .u8 46,.int .u8 35,.int .u8 44,.int .u8 21,.int .u8 52,.int .u8 32,.int .u8 23,.int .u8 11,.int .u8 54,.int .u8 26,.int .u8 40,.int .u8 15,.int .u8 34,.int .u8 20,.int .u8 31,.int .u8 10,.int .u8 25,.int .u8 14,.int .u8 19,.int .u8 9,.int .u8 13,.int .u8 8,.int .u8 7,.int .u8 6]) }
theorem laidOut:laidOutB Tryd.prog=true:=by kernel_rfl
set_option maxRecDepth 100000 in
theorem contract(hany:∀(x0:Value) (x1:Int) (w:World),Go.Ax.NodesIn w x0→Go.Ax.PowIn w→Calls Tryd.prog 3 #[x0,.int .i64 x1] w fun x w'=>x=.returned (.bool true)∧Below w.heap.size w w')(H:Type)(enc:TypeId × Value→H)(W:World)(base:Nat)(args:Array Value)(ds gs:List (DataW H))(before:List MemPlace)
  (hval:∀(j:Nat) t v,Tryd.f3.params[j]? = some t→args[j]? = some v→Value.okWide Tryd.prog W .any base t v)
  (hW:DataW.Whole enc Tryd.prog Tryd.f3.params.toList Rows.treePrintsSpec.vars false W args.toList ds gs before) (hL:laidMetH Tryd.prog Rows.treePrintsRow.laid W) :
  Calls Tryd.prog 3 args W fun e W'=>∃v,e=.returned v∧Rows.treePrintsSpec.post enc Tryd.prog Tryd.f3 false true false false W args v W':=by
 have hW':=hW
 obtain⟨p,q,hA0,hV,rfl,hfz,hnd⟩:=hW
 have hA:DataW.TrodAll enc Tryd.prog W 0 (fun _=>true) true Tryd.f3.params.toList args.toList ds p:=hA0
 rw[Tryd.params3]at hA hval
 obtain⟨v0,v1,d0,d1,p0,p1,rfl,rfl,rfl,h0,h1⟩:=trodAll_two hA
 obtain⟨rfl,rfl⟩:=trodVars_none hV
 obtain⟨a0,l0,c0,rfl⟩:=okWide_slice Go.Ax.yuNr (hval 0 22 v0 rfl rfl)
 have hs0:Go.Ax.NodesIn W (.slice a0 l0 c0):=by
  obtain⟨fu,hfu⟩:=h0
  exact Go.Ax.nodes_in hfu
 have h0k:=h0
 obtain⟨x1,rfl⟩:=okWide_int Tryd.underlying3 (hval 1 3 v1 rfl rfl)
 have h1k:=h1
 clear hA0
 simp only[List.append_nil]at hW'
 have hlt:∀x∈p0 ++ p1,x.block<W.heap.size:=fun x hx=>by simpa using hW'.lt x hx
 refine(hany _ x1 W hs0 (pow_of hL)).mono fun e W' ⟨he,hg⟩=>?_
 subst he
 exact⟨_,rfl,_,_,_,[],_,[],hW',trodAll_mk1 (shut_bool Tryd.underlying4 _),trodAll_mk2 (Below.trod laidOut (by kernel_rfl) (of_decide_eq_true (by kernel_rfl)) h0k hg (fun x hx=>hlt x (by simp[hx]))) (Below.trod laidOut (by kernel_rfl) (of_decide_eq_true (by kernel_rfl)) h1k hg (fun x hx=>hlt x (by simp[hx]))),rfl,hg.frame _,fun h=>by cases h⟩
theorem laid_met(os:Os):laidMet Tryd.prog Rows.treePrintsRow.laid ((laidWorldL os).forCall (fun _ _=>0) ⟨#[],#[.slice none 0 0,.int .i64 0],[]⟩).memory :=
 laidMet_of_run' 8 (by kernel_rfl) (by kernel_rfl)
theorem reads(os:Os){H:Type}(enc:TypeId × Value→H):∃places,DataW.whole enc Tryd.prog ((laidWorldL os).forCall (fun _ _=>0) ⟨#[],#[.slice none 0 0,.int .i64 0],[]⟩).memory Tryd.f3.params.toList Rows.treePrintsSpec.vars false #[Value.slice none 0 0,Value.int .i64 0].toList 8=some ([.nil,.lit (.int .i64 0)],[],places) :=
 ⟨[],by kernel_rfl⟩
set_option maxRecDepth 100000 in
theorem lifted(hany:∀(x0:Value) (x1:Int) (w:World),Go.Ax.NodesIn w x0→Go.Ax.PowIn w→Calls Tryd.prog 3 #[x0,.int .i64 x1] w fun x w'=>x=.returned (.bool true)∧Below w.heap.size w w')(os:Os)(started:os.Started)(H:Type)(enc:TypeId × Value→H)(F:Stop.Interp):
  ReturnsInHanded {} Tryd.checked os 3 .any ((OpenSpec.ofChange Rows.treePrintsSpec).preRow enc Tryd.prog Tryd.f3 Rows.treePrintsRow.domain false Rows.treePrintsRow.laid) (((OpenSpec.ofChange Rows.treePrintsSpec).at F).post enc Tryd.prog Tryd.f3 false true false false):=by
 obtain⟨places,hx⟩:=reads os enc
 refine returnsInHanded_of_row (C:=Tryd.checked) (s:=OpenSpec.ofChange Rows.treePrintsSpec) ownL started (by kernel_rfl) Tryd.func3
  (witness_row_at (enc:=enc) (C:=Tryd.checked) false (laidWorldL os) #[.slice none 0 0,.int .i64 0] rfl (by kernel_rfl) (by kernel_rfl) (by kernel_rfl)
   (OpenSpec.preRow_of_cond 8 hx (by kernel_rfl) (fun k hk=>by cases hk) (by kernel_rfl) (laid_met os))) ?_
 intro W base args ds gs before hval hW _ _ _ hL _ _
 exact contract hany H enc W base args ds gs before hval hW hL
theorem j1:(Rows.treePrintsRow.unfollowed == Tryd.prog.unfollowed 3)=true:=by kernel_rfl
theorem j2:mapsRowed Tryd.prog=true:=by kernel_rfl
theorem j3:(Rows.treePrintsRow.inPlace == Tryd.prog.inPlace 3)=true:=by kernel_rfl
theorem j4:(Rows.treePrintsRow.recurses == Tryd.prog.recurses 3)=true:=by kernel_rfl
theorem j5:(Rows.treePrintsRow.named == Tryd.prog.varsNamed 3)=true:=by kernel_rfl
theorem closed:joinedFacts Tryd.pinned.checked.prog 3 Tryd.f3 (OpenSpec.ofChange Rows.treePrintsSpec).bare Rows.treePrintsRow=true:=by
 have k1:(Rows.treePrintsRow.unfollowed == Tryd.pinned.checked.prog.unfollowed 3)=true:=j1
 have k2:mapsRowed Tryd.pinned.checked.prog=true:=j2
 have k3:(Rows.treePrintsRow.inPlace == Tryd.pinned.checked.prog.inPlace 3)=true:=j3
 have k4:(Rows.treePrintsRow.recurses == Tryd.pinned.checked.prog.recurses 3)=true:=j4
 have k5:(Rows.treePrintsRow.named == Tryd.pinned.checked.prog.varsNamed 3)=true:=j5
 unfold joinedFacts
 rw[k1,k2,k3,k4,k5]
 change _=true
 kernel_rfl
theorem said(hany:∀(x0:Value) (x1:Int) (w:World),Go.Ax.NodesIn w x0→Go.Ax.PowIn w→Calls Tryd.prog 3 #[x0,.int .i64 x1] w fun x w'=>x=.returned (.bool true)∧Below w.heap.size w w'):Rows.TreePrintsSaid :=
 OpenClaim.holds_of_cond 3 Tryd.f3 rfl rfl rfl rfl rfl rfl rfl ⟨rfl,rfl,rfl,rfl,rfl⟩ rfl rfl rfl rfl rfl (by kernel_rfl) Tryd.func3 closed
  (of_decide_eq_true (by kernel_rfl)) (by unfold Func.isWrapper;first | (rw[if_pos (by decide +kernel)];kernel_rfl) | (rw[if_neg (by decide +kernel)];exact⟨rfl,rfl⟩))
  (fun os started H enc _ F=>by rw[OpenClaim.pre_eq_preRow];exact lifted hany os started H enc F)
theorem plain(f:FuncId)(fn:Func)(hf:Tryd.pinned.checked.prog.funcNamed "girandole/girandolelaw02.TreePrints" = some f) (hfn:Tryd.pinned.checked.prog.funcs[f]? = some fn) :
  false=Tryd.pinned.checked.prog.looks []∧∀(j:Nat) t,fn.params[j]? = some t→Tryd.pinned.checked.prog.wantsStandIn t=false:=by
 obtain rfl:f=3:=Option.some.inj ((show Tryd.prog.funcNamed "girandole/girandolelaw02.TreePrints" = some 3 by kernel_rfl).symm.trans hf) |>.symm
 obtain rfl:fn=Tryd.f3:=(Option.some.inj (Tryd.func3.symm.trans hfn)).symm
 refine⟨by kernel_rfl,fun j t ht=>?_⟩
 rw[Tryd.params3]at ht
 have hm:t=22∨t=3:=by have:=Array.mem_of_getElem? ht;simpa using this
 rcases hm with rfl |rfl
 ·exact(show Tryd.prog.wantsStandIn 22=false by kernel_rfl)
 ·exact(show Tryd.prog.wantsStandIn 3=false by kernel_rfl)
theorem treePrints_card:Rows.TreePrintsCardSaid :=
 have hany:=@Go.Ax.tp_any
 Claim7.holds_tied_plain_at .later [] _ _ _ _ (said hany) (fun _ h=>by cases h) (by kernel_rfl) (fun _ h=>by cases h) treePrints_row_tie rfl ⟨rfl,rfl⟩ (by kernel_rfl) rfl plain (by kernel_rfl)
end Go.Proofs.YtkjknlaffgkloaaDoor.treePrints
