/- TtD -/
import Derived.Test.YtkjknlaffgkloaaDoorTpG10
set_option linter.unusedVariables false
set_option linter.unusedSimpArgs false
set_option maxHeartbeats 16000000
noncomputable section
open Nat (reduceLT reduceEqDiff)
namespace Go.Ax
open Go.RowKit Go.Proofs
set_option maxRecDepth 100000
theorem sgn_vals:sgnF [111,114]=2∧sgnF [120,111,114]=2∧sgnF [97,110,100]=3∧sgnF [43]=6∧sgnF [45]=6∧sgnF [42]=7∧sgnF [47]=7∧sgnF [109,111,100]=7:=by decide
theorem sgn_else{s:List UInt8}(h0:¬ s=[111,114])(h1:¬ s=[120,111,114])(h2:¬ s=[97,110,100])(h3:¬ s=[43])(h4:¬ s=[45])(h5:¬ s=[42])(h6:¬ s=[47])(h7:¬ s=[109,111,100]):sgnF s=5:=by
 unfold sgnF
 rw[if_neg (by rintro(h |h) <;> contradiction),if_neg h2,if_neg (by rintro(h |h |h) <;> contradiction),if_neg (by rintro(h |h) <;> contradiction)]
theorem sgn_k(s:List UInt8):KnZ 55 [strS s]:=by
 refine bodyZ Tryd.f55 (by kernel_rfl) (by kernel_rfl) (show(_:Nat)≤_ from by show(_:Nat)≤_;simp[Tryd.f55]) ?_
 have fin:∀(x:Int) (S':St),x=sgnF s→∃a S'',R.ret (.v (.int .i64 x)) S' = R.ret a S''∧freeV a=true∧SpecZ 55 [strS s] (clean a):=fun x S' h=>by
  refine⟨_,_,rfl,rfl,?_⟩
  intro s' e
  simp only[List.cons.injEq,and_true]at e
  rw[← str_inj e,← h]
  rfl
 unfold strS
 by_cases h0:s=[111,114]
 ·have e0:decide (s=[111,114])=true:=decide_eq_true h0
  simp(maxSteps:=2000000) (disch:=omega)only[W_skip,W_region,W_seq,W_cond,W_block,W_ret,seqQ_normal2,seqQ_ret2,blockW_normal2,blockW_ret2,WL_nil2,WL_cons,execL_val2,putL_some2,condW_t2,wantedA,exec1,evalO,initT,T.get_set,T.get_leaf,ofOpt,ofConst,finW_ret,giveW,resultsA,tupA,fb_eqS,neNil9,reduceLT,reduceEqDiff,if_true,if_false,true_and,Option.getD_some,Bool.false_eq_true,ez_P,neNil9,initT,Tryd.f55,e0]
  exact fin _ _ (by rw[h0];exact sgn_vals.1.symm)
 ·have e0:decide (s=[111,114])=false:=decide_eq_false h0
  by_cases h1:s=[120,111,114]
  ·have e1:decide (s=[120,111,114])=true:=decide_eq_true h1
   simp(maxSteps:=2000000) (disch:=omega)only[W_skip,W_region,W_seq,W_cond,W_block,W_ret,seqQ_normal2,seqQ_ret2,blockW_normal2,blockW_ret2,WL_nil2,WL_cons,execL_val2,putL_some2,condW_t2,condW_f2,wantedA,exec1,evalO,initT,T.get_set,T.get_leaf,ofOpt,ofConst,finW_ret,giveW,resultsA,tupA,fb_eqS,neNil9,reduceLT,reduceEqDiff,if_true,if_false,true_and,Option.getD_some,Bool.false_eq_true,ez_P,neNil9,initT,Tryd.f55,e0,e1]
   exact fin _ _ (by rw[h1];exact sgn_vals.2.1.symm)
  ·have e1:decide (s=[120,111,114])=false:=decide_eq_false h1
   by_cases h2:s=[97,110,100]
   ·have e2:decide (s=[97,110,100])=true:=decide_eq_true h2
    simp(maxSteps:=2000000) (disch:=omega)only[W_skip,W_region,W_seq,W_cond,W_block,W_ret,seqQ_normal2,seqQ_ret2,blockW_normal2,blockW_ret2,WL_nil2,WL_cons,execL_val2,putL_some2,condW_t2,condW_f2,wantedA,exec1,evalO,initT,T.get_set,T.get_leaf,ofOpt,ofConst,finW_ret,giveW,resultsA,tupA,fb_eqS,neNil9,reduceLT,reduceEqDiff,if_true,if_false,true_and,Option.getD_some,Bool.false_eq_true,ez_P,neNil9,initT,Tryd.f55,e0,e1,e2]
    exact fin _ _ (by rw[h2];exact sgn_vals.2.2.1.symm)
   ·have e2:decide (s=[97,110,100])=false:=decide_eq_false h2
    by_cases h3:s=[43]
    ·have e3:decide (s=[43])=true:=decide_eq_true h3
     simp(maxSteps:=2000000) (disch:=omega)only[W_skip,W_region,W_seq,W_cond,W_block,W_ret,seqQ_normal2,seqQ_ret2,blockW_normal2,blockW_ret2,WL_nil2,WL_cons,execL_val2,putL_some2,condW_t2,condW_f2,wantedA,exec1,evalO,initT,T.get_set,T.get_leaf,ofOpt,ofConst,finW_ret,giveW,resultsA,tupA,fb_eqS,neNil9,reduceLT,reduceEqDiff,if_true,if_false,true_and,Option.getD_some,Bool.false_eq_true,ez_P,neNil9,initT,Tryd.f55,e0,e1,e2,e3]
     exact fin _ _ (by rw[h3];exact sgn_vals.2.2.2.1.symm)
    ·have e3:decide (s=[43])=false:=decide_eq_false h3
     by_cases h4:s=[45]
     ·have e4:decide (s=[45])=true:=decide_eq_true h4
      simp(maxSteps:=2000000) (disch:=omega)only[W_skip,W_region,W_seq,W_cond,W_block,W_ret,seqQ_normal2,seqQ_ret2,blockW_normal2,blockW_ret2,WL_nil2,WL_cons,execL_val2,putL_some2,condW_t2,condW_f2,wantedA,exec1,evalO,initT,T.get_set,T.get_leaf,ofOpt,ofConst,finW_ret,giveW,resultsA,tupA,fb_eqS,neNil9,reduceLT,reduceEqDiff,if_true,if_false,true_and,Option.getD_some,Bool.false_eq_true,ez_P,neNil9,initT,Tryd.f55,e0,e1,e2,e3,e4]
      exact fin _ _ (by rw[h4];exact sgn_vals.2.2.2.2.1.symm)
     ·have e4:decide (s=[45])=false:=decide_eq_false h4
      by_cases h5:s=[42]
      ·have e5:decide (s=[42])=true:=decide_eq_true h5
       simp(maxSteps:=2000000) (disch:=omega)only[W_skip,W_region,W_seq,W_cond,W_block,W_ret,seqQ_normal2,seqQ_ret2,blockW_normal2,blockW_ret2,WL_nil2,WL_cons,execL_val2,putL_some2,condW_t2,condW_f2,wantedA,exec1,evalO,initT,T.get_set,T.get_leaf,ofOpt,ofConst,finW_ret,giveW,resultsA,tupA,fb_eqS,neNil9,reduceLT,reduceEqDiff,if_true,if_false,true_and,Option.getD_some,Bool.false_eq_true,ez_P,neNil9,initT,Tryd.f55,e0,e1,e2,e3,e4,e5]
       exact fin _ _ (by rw[h5];exact sgn_vals.2.2.2.2.2.1.symm)
      ·have e5:decide (s=[42])=false:=decide_eq_false h5
       by_cases h6:s=[47]
       ·have e6:decide (s=[47])=true:=decide_eq_true h6
        simp(maxSteps:=2000000) (disch:=omega)only[W_skip,W_region,W_seq,W_cond,W_block,W_ret,seqQ_normal2,seqQ_ret2,blockW_normal2,blockW_ret2,WL_nil2,WL_cons,execL_val2,putL_some2,condW_t2,condW_f2,wantedA,exec1,evalO,initT,T.get_set,T.get_leaf,ofOpt,ofConst,finW_ret,giveW,resultsA,tupA,fb_eqS,neNil9,reduceLT,reduceEqDiff,if_true,if_false,true_and,Option.getD_some,Bool.false_eq_true,ez_P,neNil9,initT,Tryd.f55,e0,e1,e2,e3,e4,e5,e6]
        exact fin _ _ (by rw[h6];exact sgn_vals.2.2.2.2.2.2.1.symm)
       ·have e6:decide (s=[47])=false:=decide_eq_false h6
        by_cases h7:s=[109,111,100]
        ·have e7:decide (s=[109,111,100])=true:=decide_eq_true h7
         simp(maxSteps:=2000000) (disch:=omega)only[W_skip,W_region,W_seq,W_cond,W_block,W_ret,seqQ_normal2,seqQ_ret2,blockW_normal2,blockW_ret2,WL_nil2,WL_cons,execL_val2,putL_some2,condW_t2,condW_f2,wantedA,exec1,evalO,initT,T.get_set,T.get_leaf,ofOpt,ofConst,finW_ret,giveW,resultsA,tupA,fb_eqS,neNil9,reduceLT,reduceEqDiff,if_true,if_false,true_and,Option.getD_some,Bool.false_eq_true,ez_P,neNil9,initT,Tryd.f55,e0,e1,e2,e3,e4,e5,e6,e7]
         exact fin _ _ (by rw[h7];exact sgn_vals.2.2.2.2.2.2.2.symm)
        ·have e7:decide (s=[109,111,100])=false:=decide_eq_false h7
         simp(maxSteps:=2000000) (disch:=omega)only[W_skip,W_region,W_seq,W_cond,W_block,W_ret,seqQ_normal2,seqQ_ret2,blockW_normal2,blockW_ret2,WL_nil2,WL_cons,execL_val2,putL_some2,condW_f2,wantedA,exec1,evalO,initT,T.get_set,T.get_leaf,ofOpt,ofConst,finW_ret,giveW,resultsA,tupA,fb_eqS,neNil9,reduceLT,reduceEqDiff,if_true,if_false,true_and,Option.getD_some,Bool.false_eq_true,ez_P,neNil9,initT,Tryd.f55,e0,e1,e2,e3,e4,e5,e6,e7]
         exact fin _ _ (sgn_else h0 h1 h2 h3 h4 h5 h6 h7).symm
theorem sgn_u{s:List UInt8}{S:St}{Q:R→Prop}(h:Q (.ret (i64A (sgnF s)) S)):WC EZ 55 [strS s] S Q :=
 callZ (sgn_k s) (by kernel_rfl) rfl rfl fun a _ _ hs=>by
  have:=hs s rfl
  subst this
  exact h
theorem kind_cases{k:Int}(h:1≤k∧k≤14):k=1∨k=2∨k=3∨k=4∨k=5∨k=6∨k=7∨k=8∨k=9∨k=10∨k=11∨k=12∨k=13∨k=14:=by omega
theorem bnd_k(k n:Int)(nm:List UInt8)(a0 off v:AV)(hk:1≤k∧k≤14):KnZ 54 [.agg [i64A k,a0,i64A n,strS nm,off,v]]:=by
 refine bodyZ Tryd.f54 (by kernel_rfl) (by kernel_rfl) (show(_:Nat)≤_ from by show(_:Nat)≤_;simp[Tryd.f54]) ?_
 obtain⟨fn1,hf1⟩:=fnz_55
 have fin:∀(x:Int) (S':St),x=bndF k n nm→∃a S'',R.ret (.v (.int .i64 x)) S' = R.ret a S''∧freeV a=true∧SpecZ 54 [.agg [i64A k,a0,i64A n,strS nm,off,v]] (clean a):=fun x S' h=>by
  refine⟨_,_,rfl,rfl,?_⟩
  intro k' a0' n' nm' off' v' e _
  simp only[List.cons.injEq,and_true,AV.agg.injEq,i64A,AV.v.injEq,Value.int.injEq,true_and]at e
  obtain⟨e1,_,e2,e3,_⟩:=e
  rw[← e1,← e2,← str_inj e3,← h]
  rfl
 unfold strS
 rcases kind_cases hk with rfl |rfl |rfl |rfl |rfl |rfl |rfl |rfl |rfl |rfl |rfl |rfl |rfl |rfl
 ·by_cases hn:n<0
  ·have e0:decide (n<0)=true:=decide_eq_true hn
   simp(maxSteps:=2000000) (disch:=omega)only[W_skip,W_region,W_seq,W_cond,W_block,W_ret,seqQ_normal2,seqQ_ret2,blockW_normal2,blockW_ret2,WL_nil2,WL_cons,execL_val2,execL_enter2,putL_some2,condW_t2,condW_f2,wantedA,exec1,evalO,initT,T.get_set,T.get_leaf,callA,mapO,ofOpt,ofConst,neNil3,finW_ret,giveW,resultsA,tupA,fb_lss,fb_eqlI,reduceLT,reduceEqDiff,if_true,if_false,true_and,Option.getD_some,List.getElem?_cons_succ,List.getElem?_cons_zero,List.nil_append,List.append_nil,beq_self_eq_true,Bool.false_eq_true,nb_get,st0_get,st0_next,cl1_box,Nat.zero_add,Nat.add_zero,noTup_agg,cells_agg,ez_P,i64A,neNil2,neNil3,yl2,yl3,yl9,yfX_0,yfX_2,yfX_3,initT,cells_agg,List.getElem?_cons_succ,Int.reduceBEq,Tryd.f54,e0,hf1]
   exact fin _ _ (by unfold bndF;rw[if_pos rfl,if_pos hn])
  ·have e0:decide (n<0)=false:=decide_eq_false hn
   simp(maxSteps:=2000000) (disch:=omega)only[W_skip,W_region,W_seq,W_cond,W_block,W_ret,seqQ_normal2,seqQ_ret2,blockW_normal2,blockW_ret2,WL_nil2,WL_cons,execL_val2,execL_enter2,putL_some2,condW_t2,condW_f2,wantedA,exec1,evalO,initT,T.get_set,T.get_leaf,callA,mapO,ofOpt,ofConst,neNil3,finW_ret,giveW,resultsA,tupA,fb_lss,fb_eqlI,reduceLT,reduceEqDiff,if_true,if_false,true_and,Option.getD_some,List.getElem?_cons_succ,List.getElem?_cons_zero,List.nil_append,List.append_nil,beq_self_eq_true,Bool.false_eq_true,nb_get,st0_get,st0_next,cl1_box,Nat.zero_add,Nat.add_zero,noTup_agg,cells_agg,ez_P,i64A,neNil2,neNil3,yl2,yl3,yl9,yfX_0,yfX_2,yfX_3,initT,cells_agg,List.getElem?_cons_succ,Int.reduceBEq,Tryd.f54,e0,hf1]
   exact fin _ _ (by unfold bndF;rw[if_pos rfl,if_neg hn])
 ·simp(maxSteps:=2000000) (disch:=omega)only[W_skip,W_region,W_seq,W_cond,W_block,W_ret,seqQ_normal2,seqQ_ret2,blockW_normal2,blockW_ret2,WL_nil2,WL_cons,execL_val2,execL_enter2,putL_some2,condW_f2,wantedA,exec1,evalO,initT,T.get_set,T.get_leaf,callA,mapO,ofOpt,ofConst,neNil3,finW_ret,giveW,resultsA,tupA,fb_lss,fb_eqlI,reduceLT,reduceEqDiff,if_true,if_false,true_and,Option.getD_some,List.getElem?_cons_succ,List.getElem?_cons_zero,List.nil_append,List.append_nil,Bool.false_eq_true,nb_get,st0_get,st0_next,cl1_box,Nat.zero_add,Nat.add_zero,noTup_agg,cells_agg,ez_P,i64A,neNil2,neNil3,yl2,yl3,yl9,yfX_0,yfX_2,yfX_3,initT,cells_agg,List.getElem?_cons_succ,Int.reduceBEq,Tryd.f54,hf1]
  exact fin _ _ rfl
 ·simp(maxSteps:=2000000) (disch:=omega)only[W_skip,W_region,W_seq,W_cond,W_block,W_ret,seqQ_normal2,seqQ_ret2,blockW_normal2,blockW_ret2,WL_nil2,WL_cons,execL_val2,execL_enter2,putL_some2,condW_f2,wantedA,exec1,evalO,initT,T.get_set,T.get_leaf,callA,mapO,ofOpt,ofConst,neNil3,finW_ret,giveW,resultsA,tupA,fb_lss,fb_eqlI,reduceLT,reduceEqDiff,if_true,if_false,true_and,Option.getD_some,List.getElem?_cons_succ,List.getElem?_cons_zero,List.nil_append,List.append_nil,Bool.false_eq_true,nb_get,st0_get,st0_next,cl1_box,Nat.zero_add,Nat.add_zero,noTup_agg,cells_agg,ez_P,i64A,neNil2,neNil3,yl2,yl3,yl9,yfX_0,yfX_2,yfX_3,initT,cells_agg,List.getElem?_cons_succ,Int.reduceBEq,Tryd.f54,hf1]
  exact fin _ _ rfl
 ·simp(maxSteps:=2000000) (disch:=omega)only[W_skip,W_region,W_seq,W_cond,W_block,W_ret,seqQ_normal2,seqQ_ret2,blockW_normal2,blockW_ret2,WL_nil2,WL_cons,execL_val2,execL_enter2,putL_some2,condW_t2,condW_f2,wantedA,exec1,evalO,initT,T.get_set,T.get_leaf,callA,mapO,ofOpt,ofConst,neNil3,finW_ret,giveW,resultsA,tupA,fb_lss,fb_eqlI,reduceLT,reduceEqDiff,if_true,if_false,true_and,Option.getD_some,List.getElem?_cons_succ,List.getElem?_cons_zero,List.nil_append,List.append_nil,beq_self_eq_true,Bool.false_eq_true,nb_get,st0_get,st0_next,cl1_box,Nat.zero_add,Nat.add_zero,noTup_agg,cells_agg,ez_P,i64A,neNil2,neNil3,yl2,yl3,yl9,yfX_0,yfX_2,yfX_3,initT,cells_agg,List.getElem?_cons_succ,Int.reduceBEq,Tryd.f54,hf1]
  exact fin _ _ rfl
 ·simp(maxSteps:=2000000) (disch:=omega)only[W_skip,W_region,W_seq,W_cond,W_block,W_ret,seqQ_normal2,seqQ_ret2,blockW_normal2,blockW_ret2,WL_nil2,WL_cons,execL_val2,execL_enter2,putL_some2,condW_t2,condW_f2,wantedA,exec1,evalO,initT,T.get_set,T.get_leaf,callA,mapO,ofOpt,ofConst,neNil3,finW_ret,giveW,resultsA,tupA,fb_lss,fb_eqlI,reduceLT,reduceEqDiff,if_true,if_false,true_and,Option.getD_some,List.getElem?_cons_succ,List.getElem?_cons_zero,List.nil_append,List.append_nil,beq_self_eq_true,Bool.false_eq_true,nb_get,st0_get,st0_next,cl1_box,Nat.zero_add,Nat.add_zero,noTup_agg,cells_agg,ez_P,i64A,neNil2,neNil3,yl2,yl3,yl9,yfX_0,yfX_2,yfX_3,initT,cells_agg,List.getElem?_cons_succ,Int.reduceBEq,Tryd.f54,hf1]
  exact fin _ _ rfl
 ·simp(maxSteps:=2000000) (disch:=omega)only[W_skip,W_region,W_seq,W_cond,W_block,W_ret,seqQ_normal2,seqQ_ret2,blockW_normal2,blockW_ret2,WL_nil2,WL_cons,execL_val2,execL_enter2,putL_some2,condW_t2,condW_f2,wantedA,exec1,evalO,initT,T.get_set,T.get_leaf,callA,mapO,ofOpt,ofConst,neNil3,finW_ret,giveW,resultsA,tupA,fb_lss,fb_eqlI,reduceLT,reduceEqDiff,if_true,if_false,true_and,Option.getD_some,List.getElem?_cons_succ,List.getElem?_cons_zero,List.nil_append,List.append_nil,beq_self_eq_true,Bool.false_eq_true,nb_get,st0_get,st0_next,cl1_box,Nat.zero_add,Nat.add_zero,noTup_agg,cells_agg,ez_P,i64A,neNil2,neNil3,yl2,yl3,yl9,yfX_0,yfX_2,yfX_3,initT,cells_agg,List.getElem?_cons_succ,Int.reduceBEq,Tryd.f54,hf1]
  refine sgn_u ?_
  unfold i64A
  simp(maxSteps:=2000000) (disch:=omega)only[W_ret,seqQ_normal2,seqQ_ret2,blockW_ret2,WL_nil2,WL_cons,execL_val2,putL_some2,retL_ret2,wantedA,exec1,evalO,T.get_set,T.get_leaf,ofOpt,finW_ret,giveW,resultsA,tupA,reduceLT,reduceEqDiff,if_true,if_false,true_and]
  exact fin _ _ rfl
 ·simp(maxSteps:=2000000) (disch:=omega)only[W_skip,W_region,W_seq,W_cond,W_block,W_ret,seqQ_normal2,seqQ_ret2,blockW_normal2,blockW_ret2,WL_nil2,WL_cons,execL_val2,execL_enter2,putL_some2,condW_t2,condW_f2,wantedA,exec1,evalO,initT,T.get_set,T.get_leaf,callA,mapO,ofOpt,ofConst,neNil3,finW_ret,giveW,resultsA,tupA,fb_lss,fb_eqlI,reduceLT,reduceEqDiff,if_true,if_false,true_and,Option.getD_some,List.getElem?_cons_succ,List.getElem?_cons_zero,List.nil_append,List.append_nil,beq_self_eq_true,Bool.false_eq_true,nb_get,st0_get,st0_next,cl1_box,Nat.zero_add,Nat.add_zero,noTup_agg,cells_agg,ez_P,i64A,neNil2,neNil3,yl2,yl3,yl9,yfX_0,yfX_2,yfX_3,initT,cells_agg,List.getElem?_cons_succ,Int.reduceBEq,Tryd.f54,hf1]
  exact fin _ _ rfl
 ·simp(maxSteps:=2000000) (disch:=omega)only[W_skip,W_region,W_seq,W_cond,W_block,W_ret,seqQ_normal2,seqQ_ret2,blockW_normal2,blockW_ret2,WL_nil2,WL_cons,execL_val2,execL_enter2,putL_some2,condW_t2,condW_f2,wantedA,exec1,evalO,initT,T.get_set,T.get_leaf,callA,mapO,ofOpt,ofConst,neNil3,finW_ret,giveW,resultsA,tupA,fb_lss,fb_eqlI,reduceLT,reduceEqDiff,if_true,if_false,true_and,Option.getD_some,List.getElem?_cons_succ,List.getElem?_cons_zero,List.nil_append,List.append_nil,beq_self_eq_true,Bool.false_eq_true,nb_get,st0_get,st0_next,cl1_box,Nat.zero_add,Nat.add_zero,noTup_agg,cells_agg,ez_P,i64A,neNil2,neNil3,yl2,yl3,yl9,yfX_0,yfX_2,yfX_3,initT,cells_agg,List.getElem?_cons_succ,Int.reduceBEq,Tryd.f54,hf1]
  exact fin _ _ rfl
 ·simp(maxSteps:=2000000) (disch:=omega)only[W_skip,W_region,W_seq,W_cond,W_block,W_ret,seqQ_normal2,seqQ_ret2,blockW_normal2,blockW_ret2,WL_nil2,WL_cons,execL_val2,execL_enter2,putL_some2,condW_t2,condW_f2,wantedA,exec1,evalO,initT,T.get_set,T.get_leaf,callA,mapO,ofOpt,ofConst,neNil3,finW_ret,giveW,resultsA,tupA,fb_lss,fb_eqlI,reduceLT,reduceEqDiff,if_true,if_false,true_and,Option.getD_some,List.getElem?_cons_succ,List.getElem?_cons_zero,List.nil_append,List.append_nil,beq_self_eq_true,Bool.false_eq_true,nb_get,st0_get,st0_next,cl1_box,Nat.zero_add,Nat.add_zero,noTup_agg,cells_agg,ez_P,i64A,neNil2,neNil3,yl2,yl3,yl9,yfX_0,yfX_2,yfX_3,initT,cells_agg,List.getElem?_cons_succ,Int.reduceBEq,Tryd.f54,hf1]
  exact fin _ _ rfl
 ·simp(maxSteps:=2000000) (disch:=omega)only[W_skip,W_region,W_seq,W_cond,W_block,W_ret,seqQ_normal2,seqQ_ret2,blockW_normal2,blockW_ret2,WL_nil2,WL_cons,execL_val2,execL_enter2,putL_some2,condW_t2,condW_f2,wantedA,exec1,evalO,initT,T.get_set,T.get_leaf,callA,mapO,ofOpt,ofConst,neNil3,finW_ret,giveW,resultsA,tupA,fb_lss,fb_eqlI,reduceLT,reduceEqDiff,if_true,if_false,true_and,Option.getD_some,List.getElem?_cons_succ,List.getElem?_cons_zero,List.nil_append,List.append_nil,beq_self_eq_true,Bool.false_eq_true,nb_get,st0_get,st0_next,cl1_box,Nat.zero_add,Nat.add_zero,noTup_agg,cells_agg,ez_P,i64A,neNil2,neNil3,yl2,yl3,yl9,yfX_0,yfX_2,yfX_3,initT,cells_agg,List.getElem?_cons_succ,Int.reduceBEq,Tryd.f54,hf1]
  exact fin _ _ rfl
 ·simp(maxSteps:=2000000) (disch:=omega)only[W_skip,W_region,W_seq,W_cond,W_block,W_ret,seqQ_normal2,seqQ_ret2,blockW_normal2,blockW_ret2,WL_nil2,WL_cons,execL_val2,execL_enter2,putL_some2,condW_t2,condW_f2,wantedA,exec1,evalO,initT,T.get_set,T.get_leaf,callA,mapO,ofOpt,ofConst,neNil3,finW_ret,giveW,resultsA,tupA,fb_lss,fb_eqlI,reduceLT,reduceEqDiff,if_true,if_false,true_and,Option.getD_some,List.getElem?_cons_succ,List.getElem?_cons_zero,List.nil_append,List.append_nil,beq_self_eq_true,Bool.false_eq_true,nb_get,st0_get,st0_next,cl1_box,Nat.zero_add,Nat.add_zero,noTup_agg,cells_agg,ez_P,i64A,neNil2,neNil3,yl2,yl3,yl9,yfX_0,yfX_2,yfX_3,initT,cells_agg,List.getElem?_cons_succ,Int.reduceBEq,Tryd.f54,hf1]
  exact fin _ _ rfl
 ·simp(maxSteps:=2000000) (disch:=omega)only[W_skip,W_region,W_seq,W_cond,W_block,W_ret,seqQ_normal2,seqQ_ret2,blockW_normal2,blockW_ret2,WL_nil2,WL_cons,execL_val2,execL_enter2,putL_some2,condW_f2,wantedA,exec1,evalO,initT,T.get_set,T.get_leaf,callA,mapO,ofOpt,ofConst,neNil3,finW_ret,giveW,resultsA,tupA,fb_lss,fb_eqlI,reduceLT,reduceEqDiff,if_true,if_false,true_and,Option.getD_some,List.getElem?_cons_succ,List.getElem?_cons_zero,List.nil_append,List.append_nil,Bool.false_eq_true,nb_get,st0_get,st0_next,cl1_box,Nat.zero_add,Nat.add_zero,noTup_agg,cells_agg,ez_P,i64A,neNil2,neNil3,yl2,yl3,yl9,yfX_0,yfX_2,yfX_3,initT,cells_agg,List.getElem?_cons_succ,Int.reduceBEq,Tryd.f54,hf1]
  exact fin _ _ rfl
 ·simp(maxSteps:=2000000) (disch:=omega)only[W_skip,W_region,W_seq,W_cond,W_block,W_ret,seqQ_normal2,seqQ_ret2,blockW_normal2,blockW_ret2,WL_nil2,WL_cons,execL_val2,execL_enter2,putL_some2,condW_f2,wantedA,exec1,evalO,initT,T.get_set,T.get_leaf,callA,mapO,ofOpt,ofConst,neNil3,finW_ret,giveW,resultsA,tupA,fb_lss,fb_eqlI,reduceLT,reduceEqDiff,if_true,if_false,true_and,Option.getD_some,List.getElem?_cons_succ,List.getElem?_cons_zero,List.nil_append,List.append_nil,Bool.false_eq_true,nb_get,st0_get,st0_next,cl1_box,Nat.zero_add,Nat.add_zero,noTup_agg,cells_agg,ez_P,i64A,neNil2,neNil3,yl2,yl3,yl9,yfX_0,yfX_2,yfX_3,initT,cells_agg,List.getElem?_cons_succ,Int.reduceBEq,Tryd.f54,hf1]
  exact fin _ _ rfl
 ·simp(maxSteps:=2000000) (disch:=omega)only[W_skip,W_region,W_seq,W_cond,W_block,W_ret,seqQ_normal2,seqQ_ret2,blockW_normal2,blockW_ret2,WL_nil2,WL_cons,execL_val2,execL_enter2,putL_some2,condW_f2,wantedA,exec1,evalO,initT,T.get_set,T.get_leaf,callA,mapO,ofOpt,ofConst,neNil3,finW_ret,giveW,resultsA,tupA,fb_lss,fb_eqlI,reduceLT,reduceEqDiff,if_true,if_false,true_and,Option.getD_some,List.getElem?_cons_succ,List.getElem?_cons_zero,List.nil_append,List.append_nil,Bool.false_eq_true,nb_get,st0_get,st0_next,cl1_box,Nat.zero_add,Nat.add_zero,noTup_agg,cells_agg,ez_P,i64A,neNil2,neNil3,yl2,yl3,yl9,yfX_0,yfX_2,yfX_3,initT,cells_agg,List.getElem?_cons_succ,Int.reduceBEq,Tryd.f54,hf1]
  exact fin _ _ rfl
end Go.Ax
noncomputable section
open Nat (reduceLT reduceEqDiff)
namespace Go.Ax
open Go.RowKit Go.Proofs
set_option maxRecDepth 100000
theorem call16{e:PX}{d:Nat}{S:St}{Q:R→Prop}(hk:KnZ 16 [exA e])(ho:okX d e)(hd:d≤4)(h:Q (.ret (strS (txt e)) S)):WC EZ 16 [exA e] S Q :=
 callZ hk (by kernel_rfl) (by show(freeV (exA e) && true)=true;rw[(exA_fr e).1];rfl) (by show [clean (exA e)]=_;rw[(exA_fr e).2]) fun a _ _ hs=>by
  have:=hs e d rfl ho hd
  subst this
  exact h
theorem okX_kind{d:Nat}{e:PX}(h:okX d e):1≤e.kind∧e.kind≤14:=by
 cases e with
 |mk k a n nm off kids =>
  cases d with
  |zero=>exact absurd h (by simp[okX])
  |succ d=>simp only[okX]at h;exact needs_kind h.2.2.2.2.1
theorem call54{e:PX}{d:Nat}{S:St}{Q:R→Prop}(ho:okX d e)(h:Q (.ret (i64A (bndX e)) S)):WC EZ 54 [exA e] S Q:=by
 have hk:=okX_kind ho
 cases e with
 |mk k a n nm off kids =>
  have hf:=exA_fr (.mk k a n nm off kids)
  rw[exA_mk]at hf ⊢
  exact callZ (bnd_k k n nm (i64A a) (.v (.bool off)) (rowX kids) hk) (by kernel_rfl) (by show(freeV (.agg _) && true)=true;rw[hf.1];rfl) (by show [clean (.agg _)]=_;rw[hf.2]) fun x _ _ hs=>by
   have:=hs k (i64A a) n nm (.v (.bool off)) (rowX kids) rfl hk
   subst this
   exact h
theorem kid_k(e:PX)(i:Nat)(least:Int)(d:Nat)(ho:okL d e.kids)(hd:d≤4)(hi:i≤10)(H:∀x∈e.kids,KnZ 16 [exA x]):KnZ 32 [exA e,i64A (i:Int),i64A least]:=by
 have fin:∀(x:List UInt8) (S':St),x=kidT (txL e.kids) i least→∃a S'',R.ret (.v (.string ⟨⟨x⟩⟩)) S' = R.ret a S''∧freeV a=true∧SpecZ 32 [exA e,i64A (i:Int),i64A least] (clean a):=fun x S' h=>by
  refine⟨_,_,rfl,rfl,?_⟩
  intro e' i' least' d' q _ _ _
  simp only[List.cons.injEq,and_true,i64A,AV.v.injEq,Value.int.injEq,true_and]at q
  obtain⟨q1,q2,q3⟩:=q
  have q2:i=i':=by omega
  rw[← exA_inj _ _ q1,← q2,← q3,← h]
  rfl
 cases e with
 |mk k ap n nm off kids =>
 have ho:okL d kids:=ho
 have H:∀x∈kids,KnZ 16 [exA x]:=H
 have fin:∀(x:List UInt8) (S':St),x=kidT (txL kids) i least→∃a S'',R.ret (.v (.string ⟨⟨x⟩⟩)) S' = R.ret a S''∧freeV a=true∧SpecZ 32 [exA (.mk k ap n nm off kids),i64A (i:Int),i64A least] (clean a):=fin
 rw[exA_mk]at fin ⊢
 refine bodyZ Tryd.f32 (by kernel_rfl) (by kernel_rfl) (show(_:Nat)≤_ from by show(_:Nat)≤_;simp[Tryd.f32]) ?_
 obtain⟨fn1,hf1⟩:=fnz_16
 obtain⟨fn2,hf2⟩:=fnz_54
 have hlr:=rowX_len kids
 by_cases hil:i<kids.length
 ·have hge:decide ((i:Int) ≥ (kids.length:Int))=false:=by rw[decide_eq_false_iff_not];omega
  have hx:=rowX_idx kids i hil
  have hmem:=List.getElem_mem hil
  have hok:=okL_get ho _ hmem
  have hkn:=H _ hmem
  have hgt:kidT (txL kids) i least=if bndX kids[i]<least then parT (txt kids[i])else txt kids[i]:=by
   unfold kidT
   rw[txL_get,List.getElem?_eq_getElem hil]
   rfl
  have hlen:=txt_len _ _ hok
  have hLB:=LB_le hd
  rw[hgt]at fin
  generalize kids[i]=kd at *
  generalize rowX kids=row at *
  have hagg:∃c0 c1 c2 c3 c4 c5,exA kd=.agg [c0,c1,c2,c3,c4,c5]:=by
   cases kd with
   |mk k1 a1 n1 nm1 off1 kids1=>exact⟨_,_,_,_,_,_,exA_mk ..⟩
  obtain⟨c0,c1,c2,c3,c4,c5,hagg⟩:=hagg
  have hcl:(exA kd).cells=[c0,c1,c2,c3,c4,c5]:=by rw[hagg];rfl
  rw[hcl]at hx
  have hc1:=fb_catS [40] (txt kd) (by simp only[List.length_cons,List.length_nil];omega)
  have hc2:=fb_catS ([40] ++ txt kd) [41] (by simp only[List.length_append,List.length_cons,List.length_nil];omega)
  have hpar:parT (txt kd)=([40] ++ txt kd) ++ [41]:=rfl
  simp only[strS]at *
  generalize ([40] ++ txt kd) ++ [41]=x2 at *
  generalize [40] ++ txt kd=x1 at *
  simp(maxSteps:=2000000) (disch:=omega)only[W_skip,W_region,W_seq,W_cond,W_ret,seqQ_normal2,seqQ_ret2,WL_nil2,WL_cons,execL_val2,execL_enter2,putL_some2,condW_f2,wantedA,exec1,evalO,initT,T.get_set,T.get_leaf,callA,mapO,ofOpt,ofConst,neNil3,finW_ret,giveW,resultsA,tupA,fb_geq,reduceLT,Nat.reduceAdd,reduceEqDiff,if_true,if_false,true_and,Option.getD_some,List.getElem?_cons_succ,List.getElem?_cons_zero,List.nil_append,List.append_nil,Bool.false_eq_true,nb_get,st0_get,st0_next,cl1_box,List.length_cons,List.length_nil,Nat.zero_add,Nat.reduceLeDiff,List.take_succ_cons,List.take_zero,noTup_agg,cells_agg,ez_P,i64A,neNil3,yl55,yleX,yfX_5,cells_agg,initT,List.getElem?_cons_succ,Tryd.f32,hlr,hge,hx,hf1]
  rw[← hagg]
  refine call16 hkn hok hd ?_
  unfold strS
  simp(maxSteps:=2000000) (disch:=omega)only[W_region,W_seq,seqQ_normal2,WL_nil2,WL_cons,execL_val2,execL_enter2,putL_some2,retL_ret2,wantedA,exec1,evalO,T.get_set,T.get_leaf,callA,mapO,ofOpt,reduceLT,Nat.reduceAdd,reduceEqDiff,if_true,if_false,true_and,List.getElem?_cons_succ,List.getElem?_cons_zero,List.nil_append,List.append_nil,nb_get,st0_get,st0_next,cl1_box,List.length_cons,List.length_nil,Nat.zero_add,Nat.reduceLeDiff,List.take_succ_cons,List.take_zero,ez_P,yl55,yleX,yfX_5,List.getElem?_cons_succ,hx,hf2]
  rw[← hagg]
  refine call54 hok ?_
  unfold i64A
  by_cases hb:bndX kd<least
  ·have hlt:decide (bndX kd<least)=true:=decide_eq_true hb
   rw[if_pos hb,hpar]at fin
   simp(maxSteps:=2000000) (disch:=omega)only[W_skip,W_region,W_seq,W_cond,W_ret,seqQ_normal2,seqQ_ret2,WL_nil2,WL_cons,execL_val2,putL_some2,retL_ret2,condW_t2,wantedA,exec1,evalO,T.get_set,T.get_leaf,ofOpt,ofConst,neNil3,finW_ret,giveW,resultsA,tupA,fb_lss,neNil9,reduceLT,reduceEqDiff,if_true,if_false,true_and,Bool.false_eq_true,ez_P,neNil3,neNil9,hlt,hc1,hc2]
   exact fin _ _ rfl
  ·have hlt:decide (bndX kd<least)=false:=decide_eq_false hb
   rw[if_neg hb]at fin
   simp(maxSteps:=2000000) (disch:=omega)only[W_skip,W_region,W_seq,W_cond,W_ret,seqQ_normal2,seqQ_ret2,WL_nil2,WL_cons,execL_val2,putL_some2,retL_ret2,condW_f2,wantedA,exec1,evalO,T.get_set,T.get_leaf,ofOpt,ofConst,neNil3,finW_ret,giveW,resultsA,tupA,fb_lss,neNil9,reduceLT,reduceEqDiff,if_true,if_false,true_and,Bool.false_eq_true,ez_P,neNil3,neNil9,hlt,hc1,hc2]
   exact fin _ _ rfl
 ·have hge:decide ((i:Int) ≥ (kids.length:Int))=true:=by rw[decide_eq_true_eq];omega
  have hgt:kidT (txL kids) i least=[]:=by
   unfold kidT
   rw[txL_get,List.getElem?_eq_none (by omega)]
   rfl
  rw[hgt]at fin
  generalize rowX kids=row at *
  simp only[strS]at *
  simp(maxSteps:=2000000) (disch:=omega)only[W_skip,W_region,W_seq,W_cond,W_ret,seqQ_normal2,seqQ_ret2,WL_nil2,WL_cons,execL_val2,putL_some2,condW_t2,wantedA,exec1,evalO,initT,T.get_set,T.get_leaf,callA,ofOpt,ofConst,neNil3,finW_ret,giveW,resultsA,tupA,fb_geq,reduceLT,Nat.reduceAdd,reduceEqDiff,if_true,if_false,true_and,Option.getD_some,List.getElem?_cons_succ,List.getElem?_cons_zero,Bool.false_eq_true,nb_get,st0_get,st0_next,cl1_box,Nat.zero_add,noTup_agg,cells_agg,ez_P,i64A,neNil3,yl55,yfX_5,cells_agg,initT,List.getElem?_cons_succ,Tryd.f32,hlr,hge]
  exact fin _ _ rfl
theorem call32{e:PX}{i:Nat}{least:Int}{d:Nat}{S:St}{Q:R→Prop}(ho:okL d e.kids)(hd:d≤4)(hi:i≤10)(H:∀x∈e.kids,KnZ 16 [exA x])(h:Q (.ret (strS (kidT (txL e.kids) i least)) S)):WC EZ 32 [exA e,i64A (i:Int),i64A least] S Q :=
 callZ (kid_k e i least d ho hd hi H) (by kernel_rfl) (by show(freeV (exA e) && true)=true;rw[(exA_fr e).1];rfl) (by show [clean (exA e),_,_]=_;rw[(exA_fr e).2];rfl) fun a _ _ hs=>by
  have:=hs e i least d rfl ho hd hi
  subst this
  exact h
end Go.Ax
noncomputable section
open Nat (reduceLT reduceEqDiff)
namespace Go.Ax
open Go.RowKit Go.Proofs
set_option maxRecDepth 100000
theorem wrapS(i:Nat)(h:i≤999999999):IntKind.i64.wrap ((i:Int)+1)=((i+1:Nat):Int):=wrap_one (by omega)
theorem sgnF_nn(s:List UInt8):0≤sgnF s∧sgnF s≤7:=by
 unfold sgnF;repeat' split
 all_goals omega
theorem bndF_nn(k n:Int)(s:List UInt8):0≤bndF k n s:=by
 have:=sgnF_nn s
 unfold bndF;repeat' split
 all_goals omega
theorem bndX_nn(e:PX):0≤bndX e:=by cases e with |mk k a n nm off kids=>exact bndF_nn k n nm
theorem kidT_0(l:List PX)(i:Nat)(h:i<l.length):kidT (txL l) i 0=txt l[i]:=by
 unfold kidT
 rw[txL_get,List.getElem?_eq_getElem h]
 have:=bndX_nn l[i]
 show(if bndX l[i]<0 then _ else txt l[i])=_
 rw[if_neg (by omega)]
theorem txts_is(l:List PX):(txL l).map (fun x=>x.2.2)=l.map txt:=by
 induction l with
 |nil=>rfl
 |cons e r ih=>show txt e :: (txL r).map (fun x=>x.2.2)=_;rw[ih];rfl
def ktLB:Code:=match Tryd.f35.body with
 |some (.seq _ (.seq _ (.seq (.seq _ (.block _ (.loop c))) _)))=>c
 |_=>.skip
theorem kt_lp{k ap nn:Int}{nm:List UInt8}{off:Bool}{kids:List PX}{d:Nat}(ho:okL d kids)(hd:d≤4)(hl:kids.length≤10)(H:∀x∈kids,KnZ 16 [exA x]):∀(n j:Nat) (v:AV) (t:T AV) (S:St),j+n=kids.length→Acc 1 S v ((kids.take j).map fun x=>strS (txt x))→3≤S.next→S.mem.get 2=some (.box [i64A k,i64A ap,i64A nn,strS nm,.v (.bool off),rowX kids])→t.get 1=some (.ptr 2 0)→t.get 3=some v→t.get 7=some (.v (.int .i64 ((kids.length:Nat):Int)))→t.get 8=some (.v (.int .i64 ((j:Nat):Int))) →
  WX EZ 20 (.loop ktLB) ⟨t,[]⟩ S (fun r=>∃t' S' v',r=.out (.exit 0) ⟨t',[]⟩ S'∧Acc 1 S' v' (kids.map fun x=>strS (txt x))∧t'.get 3=some v')
 |0,j,v,t,S,hj,hA,hn,m2,T1,T3,T7,T8=>by
  refine WX_loop (W_sound ?_)
  have hlt:decide ((j:Int)<(kids.length:Int))=false:=by rw[decide_eq_false_iff_not];omega
  have hjl:kids.take j=kids:=List.take_of_length_le (by omega)
  rw[hjl]at hA
  simp(maxSteps:=2000000) (disch:=omega)only[thenW_exit,W_skip,W_region,W_seq,W_cond,W_block,W_exit,seqQ_normal2,seqQ_exit2,WL_nil2,WL_cons,execL_val2,putL_some2,condW_f2,wantedA,exec1,evalO,T.get_set,ofOpt,neNil3,fb_lss,reduceLT,reduceEqDiff,if_true,if_false,true_and,Bool.false_eq_true,ez_P,strS,neNil3,ylX,ktLB,Tryd.f35,T1,T3,T7,T8,hlt]
  exact⟨_,_,v,rfl,hA,by simp only[T.get_set,reduceEqDiff,if_false,T3]⟩
 |n+1,j,v,t,S,hj,hA,hn,m2,T1,T3,T7,T8=>by
  refine WX_loop (W_sound ?_)
  have hjl:j<kids.length:=by omega
  have hlt:decide ((j:Int)<(kids.length:Int))=true:=by rw[decide_eq_true_eq];omega
  have hws:=wrapS j (by omega)
  obtain⟨fn1,hf1⟩:=fnz_32
  obtain⟨bytes,hrt⟩:=ytS
  obtain⟨S2,happ,hA2,n2,k2⟩:=acc_push hrt hA (by omega) (strS (txt kids[j])) rfl (by rw[List.length_map,List.length_take];omega)
  have hmm:(kids.take j).map (fun x=>strS (txt x)) ++ [strS (txt kids[j])]=(kids.take (j+1)).map fun x=>strS (txt x):=by
   rw[List.take_succ_eq_append_getElem hjl,List.map_append];rfl
  rw[hmm]at happ hA2
  have fin:=fun(t':T AV)=>kt_lp (k:=k) (ap:=ap) (nn:=nn) (nm:=nm) (off:=off) ho hd hl H n (j+1) _ t' S2 (by omega) hA2 (by omega) (k2 2 _ (by omega) (by omega) m2)
  have hk0:=kidT_0 kids j hjl
  have he:exA (.mk k ap nn nm off kids)=.agg [i64A k,i64A ap,i64A nn,strS nm,.v (.bool off),rowX kids]:=exA_mk ..
  generalize (kids.take (j+1)).map (fun x=>strS (txt x))=nw at *
  generalize (kids.take j).map (fun x=>strS (txt x))=ow at *
  generalize hrow:rowX kids=row at *
  generalize txt kids[j]=tj at *
  simp only[strS,i64A]at happ m2 he
  simp(maxSteps:=2000000) (disch:=omega)only[thenW_exit,W_skip,W_region,W_seq,W_cond,W_block,W_exit,seqQ_normal2,seqQ_exit2,WL_nil2,WL_cons,execL_val2,execL_enter2,putL_some2,condW_t2,wantedA,exec1,evalO,T.get_set,callA,mapO,ofOpt,ofConst,neNil3,fb_lss,reduceLT,Nat.reduceAdd,reduceEqDiff,if_true,if_false,true_and,List.nil_append,List.append_nil,Bool.false_eq_true,clN_box,List.length_cons,List.length_nil,Nat.zero_add,Nat.reduceLeDiff,List.drop_zero,List.take_succ_cons,List.take_zero,ez_P,strS,neNil3,ylX,clN_box,ktLB,Tryd.f35,T1,T3,T7,T8,hlt,m2,hf1]
  rw[← he]
  refine call32 (i:=j) (least:=0) (d:=d) ho hd (by omega) H ?_
  show _
  have hk0':kidT (txL (PX.mk k ap nn nm off kids).kids) j 0=tj:=hk0
  rw[hk0',he]
  unfold strS
  simp(maxSteps:=2000000) (disch:=omega)only[thenW_normal,W_region,seqQ_normal2,blockW_normal2,WL_nil2,WL_cons,execL_val2,putL_some2,retL_ret2,wantedA,exec1,evalO,T.get_set,callA,ofOpt,ofOptS,ofConst,partsA,neNil3,fb_add,reduceLT,reduceEqDiff,if_true,if_false,true_and,Bool.false_eq_true,ez_P,neNil3,yrS_1,T8,hws,happ]
  refine fin _ ?_ ?_ ?_ ?_
  ·simp only[T.get_set,reduceEqDiff,if_false,T1]
  ·simp only[T.get_set,reduceEqDiff,if_true,if_false]
  ·simp only[T.get_set,reduceEqDiff,if_false,T7]
  ·simp only[T.get_set,reduceEqDiff,if_true,if_false]
theorem kt_k(e:PX)(d:Nat)(ho:okL d e.kids)(hd:d≤4)(hl:e.kids.length≤10)(H:∀x∈e.kids,KnZ 16 [exA x]):KnZ 35 [exA e]:=by
 have fin:∀(x:List UInt8) (S':St),x=rowT' (txL e.kids)→∃a S'',R.ret (.v (.string ⟨⟨x⟩⟩)) S' = R.ret a S''∧freeV a=true∧SpecZ 35 [exA e] (clean a):=fun x S' h=>by
  refine⟨_,_,rfl,rfl,?_⟩
  intro e' d' q _ _ _
  simp only[List.cons.injEq,and_true]at q
  rw[← exA_inj _ _ q,← h]
  rfl
 cases e with
 |mk k ap nn nm off kids =>
 have ho:okL d kids:=ho
 have hl:kids.length≤10:=hl
 have H:∀x∈kids,KnZ 16 [exA x]:=H
 have fin:∀(x:List UInt8) (S':St),x=rowT' (txL kids)→∃a S'',R.ret (.v (.string ⟨⟨x⟩⟩)) S' = R.ret a S''∧freeV a=true∧SpecZ 35 [exA (.mk k ap nn nm off kids)] (clean a):=fin
 have hjoin:Lib.join (kids.map txt) [44,32]=rowT' (txL kids):=by unfold rowT';rw[txts_is]
 have hjl:(Lib.join (kids.map txt) [44,32]).length≤1000000000:=by
  have h1:=rowT_len (txL_bound d kids ho) (by rw[txL_len];exact hl)
  have h2:=LB_le hd
  rw[hjoin];omega
 have hml:(kids.map txt).length≤1000000:=by rw[List.length_map];omega
 have hst:kids.map (fun x=>strS (txt x))=(kids.map txt).map strS:=by rw[List.map_map];rfl
 rw[exA_mk]at fin ⊢
 refine bodyZ Tryd.f35 (by kernel_rfl) (by kernel_rfl) (show(_:Nat)≤_ from by show(_:Nat)≤_;simp[Tryd.f35]) ?_
 obtain⟨fn1,hf1⟩:=fnz_43
 have hlr:=rowX_len kids
 have lp:=fun t S=>kt_lp (k:=k) (ap:=ap) (nn:=nn) (nm:=nm) (off:=off) ho hd hl H kids.length 0 .nils t S (by omega) (Acc.none 1 S)
 unfold ktLB at lp
 simp only[Tryd.f35]at lp
 generalize rowX kids=row at *
 simp only[strS,i64A]at *
 simp(maxSteps:=2000000) (disch:=omega)only[W_region,W_seq,W_block,W_loop,seqQ_normal2,WL_nil2,WL_cons,execL_val2,putL_some2,wantedA,exec1,evalO,initT,T.get_set,T.get_leaf,callA,ofOpt,ofConst,reduceLT,reduceEqDiff,if_true,if_false,true_and,Option.getD_some,List.getElem?_cons_succ,List.getElem?_cons_zero,nb_get,st0_get,st0_next,cl1_box,Nat.zero_add,noTup_agg,cells_agg,ez_P,yl55,yfX_5,cells_agg,initT,List.getElem?_cons_succ,Tryd.f35,hlr]
 refine WX.mono (lp _ _ ?_ ?_ ?_ ?_ ?_ ?_) ?_
 ·simp only[nb_next,st0_next];omega
 ·simp only[nb_get,st0_next,if_true] <;> rfl
 ·simp only[T.get_set,T.get_leaf,reduceEqDiff,if_true,if_false] <;> rfl
 ·simp only[T.get_set,T.get_leaf,reduceEqDiff,if_true,if_false] <;> rfl
 ·simp only[T.get_set,T.get_leaf,reduceEqDiff,if_true,if_false] <;> rfl
 ·simp only[T.get_set,T.get_leaf,reduceEqDiff,if_true,if_false] <;> rfl
 rintro _ ⟨t',S',v',rfl,hA,T3⟩
 clear lp
 rcases hA with⟨rfl,hA⟩ | ⟨tk,rfl,_⟩
 ·have hnil:kids=[]:=List.map_eq_nil_iff.1 hA
  simp(maxSteps:=2000000) (disch:=omega)only[W_region,W_seq,seqQ_normal2,seqQ_exit2,blockW_exit2,WL_cons,execL_val2,execL_enter2,putL_some2,wantedA,exec1,evalO,T.get_set,callA,mapO,ofOpt,ofConst,reduceLT,if_true,true_and,List.nil_append,List.append_nil,T3,hf1]
  refine join_none ?_
  unfold strS
  simp(maxSteps:=2000000) (disch:=omega)only[W_ret,seqQ_normal2,WL_nil2,WL_cons,execL_val2,putL_some2,retL_ret2,wantedA,exec1,evalO,T.get_set,ofOpt,finW_ret,giveW,resultsA,tupA,reduceLT,reduceEqDiff,if_true,if_false,true_and]
  exact fin _ _ (by rw[← hjoin,hnil];rfl)
 ·have hst2:kids.map (fun x=>AV.v (.string ⟨⟨txt x⟩⟩))=(kids.map txt).map strS:=by rw[List.map_map];rfl
  rw[hst2]at T3
  generalize hwm:(kids.map txt).map strS=wm at T3
  simp(maxSteps:=2000000) (disch:=omega)only[W_region,W_seq,seqQ_normal2,seqQ_exit2,blockW_exit2,WL_cons,execL_val2,execL_enter2,putL_some2,wantedA,exec1,evalO,T.get_set,callA,mapO,ofOpt,ofConst,reduceLT,if_true,true_and,List.nil_append,List.append_nil,T3,hf1]
  rw[← hwm]
  refine join_sl (s:=[44,32]) hml hjl ?_
  unfold strS
  simp(maxSteps:=2000000) (disch:=omega)only[W_ret,seqQ_normal2,WL_nil2,WL_cons,execL_val2,putL_some2,retL_ret2,wantedA,exec1,evalO,T.get_set,ofOpt,finW_ret,giveW,resultsA,tupA,reduceLT,reduceEqDiff,if_true,if_false,true_and]
  exact fin _ _ hjoin
theorem call35{e:PX}{d:Nat}{S:St}{Q:R→Prop}(ho:okL d e.kids)(hd:d≤4)(hl:e.kids.length≤10)(H:∀x∈e.kids,KnZ 16 [exA x])(h:Q (.ret (strS (rowT' (txL e.kids))) S)):WC EZ 35 [exA e] S Q :=
 callZ (kt_k e d ho hd hl H) (by kernel_rfl) (by show(freeV (exA e) && true)=true;rw[(exA_fr e).1];rfl) (by show [clean (exA e)]=_;rw[(exA_fr e).2]) fun a _ _ hs=>by
  have:=hs e d rfl ho hd hl
  subst this
  exact h
end Go.Ax
noncomputable section
open Nat (reduceLT reduceEqDiff)
namespace Go.Ax
open Go.RowKit Go.Proofs
set_option maxRecDepth 100000
theorem yfep57_0(c:AV)(cs:List AV):oFieldAddr Tryd.prog 57 (.ep (c :: cs)) 0=some (.ep (c :: cs)):=by kernel_rfl
theorem neg_k(e:PX)(d:Nat)(ho:okX d e)(hd:d≤4)(hk:e.kind=4)(H:∀x∈e.kids,KnZ 16 [exA x]):KnZ 31 [exA e]:=by
 have fin:∀(x:List UInt8) (S':St),x=txt e→∃a S'',R.ret (.v (.string ⟨⟨x⟩⟩)) S' = R.ret a S''∧freeV a=true∧SpecZ 31 [exA e] (clean a):=fun x S' h=>by
  refine⟨_,_,rfl,rfl,?_⟩
  intro e' d' q _ _ _
  simp only[List.cons.injEq,and_true]at q
  rw[← exA_inj _ _ q,← h]
  rfl
 cases e with
 |mk k ap nn nm off kids =>
 have hk:k=4:=hk
 subst hk
 cases d with
 |zero=>exact absurd ho (by simp[okX])
 |succ d =>
 simp only[okX]at ho
 obtain⟨_,hnn,_,hnm,hne,hok⟩:=ho
 have hfew:=needs_few hne
 have H:∀x∈kids,KnZ 16 [exA x]:=H
 have fin:∀(x:List UInt8) (S':St),x=textOf 4 nn nm off (txL kids)→∃a S'',R.ret (.v (.string ⟨⟨x⟩⟩)) S' = R.ret a S''∧freeV a=true∧SpecZ 31 [exA (.mk 4 ap nn nm off kids)] (clean a):=fin
 have he:exA (.mk 4 ap nn nm off kids)=.agg [i64A 4,i64A ap,i64A nn,strS nm,.v (.bool off),rowX kids]:=exA_mk ..
 have hd':d≤4:=by omega
 have hLB:=LB_le hd'
 have hlr:=rowX_len kids
 have hkl:=fun(i:Nat) (l:Int)=>kidT_len (txL_bound d kids hok) i l
 have hl1:kids.length=1:=by unfold needs at hne;omega
 have h0:0<kids.length:=by omega
 have hx:=rowX_idx kids 0 h0
 have hraw:(kindT (txL kids) 0=1∨(kidT (txL kids) 0 8).head? = some 45)→kidT (txL kids) 0 8=rawT (txL kids) 0:=by
  unfold kindT kidT rawT
  rw[txL_get,List.getElem?_eq_getElem h0]
  simp only[Option.map_some]
  generalize kids[0]=kd
  cases kd with
  |mk k1 a1 n1 nm1 off1 kids1 =>
   intro h
   by_cases hb:bndX (.mk k1 a1 n1 nm1 off1 kids1)<8
   ·rw[if_pos hb]at h ⊢
    rcases h with h |h
    ·have hk1:k1=1:=h
     subst hk1
     have:bndX (.mk 1 a1 n1 nm1 off1 kids1)=if n1<0 then 8 else 10:=rfl
     rw[this]at hb
     split at hb <;> omega
    ·have hp:(parT (txt (.mk k1 a1 n1 nm1 off1 kids1))).head? = some 40:=rfl
     rw[hp]at h;cases h
   ·rw[if_neg hb]
 have htx:textOf 4 nn nm off (txL kids)=if kindT (txL kids) 0=1∨(kidT (txL kids) 0 8).head? = some 45 then([45,40] ++ rawT (txL kids) 0) ++ [41]else [45] ++ kidT (txL kids) 0 8:=rfl
 rw[htx]at fin
 have hkd:kindT (txL kids) 0=kids[0].kind:=by
  unfold kindT
  rw[txL_get,List.getElem?_eq_getElem h0];rfl
 have hagg:∃c1 c2 c3 c4 c5,exA kids[0]=.agg [i64A kids[0].kind,c1,c2,c3,c4,c5]:=by
  cases kids[0]with
  |mk k1 a1 n1 nm1 off1 kids1=>exact⟨_,_,_,_,_,exA_mk ..⟩
 obtain⟨c1,c2,c3,c4,c5,hagg⟩:=hagg
 have hcl:(exA kids[0]).cells=[i64A kids[0].kind,c1,c2,c3,c4,c5]:=by rw[hagg];rfl
 rw[hcl]at hx
 have hx:oIndexAddr Tryd.prog 55 (rowX kids) (.v (.int .i64 0))=some (.ep [i64A kids[0].kind,c1,c2,c3,c4,c5]):=hx
 rw[hkd]at fin hraw
 have hks:=hkl 0 8
 generalize rawT (txL kids) 0=raw at *
 generalize hkt:kidT (txL kids) 0 8=s at *
 have hc1:=fb_catS [45,40] s (by simp only[List.length_cons,List.length_nil];omega)
 have hc2:=fb_catS ([45,40] ++ s) [41] (by simp only[List.length_append,List.length_cons,List.length_nil];omega)
 have hc3:=fb_catS [45] s (by simp only[List.length_cons,List.length_nil];omega)
 have hgt:decide ((kids.length:Int) > 0)=true:=by rw[decide_eq_true_eq];omega
 have hyf:∀cs:List AV,oFieldAddr Tryd.prog 57 (.ep cs) 0=oFieldAddr Tryd.prog 57 (.ep cs) 0:=fun _=>rfl
 rw[he]at fin ⊢
 refine bodyZ Tryd.f31 (by kernel_rfl) (by kernel_rfl) (show(_:Nat)≤_ from by show(_:Nat)≤_;simp[Tryd.f31]) ?_
 obtain⟨fn1,hf1⟩:=fnz_32
 obtain⟨fn2,hf2⟩:=fnz_53
 generalize hrow:rowX kids=row at *
 generalize hy1:([45,40] ++ s) ++ [41]=y1 at *
 generalize hy0:[45,40] ++ s=y0 at *
 generalize hy2:[45] ++ s=y2 at *
 simp only[strS,i64A]at *
 simp(maxSteps:=2000000) (disch:=omega)only[W_region,W_seq,seqQ_normal2,WL_nil2,WL_cons,execL_val2,execL_enter2,putL_some2,wantedA,exec1,evalO,initT,T.get_set,T.get_leaf,callA,mapO,ofOpt,ofConst,reduceLT,Nat.reduceAdd,reduceEqDiff,if_true,if_false,true_and,Option.getD_some,List.nil_append,List.append_nil,nb_get,st0_get,st0_next,clN_box,List.length_cons,List.length_nil,Nat.zero_add,Nat.reduceLeDiff,List.drop_zero,List.take_succ_cons,List.take_zero,noTup_agg,cells_agg,ez_P,ylX,clN_box,cells_agg,initT,Tryd.f31,hf1]
 rw[← he]
 refine call32 (i:=0) (least:=8) (d:=d) hok hd' (by omega) H ?_
 have hkt':kidT (txL (PX.mk 4 ap nn nm off kids).kids) 0 8=s:=hkt
 rw[hkt',he]
 unfold strS
 by_cases hk1:kids[0].kind=1
 ·have hb1:(kids[0].kind == 1)=true:=by rw[hk1];rfl
  rw[if_pos (.inl hk1),← hraw (.inl hk1)]at fin
  simp(maxSteps:=2000000) (disch:=omega)only[W_skip,W_region,W_seq,W_cond,W_ret,seqQ_normal2,seqQ_ret2,WL_nil2,WL_cons,execL_no,execL_val2,putL_some2,retL_ret2,condW_t2,wantedA,exec1,evalO,T.get_set,T.get_leaf,callA,mapO,ofOpt,ofConst,neNil3,finW_ret,giveW,resultsA,tupA,fb_gtr,fb_eqlI,neNil9,reduceLT,reduceEqDiff,if_true,if_false,true_and,List.getElem?_toArray,List.getElem?_cons_succ,List.getElem?_cons_zero,Option.bind_some,List.nil_append,List.append_nil,beq_self_eq_true,Bool.false_eq_true,Bool.true_beq,nb_get,st0_get,st0_next,cl1_box,Nat.zero_add,ez_P,neNil3,neNil9,yl55,yfX_5,List.getElem?_cons_succ,hlr,hgt,hx,hb1,hf2,hc1,hc2,hc3,yfep57_0,yle3]
  exact fin _ _ (by rw[← hy1,← hy0])
 ·have hb1:(kids[0].kind == 1)=false:=by simp[hk1]
  simp(maxSteps:=2000000) (disch:=omega)only[W_region,W_seq,seqQ_normal2,WL_nil2,WL_cons,execL_val2,execL_enter2,putL_some2,retL_ret2,wantedA,exec1,evalO,T.get_set,T.get_leaf,callA,mapO,ofOpt,ofConst,neNil3,fb_gtr,fb_eqlI,reduceLT,reduceEqDiff,if_true,if_false,true_and,List.getElem?_toArray,List.getElem?_cons_succ,List.getElem?_cons_zero,Option.bind_some,List.nil_append,List.append_nil,beq_self_eq_true,Bool.false_eq_true,nb_get,st0_get,st0_next,cl1_box,Nat.zero_add,ez_P,neNil3,yl55,yfX_5,List.getElem?_cons_succ,hlr,hgt,hx,hb1,hf2,yfep57_0,yle3]
  refine pre_u ?_
  by_cases h45:s.head? = some 45
  ·have hb2:decide (s.head? = some 45)=true:=decide_eq_true h45
   rw[if_pos (.inr h45),← hraw (.inr h45)]at fin
   simp(maxSteps:=2000000) (disch:=omega)only[W_skip,W_region,W_seq,W_cond,W_ret,seqQ_normal2,seqQ_ret2,WL_nil2,WL_cons,execL_val2,putL_some2,retL_ret2,condW_t2,wantedA,exec1,evalO,T.get_set,T.get_leaf,ofOpt,ofConst,finW_ret,giveW,resultsA,tupA,neNil9,reduceLT,reduceEqDiff,if_true,if_false,true_and,Bool.false_eq_true,ez_P,neNil9,hb2,hc1,hc2,hc3]
   exact fin _ _ (by rw[← hy1,← hy0])
  ·have hb2:decide (s.head? = some 45)=false:=decide_eq_false h45
   rw[if_neg (by rintro(h |h) <;> contradiction)]at fin
   simp(maxSteps:=2000000) (disch:=omega)only[W_skip,W_region,W_seq,W_cond,W_ret,seqQ_normal2,seqQ_ret2,WL_nil2,WL_cons,execL_val2,putL_some2,retL_ret2,condW_f2,wantedA,exec1,evalO,T.get_set,T.get_leaf,ofOpt,ofConst,finW_ret,giveW,resultsA,tupA,neNil9,reduceLT,reduceEqDiff,if_true,if_false,true_and,Bool.false_eq_true,ez_P,neNil9,hb2,hc1,hc2,hc3]
   exact fin _ _ (by rw[← hy2])
end Go.Ax
noncomputable section
open Nat (reduceLT reduceAdd reduceEqDiff reduceLeDiff)
namespace Go.Ax
open Go.RowKit Go.Proofs
set_option maxRecDepth 100000
mutual
theorem beqA_ex:∀e:PX,beqA (exA e) (exA e)=true
 |.mk k a n nm off kids=>by
  have h:=beqL_ex kids
  rw[exA_mk]
  cases kids with
  |nil=>simp[beqA,beqL,i64A,strS,rowX,eqS,bytes_refl]
  |cons x r=>simp[beqA,beqL,i64A,strS,rowX,eqS,bytes_refl,h]
theorem beqL_ex:∀l:List PX,beqL (exL l) (exL l)=true
 | []=>rfl
 |e :: r=>by
  show(beqA (exA e) (exA e) && beqL (exL r) (exL r))=true
  rw[beqA_ex e,beqL_ex r];rfl
end
theorem beqA_st(l:List UInt8):beqA (.v (.string ⟨⟨l⟩⟩)) (.v (.string ⟨⟨l⟩⟩))=true:=by simp[beqA,eqS,bytes_refl]
theorem bin_k(e:PX)(d:Nat)(ho:okX d e)(hd:d≤4)(hk:e.kind=6)(H:∀x∈e.kids,KnZ 16 [exA x]):KnZ 33 [exA e]:=by
 have fin:∀(x:List UInt8) (S':St),x=txt e→∃a S'',R.ret (.v (.string ⟨⟨x⟩⟩)) S' = R.ret a S''∧freeV a=true∧SpecZ 33 [exA e] (clean a):=fun x S' h=>by
  refine⟨_,_,rfl,rfl,?_⟩
  intro e' d' q _ _ _
  simp only[List.cons.injEq,and_true]at q
  rw[← exA_inj _ _ q,← h]
  rfl
 cases e with
 |mk k ap nn nm off kids =>
 have hk:k=6:=hk
 subst hk
 cases d with
 |zero=>exact absurd ho (by simp[okX])
 |succ d =>
 simp only[okX]at ho
 obtain⟨_,hnn,_,hnm,hne,hok⟩:=ho
 have hfew:=needs_few hne
 have H:∀x∈kids,KnZ 16 [exA x]:=H
 have fin:∀(x:List UInt8) (S':St),x=textOf 6 nn nm off (txL kids)→∃a S'',R.ret (.v (.string ⟨⟨x⟩⟩)) S' = R.ret a S''∧freeV a=true∧SpecZ 33 [exA (.mk 6 ap nn nm off kids)] (clean a):=fin
 have he:exA (.mk 6 ap nn nm off kids)=.agg [i64A 6,i64A ap,i64A nn,strS nm,.v (.bool off),rowX kids]:=exA_mk ..
 have hd':d≤4:=by omega
 have hLB:=LB_le hd'
 have hlr:=rowX_len kids
 have hkl:=fun(i:Nat) (l:Int)=>kidT_len (txL_bound d kids hok) i l
 have hsg:=sgnF_nn nm
 have htx:textOf 6 nn nm off (txL kids)=((kidT (txL kids) 0 (if sgnF nm=5 then 6 else sgnF nm) ++ [32]) ++ nm) ++ [32] ++ kidT (txL kids) 1 (sgnF nm+1):=rfl
 rw[htx]at fin
 have hsw:IntKind.i64.wrap (sgnF nm+1)=sgnF nm+1:=by
  have h:=wrap_one (i:=(sgnF nm).toNat) (by omega)
  have e1:(((sgnF nm).toNat:Nat):Int)=sgnF nm:=by omega
  rw[e1]at h
  rw[h];omega
 have hks:=hkl 0 (if sgnF nm=5 then 6 else sgnF nm)
 have hks2:=hkl 1 (sgnF nm+1)
 have ca:=fun l:Int=>@call32 (.mk 6 ap nn nm off kids) 0 l d
 have cb:=fun l:Int=>@call32 (.mk 6 ap nn nm off kids) 1 l d
 generalize hg:sgnF nm=sg at *
 generalize hA:(if sg=5 then(6:Int)else sg)=lA at *
 generalize hkA:kidT (txL kids) 0 lA=sA at *
 generalize hkB:kidT (txL kids) 1 (sg+1)=sB at *
 have hc1:=fb_catS sA [32] (by simp only[List.length_cons,List.length_nil];omega)
 have hc2:=fb_catS (sA ++ [32]) nm (by simp only[List.length_append,List.length_cons,List.length_nil];omega)
 have hc3:=fb_catS ((sA ++ [32]) ++ nm) [32] (by simp only[List.length_append,List.length_cons,List.length_nil];omega)
 have hc4:=fb_catS (((sA ++ [32]) ++ nm) ++ [32]) sB (by simp only[List.length_append,List.length_cons,List.length_nil];omega)
 rw[he]at fin ⊢
 refine bodyZ Tryd.f33 (by kernel_rfl) (by kernel_rfl) (show(_:Nat)≤_ from by show(_:Nat)≤_;simp[Tryd.f33]) ?_
 obtain⟨fn1,hf1⟩:=fnz_32
 obtain⟨fn2,hf2⟩:=fnz_55
 have hkA':kidT (txL (PX.mk 6 ap nn nm off kids).kids) 0 lA=sA:=hkA
 have hkB':kidT (txL (PX.mk 6 ap nn nm off kids).kids) 1 (sg+1)=sB:=hkB
 generalize hrow:rowX kids=row at *
 generalize hy4:(((sA ++ [32]) ++ nm) ++ [32]) ++ sB=y4 at *
 generalize hy3:((sA ++ [32]) ++ nm) ++ [32]=y3 at *
 generalize hy2:(sA ++ [32]) ++ nm=y2 at *
 generalize hy1:sA ++ [32]=y1 at *
 simp only[strS,i64A]at *
 simp(maxSteps:=2000000) (disch:=omega)only[W_region,W_seq,seqQ_normal2,WL_nil2,WL_cons,execL_val2,execL_enter2,putL_some2,wantedA,exec1,evalO,initT,T.get_set,T.get_leaf,callA,mapO,ofOpt,ofConst,reduceLT,reduceEqDiff,if_true,if_false,true_and,Option.getD_some,List.getElem?_cons_succ,List.getElem?_cons_zero,List.nil_append,List.append_nil,nb_get,st0_get,st0_next,cl1_box,Nat.zero_add,noTup_agg,cells_agg,ez_P,yl9,yfX_3,cells_agg,initT,List.getElem?_cons_succ,Tryd.f33,hf2]
 refine sgn_u ?_
 rw[hg]
 unfold i64A
 have hbe:=beqA_ex (.mk 6 ap nn nm off kids)
 rw[he]at hbe
 have hbs:=beqA_st nm
 by_cases h5:sg=5
 ·subst h5
  have hl6:lA=6:=by rw[← hA];rfl
  subst hl6
  have hb:((5:Int) == 5)=true:=rfl
  have hkA'':kidT (txL (PX.mk 6 ap nn nm off kids).kids) 0 (5+1)=sA:=hkA'
  simp(maxSteps:=2000000) (disch:=omega)only[W_skip,W_region,W_drawn,W_seq,W_cond,seqQ_normal2,WL_nil2,WL_cons,execL_val2,putL_some2,retL_ret2,condW_t2,wantedA,exec1,evalO,T.get_set,T.get_leaf,ofOpt,ofConst,neNil3,fb_add,fb_eqlI,reduceLT,reduceEqDiff,if_true,if_false,true_and,beq_self_eq_true,Bool.false_eq_true,ez_P,neNil3,hsw]
  refine WD_by [(0,true),(1,true),(4,true),(5,true),(8,true),(9,true),(10,true),(2,true),(8,false),(5,false),(3,true),(6,true),(7,true),(11,true),(5,false),(12,true),(13,true)] (by kernel_rfl) (by kernel_rfl) ?_
  simp(maxSteps:=2000000) (disch:=omega)only[wantedA,exec1,evalO,T.get_set,T.get_leaf,callA,mapO,ofOpt,ofConst,neNil3,fb_add,reduceLT,reduceAdd,reduceEqDiff,if_true,if_false,true_and,List.getElem?_toArray,List.getElem?_cons_succ,List.getElem?_cons_zero,List.nil_append,List.append_nil,Bool.false_eq_true,WR_op,execR_val2,execR_enter2,putRW_some2,rsOf,nb_get,st0_get,st0_next,cl1_box,clN_box,List.length_cons,List.length_nil,Nat.zero_add,reduceLeDiff,List.drop_zero,List.take_succ_cons,List.take_zero,ez_P,neNil3,yl9,ylX,yfX_3,clN_box,List.getElem?_cons_succ,hf1,hsw]
  rw[← he]
  refine call32 (e:=.mk 6 ap nn nm off kids) (i:=0) (least:=5+1) (d:=d) hok hd' (by omega) H ?_
  rw[hkA'',he]
  unfold strS
  simp(maxSteps:=2000000) (disch:=omega)only[wantedA,exec1,evalO,T.get_set,T.get_leaf,callA,mapO,ofOpt,ofConst,neNil9,reduceLT,reduceAdd,reduceEqDiff,if_true,if_false,true_and,List.getElem?_cons_succ,List.getElem?_cons_zero,List.nil_append,List.append_nil,Bool.false_eq_true,WR_op,WR_re2,execR_val2,execR_enter2,putRW_some2,retRW_ret2,againO,lookV,nb_get,st0_get,st0_next,cl1_box,clN_box,List.length_cons,List.length_nil,Nat.zero_add,reduceLeDiff,List.drop_zero,List.take_succ_cons,List.take_zero,ez_P,neNil9,yl9,ylX,clN_box,List.getElem?_cons_succ,hf1,hbe,hbs,hc1,hc2,hc3]
  rw[← he]
  refine call32 (e:=.mk 6 ap nn nm off kids) (i:=1) (least:=5+1) (d:=d) hok hd' (by omega) H ?_
  rw[hkB',he]
  unfold strS
  simp(maxSteps:=2000000) (disch:=omega)only[W_ret,seqQ_normal2,wantedA,exec1,evalO,T.get_set,T.get_leaf,ofOpt,finW_ret,giveW,resultsA,tupA,neNil9,reduceLT,reduceEqDiff,if_true,if_false,true_and,List.getElem?_cons_succ,List.getElem?_cons_zero,Bool.false_eq_true,WR_nil2,WR_op,WR_re2,execR_val2,putRW_some2,retRW_ret2,fixQ_normal2,againO,lookV,nb_get,st0_get,st0_next,cl1_box,ez_P,neNil9,yl9,List.getElem?_cons_succ,hbs,hc4]
  exact fin _ _ rfl
 ·have hb:(sg == 5)=false:=by simp[h5]
  have hA6:sg=lA:=by rw[← hA,if_neg h5]
  simp(maxSteps:=2000000) (disch:=omega)only[W_skip,W_region,W_drawn,W_seq,W_cond,seqQ_normal2,WL_nil2,WL_cons,execL_val2,putL_some2,retL_ret2,condW_f2,wantedA,exec1,evalO,T.get_set,T.get_leaf,ofOpt,ofConst,neNil3,fb_add,fb_eqlI,reduceLT,reduceEqDiff,if_true,if_false,true_and,Bool.false_eq_true,ez_P,neNil3,hb]
  refine WD_by [(0,true),(1,true),(4,true),(5,true),(8,true),(9,true),(10,true),(2,true),(8,false),(5,false),(3,true),(6,true),(7,true),(11,true),(5,false),(12,true),(13,true)] (by kernel_rfl) (by kernel_rfl) ?_
  simp(maxSteps:=2000000) (disch:=omega)only[wantedA,exec1,evalO,T.get_set,T.get_leaf,callA,mapO,ofOpt,ofConst,neNil3,fb_add,reduceLT,reduceAdd,reduceEqDiff,if_true,if_false,true_and,List.getElem?_toArray,List.getElem?_cons_succ,List.getElem?_cons_zero,List.nil_append,List.append_nil,Bool.false_eq_true,WR_op,execR_val2,execR_enter2,putRW_some2,rsOf,nb_get,st0_get,st0_next,cl1_box,clN_box,List.length_cons,List.length_nil,Nat.zero_add,reduceLeDiff,List.drop_zero,List.take_succ_cons,List.take_zero,ez_P,neNil3,yl9,ylX,yfX_3,clN_box,List.getElem?_cons_succ,hf1]
  rw[← he,hA6]
  refine call32 (e:=.mk 6 ap nn nm off kids) (i:=0) (least:=lA) (d:=d) hok hd' (by omega) H ?_
  rw[hkA',he,← hA6]
  unfold strS
  simp(maxSteps:=2000000) (disch:=omega)only[wantedA,exec1,evalO,T.get_set,T.get_leaf,callA,mapO,ofOpt,ofConst,neNil9,reduceLT,reduceAdd,reduceEqDiff,if_true,if_false,true_and,List.getElem?_cons_succ,List.getElem?_cons_zero,List.nil_append,List.append_nil,Bool.false_eq_true,WR_op,WR_re2,execR_val2,execR_enter2,putRW_some2,retRW_ret2,againO,lookV,nb_get,st0_get,st0_next,cl1_box,clN_box,List.length_cons,List.length_nil,Nat.zero_add,reduceLeDiff,List.drop_zero,List.take_succ_cons,List.take_zero,ez_P,neNil9,yl9,ylX,clN_box,List.getElem?_cons_succ,hf1,hsw,hbe,hbs,hc1,hc2,hc3]
  rw[← he]
  refine call32 (e:=.mk 6 ap nn nm off kids) (i:=1) (least:=sg+1) (d:=d) hok hd' (by omega) H ?_
  rw[hkB',he]
  unfold strS
  simp(maxSteps:=2000000) (disch:=omega)only[W_ret,seqQ_normal2,wantedA,exec1,evalO,T.get_set,T.get_leaf,ofOpt,finW_ret,giveW,resultsA,tupA,neNil9,reduceLT,reduceEqDiff,if_true,if_false,true_and,List.getElem?_cons_succ,List.getElem?_cons_zero,Bool.false_eq_true,WR_nil2,WR_op,WR_re2,execR_val2,putRW_some2,retRW_ret2,fixQ_normal2,againO,lookV,nb_get,st0_get,st0_next,cl1_box,ez_P,neNil9,yl9,List.getElem?_cons_succ,hbs,hc4]
  exact fin _ _ rfl
theorem aw_k(e:PX)(d:Nat)(ho:okX d e)(hd:d≤4)(hk:e.kind=14)(H:∀x∈e.kids,KnZ 16 [exA x]):KnZ 36 [exA e]:=by
 have fin:∀(x:List UInt8) (S':St),x=txt e→∃a S'',R.ret (.v (.string ⟨⟨x⟩⟩)) S' = R.ret a S''∧freeV a=true∧SpecZ 36 [exA e] (clean a):=fun x S' h=>by
  refine⟨_,_,rfl,rfl,?_⟩
  intro e' d' q _ _ _
  simp only[List.cons.injEq,and_true]at q
  rw[← exA_inj _ _ q,← h]
  rfl
 cases e with
 |mk k ap nn nm off kids =>
 have hk:k=14:=hk
 subst hk
 cases d with
 |zero=>exact absurd ho (by simp[okX])
 |succ d =>
 simp only[okX]at ho
 obtain⟨_,hnn,_,hnm,hne,hok⟩:=ho
 have hfew:=needs_few hne
 have H:∀x∈kids,KnZ 16 [exA x]:=H
 have fin:∀(x:List UInt8) (S':St),x=textOf 14 nn nm off (txL kids)→∃a S'',R.ret (.v (.string ⟨⟨x⟩⟩)) S' = R.ret a S''∧freeV a=true∧SpecZ 36 [exA (.mk 14 ap nn nm off kids)] (clean a):=fin
 have he:exA (.mk 14 ap nn nm off kids)=.agg [i64A 14,i64A ap,i64A nn,strS nm,.v (.bool off),rowX kids]:=exA_mk ..
 have hd':d≤4:=by omega
 have hLB:=LB_le hd'
 have hlr:=rowX_len kids
 have hkl:=fun(i:Nat) (l:Int)=>kidT_len (txL_bound d kids hok) i l
 have htx:textOf 14 nn nm off (txL kids)=if txL kids=[]then [97,119,97,105,116,32] ++ nm else(([97,119,97,105,116,32] ++ nm) ++ [32,97,102,116,101,114,32,40]) ++ rowT' (txL kids) ++ [41]:=rfl
 rw[htx]at fin
 have hrl:=rowT_len (txL_bound d kids hok) (by rw[txL_len];exact hfew)
 have hnil:txL kids=[]↔kids.length=0:=by rw[← List.length_eq_zero_iff,txL_len]
 have hkR:rowT' (txL (PX.mk 14 ap nn nm off kids).kids)=rowT' (txL kids):=rfl
 generalize rowT' (txL kids)=sR at *
 have hc1:=fb_catS [97,119,97,105,116,32] nm (by simp only[List.length_cons,List.length_nil];omega)
 have hc2:=fb_catS [32,97,102,116,101,114,32,40] sR (by simp only[List.length_cons,List.length_nil];omega)
 have hc3:=fb_catS ([32,97,102,116,101,114,32,40] ++ sR) [41] (by simp only[List.length_append,List.length_cons,List.length_nil];omega)
 have hc4:=fb_catS ([97,119,97,105,116,32] ++ nm) (([32,97,102,116,101,114,32,40] ++ sR) ++ [41]) (by simp only[List.length_append,List.length_cons,List.length_nil];omega)
 have hass:([97,119,97,105,116,32] ++ nm) ++ (([32,97,102,116,101,114,32,40] ++ sR) ++ [41])=(([97,119,97,105,116,32] ++ nm) ++ [32,97,102,116,101,114,32,40]) ++ sR ++ [41]:=by simp only[List.append_assoc]
 rw[he]at fin ⊢
 refine bodyZ Tryd.f36 (by kernel_rfl) (by kernel_rfl) (show(_:Nat)≤_ from by show(_:Nat)≤_;simp[Tryd.f36]) ?_
 obtain⟨fn1,hf1⟩:=fnz_35
 generalize hrow:rowX kids=row at *
 rw[← hass]at fin
 generalize hy4:([97,119,97,105,116,32] ++ nm) ++ (([32,97,102,116,101,114,32,40] ++ sR) ++ [41])=y4 at *
 generalize hy3:([32,97,102,116,101,114,32,40] ++ sR) ++ [41]=y3 at *
 generalize hy2:[32,97,102,116,101,114,32,40] ++ sR=y2 at *
 generalize hy1:[97,119,97,105,116,32] ++ nm=y1 at *
 simp only[strS,i64A]at *
 by_cases h0:kids.length=0
 ·have hgt:decide ((kids.length:Int) > 0)=false:=by rw[decide_eq_false_iff_not];omega
  rw[if_pos (hnil.2 h0)]at fin
  simp(maxSteps:=2000000) (disch:=omega)only[W_skip,W_region,W_seq,W_cond,W_ret,seqQ_normal2,WL_nil2,WL_cons,execL_val2,execL_enter2,putL_some2,condW_f2,wantedA,exec1,evalO,initT,T.get_set,T.get_leaf,callA,mapO,ofOpt,ofConst,neNil3,finW_ret,giveW,resultsA,tupA,fb_gtr,neNil9,reduceLT,reduceAdd,reduceEqDiff,if_true,if_false,true_and,Option.getD_some,List.getElem?_cons_succ,List.getElem?_cons_zero,List.nil_append,List.append_nil,Bool.false_eq_true,nb_get,st0_get,st0_next,cl1_box,clN_box,List.length_cons,List.length_nil,Nat.zero_add,reduceLeDiff,List.drop_zero,List.take_succ_cons,List.take_zero,noTup_agg,cells_agg,ez_P,neNil3,neNil9,yl9,yl55,ylX,yfX_3,yfX_5,clN_box,cells_agg,initT,List.getElem?_cons_succ,Tryd.f36,hlr,hgt,hc1,hf1]
  exact fin _ _ rfl
 ·have hgt:decide ((kids.length:Int) > 0)=true:=by rw[decide_eq_true_eq];omega
  rw[if_neg (fun h=>h0 (hnil.1 h))]at fin
  simp(maxSteps:=2000000) (disch:=omega)only[W_skip,W_region,W_seq,W_cond,W_ret,seqQ_normal2,WL_nil2,WL_cons,execL_val2,execL_enter2,putL_some2,condW_t2,wantedA,exec1,evalO,initT,T.get_set,T.get_leaf,callA,mapO,ofOpt,ofConst,neNil3,finW_ret,giveW,resultsA,tupA,fb_gtr,neNil9,reduceLT,reduceAdd,reduceEqDiff,if_true,if_false,true_and,Option.getD_some,List.getElem?_cons_succ,List.getElem?_cons_zero,List.nil_append,List.append_nil,Bool.false_eq_true,nb_get,st0_get,st0_next,cl1_box,clN_box,List.length_cons,List.length_nil,Nat.zero_add,reduceLeDiff,List.drop_zero,List.take_succ_cons,List.take_zero,noTup_agg,cells_agg,ez_P,neNil3,neNil9,yl9,yl55,ylX,yfX_3,yfX_5,clN_box,cells_agg,initT,List.getElem?_cons_succ,Tryd.f36,hlr,hgt,hc1,hf1]
  rw[← he]
  refine call35 (d:=d) hok hd' hfew H ?_
  rw[hkR,he]
  unfold strS
  simp(maxSteps:=2000000) (disch:=omega)only[W_region,W_seq,W_ret,seqQ_normal2,WL_nil2,WL_cons,execL_val2,putL_some2,retL_ret2,wantedA,exec1,evalO,T.get_set,T.get_leaf,ofOpt,ofConst,finW_ret,giveW,resultsA,tupA,neNil9,reduceLT,reduceEqDiff,if_true,if_false,true_and,Bool.false_eq_true,ez_P,neNil9,hc2,hc3,hc4]
  exact fin _ _ rfl
end Go.Ax
