/- TtL -/
import Derived.Test.YtkjknlaffgkloaaDoorTpG11
import Derived.Test.YtkjknlaffgkloaaDoorTpG12
set_option linter.unusedVariables false
set_option linter.unusedSimpArgs false
set_option maxHeartbeats 16000000
noncomputable section
open Nat (reduceLT reduceAdd reduceEqDiff reduceLeDiff)
namespace Go.Ax
open Go.RowKit Go.Proofs
set_option maxRecDepth 100000
theorem t1_k(e:PX)(d:Nat)(ho:okX d e)(hd:d≤4)(hk:e.kind=1)(H:∀x∈e.kids,KnZ 16 [exA x]):KnZ 16 [exA e]:=by
 have fin:∀(x:List UInt8) (S':St),x=txt e→∃a S'',R.ret (.v (.string ⟨⟨x⟩⟩)) S' = R.ret a S''∧freeV a=true∧SpecZ 16 [exA e] (clean a):=fun x S' h=>by
  refine⟨_,_,rfl,rfl,?_⟩
  intro e' d' q _ _
  simp only[List.cons.injEq,and_true]at q
  rw[← exA_inj _ _ q,← h]
  rfl
 cases e with
 |mk k ap nn nm off kids =>
 have hk:k=1:=hk
 subst hk
 cases d with
 |zero=>exact absurd ho (by simp[okX])
 |succ d =>
 simp only[okX]at ho
 obtain⟨_,hnn,_,hnm,hne,hok⟩:=ho
 have hfew:=needs_few hne
 have H:∀x∈kids,KnZ 16 [exA x]:=H
 have fin:∀(x:List UInt8) (S':St),x=textOf 1 nn nm off (txL kids)→∃a S'',R.ret (.v (.string ⟨⟨x⟩⟩)) S' = R.ret a S''∧freeV a=true∧SpecZ 16 [exA (.mk 1 ap nn nm off kids)] (clean a):=fin
 have he:exA (.mk 1 ap nn nm off kids)=.agg [i64A 1,i64A ap,i64A nn,strS nm,.v (.bool off),rowX kids]:=exA_mk ..
 have hd':d≤4:=by omega
 have hLB:=LB_le hd'
 have hlr:=rowX_len kids
 have hkl:=fun(i:Nat) (l:Int)=>kidT_len (txL_bound d kids hok) i l
 have htx:textOf 1 nn nm off (txL kids)=Lib.itoa nn:=rfl
 rw[htx]at fin
 rw[he]at fin ⊢
 refine bodyZ Tryd.f16 (by kernel_rfl) (by kernel_rfl) (show(_:Nat)≤_ from by show(_:Nat)≤_;simp[Tryd.f16]) ?_
 obtain⟨fn1,hf1⟩:=fnz_29
 generalize rowX kids=row at *
 simp only[strS,i64A]at *
 simp(maxSteps:=2000000) (disch:=omega)only[W_skip,W_region,W_drawn,W_seq,W_cond,W_block,W_ret,seqQ_normal2,seqQ_ret2,blockW_normal2,blockW_ret2,WL_nil2,WL_cons,execL_val2,execL_enter2,putL_some2,condW_t2,condW_f2,wantedA,exec1,evalO,initT,T.get_set,T.get_leaf,callA,mapO,ofOpt,ofConst,neNil3,finW_ret,giveW,resultsA,tupA,fb_eqlI,fb_neqI,reduceLT,reduceAdd,reduceEqDiff,if_true,if_false,true_and,Option.getD_some,List.getElem?_cons_succ,List.getElem?_cons_zero,List.nil_append,List.append_nil,beq_self_eq_true,Bool.false_eq_true,nb_get,st0_get,st0_next,cl1_box,clN_box,List.length_cons,List.length_nil,Nat.zero_add,Nat.add_zero,reduceLeDiff,List.drop_zero,List.take_succ_cons,List.take_zero,noTup_agg,cells_agg,ez_P,ez_F,neNil2,neNil3,yl2,yl3,yl9,ylX,yfX_0,yfX_2,yfX_3,clN_box,cells_agg,initT,Int.reduceBEq,List.getElem?_cons_succ,Tryd.f16,hf1]
 refine fmt_u hnn ?_
 unfold strS
 simp(maxSteps:=2000000) (disch:=omega)only[W_ret,seqQ_normal2,seqQ_ret2,blockW_ret2,WL_nil2,WL_cons,execL_val2,putL_some2,retL_ret2,wantedA,exec1,evalO,T.get_set,T.get_leaf,ofOpt,finW_ret,giveW,resultsA,tupA,reduceLT,reduceEqDiff,if_true,if_false,true_and]
 exact fin _ _ rfl
theorem t2_k(e:PX)(d:Nat)(ho:okX d e)(hd:d≤4)(hk:e.kind=2)(H:∀x∈e.kids,KnZ 16 [exA x]):KnZ 16 [exA e]:=by
 have fin:∀(x:List UInt8) (S':St),x=txt e→∃a S'',R.ret (.v (.string ⟨⟨x⟩⟩)) S' = R.ret a S''∧freeV a=true∧SpecZ 16 [exA e] (clean a):=fun x S' h=>by
  refine⟨_,_,rfl,rfl,?_⟩
  intro e' d' q _ _
  simp only[List.cons.injEq,and_true]at q
  rw[← exA_inj _ _ q,← h]
  rfl
 cases e with
 |mk k ap nn nm off kids =>
 have hk:k=2:=hk
 subst hk
 cases d with
 |zero=>exact absurd ho (by simp[okX])
 |succ d =>
 simp only[okX]at ho
 obtain⟨_,hnn,h01,hnm,hne,hok⟩:=ho
 have hfew:=needs_few hne
 have H:∀x∈kids,KnZ 16 [exA x]:=H
 have fin:∀(x:List UInt8) (S':St),x=textOf 2 nn nm off (txL kids)→∃a S'',R.ret (.v (.string ⟨⟨x⟩⟩)) S' = R.ret a S''∧freeV a=true∧SpecZ 16 [exA (.mk 2 ap nn nm off kids)] (clean a):=fin
 have he:exA (.mk 2 ap nn nm off kids)=.agg [i64A 2,i64A ap,i64A nn,strS nm,.v (.bool off),rowX kids]:=exA_mk ..
 have hd':d≤4:=by omega
 have hLB:=LB_le hd'
 have hlr:=rowX_len kids
 have hkl:=fun(i:Nat) (l:Int)=>kidT_len (txL_bound d kids hok) i l
 have htx:textOf 2 nn nm off (txL kids)=if nn=1 then [116,114,117,101]else [102,97,108,115,101]:=rfl
 rw[htx]at fin
 rw[he]at fin ⊢
 refine bodyZ Tryd.f16 (by kernel_rfl) (by kernel_rfl) (show(_:Nat)≤_ from by show(_:Nat)≤_;simp[Tryd.f16]) ?_
 obtain⟨fn1,hf1⟩:=fnz_30
 generalize rowX kids=row at *
 simp only[strS,i64A]at *
 rcases h01.1 (by simp)with rfl |rfl
 ·have hb:((0:Int) != 0)=false:=rfl
  simp(maxSteps:=2000000) (disch:=omega)only[W_skip,W_region,W_drawn,W_seq,W_cond,W_block,W_ret,seqQ_normal2,seqQ_ret2,blockW_normal2,blockW_ret2,WL_nil2,WL_cons,execL_val2,execL_enter2,putL_some2,condW_t2,condW_f2,wantedA,exec1,evalO,initT,T.get_set,T.get_leaf,callA,mapO,ofOpt,ofConst,neNil3,finW_ret,giveW,resultsA,tupA,fb_eqlI,fb_neqI,reduceLT,reduceAdd,reduceEqDiff,if_true,if_false,true_and,Option.getD_some,List.getElem?_cons_succ,List.getElem?_cons_zero,List.nil_append,List.append_nil,beq_self_eq_true,Bool.false_eq_true,nb_get,st0_get,st0_next,cl1_box,clN_box,List.length_cons,List.length_nil,Nat.zero_add,Nat.add_zero,reduceLeDiff,List.drop_zero,List.take_succ_cons,List.take_zero,noTup_agg,cells_agg,ez_P,ez_F,neNil2,neNil3,yl2,yl3,yl9,ylX,yfX_0,yfX_2,yfX_3,clN_box,cells_agg,initT,Int.reduceBEq,List.getElem?_cons_succ,Tryd.f16,hf1,hb]
  refine fb_u ?_
  unfold strS
  simp(maxSteps:=2000000) (disch:=omega)only[W_ret,seqQ_normal2,seqQ_ret2,blockW_ret2,WL_nil2,WL_cons,execL_val2,putL_some2,retL_ret2,wantedA,exec1,evalO,T.get_set,T.get_leaf,ofOpt,finW_ret,giveW,resultsA,tupA,reduceLT,reduceEqDiff,if_true,if_false,true_and,Bool.false_eq_true]
  exact fin _ _ rfl
 ·have hb:((1:Int) != 0)=true:=rfl
  simp(maxSteps:=2000000) (disch:=omega)only[W_skip,W_region,W_drawn,W_seq,W_cond,W_block,W_ret,seqQ_normal2,seqQ_ret2,blockW_normal2,blockW_ret2,WL_nil2,WL_cons,execL_val2,execL_enter2,putL_some2,condW_t2,condW_f2,wantedA,exec1,evalO,initT,T.get_set,T.get_leaf,callA,mapO,ofOpt,ofConst,neNil3,finW_ret,giveW,resultsA,tupA,fb_eqlI,fb_neqI,reduceLT,reduceAdd,reduceEqDiff,if_true,if_false,true_and,Option.getD_some,List.getElem?_cons_succ,List.getElem?_cons_zero,List.nil_append,List.append_nil,beq_self_eq_true,Bool.false_eq_true,nb_get,st0_get,st0_next,cl1_box,clN_box,List.length_cons,List.length_nil,Nat.zero_add,Nat.add_zero,reduceLeDiff,List.drop_zero,List.take_succ_cons,List.take_zero,noTup_agg,cells_agg,ez_P,ez_F,neNil2,neNil3,yl2,yl3,yl9,ylX,yfX_0,yfX_2,yfX_3,clN_box,cells_agg,initT,Int.reduceBEq,List.getElem?_cons_succ,Tryd.f16,hf1,hb]
  refine fb_u ?_
  unfold strS
  simp(maxSteps:=2000000) (disch:=omega)only[W_ret,seqQ_normal2,seqQ_ret2,blockW_ret2,WL_nil2,WL_cons,execL_val2,putL_some2,retL_ret2,wantedA,exec1,evalO,T.get_set,T.get_leaf,ofOpt,finW_ret,giveW,resultsA,tupA,reduceLT,reduceEqDiff,if_true,if_false,true_and]
  exact fin _ _ rfl
theorem t3_k(e:PX)(d:Nat)(ho:okX d e)(hd:d≤4)(hk:e.kind=3)(H:∀x∈e.kids,KnZ 16 [exA x]):KnZ 16 [exA e]:=by
 have fin:∀(x:List UInt8) (S':St),x=txt e→∃a S'',R.ret (.v (.string ⟨⟨x⟩⟩)) S' = R.ret a S''∧freeV a=true∧SpecZ 16 [exA e] (clean a):=fun x S' h=>by
  refine⟨_,_,rfl,rfl,?_⟩
  intro e' d' q _ _
  simp only[List.cons.injEq,and_true]at q
  rw[← exA_inj _ _ q,← h]
  rfl
 cases e with
 |mk k ap nn nm off kids =>
 have hk:k=3:=hk
 subst hk
 cases d with
 |zero=>exact absurd ho (by simp[okX])
 |succ d =>
 simp only[okX]at ho
 obtain⟨_,hnn,_,hnm,hne,hok⟩:=ho
 have hfew:=needs_few hne
 have H:∀x∈kids,KnZ 16 [exA x]:=H
 have fin:∀(x:List UInt8) (S':St),x=textOf 3 nn nm off (txL kids)→∃a S'',R.ret (.v (.string ⟨⟨x⟩⟩)) S' = R.ret a S''∧freeV a=true∧SpecZ 16 [exA (.mk 3 ap nn nm off kids)] (clean a):=fin
 have he:exA (.mk 3 ap nn nm off kids)=.agg [i64A 3,i64A ap,i64A nn,strS nm,.v (.bool off),rowX kids]:=exA_mk ..
 have hd':d≤4:=by omega
 have hLB:=LB_le hd'
 have hlr:=rowX_len kids
 have hkl:=fun(i:Nat) (l:Int)=>kidT_len (txL_bound d kids hok) i l
 have htx:textOf 3 nn nm off (txL kids)=nm:=rfl
 rw[htx]at fin
 rw[he]at fin ⊢
 refine bodyZ Tryd.f16 (by kernel_rfl) (by kernel_rfl) (show(_:Nat)≤_ from by show(_:Nat)≤_;simp[Tryd.f16]) ?_
 generalize rowX kids=row at *
 simp only[strS,i64A]at *
 simp(maxSteps:=2000000) (disch:=omega)only[W_skip,W_region,W_drawn,W_seq,W_cond,W_block,W_ret,seqQ_normal2,seqQ_ret2,blockW_normal2,blockW_ret2,WL_nil2,WL_cons,execL_val2,putL_some2,condW_t2,condW_f2,wantedA,exec1,evalO,initT,T.get_set,T.get_leaf,callA,mapO,ofOpt,ofConst,neNil3,finW_ret,giveW,resultsA,tupA,fb_eqlI,fb_neqI,reduceLT,reduceAdd,reduceEqDiff,if_true,if_false,true_and,Option.getD_some,List.getElem?_cons_succ,List.getElem?_cons_zero,List.nil_append,List.append_nil,beq_self_eq_true,Bool.false_eq_true,nb_get,st0_get,st0_next,cl1_box,clN_box,List.length_cons,List.length_nil,Nat.zero_add,Nat.add_zero,reduceLeDiff,List.drop_zero,List.take_succ_cons,List.take_zero,noTup_agg,cells_agg,ez_P,ez_F,neNil2,neNil3,yl2,yl3,yl9,ylX,yfX_0,yfX_2,yfX_3,clN_box,cells_agg,initT,Int.reduceBEq,List.getElem?_cons_succ,Tryd.f16]
 exact fin _ _ rfl
theorem call31{e:PX}{d:Nat}{S:St}{Q:R→Prop}(ho:okX d e)(hd:d≤4)(hk:e.kind=4)(H:∀x∈e.kids,KnZ 16 [exA x])(h:Q (.ret (strS (txt e)) S)):WC EZ 31 [exA e] S Q :=
 callZ (neg_k e d ho hd hk H) (by kernel_rfl) (by show(freeV (exA e) && true)=true;rw[(exA_fr e).1];rfl) (by show [clean (exA e)]=_;rw[(exA_fr e).2]) fun a _ _ hs=>by
  have:=hs e d rfl ho hd hk
  subst this
  exact h
theorem t4_k(e:PX)(d:Nat)(ho:okX d e)(hd:d≤4)(hk:e.kind=4)(H:∀x∈e.kids,KnZ 16 [exA x]):KnZ 16 [exA e]:=by
 have fin:∀(x:List UInt8) (S':St),x=txt e→∃a S'',R.ret (.v (.string ⟨⟨x⟩⟩)) S' = R.ret a S''∧freeV a=true∧SpecZ 16 [exA e] (clean a):=fun x S' h=>by
  refine⟨_,_,rfl,rfl,?_⟩
  intro e' d' q _ _
  simp only[List.cons.injEq,and_true]at q
  rw[← exA_inj _ _ q,← h]
  rfl
 have hcall:=fun(S:St) (Q:R→Prop) h=>call31 (S:=S) (Q:=Q) ho hd hk H h
 generalize txt e=te at *
 cases e with
 |mk k ap nn nm off kids =>
 have hk:k=4:=hk
 subst hk
 have he:exA (.mk 4 ap nn nm off kids)=.agg [i64A 4,i64A ap,i64A nn,strS nm,.v (.bool off),rowX kids]:=exA_mk ..
 rw[he]at fin hcall ⊢
 refine bodyZ Tryd.f16 (by kernel_rfl) (by kernel_rfl) (show(_:Nat)≤_ from by show(_:Nat)≤_;simp[Tryd.f16]) ?_
 obtain⟨fn1,hf1⟩:=fnz_31
 generalize rowX kids=row at *
 simp only[strS,i64A]at *
 simp(maxSteps:=2000000) (disch:=omega)only[W_skip,W_region,W_drawn,W_seq,W_cond,W_block,W_ret,seqQ_normal2,seqQ_ret2,blockW_normal2,blockW_ret2,WL_nil2,WL_cons,execL_val2,execL_enter2,putL_some2,condW_t2,condW_f2,wantedA,exec1,evalO,initT,T.get_set,T.get_leaf,callA,mapO,ofOpt,ofConst,neNil3,finW_ret,giveW,resultsA,tupA,fb_eqlI,fb_neqI,reduceLT,reduceAdd,reduceEqDiff,if_true,if_false,true_and,Option.getD_some,List.getElem?_cons_succ,List.getElem?_cons_zero,List.nil_append,List.append_nil,beq_self_eq_true,Bool.false_eq_true,nb_get,st0_get,st0_next,cl1_box,clN_box,List.length_cons,List.length_nil,Nat.zero_add,Nat.add_zero,reduceLeDiff,List.drop_zero,List.take_succ_cons,List.take_zero,noTup_agg,cells_agg,ez_P,ez_F,neNil2,neNil3,yl2,yl3,yl9,ylX,yfX_0,yfX_2,yfX_3,clN_box,cells_agg,initT,Int.reduceBEq,List.getElem?_cons_succ,Tryd.f16,hf1]
 refine hcall _ _ ?_
 simp(maxSteps:=2000000) (disch:=omega)only[W_ret,seqQ_normal2,seqQ_ret2,blockW_ret2,WL_nil2,WL_cons,execL_val2,putL_some2,retL_ret2,wantedA,exec1,evalO,T.get_set,T.get_leaf,ofOpt,finW_ret,giveW,resultsA,tupA,reduceLT,reduceEqDiff,if_true,if_false,true_and]
 exact fin _ _ rfl
theorem call33{e:PX}{d:Nat}{S:St}{Q:R→Prop}(ho:okX d e)(hd:d≤4)(hk:e.kind=6)(H:∀x∈e.kids,KnZ 16 [exA x])(h:Q (.ret (strS (txt e)) S)):WC EZ 33 [exA e] S Q :=
 callZ (bin_k e d ho hd hk H) (by kernel_rfl) (by show(freeV (exA e) && true)=true;rw[(exA_fr e).1];rfl) (by show [clean (exA e)]=_;rw[(exA_fr e).2]) fun a _ _ hs=>by
  have:=hs e d rfl ho hd hk
  subst this
  exact h
theorem t6_k(e:PX)(d:Nat)(ho:okX d e)(hd:d≤4)(hk:e.kind=6)(H:∀x∈e.kids,KnZ 16 [exA x]):KnZ 16 [exA e]:=by
 have fin:∀(x:List UInt8) (S':St),x=txt e→∃a S'',R.ret (.v (.string ⟨⟨x⟩⟩)) S' = R.ret a S''∧freeV a=true∧SpecZ 16 [exA e] (clean a):=fun x S' h=>by
  refine⟨_,_,rfl,rfl,?_⟩
  intro e' d' q _ _
  simp only[List.cons.injEq,and_true]at q
  rw[← exA_inj _ _ q,← h]
  rfl
 have hcall:=fun(S:St) (Q:R→Prop) h=>call33 (S:=S) (Q:=Q) ho hd hk H h
 generalize txt e=te at *
 cases e with
 |mk k ap nn nm off kids =>
 have hk:k=6:=hk
 subst hk
 have he:exA (.mk 6 ap nn nm off kids)=.agg [i64A 6,i64A ap,i64A nn,strS nm,.v (.bool off),rowX kids]:=exA_mk ..
 rw[he]at fin hcall ⊢
 refine bodyZ Tryd.f16 (by kernel_rfl) (by kernel_rfl) (show(_:Nat)≤_ from by show(_:Nat)≤_;simp[Tryd.f16]) ?_
 obtain⟨fn1,hf1⟩:=fnz_33
 generalize rowX kids=row at *
 simp only[strS,i64A]at *
 simp(maxSteps:=2000000) (disch:=omega)only[W_skip,W_region,W_drawn,W_seq,W_cond,W_block,W_ret,seqQ_normal2,seqQ_ret2,blockW_normal2,blockW_ret2,WL_nil2,WL_cons,execL_val2,execL_enter2,putL_some2,condW_t2,condW_f2,wantedA,exec1,evalO,initT,T.get_set,T.get_leaf,callA,mapO,ofOpt,ofConst,neNil3,finW_ret,giveW,resultsA,tupA,fb_eqlI,fb_neqI,reduceLT,reduceAdd,reduceEqDiff,if_true,if_false,true_and,Option.getD_some,List.getElem?_cons_succ,List.getElem?_cons_zero,List.nil_append,List.append_nil,beq_self_eq_true,Bool.false_eq_true,nb_get,st0_get,st0_next,cl1_box,clN_box,List.length_cons,List.length_nil,Nat.zero_add,Nat.add_zero,reduceLeDiff,List.drop_zero,List.take_succ_cons,List.take_zero,noTup_agg,cells_agg,ez_P,ez_F,neNil2,neNil3,yl2,yl3,yl9,ylX,yfX_0,yfX_2,yfX_3,clN_box,cells_agg,initT,Int.reduceBEq,List.getElem?_cons_succ,Tryd.f16,hf1]
 refine hcall _ _ ?_
 simp(maxSteps:=2000000) (disch:=omega)only[W_ret,seqQ_normal2,seqQ_ret2,blockW_ret2,WL_nil2,WL_cons,execL_val2,putL_some2,retL_ret2,wantedA,exec1,evalO,T.get_set,T.get_leaf,ofOpt,finW_ret,giveW,resultsA,tupA,reduceLT,reduceEqDiff,if_true,if_false,true_and]
 exact fin _ _ rfl
theorem call36{e:PX}{d:Nat}{S:St}{Q:R→Prop}(ho:okX d e)(hd:d≤4)(hk:e.kind=14)(H:∀x∈e.kids,KnZ 16 [exA x])(h:Q (.ret (strS (txt e)) S)):WC EZ 36 [exA e] S Q :=
 callZ (aw_k e d ho hd hk H) (by kernel_rfl) (by show(freeV (exA e) && true)=true;rw[(exA_fr e).1];rfl) (by show [clean (exA e)]=_;rw[(exA_fr e).2]) fun a _ _ hs=>by
  have:=hs e d rfl ho hd hk
  subst this
  exact h
theorem t14_k(e:PX)(d:Nat)(ho:okX d e)(hd:d≤4)(hk:e.kind=14)(H:∀x∈e.kids,KnZ 16 [exA x]):KnZ 16 [exA e]:=by
 have fin:∀(x:List UInt8) (S':St),x=txt e→∃a S'',R.ret (.v (.string ⟨⟨x⟩⟩)) S' = R.ret a S''∧freeV a=true∧SpecZ 16 [exA e] (clean a):=fun x S' h=>by
  refine⟨_,_,rfl,rfl,?_⟩
  intro e' d' q _ _
  simp only[List.cons.injEq,and_true]at q
  rw[← exA_inj _ _ q,← h]
  rfl
 have hcall:=fun(S:St) (Q:R→Prop) h=>call36 (S:=S) (Q:=Q) ho hd hk H h
 generalize txt e=te at *
 cases e with
 |mk k ap nn nm off kids =>
 have hk:k=14:=hk
 subst hk
 have he:exA (.mk 14 ap nn nm off kids)=.agg [i64A 14,i64A ap,i64A nn,strS nm,.v (.bool off),rowX kids]:=exA_mk ..
 rw[he]at fin hcall ⊢
 refine bodyZ Tryd.f16 (by kernel_rfl) (by kernel_rfl) (show(_:Nat)≤_ from by show(_:Nat)≤_;simp[Tryd.f16]) ?_
 obtain⟨fn1,hf1⟩:=fnz_36
 generalize rowX kids=row at *
 simp only[strS,i64A]at *
 simp(maxSteps:=2000000) (disch:=omega)only[W_skip,W_region,W_drawn,W_seq,W_cond,W_block,W_ret,seqQ_normal2,seqQ_ret2,blockW_normal2,blockW_ret2,WL_nil2,WL_cons,execL_val2,execL_enter2,putL_some2,condW_t2,condW_f2,wantedA,exec1,evalO,initT,T.get_set,T.get_leaf,callA,mapO,ofOpt,ofConst,neNil3,finW_ret,giveW,resultsA,tupA,fb_eqlI,fb_neqI,reduceLT,reduceAdd,reduceEqDiff,if_true,if_false,true_and,Option.getD_some,List.getElem?_cons_succ,List.getElem?_cons_zero,List.nil_append,List.append_nil,beq_self_eq_true,Bool.false_eq_true,nb_get,st0_get,st0_next,cl1_box,clN_box,List.length_cons,List.length_nil,Nat.zero_add,Nat.add_zero,reduceLeDiff,List.drop_zero,List.take_succ_cons,List.take_zero,noTup_agg,cells_agg,ez_P,ez_F,neNil2,neNil3,yl2,yl3,yl9,ylX,yfX_0,yfX_2,yfX_3,clN_box,cells_agg,initT,Int.reduceBEq,List.getElem?_cons_succ,Tryd.f16,hf1]
 refine hcall _ _ ?_
 simp(maxSteps:=2000000) (disch:=omega)only[W_ret,seqQ_normal2,seqQ_ret2,blockW_ret2,WL_nil2,WL_cons,execL_val2,putL_some2,retL_ret2,wantedA,exec1,evalO,T.get_set,T.get_leaf,ofOpt,finW_ret,giveW,resultsA,tupA,reduceLT,reduceEqDiff,if_true,if_false,true_and]
 exact fin _ _ rfl
end Go.Ax
noncomputable section
open Nat (reduceLT reduceAdd reduceEqDiff reduceLeDiff)
namespace Go.Ax
open Go.RowKit Go.Proofs
set_option maxRecDepth 100000
theorem t5_k(e:PX)(d:Nat)(ho:okX d e)(hd:d≤4)(hk:e.kind=5)(H:∀x∈e.kids,KnZ 16 [exA x]):KnZ 16 [exA e]:=by
 have fin:∀(x:List UInt8) (S':St),x=txt e→∃a S'',R.ret (.v (.string ⟨⟨x⟩⟩)) S' = R.ret a S''∧freeV a=true∧SpecZ 16 [exA e] (clean a):=fun x S' h=>by
  refine⟨_,_,rfl,rfl,?_⟩
  intro e' d' q _ _
  simp only[List.cons.injEq,and_true]at q
  rw[← exA_inj _ _ q,← h]
  rfl
 cases e with
 |mk k ap nn nm off kids =>
 have hk:k=5:=hk
 subst hk
 cases d with
 |zero=>exact absurd ho (by simp[okX])
 |succ d =>
 simp only[okX]at ho
 obtain⟨_,hnn,_,hnm,hne,hok⟩:=ho
 have hfew:=needs_few hne
 have H:∀x∈kids,KnZ 16 [exA x]:=H
 have fin:∀(x:List UInt8) (S':St),x=textOf 5 nn nm off (txL kids)→∃a S'',R.ret (.v (.string ⟨⟨x⟩⟩)) S' = R.ret a S''∧freeV a=true∧SpecZ 16 [exA (.mk 5 ap nn nm off kids)] (clean a):=fin
 have he:exA (.mk 5 ap nn nm off kids)=.agg [i64A 5,i64A ap,i64A nn,strS nm,.v (.bool off),rowX kids]:=exA_mk ..
 have hd':d≤4:=by omega
 have hLB:=LB_le hd'
 have hlr:=rowX_len kids
 have hkl:=fun(i:Nat) (l:Int)=>kidT_len (txL_bound d kids hok) i l
 have htx:textOf 5 nn nm off (txL kids)=([110,111,116,32] ++ kidT (txL kids) 0 4):=rfl
 rw[htx]at fin
 have hks0:=hkl 0 4
 have hkT0:kidT (txL (PX.mk 5 ap nn nm off kids).kids) 0 4=kidT (txL kids) 0 4:=rfl
 generalize kidT (txL kids) 0 4=s0 at *
 have hc0:=fb_catS ([110,111,116,32]) (s0) (by first |omega | (simp only[List.length_cons,List.length_nil];omega))
 rw[he]at fin ⊢
 refine bodyZ Tryd.f16 (by kernel_rfl) (by kernel_rfl) (show(_:Nat)≤_ from by show(_:Nat)≤_;simp[Tryd.f16]) ?_
 obtain⟨fn32,hf32⟩:=fnz_32
 have hbe:=beqA_ex (PX.mk 5 ap nn nm off kids)
 rw[he]at hbe
 have hbs:=beqA_st nm
 have hbo:beqA (.v (.bool off)) (.v (.bool off))=true:=by simp[beqA,eqS]
 generalize rowX kids=row at *
 generalize hy1:([110,111,116,32] ++ s0)=y1 at *
 simp only[strS,i64A]at *
 simp(maxSteps:=2000000) (disch:=omega)only[W_skip,W_region,W_drawn,W_seq,W_cond,W_block,W_ret,seqQ_normal2,seqQ_ret2,blockW_normal2,blockW_ret2,WL_nil2,WL_cons,execL_val2,execL_enter2,putL_some2,condW_t2,condW_f2,wantedA,exec1,evalO,initT,T.get_set,T.get_leaf,callA,mapO,ofOpt,ofConst,neNil3,finW_ret,giveW,resultsA,tupA,fb_eqlI,fb_neqI,reduceLT,reduceAdd,reduceEqDiff,if_true,if_false,true_and,Option.getD_some,List.getElem?_cons_succ,List.getElem?_cons_zero,List.nil_append,List.append_nil,beq_self_eq_true,Bool.false_eq_true,nb_get,st0_get,st0_next,cl1_box,clN_box,List.length_cons,List.length_nil,Nat.zero_add,Nat.add_zero,reduceLeDiff,List.drop_zero,List.take_succ_cons,List.take_zero,noTup_agg,cells_agg,ez_P,ez_F,neNil2,neNil3,yl2,yl3,yl9,ylX,yfX_0,yfX_2,yfX_3,clN_box,cells_agg,initT,Int.reduceBEq,List.getElem?_cons_succ,Tryd.f16,hf32]
 rw[← he]
 refine call32 (e:=.mk 5 ap nn nm off kids) (i:=0) (least:=4) (d:=d) hok hd' (by omega) H ?_
 rw[hkT0,he]
 unfold strS
 simp(maxSteps:=2000000) (disch:=omega)only[W_ret,seqQ_normal2,seqQ_ret2,blockW_ret2,WL_nil2,WL_cons,execL_val2,putL_some2,retL_ret2,wantedA,exec1,evalO,T.get_set,T.get_leaf,ofOpt,ofConst,finW_ret,giveW,resultsA,tupA,neNil9,reduceLT,reduceEqDiff,if_true,if_false,true_and,Bool.false_eq_true,ez_P,neNil9,hc0]
 exact fin _ _ rfl
theorem t7_k(e:PX)(d:Nat)(ho:okX d e)(hd:d≤4)(hk:e.kind=7)(H:∀x∈e.kids,KnZ 16 [exA x]):KnZ 16 [exA e]:=by
 have fin:∀(x:List UInt8) (S':St),x=txt e→∃a S'',R.ret (.v (.string ⟨⟨x⟩⟩)) S' = R.ret a S''∧freeV a=true∧SpecZ 16 [exA e] (clean a):=fun x S' h=>by
  refine⟨_,_,rfl,rfl,?_⟩
  intro e' d' q _ _
  simp only[List.cons.injEq,and_true]at q
  rw[← exA_inj _ _ q,← h]
  rfl
 cases e with
 |mk k ap nn nm off kids =>
 have hk:k=7:=hk
 subst hk
 cases d with
 |zero=>exact absurd ho (by simp[okX])
 |succ d =>
 simp only[okX]at ho
 obtain⟨_,hnn,_,hnm,hne,hok⟩:=ho
 have hfew:=needs_few hne
 have H:∀x∈kids,KnZ 16 [exA x]:=H
 have fin:∀(x:List UInt8) (S':St),x=textOf 7 nn nm off (txL kids)→∃a S'',R.ret (.v (.string ⟨⟨x⟩⟩)) S' = R.ret a S''∧freeV a=true∧SpecZ 16 [exA (.mk 7 ap nn nm off kids)] (clean a):=fin
 have he:exA (.mk 7 ap nn nm off kids)=.agg [i64A 7,i64A ap,i64A nn,strS nm,.v (.bool off),rowX kids]:=exA_mk ..
 have hd':d≤4:=by omega
 have hLB:=LB_le hd'
 have hlr:=rowX_len kids
 have hkl:=fun(i:Nat) (l:Int)=>kidT_len (txL_bound d kids hok) i l
 have htx:textOf 7 nn nm off (txL kids)=((((([105,102,32] ++ kidT (txL kids) 0 0) ++ [32,116,104,101,110,32]) ++ kidT (txL kids) 1 0) ++ [32,101,108,115,101,32]) ++ kidT (txL kids) 2 0):=rfl
 rw[htx]at fin
 have hks0:=hkl 0 0
 have hkT0:kidT (txL (PX.mk 7 ap nn nm off kids).kids) 0 0=kidT (txL kids) 0 0:=rfl
 generalize kidT (txL kids) 0 0=s0 at *
 have hks1:=hkl 1 0
 have hkT1:kidT (txL (PX.mk 7 ap nn nm off kids).kids) 1 0=kidT (txL kids) 1 0:=rfl
 generalize kidT (txL kids) 1 0=s1 at *
 have hks2:=hkl 2 0
 have hkT2:kidT (txL (PX.mk 7 ap nn nm off kids).kids) 2 0=kidT (txL kids) 2 0:=rfl
 generalize kidT (txL kids) 2 0=s2 at *
 have hc0:=fb_catS ([105,102,32]) (s0) (by first |omega | (simp only[List.length_cons,List.length_nil];omega))
 have hc1:=fb_catS (([105,102,32] ++ s0)) ([32,116,104,101,110,32]) (by first |omega | (simp only[List.length_append,List.length_cons,List.length_nil];omega))
 have hc2:=fb_catS ((([105,102,32] ++ s0) ++ [32,116,104,101,110,32])) (s1) (by first |omega | (simp only[List.length_append,List.length_cons,List.length_nil];omega))
 have hc3:=fb_catS (((([105,102,32] ++ s0) ++ [32,116,104,101,110,32]) ++ s1)) ([32,101,108,115,101,32]) (by first |omega | (simp only[List.length_append,List.length_cons,List.length_nil];omega))
 have hc4:=fb_catS ((((([105,102,32] ++ s0) ++ [32,116,104,101,110,32]) ++ s1) ++ [32,101,108,115,101,32])) (s2) (by first |omega | (simp only[List.length_append,List.length_cons,List.length_nil];omega))
 rw[he]at fin ⊢
 refine bodyZ Tryd.f16 (by kernel_rfl) (by kernel_rfl) (show(_:Nat)≤_ from by show(_:Nat)≤_;simp[Tryd.f16]) ?_
 obtain⟨fn32,hf32⟩:=fnz_32
 have hbe:=beqA_ex (PX.mk 7 ap nn nm off kids)
 rw[he]at hbe
 have hbs:=beqA_st nm
 have hbo:beqA (.v (.bool off)) (.v (.bool off))=true:=by simp[beqA,eqS]
 generalize rowX kids=row at *
 generalize hy5:((((([105,102,32] ++ s0) ++ [32,116,104,101,110,32]) ++ s1) ++ [32,101,108,115,101,32]) ++ s2)=y5 at *
 generalize hy4:(((([105,102,32] ++ s0) ++ [32,116,104,101,110,32]) ++ s1) ++ [32,101,108,115,101,32])=y4 at *
 generalize hy3:((([105,102,32] ++ s0) ++ [32,116,104,101,110,32]) ++ s1)=y3 at *
 generalize hy2:(([105,102,32] ++ s0) ++ [32,116,104,101,110,32])=y2 at *
 generalize hy1:([105,102,32] ++ s0)=y1 at *
 simp only[strS,i64A]at *
 simp(maxSteps:=2000000) (disch:=omega)only[W_skip,W_region,W_drawn,W_seq,W_cond,W_block,W_ret,seqQ_normal2,seqQ_ret2,blockW_normal2,blockW_ret2,WL_nil2,WL_cons,execL_val2,execL_enter2,putL_some2,condW_t2,condW_f2,wantedA,exec1,evalO,initT,T.get_set,T.get_leaf,callA,mapO,ofOpt,ofConst,neNil3,finW_ret,giveW,resultsA,tupA,fb_eqlI,fb_neqI,reduceLT,reduceAdd,reduceEqDiff,if_true,if_false,true_and,Option.getD_some,List.getElem?_cons_succ,List.getElem?_cons_zero,List.nil_append,List.append_nil,beq_self_eq_true,Bool.false_eq_true,nb_get,st0_get,st0_next,cl1_box,clN_box,List.length_cons,List.length_nil,Nat.zero_add,Nat.add_zero,reduceLeDiff,List.drop_zero,List.take_succ_cons,List.take_zero,noTup_agg,cells_agg,ez_P,ez_F,neNil2,neNil3,yl2,yl3,yl9,ylX,yfX_0,yfX_2,yfX_3,clN_box,cells_agg,initT,Int.reduceBEq,List.getElem?_cons_succ,Tryd.f16,hf32]
 refine WD_by [(0,true),(4,true),(8,true),(1,true),(8,false),(4,false),(2,true),(3,true),(5,true),(8,false),(6,true),(7,true),(9,true),(10,true),(11,true)] (by kernel_rfl) (by kernel_rfl) ?_
 simp(maxSteps:=2000000) (disch:=omega)only[wantedA,exec1,evalO,T.get_set,T.get_leaf,callA,mapO,ofOpt,ofConst,reduceLT,reduceAdd,reduceEqDiff,if_true,if_false,true_and,List.getElem?_toArray,List.getElem?_cons_succ,List.getElem?_cons_zero,List.nil_append,List.append_nil,Bool.false_eq_true,WR_op,execR_val2,execR_enter2,putRW_some2,rsOf,nb_get,st0_get,st0_next,clN_box,List.length_cons,List.length_nil,Nat.zero_add,reduceLeDiff,List.drop_zero,List.take_succ_cons,List.take_zero,ez_P,ylX,clN_box,List.getElem?_cons_succ,hf32]
 rw[← he]
 refine call32 (e:=.mk 7 ap nn nm off kids) (i:=0) (least:=0) (d:=d) hok hd' (by omega) H ?_
 rw[hkT0,he]
 unfold strS
 simp(maxSteps:=2000000) (disch:=omega)only[wantedA,exec1,evalO,T.get_set,T.get_leaf,callA,mapO,ofOpt,ofConst,neNil9,reduceLT,reduceAdd,reduceEqDiff,if_true,if_false,true_and,List.nil_append,List.append_nil,Bool.false_eq_true,WR_op,WR_re2,execR_val2,execR_enter2,putRW_some2,retRW_ret2,againO,lookV,nb_get,st0_get,st0_next,clN_box,List.length_cons,List.length_nil,Nat.zero_add,reduceLeDiff,List.drop_zero,List.take_succ_cons,List.take_zero,ez_P,neNil9,ylX,clN_box,hbe,hc0,hc1,hf32]
 rw[← he]
 refine call32 (e:=.mk 7 ap nn nm off kids) (i:=1) (least:=0) (d:=d) hok hd' (by omega) H ?_
 rw[hkT1,he]
 unfold strS
 simp(maxSteps:=2000000) (disch:=omega)only[wantedA,exec1,evalO,T.get_set,T.get_leaf,callA,mapO,ofOpt,ofConst,neNil9,reduceLT,reduceAdd,reduceEqDiff,if_true,if_false,true_and,List.nil_append,List.append_nil,Bool.false_eq_true,WR_op,WR_re2,execR_val2,execR_enter2,putRW_some2,retRW_ret2,againO,lookV,nb_get,st0_get,st0_next,clN_box,List.length_cons,List.length_nil,Nat.zero_add,reduceLeDiff,List.drop_zero,List.take_succ_cons,List.take_zero,ez_P,neNil9,ylX,clN_box,hbe,hc2,hc3,hf32]
 rw[← he]
 refine call32 (e:=.mk 7 ap nn nm off kids) (i:=2) (least:=0) (d:=d) hok hd' (by omega) H ?_
 rw[hkT2,he]
 unfold strS
 simp(maxSteps:=2000000) (disch:=omega)only[W_ret,seqQ_normal2,seqQ_ret2,blockW_ret2,wantedA,exec1,evalO,T.get_set,T.get_leaf,ofOpt,finW_ret,giveW,resultsA,tupA,neNil9,reduceLT,reduceEqDiff,if_true,if_false,true_and,Bool.false_eq_true,WR_nil2,WR_op,execR_val2,putRW_some2,retRW_ret2,fixQ_normal2,ez_P,neNil9,hc4]
 exact fin _ _ rfl
theorem t8_k(e:PX)(d:Nat)(ho:okX d e)(hd:d≤4)(hk:e.kind=8)(H:∀x∈e.kids,KnZ 16 [exA x]):KnZ 16 [exA e]:=by
 have fin:∀(x:List UInt8) (S':St),x=txt e→∃a S'',R.ret (.v (.string ⟨⟨x⟩⟩)) S' = R.ret a S''∧freeV a=true∧SpecZ 16 [exA e] (clean a):=fun x S' h=>by
  refine⟨_,_,rfl,rfl,?_⟩
  intro e' d' q _ _
  simp only[List.cons.injEq,and_true]at q
  rw[← exA_inj _ _ q,← h]
  rfl
 cases e with
 |mk k ap nn nm off kids =>
 have hk:k=8:=hk
 subst hk
 cases d with
 |zero=>exact absurd ho (by simp[okX])
 |succ d =>
 simp only[okX]at ho
 obtain⟨_,hnn,_,hnm,hne,hok⟩:=ho
 have hfew:=needs_few hne
 have H:∀x∈kids,KnZ 16 [exA x]:=H
 have fin:∀(x:List UInt8) (S':St),x=textOf 8 nn nm off (txL kids)→∃a S'',R.ret (.v (.string ⟨⟨x⟩⟩)) S' = R.ret a S''∧freeV a=true∧SpecZ 16 [exA (.mk 8 ap nn nm off kids)] (clean a):=fin
 have he:exA (.mk 8 ap nn nm off kids)=.agg [i64A 8,i64A ap,i64A nn,strS nm,.v (.bool off),rowX kids]:=exA_mk ..
 have hd':d≤4:=by omega
 have hLB:=LB_le hd'
 have hlr:=rowX_len kids
 have hkl:=fun(i:Nat) (l:Int)=>kidT_len (txL_bound d kids hok) i l
 have htx:textOf 8 nn nm off (txL kids)=((kidT (txL kids) 0 2 ++ [32,45,62,32]) ++ kidT (txL kids) 1 1):=rfl
 rw[htx]at fin
 have hks0:=hkl 0 2
 have hkT0:kidT (txL (PX.mk 8 ap nn nm off kids).kids) 0 2=kidT (txL kids) 0 2:=rfl
 generalize kidT (txL kids) 0 2=s0 at *
 have hks1:=hkl 1 1
 have hkT1:kidT (txL (PX.mk 8 ap nn nm off kids).kids) 1 1=kidT (txL kids) 1 1:=rfl
 generalize kidT (txL kids) 1 1=s1 at *
 have hc0:=fb_catS (s0) ([32,45,62,32]) (by first |omega | (simp only[List.length_cons,List.length_nil];omega))
 have hc1:=fb_catS ((s0 ++ [32,45,62,32])) (s1) (by first |omega | (simp only[List.length_append,List.length_cons,List.length_nil];omega))
 rw[he]at fin ⊢
 refine bodyZ Tryd.f16 (by kernel_rfl) (by kernel_rfl) (show(_:Nat)≤_ from by show(_:Nat)≤_;simp[Tryd.f16]) ?_
 obtain⟨fn32,hf32⟩:=fnz_32
 have hbe:=beqA_ex (PX.mk 8 ap nn nm off kids)
 rw[he]at hbe
 have hbs:=beqA_st nm
 have hbo:beqA (.v (.bool off)) (.v (.bool off))=true:=by simp[beqA,eqS]
 generalize rowX kids=row at *
 generalize hy2:((s0 ++ [32,45,62,32]) ++ s1)=y2 at *
 generalize hy1:(s0 ++ [32,45,62,32])=y1 at *
 simp only[strS,i64A]at *
 simp(maxSteps:=2000000) (disch:=omega)only[W_skip,W_region,W_drawn,W_seq,W_cond,W_block,W_ret,seqQ_normal2,seqQ_ret2,blockW_normal2,blockW_ret2,WL_nil2,WL_cons,execL_val2,execL_enter2,putL_some2,condW_t2,condW_f2,wantedA,exec1,evalO,initT,T.get_set,T.get_leaf,callA,mapO,ofOpt,ofConst,neNil3,finW_ret,giveW,resultsA,tupA,fb_eqlI,fb_neqI,reduceLT,reduceAdd,reduceEqDiff,if_true,if_false,true_and,Option.getD_some,List.getElem?_cons_succ,List.getElem?_cons_zero,List.nil_append,List.append_nil,beq_self_eq_true,Bool.false_eq_true,nb_get,st0_get,st0_next,cl1_box,clN_box,List.length_cons,List.length_nil,Nat.zero_add,Nat.add_zero,reduceLeDiff,List.drop_zero,List.take_succ_cons,List.take_zero,noTup_agg,cells_agg,ez_P,ez_F,neNil2,neNil3,yl2,yl3,yl9,ylX,yfX_0,yfX_2,yfX_3,clN_box,cells_agg,initT,Int.reduceBEq,List.getElem?_cons_succ,Tryd.f16,hf32]
 refine WD_by [(0,true),(3,true),(1,true),(3,false),(2,true),(4,true),(5,true),(6,true)] (by kernel_rfl) (by kernel_rfl) ?_
 simp(maxSteps:=2000000) (disch:=omega)only[wantedA,exec1,evalO,T.get_set,T.get_leaf,callA,mapO,ofOpt,ofConst,reduceLT,reduceAdd,reduceEqDiff,if_true,if_false,true_and,List.getElem?_toArray,List.getElem?_cons_succ,List.getElem?_cons_zero,List.nil_append,List.append_nil,Bool.false_eq_true,WR_op,execR_val2,execR_enter2,putRW_some2,rsOf,nb_get,st0_get,st0_next,clN_box,List.length_cons,List.length_nil,Nat.zero_add,reduceLeDiff,List.drop_zero,List.take_succ_cons,List.take_zero,ez_P,ylX,clN_box,List.getElem?_cons_succ,hf32]
 rw[← he]
 refine call32 (e:=.mk 8 ap nn nm off kids) (i:=0) (least:=2) (d:=d) hok hd' (by omega) H ?_
 rw[hkT0,he]
 unfold strS
 simp(maxSteps:=2000000) (disch:=omega)only[wantedA,exec1,evalO,T.get_set,T.get_leaf,callA,mapO,ofOpt,ofConst,neNil9,reduceLT,reduceAdd,reduceEqDiff,if_true,if_false,true_and,List.nil_append,List.append_nil,Bool.false_eq_true,WR_op,WR_re2,execR_val2,execR_enter2,putRW_some2,retRW_ret2,againO,lookV,nb_get,st0_get,st0_next,clN_box,List.length_cons,List.length_nil,Nat.zero_add,reduceLeDiff,List.drop_zero,List.take_succ_cons,List.take_zero,ez_P,neNil9,ylX,clN_box,hbe,hc0,hf32]
 rw[← he]
 refine call32 (e:=.mk 8 ap nn nm off kids) (i:=1) (least:=1) (d:=d) hok hd' (by omega) H ?_
 rw[hkT1,he]
 unfold strS
 simp(maxSteps:=2000000) (disch:=omega)only[W_ret,seqQ_normal2,seqQ_ret2,blockW_ret2,wantedA,exec1,evalO,T.get_set,T.get_leaf,ofOpt,finW_ret,giveW,resultsA,tupA,neNil9,reduceLT,reduceEqDiff,if_true,if_false,true_and,Bool.false_eq_true,WR_nil2,WR_op,execR_val2,putRW_some2,retRW_ret2,fixQ_normal2,ez_P,neNil9,hc1]
 exact fin _ _ rfl
theorem t9_k(e:PX)(d:Nat)(ho:okX d e)(hd:d≤4)(hk:e.kind=9)(H:∀x∈e.kids,KnZ 16 [exA x]):KnZ 16 [exA e]:=by
 have fin:∀(x:List UInt8) (S':St),x=txt e→∃a S'',R.ret (.v (.string ⟨⟨x⟩⟩)) S' = R.ret a S''∧freeV a=true∧SpecZ 16 [exA e] (clean a):=fun x S' h=>by
  refine⟨_,_,rfl,rfl,?_⟩
  intro e' d' q _ _
  simp only[List.cons.injEq,and_true]at q
  rw[← exA_inj _ _ q,← h]
  rfl
 cases e with
 |mk k ap nn nm off kids =>
 have hk:k=9:=hk
 subst hk
 cases d with
 |zero=>exact absurd ho (by simp[okX])
 |succ d =>
 simp only[okX]at ho
 obtain⟨_,hnn,_,hnm,hne,hok⟩:=ho
 have hfew:=needs_few hne
 have H:∀x∈kids,KnZ 16 [exA x]:=H
 have fin:∀(x:List UInt8) (S':St),x=textOf 9 nn nm off (txL kids)→∃a S'',R.ret (.v (.string ⟨⟨x⟩⟩)) S' = R.ret a S''∧freeV a=true∧SpecZ 16 [exA (.mk 9 ap nn nm off kids)] (clean a):=fin
 have he:exA (.mk 9 ap nn nm off kids)=.agg [i64A 9,i64A ap,i64A nn,strS nm,.v (.bool off),rowX kids]:=exA_mk ..
 have hd':d≤4:=by omega
 have hLB:=LB_le hd'
 have hlr:=rowX_len kids
 have hkl:=fun(i:Nat) (l:Int)=>kidT_len (txL_bound d kids hok) i l
 have htx:textOf 9 nn nm off (txL kids)=((kidT (txL kids) 0 0 ++ [32,102,98,121,32]) ++ kidT (txL kids) 1 1):=rfl
 rw[htx]at fin
 have hks0:=hkl 0 0
 have hkT0:kidT (txL (PX.mk 9 ap nn nm off kids).kids) 0 0=kidT (txL kids) 0 0:=rfl
 generalize kidT (txL kids) 0 0=s0 at *
 have hks1:=hkl 1 1
 have hkT1:kidT (txL (PX.mk 9 ap nn nm off kids).kids) 1 1=kidT (txL kids) 1 1:=rfl
 generalize kidT (txL kids) 1 1=s1 at *
 have hc0:=fb_catS (s0) ([32,102,98,121,32]) (by first |omega | (simp only[List.length_cons,List.length_nil];omega))
 have hc1:=fb_catS ((s0 ++ [32,102,98,121,32])) (s1) (by first |omega | (simp only[List.length_append,List.length_cons,List.length_nil];omega))
 rw[he]at fin ⊢
 refine bodyZ Tryd.f16 (by kernel_rfl) (by kernel_rfl) (show(_:Nat)≤_ from by show(_:Nat)≤_;simp[Tryd.f16]) ?_
 obtain⟨fn32,hf32⟩:=fnz_32
 have hbe:=beqA_ex (PX.mk 9 ap nn nm off kids)
 rw[he]at hbe
 have hbs:=beqA_st nm
 have hbo:beqA (.v (.bool off)) (.v (.bool off))=true:=by simp[beqA,eqS]
 generalize rowX kids=row at *
 generalize hy2:((s0 ++ [32,102,98,121,32]) ++ s1)=y2 at *
 generalize hy1:(s0 ++ [32,102,98,121,32])=y1 at *
 simp only[strS,i64A]at *
 simp(maxSteps:=2000000) (disch:=omega)only[W_skip,W_region,W_drawn,W_seq,W_cond,W_block,W_ret,seqQ_normal2,seqQ_ret2,blockW_normal2,blockW_ret2,WL_nil2,WL_cons,execL_val2,execL_enter2,putL_some2,condW_t2,condW_f2,wantedA,exec1,evalO,initT,T.get_set,T.get_leaf,callA,mapO,ofOpt,ofConst,neNil3,finW_ret,giveW,resultsA,tupA,fb_eqlI,fb_neqI,reduceLT,reduceAdd,reduceEqDiff,if_true,if_false,true_and,Option.getD_some,List.getElem?_cons_succ,List.getElem?_cons_zero,List.nil_append,List.append_nil,beq_self_eq_true,Bool.false_eq_true,nb_get,st0_get,st0_next,cl1_box,clN_box,List.length_cons,List.length_nil,Nat.zero_add,Nat.add_zero,reduceLeDiff,List.drop_zero,List.take_succ_cons,List.take_zero,noTup_agg,cells_agg,ez_P,ez_F,neNil2,neNil3,yl2,yl3,yl9,ylX,yfX_0,yfX_2,yfX_3,clN_box,cells_agg,initT,Int.reduceBEq,List.getElem?_cons_succ,Tryd.f16,hf32]
 refine WD_by [(0,true),(3,true),(1,true),(3,false),(2,true),(4,true),(5,true),(6,true)] (by kernel_rfl) (by kernel_rfl) ?_
 simp(maxSteps:=2000000) (disch:=omega)only[wantedA,exec1,evalO,T.get_set,T.get_leaf,callA,mapO,ofOpt,ofConst,reduceLT,reduceAdd,reduceEqDiff,if_true,if_false,true_and,List.getElem?_toArray,List.getElem?_cons_succ,List.getElem?_cons_zero,List.nil_append,List.append_nil,Bool.false_eq_true,WR_op,execR_val2,execR_enter2,putRW_some2,rsOf,nb_get,st0_get,st0_next,clN_box,List.length_cons,List.length_nil,Nat.zero_add,reduceLeDiff,List.drop_zero,List.take_succ_cons,List.take_zero,ez_P,ylX,clN_box,List.getElem?_cons_succ,hf32]
 rw[← he]
 refine call32 (e:=.mk 9 ap nn nm off kids) (i:=0) (least:=0) (d:=d) hok hd' (by omega) H ?_
 rw[hkT0,he]
 unfold strS
 simp(maxSteps:=2000000) (disch:=omega)only[wantedA,exec1,evalO,T.get_set,T.get_leaf,callA,mapO,ofOpt,ofConst,neNil9,reduceLT,reduceAdd,reduceEqDiff,if_true,if_false,true_and,List.nil_append,List.append_nil,Bool.false_eq_true,WR_op,WR_re2,execR_val2,execR_enter2,putRW_some2,retRW_ret2,againO,lookV,nb_get,st0_get,st0_next,clN_box,List.length_cons,List.length_nil,Nat.zero_add,reduceLeDiff,List.drop_zero,List.take_succ_cons,List.take_zero,ez_P,neNil9,ylX,clN_box,hbe,hc0,hf32]
 rw[← he]
 refine call32 (e:=.mk 9 ap nn nm off kids) (i:=1) (least:=1) (d:=d) hok hd' (by omega) H ?_
 rw[hkT1,he]
 unfold strS
 simp(maxSteps:=2000000) (disch:=omega)only[W_ret,seqQ_normal2,seqQ_ret2,blockW_ret2,wantedA,exec1,evalO,T.get_set,T.get_leaf,ofOpt,finW_ret,giveW,resultsA,tupA,neNil9,reduceLT,reduceEqDiff,if_true,if_false,true_and,Bool.false_eq_true,WR_nil2,WR_op,execR_val2,putRW_some2,retRW_ret2,fixQ_normal2,ez_P,neNil9,hc1]
 exact fin _ _ rfl
theorem t10_k(e:PX)(d:Nat)(ho:okX d e)(hd:d≤4)(hk:e.kind=10)(H:∀x∈e.kids,KnZ 16 [exA x]):KnZ 16 [exA e]:=by
 have fin:∀(x:List UInt8) (S':St),x=txt e→∃a S'',R.ret (.v (.string ⟨⟨x⟩⟩)) S' = R.ret a S''∧freeV a=true∧SpecZ 16 [exA e] (clean a):=fun x S' h=>by
  refine⟨_,_,rfl,rfl,?_⟩
  intro e' d' q _ _
  simp only[List.cons.injEq,and_true]at q
  rw[← exA_inj _ _ q,← h]
  rfl
 cases e with
 |mk k ap nn nm off kids =>
 have hk:k=10:=hk
 subst hk
 cases d with
 |zero=>exact absurd ho (by simp[okX])
 |succ d =>
 simp only[okX]at ho
 obtain⟨_,hnn,_,hnm,hne,hok⟩:=ho
 have hfew:=needs_few hne
 have H:∀x∈kids,KnZ 16 [exA x]:=H
 have fin:∀(x:List UInt8) (S':St),x=textOf 10 nn nm off (txL kids)→∃a S'',R.ret (.v (.string ⟨⟨x⟩⟩)) S' = R.ret a S''∧freeV a=true∧SpecZ 16 [exA (.mk 10 ap nn nm off kids)] (clean a):=fin
 have he:exA (.mk 10 ap nn nm off kids)=.agg [i64A 10,i64A ap,i64A nn,strS nm,.v (.bool off),rowX kids]:=exA_mk ..
 have hd':d≤4:=by omega
 have hLB:=LB_le hd'
 have hlr:=rowX_len kids
 have hkl:=fun(i:Nat) (l:Int)=>kidT_len (txL_bound d kids hok) i l
 have htx:textOf 10 nn nm off (txL kids)=([112,114,101,32] ++ kidT (txL kids) 0 8):=rfl
 rw[htx]at fin
 have hks0:=hkl 0 8
 have hkT0:kidT (txL (PX.mk 10 ap nn nm off kids).kids) 0 8=kidT (txL kids) 0 8:=rfl
 generalize kidT (txL kids) 0 8=s0 at *
 have hc0:=fb_catS ([112,114,101,32]) (s0) (by first |omega | (simp only[List.length_cons,List.length_nil];omega))
 rw[he]at fin ⊢
 refine bodyZ Tryd.f16 (by kernel_rfl) (by kernel_rfl) (show(_:Nat)≤_ from by show(_:Nat)≤_;simp[Tryd.f16]) ?_
 obtain⟨fn32,hf32⟩:=fnz_32
 have hbe:=beqA_ex (PX.mk 10 ap nn nm off kids)
 rw[he]at hbe
 have hbs:=beqA_st nm
 have hbo:beqA (.v (.bool off)) (.v (.bool off))=true:=by simp[beqA,eqS]
 generalize rowX kids=row at *
 generalize hy1:([112,114,101,32] ++ s0)=y1 at *
 simp only[strS,i64A]at *
 simp(maxSteps:=2000000) (disch:=omega)only[W_skip,W_region,W_drawn,W_seq,W_cond,W_block,W_ret,seqQ_normal2,seqQ_ret2,blockW_normal2,blockW_ret2,WL_nil2,WL_cons,execL_val2,execL_enter2,putL_some2,condW_t2,condW_f2,wantedA,exec1,evalO,initT,T.get_set,T.get_leaf,callA,mapO,ofOpt,ofConst,neNil3,finW_ret,giveW,resultsA,tupA,fb_eqlI,fb_neqI,reduceLT,reduceAdd,reduceEqDiff,if_true,if_false,true_and,Option.getD_some,List.getElem?_cons_succ,List.getElem?_cons_zero,List.nil_append,List.append_nil,beq_self_eq_true,Bool.false_eq_true,nb_get,st0_get,st0_next,cl1_box,clN_box,List.length_cons,List.length_nil,Nat.zero_add,Nat.add_zero,reduceLeDiff,List.drop_zero,List.take_succ_cons,List.take_zero,noTup_agg,cells_agg,ez_P,ez_F,neNil2,neNil3,yl2,yl3,yl9,ylX,yfX_0,yfX_2,yfX_3,clN_box,cells_agg,initT,Int.reduceBEq,List.getElem?_cons_succ,Tryd.f16,hf32]
 rw[← he]
 refine call32 (e:=.mk 10 ap nn nm off kids) (i:=0) (least:=8) (d:=d) hok hd' (by omega) H ?_
 rw[hkT0,he]
 unfold strS
 simp(maxSteps:=2000000) (disch:=omega)only[W_ret,seqQ_normal2,seqQ_ret2,blockW_ret2,WL_nil2,WL_cons,execL_val2,putL_some2,retL_ret2,wantedA,exec1,evalO,T.get_set,T.get_leaf,ofOpt,ofConst,finW_ret,giveW,resultsA,tupA,neNil9,reduceLT,reduceEqDiff,if_true,if_false,true_and,Bool.false_eq_true,ez_P,neNil9,hc0]
 exact fin _ _ rfl
theorem t11_k(e:PX)(d:Nat)(ho:okX d e)(hd:d≤4)(hk:e.kind=11)(H:∀x∈e.kids,KnZ 16 [exA x]):KnZ 16 [exA e]:=by
 have fin:∀(x:List UInt8) (S':St),x=txt e→∃a S'',R.ret (.v (.string ⟨⟨x⟩⟩)) S' = R.ret a S''∧freeV a=true∧SpecZ 16 [exA e] (clean a):=fun x S' h=>by
  refine⟨_,_,rfl,rfl,?_⟩
  intro e' d' q _ _
  simp only[List.cons.injEq,and_true]at q
  rw[← exA_inj _ _ q,← h]
  rfl
 cases e with
 |mk k ap nn nm off kids =>
 have hk:k=11:=hk
 subst hk
 cases d with
 |zero=>exact absurd ho (by simp[okX])
 |succ d =>
 simp only[okX]at ho
 obtain⟨_,hnn,_,hnm,hne,hok⟩:=ho
 have hfew:=needs_few hne
 have H:∀x∈kids,KnZ 16 [exA x]:=H
 have fin:∀(x:List UInt8) (S':St),x=textOf 11 nn nm off (txL kids)→∃a S'',R.ret (.v (.string ⟨⟨x⟩⟩)) S' = R.ret a S''∧freeV a=true∧SpecZ 16 [exA (.mk 11 ap nn nm off kids)] (clean a):=fin
 have he:exA (.mk 11 ap nn nm off kids)=.agg [i64A 11,i64A ap,i64A nn,strS nm,.v (.bool off),rowX kids]:=exA_mk ..
 have hd':d≤4:=by omega
 have hLB:=LB_le hd'
 have hlr:=rowX_len kids
 have hkl:=fun(i:Nat) (l:Int)=>kidT_len (txL_bound d kids hok) i l
 have htx:textOf 11 nn nm off (txL kids)=(kidT (txL kids) 0 9 ++ whenF nm off):=rfl
 rw[htx]at fin
 have hks0:=hkl 0 9
 have hkT0:kidT (txL (PX.mk 11 ap nn nm off kids).kids) 0 9=kidT (txL kids) 0 9:=rfl
 generalize kidT (txL kids) 0 9=s0 at *
 have hwl:=when_len nm off
 generalize hW:whenF nm off=sW at *
 have hc0:=fb_catS (s0) (sW) (by first |omega | (simp only[List.length_append,List.length_cons,List.length_nil];omega))
 rw[he]at fin ⊢
 refine bodyZ Tryd.f16 (by kernel_rfl) (by kernel_rfl) (show(_:Nat)≤_ from by show(_:Nat)≤_;simp[Tryd.f16]) ?_
 obtain⟨fn32,hf32⟩:=fnz_32
 obtain⟨fn34,hf34⟩:=fnz_34
 have hbe:=beqA_ex (PX.mk 11 ap nn nm off kids)
 rw[he]at hbe
 have hbs:=beqA_st nm
 have hbo:beqA (.v (.bool off)) (.v (.bool off))=true:=by simp[beqA,eqS]
 generalize rowX kids=row at *
 generalize hy1:(s0 ++ sW)=y1 at *
 simp only[strS,i64A]at *
 simp(maxSteps:=2000000) (disch:=omega)only[W_skip,W_region,W_drawn,W_seq,W_cond,W_block,W_ret,seqQ_normal2,seqQ_ret2,blockW_normal2,blockW_ret2,WL_nil2,WL_cons,execL_val2,execL_enter2,putL_some2,condW_t2,condW_f2,wantedA,exec1,evalO,initT,T.get_set,T.get_leaf,callA,mapO,ofOpt,ofConst,neNil3,finW_ret,giveW,resultsA,tupA,fb_eqlI,fb_neqI,reduceLT,reduceAdd,reduceEqDiff,if_true,if_false,true_and,Option.getD_some,List.getElem?_cons_succ,List.getElem?_cons_zero,List.nil_append,List.append_nil,beq_self_eq_true,Bool.false_eq_true,nb_get,st0_get,st0_next,cl1_box,clN_box,List.length_cons,List.length_nil,Nat.zero_add,Nat.add_zero,reduceLeDiff,List.drop_zero,List.take_succ_cons,List.take_zero,noTup_agg,cells_agg,ez_P,ez_F,neNil2,neNil3,yl2,yl3,yl9,ylX,yfX_0,yfX_2,yfX_3,clN_box,cells_agg,initT,Int.reduceBEq,List.getElem?_cons_succ,Tryd.f16,hf32]
 refine WD_by [(0,true),(2,true),(3,true),(4,true),(5,true),(1,true),(5,false),(3,false),(6,true),(7,true),(8,true)] (by kernel_rfl) (by kernel_rfl) ?_
 simp(maxSteps:=2000000) (disch:=omega)only[wantedA,exec1,evalO,T.get_set,T.get_leaf,callA,mapO,ofOpt,ofConst,reduceLT,reduceAdd,reduceEqDiff,if_true,if_false,true_and,List.getElem?_toArray,List.getElem?_cons_succ,List.getElem?_cons_zero,List.nil_append,List.append_nil,Bool.false_eq_true,WR_op,execR_val2,execR_enter2,putRW_some2,rsOf,nb_get,st0_get,st0_next,cl1_box,clN_box,List.length_cons,List.length_nil,Nat.zero_add,reduceLeDiff,List.drop_zero,List.take_succ_cons,List.take_zero,ez_P,yl4,yl9,ylX,yfX_3,clN_box,List.getElem?_cons_succ,yfX_4,hf32]
 rw[← he]
 refine call32 (e:=.mk 11 ap nn nm off kids) (i:=0) (least:=9) (d:=d) hok hd' (by omega) H ?_
 rw[hkT0,he]
 unfold strS
 simp(maxSteps:=2000000) (disch:=omega)only[wantedA,exec1,evalO,T.get_set,T.get_leaf,callA,mapO,ofOpt,reduceLT,reduceEqDiff,if_true,if_false,true_and,List.getElem?_cons_succ,List.getElem?_cons_zero,List.nil_append,List.append_nil,WR_op,WR_re2,execR_enter2,putRW_some2,retRW_ret2,againO,lookV,nb_get,st0_get,st0_next,cl1_box,ez_P,yl4,yl9,List.getElem?_cons_succ,hbs,hbo,hf34]
 refine when_u hnm ?_
 rw[hW]
 unfold strS
 simp(maxSteps:=2000000) (disch:=omega)only[W_ret,seqQ_normal2,seqQ_ret2,blockW_ret2,wantedA,exec1,evalO,T.get_set,T.get_leaf,ofOpt,finW_ret,giveW,resultsA,tupA,neNil9,reduceLT,reduceEqDiff,if_true,if_false,true_and,Bool.false_eq_true,WR_nil2,WR_op,execR_val2,putRW_some2,retRW_ret2,fixQ_normal2,ez_P,neNil9,hc0]
 exact fin _ _ rfl
theorem t12_k(e:PX)(d:Nat)(ho:okX d e)(hd:d≤4)(hk:e.kind=12)(H:∀x∈e.kids,KnZ 16 [exA x]):KnZ 16 [exA e]:=by
 have fin:∀(x:List UInt8) (S':St),x=txt e→∃a S'',R.ret (.v (.string ⟨⟨x⟩⟩)) S' = R.ret a S''∧freeV a=true∧SpecZ 16 [exA e] (clean a):=fun x S' h=>by
  refine⟨_,_,rfl,rfl,?_⟩
  intro e' d' q _ _
  simp only[List.cons.injEq,and_true]at q
  rw[← exA_inj _ _ q,← h]
  rfl
 cases e with
 |mk k ap nn nm off kids =>
 have hk:k=12:=hk
 subst hk
 cases d with
 |zero=>exact absurd ho (by simp[okX])
 |succ d =>
 simp only[okX]at ho
 obtain⟨_,hnn,_,hnm,hne,hok⟩:=ho
 have hfew:=needs_few hne
 have H:∀x∈kids,KnZ 16 [exA x]:=H
 have fin:∀(x:List UInt8) (S':St),x=textOf 12 nn nm off (txL kids)→∃a S'',R.ret (.v (.string ⟨⟨x⟩⟩)) S' = R.ret a S''∧freeV a=true∧SpecZ 16 [exA (.mk 12 ap nn nm off kids)] (clean a):=fin
 have he:exA (.mk 12 ap nn nm off kids)=.agg [i64A 12,i64A ap,i64A nn,strS nm,.v (.bool off),rowX kids]:=exA_mk ..
 have hd':d≤4:=by omega
 have hLB:=LB_le hd'
 have hlr:=rowX_len kids
 have hkl:=fun(i:Nat) (l:Int)=>kidT_len (txL_bound d kids hok) i l
 have htx:textOf 12 nn nm off (txL kids)=(((((([109,101,114,103,101,32] ++ nm) ++ [32,40]) ++ kidT (txL kids) 0 0) ++ [41,32,40]) ++ kidT (txL kids) 1 0) ++ [41]):=rfl
 rw[htx]at fin
 have hks0:=hkl 0 0
 have hkT0:kidT (txL (PX.mk 12 ap nn nm off kids).kids) 0 0=kidT (txL kids) 0 0:=rfl
 generalize kidT (txL kids) 0 0=s0 at *
 have hks1:=hkl 1 0
 have hkT1:kidT (txL (PX.mk 12 ap nn nm off kids).kids) 1 0=kidT (txL kids) 1 0:=rfl
 generalize kidT (txL kids) 1 0=s1 at *
 have hc0:=fb_catS ([109,101,114,103,101,32]) (nm) (by first |omega | (simp only[List.length_cons,List.length_nil];omega))
 have hc1:=fb_catS (([109,101,114,103,101,32] ++ nm)) ([32,40]) (by first |omega | (simp only[List.length_append,List.length_cons,List.length_nil];omega))
 have hc2:=fb_catS ((([109,101,114,103,101,32] ++ nm) ++ [32,40])) (s0) (by first |omega | (simp only[List.length_append,List.length_cons,List.length_nil];omega))
 have hc3:=fb_catS (((([109,101,114,103,101,32] ++ nm) ++ [32,40]) ++ s0)) ([41,32,40]) (by first |omega | (simp only[List.length_append,List.length_cons,List.length_nil];omega))
 have hc4:=fb_catS ((((([109,101,114,103,101,32] ++ nm) ++ [32,40]) ++ s0) ++ [41,32,40])) (s1) (by first |omega | (simp only[List.length_append,List.length_cons,List.length_nil];omega))
 have hc5:=fb_catS (((((([109,101,114,103,101,32] ++ nm) ++ [32,40]) ++ s0) ++ [41,32,40]) ++ s1)) ([41]) (by first |omega | (simp only[List.length_append,List.length_cons,List.length_nil];omega))
 rw[he]at fin ⊢
 refine bodyZ Tryd.f16 (by kernel_rfl) (by kernel_rfl) (show(_:Nat)≤_ from by show(_:Nat)≤_;simp[Tryd.f16]) ?_
 obtain⟨fn32,hf32⟩:=fnz_32
 have hbe:=beqA_ex (PX.mk 12 ap nn nm off kids)
 rw[he]at hbe
 have hbs:=beqA_st nm
 have hbo:beqA (.v (.bool off)) (.v (.bool off))=true:=by simp[beqA,eqS]
 generalize rowX kids=row at *
 generalize hy6:(((((([109,101,114,103,101,32] ++ nm) ++ [32,40]) ++ s0) ++ [41,32,40]) ++ s1) ++ [41])=y6 at *
 generalize hy5:((((([109,101,114,103,101,32] ++ nm) ++ [32,40]) ++ s0) ++ [41,32,40]) ++ s1)=y5 at *
 generalize hy4:(((([109,101,114,103,101,32] ++ nm) ++ [32,40]) ++ s0) ++ [41,32,40])=y4 at *
 generalize hy3:((([109,101,114,103,101,32] ++ nm) ++ [32,40]) ++ s0)=y3 at *
 generalize hy2:(([109,101,114,103,101,32] ++ nm) ++ [32,40])=y2 at *
 generalize hy1:([109,101,114,103,101,32] ++ nm)=y1 at *
 simp only[strS,i64A]at *
 simp(maxSteps:=2000000) (disch:=omega)only[W_skip,W_region,W_drawn,W_seq,W_cond,W_block,W_ret,seqQ_normal2,seqQ_ret2,blockW_normal2,blockW_ret2,WL_nil2,WL_cons,execL_val2,execL_enter2,putL_some2,condW_t2,condW_f2,wantedA,exec1,evalO,initT,T.get_set,T.get_leaf,callA,mapO,ofOpt,ofConst,neNil3,finW_ret,giveW,resultsA,tupA,fb_eqlI,fb_neqI,reduceLT,reduceAdd,reduceEqDiff,if_true,if_false,true_and,Option.getD_some,List.getElem?_cons_succ,List.getElem?_cons_zero,List.nil_append,List.append_nil,beq_self_eq_true,Bool.false_eq_true,nb_get,st0_get,st0_next,cl1_box,clN_box,List.length_cons,List.length_nil,Nat.zero_add,Nat.add_zero,reduceLeDiff,List.drop_zero,List.take_succ_cons,List.take_zero,noTup_agg,cells_agg,ez_P,ez_F,neNil2,neNil3,yl2,yl3,yl9,ylX,yfX_0,yfX_2,yfX_3,clN_box,cells_agg,initT,Int.reduceBEq,List.getElem?_cons_succ,Tryd.f16,hf32]
 refine WD_by [(0,true),(1,true),(2,true),(3,true),(4,true),(8,true),(5,true),(8,false),(1,false),(6,true),(7,true),(9,true),(1,false),(10,true),(11,true),(12,true)] (by kernel_rfl) (by kernel_rfl) ?_
 simp(maxSteps:=2000000) (disch:=omega)only[wantedA,exec1,evalO,T.get_set,T.get_leaf,callA,mapO,ofOpt,ofConst,neNil9,reduceLT,reduceAdd,reduceEqDiff,if_true,if_false,true_and,List.getElem?_toArray,List.getElem?_cons_succ,List.getElem?_cons_zero,List.nil_append,List.append_nil,Bool.false_eq_true,WR_op,execR_val2,execR_enter2,putRW_some2,rsOf,nb_get,st0_get,st0_next,cl1_box,clN_box,List.length_cons,List.length_nil,Nat.zero_add,reduceLeDiff,List.drop_zero,List.take_succ_cons,List.take_zero,ez_P,neNil9,yl9,ylX,yfX_3,clN_box,List.getElem?_cons_succ,hc0,hc1,hf32]
 rw[← he]
 refine call32 (e:=.mk 12 ap nn nm off kids) (i:=0) (least:=0) (d:=d) hok hd' (by omega) H ?_
 rw[hkT0,he]
 unfold strS
 simp(maxSteps:=2000000) (disch:=omega)only[wantedA,exec1,evalO,T.get_set,T.get_leaf,callA,mapO,ofOpt,ofConst,neNil9,reduceLT,reduceAdd,reduceEqDiff,if_true,if_false,true_and,List.getElem?_cons_succ,List.getElem?_cons_zero,List.nil_append,List.append_nil,Bool.false_eq_true,WR_op,WR_re2,execR_val2,execR_enter2,putRW_some2,retRW_ret2,againO,lookV,nb_get,st0_get,st0_next,cl1_box,clN_box,List.length_cons,List.length_nil,Nat.zero_add,reduceLeDiff,List.drop_zero,List.take_succ_cons,List.take_zero,ez_P,neNil9,yl9,ylX,clN_box,List.getElem?_cons_succ,hbe,hbs,hc2,hc3,hf32]
 rw[← he]
 refine call32 (e:=.mk 12 ap nn nm off kids) (i:=1) (least:=0) (d:=d) hok hd' (by omega) H ?_
 rw[hkT1,he]
 unfold strS
 simp(maxSteps:=2000000) (disch:=omega)only[W_ret,seqQ_normal2,seqQ_ret2,blockW_ret2,wantedA,exec1,evalO,T.get_set,T.get_leaf,ofOpt,ofConst,finW_ret,giveW,resultsA,tupA,neNil9,reduceLT,reduceEqDiff,if_true,if_false,true_and,List.getElem?_cons_succ,List.getElem?_cons_zero,Bool.false_eq_true,WR_nil2,WR_op,WR_re2,execR_val2,putRW_some2,retRW_ret2,fixQ_normal2,againO,lookV,nb_get,st0_get,st0_next,cl1_box,ez_P,neNil9,yl9,List.getElem?_cons_succ,hbs,hc4,hc5]
 exact fin _ _ rfl
theorem t13_k(e:PX)(d:Nat)(ho:okX d e)(hd:d≤4)(hk:e.kind=13)(H:∀x∈e.kids,KnZ 16 [exA x]):KnZ 16 [exA e]:=by
 have fin:∀(x:List UInt8) (S':St),x=txt e→∃a S'',R.ret (.v (.string ⟨⟨x⟩⟩)) S' = R.ret a S''∧freeV a=true∧SpecZ 16 [exA e] (clean a):=fun x S' h=>by
  refine⟨_,_,rfl,rfl,?_⟩
  intro e' d' q _ _
  simp only[List.cons.injEq,and_true]at q
  rw[← exA_inj _ _ q,← h]
  rfl
 cases e with
 |mk k ap nn nm off kids =>
 have hk:k=13:=hk
 subst hk
 cases d with
 |zero=>exact absurd ho (by simp[okX])
 |succ d =>
 simp only[okX]at ho
 obtain⟨_,hnn,_,hnm,hne,hok⟩:=ho
 have hfew:=needs_few hne
 have H:∀x∈kids,KnZ 16 [exA x]:=H
 have fin:∀(x:List UInt8) (S':St),x=textOf 13 nn nm off (txL kids)→∃a S'',R.ret (.v (.string ⟨⟨x⟩⟩)) S' = R.ret a S''∧freeV a=true∧SpecZ 16 [exA (.mk 13 ap nn nm off kids)] (clean a):=fin
 have he:exA (.mk 13 ap nn nm off kids)=.agg [i64A 13,i64A ap,i64A nn,strS nm,.v (.bool off),rowX kids]:=exA_mk ..
 have hd':d≤4:=by omega
 have hLB:=LB_le hd'
 have hlr:=rowX_len kids
 have hkl:=fun(i:Nat) (l:Int)=>kidT_len (txL_bound d kids hok) i l
 have htx:textOf 13 nn nm off (txL kids)=(((nm ++ [40]) ++ rowT' (txL kids)) ++ [41]):=rfl
 rw[htx]at fin
 have hrl:=rowT_len (txL_bound d kids hok) (by rw[txL_len];exact hfew)
 have hkR:rowT' (txL (PX.mk 13 ap nn nm off kids).kids)=rowT' (txL kids):=rfl
 generalize rowT' (txL kids)=sR at *
 have hc0:=fb_catS (nm) ([40]) (by first |omega | (simp only[List.length_cons,List.length_nil];omega))
 have hc1:=fb_catS ((nm ++ [40])) (sR) (by first |omega | (simp only[List.length_append,List.length_cons,List.length_nil];omega))
 have hc2:=fb_catS (((nm ++ [40]) ++ sR)) ([41]) (by first |omega | (simp only[List.length_append,List.length_cons,List.length_nil];omega))
 rw[he]at fin ⊢
 refine bodyZ Tryd.f16 (by kernel_rfl) (by kernel_rfl) (show(_:Nat)≤_ from by show(_:Nat)≤_;simp[Tryd.f16]) ?_
 obtain⟨fn35,hf35⟩:=fnz_35
 have hbe:=beqA_ex (PX.mk 13 ap nn nm off kids)
 rw[he]at hbe
 have hbs:=beqA_st nm
 have hbo:beqA (.v (.bool off)) (.v (.bool off))=true:=by simp[beqA,eqS]
 generalize rowX kids=row at *
 generalize hy3:(((nm ++ [40]) ++ sR) ++ [41])=y3 at *
 generalize hy2:((nm ++ [40]) ++ sR)=y2 at *
 generalize hy1:(nm ++ [40])=y1 at *
 simp only[strS,i64A]at *
 simp(maxSteps:=2000000) (disch:=omega)only[W_skip,W_region,W_drawn,W_seq,W_cond,W_block,W_ret,seqQ_normal2,seqQ_ret2,blockW_normal2,blockW_ret2,WL_nil2,WL_cons,execL_val2,putL_some2,condW_t2,condW_f2,wantedA,exec1,evalO,initT,T.get_set,T.get_leaf,callA,mapO,ofOpt,ofConst,neNil3,finW_ret,giveW,resultsA,tupA,fb_eqlI,fb_neqI,reduceLT,reduceAdd,reduceEqDiff,if_true,if_false,true_and,Option.getD_some,List.getElem?_cons_succ,List.getElem?_cons_zero,List.nil_append,List.append_nil,beq_self_eq_true,Bool.false_eq_true,nb_get,st0_get,st0_next,cl1_box,clN_box,List.length_cons,List.length_nil,Nat.zero_add,Nat.add_zero,reduceLeDiff,List.drop_zero,List.take_succ_cons,List.take_zero,noTup_agg,cells_agg,ez_P,ez_F,neNil2,neNil3,yl2,yl3,yl9,ylX,yfX_0,yfX_2,yfX_3,clN_box,cells_agg,initT,Int.reduceBEq,List.getElem?_cons_succ,Tryd.f16]
 refine WD_by [(0,true),(1,true),(2,true),(3,true),(4,true),(1,false),(5,true),(6,true),(7,true)] (by kernel_rfl) (by kernel_rfl) ?_
 simp(maxSteps:=2000000) (disch:=omega)only[wantedA,exec1,evalO,T.get_set,T.get_leaf,callA,mapO,ofOpt,ofConst,neNil9,reduceLT,reduceAdd,reduceEqDiff,if_true,if_false,true_and,List.getElem?_toArray,List.getElem?_cons_succ,List.getElem?_cons_zero,List.nil_append,List.append_nil,Bool.false_eq_true,WR_op,execR_val2,execR_enter2,putRW_some2,rsOf,nb_get,st0_get,st0_next,cl1_box,clN_box,List.length_cons,List.length_nil,Nat.zero_add,reduceLeDiff,List.drop_zero,List.take_succ_cons,List.take_zero,ez_P,neNil9,yl9,ylX,yfX_3,clN_box,List.getElem?_cons_succ,hc0,hf35]
 rw[← he]
 refine call35 (e:=.mk 13 ap nn nm off kids) (d:=d) hok hd' hfew H ?_
 rw[hkR,he]
 unfold strS
 simp(maxSteps:=2000000) (disch:=omega)only[W_ret,seqQ_normal2,seqQ_ret2,blockW_ret2,wantedA,exec1,evalO,T.get_set,T.get_leaf,ofOpt,ofConst,finW_ret,giveW,resultsA,tupA,neNil9,reduceLT,reduceEqDiff,if_true,if_false,true_and,List.getElem?_cons_succ,List.getElem?_cons_zero,Bool.false_eq_true,WR_nil2,WR_op,WR_re2,execR_val2,putRW_some2,retRW_ret2,fixQ_normal2,againO,lookV,nb_get,st0_get,st0_next,cl1_box,ez_P,neNil9,yl9,List.getElem?_cons_succ,hbs,hc1,hc2]
 exact fin _ _ rfl
end Go.Ax
noncomputable section
namespace Go.Ax
open Go.RowKit Go.Proofs
set_option maxRecDepth 100000
theorem text_step(e:PX)(d:Nat)(ho:okX d e)(hd:d≤4)(H:∀x∈e.kids,KnZ 16 [exA x]):KnZ 16 [exA e]:=by
 rcases kind_cases (okX_kind ho)with h |h |h |h |h |h |h |h |h |h |h |h |h |h
 ·exact t1_k e d ho hd h H
 ·exact t2_k e d ho hd h H
 ·exact t3_k e d ho hd h H
 ·exact t4_k e d ho hd h H
 ·exact t5_k e d ho hd h H
 ·exact t6_k e d ho hd h H
 ·exact t7_k e d ho hd h H
 ·exact t8_k e d ho hd h H
 ·exact t9_k e d ho hd h H
 ·exact t10_k e d ho hd h H
 ·exact t11_k e d ho hd h H
 ·exact t12_k e d ho hd h H
 ·exact t13_k e d ho hd h H
 ·exact t14_k e d ho hd h H
theorem okX_kids{d:Nat}{e:PX}(h:okX (d+1) e):okL d e.kids:=by
 cases e with
 |mk k a n nm off kids=>simp only[okX]at h;exact h.2.2.2.2.2
theorem text_k:∀(d:Nat) (e:PX),okX d e→d≤4→KnZ 16 [exA e]
 |0,e,h,_=>absurd h (by cases e;simp[okX])
 |d+1,e,h,hd=>text_step e (d+1) h hd fun x hx=>text_k d x (okL_get (okX_kids h) x hx) (by omega)
theorem text_u{e:PX}{d:Nat}{S:St}{Q:R→Prop}(ho:okX d e)(hd:d≤4)(h:Q (.ret (strS (txt e)) S)):WC EZ 16 [exA e] S Q:=call16 (text_k d e ho hd) ho hd h
end Go.Ax
