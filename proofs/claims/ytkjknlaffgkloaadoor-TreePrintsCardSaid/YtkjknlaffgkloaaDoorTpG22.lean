/- TtS -/
import Derived.Test.YtkjknlaffgkloaaDoorTpG21
import Derived.Test.YtkjknlaffgkloaaDoorTpG14
import Derived.Test.YtkjknlaffgkloaaDoorTpG20
import Derived.Test.YtkjknlaffgkloaaDoorTpG19
import Derived.Test.YtkjknlaffgkloaaDoorTpG13
set_option linter.unusedVariables false
set_option linter.unusedSimpArgs false
set_option maxHeartbeats 16000000
noncomputable section
open Nat (reduceLT reduceAdd reduceEqDiff reduceLeDiff)
namespace Go.Ax
open Go.RowKit Go.Proofs
set_option maxRecDepth 100000
theorem r11t_k(e:PX)(d:Nat)(ho:okX d e)(hd:d≤4)(hk:e.kind=11)(hoff:e.off=true)(H:∀x∈e.kids,KnZ 27 [exA x]):KnZ 27 [exA e]:=by
 have fin:∀(x:List UInt8) (S':St),x=txt e→∃a S'',R.ret (.v (.string ⟨⟨x⟩⟩)) S' = R.ret a S''∧freeV a=true∧SpecZ 27 [exA e] (clean a):=fun x S' h=>by
  refine⟨_,_,rfl,rfl,?_⟩
  intro e' d' q _ _
  simp only[List.cons.injEq,and_true]at q
  rw[← exA_inj _ _ q,← h]
  rfl
 cases e with
 |mk k ap nn nm off kids =>
 have hk:k=11:=hk
 subst hk
 cases d with
 |zero=>exact absurd ho (by simp[okX])
 |succ d =>
 simp only[okX]at ho
 obtain⟨_,hnn,_,hnm,hne,hok⟩:=ho
 have hfew:=needs_few hne
 have H:∀x∈kids,KnZ 27 [exA x]:=H
 have fin:∀(x:List UInt8) (S':St),x=textOf 11 nn nm off (txL kids)→∃a S'',R.ret (.v (.string ⟨⟨x⟩⟩)) S' = R.ret a S''∧freeV a=true∧SpecZ 27 [exA (.mk 11 ap nn nm off kids)] (clean a):=fin
 have he:exA (.mk 11 ap nn nm off kids)=.agg [i64A 11,i64A ap,i64A nn,strS nm,.v (.bool off),rowX kids]:=exA_mk ..
 have hd':d≤4:=by omega
 have hLB:=LB_le hd'
 have hlr:=rowX_lenR kids
 have hkl:=fun(i:Nat) (l:Int)=>kidT_len (txL_bound d kids hok) i l
 have hoff2:off=true:=hoff
 subst hoff2
 have htx:textOf 11 nn nm true (txL kids)=((kidT (txL kids) 0 9 ++ [32,119,104,101,110,32,110,111,116,32]) ++ nm):=by
  have h:textOf 11 nn nm true (txL kids)=kidT (txL kids) 0 9 ++ whenF nm true:=rfl
  rw[h];unfold whenF;rw[if_pos rfl,← List.append_assoc]
 rw[htx]at fin
 have hbrow:beqA (rowX kids) (rowX kids)=true:=beqA_rowX kids
 have hi0:0<kids.length:=by unfold needs at hne;omega
 have hm0:=List.getElem_mem hi0
 have hok0:=okL_get hok _ hm0
 have hx0:oIndexAddr Tryd.prog 61 (rowX kids) (.v (.int .i64 0))=some (.ep (exA kids[0]).cells):=rowX_idxR kids 0 hi0
 obtain⟨c00,c01,c02,c03,c04,c05,hagg0⟩:=ex_agg kids[0]
 have hcl0:(exA kids[0]).cells=[c00,c01,c02,c03,c04,c05]:=by rw[hagg0];rfl
 rw[hcl0]at hx0
 have hbk0:=beqA_ex kids[0]
 have hcall0:=fun(S:St) (Q:R→Prop) h=>call47 (S:=S) (Q:=Q) (least:=(9)) (H _ hm0) hok0 hd' h
 rw[← kidT_at kids 0 (9) hi0,hagg0]at hcall0
 have hks0:=hkl 0 (9)
 generalize kidT (txL kids) 0 (9)=s0 at *
 rw[hagg0]at hbk0
 have hc0:=fb_catS (s0) ([32,119,104,101,110,32,110,111,116,32]) (by first |omega | (simp only[List.length_cons,List.length_nil];omega))
 have hc1:=fb_catS ((s0 ++ [32,119,104,101,110,32,110,111,116,32])) (nm) (by first |omega | (simp only[List.length_append,List.length_cons,List.length_nil];omega))
 rw[he]at fin ⊢
 refine bodyZ Tryd.f27 (by kernel_rfl) (by kernel_rfl) (show(_:Nat)≤_ from by show(_:Nat)≤_;simp[Tryd.f27]) ?_
 obtain⟨fn47,hf47⟩:=fnz_47
 have hbe:=beqA_ex (PX.mk 11 ap nn nm true kids)
 rw[he]at hbe
 have hbs:=beqA_st nm
 generalize rowX kids=row at *
 generalize hy2:((s0 ++ [32,119,104,101,110,32,110,111,116,32]) ++ nm)=y2 at *
 generalize hy1:(s0 ++ [32,119,104,101,110,32,110,111,116,32])=y1 at *
 simp only[strS,i64A]at *
 simp(maxSteps:=2000000) (disch:=omega)only[W_skip,W_region,W_drawn,W_seq,W_cond,W_block,W_ret,seqQ_normal2,seqQ_ret2,blockW_normal2,blockW_ret2,WL_nil2,WL_cons,execL_val2,execL_enter2,putL_some2,condW_t2,condW_f2,wantedA,exec1,evalO,initT,T.get_set,T.get_leaf,callA,mapO,ofOpt,ofConst,neNil3,finW_ret,giveW,resultsA,tupA,fb_eqlI,neNil9,reduceLT,reduceAdd,reduceEqDiff,if_true,if_false,true_and,Option.getD_some,List.getElem?_cons_succ,List.getElem?_cons_zero,List.nil_append,List.append_nil,beq_self_eq_true,Bool.false_eq_true,nb_get,st0_get,st0_next,cl1_box,clN_box,List.length_cons,List.length_nil,Nat.zero_add,Nat.add_zero,reduceLeDiff,List.drop_zero,List.take_succ_cons,List.take_zero,noTup_agg,cells_agg,ez_P,ez_G,ez_F,neNil2,neNil3,neNil9,yl2,yl3,yl4,yl9,clN_box,cells_agg,initT,Int.reduceBEq,List.getElem?_cons_succ,yfY_0,yfY_2,yfY_3,yfY_4,yfY_5,ylY,yl61,yleY,Tryd.f27,hlr,hf47,hx0]
 refine WD_by [(0,true),(1,true),(2,true),(3,true),(6,true),(7,true),(4,true),(7,false),(5,true),(8,true),(9,true)] (by kernel_rfl) (by kernel_rfl) ?_
 simp(maxSteps:=2000000) (disch:=omega)only[wantedA,exec1,evalO,T.get_set,T.get_leaf,callA,mapO,ofOpt,ofConst,reduceLT,reduceAdd,reduceEqDiff,if_true,if_false,true_and,List.getElem?_toArray,List.getElem?_cons_succ,List.getElem?_cons_zero,List.nil_append,List.append_nil,Bool.false_eq_true,WR_op,execR_val2,execR_enter2,putRW_some2,rsOf,nb_get,st0_get,st0_next,cl1_box,List.length_cons,List.length_nil,Nat.zero_add,reduceLeDiff,List.take_succ_cons,List.take_zero,ez_P,yl9,List.getElem?_cons_succ,yfY_3,yfY_5,yl61,yleY,hf47,hx0]
 refine hcall0 _ _ ?_
 simp(maxSteps:=2000000) (disch:=omega)only[W_ret,seqQ_normal2,seqQ_ret2,blockW_ret2,wantedA,exec1,evalO,T.get_set,T.get_leaf,ofOpt,ofConst,finW_ret,giveW,resultsA,tupA,neNil9,reduceLT,reduceEqDiff,if_true,if_false,true_and,List.getElem?_cons_succ,List.getElem?_cons_zero,Bool.false_eq_true,WR_nil2,WR_op,WR_re2,execR_val2,putRW_some2,retRW_ret2,fixQ_normal2,againO,lookV,nb_get,st0_get,st0_next,cl1_box,ez_P,neNil9,yl9,List.getElem?_cons_succ,hbs,hc0,hc1]
 exact fin _ _ rfl
theorem r11f_k(e:PX)(d:Nat)(ho:okX d e)(hd:d≤4)(hk:e.kind=11)(hoff:e.off=false)(H:∀x∈e.kids,KnZ 27 [exA x]):KnZ 27 [exA e]:=by
 have fin:∀(x:List UInt8) (S':St),x=txt e→∃a S'',R.ret (.v (.string ⟨⟨x⟩⟩)) S' = R.ret a S''∧freeV a=true∧SpecZ 27 [exA e] (clean a):=fun x S' h=>by
  refine⟨_,_,rfl,rfl,?_⟩
  intro e' d' q _ _
  simp only[List.cons.injEq,and_true]at q
  rw[← exA_inj _ _ q,← h]
  rfl
 cases e with
 |mk k ap nn nm off kids =>
 have hk:k=11:=hk
 subst hk
 cases d with
 |zero=>exact absurd ho (by simp[okX])
 |succ d =>
 simp only[okX]at ho
 obtain⟨_,hnn,_,hnm,hne,hok⟩:=ho
 have hfew:=needs_few hne
 have H:∀x∈kids,KnZ 27 [exA x]:=H
 have fin:∀(x:List UInt8) (S':St),x=textOf 11 nn nm off (txL kids)→∃a S'',R.ret (.v (.string ⟨⟨x⟩⟩)) S' = R.ret a S''∧freeV a=true∧SpecZ 27 [exA (.mk 11 ap nn nm off kids)] (clean a):=fin
 have he:exA (.mk 11 ap nn nm off kids)=.agg [i64A 11,i64A ap,i64A nn,strS nm,.v (.bool off),rowX kids]:=exA_mk ..
 have hd':d≤4:=by omega
 have hLB:=LB_le hd'
 have hlr:=rowX_lenR kids
 have hkl:=fun(i:Nat) (l:Int)=>kidT_len (txL_bound d kids hok) i l
 have hoff2:off=false:=hoff
 subst hoff2
 have htx:textOf 11 nn nm false (txL kids)=((kidT (txL kids) 0 9 ++ [32,119,104,101,110,32]) ++ nm):=by
  have h:textOf 11 nn nm false (txL kids)=kidT (txL kids) 0 9 ++ whenF nm false:=rfl
  rw[h];unfold whenF;rw[if_neg (by decide),← List.append_assoc]
 rw[htx]at fin
 have hbrow:beqA (rowX kids) (rowX kids)=true:=beqA_rowX kids
 have hi0:0<kids.length:=by unfold needs at hne;omega
 have hm0:=List.getElem_mem hi0
 have hok0:=okL_get hok _ hm0
 have hx0:oIndexAddr Tryd.prog 61 (rowX kids) (.v (.int .i64 0))=some (.ep (exA kids[0]).cells):=rowX_idxR kids 0 hi0
 obtain⟨c00,c01,c02,c03,c04,c05,hagg0⟩:=ex_agg kids[0]
 have hcl0:(exA kids[0]).cells=[c00,c01,c02,c03,c04,c05]:=by rw[hagg0];rfl
 rw[hcl0]at hx0
 have hbk0:=beqA_ex kids[0]
 have hcall0:=fun(S:St) (Q:R→Prop) h=>call47 (S:=S) (Q:=Q) (least:=(9)) (H _ hm0) hok0 hd' h
 rw[← kidT_at kids 0 (9) hi0,hagg0]at hcall0
 have hks0:=hkl 0 (9)
 generalize kidT (txL kids) 0 (9)=s0 at *
 rw[hagg0]at hbk0
 have hc0:=fb_catS (s0) ([32,119,104,101,110,32]) (by first |omega | (simp only[List.length_cons,List.length_nil];omega))
 have hc1:=fb_catS ((s0 ++ [32,119,104,101,110,32])) (nm) (by first |omega | (simp only[List.length_append,List.length_cons,List.length_nil];omega))
 rw[he]at fin ⊢
 refine bodyZ Tryd.f27 (by kernel_rfl) (by kernel_rfl) (show(_:Nat)≤_ from by show(_:Nat)≤_;simp[Tryd.f27]) ?_
 obtain⟨fn47,hf47⟩:=fnz_47
 have hbe:=beqA_ex (PX.mk 11 ap nn nm false kids)
 rw[he]at hbe
 have hbs:=beqA_st nm
 generalize rowX kids=row at *
 generalize hy2:((s0 ++ [32,119,104,101,110,32]) ++ nm)=y2 at *
 generalize hy1:(s0 ++ [32,119,104,101,110,32])=y1 at *
 simp only[strS,i64A]at *
 simp(maxSteps:=2000000) (disch:=omega)only[W_skip,W_region,W_drawn,W_seq,W_cond,W_block,W_ret,seqQ_normal2,seqQ_ret2,blockW_normal2,blockW_ret2,WL_nil2,WL_cons,execL_val2,execL_enter2,putL_some2,condW_t2,condW_f2,wantedA,exec1,evalO,initT,T.get_set,T.get_leaf,callA,mapO,ofOpt,ofConst,neNil3,finW_ret,giveW,resultsA,tupA,fb_eqlI,neNil9,reduceLT,reduceAdd,reduceEqDiff,if_true,if_false,true_and,Option.getD_some,List.getElem?_cons_succ,List.getElem?_cons_zero,List.nil_append,List.append_nil,beq_self_eq_true,Bool.false_eq_true,nb_get,st0_get,st0_next,cl1_box,clN_box,List.length_cons,List.length_nil,Nat.zero_add,Nat.add_zero,reduceLeDiff,List.drop_zero,List.take_succ_cons,List.take_zero,noTup_agg,cells_agg,ez_P,ez_G,ez_F,neNil2,neNil3,neNil9,yl2,yl3,yl4,yl9,clN_box,cells_agg,initT,Int.reduceBEq,List.getElem?_cons_succ,yfY_0,yfY_2,yfY_3,yfY_4,yfY_5,ylY,yl61,yleY,Tryd.f27,hlr,hf47,hx0]
 refine WD_by [(0,true),(1,true),(2,true),(3,true),(6,true),(7,true),(4,true),(7,false),(5,true),(8,true),(9,true)] (by kernel_rfl) (by kernel_rfl) ?_
 simp(maxSteps:=2000000) (disch:=omega)only[wantedA,exec1,evalO,T.get_set,T.get_leaf,callA,mapO,ofOpt,ofConst,reduceLT,reduceAdd,reduceEqDiff,if_true,if_false,true_and,List.getElem?_toArray,List.getElem?_cons_succ,List.getElem?_cons_zero,List.nil_append,List.append_nil,Bool.false_eq_true,WR_op,execR_val2,execR_enter2,putRW_some2,rsOf,nb_get,st0_get,st0_next,cl1_box,List.length_cons,List.length_nil,Nat.zero_add,reduceLeDiff,List.take_succ_cons,List.take_zero,ez_P,yl9,List.getElem?_cons_succ,yfY_3,yfY_5,yl61,yleY,hf47,hx0]
 refine hcall0 _ _ ?_
 simp(maxSteps:=2000000) (disch:=omega)only[W_ret,seqQ_normal2,seqQ_ret2,blockW_ret2,wantedA,exec1,evalO,T.get_set,T.get_leaf,ofOpt,ofConst,finW_ret,giveW,resultsA,tupA,neNil9,reduceLT,reduceEqDiff,if_true,if_false,true_and,List.getElem?_cons_succ,List.getElem?_cons_zero,Bool.false_eq_true,WR_nil2,WR_op,WR_re2,execR_val2,putRW_some2,retRW_ret2,fixQ_normal2,againO,lookV,nb_get,st0_get,st0_next,cl1_box,ez_P,neNil9,yl9,List.getElem?_cons_succ,hbs,hc0,hc1]
 exact fin _ _ rfl
theorem r11_k(e:PX)(d:Nat)(ho:okX d e)(hd:d≤4)(hk:e.kind=11)(H:∀x∈e.kids,KnZ 27 [exA x]):KnZ 27 [exA e]:=by
 cases h:e.off with
 |true=>exact r11t_k e d ho hd hk h H
 |false=>exact r11f_k e d ho hd hk h H
theorem r14n_k(e:PX)(d:Nat)(ho:okX d e)(hd:d≤4)(hk:e.kind=14)(h0:¬ e.kids.length=0)(H:∀x∈e.kids,KnZ 27 [exA x]):KnZ 27 [exA e]:=by
 have fin:∀(x:List UInt8) (S':St),x=txt e→∃a S'',R.ret (.v (.string ⟨⟨x⟩⟩)) S' = R.ret a S''∧freeV a=true∧SpecZ 27 [exA e] (clean a):=fun x S' h=>by
  refine⟨_,_,rfl,rfl,?_⟩
  intro e' d' q _ _
  simp only[List.cons.injEq,and_true]at q
  rw[← exA_inj _ _ q,← h]
  rfl
 cases e with
 |mk k ap nn nm off kids =>
 have hk:k=14:=hk
 subst hk
 cases d with
 |zero=>exact absurd ho (by simp[okX])
 |succ d =>
 simp only[okX]at ho
 obtain⟨_,hnn,_,hnm,hne,hok⟩:=ho
 have hfew:=needs_few hne
 have H:∀x∈kids,KnZ 27 [exA x]:=H
 have fin:∀(x:List UInt8) (S':St),x=textOf 14 nn nm off (txL kids)→∃a S'',R.ret (.v (.string ⟨⟨x⟩⟩)) S' = R.ret a S''∧freeV a=true∧SpecZ 27 [exA (.mk 14 ap nn nm off kids)] (clean a):=fin
 have he:exA (.mk 14 ap nn nm off kids)=.agg [i64A 14,i64A ap,i64A nn,strS nm,.v (.bool off),rowX kids]:=exA_mk ..
 have hd':d≤4:=by omega
 have hLB:=LB_le hd'
 have hlr:=rowX_lenR kids
 have hkl:=fun(i:Nat) (l:Int)=>kidT_len (txL_bound d kids hok) i l
 have h0:¬ kids.length=0:=h0
 have hb:((kids.length:Int) == 0)=false:=by rw[beq_eq_false_iff_ne];omega
 have htx:textOf 14 nn nm off (txL kids)=(((([97,119,97,105,116,32] ++ nm) ++ [32,97,102,116,101,114,32,40]) ++ rowT' (txL kids)) ++ [41]):=by
  show(if txL kids=[]then _ else _)=_
  rw[if_neg (fun h=>h0 (by rw[← txL_len,h];rfl))]
 rw[htx]at fin
 have hbrow:beqA (rowX kids) (rowX kids)=true:=beqA_rowX kids
 have hrl:=rowT_len (txL_bound d kids hok) (by rw[txL_len];exact hfew)
 have hcallR:=fun(S:St) (Q:R→Prop) h=>call49 (S:=S) (Q:=Q) hok hd' hfew H h
 generalize rowT' (txL kids)=sR at *
 have hc0:=fb_catS ([97,119,97,105,116,32]) (nm) (by first |omega | (simp only[List.length_cons,List.length_nil];omega))
 have hc1:=fb_catS (([97,119,97,105,116,32] ++ nm)) ([32,97,102,116,101,114,32,40]) (by first |omega | (simp only[List.length_append,List.length_cons,List.length_nil];omega))
 have hc2:=fb_catS ((([97,119,97,105,116,32] ++ nm) ++ [32,97,102,116,101,114,32,40])) (sR) (by first |omega | (simp only[List.length_append,List.length_cons,List.length_nil];omega))
 have hc3:=fb_catS (((([97,119,97,105,116,32] ++ nm) ++ [32,97,102,116,101,114,32,40]) ++ sR)) ([41]) (by first |omega | (simp only[List.length_append,List.length_cons,List.length_nil];omega))
 rw[he]at fin ⊢
 refine bodyZ Tryd.f27 (by kernel_rfl) (by kernel_rfl) (show(_:Nat)≤_ from by show(_:Nat)≤_;simp[Tryd.f27]) ?_
 obtain⟨fn49,hf49⟩:=fnz_49
 have hbe:=beqA_ex (PX.mk 14 ap nn nm off kids)
 rw[he]at hbe
 have hbs:=beqA_st nm
 generalize rowX kids=row at *
 generalize hy4:(((([97,119,97,105,116,32] ++ nm) ++ [32,97,102,116,101,114,32,40]) ++ sR) ++ [41])=y4 at *
 generalize hy3:((([97,119,97,105,116,32] ++ nm) ++ [32,97,102,116,101,114,32,40]) ++ sR)=y3 at *
 generalize hy2:(([97,119,97,105,116,32] ++ nm) ++ [32,97,102,116,101,114,32,40])=y2 at *
 generalize hy1:([97,119,97,105,116,32] ++ nm)=y1 at *
 simp only[strS,i64A]at *
 simp(maxSteps:=2000000) (disch:=omega)only[W_skip,W_region,W_drawn,W_seq,W_cond,W_block,W_ret,seqQ_normal2,seqQ_ret2,blockW_normal2,blockW_ret2,WL_nil2,WL_cons,execL_val2,putL_some2,condW_f2,wantedA,exec1,evalO,initT,T.get_set,T.get_leaf,callA,mapO,ofOpt,ofConst,neNil3,finW_ret,giveW,resultsA,tupA,fb_eqlI,neNil9,reduceLT,reduceAdd,reduceEqDiff,if_true,if_false,true_and,Option.getD_some,List.getElem?_cons_succ,List.getElem?_cons_zero,List.nil_append,List.append_nil,Bool.false_eq_true,nb_get,st0_get,st0_next,cl1_box,clN_box,List.length_cons,List.length_nil,Nat.zero_add,Nat.add_zero,reduceLeDiff,List.drop_zero,List.take_succ_cons,List.take_zero,noTup_agg,cells_agg,ez_P,ez_F,neNil2,neNil3,neNil9,yl2,yl3,yl4,yl9,clN_box,cells_agg,initT,Int.reduceBEq,List.getElem?_cons_succ,yfY_0,yfY_2,yfY_3,yfY_4,yfY_5,ylY,yl61,Tryd.f27,hlr,hc0,hb]
 refine WD_by [(0,true),(1,true),(2,true),(3,true),(4,true),(5,true),(6,true),(1,false),(7,true),(8,true),(9,true)] (by kernel_rfl) (by kernel_rfl) ?_
 simp(maxSteps:=2000000) (disch:=omega)only[wantedA,exec1,evalO,T.get_set,T.get_leaf,callA,mapO,ofOpt,ofConst,neNil9,reduceLT,reduceEqDiff,if_true,if_false,true_and,List.getElem?_toArray,List.getElem?_cons_succ,List.getElem?_cons_zero,List.nil_append,List.append_nil,Bool.false_eq_true,WR_op,execR_val2,execR_enter2,putRW_some2,rsOf,nb_get,st0_get,st0_next,cl1_box,Nat.zero_add,ez_P,neNil9,yl9,List.getElem?_cons_succ,yfY_3,yfY_5,yl61,hc0,hc1,hf49]
 refine hcallR _ _ ?_
 simp(maxSteps:=2000000) (disch:=omega)only[W_ret,seqQ_normal2,wantedA,exec1,evalO,T.get_set,T.get_leaf,ofOpt,ofConst,finW_ret,giveW,resultsA,tupA,neNil9,reduceLT,reduceEqDiff,if_true,if_false,true_and,List.getElem?_cons_succ,List.getElem?_cons_zero,Bool.false_eq_true,WR_nil2,WR_op,WR_re2,execR_val2,putRW_some2,retRW_ret2,fixQ_normal2,againO,lookV,nb_get,st0_get,st0_next,cl1_box,ez_P,neNil9,yl9,List.getElem?_cons_succ,hbs,hc2,hc3]
 exact fin _ _ rfl
theorem r14z_k(e:PX)(d:Nat)(ho:okX d e)(hd:d≤4)(hk:e.kind=14)(h0:e.kids.length=0)(H:∀x∈e.kids,KnZ 27 [exA x]):KnZ 27 [exA e]:=by
 have fin:∀(x:List UInt8) (S':St),x=txt e→∃a S'',R.ret (.v (.string ⟨⟨x⟩⟩)) S' = R.ret a S''∧freeV a=true∧SpecZ 27 [exA e] (clean a):=fun x S' h=>by
  refine⟨_,_,rfl,rfl,?_⟩
  intro e' d' q _ _
  simp only[List.cons.injEq,and_true]at q
  rw[← exA_inj _ _ q,← h]
  rfl
 cases e with
 |mk k ap nn nm off kids =>
 have hk:k=14:=hk
 subst hk
 cases d with
 |zero=>exact absurd ho (by simp[okX])
 |succ d =>
 simp only[okX]at ho
 obtain⟨_,hnn,_,hnm,hne,hok⟩:=ho
 have hfew:=needs_few hne
 have H:∀x∈kids,KnZ 27 [exA x]:=H
 have fin:∀(x:List UInt8) (S':St),x=textOf 14 nn nm off (txL kids)→∃a S'',R.ret (.v (.string ⟨⟨x⟩⟩)) S' = R.ret a S''∧freeV a=true∧SpecZ 27 [exA (.mk 14 ap nn nm off kids)] (clean a):=fin
 have he:exA (.mk 14 ap nn nm off kids)=.agg [i64A 14,i64A ap,i64A nn,strS nm,.v (.bool off),rowX kids]:=exA_mk ..
 have hd':d≤4:=by omega
 have hLB:=LB_le hd'
 have hlr:=rowX_lenR kids
 have hkl:=fun(i:Nat) (l:Int)=>kidT_len (txL_bound d kids hok) i l
 have h0:kids.length=0:=h0
 have hb:((kids.length:Int) == 0)=true:=by rw[h0];rfl
 have htx:textOf 14 nn nm off (txL kids)=([97,119,97,105,116,32] ++ nm):=by
  show(if txL kids=[]then _ else _)=_
  rw[if_pos (List.length_eq_zero_iff.1 (by rw[txL_len,h0]))]
 rw[htx]at fin
 have hbrow:beqA (rowX kids) (rowX kids)=true:=beqA_rowX kids
 have hc0:=fb_catS ([97,119,97,105,116,32]) (nm) (by first |omega | (simp only[List.length_cons,List.length_nil];omega))
 rw[he]at fin ⊢
 refine bodyZ Tryd.f27 (by kernel_rfl) (by kernel_rfl) (show(_:Nat)≤_ from by show(_:Nat)≤_;simp[Tryd.f27]) ?_
 obtain⟨fn49,hf49⟩:=fnz_49
 have hbe:=beqA_ex (PX.mk 14 ap nn nm off kids)
 rw[he]at hbe
 have hbs:=beqA_st nm
 generalize rowX kids=row at *
 generalize hy1:([97,119,97,105,116,32] ++ nm)=y1 at *
 simp only[strS,i64A]at *
 simp(maxSteps:=2000000) (disch:=omega)only[W_skip,W_region,W_drawn,W_seq,W_cond,W_block,W_ret,seqQ_normal2,seqQ_ret2,blockW_normal2,blockW_ret2,WL_nil2,WL_cons,execL_val2,putL_some2,condW_t2,condW_f2,wantedA,exec1,evalO,initT,T.get_set,T.get_leaf,callA,mapO,ofOpt,ofConst,neNil3,finW_ret,giveW,resultsA,tupA,fb_eqlI,neNil9,reduceLT,reduceAdd,reduceEqDiff,if_true,if_false,true_and,Option.getD_some,List.getElem?_cons_succ,List.getElem?_cons_zero,List.nil_append,List.append_nil,Bool.false_eq_true,nb_get,st0_get,st0_next,cl1_box,clN_box,List.length_cons,List.length_nil,Nat.zero_add,Nat.add_zero,reduceLeDiff,List.drop_zero,List.take_succ_cons,List.take_zero,noTup_agg,cells_agg,ez_P,ez_F,neNil2,neNil3,neNil9,yl2,yl3,yl4,yl9,clN_box,cells_agg,initT,Int.reduceBEq,List.getElem?_cons_succ,yfY_0,yfY_2,yfY_3,yfY_4,yfY_5,ylY,yl61,Tryd.f27,hlr,hc0,hb]
 exact fin _ _ rfl
theorem r14_k(e:PX)(d:Nat)(ho:okX d e)(hd:d≤4)(hk:e.kind=14)(H:∀x∈e.kids,KnZ 27 [exA x]):KnZ 27 [exA e]:=by
 by_cases h0:e.kids.length=0
 ·exact r14z_k e d ho hd hk h0 H
 ·exact r14n_k e d ho hd hk h0 H
end Go.Ax
noncomputable section
open Nat (reduceLT reduceAdd reduceEqDiff reduceLeDiff)
namespace Go.Ax
open Go.RowKit Go.Proofs
set_option maxRecDepth 100000
theorem yfep63_0(c:AV)(cs:List AV):oFieldAddr Tryd.prog 63 (.ep (c :: cs)) 0=some (.ep (c :: cs)):=by kernel_rfl
theorem r6_k(e:PX)(d:Nat)(ho:okX d e)(hd:d≤4)(hk:e.kind=6)(H:∀x∈e.kids,KnZ 27 [exA x]):KnZ 27 [exA e]:=by
 have ho0:=ho
 have fin:∀(x:List UInt8) (S':St),x=txt e→∃a S'',R.ret (.v (.string ⟨⟨x⟩⟩)) S' = R.ret a S''∧freeV a=true∧SpecZ 27 [exA e] (clean a):=fun x S' h=>by
  refine⟨_,_,rfl,rfl,?_⟩
  intro e' d' q _ _
  simp only[List.cons.injEq,and_true]at q
  rw[← exA_inj _ _ q,← h]
  rfl
 cases e with
 |mk k ap nn nm off kids =>
 have hk:k=6:=hk
 subst hk
 cases d with
 |zero=>exact absurd ho (by simp[okX])
 |succ d =>
 simp only[okX]at ho
 obtain⟨_,hnn,_,hnm,hne,hok⟩:=ho
 have hfew:=needs_few hne
 have H:∀x∈kids,KnZ 27 [exA x]:=H
 have fin:∀(x:List UInt8) (S':St),x=textOf 6 nn nm off (txL kids)→∃a S'',R.ret (.v (.string ⟨⟨x⟩⟩)) S' = R.ret a S''∧freeV a=true∧SpecZ 27 [exA (.mk 6 ap nn nm off kids)] (clean a):=fin
 have he:exA (.mk 6 ap nn nm off kids)=.agg [i64A 6,i64A ap,i64A nn,strS nm,.v (.bool off),rowX kids]:=exA_mk ..
 have hd':d≤4:=by omega
 have hLB:=LB_le hd'
 have hlr:=rowX_lenR kids
 have hkl:=fun(i:Nat) (l:Int)=>kidT_len (txL_bound d kids hok) i l
 have hsg:=sgnF_nn nm
 have ho6:okX (d+1) (.mk 6 ap nn nm off kids):=ho0
 have htx:textOf 6 nn nm off (txL kids)=(((kidT (txL kids) 0 (if sgnF nm=5 then 6 else sgnF nm) ++ [32]) ++ nm) ++ [32]) ++ kidT (txL kids) 1 (sgnF nm+1):=rfl
 rw[htx]at fin
 have hsw:IntKind.i64.wrap (sgnF nm+1)=sgnF nm+1:=by
  have h:=wrap_one (i:=(sgnF nm).toNat) (by omega)
  have e1:(((sgnF nm).toNat:Nat):Int)=sgnF nm:=by omega
  rw[e1]at h
  rw[h];omega
 have hcallB:=fun(S:St) (Q:R→Prop) (h:Q (.ret (i64A (sgnF nm)) S))=>call48 (S:=S) (Q:=Q) ho6 h
 generalize hg:sgnF nm=sg at *
 generalize hA:(if sg=5 then(6:Int)else sg)=lA at *
 have hbrow:beqA (rowX kids) (rowX kids)=true:=beqA_rowX kids
 have hi0:0<kids.length:=by unfold needs at hne;omega
 have hm0:=List.getElem_mem hi0
 have hok0:=okL_get hok _ hm0
 have hx0:oIndexAddr Tryd.prog 61 (rowX kids) (.v (.int .i64 0))=some (.ep (exA kids[0]).cells):=rowX_idxR kids 0 hi0
 obtain⟨c00,c01,c02,c03,c04,c05,hagg0⟩:=ex_agg kids[0]
 have hcl0:(exA kids[0]).cells=[c00,c01,c02,c03,c04,c05]:=by rw[hagg0];rfl
 rw[hcl0]at hx0
 have hbk0:=beqA_ex kids[0]
 have hcall0:=fun(S:St) (Q:R→Prop) h=>call47 (S:=S) (Q:=Q) (least:=lA) (H _ hm0) hok0 hd' h
 rw[← kidT_at kids 0 lA hi0,hagg0]at hcall0
 have hks0:=hkl 0 lA
 generalize kidT (txL kids) 0 lA=s0 at *
 rw[hagg0]at hbk0
 have hi1:1<kids.length:=by unfold needs at hne;omega
 have hm1:=List.getElem_mem hi1
 have hok1:=okL_get hok _ hm1
 have hx1:oIndexAddr Tryd.prog 61 (rowX kids) (.v (.int .i64 1))=some (.ep (exA kids[1]).cells):=rowX_idxR kids 1 hi1
 obtain⟨c10,c11,c12,c13,c14,c15,hagg1⟩:=ex_agg kids[1]
 have hcl1:(exA kids[1]).cells=[c10,c11,c12,c13,c14,c15]:=by rw[hagg1];rfl
 rw[hcl1]at hx1
 have hbk1:=beqA_ex kids[1]
 have hcall1:=fun(S:St) (Q:R→Prop) h=>call47 (S:=S) (Q:=Q) (least:=(sg+1)) (H _ hm1) hok1 hd' h
 rw[← kidT_at kids 1 (sg+1) hi1,hagg1]at hcall1
 have hks1:=hkl 1 (sg+1)
 generalize kidT (txL kids) 1 (sg+1)=s1 at *
 rw[hagg1]at hbk1
 have hc0:=fb_catS (s0) ([32]) (by first |omega | (simp only[List.length_cons,List.length_nil];omega))
 have hc1:=fb_catS (s0 ++ [32]) (nm) (by first |omega | (simp only[List.length_append,List.length_cons,List.length_nil];omega))
 have hc2:=fb_catS ((s0 ++ [32]) ++ nm) ([32]) (by first |omega | (simp only[List.length_append,List.length_cons,List.length_nil];omega))
 have hc3:=fb_catS (((s0 ++ [32]) ++ nm) ++ [32]) (s1) (by first |omega | (simp only[List.length_append,List.length_cons,List.length_nil];omega))
 rw[he]at fin hcallB ⊢
 refine bodyZ Tryd.f27 (by kernel_rfl) (by kernel_rfl) (show(_:Nat)≤_ from by show(_:Nat)≤_;simp[Tryd.f27]) ?_
 obtain⟨fn1,hf1⟩:=fnz_47
 obtain⟨fn2,hf2⟩:=fnz_48
 have hbe:=beqA_ex (PX.mk 6 ap nn nm off kids)
 rw[he]at hbe
 have hbs:=beqA_st nm
 generalize rowX kids=row at *
 generalize hy4:(((s0 ++ [32]) ++ nm) ++ [32]) ++ s1=y4 at *
 generalize hy3:((s0 ++ [32]) ++ nm) ++ [32]=y3 at *
 generalize hy2:(s0 ++ [32]) ++ nm=y2 at *
 generalize hy1:s0 ++ [32]=y1 at *
 simp only[strS,i64A]at *
 simp(maxSteps:=2000000) (disch:=omega)only[W_skip,W_region,W_drawn,W_seq,W_cond,W_block,W_ret,seqQ_normal2,seqQ_ret2,blockW_normal2,blockW_ret2,WL_nil2,WL_cons,execL_val2,execL_enter2,putL_some2,condW_t2,condW_f2,wantedA,exec1,evalO,initT,T.get_set,T.get_leaf,callA,mapO,ofOpt,ofConst,neNil3,finW_ret,giveW,resultsA,tupA,fb_eqlI,neNil9,reduceLT,reduceAdd,reduceEqDiff,if_true,if_false,true_and,Option.getD_some,List.getElem?_cons_succ,List.getElem?_cons_zero,List.nil_append,List.append_nil,beq_self_eq_true,Bool.false_eq_true,nb_get,st0_get,st0_next,cl1_box,clN_box,List.length_cons,List.length_nil,Nat.zero_add,Nat.add_zero,reduceLeDiff,List.drop_zero,List.take_succ_cons,List.take_zero,noTup_agg,cells_agg,ez_P,ez_G,ez_F,neNil2,neNil3,neNil9,yl2,yl3,yl4,yl9,clN_box,cells_agg,initT,Int.reduceBEq,List.getElem?_cons_succ,yfY_0,yfY_2,yfY_3,yfY_4,yfY_5,ylY,yl61,Tryd.f27,hf2,hlr]
 refine hcallB _ _ ?_
 by_cases h5:sg=5
 ·have hb:(sg == 5)=true:=by rw[h5];rfl
  have hA6:lA=6:=by rw[← hA,if_pos h5]
  subst hA6
  simp(maxSteps:=2000000) (disch:=omega)only[W_skip,W_region,W_drawn,W_seq,W_cond,seqQ_normal2,WL_nil2,WL_cons,execL_val2,putL_some2,retL_ret2,condW_t2,wantedA,exec1,evalO,T.get_set,T.get_leaf,ofOpt,ofConst,neNil3,fb_eqlI,reduceLT,reduceEqDiff,if_true,if_false,true_and,Bool.false_eq_true,ez_P,neNil3,hb]
  refine WD_by [(0,true),(1,true),(2,true),(3,true),(4,true),(7,true),(8,true),(11,true),(12,true),(13,true),(14,true),(15,true),(16,true),(5,true),(14,false),(12,false),(8,false),(6,true),(9,true),(10,true),(17,true),(8,false),(18,true),(19,true)] (by kernel_rfl) (by kernel_rfl) ?_
  simp(maxSteps:=2000000) (disch:=omega)only[wantedA,exec1,evalO,T.get_set,T.get_leaf,callA,mapO,ofOpt,ofConst,neNil3,fb_add,reduceLT,reduceAdd,reduceEqDiff,if_true,if_false,true_and,List.getElem?_toArray,List.getElem?_cons_succ,List.getElem?_cons_zero,List.nil_append,List.append_nil,Bool.false_eq_true,WR_op,execR_val2,execR_enter2,putRW_some2,rsOf,nb_get,st0_get,st0_next,cl1_box,List.length_cons,List.length_nil,Nat.zero_add,reduceLeDiff,List.take_succ_cons,List.take_zero,ez_P,neNil3,yl9,List.getElem?_cons_succ,yfY_3,yfY_5,yl61,yleY,hf1,hsw,hx0,hx1]
  refine hcall0 _ _ ?_
  simp(maxSteps:=2000000) (disch:=omega)only[wantedA,exec1,evalO,T.get_set,T.get_leaf,callA,mapO,ofOpt,ofConst,neNil9,reduceLT,reduceAdd,reduceEqDiff,if_true,if_false,true_and,List.getElem?_cons_succ,List.getElem?_cons_zero,List.nil_append,List.append_nil,Bool.false_eq_true,WR_op,WR_re2,execR_val2,execR_enter2,putRW_some2,retRW_ret2,againO,lookV,nb_get,st0_get,st0_next,cl1_box,List.length_cons,List.length_nil,Nat.zero_add,reduceLeDiff,List.take_succ_cons,List.take_zero,ez_P,neNil9,yl9,List.getElem?_cons_succ,yl61,yleY,hf1,hbs,hbrow,hc0,hc1,hc2,hbk1]
  refine hcall1 _ _ ?_
  simp(maxSteps:=2000000) (disch:=omega)only[W_ret,seqQ_normal2,seqQ_ret2,blockW_ret2,wantedA,exec1,evalO,T.get_set,T.get_leaf,ofOpt,finW_ret,giveW,resultsA,tupA,neNil9,reduceLT,reduceEqDiff,if_true,if_false,true_and,List.getElem?_cons_succ,List.getElem?_cons_zero,Bool.false_eq_true,WR_nil2,WR_op,WR_re2,execR_val2,putRW_some2,retRW_ret2,fixQ_normal2,againO,lookV,nb_get,st0_get,st0_next,cl1_box,ez_P,neNil9,yl9,List.getElem?_cons_succ,hbs,hc3]
  exact fin _ _ rfl
 ·have hb:(sg == 5)=false:=by simp[h5]
  have hA6:lA=sg:=by rw[← hA,if_neg h5]
  rw[hA6]at hcall0
  simp(maxSteps:=2000000) (disch:=omega)only[W_skip,W_region,W_drawn,W_seq,W_cond,seqQ_normal2,WL_nil2,WL_cons,execL_val2,putL_some2,retL_ret2,condW_f2,wantedA,exec1,evalO,T.get_set,T.get_leaf,ofOpt,ofConst,neNil3,fb_eqlI,reduceLT,reduceEqDiff,if_true,if_false,true_and,Bool.false_eq_true,ez_P,neNil3,hb]
  refine WD_by [(0,true),(1,true),(2,true),(3,true),(4,true),(7,true),(8,true),(11,true),(12,true),(13,true),(14,true),(15,true),(16,true),(5,true),(14,false),(12,false),(8,false),(6,true),(9,true),(10,true),(17,true),(8,false),(18,true),(19,true)] (by kernel_rfl) (by kernel_rfl) ?_
  simp(maxSteps:=2000000) (disch:=omega)only[wantedA,exec1,evalO,T.get_set,T.get_leaf,callA,mapO,ofOpt,ofConst,neNil3,fb_add,reduceLT,reduceAdd,reduceEqDiff,if_true,if_false,true_and,List.getElem?_toArray,List.getElem?_cons_succ,List.getElem?_cons_zero,List.nil_append,List.append_nil,Bool.false_eq_true,WR_op,execR_val2,execR_enter2,putRW_some2,rsOf,nb_get,st0_get,st0_next,cl1_box,List.length_cons,List.length_nil,Nat.zero_add,reduceLeDiff,List.take_succ_cons,List.take_zero,ez_P,neNil3,yl9,List.getElem?_cons_succ,yfY_3,yfY_5,yl61,yleY,hf1,hsw,hx0,hx1]
  refine hcall0 _ _ ?_
  simp(maxSteps:=2000000) (disch:=omega)only[wantedA,exec1,evalO,T.get_set,T.get_leaf,callA,mapO,ofOpt,ofConst,neNil9,reduceLT,reduceAdd,reduceEqDiff,if_true,if_false,true_and,List.getElem?_cons_succ,List.getElem?_cons_zero,List.nil_append,List.append_nil,Bool.false_eq_true,WR_op,WR_re2,execR_val2,execR_enter2,putRW_some2,retRW_ret2,againO,lookV,nb_get,st0_get,st0_next,cl1_box,List.length_cons,List.length_nil,Nat.zero_add,reduceLeDiff,List.take_succ_cons,List.take_zero,ez_P,neNil9,yl9,List.getElem?_cons_succ,yl61,yleY,hf1,hbs,hbrow,hc0,hc1,hc2,hbk1]
  refine hcall1 _ _ ?_
  simp(maxSteps:=2000000) (disch:=omega)only[W_ret,seqQ_normal2,seqQ_ret2,blockW_ret2,wantedA,exec1,evalO,T.get_set,T.get_leaf,ofOpt,finW_ret,giveW,resultsA,tupA,neNil9,reduceLT,reduceEqDiff,if_true,if_false,true_and,List.getElem?_cons_succ,List.getElem?_cons_zero,Bool.false_eq_true,WR_nil2,WR_op,WR_re2,execR_val2,putRW_some2,retRW_ret2,fixQ_normal2,againO,lookV,nb_get,st0_get,st0_next,cl1_box,ez_P,neNil9,yl9,List.getElem?_cons_succ,hbs,hc3]
  exact fin _ _ rfl
theorem itoa_ne(n:Int):Lib.itoa n≠[]:=by
 by_cases h:n<0
 ·rw[itoa_neg n h];simp
 ·rw[itoa_pos n h]
  by_cases h2:n.natAbs<10
  ·rw[dec_small _ h2];simp
  ·rw[dec_big _ h2];simp
theorem textOf_ne{k n:Int}{nm:List UInt8}{off:Bool}{ks:List (Int × Int × List UInt8)}(h3:k=3→nm≠[]):textOf k n nm off ks≠[]:=by
 have ite_ne:∀{c:Prop} [Decidable c] {x y:List UInt8},(c→x≠[])→(¬ c→y≠[])→(if c then x else y)≠[]:=fun h1 h2=>by split <;> simp_all
 unfold textOf
 refine ite_ne (fun _=>itoa_ne n) fun _=>?_
 refine ite_ne (fun _=>ite_ne (fun _=>by simp) fun _=>by simp) fun _=>?_
 refine ite_ne (fun h=>h3 h) fun _=>?_
 refine ite_ne (fun _=>ite_ne (fun _=>by simp) fun _=>by simp) fun _=>?_
 refine ite_ne (fun _=>by simp) fun _=>?_
 refine ite_ne (fun _=>by simp) fun _=>?_
 refine ite_ne (fun _=>by simp) fun _=>?_
 refine ite_ne (fun _=>by simp) fun _=>?_
 refine ite_ne (fun _=>by simp) fun _=>?_
 refine ite_ne (fun _=>by simp) fun _=>?_
 refine ite_ne (fun _=>by unfold whenF;split <;> simp) fun _=>?_
 refine ite_ne (fun _=>by simp) fun _=>?_
 refine ite_ne (fun _=>by simp) fun _=>?_
 exact ite_ne (fun _=>by simp) fun _=>by simp
theorem txt_ne{d:Nat}{e:PX}(h:okX d e):txt e≠[]:=by
 cases e with
 |mk k a n nm off kids =>
  cases d with
  |zero=>exact absurd h (by simp[okX])
  |succ d=>simp only[okX]at h;exact textOf_ne h.2.2.1.2
theorem kidF_ne{d:Nat}{e:PX}(h:okX d e)(l:Int):kidF e l≠[]:=by
 unfold kidF
 split
 ·unfold parT;simp
 ·exact txt_ne h
theorem r4_k(e:PX)(d:Nat)(ho:okX d e)(hd:d≤4)(hk:e.kind=4)(H:∀x∈e.kids,KnZ 27 [exA x]):KnZ 27 [exA e]:=by
 have fin:∀(x:List UInt8) (S':St),x=txt e→∃a S'',R.ret (.v (.string ⟨⟨x⟩⟩)) S' = R.ret a S''∧freeV a=true∧SpecZ 27 [exA e] (clean a):=fun x S' h=>by
  refine⟨_,_,rfl,rfl,?_⟩
  intro e' d' q _ _
  simp only[List.cons.injEq,and_true]at q
  rw[← exA_inj _ _ q,← h]
  rfl
 cases e with
 |mk k ap nn nm off kids =>
 have hk:k=4:=hk
 subst hk
 cases d with
 |zero=>exact absurd ho (by simp[okX])
 |succ d =>
 simp only[okX]at ho
 obtain⟨_,hnn,_,hnm,hne,hok⟩:=ho
 have hfew:=needs_few hne
 have H:∀x∈kids,KnZ 27 [exA x]:=H
 have fin:∀(x:List UInt8) (S':St),x=textOf 4 nn nm off (txL kids)→∃a S'',R.ret (.v (.string ⟨⟨x⟩⟩)) S' = R.ret a S''∧freeV a=true∧SpecZ 27 [exA (.mk 4 ap nn nm off kids)] (clean a):=fin
 have he:exA (.mk 4 ap nn nm off kids)=.agg [i64A 4,i64A ap,i64A nn,strS nm,.v (.bool off),rowX kids]:=exA_mk ..
 have hd':d≤4:=by omega
 have hLB:=LB_le hd'
 have hlr:=rowX_lenR kids
 have hkl:=fun(i:Nat) (l:Int)=>kidT_len (txL_bound d kids hok) i l
 have htx:textOf 4 nn nm off (txL kids)=if kindT (txL kids) 0=1∨(kidT (txL kids) 0 8).head? = some 45 then([45,40] ++ rawT (txL kids) 0) ++ [41]else [45] ++ kidT (txL kids) 0 8:=rfl
 rw[htx]at fin
 have hbrow:beqA (rowX kids) (rowX kids)=true:=beqA_rowX kids
 have hi0:0<kids.length:=by unfold needs at hne;omega
 have hm0:=List.getElem_mem hi0
 have hok0:=okL_get hok _ hm0
 have hx0:oIndexAddr Tryd.prog 61 (rowX kids) (.v (.int .i64 0))=some (.ep (exA kids[0]).cells):=rowX_idxR kids 0 hi0
 have hkd:kindT (txL kids) 0=kids[0].kind:=by
  unfold kindT
  rw[txL_get,List.getElem?_eq_getElem hi0];rfl
 have hrw:rawT (txL kids) 0=txt kids[0]:=by
  unfold rawT
  rw[txL_get,List.getElem?_eq_getElem hi0];rfl
 rw[hkd,hrw,kidT_at kids 0 8 hi0]at fin
 have hagg:∃c1 c2 c3 c4 c5,exA kids[0]=.agg [i64A kids[0].kind,c1,c2,c3,c4,c5]:=by
  cases kids[0]with
  |mk k1 a1 n1 nm1 off1 kids1=>exact⟨_,_,_,_,_,exA_mk ..⟩
 obtain⟨c1,c2,c3,c4,c5,hagg⟩:=hagg
 have hcl:(exA kids[0]).cells=[i64A kids[0].kind,c1,c2,c3,c4,c5]:=by rw[hagg];rfl
 rw[hcl]at hx0
 have hks:=hkl 0 8
 rw[kidT_at kids 0 8 hi0]at hks
 have hkn:=kidF_ne hok0 8
 have htl:=txt_len _ _ hok0
 have hcall0:=fun(S:St) (Q:R→Prop) h=>call47 (S:=S) (Q:=Q) (least:=8) (H _ hm0) hok0 hd' h
 have hcall1:=fun(S:St) (Q:R→Prop) h=>call27 (S:=S) (Q:=Q) (H _ hm0) hok0 hd' h
 rw[hagg]at hcall0 hcall1
 generalize txt kids[0]=raw at *
 generalize kidF kids[0] 8=s at *
 have hpos:0<s.length:=List.length_pos_iff.2 hkn
 have hix:fastIndex Tryd.prog 9 (.v (.string ⟨⟨s⟩⟩)) (.v (.int .i64 0))=some (.v (.int .u8 (s[0].toNat:Int))):=idx9 s 0 hpos
 have hhd:s.head? = some s[0]:=by
  cases s with
  |nil=>exact absurd rfl hkn
  |cons x r=>rfl
 have h45:(((s[0].toNat:Nat):Int) == 45)=decide (s.head? = some 45):=by
  rw[hhd,Bool.eq_iff_iff]
  simp only[beq_iff_eq,decide_eq_true_eq,Option.some.injEq]
  exact⟨fun h=>UInt8.toNat_inj.1 (by have:(45:UInt8).toNat=45:=rfl;omega),fun h=>by rw[h];rfl⟩
 have hc1:=fb_catS [45,40] raw (by first |omega | (simp only[List.length_cons,List.length_nil];omega))
 have hc2:=fb_catS ([45,40] ++ raw) [41] (by first |omega | (simp only[List.length_append,List.length_cons,List.length_nil];omega))
 have hc3:=fb_catS [45] s (by first |omega | (simp only[List.length_cons,List.length_nil];omega))
 rw[he]at fin ⊢
 refine bodyZ Tryd.f27 (by kernel_rfl) (by kernel_rfl) (show(_:Nat)≤_ from by show(_:Nat)≤_;simp[Tryd.f27]) ?_
 obtain⟨fn1,hf1⟩:=fnz_47
 obtain⟨fn2,hf2⟩:=fnz_27
 generalize rowX kids=row at *
 generalize hy1:([45,40] ++ raw) ++ [41]=y1 at *
 generalize hy0:[45,40] ++ raw=y0 at *
 generalize hy2:[45] ++ s=y2 at *
 generalize hz:(s[0].toNat:Int)=z at *
 simp only[strS,i64A]at *
 simp(maxSteps:=2000000) (disch:=omega)only[W_skip,W_region,W_drawn,W_seq,W_cond,W_block,W_ret,seqQ_normal2,seqQ_ret2,blockW_normal2,blockW_ret2,WL_nil2,WL_cons,execL_val2,execL_enter2,putL_some2,condW_t2,condW_f2,wantedA,exec1,evalO,initT,T.get_set,T.get_leaf,callA,mapO,ofOpt,ofConst,neNil3,finW_ret,giveW,resultsA,tupA,fb_eqlI,neNil9,reduceLT,reduceAdd,reduceEqDiff,if_true,if_false,true_and,Option.getD_some,List.getElem?_cons_succ,List.getElem?_cons_zero,List.nil_append,List.append_nil,beq_self_eq_true,Bool.false_eq_true,nb_get,st0_get,st0_next,cl1_box,clN_box,List.length_cons,List.length_nil,Nat.zero_add,Nat.add_zero,reduceLeDiff,List.drop_zero,List.take_succ_cons,List.take_zero,noTup_agg,cells_agg,ez_P,ez_G,ez_F,neNil2,neNil3,neNil9,yl2,yl3,yl4,yl9,clN_box,cells_agg,initT,Int.reduceBEq,List.getElem?_cons_succ,yfY_0,yfY_2,yfY_3,yfY_4,yfY_5,ylY,yl61,yleY,Tryd.f27,hf1,hx0,hlr]
 refine hcall0 _ _ ?_
 by_cases hk1:kids[0].kind=1
 ·have hb1:(kids[0].kind == 1)=true:=by rw[hk1];rfl
  rw[if_pos (.inl hk1)]at fin
  simp(maxSteps:=2000000) (disch:=omega)only[W_skip,W_region,W_seq,W_cond,W_ret,seqQ_normal2,seqQ_ret2,blockW_ret2,WL_nil2,WL_cons,execL_no,execL_val2,execL_enter2,putL_some2,retL_ret2,condW_t2,wantedA,exec1,evalO,T.get_set,T.get_leaf,callA,mapO,ofOpt,ofConst,neNil3,finW_ret,giveW,resultsA,tupA,fb_eqlI,neNil9,reduceLT,reduceAdd,reduceEqDiff,if_true,if_false,true_and,List.getElem?_toArray,List.getElem?_cons_succ,List.getElem?_cons_zero,Option.bind_some,List.nil_append,List.append_nil,Bool.false_eq_true,Bool.true_beq,nb_get,st0_get,st0_next,cl1_box,List.length_cons,List.length_nil,Nat.zero_add,reduceLeDiff,List.take_succ_cons,List.take_zero,ez_P,ez_G,neNil3,neNil9,List.getElem?_cons_succ,yfY_5,yl61,yleY,yle3,hf2,hx0,hb1,hc3,yfep63_0,neNil5]
  refine hcall1 _ _ ?_
  simp(maxSteps:=2000000) (disch:=omega)only[W_ret,seqQ_normal2,seqQ_ret2,blockW_ret2,WL_nil2,WL_cons,execL_val2,putL_some2,retL_ret2,wantedA,exec1,evalO,T.get_set,T.get_leaf,ofOpt,ofConst,finW_ret,giveW,resultsA,tupA,neNil9,reduceLT,reduceEqDiff,if_true,if_false,true_and,Bool.false_eq_true,ez_P,neNil9,hc1,hc2]
  exact fin _ _ rfl
 ·have hb1:(kids[0].kind == 1)=false:=by simp[hk1]
  by_cases hh:s.head? = some 45
  ·have hb2:(z == 45)=true:=by rw[h45];exact decide_eq_true hh
   rw[if_pos (.inr hh)]at fin
   simp(maxSteps:=2000000) (disch:=omega)only[W_skip,W_region,W_seq,W_cond,W_ret,seqQ_normal2,seqQ_ret2,blockW_ret2,WL_nil2,WL_cons,execL_val2,execL_enter2,putL_some2,retL_ret2,condW_t2,wantedA,exec1,evalO,T.get_set,T.get_leaf,callA,mapO,ofOpt,ofConst,neNil3,finW_ret,giveW,resultsA,tupA,fb_eqlI,neNil9,reduceLT,reduceAdd,reduceEqDiff,if_true,if_false,true_and,List.getElem?_toArray,List.getElem?_cons_succ,List.getElem?_cons_zero,Option.bind_some,List.nil_append,List.append_nil,beq_self_eq_true,Bool.false_eq_true,nb_get,st0_get,st0_next,cl1_box,List.length_cons,List.length_nil,Nat.zero_add,reduceLeDiff,List.take_succ_cons,List.take_zero,ez_P,neNil3,neNil9,List.getElem?_cons_succ,yfY_5,yl61,yleY,yle3,hf2,hx0,hb1,hb2,hix,hc3,yfep63_0,neNil5]
   refine hcall1 _ _ ?_
   simp(maxSteps:=2000000) (disch:=omega)only[W_ret,seqQ_normal2,seqQ_ret2,blockW_ret2,WL_nil2,WL_cons,execL_val2,putL_some2,retL_ret2,wantedA,exec1,evalO,T.get_set,T.get_leaf,ofOpt,ofConst,finW_ret,giveW,resultsA,tupA,neNil9,reduceLT,reduceEqDiff,if_true,if_false,true_and,Bool.false_eq_true,ez_P,neNil9,hc1,hc2]
   exact fin _ _ rfl
  ·have hb2:(z == 45)=false:=by rw[h45];exact decide_eq_false hh
   rw[if_neg (by rintro(h |h) <;> contradiction)]at fin
   simp(maxSteps:=2000000) (disch:=omega)only[W_skip,W_region,W_seq,W_cond,W_ret,seqQ_normal2,seqQ_ret2,blockW_ret2,WL_nil2,WL_cons,execL_val2,execL_enter2,putL_some2,retL_ret2,condW_f2,wantedA,exec1,evalO,T.get_set,T.get_leaf,callA,mapO,ofOpt,ofConst,neNil3,finW_ret,giveW,resultsA,tupA,fb_eqlI,neNil9,reduceLT,reduceAdd,reduceEqDiff,if_true,if_false,true_and,List.getElem?_toArray,List.getElem?_cons_succ,List.getElem?_cons_zero,Option.bind_some,List.nil_append,List.append_nil,beq_self_eq_true,Bool.false_eq_true,nb_get,st0_get,st0_next,cl1_box,List.length_cons,List.length_nil,Nat.zero_add,reduceLeDiff,List.take_succ_cons,List.take_zero,ez_P,neNil3,neNil9,List.getElem?_cons_succ,yfY_5,yl61,yleY,yle3,hf2,hx0,hb1,hb2,hix,hc3,yfep63_0,neNil5]
   exact fin _ _ rfl
end Go.Ax
noncomputable section
namespace Go.Ax
open Go.RowKit Go.Proofs
set_option maxRecDepth 100000
theorem rtext_step(e:PX)(d:Nat)(ho:okX d e)(hd:d≤4)(H:∀x∈e.kids,KnZ 27 [exA x]):KnZ 27 [exA e]:=by
 rcases kind_cases (okX_kind ho)with h |h |h |h |h |h |h |h |h |h |h |h |h |h
 ·exact r1_k e d ho hd h H
 ·exact r2_k e d ho hd h H
 ·exact r3_k e d ho hd h H
 ·exact r4_k e d ho hd h H
 ·exact r5_k e d ho hd h H
 ·exact r6_k e d ho hd h H
 ·exact r7_k e d ho hd h H
 ·exact r8_k e d ho hd h H
 ·exact r9_k e d ho hd h H
 ·exact r10_k e d ho hd h H
 ·exact r11_k e d ho hd h H
 ·exact r12_k e d ho hd h H
 ·exact r13_k e d ho hd h H
 ·exact r14_k e d ho hd h H
theorem rtext_k:∀(d:Nat) (e:PX),okX d e→d≤4→KnZ 27 [exA e]
 |0,e,h,_=>absurd h (by cases e;simp[okX])
 |d+1,e,h,hd=>rtext_step e (d+1) h hd fun x hx=>rtext_k d x (okL_get (okX_kids h) x hx) (by omega)
theorem rtext_u{e:PX}{d:Nat}{S:St}{Q:R→Prop}(ho:okX d e)(hd:d≤4)(h:Q (.ret (strS (txt e)) S)):WC EZ 27 [exA e] S Q:=call27 (rtext_k d e ho hd) ho hd h
end Go.Ax
noncomputable section
open Nat (reduceLT reduceAdd reduceEqDiff reduceLeDiff)
namespace Go.Ax
open Go.RowKit Go.Proofs
set_option maxRecDepth 100000
def eqLF(q:EqX):List UInt8:=([32,32] ++ eqF q.left q.async q.e) ++ [59,10]
def sE(A:List UInt8)(l:List EqX)(i:Nat):List UInt8:=A ++ ((l.take i).map eqLF).flatten
theorem sE_step(A:List UInt8)(l:List EqX)(i:Nat)(h:i<l.length):sE A l (i+1)=sE A l i ++ eqLF l[i]:=by
 unfold sE
 rw[List.take_succ_eq_append_getElem h,List.map_append,List.flatten_append,List.append_assoc]
 simp
theorem eqF_len{q:EqX}(h:okQ q):(eqLF q).length≤401000:=by
 have h1:=leftF_len h.2.1 (by have:=h.1;omega)
 have h2:=txt_len _ _ h.2.2
 have h3:LB 4≤400000:=LB_le (Nat.le_refl _)
 unfold eqLF eqF
 split <;> simp only[List.length_append,List.length_cons,List.length_nil] <;> omega
theorem flat_len'{α:Type}(f:α→List UInt8)(c:Nat):∀l:List α,(∀x∈l,(f x).length≤c)→((l.map f).flatten).length≤l.length*c
 | [],_=>by simp
 |x :: r,h=>by
  have h1:=h x (List.mem_cons_self ..)
  have h2:=flat_len' f c r fun y hy=>h y (List.mem_cons_of_mem _ hy)
  rw[List.map_cons,List.flatten_cons,List.length_append,List.length_cons,Nat.add_mul];omega
theorem sE_len{A:List UInt8}{l:List EqX}(hA:A.length≤100000000)(hl:l.length≤5)(hok:∀q∈l,okQ q)(i:Nat):(sE A l i).length≤110000000:=by
 have h:=flat_len' eqLF 401000 (l.take i) fun q hq=>eqF_len (hok q (List.mem_of_mem_take hq))
 have h2:(l.take i).length≤5:=by rw[List.length_take];omega
 have h3:(l.take i).length*401000≤5*401000:=Nat.mul_le_mul_right _ h2
 unfold sE
 rw[List.length_append];omega
theorem sE_all(A:List UInt8)(l:List EqX):sE A l l.length=A ++ (l.map eqLF).flatten:=by unfold sE;rw[List.take_length]
def K3(t t':T AV):Prop:=t'.get 11=t.get 11∧t'.get 12=t.get 12∧t'.get 13=t.get 13
theorem K3.trans{a b c:T AV}(h:K3 a b)(h2:K3 b c):K3 a c:=⟨h2.1.trans h.1,h2.2.1.trans h.2.1,h2.2.2.trans h.2.2⟩
theorem eqs_len{l:List EqX}(S:St):oLen Tryd.prog S 25 (eqRow l)=some l.length:=by
 cases l with
 |nil=>exact ynnFr S
 |cons x r=>exact(ynFr S 0 0 _).trans (by rw[List.length_map])
theorem eqs_idx{l:List EqX}(i:Nat)(h:i<l.length):oIndexAddr Tryd.prog 25 (eqRow l) (.v (.int .i64 (i:Int)))=some (.ep (eqX l[i]).cells):=by
 cases l with
 |nil=>exact absurd h (Nat.not_lt_zero _)
 |cons x r =>
  have:=yxFr 0 0 ((x :: r).map eqX) i (by rw[List.length_map];exact h)
  rw[List.getElem_map]at this
  exact this
theorem re_lp{A:List UInt8}{l:List EqX}(hA:A.length≤100000000)(hl:l.length≤5)(hok:∀q∈l,okQ q):∀(n i:Nat) (t:T AV) (S:St),i+n=l.length→t.get 3=some (.v (.string ⟨⟨sE A l i⟩⟩))→t.get 47=some (eqRow l)→t.get 48=some (.v (.int .i64 ((l.length:Nat):Int)))→t.get 49=some (.v (.int .i64 ((i:Nat):Int))) →
  WX EZ 97 (.loop rqL) ⟨t,[]⟩ S (fun r=>∃t' S',r=.out (.exit 2) ⟨t',[]⟩ S'∧K3 t t'∧t'.get 3=some (.v (.string ⟨⟨A ++ (l.map eqLF).flatten⟩⟩))∧Kp S S')
 |0,i,t,S,hj,T3,T47,T48,T49=>by
  refine WX_loop (W_sound ?_)
  have hlt:decide ((i:Int)<(l.length:Int))=false:=by rw[decide_eq_false_iff_not];omega
  have hil:i=l.length:=by omega
  rw[hil,sE_all]at T3
  simp(maxSteps:=2000000) (disch:=omega)only[thenW_exit,W_skip,W_region,W_seq,W_cond,W_block,W_exit,seqQ_normal2,seqQ_exit2,WL_nil2,WL_cons,execL_val2,putL_some2,condW_f2,wantedA,exec1,evalO,T.get_set,ofOpt,neNil3,fb_lss,reduceLT,reduceEqDiff,if_true,if_false,true_and,Bool.false_eq_true,ez_P,neNil3,rqL,rpL,Tryd.f12,T47,T48,T49,hlt]
  exact⟨_,_,rfl,⟨by simp only[T.get_set,reduceEqDiff,if_false],by simp only[T.get_set,reduceEqDiff,if_false],by simp only[T.get_set,reduceEqDiff,if_false]⟩,by simp only[T.get_set,reduceEqDiff,if_false,T3],Kp.refl S⟩
 |n+1,i,t,S,hj,T3,T47,T48,T49=>by
  refine WX_loop (W_sound ?_)
  have key:∀Q,W EZ 97 (.seq rs10 (.seq rsC (.seq (.block 3 (.seq rs11 (.seq rs12 (.seq (.seq rs13 (.block 4 (.loop rsL))) (.seq rs20 (.seq rs22 (.seq rs23 rs25))))))) rs26))) ⟨t,[]⟩ S Q→W EZ 97 rqL ⟨t,[]⟩ S Q:=fun Q h=>by rw[rs_is];exact h
  refine key _ ?_
  clear key
  have hil:i<l.length:=by omega
  have hlt:decide ((i:Int)<(l.length:Int))=true:=by rw[decide_eq_true_eq];omega
  have hws:=wrapS i (by omega)
  have hq:=hok _ (List.getElem_mem hil)
  have hx:=eqs_idx i hil
  have hst:=sE_step A l i hil
  have hsl:=sE_len hA hl hok i
  have hsl1:=sE_len hA hl hok (i+1)
  obtain⟨q,hqe⟩:∃q,q=l[i]:=⟨_,rfl⟩
  rw[← hqe]at hq hx hst
  obtain⟨c0,c1,c2,c3,c4,c5,hagg,hcl⟩:=eqX_agg q
  rw[hcl]at hx
  obtain⟨hl3,hlo,hoe⟩:=hq
  have hln:∀S,oLen Tryd.prog S 60 (.sl 0 0 2 (q.left.map lfA))=some q.left.length:=fun S=>by rw[ynGr,List.length_map]
  have htx:=txt_len _ _ hoe
  have h400:LB 4≤400000:=LB_le (Nat.le_refl _)
  have hlf:=leftF_len hlo (by omega)
  have hjl:=lefts_len hlo (by omega)
  obtain⟨fn1,hf1⟩:∃fn,EZ.F 27=some fn:=fnz_27
  have fin:=fun(t1:T AV) (S1:St) (h3:t1.get 3=some (.v (.string ⟨⟨sE A l (i+1)⟩⟩))) (h47:t1.get 47=some (eqRow l)) (h48:t1.get 48=some (.v (.int .i64 ((l.length:Nat):Int)))) (h49:t1.get 49=some (.v (.int .i64 ((i+1:Nat):Int)))) (hK:K3 t t1) (hk:Kp S S1)=>WX.mono (re_lp hA hl hok n (i+1) t1 S1 (by omega) h3 h47 h48 h49) (Q':=fun r=>∃t' S',r=.out (.exit 2) ⟨t',[]⟩ S'∧K3 t t'∧t'.get 3=some (.v (.string ⟨⟨A ++ (l.map eqLF).flatten⟩⟩))∧Kp S S') (fun r ⟨t',S',h1,h2,h3,h4⟩=>⟨t',S',h1,hK.trans h2,h3,hk.trans h4⟩)
  clear hqe hcl
  simp(maxSteps:=2000000) (disch:=omega)only[thenW_exit,W_skip,W_region,W_seq,W_cond,W_block,W_loop,W_exit,seqQ_normal2,seqQ_exit2,WL_nil2,WL_cons,execL_val2,execL_skip2,putL_none2,putL_some2,condW_t2,wantedA,exec1,evalO,T.get_set,callA,ofOpt,ofOptS,ofConst,neNil3,fb_lss,reduceLT,reduceAdd,reduceEqDiff,if_true,if_false,true_and,List.getElem?_cons_zero,List.nil_append,List.append_nil,Bool.false_eq_true,to_get,nb_get,cl1_box,vstB_agg,List.length_cons,List.length_nil,Nat.zero_add,Nat.add_zero,reduceLeDiff,List.drop_succ_cons,List.drop_nil,List.take_succ_cons,List.take_zero,and_self,ez_P,neNil3,yleAr,ysAr,yaAr,yfAr_0,yl60,to_get,nb_get,rs10,rsC,rs11,rs12,rs13,rqL,rpL,Tryd.f12,T47,T48,T49,hlt,hx,hln]
  refine WX.mono (rl_lp hlo hl3.2 q.left.length 0 _ _ (by omega) ?_ ?_ ?_ ?_) ?_
  ·simp only[T.get_set,reduceEqDiff,if_true,if_false];rfl
  ·simp only[T.get_set,reduceEqDiff,if_true,if_false]
  ·simp only[T.get_set,reduceEqDiff,if_true,if_false]
  ·simp only[T.get_set,reduceEqDiff,if_true,if_false];rfl
  rintro _ ⟨t1,S1,rfl,⟨k3,k7,k11,k12,k13,k47,k48,k49⟩,T8,hk1⟩
  simp only[T.get_set,reduceEqDiff,if_true,if_false,T3,T47,T48,T49]at k3 k7 k11 k12 k13 k47 k48 k49
  have m7:S1.mem.get S.next=some (.box [.sl 0 0 2 (q.left.map lfA),.v (.bool q.async),c0,c1,c2,c3,c4,c5]):=by
   rw[hk1.2 S.next (by rw[to_next,nb_next];omega),to_get,if_pos rfl]
  have hkp:Kp S S1:=(Kp.box S _ _).trans hk1
  have hn1:=hkp.1
  have hfin:∀ax:List UInt8,(if q.async then ax=[97,115,121,110,99,32]else ax=[])→((sE A l i ++ (([32,32] ++ leftF q.left) ++ [32,61,32])) ++ ax) ++ (txt q.e ++ [59,10])=sE A l (i+1):=fun ax has=>by
   rw[hst]
   unfold eqLF eqF
   cases ha:q.async with
   |true =>
    rw[ha]at has
    have has:ax=_:=has
    subst has
    simp only[if_true,List.append_assoc,List.cons_append,List.nil_append]
   |false =>
    rw[ha]at has
    have has:ax=_:=has
    subst has
    simp only[Bool.false_eq_true,if_false,List.append_assoc,List.cons_append,List.nil_append]
  have e2:=fb_catS [32,32] (leftF q.left) (by simp only[List.length_cons,List.length_nil];omega)
  have e3:=fb_catS ([32,32] ++ leftF q.left) [32,61,32] (by simp only[List.length_append,List.length_cons,List.length_nil];omega)
  have e4:=fb_catS (sE A l i) (([32,32] ++ leftF q.left) ++ [32,61,32]) (by simp only[List.length_append,List.length_cons,List.length_nil];omega)
  have e5:=fb_catS (sE A l i ++ (([32,32] ++ leftF q.left) ++ [32,61,32])) [97,115,121,110,99,32] (by simp only[List.length_append,List.length_cons,List.length_nil];omega)
  have e6:=fb_catS (txt q.e) [59,10] (by simp only[List.length_cons,List.length_nil];omega)
  have e7:=fb_catS ((sE A l i ++ (([32,32] ++ leftF q.left) ++ [32,61,32])) ++ [97,115,121,110,99,32]) (txt q.e ++ [59,10]) (by simp only[List.length_append,List.length_cons,List.length_nil];omega)
  have e8:=fb_catS (sE A l i ++ (([32,32] ++ leftF q.left) ++ [32,61,32])) (txt q.e ++ [59,10]) (by simp only[List.length_append,List.length_cons,List.length_nil];omega)
  have hjn:Lib.join (q.left.map fun x=>x.1) [44,32]=joinK q.left q.left.length:=(joinK_all _).symm
  have hlF:leftF q.left=if 1<q.left.length then([40] ++ Lib.join (q.left.map fun x=>x.1) [44,32]) ++ [41]else Lib.join (q.left.map fun x=>x.1) [44,32]:=rfl
  have e0:=fb_catS [40] (Lib.join (q.left.map fun x=>x.1) [44,32]) (by simp only[List.length_cons,List.length_nil];omega)
  have e1:=fb_catS ([40] ++ Lib.join (q.left.map fun x=>x.1) [44,32]) [41] (by simp only[List.length_append,List.length_cons,List.length_nil];omega)
  have htext:=fun(S:St) (Q:R→Prop) h=>rtext_u (S:=S) (Q:=Q) hoe (Nat.le_refl _) h
  rw[hagg]at htext
  simp only[strS]at htext
  clear hst hsl hsl1 htx hlf hjl h400 hjn hk1
  by_cases h1l:1<q.left.length
  ·have hgt:decide (((q.left.length:Nat):Int) > 1)=true:=by rw[decide_eq_true_eq];omega
   rw[if_pos h1l]at hlF
   rw[← hlF]at e1
   cases ha:q.async with
   |true =>
    have hf:=hfin [97,115,121,110,99,32] (by rw[ha];rfl)
    rw[hf]at e7
    rw[ha]at m7
    clear hf hfin e8 hlF
    generalize sE A l (i+1)=y9 at *
    generalize (sE A l i ++ (([32,32] ++ leftF q.left) ++ [32,61,32])) ++ [97,115,121,110,99,32]=y8 at *
    generalize sE A l i ++ (([32,32] ++ leftF q.left) ++ [32,61,32])=y7 at *
    generalize sE A l i=y6 at *
    generalize ([32,32] ++ leftF q.left) ++ [32,61,32]=y5 at *
    generalize [32,32] ++ leftF q.left=y4 at *
    generalize leftF q.left=y3 at *
    generalize txt q.e ++ [59,10]=y2 at *
    generalize txt q.e=y1 at *
    generalize q.left.map lfA=lw at *
    generalize [40] ++ Lib.join (q.left.map fun x=>x.1) [44,32]=x2 at *
    generalize Lib.join (q.left.map fun x=>x.1) [44,32]=x1 at *
    simp(maxSteps:=2000000) (disch:=omega)only[thenW_normal,thenW_exit,W_skip,W_region,W_seq,W_cond,seqQ_normal2,seqQ_exit2,blockW_exit2,WL_nil2,WL_cons,execL_val2,execL_enter2,putL_some2,condW_t2,wantedA,exec1,evalO,T.get_set,callA,mapO,ofOpt,ofConst,neNil3,fb_gtr,fb_add,neNil9,reduceLT,reduceAdd,reduceEqDiff,if_true,if_false,true_and,List.getElem?_cons_succ,List.getElem?_cons_zero,List.nil_append,List.append_nil,Bool.false_eq_true,cl1_box,clN_box,List.length_cons,List.length_nil,Nat.zero_add,Nat.add_zero,reduceLeDiff,List.drop_zero,List.drop_succ_cons,List.take_succ_cons,List.take_zero,ez_P,ez_G,neNil3,neNil9,yl4,clN_box,List.getElem?_cons_succ,yfAr_0,yfAr_1,yfAr_2,ylY,yl60,rs20,rs22,rs23,rs25,rs26,rqL,rpL,Tryd.f12,T8,k3,k7,k49,m7,hln,hgt,hf1,hws,e0,e1,e2,e3,e4,e5]
    refine htext _ _ ?_
    simp(maxSteps:=2000000) (disch:=omega)only[thenW_normal,W_region,seqQ_normal2,blockW_normal2,WL_nil2,WL_cons,execL_val2,putL_some2,retL_ret2,wantedA,exec1,evalO,T.get_set,ofOpt,ofConst,neNil3,fb_add,neNil9,reduceLT,reduceEqDiff,if_true,if_false,true_and,Bool.false_eq_true,ez_P,neNil3,neNil9,k49,hws,e6,e7]
    refine fin _ _ ?_ ?_ ?_ ?_ ⟨?_,?_,?_⟩ hkp
    ·simp only[T.get_set,reduceEqDiff,if_true,if_false]
    ·simp only[T.get_set,reduceEqDiff,if_false,k47]
    ·simp only[T.get_set,reduceEqDiff,if_false,k48]
    ·simp only[T.get_set,reduceEqDiff,if_true,if_false]
    ·simp only[T.get_set,reduceEqDiff,if_false,k11]
    ·simp only[T.get_set,reduceEqDiff,if_false,k12]
    ·simp only[T.get_set,reduceEqDiff,if_false,k13]
   |false =>
    have hf:=hfin [] (by rw[ha];rfl)
    rw[List.append_nil]at hf
    rw[hf]at e8
    rw[ha]at m7
    clear hf hfin e5 e7 hlF
    generalize sE A l (i+1)=y9 at *
    generalize (sE A l i ++ (([32,32] ++ leftF q.left) ++ [32,61,32])) ++ [97,115,121,110,99,32]=y8 at *
    generalize sE A l i ++ (([32,32] ++ leftF q.left) ++ [32,61,32])=y7 at *
    generalize sE A l i=y6 at *
    generalize ([32,32] ++ leftF q.left) ++ [32,61,32]=y5 at *
    generalize [32,32] ++ leftF q.left=y4 at *
    generalize leftF q.left=y3 at *
    generalize txt q.e ++ [59,10]=y2 at *
    generalize txt q.e=y1 at *
    generalize q.left.map lfA=lw at *
    generalize [40] ++ Lib.join (q.left.map fun x=>x.1) [44,32]=x2 at *
    generalize Lib.join (q.left.map fun x=>x.1) [44,32]=x1 at *
    simp(maxSteps:=2000000) (disch:=omega)only[thenW_normal,thenW_exit,W_skip,W_region,W_seq,W_cond,seqQ_normal2,seqQ_exit2,blockW_exit2,WL_nil2,WL_cons,execL_val2,execL_enter2,putL_some2,condW_t2,condW_f2,wantedA,exec1,evalO,T.get_set,callA,mapO,ofOpt,ofConst,neNil3,fb_gtr,fb_add,neNil9,reduceLT,reduceAdd,reduceEqDiff,if_true,if_false,true_and,List.getElem?_cons_succ,List.getElem?_cons_zero,List.nil_append,List.append_nil,Bool.false_eq_true,cl1_box,clN_box,List.length_cons,List.length_nil,Nat.zero_add,Nat.add_zero,reduceLeDiff,List.drop_zero,List.drop_succ_cons,List.take_succ_cons,List.take_zero,ez_P,ez_G,neNil3,neNil9,yl4,clN_box,List.getElem?_cons_succ,yfAr_0,yfAr_1,yfAr_2,ylY,yl60,rs20,rs22,rs23,rs25,rs26,rqL,rpL,Tryd.f12,T8,k3,k7,k49,m7,hln,hgt,hf1,hws,e0,e1,e2,e3,e4]
    refine htext _ _ ?_
    simp(maxSteps:=2000000) (disch:=omega)only[thenW_normal,W_region,seqQ_normal2,blockW_normal2,WL_nil2,WL_cons,execL_val2,putL_some2,retL_ret2,wantedA,exec1,evalO,T.get_set,ofOpt,ofConst,neNil3,fb_add,neNil9,reduceLT,reduceEqDiff,if_true,if_false,true_and,Bool.false_eq_true,ez_P,neNil3,neNil9,k49,hws,e6,e8]
    refine fin _ _ ?_ ?_ ?_ ?_ ⟨?_,?_,?_⟩ hkp
    ·simp only[T.get_set,reduceEqDiff,if_true,if_false]
    ·simp only[T.get_set,reduceEqDiff,if_false,k47]
    ·simp only[T.get_set,reduceEqDiff,if_false,k48]
    ·simp only[T.get_set,reduceEqDiff,if_true,if_false]
    ·simp only[T.get_set,reduceEqDiff,if_false,k11]
    ·simp only[T.get_set,reduceEqDiff,if_false,k12]
    ·simp only[T.get_set,reduceEqDiff,if_false,k13]
  ·have hgt:decide (((q.left.length:Nat):Int) > 1)=false:=by rw[decide_eq_false_iff_not];omega
   rw[if_neg h1l]at hlF
   rw[← hlF]at T8
   clear e0 e1
   cases ha:q.async with
   |true =>
    have hf:=hfin [97,115,121,110,99,32] (by rw[ha];rfl)
    rw[hf]at e7
    rw[ha]at m7
    clear hf hfin e8 hlF
    generalize sE A l (i+1)=y9 at *
    generalize (sE A l i ++ (([32,32] ++ leftF q.left) ++ [32,61,32])) ++ [97,115,121,110,99,32]=y8 at *
    generalize sE A l i ++ (([32,32] ++ leftF q.left) ++ [32,61,32])=y7 at *
    generalize sE A l i=y6 at *
    generalize ([32,32] ++ leftF q.left) ++ [32,61,32]=y5 at *
    generalize [32,32] ++ leftF q.left=y4 at *
    generalize leftF q.left=y3 at *
    generalize txt q.e ++ [59,10]=y2 at *
    generalize txt q.e=y1 at *
    generalize q.left.map lfA=lw at *
    simp(maxSteps:=2000000) (disch:=omega)only[thenW_normal,thenW_exit,W_skip,W_region,W_seq,W_cond,seqQ_normal2,seqQ_exit2,blockW_exit2,WL_nil2,WL_cons,execL_val2,execL_enter2,putL_some2,condW_t2,condW_f2,wantedA,exec1,evalO,T.get_set,callA,mapO,ofOpt,ofConst,neNil3,fb_gtr,fb_add,neNil9,reduceLT,reduceAdd,reduceEqDiff,if_true,if_false,true_and,List.getElem?_cons_succ,List.getElem?_cons_zero,List.nil_append,List.append_nil,Bool.false_eq_true,cl1_box,clN_box,List.length_cons,List.length_nil,Nat.zero_add,Nat.add_zero,reduceLeDiff,List.drop_zero,List.drop_succ_cons,List.take_succ_cons,List.take_zero,ez_P,ez_G,neNil3,neNil9,yl4,clN_box,List.getElem?_cons_succ,yfAr_0,yfAr_1,yfAr_2,ylY,yl60,rs20,rs22,rs23,rs25,rs26,rqL,rpL,Tryd.f12,T8,k3,k7,k49,m7,hln,hgt,hf1,hws,e2,e3,e4,e5]
    refine htext _ _ ?_
    simp(maxSteps:=2000000) (disch:=omega)only[thenW_normal,W_region,seqQ_normal2,blockW_normal2,WL_nil2,WL_cons,execL_val2,putL_some2,retL_ret2,wantedA,exec1,evalO,T.get_set,ofOpt,ofConst,neNil3,fb_add,neNil9,reduceLT,reduceEqDiff,if_true,if_false,true_and,Bool.false_eq_true,ez_P,neNil3,neNil9,k49,hws,e6,e7]
    refine fin _ _ ?_ ?_ ?_ ?_ ⟨?_,?_,?_⟩ hkp
    ·simp only[T.get_set,reduceEqDiff,if_true,if_false]
    ·simp only[T.get_set,reduceEqDiff,if_false,k47]
    ·simp only[T.get_set,reduceEqDiff,if_false,k48]
    ·simp only[T.get_set,reduceEqDiff,if_true,if_false]
    ·simp only[T.get_set,reduceEqDiff,if_false,k11]
    ·simp only[T.get_set,reduceEqDiff,if_false,k12]
    ·simp only[T.get_set,reduceEqDiff,if_false,k13]
   |false =>
    have hf:=hfin [] (by rw[ha];rfl)
    rw[List.append_nil]at hf
    rw[hf]at e8
    rw[ha]at m7
    clear hf hfin e5 e7 hlF
    generalize sE A l (i+1)=y9 at *
    generalize (sE A l i ++ (([32,32] ++ leftF q.left) ++ [32,61,32])) ++ [97,115,121,110,99,32]=y8 at *
    generalize sE A l i ++ (([32,32] ++ leftF q.left) ++ [32,61,32])=y7 at *
    generalize sE A l i=y6 at *
    generalize ([32,32] ++ leftF q.left) ++ [32,61,32]=y5 at *
    generalize [32,32] ++ leftF q.left=y4 at *
    generalize leftF q.left=y3 at *
    generalize txt q.e ++ [59,10]=y2 at *
    generalize txt q.e=y1 at *
    generalize q.left.map lfA=lw at *
    simp(maxSteps:=2000000) (disch:=omega)only[thenW_normal,thenW_exit,W_skip,W_region,W_seq,W_cond,seqQ_normal2,seqQ_exit2,blockW_exit2,WL_nil2,WL_cons,execL_val2,execL_enter2,putL_some2,condW_f2,wantedA,exec1,evalO,T.get_set,callA,mapO,ofOpt,ofConst,neNil3,fb_gtr,fb_add,neNil9,reduceLT,reduceAdd,reduceEqDiff,if_true,if_false,true_and,List.getElem?_cons_succ,List.getElem?_cons_zero,List.nil_append,List.append_nil,Bool.false_eq_true,cl1_box,clN_box,List.length_cons,List.length_nil,Nat.zero_add,Nat.add_zero,reduceLeDiff,List.drop_zero,List.drop_succ_cons,List.take_succ_cons,List.take_zero,ez_P,ez_G,neNil3,neNil9,yl4,clN_box,List.getElem?_cons_succ,yfAr_0,yfAr_1,yfAr_2,ylY,yl60,rs20,rs22,rs23,rs25,rs26,rqL,rpL,Tryd.f12,T8,k3,k7,k49,m7,hln,hgt,hf1,hws,e2,e3,e4]
    refine htext _ _ ?_
    simp(maxSteps:=2000000) (disch:=omega)only[thenW_normal,W_region,seqQ_normal2,blockW_normal2,WL_nil2,WL_cons,execL_val2,putL_some2,retL_ret2,wantedA,exec1,evalO,T.get_set,ofOpt,ofConst,neNil3,fb_add,neNil9,reduceLT,reduceEqDiff,if_true,if_false,true_and,Bool.false_eq_true,ez_P,neNil3,neNil9,k49,hws,e6,e8]
    refine fin _ _ ?_ ?_ ?_ ?_ ⟨?_,?_,?_⟩ hkp
    ·simp only[T.get_set,reduceEqDiff,if_true,if_false]
    ·simp only[T.get_set,reduceEqDiff,if_false,k47]
    ·simp only[T.get_set,reduceEqDiff,if_false,k48]
    ·simp only[T.get_set,reduceEqDiff,if_true,if_false]
    ·simp only[T.get_set,reduceEqDiff,if_false,k11]
    ·simp only[T.get_set,reduceEqDiff,if_false,k12]
    ·simp only[T.get_set,reduceEqDiff,if_false,k13]
end Go.Ax
