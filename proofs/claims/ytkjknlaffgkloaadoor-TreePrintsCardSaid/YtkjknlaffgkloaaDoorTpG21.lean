/- TtQ -/
import Derived.Test.YtkjknlaffgkloaaDoorTpG13
import Derived.Test.YtkjknlaffgkloaaDoorTpG11
set_option linter.unusedVariables false
set_option linter.unusedSimpArgs false
set_option maxHeartbeats 16000000
noncomputable section
open Nat (reduceLT reduceAdd reduceEqDiff reduceLeDiff)
namespace Go.Ax
open Go.RowKit Go.Proofs
set_option maxRecDepth 100000
theorem kidT_at(l:List PX)(i:Nat)(least:Int)(h:i<l.length):kidT (txL l) i least=kidF l[i] least:=by
 unfold kidT kidF
 rw[txL_get,List.getElem?_eq_getElem h]
 rfl
theorem beqA_rowX(l:List PX):beqA (rowX l) (rowX l)=true:=by
 cases l with
 |nil=>rfl
 |cons x r =>
  show(0 == 0 && 0 == 0 && 6 == 6 && beqL (exL (x :: r)) (exL (x :: r)))=true
  rw[beqL_ex (x :: r)];rfl
theorem r1_k(e:PX)(d:Nat)(ho:okX d e)(hd:d≤4)(hk:e.kind=1)(H:∀x∈e.kids,KnZ 27 [exA x]):KnZ 27 [exA e]:=by
 have fin:∀(x:List UInt8) (S':St),x=txt e→∃a S'',R.ret (.v (.string ⟨⟨x⟩⟩)) S' = R.ret a S''∧freeV a=true∧SpecZ 27 [exA e] (clean a):=fun x S' h=>by
  refine⟨_,_,rfl,rfl,?_⟩
  intro e' d' q _ _
  simp only[List.cons.injEq,and_true]at q
  rw[← exA_inj _ _ q,← h]
  rfl
 cases e with
 |mk k ap nn nm off kids =>
 have hk:k=1:=hk
 subst hk
 cases d with
 |zero=>exact absurd ho (by simp[okX])
 |succ d =>
 simp only[okX]at ho
 obtain⟨_,hnn,_,hnm,hne,hok⟩:=ho
 have hfew:=needs_few hne
 have H:∀x∈kids,KnZ 27 [exA x]:=H
 have fin:∀(x:List UInt8) (S':St),x=textOf 1 nn nm off (txL kids)→∃a S'',R.ret (.v (.string ⟨⟨x⟩⟩)) S' = R.ret a S''∧freeV a=true∧SpecZ 27 [exA (.mk 1 ap nn nm off kids)] (clean a):=fin
 have he:exA (.mk 1 ap nn nm off kids)=.agg [i64A 1,i64A ap,i64A nn,strS nm,.v (.bool off),rowX kids]:=exA_mk ..
 have hd':d≤4:=by omega
 have hLB:=LB_le hd'
 have hlr:=rowX_lenR kids
 have hkl:=fun(i:Nat) (l:Int)=>kidT_len (txL_bound d kids hok) i l
 have htx:textOf 1 nn nm off (txL kids)=Lib.itoa nn:=rfl
 rw[htx]at fin
 rw[he]at fin ⊢
 refine bodyZ Tryd.f27 (by kernel_rfl) (by kernel_rfl) (show(_:Nat)≤_ from by show(_:Nat)≤_;simp[Tryd.f27]) ?_
 obtain⟨fn1,hf1⟩:=fnz_46
 generalize rowX kids=row at *
 have hd1:=fun(S:St) (Q:R→Prop) h=>dig_u (S:=S) (Q:=Q) hnn h
 simp only[strS,i64A]at *
 simp(maxSteps:=2000000) (disch:=omega)only[W_skip,W_region,W_drawn,W_seq,W_cond,W_block,W_ret,seqQ_normal2,seqQ_ret2,blockW_normal2,blockW_ret2,WL_nil2,WL_cons,execL_val2,execL_enter2,putL_some2,condW_t2,condW_f2,wantedA,exec1,evalO,initT,T.get_set,T.get_leaf,callA,mapO,ofOpt,ofConst,neNil3,finW_ret,giveW,resultsA,tupA,fb_eqlI,reduceLT,reduceAdd,reduceEqDiff,if_true,if_false,true_and,Option.getD_some,List.getElem?_cons_succ,List.getElem?_cons_zero,List.nil_append,List.append_nil,beq_self_eq_true,Bool.false_eq_true,nb_get,st0_get,st0_next,cl1_box,clN_box,List.length_cons,List.length_nil,Nat.zero_add,Nat.add_zero,reduceLeDiff,List.drop_zero,List.take_succ_cons,List.take_zero,noTup_agg,cells_agg,ez_P,ez_F,neNil2,neNil3,yl2,yl3,yl4,yl9,clN_box,cells_agg,initT,Int.reduceBEq,List.getElem?_cons_succ,yfY_0,yfY_2,yfY_3,yfY_4,yfY_5,ylY,yl61,Tryd.f27,hf1]
 refine hd1 _ _ ?_
 simp(maxSteps:=2000000) (disch:=omega)only[W_ret,seqQ_normal2,seqQ_ret2,blockW_ret2,WL_nil2,WL_cons,execL_val2,putL_some2,retL_ret2,wantedA,exec1,evalO,T.get_set,T.get_leaf,ofOpt,finW_ret,giveW,resultsA,tupA,reduceLT,reduceEqDiff,if_true,if_false,true_and]
 exact fin _ _ rfl
theorem r2_k(e:PX)(d:Nat)(ho:okX d e)(hd:d≤4)(hk:e.kind=2)(H:∀x∈e.kids,KnZ 27 [exA x]):KnZ 27 [exA e]:=by
 have fin:∀(x:List UInt8) (S':St),x=txt e→∃a S'',R.ret (.v (.string ⟨⟨x⟩⟩)) S' = R.ret a S''∧freeV a=true∧SpecZ 27 [exA e] (clean a):=fun x S' h=>by
  refine⟨_,_,rfl,rfl,?_⟩
  intro e' d' q _ _
  simp only[List.cons.injEq,and_true]at q
  rw[← exA_inj _ _ q,← h]
  rfl
 cases e with
 |mk k ap nn nm off kids =>
 have hk:k=2:=hk
 subst hk
 cases d with
 |zero=>exact absurd ho (by simp[okX])
 |succ d =>
 simp only[okX]at ho
 obtain⟨_,hnn,h01,hnm,hne,hok⟩:=ho
 have hfew:=needs_few hne
 have H:∀x∈kids,KnZ 27 [exA x]:=H
 have fin:∀(x:List UInt8) (S':St),x=textOf 2 nn nm off (txL kids)→∃a S'',R.ret (.v (.string ⟨⟨x⟩⟩)) S' = R.ret a S''∧freeV a=true∧SpecZ 27 [exA (.mk 2 ap nn nm off kids)] (clean a):=fin
 have he:exA (.mk 2 ap nn nm off kids)=.agg [i64A 2,i64A ap,i64A nn,strS nm,.v (.bool off),rowX kids]:=exA_mk ..
 have hd':d≤4:=by omega
 have hLB:=LB_le hd'
 have hlr:=rowX_lenR kids
 have hkl:=fun(i:Nat) (l:Int)=>kidT_len (txL_bound d kids hok) i l
 have htx:textOf 2 nn nm off (txL kids)=if nn=1 then [116,114,117,101]else [102,97,108,115,101]:=rfl
 rw[htx]at fin
 rw[he]at fin ⊢
 refine bodyZ Tryd.f27 (by kernel_rfl) (by kernel_rfl) (show(_:Nat)≤_ from by show(_:Nat)≤_;simp[Tryd.f27]) ?_
 generalize rowX kids=row at *
 simp only[strS,i64A]at *
 rcases h01.1 (by simp)with rfl |rfl
 ·simp(maxSteps:=2000000) (disch:=omega)only[W_skip,W_region,W_drawn,W_seq,W_cond,W_block,W_ret,seqQ_normal2,seqQ_ret2,blockW_normal2,blockW_ret2,WL_nil2,WL_cons,execL_val2,putL_some2,condW_t2,condW_f2,wantedA,exec1,evalO,initT,T.get_set,T.get_leaf,callA,mapO,ofOpt,ofConst,neNil3,finW_ret,giveW,resultsA,tupA,fb_eqlI,reduceLT,reduceAdd,reduceEqDiff,if_true,if_false,true_and,Option.getD_some,List.getElem?_cons_succ,List.getElem?_cons_zero,List.nil_append,List.append_nil,beq_self_eq_true,Bool.false_eq_true,nb_get,st0_get,st0_next,cl1_box,clN_box,List.length_cons,List.length_nil,Nat.zero_add,Nat.add_zero,reduceLeDiff,List.drop_zero,List.take_succ_cons,List.take_zero,noTup_agg,cells_agg,ez_P,ez_F,neNil2,neNil3,yl2,yl3,yl4,yl9,clN_box,cells_agg,initT,Int.reduceBEq,List.getElem?_cons_succ,yfY_0,yfY_2,yfY_3,yfY_4,yfY_5,ylY,yl61,Tryd.f27]
  exact fin _ _ rfl
 ·simp(maxSteps:=2000000) (disch:=omega)only[W_skip,W_region,W_drawn,W_seq,W_cond,W_block,W_ret,seqQ_normal2,seqQ_ret2,blockW_normal2,blockW_ret2,WL_nil2,WL_cons,execL_val2,putL_some2,condW_t2,condW_f2,wantedA,exec1,evalO,initT,T.get_set,T.get_leaf,callA,mapO,ofOpt,ofConst,neNil3,finW_ret,giveW,resultsA,tupA,fb_eqlI,reduceLT,reduceAdd,reduceEqDiff,if_true,if_false,true_and,Option.getD_some,List.getElem?_cons_succ,List.getElem?_cons_zero,List.nil_append,List.append_nil,beq_self_eq_true,Bool.false_eq_true,nb_get,st0_get,st0_next,cl1_box,clN_box,List.length_cons,List.length_nil,Nat.zero_add,Nat.add_zero,reduceLeDiff,List.drop_zero,List.take_succ_cons,List.take_zero,noTup_agg,cells_agg,ez_P,ez_F,neNil2,neNil3,yl2,yl3,yl4,yl9,clN_box,cells_agg,initT,Int.reduceBEq,List.getElem?_cons_succ,yfY_0,yfY_2,yfY_3,yfY_4,yfY_5,ylY,yl61,Tryd.f27]
  exact fin _ _ rfl
theorem r3_k(e:PX)(d:Nat)(ho:okX d e)(hd:d≤4)(hk:e.kind=3)(H:∀x∈e.kids,KnZ 27 [exA x]):KnZ 27 [exA e]:=by
 have fin:∀(x:List UInt8) (S':St),x=txt e→∃a S'',R.ret (.v (.string ⟨⟨x⟩⟩)) S' = R.ret a S''∧freeV a=true∧SpecZ 27 [exA e] (clean a):=fun x S' h=>by
  refine⟨_,_,rfl,rfl,?_⟩
  intro e' d' q _ _
  simp only[List.cons.injEq,and_true]at q
  rw[← exA_inj _ _ q,← h]
  rfl
 cases e with
 |mk k ap nn nm off kids =>
 have hk:k=3:=hk
 subst hk
 cases d with
 |zero=>exact absurd ho (by simp[okX])
 |succ d =>
 simp only[okX]at ho
 obtain⟨_,hnn,_,hnm,hne,hok⟩:=ho
 have hfew:=needs_few hne
 have H:∀x∈kids,KnZ 27 [exA x]:=H
 have fin:∀(x:List UInt8) (S':St),x=textOf 3 nn nm off (txL kids)→∃a S'',R.ret (.v (.string ⟨⟨x⟩⟩)) S' = R.ret a S''∧freeV a=true∧SpecZ 27 [exA (.mk 3 ap nn nm off kids)] (clean a):=fin
 have he:exA (.mk 3 ap nn nm off kids)=.agg [i64A 3,i64A ap,i64A nn,strS nm,.v (.bool off),rowX kids]:=exA_mk ..
 have hd':d≤4:=by omega
 have hLB:=LB_le hd'
 have hlr:=rowX_lenR kids
 have hkl:=fun(i:Nat) (l:Int)=>kidT_len (txL_bound d kids hok) i l
 have htx:textOf 3 nn nm off (txL kids)=nm:=rfl
 rw[htx]at fin
 rw[he]at fin ⊢
 refine bodyZ Tryd.f27 (by kernel_rfl) (by kernel_rfl) (show(_:Nat)≤_ from by show(_:Nat)≤_;simp[Tryd.f27]) ?_
 generalize rowX kids=row at *
 simp only[strS,i64A]at *
 simp(maxSteps:=2000000) (disch:=omega)only[W_skip,W_region,W_drawn,W_seq,W_cond,W_block,W_ret,seqQ_normal2,seqQ_ret2,blockW_normal2,blockW_ret2,WL_nil2,WL_cons,execL_val2,putL_some2,condW_t2,condW_f2,wantedA,exec1,evalO,initT,T.get_set,T.get_leaf,callA,mapO,ofOpt,ofConst,neNil3,finW_ret,giveW,resultsA,tupA,fb_eqlI,reduceLT,reduceAdd,reduceEqDiff,if_true,if_false,true_and,Option.getD_some,List.getElem?_cons_succ,List.getElem?_cons_zero,List.nil_append,List.append_nil,beq_self_eq_true,Bool.false_eq_true,nb_get,st0_get,st0_next,cl1_box,clN_box,List.length_cons,List.length_nil,Nat.zero_add,Nat.add_zero,reduceLeDiff,List.drop_zero,List.take_succ_cons,List.take_zero,noTup_agg,cells_agg,ez_P,ez_F,neNil2,neNil3,yl2,yl3,yl4,yl9,clN_box,cells_agg,initT,Int.reduceBEq,List.getElem?_cons_succ,yfY_0,yfY_2,yfY_3,yfY_4,yfY_5,ylY,yl61,Tryd.f27]
 exact fin _ _ rfl
theorem r5_k(e:PX)(d:Nat)(ho:okX d e)(hd:d≤4)(hk:e.kind=5)(H:∀x∈e.kids,KnZ 27 [exA x]):KnZ 27 [exA e]:=by
 have fin:∀(x:List UInt8) (S':St),x=txt e→∃a S'',R.ret (.v (.string ⟨⟨x⟩⟩)) S' = R.ret a S''∧freeV a=true∧SpecZ 27 [exA e] (clean a):=fun x S' h=>by
  refine⟨_,_,rfl,rfl,?_⟩
  intro e' d' q _ _
  simp only[List.cons.injEq,and_true]at q
  rw[← exA_inj _ _ q,← h]
  rfl
 cases e with
 |mk k ap nn nm off kids =>
 have hk:k=5:=hk
 subst hk
 cases d with
 |zero=>exact absurd ho (by simp[okX])
 |succ d =>
 simp only[okX]at ho
 obtain⟨_,hnn,_,hnm,hne,hok⟩:=ho
 have hfew:=needs_few hne
 have H:∀x∈kids,KnZ 27 [exA x]:=H
 have fin:∀(x:List UInt8) (S':St),x=textOf 5 nn nm off (txL kids)→∃a S'',R.ret (.v (.string ⟨⟨x⟩⟩)) S' = R.ret a S''∧freeV a=true∧SpecZ 27 [exA (.mk 5 ap nn nm off kids)] (clean a):=fin
 have he:exA (.mk 5 ap nn nm off kids)=.agg [i64A 5,i64A ap,i64A nn,strS nm,.v (.bool off),rowX kids]:=exA_mk ..
 have hd':d≤4:=by omega
 have hLB:=LB_le hd'
 have hlr:=rowX_lenR kids
 have hkl:=fun(i:Nat) (l:Int)=>kidT_len (txL_bound d kids hok) i l
 have htx:textOf 5 nn nm off (txL kids)=([110,111,116,32] ++ kidT (txL kids) 0 4):=rfl
 rw[htx]at fin
 have hbrow:beqA (rowX kids) (rowX kids)=true:=beqA_rowX kids
 have hi0:0<kids.length:=by unfold needs at hne;omega
 have hm0:=List.getElem_mem hi0
 have hok0:=okL_get hok _ hm0
 have hx0:oIndexAddr Tryd.prog 61 (rowX kids) (.v (.int .i64 0))=some (.ep (exA kids[0]).cells):=rowX_idxR kids 0 hi0
 obtain⟨c00,c01,c02,c03,c04,c05,hagg0⟩:=ex_agg kids[0]
 have hcl0:(exA kids[0]).cells=[c00,c01,c02,c03,c04,c05]:=by rw[hagg0];rfl
 rw[hcl0]at hx0
 have hbk0:=beqA_ex kids[0]
 have hcall0:=fun(S:St) (Q:R→Prop) h=>call47 (S:=S) (Q:=Q) (least:=(4)) (H _ hm0) hok0 hd' h
 rw[← kidT_at kids 0 (4) hi0,hagg0]at hcall0
 have hks0:=hkl 0 (4)
 generalize kidT (txL kids) 0 (4)=s0 at *
 rw[hagg0]at hbk0
 have hc0:=fb_catS ([110,111,116,32]) (s0) (by first |omega | (simp only[List.length_cons,List.length_nil];omega))
 rw[he]at fin ⊢
 refine bodyZ Tryd.f27 (by kernel_rfl) (by kernel_rfl) (show(_:Nat)≤_ from by show(_:Nat)≤_;simp[Tryd.f27]) ?_
 obtain⟨fn47,hf47⟩:=fnz_47
 have hbe:=beqA_ex (PX.mk 5 ap nn nm off kids)
 rw[he]at hbe
 have hbs:=beqA_st nm
 generalize rowX kids=row at *
 generalize hy1:([110,111,116,32] ++ s0)=y1 at *
 simp only[strS,i64A]at *
 simp(maxSteps:=2000000) (disch:=omega)only[W_skip,W_region,W_drawn,W_seq,W_cond,W_block,W_ret,seqQ_normal2,seqQ_ret2,blockW_normal2,blockW_ret2,WL_nil2,WL_cons,execL_val2,execL_enter2,putL_some2,condW_t2,condW_f2,wantedA,exec1,evalO,initT,T.get_set,T.get_leaf,callA,mapO,ofOpt,ofConst,neNil3,finW_ret,giveW,resultsA,tupA,fb_eqlI,neNil9,reduceLT,reduceAdd,reduceEqDiff,if_true,if_false,true_and,Option.getD_some,List.getElem?_cons_succ,List.getElem?_cons_zero,List.nil_append,List.append_nil,beq_self_eq_true,Bool.false_eq_true,nb_get,st0_get,st0_next,cl1_box,clN_box,List.length_cons,List.length_nil,Nat.zero_add,Nat.add_zero,reduceLeDiff,List.drop_zero,List.take_succ_cons,List.take_zero,noTup_agg,cells_agg,ez_P,ez_G,ez_F,neNil2,neNil3,neNil9,yl2,yl3,yl4,yl9,clN_box,cells_agg,initT,Int.reduceBEq,List.getElem?_cons_succ,yfY_0,yfY_2,yfY_3,yfY_4,yfY_5,ylY,yl61,yleY,Tryd.f27,hlr,hf47,hx0]
 refine hcall0 _ _ ?_
 simp(maxSteps:=2000000) (disch:=omega)only[W_ret,seqQ_normal2,seqQ_ret2,blockW_ret2,WL_nil2,WL_cons,execL_val2,putL_some2,retL_ret2,wantedA,exec1,evalO,T.get_set,T.get_leaf,ofOpt,ofConst,finW_ret,giveW,resultsA,tupA,neNil9,reduceLT,reduceEqDiff,if_true,if_false,true_and,Bool.false_eq_true,ez_P,neNil9,hc0]
 exact fin _ _ rfl
theorem r10_k(e:PX)(d:Nat)(ho:okX d e)(hd:d≤4)(hk:e.kind=10)(H:∀x∈e.kids,KnZ 27 [exA x]):KnZ 27 [exA e]:=by
 have fin:∀(x:List UInt8) (S':St),x=txt e→∃a S'',R.ret (.v (.string ⟨⟨x⟩⟩)) S' = R.ret a S''∧freeV a=true∧SpecZ 27 [exA e] (clean a):=fun x S' h=>by
  refine⟨_,_,rfl,rfl,?_⟩
  intro e' d' q _ _
  simp only[List.cons.injEq,and_true]at q
  rw[← exA_inj _ _ q,← h]
  rfl
 cases e with
 |mk k ap nn nm off kids =>
 have hk:k=10:=hk
 subst hk
 cases d with
 |zero=>exact absurd ho (by simp[okX])
 |succ d =>
 simp only[okX]at ho
 obtain⟨_,hnn,_,hnm,hne,hok⟩:=ho
 have hfew:=needs_few hne
 have H:∀x∈kids,KnZ 27 [exA x]:=H
 have fin:∀(x:List UInt8) (S':St),x=textOf 10 nn nm off (txL kids)→∃a S'',R.ret (.v (.string ⟨⟨x⟩⟩)) S' = R.ret a S''∧freeV a=true∧SpecZ 27 [exA (.mk 10 ap nn nm off kids)] (clean a):=fin
 have he:exA (.mk 10 ap nn nm off kids)=.agg [i64A 10,i64A ap,i64A nn,strS nm,.v (.bool off),rowX kids]:=exA_mk ..
 have hd':d≤4:=by omega
 have hLB:=LB_le hd'
 have hlr:=rowX_lenR kids
 have hkl:=fun(i:Nat) (l:Int)=>kidT_len (txL_bound d kids hok) i l
 have htx:textOf 10 nn nm off (txL kids)=([112,114,101,32] ++ kidT (txL kids) 0 8):=rfl
 rw[htx]at fin
 have hbrow:beqA (rowX kids) (rowX kids)=true:=beqA_rowX kids
 have hi0:0<kids.length:=by unfold needs at hne;omega
 have hm0:=List.getElem_mem hi0
 have hok0:=okL_get hok _ hm0
 have hx0:oIndexAddr Tryd.prog 61 (rowX kids) (.v (.int .i64 0))=some (.ep (exA kids[0]).cells):=rowX_idxR kids 0 hi0
 obtain⟨c00,c01,c02,c03,c04,c05,hagg0⟩:=ex_agg kids[0]
 have hcl0:(exA kids[0]).cells=[c00,c01,c02,c03,c04,c05]:=by rw[hagg0];rfl
 rw[hcl0]at hx0
 have hbk0:=beqA_ex kids[0]
 have hcall0:=fun(S:St) (Q:R→Prop) h=>call47 (S:=S) (Q:=Q) (least:=(8)) (H _ hm0) hok0 hd' h
 rw[← kidT_at kids 0 (8) hi0,hagg0]at hcall0
 have hks0:=hkl 0 (8)
 generalize kidT (txL kids) 0 (8)=s0 at *
 rw[hagg0]at hbk0
 have hc0:=fb_catS ([112,114,101,32]) (s0) (by first |omega | (simp only[List.length_cons,List.length_nil];omega))
 rw[he]at fin ⊢
 refine bodyZ Tryd.f27 (by kernel_rfl) (by kernel_rfl) (show(_:Nat)≤_ from by show(_:Nat)≤_;simp[Tryd.f27]) ?_
 obtain⟨fn47,hf47⟩:=fnz_47
 have hbe:=beqA_ex (PX.mk 10 ap nn nm off kids)
 rw[he]at hbe
 have hbs:=beqA_st nm
 generalize rowX kids=row at *
 generalize hy1:([112,114,101,32] ++ s0)=y1 at *
 simp only[strS,i64A]at *
 simp(maxSteps:=2000000) (disch:=omega)only[W_skip,W_region,W_drawn,W_seq,W_cond,W_block,W_ret,seqQ_normal2,seqQ_ret2,blockW_normal2,blockW_ret2,WL_nil2,WL_cons,execL_val2,execL_enter2,putL_some2,condW_t2,condW_f2,wantedA,exec1,evalO,initT,T.get_set,T.get_leaf,callA,mapO,ofOpt,ofConst,neNil3,finW_ret,giveW,resultsA,tupA,fb_eqlI,neNil9,reduceLT,reduceAdd,reduceEqDiff,if_true,if_false,true_and,Option.getD_some,List.getElem?_cons_succ,List.getElem?_cons_zero,List.nil_append,List.append_nil,beq_self_eq_true,Bool.false_eq_true,nb_get,st0_get,st0_next,cl1_box,clN_box,List.length_cons,List.length_nil,Nat.zero_add,Nat.add_zero,reduceLeDiff,List.drop_zero,List.take_succ_cons,List.take_zero,noTup_agg,cells_agg,ez_P,ez_G,ez_F,neNil2,neNil3,neNil9,yl2,yl3,yl4,yl9,clN_box,cells_agg,initT,Int.reduceBEq,List.getElem?_cons_succ,yfY_0,yfY_2,yfY_3,yfY_4,yfY_5,ylY,yl61,yleY,Tryd.f27,hlr,hf47,hx0]
 refine hcall0 _ _ ?_
 simp(maxSteps:=2000000) (disch:=omega)only[W_ret,seqQ_normal2,seqQ_ret2,blockW_ret2,WL_nil2,WL_cons,execL_val2,putL_some2,retL_ret2,wantedA,exec1,evalO,T.get_set,T.get_leaf,ofOpt,ofConst,finW_ret,giveW,resultsA,tupA,neNil9,reduceLT,reduceEqDiff,if_true,if_false,true_and,Bool.false_eq_true,ez_P,neNil9,hc0]
 exact fin _ _ rfl
end Go.Ax
noncomputable section
open Nat (reduceLT reduceAdd reduceEqDiff reduceLeDiff)
namespace Go.Ax
open Go.RowKit Go.Proofs
set_option maxRecDepth 100000
theorem r7_k(e:PX)(d:Nat)(ho:okX d e)(hd:d≤4)(hk:e.kind=7)(H:∀x∈e.kids,KnZ 27 [exA x]):KnZ 27 [exA e]:=by
 have fin:∀(x:List UInt8) (S':St),x=txt e→∃a S'',R.ret (.v (.string ⟨⟨x⟩⟩)) S' = R.ret a S''∧freeV a=true∧SpecZ 27 [exA e] (clean a):=fun x S' h=>by
  refine⟨_,_,rfl,rfl,?_⟩
  intro e' d' q _ _
  simp only[List.cons.injEq,and_true]at q
  rw[← exA_inj _ _ q,← h]
  rfl
 cases e with
 |mk k ap nn nm off kids =>
 have hk:k=7:=hk
 subst hk
 cases d with
 |zero=>exact absurd ho (by simp[okX])
 |succ d =>
 simp only[okX]at ho
 obtain⟨_,hnn,_,hnm,hne,hok⟩:=ho
 have hfew:=needs_few hne
 have H:∀x∈kids,KnZ 27 [exA x]:=H
 have fin:∀(x:List UInt8) (S':St),x=textOf 7 nn nm off (txL kids)→∃a S'',R.ret (.v (.string ⟨⟨x⟩⟩)) S' = R.ret a S''∧freeV a=true∧SpecZ 27 [exA (.mk 7 ap nn nm off kids)] (clean a):=fin
 have he:exA (.mk 7 ap nn nm off kids)=.agg [i64A 7,i64A ap,i64A nn,strS nm,.v (.bool off),rowX kids]:=exA_mk ..
 have hd':d≤4:=by omega
 have hLB:=LB_le hd'
 have hlr:=rowX_lenR kids
 have hkl:=fun(i:Nat) (l:Int)=>kidT_len (txL_bound d kids hok) i l
 have htx:textOf 7 nn nm off (txL kids)=((((([105,102,32] ++ kidT (txL kids) 0 0) ++ [32,116,104,101,110,32]) ++ kidT (txL kids) 1 0) ++ [32,101,108,115,101,32]) ++ kidT (txL kids) 2 0):=rfl
 rw[htx]at fin
 have hbrow:beqA (rowX kids) (rowX kids)=true:=beqA_rowX kids
 have hi0:0<kids.length:=by unfold needs at hne;omega
 have hm0:=List.getElem_mem hi0
 have hok0:=okL_get hok _ hm0
 have hx0:oIndexAddr Tryd.prog 61 (rowX kids) (.v (.int .i64 0))=some (.ep (exA kids[0]).cells):=rowX_idxR kids 0 hi0
 obtain⟨c00,c01,c02,c03,c04,c05,hagg0⟩:=ex_agg kids[0]
 have hcl0:(exA kids[0]).cells=[c00,c01,c02,c03,c04,c05]:=by rw[hagg0];rfl
 rw[hcl0]at hx0
 have hbk0:=beqA_ex kids[0]
 have hcall0:=fun(S:St) (Q:R→Prop) h=>call47 (S:=S) (Q:=Q) (least:=(0)) (H _ hm0) hok0 hd' h
 rw[← kidT_at kids 0 (0) hi0,hagg0]at hcall0
 have hks0:=hkl 0 (0)
 generalize kidT (txL kids) 0 (0)=s0 at *
 rw[hagg0]at hbk0
 have hi1:1<kids.length:=by unfold needs at hne;omega
 have hm1:=List.getElem_mem hi1
 have hok1:=okL_get hok _ hm1
 have hx1:oIndexAddr Tryd.prog 61 (rowX kids) (.v (.int .i64 1))=some (.ep (exA kids[1]).cells):=rowX_idxR kids 1 hi1
 obtain⟨c10,c11,c12,c13,c14,c15,hagg1⟩:=ex_agg kids[1]
 have hcl1:(exA kids[1]).cells=[c10,c11,c12,c13,c14,c15]:=by rw[hagg1];rfl
 rw[hcl1]at hx1
 have hbk1:=beqA_ex kids[1]
 have hcall1:=fun(S:St) (Q:R→Prop) h=>call47 (S:=S) (Q:=Q) (least:=(0)) (H _ hm1) hok1 hd' h
 rw[← kidT_at kids 1 (0) hi1,hagg1]at hcall1
 have hks1:=hkl 1 (0)
 generalize kidT (txL kids) 1 (0)=s1 at *
 rw[hagg1]at hbk1
 have hi2:2<kids.length:=by unfold needs at hne;omega
 have hm2:=List.getElem_mem hi2
 have hok2:=okL_get hok _ hm2
 have hx2:oIndexAddr Tryd.prog 61 (rowX kids) (.v (.int .i64 2))=some (.ep (exA kids[2]).cells):=rowX_idxR kids 2 hi2
 obtain⟨c20,c21,c22,c23,c24,c25,hagg2⟩:=ex_agg kids[2]
 have hcl2:(exA kids[2]).cells=[c20,c21,c22,c23,c24,c25]:=by rw[hagg2];rfl
 rw[hcl2]at hx2
 have hbk2:=beqA_ex kids[2]
 have hcall2:=fun(S:St) (Q:R→Prop) h=>call47 (S:=S) (Q:=Q) (least:=(0)) (H _ hm2) hok2 hd' h
 rw[← kidT_at kids 2 (0) hi2,hagg2]at hcall2
 have hks2:=hkl 2 (0)
 generalize kidT (txL kids) 2 (0)=s2 at *
 rw[hagg2]at hbk2
 have hc0:=fb_catS ([105,102,32]) (s0) (by first |omega | (simp only[List.length_cons,List.length_nil];omega))
 have hc1:=fb_catS (([105,102,32] ++ s0)) ([32,116,104,101,110,32]) (by first |omega | (simp only[List.length_append,List.length_cons,List.length_nil];omega))
 have hc2:=fb_catS ((([105,102,32] ++ s0) ++ [32,116,104,101,110,32])) (s1) (by first |omega | (simp only[List.length_append,List.length_cons,List.length_nil];omega))
 have hc3:=fb_catS (((([105,102,32] ++ s0) ++ [32,116,104,101,110,32]) ++ s1)) ([32,101,108,115,101,32]) (by first |omega | (simp only[List.length_append,List.length_cons,List.length_nil];omega))
 have hc4:=fb_catS ((((([105,102,32] ++ s0) ++ [32,116,104,101,110,32]) ++ s1) ++ [32,101,108,115,101,32])) (s2) (by first |omega | (simp only[List.length_append,List.length_cons,List.length_nil];omega))
 rw[he]at fin ⊢
 refine bodyZ Tryd.f27 (by kernel_rfl) (by kernel_rfl) (show(_:Nat)≤_ from by show(_:Nat)≤_;simp[Tryd.f27]) ?_
 obtain⟨fn47,hf47⟩:=fnz_47
 have hbe:=beqA_ex (PX.mk 7 ap nn nm off kids)
 rw[he]at hbe
 have hbs:=beqA_st nm
 generalize rowX kids=row at *
 generalize hy5:((((([105,102,32] ++ s0) ++ [32,116,104,101,110,32]) ++ s1) ++ [32,101,108,115,101,32]) ++ s2)=y5 at *
 generalize hy4:(((([105,102,32] ++ s0) ++ [32,116,104,101,110,32]) ++ s1) ++ [32,101,108,115,101,32])=y4 at *
 generalize hy3:((([105,102,32] ++ s0) ++ [32,116,104,101,110,32]) ++ s1)=y3 at *
 generalize hy2:(([105,102,32] ++ s0) ++ [32,116,104,101,110,32])=y2 at *
 generalize hy1:([105,102,32] ++ s0)=y1 at *
 simp only[strS,i64A]at *
 simp(maxSteps:=2000000) (disch:=omega)only[W_skip,W_region,W_drawn,W_seq,W_cond,W_block,W_ret,seqQ_normal2,seqQ_ret2,blockW_normal2,blockW_ret2,WL_nil2,WL_cons,execL_val2,execL_enter2,putL_some2,condW_t2,condW_f2,wantedA,exec1,evalO,initT,T.get_set,T.get_leaf,callA,mapO,ofOpt,ofConst,neNil3,finW_ret,giveW,resultsA,tupA,fb_eqlI,neNil9,reduceLT,reduceAdd,reduceEqDiff,if_true,if_false,true_and,Option.getD_some,List.getElem?_cons_succ,List.getElem?_cons_zero,List.nil_append,List.append_nil,beq_self_eq_true,Bool.false_eq_true,nb_get,st0_get,st0_next,cl1_box,clN_box,List.length_cons,List.length_nil,Nat.zero_add,Nat.add_zero,reduceLeDiff,List.drop_zero,List.take_succ_cons,List.take_zero,noTup_agg,cells_agg,ez_P,ez_G,ez_F,neNil2,neNil3,neNil9,yl2,yl3,yl4,yl9,clN_box,cells_agg,initT,Int.reduceBEq,List.getElem?_cons_succ,yfY_0,yfY_2,yfY_3,yfY_4,yfY_5,ylY,yl61,yleY,Tryd.f27,hlr,hf47,hx0]
 refine WD_by [(0,true),(1,true),(2,true),(3,true),(7,true),(8,true),(9,true),(10,true),(14,true),(15,true),(16,true),(17,true),(4,true),(17,false),(15,false),(10,false),(8,false),(5,true),(6,true),(11,true),(17,false),(15,false),(12,true),(13,true),(18,true),(19,true),(20,true)] (by kernel_rfl) (by kernel_rfl) ?_
 simp(maxSteps:=2000000) (disch:=omega)only[wantedA,exec1,evalO,T.get_set,T.get_leaf,callA,mapO,ofOpt,ofConst,reduceLT,reduceAdd,reduceEqDiff,if_true,if_false,true_and,List.getElem?_toArray,List.getElem?_cons_succ,List.getElem?_cons_zero,List.nil_append,List.append_nil,Bool.false_eq_true,WR_op,execR_val2,execR_enter2,putRW_some2,rsOf,nb_get,st0_get,st0_next,cl1_box,List.length_cons,List.length_nil,Nat.zero_add,reduceLeDiff,List.take_succ_cons,List.take_zero,ez_P,List.getElem?_cons_succ,yfY_5,yl61,yleY,hf47,hx0,hx1,hx2]
 refine hcall0 _ _ ?_
 simp(maxSteps:=2000000) (disch:=omega)only[wantedA,exec1,evalO,T.get_set,T.get_leaf,callA,mapO,ofOpt,ofConst,neNil9,reduceLT,reduceAdd,reduceEqDiff,if_true,if_false,true_and,List.getElem?_cons_succ,List.getElem?_cons_zero,List.nil_append,List.append_nil,Bool.false_eq_true,WR_op,WR_re2,execR_val2,execR_enter2,putRW_some2,retRW_ret2,againO,lookV,nb_get,st0_get,st0_next,cl1_box,List.length_cons,List.length_nil,Nat.zero_add,reduceLeDiff,List.take_succ_cons,List.take_zero,ez_P,neNil9,List.getElem?_cons_succ,yl61,yleY,hbrow,hc0,hc1,hf47,hbk1,hbk2]
 refine hcall1 _ _ ?_
 simp(maxSteps:=2000000) (disch:=omega)only[wantedA,exec1,evalO,T.get_set,T.get_leaf,callA,mapO,ofOpt,ofConst,neNil9,reduceLT,reduceAdd,reduceEqDiff,if_true,if_false,true_and,List.getElem?_cons_succ,List.getElem?_cons_zero,List.nil_append,List.append_nil,Bool.false_eq_true,WR_op,WR_re2,execR_val2,execR_enter2,putRW_some2,retRW_ret2,againO,lookV,nb_get,st0_get,st0_next,cl1_box,List.length_cons,List.length_nil,Nat.zero_add,reduceLeDiff,List.take_succ_cons,List.take_zero,ez_P,neNil9,List.getElem?_cons_succ,yl61,yleY,hbrow,hc2,hc3,hf47,hbk2]
 refine hcall2 _ _ ?_
 simp(maxSteps:=2000000) (disch:=omega)only[W_ret,seqQ_normal2,seqQ_ret2,blockW_ret2,wantedA,exec1,evalO,T.get_set,T.get_leaf,ofOpt,finW_ret,giveW,resultsA,tupA,neNil9,reduceLT,reduceEqDiff,if_true,if_false,true_and,Bool.false_eq_true,WR_nil2,WR_op,execR_val2,putRW_some2,retRW_ret2,fixQ_normal2,ez_P,neNil9,hc4]
 exact fin _ _ rfl
theorem r8_k(e:PX)(d:Nat)(ho:okX d e)(hd:d≤4)(hk:e.kind=8)(H:∀x∈e.kids,KnZ 27 [exA x]):KnZ 27 [exA e]:=by
 have fin:∀(x:List UInt8) (S':St),x=txt e→∃a S'',R.ret (.v (.string ⟨⟨x⟩⟩)) S' = R.ret a S''∧freeV a=true∧SpecZ 27 [exA e] (clean a):=fun x S' h=>by
  refine⟨_,_,rfl,rfl,?_⟩
  intro e' d' q _ _
  simp only[List.cons.injEq,and_true]at q
  rw[← exA_inj _ _ q,← h]
  rfl
 cases e with
 |mk k ap nn nm off kids =>
 have hk:k=8:=hk
 subst hk
 cases d with
 |zero=>exact absurd ho (by simp[okX])
 |succ d =>
 simp only[okX]at ho
 obtain⟨_,hnn,_,hnm,hne,hok⟩:=ho
 have hfew:=needs_few hne
 have H:∀x∈kids,KnZ 27 [exA x]:=H
 have fin:∀(x:List UInt8) (S':St),x=textOf 8 nn nm off (txL kids)→∃a S'',R.ret (.v (.string ⟨⟨x⟩⟩)) S' = R.ret a S''∧freeV a=true∧SpecZ 27 [exA (.mk 8 ap nn nm off kids)] (clean a):=fin
 have he:exA (.mk 8 ap nn nm off kids)=.agg [i64A 8,i64A ap,i64A nn,strS nm,.v (.bool off),rowX kids]:=exA_mk ..
 have hd':d≤4:=by omega
 have hLB:=LB_le hd'
 have hlr:=rowX_lenR kids
 have hkl:=fun(i:Nat) (l:Int)=>kidT_len (txL_bound d kids hok) i l
 have htx:textOf 8 nn nm off (txL kids)=((kidT (txL kids) 0 2 ++ [32,45,62,32]) ++ kidT (txL kids) 1 1):=rfl
 rw[htx]at fin
 have hbrow:beqA (rowX kids) (rowX kids)=true:=beqA_rowX kids
 have hi0:0<kids.length:=by unfold needs at hne;omega
 have hm0:=List.getElem_mem hi0
 have hok0:=okL_get hok _ hm0
 have hx0:oIndexAddr Tryd.prog 61 (rowX kids) (.v (.int .i64 0))=some (.ep (exA kids[0]).cells):=rowX_idxR kids 0 hi0
 obtain⟨c00,c01,c02,c03,c04,c05,hagg0⟩:=ex_agg kids[0]
 have hcl0:(exA kids[0]).cells=[c00,c01,c02,c03,c04,c05]:=by rw[hagg0];rfl
 rw[hcl0]at hx0
 have hbk0:=beqA_ex kids[0]
 have hcall0:=fun(S:St) (Q:R→Prop) h=>call47 (S:=S) (Q:=Q) (least:=(2)) (H _ hm0) hok0 hd' h
 rw[← kidT_at kids 0 (2) hi0,hagg0]at hcall0
 have hks0:=hkl 0 (2)
 generalize kidT (txL kids) 0 (2)=s0 at *
 rw[hagg0]at hbk0
 have hi1:1<kids.length:=by unfold needs at hne;omega
 have hm1:=List.getElem_mem hi1
 have hok1:=okL_get hok _ hm1
 have hx1:oIndexAddr Tryd.prog 61 (rowX kids) (.v (.int .i64 1))=some (.ep (exA kids[1]).cells):=rowX_idxR kids 1 hi1
 obtain⟨c10,c11,c12,c13,c14,c15,hagg1⟩:=ex_agg kids[1]
 have hcl1:(exA kids[1]).cells=[c10,c11,c12,c13,c14,c15]:=by rw[hagg1];rfl
 rw[hcl1]at hx1
 have hbk1:=beqA_ex kids[1]
 have hcall1:=fun(S:St) (Q:R→Prop) h=>call47 (S:=S) (Q:=Q) (least:=(1)) (H _ hm1) hok1 hd' h
 rw[← kidT_at kids 1 (1) hi1,hagg1]at hcall1
 have hks1:=hkl 1 (1)
 generalize kidT (txL kids) 1 (1)=s1 at *
 rw[hagg1]at hbk1
 have hc0:=fb_catS (s0) ([32,45,62,32]) (by first |omega | (simp only[List.length_cons,List.length_nil];omega))
 have hc1:=fb_catS ((s0 ++ [32,45,62,32])) (s1) (by first |omega | (simp only[List.length_append,List.length_cons,List.length_nil];omega))
 rw[he]at fin ⊢
 refine bodyZ Tryd.f27 (by kernel_rfl) (by kernel_rfl) (show(_:Nat)≤_ from by show(_:Nat)≤_;simp[Tryd.f27]) ?_
 obtain⟨fn47,hf47⟩:=fnz_47
 have hbe:=beqA_ex (PX.mk 8 ap nn nm off kids)
 rw[he]at hbe
 have hbs:=beqA_st nm
 generalize rowX kids=row at *
 generalize hy2:((s0 ++ [32,45,62,32]) ++ s1)=y2 at *
 generalize hy1:(s0 ++ [32,45,62,32])=y1 at *
 simp only[strS,i64A]at *
 simp(maxSteps:=2000000) (disch:=omega)only[W_skip,W_region,W_drawn,W_seq,W_cond,W_block,W_ret,seqQ_normal2,seqQ_ret2,blockW_normal2,blockW_ret2,WL_nil2,WL_cons,execL_val2,execL_enter2,putL_some2,condW_t2,condW_f2,wantedA,exec1,evalO,initT,T.get_set,T.get_leaf,callA,mapO,ofOpt,ofConst,neNil3,finW_ret,giveW,resultsA,tupA,fb_eqlI,neNil9,reduceLT,reduceAdd,reduceEqDiff,if_true,if_false,true_and,Option.getD_some,List.getElem?_cons_succ,List.getElem?_cons_zero,List.nil_append,List.append_nil,beq_self_eq_true,Bool.false_eq_true,nb_get,st0_get,st0_next,cl1_box,clN_box,List.length_cons,List.length_nil,Nat.zero_add,Nat.add_zero,reduceLeDiff,List.drop_zero,List.take_succ_cons,List.take_zero,noTup_agg,cells_agg,ez_P,ez_G,ez_F,neNil2,neNil3,neNil9,yl2,yl3,yl4,yl9,clN_box,cells_agg,initT,Int.reduceBEq,List.getElem?_cons_succ,yfY_0,yfY_2,yfY_3,yfY_4,yfY_5,ylY,yl61,yleY,Tryd.f27,hlr,hf47,hx0]
 refine WD_by [(0,true),(1,true),(2,true),(3,true),(6,true),(7,true),(8,true),(9,true),(4,true),(9,false),(7,false),(5,true),(10,true),(11,true),(12,true)] (by kernel_rfl) (by kernel_rfl) ?_
 simp(maxSteps:=2000000) (disch:=omega)only[wantedA,exec1,evalO,T.get_set,T.get_leaf,callA,mapO,ofOpt,ofConst,reduceLT,reduceAdd,reduceEqDiff,if_true,if_false,true_and,List.getElem?_toArray,List.getElem?_cons_succ,List.getElem?_cons_zero,List.nil_append,List.append_nil,Bool.false_eq_true,WR_op,execR_val2,execR_enter2,putRW_some2,rsOf,nb_get,st0_get,st0_next,cl1_box,List.length_cons,List.length_nil,Nat.zero_add,reduceLeDiff,List.take_succ_cons,List.take_zero,ez_P,List.getElem?_cons_succ,yfY_5,yl61,yleY,hf47,hx0,hx1]
 refine hcall0 _ _ ?_
 simp(maxSteps:=2000000) (disch:=omega)only[wantedA,exec1,evalO,T.get_set,T.get_leaf,callA,mapO,ofOpt,ofConst,neNil9,reduceLT,reduceAdd,reduceEqDiff,if_true,if_false,true_and,List.getElem?_cons_succ,List.getElem?_cons_zero,List.nil_append,List.append_nil,Bool.false_eq_true,WR_op,WR_re2,execR_val2,execR_enter2,putRW_some2,retRW_ret2,againO,lookV,nb_get,st0_get,st0_next,cl1_box,List.length_cons,List.length_nil,Nat.zero_add,reduceLeDiff,List.take_succ_cons,List.take_zero,ez_P,neNil9,List.getElem?_cons_succ,yl61,yleY,hbrow,hc0,hf47,hbk1]
 refine hcall1 _ _ ?_
 simp(maxSteps:=2000000) (disch:=omega)only[W_ret,seqQ_normal2,seqQ_ret2,blockW_ret2,wantedA,exec1,evalO,T.get_set,T.get_leaf,ofOpt,finW_ret,giveW,resultsA,tupA,neNil9,reduceLT,reduceEqDiff,if_true,if_false,true_and,Bool.false_eq_true,WR_nil2,WR_op,execR_val2,putRW_some2,retRW_ret2,fixQ_normal2,ez_P,neNil9,hc1]
 exact fin _ _ rfl
theorem r9_k(e:PX)(d:Nat)(ho:okX d e)(hd:d≤4)(hk:e.kind=9)(H:∀x∈e.kids,KnZ 27 [exA x]):KnZ 27 [exA e]:=by
 have fin:∀(x:List UInt8) (S':St),x=txt e→∃a S'',R.ret (.v (.string ⟨⟨x⟩⟩)) S' = R.ret a S''∧freeV a=true∧SpecZ 27 [exA e] (clean a):=fun x S' h=>by
  refine⟨_,_,rfl,rfl,?_⟩
  intro e' d' q _ _
  simp only[List.cons.injEq,and_true]at q
  rw[← exA_inj _ _ q,← h]
  rfl
 cases e with
 |mk k ap nn nm off kids =>
 have hk:k=9:=hk
 subst hk
 cases d with
 |zero=>exact absurd ho (by simp[okX])
 |succ d =>
 simp only[okX]at ho
 obtain⟨_,hnn,_,hnm,hne,hok⟩:=ho
 have hfew:=needs_few hne
 have H:∀x∈kids,KnZ 27 [exA x]:=H
 have fin:∀(x:List UInt8) (S':St),x=textOf 9 nn nm off (txL kids)→∃a S'',R.ret (.v (.string ⟨⟨x⟩⟩)) S' = R.ret a S''∧freeV a=true∧SpecZ 27 [exA (.mk 9 ap nn nm off kids)] (clean a):=fin
 have he:exA (.mk 9 ap nn nm off kids)=.agg [i64A 9,i64A ap,i64A nn,strS nm,.v (.bool off),rowX kids]:=exA_mk ..
 have hd':d≤4:=by omega
 have hLB:=LB_le hd'
 have hlr:=rowX_lenR kids
 have hkl:=fun(i:Nat) (l:Int)=>kidT_len (txL_bound d kids hok) i l
 have htx:textOf 9 nn nm off (txL kids)=((kidT (txL kids) 0 0 ++ [32,102,98,121,32]) ++ kidT (txL kids) 1 1):=rfl
 rw[htx]at fin
 have hbrow:beqA (rowX kids) (rowX kids)=true:=beqA_rowX kids
 have hi0:0<kids.length:=by unfold needs at hne;omega
 have hm0:=List.getElem_mem hi0
 have hok0:=okL_get hok _ hm0
 have hx0:oIndexAddr Tryd.prog 61 (rowX kids) (.v (.int .i64 0))=some (.ep (exA kids[0]).cells):=rowX_idxR kids 0 hi0
 obtain⟨c00,c01,c02,c03,c04,c05,hagg0⟩:=ex_agg kids[0]
 have hcl0:(exA kids[0]).cells=[c00,c01,c02,c03,c04,c05]:=by rw[hagg0];rfl
 rw[hcl0]at hx0
 have hbk0:=beqA_ex kids[0]
 have hcall0:=fun(S:St) (Q:R→Prop) h=>call47 (S:=S) (Q:=Q) (least:=(0)) (H _ hm0) hok0 hd' h
 rw[← kidT_at kids 0 (0) hi0,hagg0]at hcall0
 have hks0:=hkl 0 (0)
 generalize kidT (txL kids) 0 (0)=s0 at *
 rw[hagg0]at hbk0
 have hi1:1<kids.length:=by unfold needs at hne;omega
 have hm1:=List.getElem_mem hi1
 have hok1:=okL_get hok _ hm1
 have hx1:oIndexAddr Tryd.prog 61 (rowX kids) (.v (.int .i64 1))=some (.ep (exA kids[1]).cells):=rowX_idxR kids 1 hi1
 obtain⟨c10,c11,c12,c13,c14,c15,hagg1⟩:=ex_agg kids[1]
 have hcl1:(exA kids[1]).cells=[c10,c11,c12,c13,c14,c15]:=by rw[hagg1];rfl
 rw[hcl1]at hx1
 have hbk1:=beqA_ex kids[1]
 have hcall1:=fun(S:St) (Q:R→Prop) h=>call47 (S:=S) (Q:=Q) (least:=(1)) (H _ hm1) hok1 hd' h
 rw[← kidT_at kids 1 (1) hi1,hagg1]at hcall1
 have hks1:=hkl 1 (1)
 generalize kidT (txL kids) 1 (1)=s1 at *
 rw[hagg1]at hbk1
 have hc0:=fb_catS (s0) ([32,102,98,121,32]) (by first |omega | (simp only[List.length_cons,List.length_nil];omega))
 have hc1:=fb_catS ((s0 ++ [32,102,98,121,32])) (s1) (by first |omega | (simp only[List.length_append,List.length_cons,List.length_nil];omega))
 rw[he]at fin ⊢
 refine bodyZ Tryd.f27 (by kernel_rfl) (by kernel_rfl) (show(_:Nat)≤_ from by show(_:Nat)≤_;simp[Tryd.f27]) ?_
 obtain⟨fn47,hf47⟩:=fnz_47
 have hbe:=beqA_ex (PX.mk 9 ap nn nm off kids)
 rw[he]at hbe
 have hbs:=beqA_st nm
 generalize rowX kids=row at *
 generalize hy2:((s0 ++ [32,102,98,121,32]) ++ s1)=y2 at *
 generalize hy1:(s0 ++ [32,102,98,121,32])=y1 at *
 simp only[strS,i64A]at *
 simp(maxSteps:=2000000) (disch:=omega)only[W_skip,W_region,W_drawn,W_seq,W_cond,W_block,W_ret,seqQ_normal2,seqQ_ret2,blockW_normal2,blockW_ret2,WL_nil2,WL_cons,execL_val2,execL_enter2,putL_some2,condW_t2,condW_f2,wantedA,exec1,evalO,initT,T.get_set,T.get_leaf,callA,mapO,ofOpt,ofConst,neNil3,finW_ret,giveW,resultsA,tupA,fb_eqlI,neNil9,reduceLT,reduceAdd,reduceEqDiff,if_true,if_false,true_and,Option.getD_some,List.getElem?_cons_succ,List.getElem?_cons_zero,List.nil_append,List.append_nil,beq_self_eq_true,Bool.false_eq_true,nb_get,st0_get,st0_next,cl1_box,clN_box,List.length_cons,List.length_nil,Nat.zero_add,Nat.add_zero,reduceLeDiff,List.drop_zero,List.take_succ_cons,List.take_zero,noTup_agg,cells_agg,ez_P,ez_G,ez_F,neNil2,neNil3,neNil9,yl2,yl3,yl4,yl9,clN_box,cells_agg,initT,Int.reduceBEq,List.getElem?_cons_succ,yfY_0,yfY_2,yfY_3,yfY_4,yfY_5,ylY,yl61,yleY,Tryd.f27,hlr,hf47,hx0]
 refine WD_by [(0,true),(1,true),(2,true),(3,true),(6,true),(7,true),(8,true),(9,true),(4,true),(9,false),(7,false),(5,true),(10,true),(11,true),(12,true)] (by kernel_rfl) (by kernel_rfl) ?_
 simp(maxSteps:=2000000) (disch:=omega)only[wantedA,exec1,evalO,T.get_set,T.get_leaf,callA,mapO,ofOpt,ofConst,reduceLT,reduceAdd,reduceEqDiff,if_true,if_false,true_and,List.getElem?_toArray,List.getElem?_cons_succ,List.getElem?_cons_zero,List.nil_append,List.append_nil,Bool.false_eq_true,WR_op,execR_val2,execR_enter2,putRW_some2,rsOf,nb_get,st0_get,st0_next,cl1_box,List.length_cons,List.length_nil,Nat.zero_add,reduceLeDiff,List.take_succ_cons,List.take_zero,ez_P,List.getElem?_cons_succ,yfY_5,yl61,yleY,hf47,hx0,hx1]
 refine hcall0 _ _ ?_
 simp(maxSteps:=2000000) (disch:=omega)only[wantedA,exec1,evalO,T.get_set,T.get_leaf,callA,mapO,ofOpt,ofConst,neNil9,reduceLT,reduceAdd,reduceEqDiff,if_true,if_false,true_and,List.getElem?_cons_succ,List.getElem?_cons_zero,List.nil_append,List.append_nil,Bool.false_eq_true,WR_op,WR_re2,execR_val2,execR_enter2,putRW_some2,retRW_ret2,againO,lookV,nb_get,st0_get,st0_next,cl1_box,List.length_cons,List.length_nil,Nat.zero_add,reduceLeDiff,List.take_succ_cons,List.take_zero,ez_P,neNil9,List.getElem?_cons_succ,yl61,yleY,hbrow,hc0,hf47,hbk1]
 refine hcall1 _ _ ?_
 simp(maxSteps:=2000000) (disch:=omega)only[W_ret,seqQ_normal2,seqQ_ret2,blockW_ret2,wantedA,exec1,evalO,T.get_set,T.get_leaf,ofOpt,finW_ret,giveW,resultsA,tupA,neNil9,reduceLT,reduceEqDiff,if_true,if_false,true_and,Bool.false_eq_true,WR_nil2,WR_op,execR_val2,putRW_some2,retRW_ret2,fixQ_normal2,ez_P,neNil9,hc1]
 exact fin _ _ rfl
theorem r12_k(e:PX)(d:Nat)(ho:okX d e)(hd:d≤4)(hk:e.kind=12)(H:∀x∈e.kids,KnZ 27 [exA x]):KnZ 27 [exA e]:=by
 have fin:∀(x:List UInt8) (S':St),x=txt e→∃a S'',R.ret (.v (.string ⟨⟨x⟩⟩)) S' = R.ret a S''∧freeV a=true∧SpecZ 27 [exA e] (clean a):=fun x S' h=>by
  refine⟨_,_,rfl,rfl,?_⟩
  intro e' d' q _ _
  simp only[List.cons.injEq,and_true]at q
  rw[← exA_inj _ _ q,← h]
  rfl
 cases e with
 |mk k ap nn nm off kids =>
 have hk:k=12:=hk
 subst hk
 cases d with
 |zero=>exact absurd ho (by simp[okX])
 |succ d =>
 simp only[okX]at ho
 obtain⟨_,hnn,_,hnm,hne,hok⟩:=ho
 have hfew:=needs_few hne
 have H:∀x∈kids,KnZ 27 [exA x]:=H
 have fin:∀(x:List UInt8) (S':St),x=textOf 12 nn nm off (txL kids)→∃a S'',R.ret (.v (.string ⟨⟨x⟩⟩)) S' = R.ret a S''∧freeV a=true∧SpecZ 27 [exA (.mk 12 ap nn nm off kids)] (clean a):=fin
 have he:exA (.mk 12 ap nn nm off kids)=.agg [i64A 12,i64A ap,i64A nn,strS nm,.v (.bool off),rowX kids]:=exA_mk ..
 have hd':d≤4:=by omega
 have hLB:=LB_le hd'
 have hlr:=rowX_lenR kids
 have hkl:=fun(i:Nat) (l:Int)=>kidT_len (txL_bound d kids hok) i l
 have htx:textOf 12 nn nm off (txL kids)=(((((([109,101,114,103,101,32] ++ nm) ++ [32,40]) ++ kidT (txL kids) 0 0) ++ [41,32,40]) ++ kidT (txL kids) 1 0) ++ [41]):=rfl
 rw[htx]at fin
 have hbrow:beqA (rowX kids) (rowX kids)=true:=beqA_rowX kids
 have hi0:0<kids.length:=by unfold needs at hne;omega
 have hm0:=List.getElem_mem hi0
 have hok0:=okL_get hok _ hm0
 have hx0:oIndexAddr Tryd.prog 61 (rowX kids) (.v (.int .i64 0))=some (.ep (exA kids[0]).cells):=rowX_idxR kids 0 hi0
 obtain⟨c00,c01,c02,c03,c04,c05,hagg0⟩:=ex_agg kids[0]
 have hcl0:(exA kids[0]).cells=[c00,c01,c02,c03,c04,c05]:=by rw[hagg0];rfl
 rw[hcl0]at hx0
 have hbk0:=beqA_ex kids[0]
 have hcall0:=fun(S:St) (Q:R→Prop) h=>call27 (S:=S) (Q:=Q) (H _ hm0) hok0 hd' h
 rw[← kidT_0 kids 0 hi0,hagg0]at hcall0
 have hks0:=hkl 0 0
 generalize kidT (txL kids) 0 0=s0 at *
 rw[hagg0]at hbk0
 have hi1:1<kids.length:=by unfold needs at hne;omega
 have hm1:=List.getElem_mem hi1
 have hok1:=okL_get hok _ hm1
 have hx1:oIndexAddr Tryd.prog 61 (rowX kids) (.v (.int .i64 1))=some (.ep (exA kids[1]).cells):=rowX_idxR kids 1 hi1
 obtain⟨c10,c11,c12,c13,c14,c15,hagg1⟩:=ex_agg kids[1]
 have hcl1:(exA kids[1]).cells=[c10,c11,c12,c13,c14,c15]:=by rw[hagg1];rfl
 rw[hcl1]at hx1
 have hbk1:=beqA_ex kids[1]
 have hcall1:=fun(S:St) (Q:R→Prop) h=>call27 (S:=S) (Q:=Q) (H _ hm1) hok1 hd' h
 rw[← kidT_0 kids 1 hi1,hagg1]at hcall1
 have hks1:=hkl 1 0
 generalize kidT (txL kids) 1 0=s1 at *
 rw[hagg1]at hbk1
 have hc0:=fb_catS ([109,101,114,103,101,32]) (nm) (by first |omega | (simp only[List.length_cons,List.length_nil];omega))
 have hc1:=fb_catS (([109,101,114,103,101,32] ++ nm)) ([32,40]) (by first |omega | (simp only[List.length_append,List.length_cons,List.length_nil];omega))
 have hc2:=fb_catS ((([109,101,114,103,101,32] ++ nm) ++ [32,40])) (s0) (by first |omega | (simp only[List.length_append,List.length_cons,List.length_nil];omega))
 have hc3:=fb_catS (((([109,101,114,103,101,32] ++ nm) ++ [32,40]) ++ s0)) ([41,32,40]) (by first |omega | (simp only[List.length_append,List.length_cons,List.length_nil];omega))
 have hc4:=fb_catS ((((([109,101,114,103,101,32] ++ nm) ++ [32,40]) ++ s0) ++ [41,32,40])) (s1) (by first |omega | (simp only[List.length_append,List.length_cons,List.length_nil];omega))
 have hc5:=fb_catS (((((([109,101,114,103,101,32] ++ nm) ++ [32,40]) ++ s0) ++ [41,32,40]) ++ s1)) ([41]) (by first |omega | (simp only[List.length_append,List.length_cons,List.length_nil];omega))
 rw[he]at fin ⊢
 refine bodyZ Tryd.f27 (by kernel_rfl) (by kernel_rfl) (show(_:Nat)≤_ from by show(_:Nat)≤_;simp[Tryd.f27]) ?_
 obtain⟨fn27,hf27⟩:=fnz_27
 have hbe:=beqA_ex (PX.mk 12 ap nn nm off kids)
 rw[he]at hbe
 have hbs:=beqA_st nm
 generalize rowX kids=row at *
 generalize hy6:(((((([109,101,114,103,101,32] ++ nm) ++ [32,40]) ++ s0) ++ [41,32,40]) ++ s1) ++ [41])=y6 at *
 generalize hy5:((((([109,101,114,103,101,32] ++ nm) ++ [32,40]) ++ s0) ++ [41,32,40]) ++ s1)=y5 at *
 generalize hy4:(((([109,101,114,103,101,32] ++ nm) ++ [32,40]) ++ s0) ++ [41,32,40])=y4 at *
 generalize hy3:((([109,101,114,103,101,32] ++ nm) ++ [32,40]) ++ s0)=y3 at *
 generalize hy2:(([109,101,114,103,101,32] ++ nm) ++ [32,40])=y2 at *
 generalize hy1:([109,101,114,103,101,32] ++ nm)=y1 at *
 simp only[strS,i64A]at *
 simp(maxSteps:=2000000) (disch:=omega)only[W_skip,W_region,W_drawn,W_seq,W_cond,W_block,W_ret,seqQ_normal2,seqQ_ret2,blockW_normal2,blockW_ret2,WL_nil2,WL_cons,execL_val2,putL_some2,condW_t2,condW_f2,wantedA,exec1,evalO,initT,T.get_set,T.get_leaf,callA,mapO,ofOpt,ofConst,neNil3,finW_ret,giveW,resultsA,tupA,fb_eqlI,neNil9,reduceLT,reduceAdd,reduceEqDiff,if_true,if_false,true_and,Option.getD_some,List.getElem?_cons_succ,List.getElem?_cons_zero,List.nil_append,List.append_nil,beq_self_eq_true,Bool.false_eq_true,nb_get,st0_get,st0_next,cl1_box,clN_box,List.length_cons,List.length_nil,Nat.zero_add,Nat.add_zero,reduceLeDiff,List.drop_zero,List.take_succ_cons,List.take_zero,noTup_agg,cells_agg,ez_P,ez_G,ez_F,neNil2,neNil3,neNil9,yl2,yl3,yl4,yl9,clN_box,cells_agg,initT,Int.reduceBEq,List.getElem?_cons_succ,yfY_0,yfY_2,yfY_3,yfY_4,yfY_5,ylY,yl61,yleY,Tryd.f27,hlr,hx0]
 refine WD_by [(0,true),(1,true),(2,true),(3,true),(4,true),(5,true),(6,true),(7,true),(11,true),(12,true),(13,true),(14,true),(8,true),(14,false),(12,false),(1,false),(9,true),(10,true),(15,true),(1,false),(16,true),(17,true),(18,true)] (by kernel_rfl) (by kernel_rfl) ?_
 simp(maxSteps:=2000000) (disch:=omega)only[wantedA,exec1,evalO,T.get_set,T.get_leaf,callA,mapO,ofOpt,ofConst,neNil9,reduceLT,reduceAdd,reduceEqDiff,if_true,if_false,true_and,List.getElem?_toArray,List.getElem?_cons_succ,List.getElem?_cons_zero,List.nil_append,List.append_nil,Bool.false_eq_true,WR_op,execR_val2,execR_enter2,putRW_some2,rsOf,nb_get,st0_get,st0_next,cl1_box,List.length_cons,List.length_nil,Nat.zero_add,reduceLeDiff,List.take_succ_cons,List.take_zero,ez_P,neNil9,yl9,List.getElem?_cons_succ,yfY_3,yfY_5,yl61,yleY,hc0,hc1,hf27,hx0,hx1]
 refine hcall0 _ _ ?_
 simp(maxSteps:=2000000) (disch:=omega)only[wantedA,exec1,evalO,T.get_set,T.get_leaf,callA,mapO,ofOpt,ofConst,neNil9,reduceLT,reduceAdd,reduceEqDiff,if_true,if_false,true_and,List.getElem?_cons_succ,List.getElem?_cons_zero,List.nil_append,List.append_nil,Bool.false_eq_true,WR_op,WR_re2,execR_val2,execR_enter2,putRW_some2,retRW_ret2,againO,lookV,nb_get,st0_get,st0_next,cl1_box,List.length_cons,List.length_nil,Nat.zero_add,reduceLeDiff,List.take_succ_cons,List.take_zero,ez_P,neNil9,yl9,List.getElem?_cons_succ,yl61,yleY,hbs,hbrow,hc2,hc3,hf27,hbk1]
 refine hcall1 _ _ ?_
 simp(maxSteps:=2000000) (disch:=omega)only[W_ret,seqQ_normal2,seqQ_ret2,blockW_ret2,wantedA,exec1,evalO,T.get_set,T.get_leaf,ofOpt,ofConst,finW_ret,giveW,resultsA,tupA,neNil9,reduceLT,reduceEqDiff,if_true,if_false,true_and,List.getElem?_cons_succ,List.getElem?_cons_zero,Bool.false_eq_true,WR_nil2,WR_op,WR_re2,execR_val2,putRW_some2,retRW_ret2,fixQ_normal2,againO,lookV,nb_get,st0_get,st0_next,cl1_box,ez_P,neNil9,yl9,List.getElem?_cons_succ,hbs,hc4,hc5]
 exact fin _ _ rfl
theorem r13_k(e:PX)(d:Nat)(ho:okX d e)(hd:d≤4)(hk:e.kind=13)(H:∀x∈e.kids,KnZ 27 [exA x]):KnZ 27 [exA e]:=by
 have fin:∀(x:List UInt8) (S':St),x=txt e→∃a S'',R.ret (.v (.string ⟨⟨x⟩⟩)) S' = R.ret a S''∧freeV a=true∧SpecZ 27 [exA e] (clean a):=fun x S' h=>by
  refine⟨_,_,rfl,rfl,?_⟩
  intro e' d' q _ _
  simp only[List.cons.injEq,and_true]at q
  rw[← exA_inj _ _ q,← h]
  rfl
 cases e with
 |mk k ap nn nm off kids =>
 have hk:k=13:=hk
 subst hk
 cases d with
 |zero=>exact absurd ho (by simp[okX])
 |succ d =>
 simp only[okX]at ho
 obtain⟨_,hnn,_,hnm,hne,hok⟩:=ho
 have hfew:=needs_few hne
 have H:∀x∈kids,KnZ 27 [exA x]:=H
 have fin:∀(x:List UInt8) (S':St),x=textOf 13 nn nm off (txL kids)→∃a S'',R.ret (.v (.string ⟨⟨x⟩⟩)) S' = R.ret a S''∧freeV a=true∧SpecZ 27 [exA (.mk 13 ap nn nm off kids)] (clean a):=fin
 have he:exA (.mk 13 ap nn nm off kids)=.agg [i64A 13,i64A ap,i64A nn,strS nm,.v (.bool off),rowX kids]:=exA_mk ..
 have hd':d≤4:=by omega
 have hLB:=LB_le hd'
 have hlr:=rowX_lenR kids
 have hkl:=fun(i:Nat) (l:Int)=>kidT_len (txL_bound d kids hok) i l
 have htx:textOf 13 nn nm off (txL kids)=(((nm ++ [40]) ++ rowT' (txL kids)) ++ [41]):=rfl
 rw[htx]at fin
 have hbrow:beqA (rowX kids) (rowX kids)=true:=beqA_rowX kids
 have hrl:=rowT_len (txL_bound d kids hok) (by rw[txL_len];exact hfew)
 have hcallR:=fun(S:St) (Q:R→Prop) h=>call49 (S:=S) (Q:=Q) hok hd' hfew H h
 generalize rowT' (txL kids)=sR at *
 have hc0:=fb_catS (nm) ([40]) (by first |omega | (simp only[List.length_cons,List.length_nil];omega))
 have hc1:=fb_catS ((nm ++ [40])) (sR) (by first |omega | (simp only[List.length_append,List.length_cons,List.length_nil];omega))
 have hc2:=fb_catS (((nm ++ [40]) ++ sR)) ([41]) (by first |omega | (simp only[List.length_append,List.length_cons,List.length_nil];omega))
 rw[he]at fin ⊢
 refine bodyZ Tryd.f27 (by kernel_rfl) (by kernel_rfl) (show(_:Nat)≤_ from by show(_:Nat)≤_;simp[Tryd.f27]) ?_
 obtain⟨fn49,hf49⟩:=fnz_49
 have hbe:=beqA_ex (PX.mk 13 ap nn nm off kids)
 rw[he]at hbe
 have hbs:=beqA_st nm
 generalize rowX kids=row at *
 generalize hy3:(((nm ++ [40]) ++ sR) ++ [41])=y3 at *
 generalize hy2:((nm ++ [40]) ++ sR)=y2 at *
 generalize hy1:(nm ++ [40])=y1 at *
 simp only[strS,i64A]at *
 simp(maxSteps:=2000000) (disch:=omega)only[W_skip,W_region,W_drawn,W_seq,W_cond,W_block,W_ret,seqQ_normal2,seqQ_ret2,blockW_normal2,blockW_ret2,WL_nil2,WL_cons,execL_val2,putL_some2,condW_t2,condW_f2,wantedA,exec1,evalO,initT,T.get_set,T.get_leaf,callA,mapO,ofOpt,ofConst,neNil3,finW_ret,giveW,resultsA,tupA,fb_eqlI,neNil9,reduceLT,reduceAdd,reduceEqDiff,if_true,if_false,true_and,Option.getD_some,List.getElem?_cons_succ,List.getElem?_cons_zero,List.nil_append,List.append_nil,beq_self_eq_true,Bool.false_eq_true,nb_get,st0_get,st0_next,cl1_box,clN_box,List.length_cons,List.length_nil,Nat.zero_add,Nat.add_zero,reduceLeDiff,List.drop_zero,List.take_succ_cons,List.take_zero,noTup_agg,cells_agg,ez_P,ez_G,ez_F,neNil2,neNil3,neNil9,yl2,yl3,yl4,yl9,clN_box,cells_agg,initT,Int.reduceBEq,List.getElem?_cons_succ,yfY_0,yfY_2,yfY_3,yfY_4,yfY_5,ylY,yl61,Tryd.f27,hlr]
 refine WD_by [(0,true),(1,true),(2,true),(3,true),(4,true),(5,true),(1,false),(6,true),(7,true),(8,true)] (by kernel_rfl) (by kernel_rfl) ?_
 simp(maxSteps:=2000000) (disch:=omega)only[wantedA,exec1,evalO,T.get_set,T.get_leaf,callA,mapO,ofOpt,ofConst,neNil9,reduceLT,reduceEqDiff,if_true,if_false,true_and,List.getElem?_toArray,List.getElem?_cons_succ,List.getElem?_cons_zero,List.nil_append,List.append_nil,Bool.false_eq_true,WR_op,execR_val2,execR_enter2,putRW_some2,rsOf,nb_get,st0_get,st0_next,cl1_box,Nat.zero_add,ez_P,neNil9,yl9,List.getElem?_cons_succ,yfY_3,yfY_5,yl61,hc0,hf49]
 refine hcallR _ _ ?_
 simp(maxSteps:=2000000) (disch:=omega)only[W_ret,seqQ_normal2,seqQ_ret2,blockW_ret2,wantedA,exec1,evalO,T.get_set,T.get_leaf,ofOpt,ofConst,finW_ret,giveW,resultsA,tupA,neNil9,reduceLT,reduceEqDiff,if_true,if_false,true_and,List.getElem?_cons_succ,List.getElem?_cons_zero,Bool.false_eq_true,WR_nil2,WR_op,WR_re2,execR_val2,putRW_some2,retRW_ret2,fixQ_normal2,againO,lookV,nb_get,st0_get,st0_next,cl1_box,ez_P,neNil9,yl9,List.getElem?_cons_succ,hbs,hc1,hc2]
 exact fin _ _ rfl
end Go.Ax
