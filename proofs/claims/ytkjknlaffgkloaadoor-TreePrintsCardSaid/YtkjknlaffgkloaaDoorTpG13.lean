/- TtP -/
import Derived.Test.YtkjknlaffgkloaaDoorTpG11
import Derived.Test.YtkjknlaffgkloaaDoorTpG12
import Derived.Test.YtkjknlaffgkloaaDoorTpG10
import Derived.Lib.ItoaLen
import Derived.IntWalk
set_option linter.unusedVariables false
set_option linter.unusedSimpArgs false
set_option maxHeartbeats 16000000
noncomputable section
open Nat (reduceLT reduceAdd reduceEqDiff reduceLeDiff)
namespace Go.Ax
open Go.RowKit Go.Proofs
set_option maxRecDepth 100000
theorem call27{e:PX}{d:Nat}{S:St}{Q:R→Prop}(hk:KnZ 27 [exA e])(ho:okX d e)(hd:d≤4)(h:Q (.ret (strS (txt e)) S)):WC EZ 27 [exA e] S Q :=
 callZ hk (by kernel_rfl) (by show(freeV (exA e) && true)=true;rw[(exA_fr e).1];rfl) (by show [clean (exA e)]=_;rw[(exA_fr e).2]) fun a _ _ hs=>by
  have:=hs e d rfl ho hd
  subst this
  exact h
theorem call48{e:PX}{d:Nat}{S:St}{Q:R→Prop}(ho:okX d e)(h:Q (.ret (i64A (bndX e)) S)):WC EZ 48 [exA e] S Q:=by
 have hk:=okX_kind ho
 cases e with
 |mk k a n nm off kids =>
  have hf:=exA_fr (.mk k a n nm off kids)
  rw[exA_mk]at hf ⊢
  exact callZ (rbnd_k k n nm (i64A a) (.v (.bool off)) (rowX kids) hk) (by kernel_rfl) (by show(freeV (.agg _) && true)=true;rw[hf.1];rfl) (by show [clean (.agg _)]=_;rw[hf.2]) fun x _ _ hs=>by
   have:=hs k (i64A a) n nm (.v (.bool off)) (rowX kids) rfl hk
   subst this
   exact h
def kidF(e:PX)(least:Int):List UInt8:=if bndX e<least then parT (txt e)else txt e
theorem ex_agg(e:PX):∃c0 c1 c2 c3 c4 c5,exA e=.agg [c0,c1,c2,c3,c4,c5]:=by
 cases e with
 |mk k1 a1 n1 nm1 off1 kids1=>exact⟨_,_,_,_,_,_,exA_mk ..⟩
theorem rkid_k(e:PX)(least:Int)(d:Nat)(ho:okX d e)(hd:d≤4)(H:KnZ 27 [exA e]):KnZ 47 [exA e,i64A least]:=by
 have fin:∀(x:List UInt8) (S':St),x=kidF e least→∃a S'',R.ret (.v (.string ⟨⟨x⟩⟩)) S' = R.ret a S''∧freeV a=true∧SpecZ 47 [exA e,i64A least] (clean a):=fun x S' h=>by
  refine⟨_,_,rfl,rfl,?_⟩
  intro e' least' d' q _ _
  simp only[List.cons.injEq,and_true,i64A,AV.v.injEq,Value.int.injEq,true_and]at q
  obtain⟨q1,q2⟩:=q
  rw[← exA_inj _ _ q1,← q2]
  show strS x=strS (kidF e least)
  rw[h]
 have hlen:=txt_len _ _ ho
 have hLB:=LB_le hd
 obtain⟨c0,c1,c2,c3,c4,c5,hagg⟩:=ex_agg e
 have hc1:=fb_catS [40] (txt e) (by simp only[List.length_cons,List.length_nil];omega)
 have hc2:=fb_catS ([40] ++ txt e) [41] (by simp only[List.length_append,List.length_cons,List.length_nil];omega)
 have hcall48:=fun(S:St) (Q:R→Prop) h=>call48 (S:=S) (Q:=Q) ho h
 have hcall27:=fun(S:St) (Q:R→Prop) h=>call27 (S:=S) (Q:=Q) H ho hd h
 rw[hagg]at fin hcall48 hcall27 ⊢
 refine bodyZ Tryd.f47 (by kernel_rfl) (by kernel_rfl) (show(_:Nat)≤_ from by show(_:Nat)≤_;simp[Tryd.f47]) ?_
 obtain⟨fn1,hf1⟩:=fnz_27
 obtain⟨fn2,hf2⟩:=fnz_48
 have hpar:parT (txt e)=([40] ++ txt e) ++ [41]:=rfl
 unfold kidF at fin
 generalize ([40] ++ txt e) ++ [41]=y2 at *
 generalize [40] ++ txt e=y1 at *
 simp only[strS,i64A]at *
 simp(maxSteps:=2000000) (disch:=omega)only[W_region,W_seq,seqQ_normal2,WL_nil2,WL_cons,execL_val2,execL_enter2,putL_some2,wantedA,exec1,evalO,initT,T.get_set,T.get_leaf,callA,mapO,ofOpt,ofConst,reduceLT,reduceAdd,reduceEqDiff,if_true,if_false,true_and,Option.getD_some,List.nil_append,List.append_nil,nb_get,st0_get,st0_next,clN_box,List.length_cons,List.length_nil,Nat.zero_add,reduceLeDiff,List.drop_zero,List.take_succ_cons,List.take_zero,noTup_agg,cells_agg,ez_P,clN_box,cells_agg,initT,ylY,Tryd.f47,hf2]
 refine hcall48 _ _ ?_
 by_cases hb:bndX e<least
 ·have hlt:decide (bndX e<least)=true:=decide_eq_true hb
  rw[if_pos hb,hpar]at fin
  simp(maxSteps:=2000000) (disch:=omega)only[W_skip,W_region,W_seq,W_cond,seqQ_normal2,WL_nil2,WL_cons,execL_val2,execL_enter2,putL_some2,retL_ret2,condW_t2,wantedA,exec1,evalO,T.get_set,T.get_leaf,callA,mapO,ofOpt,neNil3,fb_lss,reduceLT,reduceAdd,reduceEqDiff,if_true,if_false,true_and,List.nil_append,List.append_nil,Bool.false_eq_true,nb_get,st0_get,st0_next,clN_box,List.length_cons,List.length_nil,Nat.zero_add,reduceLeDiff,List.drop_zero,List.take_succ_cons,List.take_zero,ez_P,neNil3,clN_box,ylY,hf1,hlt]
  refine hcall27 _ _ ?_
  simp(maxSteps:=2000000) (disch:=omega)only[W_ret,seqQ_normal2,seqQ_ret2,WL_nil2,WL_cons,execL_val2,putL_some2,retL_ret2,wantedA,exec1,evalO,T.get_set,T.get_leaf,ofOpt,ofConst,finW_ret,giveW,resultsA,tupA,neNil9,reduceLT,reduceEqDiff,if_true,if_false,true_and,Bool.false_eq_true,ez_P,neNil9,hc1,hc2]
  exact fin _ _ rfl
 ·have hlt:decide (bndX e<least)=false:=decide_eq_false hb
  rw[if_neg hb]at fin
  simp(maxSteps:=2000000) (disch:=omega)only[W_skip,W_region,W_seq,W_cond,seqQ_normal2,WL_nil2,WL_cons,execL_val2,execL_enter2,putL_some2,retL_ret2,condW_f2,wantedA,exec1,evalO,T.get_set,T.get_leaf,callA,mapO,ofOpt,neNil3,fb_lss,reduceLT,reduceAdd,reduceEqDiff,if_true,if_false,true_and,List.nil_append,List.append_nil,Bool.false_eq_true,nb_get,st0_get,st0_next,clN_box,List.length_cons,List.length_nil,Nat.zero_add,reduceLeDiff,List.drop_zero,List.take_succ_cons,List.take_zero,ez_P,neNil3,clN_box,ylY,hf1,hlt]
  refine hcall27 _ _ ?_
  simp(maxSteps:=2000000) (disch:=omega)only[W_ret,seqQ_normal2,WL_nil2,WL_cons,execL_val2,putL_some2,retL_ret2,wantedA,exec1,evalO,T.get_set,T.get_leaf,ofOpt,finW_ret,giveW,resultsA,tupA,reduceLT,reduceEqDiff,if_true,if_false,true_and]
  exact fin _ _ rfl
theorem call47{e:PX}{least:Int}{d:Nat}{S:St}{Q:R→Prop}(H:KnZ 27 [exA e])(ho:okX d e)(hd:d≤4)(h:Q (.ret (strS (kidF e least)) S)):WC EZ 47 [exA e,i64A least] S Q :=
 callZ (rkid_k e least d ho hd H) (by kernel_rfl) (by show(freeV (exA e) && true)=true;rw[(exA_fr e).1];rfl) (by show [clean (exA e),_]=_;rw[(exA_fr e).2];rfl) fun a _ _ hs=>by
  have:=hs e least d rfl ho hd
  subst this
  exact h
theorem jt_snoc(s:List UInt8)(r:List (List UInt8))(w:List UInt8):Lib.joinTail s (r ++ [w])=Lib.joinTail s r ++ (s ++ w):=by
 unfold Lib.joinTail;simp
theorem join_snoc(s:List UInt8)(r:List (List UInt8))(w:List UInt8)(h:r≠[]):Lib.join (r ++ [w]) s=(Lib.join r s ++ s) ++ w:=by
 cases r with
 |nil=>exact absurd rfl h
 |cons x r=>rw[List.cons_append,Lib.join_cons,Lib.join_cons,jt_snoc];simp only[List.append_assoc]
def rowS(l:List PX)(j:Nat):List UInt8:=Lib.join ((l.take j).map txt) [44,32]
theorem rowS_step(l:List PX)(j:Nat)(h:j<l.length):rowS l (j+1)=if j=0 then txt l[j]else(rowS l j ++ [44,32]) ++ txt l[j]:=by
 unfold rowS
 rw[List.take_succ_eq_append_getElem h,List.map_append]
 by_cases hj:j=0
 ·subst hj
  rw[if_pos rfl]
  show Lib.join [txt l[0]] _=_
  rw[Lib.join_one]
 ·rw[if_neg hj]
  refine join_snoc _ _ _ fun e=>?_
  have:=congrArg List.length e
  rw[List.length_map,List.length_take]at this
  simp only[List.length_nil]at this
  omega
theorem rowS_len{l:List PX}{d:Nat}(ho:okL d l)(hd:d≤4)(hl:l.length≤10)(j:Nat):(rowS l j).length≤10000000:=by
 unfold rowS
 have h:=join_le [44,32] (LB d) ((l.take j).map txt) fun x hx=>by
  obtain⟨e,he,rfl⟩:=List.mem_map.1 hx
  exact txt_len d e (okL_get ho e (List.mem_of_mem_take he))
 have h2:((l.take j).map txt).length≤10:=by rw[List.length_map,List.length_take];omega
 have h3:=Nat.mul_le_mul h2 (Nat.le_refl (([44,32]:List UInt8).length+LB d))
 have h4:=LB_le hd
 simp only[List.length_cons,List.length_nil]at h h3
 omega
def rwLB:Code:=match Tryd.f49.body with
 |some (.seq _ (.seq _ (.seq (.seq _ (.block _ (.loop c))) _)))=>c
 |_=>.skip
theorem rw_lp{l:List PX}{d:Nat}(ho:okL d l)(hd:d≤4)(hl:l.length≤10)(H:∀x∈l,KnZ 27 [exA x]):∀(n j:Nat) (t:T AV) (S:St),j+n=l.length→t.get 3=some (.v (.string ⟨⟨rowS l j⟩⟩))→t.get 6=some (rowX l)→t.get 7=some (.v (.int .i64 ((l.length:Nat):Int)))→t.get 8=some (.v (.int .i64 ((j:Nat):Int))) →
  WX EZ 23 (.loop rwLB) ⟨t,[]⟩ S (fun r=>∃t' S',r=.out (.exit 0) ⟨t',[]⟩ S'∧t'.get 3=some (.v (.string ⟨⟨rowS l l.length⟩⟩)))
 |0,j,t,S,hj,T3,T6,T7,T8=>by
  refine WX_loop (W_sound ?_)
  have hlt:decide ((j:Int)<(l.length:Int))=false:=by rw[decide_eq_false_iff_not];omega
  have hjl:j=l.length:=by omega
  rw[hjl]at T3
  generalize rowS l l.length=rs at *
  simp(maxSteps:=2000000) (disch:=omega)only[thenW_exit,W_skip,W_region,W_seq,W_cond,W_block,W_exit,seqQ_normal2,seqQ_exit2,WL_nil2,WL_cons,execL_val2,putL_some2,condW_f2,wantedA,exec1,evalO,T.get_set,ofOpt,neNil3,fb_lss,reduceLT,reduceEqDiff,if_true,if_false,true_and,Bool.false_eq_true,ez_P,neNil3,rwLB,Tryd.f49,T6,T7,T8,hlt]
  exact⟨_,_,rfl,by simp only[T.get_set,reduceEqDiff,if_false,T3]⟩
 |n+1,j,t,S,hj,T3,T6,T7,T8=>by
  refine WX_loop (W_sound ?_)
  have hjl:j<l.length:=by omega
  have hlt:decide ((j:Int)<(l.length:Int))=true:=by rw[decide_eq_true_eq];omega
  have hws:=wrapS j (by omega)
  have hx:=rowX_idxR l j hjl
  have hmem:=List.getElem_mem hjl
  have hok:=okL_get ho _ hmem
  obtain⟨fn1,hf1⟩:=fnz_27
  obtain⟨c0,c1,c2,c3,c4,c5,hagg⟩:=ex_agg l[j]
  have hcl:(exA l[j]).cells=[c0,c1,c2,c3,c4,c5]:=by rw[hagg];rfl
  rw[hcl]at hx
  have hcall:=fun(S:St) (Q:R→Prop) h=>call27 (S:=S) (Q:=Q) (H _ hmem) hok hd h
  rw[hagg]at hcall
  have hst:=rowS_step l j hjl
  have hl1:=rowS_len ho hd hl j
  have hl2:=txt_len _ _ hok
  have hLB:=LB_le hd
  have fin:=fun(t':T AV) (S':St)=>rw_lp ho hd hl H n (j+1) t' S' (by omega)
  generalize rowX l=row at *
  generalize txt l[j]=tj at *
  generalize rowS l (j+1)=nw at *
  by_cases hj0:j=0
  ·have hgt:decide ((j:Int) > 0)=false:=by rw[decide_eq_false_iff_not];omega
   have hrs:rowS l j=[]:=by rw[hj0];rfl
   rw[if_pos hj0]at hst
   rw[hrs]at T3
   have hc:=fb_catS [] nw (by rw[hst];simp only[List.length_nil];omega)
   rw[← hst]at hcall
   simp only[List.nil_append]at hc
   simp(maxSteps:=2000000) (disch:=omega)only[thenW_exit,W_skip,W_region,W_seq,W_cond,W_block,W_exit,seqQ_normal2,seqQ_exit2,WL_nil2,WL_cons,execL_val2,execL_skip2,execL_enter2,putL_none2,putL_some2,condW_t2,condW_f2,wantedA,exec1,evalO,T.get_set,callA,mapO,ofOpt,ofOptS,ofConst,neNil3,fb_lss,fb_gtr,neNil9,reduceLT,reduceAdd,reduceEqDiff,if_true,if_false,true_and,List.nil_append,List.append_nil,Bool.false_eq_true,to_get,nb_get,clN_box,vstB_agg,List.length_cons,List.length_nil,Nat.zero_add,reduceLeDiff,List.drop_zero,List.drop_succ_cons,List.drop_nil,List.take_succ_cons,List.take_zero,and_self,ez_P,ez_G,strS,neNil3,neNil9,clN_box,yleY,ysY,yaY,ylY,rwLB,Tryd.f49,T3,T6,T7,T8,hlt,hx,hgt,hf1]
   refine hcall _ _ ?_
   unfold strS
   simp(maxSteps:=2000000) (disch:=omega)only[thenW_normal,W_region,seqQ_normal2,blockW_normal2,WL_nil2,WL_cons,execL_val2,putL_some2,retL_ret2,wantedA,exec1,evalO,T.get_set,ofOpt,ofConst,neNil3,fb_add,neNil9,reduceLT,reduceEqDiff,if_true,if_false,true_and,Bool.false_eq_true,ez_P,neNil3,neNil9,T8,hws,hc]
   refine fin _ _ ?_ ?_ ?_ ?_
   ·simp only[T.get_set,reduceEqDiff,if_true,if_false]
   ·simp only[T.get_set,reduceEqDiff,if_false,T6]
   ·simp only[T.get_set,reduceEqDiff,if_false,T7]
   ·simp only[T.get_set,reduceEqDiff,if_true,if_false]
  ·have hgt:decide ((j:Int) > 0)=true:=by rw[decide_eq_true_eq];omega
   rw[if_neg hj0]at hst
   generalize rowS l j=rs at *
   have hc:=fb_catS rs [44,32] (by simp only[List.length_cons,List.length_nil];omega)
   have hc2:=fb_catS (rs ++ [44,32]) tj (by simp only[List.length_append,List.length_cons,List.length_nil];omega)
   rw[← hst]at hc2
   generalize rs ++ [44,32]=y1 at *
   simp(maxSteps:=2000000) (disch:=omega)only[thenW_exit,W_skip,W_region,W_seq,W_cond,W_block,W_exit,seqQ_normal2,seqQ_exit2,WL_nil2,WL_cons,execL_val2,execL_skip2,execL_enter2,putL_none2,putL_some2,condW_t2,wantedA,exec1,evalO,T.get_set,callA,mapO,ofOpt,ofOptS,ofConst,neNil3,fb_lss,fb_gtr,neNil9,reduceLT,reduceAdd,reduceEqDiff,if_true,if_false,true_and,List.nil_append,List.append_nil,Bool.false_eq_true,to_get,nb_get,clN_box,vstB_agg,List.length_cons,List.length_nil,Nat.zero_add,reduceLeDiff,List.drop_zero,List.drop_succ_cons,List.drop_nil,List.take_succ_cons,List.take_zero,and_self,ez_P,strS,neNil3,neNil9,clN_box,yleY,ysY,yaY,ylY,rwLB,Tryd.f49,T3,T6,T7,T8,hlt,hx,hgt,hf1,hc]
   refine hcall _ _ ?_
   unfold strS
   simp(maxSteps:=2000000) (disch:=omega)only[thenW_normal,W_region,seqQ_normal2,blockW_normal2,WL_nil2,WL_cons,execL_val2,putL_some2,retL_ret2,wantedA,exec1,evalO,T.get_set,ofOpt,ofConst,neNil3,fb_add,neNil9,reduceLT,reduceEqDiff,if_true,if_false,true_and,Bool.false_eq_true,ez_P,neNil3,neNil9,T8,hws,hc2]
   refine fin _ _ ?_ ?_ ?_ ?_
   ·simp only[T.get_set,reduceEqDiff,if_true,if_false]
   ·simp only[T.get_set,reduceEqDiff,if_false,T6]
   ·simp only[T.get_set,reduceEqDiff,if_false,T7]
   ·simp only[T.get_set,reduceEqDiff,if_true,if_false]
theorem row_k(l:List PX)(d:Nat)(ho:okL d l)(hd:d≤4)(hl:l.length≤10)(H:∀x∈l,KnZ 27 [exA x]):KnZ 49 [rowX l]:=by
 have hrow:rowT' (txL l)=rowS l l.length:=by unfold rowT' rowS;rw[txts_is,List.take_of_length_le (Nat.le_refl _)]
 have fin:∀(x:List UInt8) (S':St),x=rowS l l.length→∃a S'',R.ret (.v (.string ⟨⟨x⟩⟩)) S' = R.ret a S''∧freeV a=true∧SpecZ 49 [rowX l] (clean a):=fun x S' h=>by
  refine⟨_,_,rfl,rfl,?_⟩
  intro l' d' q _ _ _
  simp only[List.cons.injEq,and_true]at q
  rw[← exL_inj _ _ (rowX_eq q),hrow,← h]
  rfl
 have hlr:=rowX_lenR l
 have lp:=fun t S=>rw_lp ho hd hl H l.length 0 t S (by omega)
 unfold rwLB at lp
 simp only[Tryd.f49]at lp
 have hr0:rowS l 0=[]:=rfl
 rw[hr0]at lp
 refine bodyZ Tryd.f49 (by kernel_rfl) (by kernel_rfl) (show(_:Nat)≤_ from by show(_:Nat)≤_;simp[Tryd.f49]) ?_
 generalize rowX l=row at *
 generalize rowS l l.length=rs at *
 simp(maxSteps:=2000000) (disch:=omega)only[W_region,W_seq,W_block,W_loop,seqQ_normal2,WL_nil2,WL_cons,execL_val2,putL_some2,wantedA,exec1,evalO,initT,T.get_set,T.get_leaf,callA,ofOpt,ofConst,reduceLT,reduceEqDiff,if_true,if_false,true_and,Option.getD_some,ez_P,initT,Tryd.f49,hlr]
 refine WX.mono (lp _ _ ?_ ?_ ?_ ?_) ?_
 ·simp only[T.get_set,T.get_leaf,reduceEqDiff,if_true,if_false] <;> rfl
 ·simp only[T.get_set,T.get_leaf,reduceEqDiff,if_true,if_false] <;> rfl
 ·simp only[T.get_set,T.get_leaf,reduceEqDiff,if_true,if_false] <;> rfl
 ·simp only[T.get_set,T.get_leaf,reduceEqDiff,if_true,if_false] <;> rfl
 rintro _ ⟨t',S',rfl,T3⟩
 simp(maxSteps:=2000000) (disch:=omega)only[W_region,W_seq,W_ret,seqQ_normal2,seqQ_exit2,blockW_exit2,WL_nil2,WL_cons,execL_val2,putL_some2,wantedA,exec1,evalO,T.get_set,ofOpt,finW_ret,giveW,resultsA,tupA,reduceLT,reduceEqDiff,if_true,if_false,true_and,T3]
 exact fin _ _ rfl
theorem call49{l:List PX}{d:Nat}{S:St}{Q:R→Prop}(ho:okL d l)(hd:d≤4)(hl:l.length≤10)(H:∀x∈l,KnZ 27 [exA x])(h:Q (.ret (strS (rowT' (txL l))) S)):WC EZ 49 [rowX l] S Q :=
 callZ (row_k l d ho hd hl H) (by kernel_rfl) (by show(freeV (rowX l) && true)=true;rw[(rowX_fr l).1];rfl) (by show [clean (rowX l)]=_;rw[(rowX_fr l).2]) fun a _ _ hs=>by
  have:=hs l d rfl ho hd hl
  subst this
  exact h
end Go.Ax
noncomputable section
open Nat (reduceLT reduceAdd reduceEqDiff reduceLeDiff)
namespace Go.Ax
open Go.RowKit Go.Proofs
set_option maxRecDepth 100000
theorem erow_len{v:AV}{l:List PDc}(h:isRowA 6 v (l.map dcA))(S:St):oLen Tryd.prog S 24 v=some l.length:=by
 rcases h with⟨rfl,h⟩ | ⟨tok,off,rfl⟩
 ·rw[List.map_eq_nil_iff.1 h];exact ynnE S
 ·rw[ynE,List.length_map]
theorem erow_idx{v:AV}{l:List PDc}(h:isRowA 6 v (l.map dcA))(j:Nat)(hj:j<l.length):oIndexAddr Tryd.prog 24 v (.v (.int .i64 (j:Int)))=some (.ep [strS l[j].name,i64A l[j].at_,.v (.bool l[j].bool),.v (.bool l[j].fut),strS l[j].clock,.v (.bool l[j].off)]):=by
 rcases h with⟨rfl,h⟩ | ⟨tok,off,rfl⟩
 ·rw[List.map_eq_nil_iff.1 h]at hj;exact absurd hj (Nat.not_lt_zero _)
 ·rw[yxE tok off _ j (by rw[List.length_map];exact hj),List.getElem_map];rfl
def rowD(l:List PDc)(s:List UInt8)(j:Nat):List UInt8:=Lib.join ((l.take j).map declF) s
theorem rowD_step(l:List PDc)(s:List UInt8)(j:Nat)(h:j<l.length):rowD l s (j+1)=(if j=0 then []else rowD l s j ++ s) ++ declF l[j]:=by
 unfold rowD
 rw[List.take_succ_eq_append_getElem h,List.map_append]
 by_cases hj:j=0
 ·subst hj
  rw[if_pos rfl]
  show Lib.join [declF l[0]] _=_
  rw[Lib.join_one];rfl
 ·rw[if_neg hj]
  refine join_snoc _ _ _ fun e=>?_
  have:=congrArg List.length e
  rw[List.length_map,List.length_take]at this
  simp only[List.length_nil]at this
  omega
theorem rowD_len{l:List PDc}(hok:∀d∈l,okDc d)(hl:l.length≤10){s:List UInt8}(hs:s.length≤10)(j:Nat):(rowD l s j).length≤1000000 :=
 decls_len (fun d hd=>hok d (List.mem_of_mem_take hd)) (by rw[List.length_take];omega) hs
def rdLB:Code:=match Tryd.f26.body with
 |some (.seq _ (.seq _ (.seq (.seq _ (.block _ (.loop c))) _)))=>c
 |_=>.skip
theorem rd_lp{v:AV}{l:List PDc}(hv:isRowA 6 v (l.map dcA))(hok:∀d∈l,okDc d)(hl:l.length≤10){s:List UInt8}(hs:s.length≤10):∀(n j:Nat) (t:T AV) (S:St),j+n=l.length→t.get 1=some (.v (.string ⟨⟨s⟩⟩))→t.get 5=some (.v (.string ⟨⟨rowD l s j⟩⟩))→t.get 8=some v→t.get 9=some (.v (.int .i64 ((l.length:Nat):Int)))→t.get 10=some (.v (.int .i64 ((j:Nat):Int))) →
  WX EZ 53 (.loop rdLB) ⟨t,[]⟩ S (fun r=>∃t' S',r=.out (.exit 0) ⟨t',[]⟩ S'∧t'.get 5=some (.v (.string ⟨⟨rowD l s l.length⟩⟩)))
 |0,j,t,S,hj,T1,T5,T8,T9,T10=>by
  refine WX_loop (W_sound ?_)
  have hlt:decide ((j:Int)<(l.length:Int))=false:=by rw[decide_eq_false_iff_not];omega
  have hjl:j=l.length:=by omega
  rw[hjl]at T5
  generalize rowD l s l.length=rs at *
  simp(maxSteps:=2000000) (disch:=omega)only[thenW_exit,W_skip,W_region,W_seq,W_cond,W_block,W_exit,seqQ_normal2,seqQ_exit2,WL_nil2,WL_cons,execL_val2,putL_some2,condW_f2,wantedA,exec1,evalO,T.get_set,ofOpt,neNil3,fb_lss,reduceLT,reduceEqDiff,if_true,if_false,true_and,Bool.false_eq_true,ez_P,neNil3,rdLB,Tryd.f26,T8,T9,T10,hlt]
  exact⟨_,_,rfl,by simp only[T.get_set,reduceEqDiff,if_false,T5]⟩
 |n+1,j,t,S,hj,T1,T5,T8,T9,T10=>by
  refine WX_loop (W_sound ?_)
  have hjl:j<l.length:=by omega
  have hlt:decide ((j:Int)<(l.length:Int))=true:=by rw[decide_eq_true_eq];omega
  have hws:=wrapS j (by omega)
  have hx:=erow_idx hv j hjl
  have hd:=hok _ (List.getElem_mem hjl)
  obtain⟨fn1,hf1⟩:=fnz_45
  have hst:=rowD_step l s j hjl
  have hl1:=rowD_len hok hl hs j
  have fin:=fun(t':T AV) (S':St)=>rd_lp hv hok hl hs n (j+1) t' S' (by omega)
  generalize l[j]=dj at *
  obtain⟨nm,at0,bb,ff,ck,off⟩:=dj
  simp only at hx
  have hd1:nm.length≤30:=hd.1
  have hd2:ck.length≤30:=hd.2
  have h1:=type_len bb ff
  have hdf:declF ⟨nm,at0,bb,ff,ck,off⟩=if ck=[]then(nm ++ [58,32]) ++ typeF bb ff else((nm ++ [58,32]) ++ typeF bb ff) ++ whenF ck off:=rfl
  rw[hdf]at hst
  have hc1:=fb_catS nm [58,32] (by first |omega | (simp only[List.length_cons,List.length_nil];omega))
  have hc2:=fb_catS (nm ++ [58,32]) (typeF bb ff) (by first |omega | (simp only[List.length_append,List.length_cons,List.length_nil];omega))
  have hty:=fun(S:St) (Q:R→Prop) h=>rty_u (S:=S) (Q:=Q) (bb:=bb) (ff:=ff) h
  have hbs:=beqA_st nm
  have hbb:beqA (.v (.bool bb)) (.v (.bool bb))=true:=by simp[beqA,eqS]
  have hbf:beqA (.v (.bool ff)) (.v (.bool ff))=true:=by simp[beqA,eqS]
  generalize typeF bb ff=tf at *
  have hyl:((nm ++ [58,32]) ++ tf).length≤50:=(by first |omega | (simp only[List.length_append,List.length_cons,List.length_nil];omega))
  generalize hy2:(nm ++ [58,32]) ++ tf=y2 at *
  generalize nm ++ [58,32]=y1 at *
  generalize rowD l s (j+1)=nw at *
  simp only[strS,i64A]at *
  by_cases hj0:j=0
  ·have hgt:decide ((j:Int) > 0)=false:=by rw[decide_eq_false_iff_not];omega
   have hrs:rowD l s j=[]:=by rw[hj0];rfl
   rw[if_pos hj0]at hst
   rw[hrs]at T5
   have hbr:=beqA_st ([]:List UInt8)
   have hc3:=fb_catS [] y2 (by first |omega | (simp only[List.length_nil];omega))
   simp only[List.nil_append]at hc3 hst
   by_cases hck:ck=[]
   ·have hne:decide (ck=[])=true:=decide_eq_true hck
    rw[if_pos hck]at hst
    subst hst
    simp(maxSteps:=2000000) (disch:=omega)only[thenW_exit,W_skip,W_region,W_drawn,W_seq,W_cond,W_block,W_exit,seqQ_normal2,seqQ_exit2,WL_nil2,WL_cons,execL_val2,execL_skip2,putL_none2,putL_some2,condW_t2,condW_f2,wantedA,exec1,evalO,T.get_set,ofOpt,ofOptS,ofConst,neNil3,fb_lss,fb_gtr,neNil9,reduceLT,reduceAdd,reduceEqDiff,if_true,if_false,true_and,List.nil_append,List.append_nil,Bool.false_eq_true,nb_get,vstB_agg,List.length_cons,List.length_nil,Nat.zero_add,reduceLeDiff,List.drop_succ_cons,List.drop_nil,List.take_succ_cons,List.take_zero,and_self,ez_P,ez_G,strS,neNil3,neNil9,yleEc,ysEc,yaEc,nb_get,rdLB,Tryd.f26,T1,T5,T8,T9,T10,hlt,hx,hgt]
    refine WD_by [(0,true),(1,true),(2,true),(3,true),(4,true),(5,true),(6,true),(7,true),(8,true),(2,false),(9,true),(10,true),(11,true)] (by kernel_rfl) (by kernel_rfl) ?_
    simp(maxSteps:=2000000) (disch:=omega)only[wantedA,exec1,evalO,T.get_set,callA,mapO,ofOpt,ofConst,neNil9,reduceLT,reduceEqDiff,if_true,if_false,true_and,List.getElem?_toArray,List.getElem?_cons_succ,List.getElem?_cons_zero,List.nil_append,List.append_nil,Bool.false_eq_true,WR_op,execR_val2,execR_enter2,putRW_some2,rsOf,to_get,nb_get,cl1_box,Nat.zero_add,Nat.add_zero,ez_P,neNil9,yl4,yl9,List.getElem?_cons_succ,yfEc_0,yfEc_2,yfEc_3,to_get,nb_get,T5,hf1,hc1]
    refine hty _ _ ?_
    simp(maxSteps:=2000000) (disch:=omega)only[thenW_normal,W_skip,W_region,W_seq,W_cond,seqQ_normal2,blockW_normal2,WL_nil2,WL_cons,execL_no,execL_val2,putL_some2,condW_f2,wantedA,exec1,evalO,T.get_set,ofOpt,ofConst,neNil3,fb_add,fb_neqSx,neNil9,reduceLT,reduceEqDiff,if_true,if_false,true_and,List.getElem?_toArray,List.getElem?_cons_succ,List.getElem?_cons_zero,Option.bind_some,Bool.false_eq_true,Bool.not_true,Bool.false_beq,WR_nil2,WR_op,WR_re2,execR_val2,putRW_some2,retRW_ret2,fixQ_normal2,againO,lookV,to_get,nb_get,cl1_box,Nat.zero_add,ez_P,ez_G,neNil3,neNil9,yl9,List.getElem?_cons_succ,yfEc_4,yfEc_5,to_get,nb_get,T5,T10,hbs,hc2,hc3,hne,hws]
    refine fin _ _ ?_ ?_ ?_ ?_ ?_
    ·simp only[T.get_set,reduceEqDiff,if_false,T1]
    ·simp only[T.get_set,reduceEqDiff,if_true,if_false]
    ·simp only[T.get_set,reduceEqDiff,if_false,T8]
    ·simp only[T.get_set,reduceEqDiff,if_false,T9]
    ·simp only[T.get_set,reduceEqDiff,if_true,if_false]
   ·have hne:decide (ck=[])=false:=decide_eq_false hck
    rw[if_neg hck]at hst
    cases off with
    |true =>
     have hw:whenF ck true=[32,119,104,101,110,32,110,111,116,32] ++ ck:=rfl
     have hc4:=fb_catS [32,119,104,101,110,32,110,111,116,32] ck (by first |omega | (simp only[List.length_cons,List.length_nil];omega))
     rw[hw]at hst
     have hwl:([32,119,104,101,110,32,110,111,116,32] ++ ck).length≤50:=(by first |omega | (simp only[List.length_append,List.length_cons,List.length_nil];omega))
     generalize [32,119,104,101,110,32,110,111,116,32] ++ ck=wt at *
     have hc5:=fb_catS y2 wt (by first |omega | (simp only[List.length_append,List.length_cons,List.length_nil];omega))
     rw[← hst]at hc5
     simp(maxSteps:=2000000) (disch:=omega)only[thenW_exit,W_skip,W_region,W_drawn,W_seq,W_cond,W_block,W_exit,seqQ_normal2,seqQ_exit2,WL_nil2,WL_cons,execL_val2,execL_skip2,putL_none2,putL_some2,condW_t2,condW_f2,wantedA,exec1,evalO,T.get_set,ofOpt,ofOptS,ofConst,neNil3,fb_lss,fb_gtr,neNil9,reduceLT,reduceAdd,reduceEqDiff,if_true,if_false,true_and,List.nil_append,List.append_nil,Bool.false_eq_true,nb_get,vstB_agg,List.length_cons,List.length_nil,Nat.zero_add,reduceLeDiff,List.drop_succ_cons,List.drop_nil,List.take_succ_cons,List.take_zero,and_self,ez_P,ez_G,strS,neNil3,neNil9,yleEc,ysEc,yaEc,nb_get,rdLB,Tryd.f26,T1,T5,T8,T9,T10,hlt,hx,hgt]
     refine WD_by [(0,true),(1,true),(2,true),(3,true),(4,true),(5,true),(6,true),(7,true),(8,true),(2,false),(9,true),(10,true),(11,true)] (by kernel_rfl) (by kernel_rfl) ?_
     simp(maxSteps:=2000000) (disch:=omega)only[wantedA,exec1,evalO,T.get_set,callA,mapO,ofOpt,ofConst,neNil9,reduceLT,reduceEqDiff,if_true,if_false,true_and,List.getElem?_toArray,List.getElem?_cons_succ,List.getElem?_cons_zero,List.nil_append,List.append_nil,Bool.false_eq_true,WR_op,execR_val2,execR_enter2,putRW_some2,rsOf,to_get,nb_get,cl1_box,Nat.zero_add,Nat.add_zero,ez_P,neNil9,yl4,yl9,List.getElem?_cons_succ,yfEc_0,yfEc_2,yfEc_3,to_get,nb_get,T5,hf1,hc1]
     refine hty _ _ ?_
     simp(maxSteps:=2000000) (disch:=omega)only[thenW_normal,W_skip,W_region,W_seq,W_cond,seqQ_normal2,blockW_normal2,WL_nil2,WL_cons,execL_val2,putL_some2,condW_t2,wantedA,exec1,evalO,T.get_set,ofOpt,ofConst,neNil3,fb_add,fb_neqSx,neNil9,reduceLT,reduceEqDiff,if_true,if_false,true_and,List.getElem?_toArray,List.getElem?_cons_succ,List.getElem?_cons_zero,Option.bind_some,beq_self_eq_true,Bool.false_eq_true,Bool.not_false,WR_nil2,WR_op,WR_re2,execR_val2,putRW_some2,retRW_ret2,fixQ_normal2,againO,lookV,to_get,nb_get,cl1_box,Nat.zero_add,ez_P,ez_G,neNil3,neNil9,yl4,yl9,List.getElem?_cons_succ,yfEc_4,yfEc_5,to_get,nb_get,T5,T10,hbs,hc2,hc3,hne,hc4,hc5,hws]
     refine fin _ _ ?_ ?_ ?_ ?_ ?_
     ·simp only[T.get_set,reduceEqDiff,if_false,T1]
     ·simp only[T.get_set,reduceEqDiff,if_true,if_false]
     ·simp only[T.get_set,reduceEqDiff,if_false,T8]
     ·simp only[T.get_set,reduceEqDiff,if_false,T9]
     ·simp only[T.get_set,reduceEqDiff,if_true,if_false]
    |false =>
     have hw:whenF ck false=[32,119,104,101,110,32] ++ ck:=rfl
     have hc4:=fb_catS [32,119,104,101,110,32] ck (by first |omega | (simp only[List.length_cons,List.length_nil];omega))
     rw[hw]at hst
     have hwl:([32,119,104,101,110,32] ++ ck).length≤50:=(by first |omega | (simp only[List.length_append,List.length_cons,List.length_nil];omega))
     generalize [32,119,104,101,110,32] ++ ck=wt at *
     have hc5:=fb_catS y2 wt (by first |omega | (simp only[List.length_append,List.length_cons,List.length_nil];omega))
     rw[← hst]at hc5
     simp(maxSteps:=2000000) (disch:=omega)only[thenW_exit,W_skip,W_region,W_drawn,W_seq,W_cond,W_block,W_exit,seqQ_normal2,seqQ_exit2,WL_nil2,WL_cons,execL_val2,execL_skip2,putL_none2,putL_some2,condW_t2,condW_f2,wantedA,exec1,evalO,T.get_set,ofOpt,ofOptS,ofConst,neNil3,fb_lss,fb_gtr,neNil9,reduceLT,reduceAdd,reduceEqDiff,if_true,if_false,true_and,List.nil_append,List.append_nil,Bool.false_eq_true,nb_get,vstB_agg,List.length_cons,List.length_nil,Nat.zero_add,reduceLeDiff,List.drop_succ_cons,List.drop_nil,List.take_succ_cons,List.take_zero,and_self,ez_P,ez_G,strS,neNil3,neNil9,yleEc,ysEc,yaEc,nb_get,rdLB,Tryd.f26,T1,T5,T8,T9,T10,hlt,hx,hgt]
     refine WD_by [(0,true),(1,true),(2,true),(3,true),(4,true),(5,true),(6,true),(7,true),(8,true),(2,false),(9,true),(10,true),(11,true)] (by kernel_rfl) (by kernel_rfl) ?_
     simp(maxSteps:=2000000) (disch:=omega)only[wantedA,exec1,evalO,T.get_set,callA,mapO,ofOpt,ofConst,neNil9,reduceLT,reduceEqDiff,if_true,if_false,true_and,List.getElem?_toArray,List.getElem?_cons_succ,List.getElem?_cons_zero,List.nil_append,List.append_nil,Bool.false_eq_true,WR_op,execR_val2,execR_enter2,putRW_some2,rsOf,to_get,nb_get,cl1_box,Nat.zero_add,Nat.add_zero,ez_P,neNil9,yl4,yl9,List.getElem?_cons_succ,yfEc_0,yfEc_2,yfEc_3,to_get,nb_get,T5,hf1,hc1]
     refine hty _ _ ?_
     simp(maxSteps:=2000000) (disch:=omega)only[thenW_normal,W_skip,W_region,W_seq,W_cond,seqQ_normal2,blockW_normal2,WL_nil2,WL_cons,execL_val2,putL_some2,condW_t2,condW_f2,wantedA,exec1,evalO,T.get_set,ofOpt,ofConst,neNil3,fb_add,fb_neqSx,neNil9,reduceLT,reduceEqDiff,if_true,if_false,true_and,List.getElem?_toArray,List.getElem?_cons_succ,List.getElem?_cons_zero,Option.bind_some,beq_self_eq_true,Bool.false_eq_true,Bool.not_false,WR_nil2,WR_op,WR_re2,execR_val2,putRW_some2,retRW_ret2,fixQ_normal2,againO,lookV,to_get,nb_get,cl1_box,Nat.zero_add,ez_P,ez_G,neNil3,neNil9,yl4,yl9,List.getElem?_cons_succ,yfEc_4,yfEc_5,to_get,nb_get,T5,T10,hbs,hc2,hc3,hne,hc4,hc5,hws]
     refine fin _ _ ?_ ?_ ?_ ?_ ?_
     ·simp only[T.get_set,reduceEqDiff,if_false,T1]
     ·simp only[T.get_set,reduceEqDiff,if_true,if_false]
     ·simp only[T.get_set,reduceEqDiff,if_false,T8]
     ·simp only[T.get_set,reduceEqDiff,if_false,T9]
     ·simp only[T.get_set,reduceEqDiff,if_true,if_false]
  ·have hgt:decide ((j:Int) > 0)=true:=by rw[decide_eq_true_eq];omega
   rw[if_neg hj0]at hst
   generalize rowD l s j=rs at *
   have hcj:=fb_catS rs s (by omega)
   have hpl:(rs ++ s).length≤1000010:=by rw[List.length_append];omega
   generalize rs ++ s=pre at *
   have hbr:=beqA_st pre
   have hc3:=fb_catS pre y2 (by first |omega | (simp only[List.length_append,List.length_cons,List.length_nil];omega))
   by_cases hck:ck=[]
   ·have hne:decide (ck=[])=true:=decide_eq_true hck
    rw[if_pos hck]at hst
    rw[← hst]at hc3
    simp(maxSteps:=2000000) (disch:=omega)only[thenW_exit,W_skip,W_region,W_drawn,W_seq,W_cond,W_block,W_exit,seqQ_normal2,seqQ_exit2,WL_nil2,WL_cons,execL_val2,execL_skip2,putL_none2,putL_some2,condW_t2,wantedA,exec1,evalO,T.get_set,ofOpt,ofOptS,ofConst,neNil3,fb_lss,fb_gtr,neNil9,reduceLT,reduceAdd,reduceEqDiff,if_true,if_false,true_and,List.nil_append,List.append_nil,Bool.false_eq_true,nb_get,vstB_agg,List.length_cons,List.length_nil,Nat.zero_add,reduceLeDiff,List.drop_succ_cons,List.drop_nil,List.take_succ_cons,List.take_zero,and_self,ez_P,strS,neNil3,neNil9,yleEc,ysEc,yaEc,nb_get,rdLB,Tryd.f26,T1,T5,T8,T9,T10,hlt,hx,hgt,hcj]
    refine WD_by [(0,true),(1,true),(2,true),(3,true),(4,true),(5,true),(6,true),(7,true),(8,true),(2,false),(9,true),(10,true),(11,true)] (by kernel_rfl) (by kernel_rfl) ?_
    simp(maxSteps:=2000000) (disch:=omega)only[wantedA,exec1,evalO,T.get_set,callA,mapO,ofOpt,ofConst,neNil9,reduceLT,reduceEqDiff,if_true,if_false,true_and,List.getElem?_toArray,List.getElem?_cons_succ,List.getElem?_cons_zero,List.nil_append,List.append_nil,Bool.false_eq_true,WR_op,execR_val2,execR_enter2,putRW_some2,rsOf,to_get,nb_get,cl1_box,Nat.zero_add,Nat.add_zero,ez_P,neNil9,yl4,yl9,List.getElem?_cons_succ,yfEc_0,yfEc_2,yfEc_3,to_get,nb_get,T5,hf1,hc1]
    refine hty _ _ ?_
    simp(maxSteps:=2000000) (disch:=omega)only[thenW_normal,W_skip,W_region,W_seq,W_cond,seqQ_normal2,blockW_normal2,WL_nil2,WL_cons,execL_no,execL_val2,putL_some2,condW_f2,wantedA,exec1,evalO,T.get_set,ofOpt,ofConst,neNil3,fb_add,fb_neqSx,neNil9,reduceLT,reduceEqDiff,if_true,if_false,true_and,List.getElem?_toArray,List.getElem?_cons_succ,List.getElem?_cons_zero,Option.bind_some,Bool.false_eq_true,Bool.not_true,Bool.false_beq,WR_nil2,WR_op,WR_re2,execR_val2,putRW_some2,retRW_ret2,fixQ_normal2,againO,lookV,to_get,nb_get,cl1_box,Nat.zero_add,ez_P,ez_G,neNil3,neNil9,yl9,List.getElem?_cons_succ,yfEc_4,yfEc_5,to_get,nb_get,T5,T10,hbs,hc2,hc3,hne,hws]
    refine fin _ _ ?_ ?_ ?_ ?_ ?_
    ·simp only[T.get_set,reduceEqDiff,if_false,T1]
    ·simp only[T.get_set,reduceEqDiff,if_true,if_false]
    ·simp only[T.get_set,reduceEqDiff,if_false,T8]
    ·simp only[T.get_set,reduceEqDiff,if_false,T9]
    ·simp only[T.get_set,reduceEqDiff,if_true,if_false]
   ·have hne:decide (ck=[])=false:=decide_eq_false hck
    rw[if_neg hck]at hst
    cases off with
    |true =>
     have hw:whenF ck true=[32,119,104,101,110,32,110,111,116,32] ++ ck:=rfl
     have hc4:=fb_catS [32,119,104,101,110,32,110,111,116,32] ck (by first |omega | (simp only[List.length_cons,List.length_nil];omega))
     rw[hw,← List.append_assoc]at hst
     have hwl:([32,119,104,101,110,32,110,111,116,32] ++ ck).length≤50:=(by first |omega | (simp only[List.length_append,List.length_cons,List.length_nil];omega))
     generalize [32,119,104,101,110,32,110,111,116,32] ++ ck=wt at *
     have hc5:=fb_catS (pre ++ y2) wt (by first |omega | (simp only[List.length_append];omega))
     generalize pre ++ y2=y3 at *
     rw[← hst]at hc5
     simp(maxSteps:=2000000) (disch:=omega)only[thenW_exit,W_skip,W_region,W_drawn,W_seq,W_cond,W_block,W_exit,seqQ_normal2,seqQ_exit2,WL_nil2,WL_cons,execL_val2,execL_skip2,putL_none2,putL_some2,condW_t2,wantedA,exec1,evalO,T.get_set,ofOpt,ofOptS,ofConst,neNil3,fb_lss,fb_gtr,neNil9,reduceLT,reduceAdd,reduceEqDiff,if_true,if_false,true_and,List.nil_append,List.append_nil,Bool.false_eq_true,nb_get,vstB_agg,List.length_cons,List.length_nil,Nat.zero_add,reduceLeDiff,List.drop_succ_cons,List.drop_nil,List.take_succ_cons,List.take_zero,and_self,ez_P,strS,neNil3,neNil9,yleEc,ysEc,yaEc,nb_get,rdLB,Tryd.f26,T1,T5,T8,T9,T10,hlt,hx,hgt,hcj]
     refine WD_by [(0,true),(1,true),(2,true),(3,true),(4,true),(5,true),(6,true),(7,true),(8,true),(2,false),(9,true),(10,true),(11,true)] (by kernel_rfl) (by kernel_rfl) ?_
     simp(maxSteps:=2000000) (disch:=omega)only[wantedA,exec1,evalO,T.get_set,callA,mapO,ofOpt,ofConst,neNil9,reduceLT,reduceEqDiff,if_true,if_false,true_and,List.getElem?_toArray,List.getElem?_cons_succ,List.getElem?_cons_zero,List.nil_append,List.append_nil,Bool.false_eq_true,WR_op,execR_val2,execR_enter2,putRW_some2,rsOf,to_get,nb_get,cl1_box,Nat.zero_add,Nat.add_zero,ez_P,neNil9,yl4,yl9,List.getElem?_cons_succ,yfEc_0,yfEc_2,yfEc_3,to_get,nb_get,T5,hf1,hc1]
     refine hty _ _ ?_
     simp(maxSteps:=2000000) (disch:=omega)only[thenW_normal,W_skip,W_region,W_seq,W_cond,seqQ_normal2,blockW_normal2,WL_nil2,WL_cons,execL_val2,putL_some2,condW_t2,wantedA,exec1,evalO,T.get_set,ofOpt,ofConst,neNil3,fb_add,fb_neqSx,neNil9,reduceLT,reduceEqDiff,if_true,if_false,true_and,List.getElem?_toArray,List.getElem?_cons_succ,List.getElem?_cons_zero,Option.bind_some,beq_self_eq_true,Bool.false_eq_true,Bool.not_false,WR_nil2,WR_op,WR_re2,execR_val2,putRW_some2,retRW_ret2,fixQ_normal2,againO,lookV,to_get,nb_get,cl1_box,Nat.zero_add,ez_P,ez_G,neNil3,neNil9,yl4,yl9,List.getElem?_cons_succ,yfEc_4,yfEc_5,to_get,nb_get,T5,T10,hbs,hc2,hc3,hne,hc4,hc5,hws]
     refine fin _ _ ?_ ?_ ?_ ?_ ?_
     ·simp only[T.get_set,reduceEqDiff,if_false,T1]
     ·simp only[T.get_set,reduceEqDiff,if_true,if_false]
     ·simp only[T.get_set,reduceEqDiff,if_false,T8]
     ·simp only[T.get_set,reduceEqDiff,if_false,T9]
     ·simp only[T.get_set,reduceEqDiff,if_true,if_false]
    |false =>
     have hw:whenF ck false=[32,119,104,101,110,32] ++ ck:=rfl
     have hc4:=fb_catS [32,119,104,101,110,32] ck (by first |omega | (simp only[List.length_cons,List.length_nil];omega))
     rw[hw,← List.append_assoc]at hst
     have hwl:([32,119,104,101,110,32] ++ ck).length≤50:=(by first |omega | (simp only[List.length_append,List.length_cons,List.length_nil];omega))
     generalize [32,119,104,101,110,32] ++ ck=wt at *
     have hc5:=fb_catS (pre ++ y2) wt (by first |omega | (simp only[List.length_append];omega))
     generalize pre ++ y2=y3 at *
     rw[← hst]at hc5
     simp(maxSteps:=2000000) (disch:=omega)only[thenW_exit,W_skip,W_region,W_drawn,W_seq,W_cond,W_block,W_exit,seqQ_normal2,seqQ_exit2,WL_nil2,WL_cons,execL_val2,execL_skip2,putL_none2,putL_some2,condW_t2,wantedA,exec1,evalO,T.get_set,ofOpt,ofOptS,ofConst,neNil3,fb_lss,fb_gtr,neNil9,reduceLT,reduceAdd,reduceEqDiff,if_true,if_false,true_and,List.nil_append,List.append_nil,Bool.false_eq_true,nb_get,vstB_agg,List.length_cons,List.length_nil,Nat.zero_add,reduceLeDiff,List.drop_succ_cons,List.drop_nil,List.take_succ_cons,List.take_zero,and_self,ez_P,strS,neNil3,neNil9,yleEc,ysEc,yaEc,nb_get,rdLB,Tryd.f26,T1,T5,T8,T9,T10,hlt,hx,hgt,hcj]
     refine WD_by [(0,true),(1,true),(2,true),(3,true),(4,true),(5,true),(6,true),(7,true),(8,true),(2,false),(9,true),(10,true),(11,true)] (by kernel_rfl) (by kernel_rfl) ?_
     simp(maxSteps:=2000000) (disch:=omega)only[wantedA,exec1,evalO,T.get_set,callA,mapO,ofOpt,ofConst,neNil9,reduceLT,reduceEqDiff,if_true,if_false,true_and,List.getElem?_toArray,List.getElem?_cons_succ,List.getElem?_cons_zero,List.nil_append,List.append_nil,Bool.false_eq_true,WR_op,execR_val2,execR_enter2,putRW_some2,rsOf,to_get,nb_get,cl1_box,Nat.zero_add,Nat.add_zero,ez_P,neNil9,yl4,yl9,List.getElem?_cons_succ,yfEc_0,yfEc_2,yfEc_3,to_get,nb_get,T5,hf1,hc1]
     refine hty _ _ ?_
     simp(maxSteps:=2000000) (disch:=omega)only[thenW_normal,W_skip,W_region,W_seq,W_cond,seqQ_normal2,blockW_normal2,WL_nil2,WL_cons,execL_val2,putL_some2,condW_t2,condW_f2,wantedA,exec1,evalO,T.get_set,ofOpt,ofConst,neNil3,fb_add,fb_neqSx,neNil9,reduceLT,reduceEqDiff,if_true,if_false,true_and,List.getElem?_toArray,List.getElem?_cons_succ,List.getElem?_cons_zero,Option.bind_some,beq_self_eq_true,Bool.false_eq_true,Bool.not_false,WR_nil2,WR_op,WR_re2,execR_val2,putRW_some2,retRW_ret2,fixQ_normal2,againO,lookV,to_get,nb_get,cl1_box,Nat.zero_add,ez_P,ez_G,neNil3,neNil9,yl4,yl9,List.getElem?_cons_succ,yfEc_4,yfEc_5,to_get,nb_get,T5,T10,hbs,hc2,hc3,hne,hc4,hc5,hws]
     refine fin _ _ ?_ ?_ ?_ ?_ ?_
     ·simp only[T.get_set,reduceEqDiff,if_false,T1]
     ·simp only[T.get_set,reduceEqDiff,if_true,if_false]
     ·simp only[T.get_set,reduceEqDiff,if_false,T8]
     ·simp only[T.get_set,reduceEqDiff,if_false,T9]
     ·simp only[T.get_set,reduceEqDiff,if_true,if_false]
end Go.Ax
noncomputable section
open Nat (reduceEqDiff)
namespace Go.Ax
open Go.RowKit Go.Proofs
set_option maxRecDepth 100000
theorem rd_k(v:AV)(l:List PDc)(s:List UInt8)(hv:isRowA 6 v (l.map dcA))(hok:∀d∈l,okDc d)(hl:l.length≤10)(hs:s.length≤10):KnZ 26 [v,strS s]:=by
 have hrw:rowD l s l.length=Lib.join (l.map declF) s:=by unfold rowD;rw[List.take_of_length_le (Nat.le_refl _)]
 have fin:∀(x:List UInt8) (S':St),x=rowD l s l.length→∃a S'',R.ret (.v (.string ⟨⟨x⟩⟩)) S' = R.ret a S''∧freeV a=true∧SpecZ 26 [v,strS s] (clean a):=fun x S' h=>by
  refine⟨_,_,rfl,rfl,?_⟩
  intro v' l' s' q hv' _ _ _
  simp only[List.cons.injEq,and_true]at q
  obtain⟨q1,q2⟩:=q
  subst q1
  rw[← isRow_inj hv hv',← str_inj q2,← hrw,← h]
  rfl
 have hlr:=erow_len hv
 have lp:=fun t S=>rd_lp hv hok hl hs l.length 0 t S (by omega)
 have hr0:rowD l s 0=[]:=rfl
 unfold rdLB at lp
 simp only[Tryd.f26]at lp
 rw[hr0]at lp
 generalize rowD l s l.length=rs at *
 refine bodyZ Tryd.f26 (by kernel_rfl) (by kernel_rfl) (show(_:Nat)≤_ from by show(_:Nat)≤_;simp[Tryd.f26]) ?_
 simp only[strS]at *
 simp(maxSteps:=2000000) (disch:=omega)only[W_region,W_seq,W_block,W_loop,seqQ_normal2,WL_nil2,WL_cons,execL_val2,putL_some2,wantedA,exec1,evalO,initT,T.get_set,T.get_leaf,callA,ofOpt,ofConst,Nat.reduceLT,reduceEqDiff,if_true,if_false,true_and,Option.getD_some,Nat.zero_add,ez_P,initT,Tryd.f26,hlr]
 refine WX.mono (lp _ _ ?_ ?_ ?_ ?_ ?_) ?_
 ·simp only[T.get_set,T.get_leaf,reduceEqDiff,if_true,if_false] <;> rfl
 ·simp only[T.get_set,T.get_leaf,reduceEqDiff,if_true,if_false] <;> rfl
 ·simp only[T.get_set,T.get_leaf,reduceEqDiff,if_true,if_false] <;> rfl
 ·simp only[T.get_set,T.get_leaf,reduceEqDiff,if_true,if_false] <;> rfl
 ·simp only[T.get_set,T.get_leaf,reduceEqDiff,if_true,if_false] <;> rfl
 rintro _ ⟨t',S',rfl,T5⟩
 clear lp
 simp(maxSteps:=2000000) (disch:=omega)only[W_region,W_seq,W_ret,seqQ_normal2,seqQ_exit2,blockW_exit2,WL_nil2,WL_cons,execL_val2,putL_some2,wantedA,exec1,evalO,T.get_set,ofOpt,finW_ret,giveW,resultsA,tupA,Nat.reduceLT,reduceEqDiff,if_true,if_false,true_and,T5]
 exact fin _ _ rfl
theorem rd_u{v:AV}{l:List PDc}{s:List UInt8}{S:St}{Q:R→Prop}(hv:isRowA 6 v (l.map dcA))(hok:∀d∈l,okDc d)(hl:l.length≤10)(hs:s.length≤10)(h:Q (.ret (strS (Lib.join (l.map declF) s)) S)):WC EZ 26 [v,strS s] S Q :=
 callZ (rd_k (clean v) l s (row_cl hv).2 hok hl hs) (by kernel_rfl) (by show(freeV v && true)=true;rw[(row_cl hv).1];rfl) rfl fun a _ _ hs'=>by
  have:=hs' (clean v) l s rfl (row_cl hv).2 hok hl hs
  subst this
  exact h
end Go.Ax
noncomputable section
open Nat (reduceLT reduceEqDiff)
namespace Go.Ax
open Go.RowKit Go.Proofs
set_option maxRecDepth 100000
def negO(r:OR)(S:St)(x:Option AV):OR:=match x with
 |some (.v (.int .i64 n))=>.val (.v (.int .i64 (IntKind.i64.wrap (0 - n)))) S
 |_=>r
theorem negO_i(r:OR)(S:St)(n:Int):negO r S (some (.v (.int .i64 n)))=.val (.v (.int .i64 (IntKind.i64.wrap (0 - n)))) S:=rfl
def negX(P:Program)(G:Gl)(f:T AV)(S:St)(o:Oper):OR:=ground P G f S o
theorem gneg(f:T AV)(S:St)(dst:Option Tmp)(k:Tmp)(ty:TypeId)(pos:String)(af:Array Edge)(gd:Option (Nat × Bool)):
  ground Tryd.prog gZ f S { dst:=dst,op:=.unOp .neg 2 (.tmp k),type:=ty,pos:=pos,after:=af,guard:=gd }=negO (negX Tryd.prog gZ f S { dst:=dst,op:=.unOp .neg 2 (.tmp k),type:=ty,pos:=pos,after:=af,guard:=gd }) S (f.get k):=by
 unfold negO
 split
 ·rename_i n h
  have hg:groundO gZ f (.tmp k)=some (.int .i64 n):=by unfold groundO;simp only[evalO,h];rfl
  unfold ground
  simp only[Op.operands,List.all_cons,List.all_nil,hg,Option.isSome_some,Bool.and_self,if_true]
  have e:execOp (fun x=>(groundO gZ f x).getD undef) { dst:=dst,op:=.unOp .neg 2 (.tmp k),type:=ty,pos:=pos,after:=af,guard:=gd }=execOp (fun _=>.int .i64 n) { dst:=none,op:=.unOp .neg 2 (.tmp 0),type:=ty,pos := "", after:=#[],guard:=none }:=by
   simp only[execOp,hg,Option.getD_some]
  rw[e]
  have e3:pureN Tryd.prog 4000 (execOp (fun _=>Value.int .i64 n) { dst:=none,op:=.unOp .neg 2 (.tmp 0),type:=ty,pos := "", after:=#[],guard:=none })=some (.int .i64 (IntKind.i64.wrap (0 - n))):=by rfl
  rw[e3];rfl
 ·rfl
def maxG(x y:Value):Operand→Value:=fun z=>match z with
 |.tmp 0=>x
 |_=>y
def eqOrX(P:Program)(G:Gl)(f:T AV)(S:St)(o:Oper)(op:BinOp)(t:TypeId)(a b:AV):OR:=eqOr P G f S o op t a b
theorem itoa_len(n:Int)(h:-9223372036854775808≤n∧n≤9223372036854775807):(Lib.itoa n).length≤21:=Lib.itoa_length_le n h.1 h.2
theorem quo_eq(F:Operand→Value)(dst:Option Tmp)(k:Tmp)(c:Int)(ty ty2:TypeId)(pos:String)(af:Array Edge)(gd:Option (Nat × Bool)):execOp F { dst:=dst,op:=.binOp .quo 2 (.tmp k) (.const (.int .i64 c)) ty2,type:=ty,pos:=pos,after:=af,guard:=gd }=execOp (maxG (F (.tmp k)) (F (.const (.int .i64 c)))) { dst:=none,op:=.binOp .quo 2 (.tmp 0) (.tmp 1) 2,type:=ty,pos := "", after:=#[],guard:=none }:=by kernel_rfl
theorem quo_val(a:Int)(ty:TypeId):pureN Tryd.prog 4000 (execOp (maxG (.int .i64 a) (.int .i64 10)) { dst:=none,op:=.binOp .quo 2 (.tmp 0) (.tmp 1) 2,type:=ty,pos := "", after:=#[],guard:=none })=some (.int .i64 (IntKind.i64.wrap (a.tdiv 10))):=by kernel_rfl
def quoO(r:OR)(S:St)(x:Option AV):OR:=match x with
 |some (.v (.int .i64 a))=>.val (.v (.int .i64 (IntKind.i64.wrap (a.tdiv 10)))) S
 |_=>r
theorem quoO_i(r:OR)(S:St)(a:Int):quoO r S (some (.v (.int .i64 a)))=.val (.v (.int .i64 (IntKind.i64.wrap (a.tdiv 10)))) S:=_root_.id rfl
theorem fb_quo(a c:Int):fastBin .quo (.v (.int .i64 a)) (.v (.int .i64 c))=none:=by simp[fastBin]
theorem eqOr_quo(f:T AV)(S:St)(dst:Option Tmp)(k:Tmp)(x:Int)(ty ty2:TypeId)(pos:String)(af:Array Edge)(gd:Option (Nat × Bool)):
  eqOr Tryd.prog gZ f S { dst:=dst,op:=.binOp .quo 2 (.tmp k) (.const (.int .i64 10)) ty2,type:=ty,pos:=pos,after:=af,guard:=gd } .quo 2 (.v (.int .i64 x)) (.v (.int .i64 10))=quoO (eqOrX Tryd.prog gZ f S { dst:=dst,op:=.binOp .quo 2 (.tmp k) (.const (.int .i64 10)) ty2,type:=ty,pos:=pos,after:=af,guard:=gd } .quo 2 (.v (.int .i64 x)) (.v (.int .i64 10))) S (f.get k):=by
 unfold quoO
 split
 ·rename_i a h1
  have hg1:groundO gZ f (.tmp k)=some (.int .i64 a):=by unfold groundO;simp only[evalO,h1];rfl
  have hg2:groundO gZ f (.const (.int .i64 10))=some (.int .i64 10):=rfl
  have h0:fastEq Tryd.prog .quo 2 (.v (.int .i64 x)) (.v (.int .i64 10))=none:=rfl
  unfold eqOr
  rw[h0]
  simp only
  unfold ground
  have hall:((Op.binOp .quo 2 (.tmp k) (.const (.int .i64 10)) ty2:Op).operands.toList.all fun x=>(groundO gZ f x).isSome)=true:=by
   show([Operand.tmp k,Operand.const (.int .i64 10)].all fun x=>(groundO gZ f x).isSome)=true
   simp only[List.all_cons,List.all_nil,hg1,hg2,Option.isSome_some,Bool.and_self]
  refine(if_pos hall).trans ?_
  rw[quo_eq]
  have e1:(groundO gZ f (.tmp k)).getD undef=.int .i64 a:=by rw[hg1];rfl
  have e2:(groundO gZ f (.const (.int .i64 10))).getD undef=.int .i64 10:=by rw[hg2];rfl
  simp only[e1,e2,quo_val]
  rfl
 ·rfl
theorem fb_rem(k:IntKind)(x y:Int)(h:0<y):fastBin .rem (.v (.int k x)) (.v (.int k y))=some (.v (.int k (x.tmod y))):=by simp[fastBin,h]
theorem wrap_small(n:Int)(h:-1000000000≤n∧n≤1000000000):IntKind.i64.wrap n=n:=IntWalk.i64_in _ (by omega)
theorem dig_0:fastSlice Tryd.prog 9 (.v (.string ⟨⟨[48,49,50,51,52,53,54,55,56,57]⟩⟩)) (some (.v (.int .i64 ((0:Nat):Int)))) (some (.v (.int .i64 ((0+1:Nat):Int))))=some (.v (.string ⟨⟨[UInt8.ofNat (48+0)]⟩⟩)):=by kernel_rfl
theorem dig_1:fastSlice Tryd.prog 9 (.v (.string ⟨⟨[48,49,50,51,52,53,54,55,56,57]⟩⟩)) (some (.v (.int .i64 ((1:Nat):Int)))) (some (.v (.int .i64 ((1+1:Nat):Int))))=some (.v (.string ⟨⟨[UInt8.ofNat (48+1)]⟩⟩)):=by kernel_rfl
theorem dig_2:fastSlice Tryd.prog 9 (.v (.string ⟨⟨[48,49,50,51,52,53,54,55,56,57]⟩⟩)) (some (.v (.int .i64 ((2:Nat):Int)))) (some (.v (.int .i64 ((2+1:Nat):Int))))=some (.v (.string ⟨⟨[UInt8.ofNat (48+2)]⟩⟩)):=by kernel_rfl
theorem dig_3:fastSlice Tryd.prog 9 (.v (.string ⟨⟨[48,49,50,51,52,53,54,55,56,57]⟩⟩)) (some (.v (.int .i64 ((3:Nat):Int)))) (some (.v (.int .i64 ((3+1:Nat):Int))))=some (.v (.string ⟨⟨[UInt8.ofNat (48+3)]⟩⟩)):=by kernel_rfl
theorem dig_4:fastSlice Tryd.prog 9 (.v (.string ⟨⟨[48,49,50,51,52,53,54,55,56,57]⟩⟩)) (some (.v (.int .i64 ((4:Nat):Int)))) (some (.v (.int .i64 ((4+1:Nat):Int))))=some (.v (.string ⟨⟨[UInt8.ofNat (48+4)]⟩⟩)):=by kernel_rfl
theorem dig_5:fastSlice Tryd.prog 9 (.v (.string ⟨⟨[48,49,50,51,52,53,54,55,56,57]⟩⟩)) (some (.v (.int .i64 ((5:Nat):Int)))) (some (.v (.int .i64 ((5+1:Nat):Int))))=some (.v (.string ⟨⟨[UInt8.ofNat (48+5)]⟩⟩)):=by kernel_rfl
theorem dig_6:fastSlice Tryd.prog 9 (.v (.string ⟨⟨[48,49,50,51,52,53,54,55,56,57]⟩⟩)) (some (.v (.int .i64 ((6:Nat):Int)))) (some (.v (.int .i64 ((6+1:Nat):Int))))=some (.v (.string ⟨⟨[UInt8.ofNat (48+6)]⟩⟩)):=by kernel_rfl
theorem dig_7:fastSlice Tryd.prog 9 (.v (.string ⟨⟨[48,49,50,51,52,53,54,55,56,57]⟩⟩)) (some (.v (.int .i64 ((7:Nat):Int)))) (some (.v (.int .i64 ((7+1:Nat):Int))))=some (.v (.string ⟨⟨[UInt8.ofNat (48+7)]⟩⟩)):=by kernel_rfl
theorem dig_8:fastSlice Tryd.prog 9 (.v (.string ⟨⟨[48,49,50,51,52,53,54,55,56,57]⟩⟩)) (some (.v (.int .i64 ((8:Nat):Int)))) (some (.v (.int .i64 ((8+1:Nat):Int))))=some (.v (.string ⟨⟨[UInt8.ofNat (48+8)]⟩⟩)):=by kernel_rfl
theorem dig_9:fastSlice Tryd.prog 9 (.v (.string ⟨⟨[48,49,50,51,52,53,54,55,56,57]⟩⟩)) (some (.v (.int .i64 ((9:Nat):Int)))) (some (.v (.int .i64 ((9+1:Nat):Int))))=some (.v (.string ⟨⟨[UInt8.ofNat (48+9)]⟩⟩)):=by kernel_rfl
theorem digSl(k:Nat)(h:k<10):fastSlice Tryd.prog 9 (.v (.string ⟨⟨[48,49,50,51,52,53,54,55,56,57]⟩⟩)) (some (.v (.int .i64 (k:Int)))) (some (.v (.int .i64 ((k+1:Nat):Int))))=some (.v (.string ⟨⟨[UInt8.ofNat (48+k)]⟩⟩)):=by
 match k,h with
 |0,_=>exact dig_0
 |1,_=>exact dig_1
 |2,_=>exact dig_2
 |3,_=>exact dig_3
 |4,_=>exact dig_4
 |5,_=>exact dig_5
 |6,_=>exact dig_6
 |7,_=>exact dig_7
 |8,_=>exact dig_8
 |9,_=>exact dig_9
 |k+10,h=>exact absurd h (by omega)
theorem itoa_neg(n:Int)(h:n<0):Lib.itoa n=45 :: Lib.decDigits n.natAbs:=by unfold Lib.itoa;rw[if_pos h]
theorem itoa_pos(n:Int)(h:¬ n<0):Lib.itoa n=Lib.decDigits n.natAbs:=by unfold Lib.itoa;rw[if_neg h,show n.toNat=n.natAbs by omega]
theorem dec_small(k:Nat)(h:k<10):Lib.decDigits k=[UInt8.ofNat (48+k)]:=by rw[Lib.decDigits,dif_pos h]
theorem dec_big(k:Nat)(h:¬ k<10):Lib.decDigits k=Lib.decDigits (k / 10) ++ [UInt8.ofNat (48+k % 10)]:=by rw[Lib.decDigits,dif_neg h]
theorem tdiv_abs(n:Int):(n.tdiv 10).natAbs=n.natAbs / 10:=by rw[Int.natAbs_tdiv];rfl
theorem tmod_abs(n:Int):(n.tmod 10).natAbs=n.natAbs % 10:=by simp[Int.natAbs_tmod]
theorem digits_w:∀(N:Nat) (n:Int),2*n.natAbs+(if n<0 then 1 else 0)<N→-9223372036854775808≤n∧n≤9223372036854775807→∀S,WC EZ 46 [.v (.int .i64 n)] S (fun r=>r=.ret (strS (Lib.itoa n)) S)
 |0,n,h,_,S=>absurd h (Nat.not_lt_zero _)
 |N+1,n,hN,hb,S=>by
  refine WC_fn Tryd.f46 (by kernel_rfl) (by kernel_rfl) (by kernel_rfl) (show(_:Nat)≤_ from by show(_:Nat)≤_;simp[Tryd.f46]) ?_
  obtain⟨fn1,hf1⟩:=fnz_46
  have ih:=digits_w N
  have td:=tdiv_abs n
  have tm:=tmod_abs n
  have hlen:=fun m h=>itoa_len m h
  have hd:=Int.mul_tdiv_add_tmod n 10
  by_cases hneg:n<0
  ·rw[if_pos hneg]at hN
   by_cases h10:n > -10
   ·have hw:IntKind.i64.wrap (0 - n)=-n:=by rw[wrap_small _ (by omega)];omega
    have hc:=fb_catS [45] (Lib.itoa (-n)) (by have:=hlen (-n) (by omega);simp;omega)
    simp only[W_skip,W_region,W_drawn,W_seq,W_cond,seqQ_normal2,WL_nil2,WL_cons,execL_val2,execL_enter2,putL_some2,condW_t2,wantedA,exec1,evalO,initT,T.get_set,T.get_leaf,callA,mapO,ofOpt,ofConst,fb_lss,fb_gtr,fb_add,reduceLT,reduceEqDiff,if_true,if_false,true_and,Option.getD_some,List.nil_append,List.append_nil,Bool.false_eq_true,decide_true,Option.toList,List.head?_cons,ez_P,ez_G,neNil2,decide_true,Tryd.f46,hneg,h10,gneg,negO_i,hw,hf1]
    refine WC.mono (ih (-n) (by rw[if_neg (by omega)];omega) (by omega) S) ?_
    rintro _ rfl
    unfold strS
    simp only[W_ret,seqQ_normal2,seqQ_ret2,WL_nil2,WL_cons,execL_val2,putL_some2,retL_ret2,wantedA,exec1,evalO,T.get_set,T.get_leaf,ofOpt,ofConst,finW_ret,giveW,resultsA,tupA,reduceLT,reduceEqDiff,if_true,if_false,true_and,Bool.false_eq_true,ez_P,neNil9,hc]
    rw[itoa_neg n hneg,itoa_pos (-n) (by omega),Int.natAbs_neg]
    rfl
   ·have hq:IntKind.i64.wrap (n.tdiv 10)=n.tdiv 10:=IntWalk.i64_in _ (by omega)
    have hr:=fb_rem .i64 n 10 (by omega)
    have hw:IntKind.i64.wrap (0 - n.tmod 10)=-(n.tmod 10):=by rw[wrap_small _ (by omega)];omega
    have hc:=fb_catS (Lib.itoa (n.tdiv 10)) (Lib.itoa (-(n.tmod 10))) (by have:=hlen (n.tdiv 10) (by omega);have:=hlen (-(n.tmod 10)) (by omega);omega)
    simp only[W_skip,W_region,W_drawn,W_seq,W_cond,seqQ_normal2,WL_nil2,WL_cons,execL_val2,execL_enter2,putL_some2,condW_t2,condW_f2,wantedA,exec1,evalO,initT,T.get_set,T.get_leaf,callA,mapO,ofOpt,ofConst,fb_lss,fb_gtr,fb_add,reduceLT,reduceEqDiff,if_true,if_false,true_and,Option.getD_some,List.nil_append,List.append_nil,Bool.false_eq_true,decide_true,decide_false,Option.toList,List.head?_cons,ez_P,ez_G,neNil2,decide_true,decide_false,Tryd.f46,hneg,h10,fb_quo,eqOr_quo,quoO_i,hq,hf1]
    refine WC.mono (ih (n.tdiv 10) (by split <;> omega) (by omega) S) ?_
    rintro _ rfl
    simp only[WL_cons,execL_val2,execL_enter2,putL_some2,retL_ret2,wantedA,exec1,evalO,T.get_set,T.get_leaf,callA,mapO,ofOpt,ofConst,reduceLT,reduceEqDiff,if_true,if_false,true_and,List.nil_append,List.append_nil,Bool.false_eq_true,ez_P,ez_G,neNil2,hr,gneg,negO_i,hw,hf1]
    refine WC.mono (ih (-(n.tmod 10)) (by rw[if_neg (by omega)];omega) (by omega) S) ?_
    rintro _ rfl
    unfold strS
    simp only[W_ret,seqQ_normal2,seqQ_ret2,WL_nil2,WL_cons,execL_val2,putL_some2,retL_ret2,wantedA,exec1,evalO,T.get_set,T.get_leaf,ofOpt,finW_ret,giveW,resultsA,tupA,reduceLT,reduceEqDiff,if_true,if_false,true_and,Bool.false_eq_true,ez_P,neNil9,hc]
    have e1:n.tdiv 10<0:=by omega
    rw[itoa_neg n hneg,itoa_neg _ e1,itoa_pos _ (by omega),Int.natAbs_neg,td,tm,dec_big n.natAbs (by omega),dec_small (n.natAbs % 10) (by omega)]
    rfl
  ·rw[if_neg hneg]at hN
   by_cases h10:n<10
   ·obtain⟨k,rfl⟩:∃k:Nat,n=k:=⟨n.toNat,by omega⟩
    have hw:=wrap_one (i:=k) (by omega)
    have hs:=digSl k (by omega)
    simp only[W_skip,W_region,W_drawn,W_seq,W_cond,W_ret,seqQ_normal2,seqQ_ret2,WL_nil2,WL_cons,execL_val2,putL_some2,condW_t2,condW_f2,wantedA,exec1,evalO,initT,T.get_set,T.get_leaf,mapO,ofOpt,ofConst,finW_ret,giveW,resultsA,tupA,fb_lss,fb_gtr,fb_add,reduceLT,reduceEqDiff,if_true,if_false,true_and,Option.getD_some,Bool.false_eq_true,decide_true,decide_false,Option.toList,List.head?_cons,ez_P,ez_G,neNil2,decide_true,decide_false,Tryd.f46,hneg,h10,hw,hs]
    rw[itoa_pos _ hneg,Int.natAbs_natCast,dec_small k (by omega)]
    rfl
   ·have hq:IntKind.i64.wrap (n.tdiv 10)=n.tdiv 10:=IntWalk.i64_in _ (by omega)
    have hr:=fb_rem .i64 n 10 (by omega)
    obtain⟨d,hdd⟩:∃d:Nat,n.tmod 10=d:=⟨(n.tmod 10).toNat,by omega⟩
    have hd9:d<10:=by omega
    rw[hdd]at hr
    have hw:=wrap_one (i:=d) (by omega)
    have hs:=digSl d hd9
    have hc:=fb_catS (Lib.itoa (n.tdiv 10)) [UInt8.ofNat (48+d)] (by have:=hlen (n.tdiv 10) (by omega);simp;omega)
    simp only[W_skip,W_region,W_drawn,W_seq,W_cond,seqQ_normal2,WL_nil2,WL_cons,execL_val2,putL_some2,condW_f2,wantedA,exec1,evalO,initT,T.get_set,T.get_leaf,mapO,ofOpt,ofConst,fb_lss,fb_gtr,fb_add,reduceLT,reduceEqDiff,if_true,if_false,true_and,Option.getD_some,Bool.false_eq_true,decide_false,Option.toList,List.head?_cons,ez_P,ez_G,neNil2,decide_false,Tryd.f46,hneg,h10]
    refine WD_by [(0,true),(1,true),(3,true),(4,true),(5,true),(6,true),(7,true),(8,true),(2,true),(9,true),(10,true)] (by kernel_rfl) (by kernel_rfl) ?_
    simp only[wantedA,exec1,evalO,T.get_set,T.get_leaf,callA,mapO,ofOpt,ofConst,fb_add,reduceLT,reduceEqDiff,if_true,if_false,true_and,List.getElem?_toArray,List.getElem?_cons_succ,List.getElem?_cons_zero,List.nil_append,List.append_nil,Bool.false_eq_true,Option.toList,List.head?_cons,ez_P,ez_G,neNil2,fb_quo,eqOr_quo,quoO_i,hq,hr,hw,hs,hf1,WR_op,execR_val2,execR_enter2,putRW_some2,rsOf]
    refine WC.mono (ih (n.tdiv 10) (by split <;> omega) (by omega) S) ?_
    rintro _ rfl
    unfold strS
    simp only[W_ret,seqQ_normal2,wantedA,exec1,evalO,T.get_set,T.get_leaf,ofOpt,finW_ret,giveW,resultsA,tupA,reduceLT,reduceEqDiff,if_true,if_false,true_and,Bool.false_eq_true,ez_P,neNil9,hc,WR_nil2,WR_op,execR_val2,putRW_some2,retRW_ret2,fixQ_normal2]
    have e1:¬ n.tdiv 10<0:=by omega
    rw[itoa_pos n hneg,itoa_pos _ e1,td,dec_big n.natAbs (by omega),show n.natAbs % 10=d by omega]
theorem dig_u{n:Int}{S:St}{Q:R→Prop}(hn:okI n)(h:Q (.ret (strS (Lib.itoa n)) S)):WC EZ 46 [i64A n] S Q:=by
 refine WC.mono (digits_w (2*n.natAbs+2) n (by split <;> omega) hn S) ?_
 rintro _ rfl
 exact h
end Go.Ax
noncomputable section
namespace Go.Ax
open Go.RowKit Go.Proofs
set_option maxRecDepth 100000
theorem sp_8:EZ.I 8=none:=by
 show(Bool.rec (Bool.rec (Bool.rec none (some (growI 6)) (Nat.beq 8 50)) (some joinB) (Nat.beq 8 43)) (some (pureG gZ Tryd.prog SpecZ 8)) (knz 8):Option (List AV→St→R))=_
 rw[show knz 8=false from by decide]
 rfl
theorem fnz_8:∃fn,EZ.F 8=some fn:=Option.isSome_iff_exists.1 (by kernel_rfl)
theorem sp_7:EZ.I 7=none:=by
 show(Bool.rec (Bool.rec (Bool.rec none (some (growI 6)) (Nat.beq 7 50)) (some joinB) (Nat.beq 7 43)) (some (pureG gZ Tryd.prog SpecZ 7)) (knz 7):Option (List AV→St→R))=_
 rw[show knz 7=false from by decide]
 rfl
theorem fnz_7:∃fn,EZ.F 7=some fn:=Option.isSome_iff_exists.1 (by kernel_rfl)
theorem fbm_rem(k:IntKind)(x y:Int)(h:0<y):fastBin .rem (.v (.int k x)) (.v (.int k y))=some (.v (.int k (x.tmod y))):=by simp[fastBin,h]
def modN(n:Int)(m:Nat):Nat:=((n.tmod m+m).tmod m).toNat
theorem modN_is(n:Int){m:Nat}(hm:0<m):(n.tmod m+m).tmod m=((modN n m:Nat):Int)∧modN n m<m:=by
 have h0:(0:Int)<(m:Int):=by omega
 have h1:=Int.tmod_lt_of_pos n h0
 have h2':(n.tmod (m:Int)).natAbs<m:=by rw[Int.natAbs_tmod,Int.natAbs_natCast];exact Nat.mod_lt _ hm
 have h2:-(m:Int)<n.tmod m:=by omega
 have h3:0≤n.tmod m+m:=by omega
 have h4:=Int.tmod_nonneg (m:Int) h3
 have h5:=Int.tmod_lt_of_pos (n.tmod m+m) h0
 unfold modN
 constructor
 ·omega
 ·omega
theorem mod_w(n:Int)(m:Nat)(hm:0<m)(hm2:m≤1000)(S:St):WC EZ 8 [i64A n,i64A (m:Int)] S (fun r=>r=.ret (i64A ((modN n m:Nat):Int)) S):=by
 refine WC_fn Tryd.f8 sp_8 (by kernel_rfl) (by kernel_rfl) (show(_:Nat)≤_ from by show(_:Nat)≤_;simp[Tryd.f8]) ?_
 have h0:(0:Int)<(m:Int):=by omega
 have h1:=Int.tmod_lt_of_pos n h0
 have h2':(n.tmod (m:Int)).natAbs<m:=by rw[Int.natAbs_tmod,Int.natAbs_natCast];exact Nat.mod_lt _ hm
 have h2:-(m:Int)<n.tmod m:=by omega
 have hr1:=fbm_rem .i64 n m h0
 have hw:IntKind.i64.wrap (n.tmod m+m)=n.tmod m+m:=wrap_small _ (by omega)
 have hr2:=fbm_rem .i64 (n.tmod m+m) m h0
 rw[(modN_is n hm).1]at hr2
 generalize n.tmod m=q at *
 simp(maxSteps:=2000000) (disch:=omega)only[W_region,W_seq,W_ret,seqQ_normal2,WL_nil2,WL_cons,execL_val2,putL_some2,wantedA,exec1,evalO,initT,T.get_set,T.get_leaf,ofOpt,ofConst,neNil3,finW_ret,giveW,resultsA,tupA,fb_add,Nat.reduceLT,Nat.reduceEqDiff,if_true,if_false,Option.getD_some,Bool.false_eq_true,Nat.zero_add,and_self,ez_P,i64A,neNil3,initT,Tryd.f8,hr1,hw,hr2]
def namesA:List AV:=[.v (.string ⟨⟨[120]⟩⟩),.v (.string ⟨⟨[121]⟩⟩),.v (.string ⟨⟨[122]⟩⟩),.v (.string ⟨⟨[98]⟩⟩),.v (.string ⟨⟨[99]⟩⟩),.v (.string ⟨⟨[117]⟩⟩),.v (.string ⟨⟨[102]⟩⟩),.v (.string ⟨⟨[103]⟩⟩),.v (.string ⟨⟨[104]⟩⟩)]
theorem names_row:oBuildSlice Tryd.prog 31 9 [(0,.v (.string ⟨⟨[120]⟩⟩)),(1,.v (.string ⟨⟨[121]⟩⟩)),(2,.v (.string ⟨⟨[122]⟩⟩)),(3,.v (.string ⟨⟨[98]⟩⟩)),(4,.v (.string ⟨⟨[99]⟩⟩)),(5,.v (.string ⟨⟨[117]⟩⟩)),(6,.v (.string ⟨⟨[102]⟩⟩)),(7,.v (.string ⟨⟨[103]⟩⟩)),(8,.v (.string ⟨⟨[104]⟩⟩))]=some (.sl 1 0 1 namesA):=by kernel_rfl
theorem names_w(S:St):WC EZ 7 [] S (fun r=>r=.ret (.sl 1 0 1 namesA) S):=by
 refine WC_fn Tryd.f7 sp_7 (by kernel_rfl) (by kernel_rfl) (show(_:Nat)≤_ from by show(_:Nat)≤_;simp[Tryd.f7]) ?_
 have h:=names_row
 generalize namesA=nl at *
 simp(maxSteps:=2000000) (disch:=omega)only[W_region,W_seq,W_ret,seqQ_normal2,WL_nil2,WL_cons,execL_val2,putL_some2,wantedA,exec1,evalO,initT,T.get_set,T.get_leaf,ofOpt,ofConst,partsA,finW_ret,giveW,resultsA,tupA,Nat.reduceLT,Nat.reduceEqDiff,if_true,if_false,Option.getD_some,and_self,ez_P,initT,Tryd.f7,h]
end Go.Ax
