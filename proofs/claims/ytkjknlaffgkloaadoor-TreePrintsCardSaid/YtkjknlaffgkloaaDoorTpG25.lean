/- TuZ -/
import Derived.Test.YtkjknlaffgkloaaDoorTpG24
set_option linter.unusedVariables false
set_option linter.unusedSimpArgs false
set_option maxHeartbeats 16000000
noncomputable section
open Nat (reduceLT reduceAdd reduceEqDiff reduceLeDiff)
namespace Go.Ax
open Go.RowKit Go.Proofs
set_option maxRecDepth 100000
theorem yrNr_1(a0 a1 a2 a3 a4 a5:AV):oBuildSlice Tryd.prog 22 1 [(0,.agg [a0,a1,a2,a3,a4,a5])]=some (.sl 1 0 6 [.agg [a0,a1,a2,a3,a4,a5]]):=by kernel_rfl
theorem yfeDc_1(c0 c1 c2 c3 c4 c5:AV):oFieldAddr Tryd.prog 50 (.ep [c0,c1,c2,c3,c4,c5]) 1=some (.ep [c1,c2,c3,c4,c5]):=by kernel_rfl
def tq1:Code:=match Tryd.f3.body with
 |some (.seq _ (.seq _ (.seq _ (.seq (.seq _ (.block _ (.loop c))) _))))=>c
 |_=>.skip
def tq2:Code:=match Tryd.f3.body with
 |some (.seq _ (.seq _ (.seq _ (.seq _ (.seq _ (.seq _ (.seq _ (.seq _ (.seq _ (.seq (.seq _ (.block _ (.loop c))) _))))))))))=>c
 |_=>.skip
theorem tp1_lp{v x1:AV}{L:Nat}(hL:∀S,oLen Tryd.prog S 22 v=some L)(hX:∀j,j<L→∃e,RawN e∧oIndexAddr Tryd.prog 22 v (.v (.int .i64 (j:Int)))=some (.ep e.cells)):∀(n i tk:Nat) (l:List NdX) (t:T AV) (S:St),i+n=min L 3→l.length=i→(∀n∈l,okNd n)→RowO 6 S tk (l.map ndA)→2≤S.next→t.get 0=some v→t.get 1=some x1→t.get 5=some (.sl tk 0 6 (l.map ndA))→t.get 6=some (.v (.int .i64 ((i:Nat):Int))) →
  WX EZ 165 (.loop tq1) ⟨t,[]⟩ S (fun r=>∃(t':T AV) (S':St) (tk:Nat) (l':List NdX),r=.out (.exit 0) ⟨t',[]⟩ S'∧l'.length≤3∧(∀n∈l',okNd n)∧t'.get 1=some x1∧t'.get 5=some (.sl tk 0 6 (l'.map ndA))∧2≤S'.next)
 |0,i,tk,l,t,S,hi,hl,hok,RO,hn,T0,T1,T5,T6=>by
  refine WX_loop (W_sound ?_)
  have hl3:l.length≤3:=by omega
  by_cases hlt0:i<L
  ·have hlt:decide ((i:Int)<(L:Int))=true:=by rw[decide_eq_true_eq];omega
   have hl2:decide ((i:Int)<3)=false:=by rw[decide_eq_false_iff_not];omega
   simp(maxSteps:=2000000) (disch:=omega)only[thenW_exit,W_skip,W_region,W_seq,W_cond,W_block,W_exit,seqQ_normal2,seqQ_exit2,WL_nil2,WL_cons,execL_val2,putL_some2,condW_f2,wantedA,exec1,evalO,T.get_set,callA,ofOpt,ofConst,neNil3,fb_lss,reduceLT,reduceEqDiff,if_true,if_false,true_and,List.getElem?_toArray,List.getElem?_cons_succ,List.getElem?_cons_zero,Option.bind_some,beq_self_eq_true,Bool.false_eq_true,ez_P,neNil3,List.getElem?_cons_succ,tq1,Tryd.f3,T0,T5,T6,hL,hlt,hl2]
   exact⟨_,_,tk,l,rfl,hl3,hok,by simp only[T.get_set,reduceEqDiff,if_false,T1],by simp only[T.get_set,reduceEqDiff,if_false,T5],hn⟩
  ·have hlt:decide ((i:Int)<(L:Int))=false:=by rw[decide_eq_false_iff_not];omega
   simp(maxSteps:=2000000) (disch:=omega)only[thenW_exit,W_skip,W_region,W_seq,W_cond,W_block,W_exit,seqQ_normal2,seqQ_exit2,WL_nil2,WL_cons,execL_no,execL_val2,putL_some2,condW_f2,wantedA,exec1,evalO,T.get_set,callA,ofOpt,ofConst,neNil3,fb_lss,reduceLT,reduceEqDiff,if_true,if_false,true_and,List.getElem?_toArray,List.getElem?_cons_succ,List.getElem?_cons_zero,Option.bind_some,Bool.false_eq_true,Bool.not_true,Bool.false_beq,ez_P,ez_G,neNil3,List.getElem?_cons_succ,tq1,Tryd.f3,T0,T5,T6,hL,hlt]
   exact⟨_,_,tk,l,rfl,hl3,hok,by simp only[T.get_set,reduceEqDiff,if_false,T1],by simp only[T.get_set,reduceEqDiff,if_false,T5],hn⟩
 |n+1,i,tk,l,t,S,hi,hl,hok,RO,hn,T0,T1,T5,T6=>by
  refine WX_loop (W_sound ?_)
  have hjl:i<L:=by omega
  have hlt:decide ((i:Int)<(L:Int))=true:=by rw[decide_eq_true_eq];omega
  have hl2:decide ((i:Int)<3)=true:=by rw[decide_eq_true_eq];omega
  have hws:=wrapS i (by omega)
  obtain⟨e,he,hx⟩:=hX i hjl
  have he':=he
  obtain⟨s,a,v1,v2,v3,qv,rfl,_⟩:=he
  simp only[cells_agg,strS,i64A]at hx
  obtain⟨fn1,hf1⟩:∃fn,EZ.F 5=some fn:=fnz_5
  obtain⟨bytes,hrt⟩:=ytNr
  have hnode:=fun(S:St) (Q:R→Prop) h=>node_u (S:=S) (Q:=Q) he' h
  simp only[strS,i64A]at hnode
  generalize hlw:l.map ndA=lw at *
  simp(maxSteps:=2000000) (disch:=omega)only[thenW_exit,W_skip,W_region,W_seq,W_cond,W_block,W_exit,seqQ_normal2,seqQ_exit2,WL_nil2,WL_cons,execL_val2,execL_enter2,putL_some2,condW_t2,wantedA,exec1,evalO,T.get_set,callA,mapO,ofOpt,ofConst,neNil3,fb_lss,reduceLT,reduceAdd,reduceEqDiff,if_true,if_false,true_and,List.getElem?_toArray,List.getElem?_cons_succ,List.getElem?_cons_zero,Option.bind_some,List.nil_append,List.append_nil,beq_self_eq_true,Bool.false_eq_true,List.length_cons,List.length_nil,Nat.zero_add,reduceLeDiff,List.take_succ_cons,List.take_zero,ez_P,neNil3,List.getElem?_cons_succ,yleMr,tq1,Tryd.f3,T0,T5,T6,hL,hlt,hl2,hx,hf1]
  refine hnode _ _ (fun n2 hn2=>?_)
  have hnd:ndA n2=.agg [.v (.string ⟨⟨n2.name⟩⟩),.v (.int .i64 n2.at_),.sl 0 0 6 (n2.ins.map dcA),.sl 0 0 6 (n2.outs.map dcA),.sl 0 0 6 (n2.vars.map dcA),eqRow n2.eqs]:=rfl
  obtain⟨S2,happ,ro2,nx2,k2⟩:=push_row (E:=EZ) hrt rfl rfl RO hn (ndA n2) rfl (by rw[← hlw,List.length_map];omega)
  have hmap:lw ++ [ndA n2]=(l ++ [n2]).map ndA:=by rw[← hlw,List.map_append];rfl
  rw[hmap]at happ ro2
  have fin:=fun(t':T AV)=>tp1_lp (x1:=x1) hL hX n (i+1) _ (l ++ [n2]) t' S2 (by omega) (by rw[List.length_append,hl];rfl) (fun x hx=>by
   rcases List.mem_append.1 hx with h |h
   ·exact hok x h
   ·rw[List.mem_singleton]at h;subst h;exact hn2) ro2 (by omega)
  rw[hnd]at happ ⊢
  generalize (l ++ [n2]).map ndA=nw at *
  generalize n2.ins.map dcA=a1 at *
  generalize n2.outs.map dcA=a2 at *
  generalize n2.vars.map dcA=a3 at *
  generalize eqRow n2.eqs=a4 at *
  simp(maxSteps:=2000000) (disch:=omega)only[thenW_normal,W_region,seqQ_normal2,blockW_normal2,WL_nil2,WL_cons,execL_val2,putL_some2,retL_ret2,wantedA,exec1,evalO,T.get_set,callA,ofOpt,ofOptS,ofConst,partsA,neNil3,fb_add,reduceLT,reduceEqDiff,if_true,if_false,true_and,Bool.false_eq_true,ez_P,neNil3,T6,hws,happ,yrNr_1]
  refine fin _ ?_ ?_ ?_ ?_
  ·simp only[T.get_set,reduceEqDiff,if_false,T0]
  ·simp only[T.get_set,reduceEqDiff,if_false,T1]
  ·simp only[T.get_set,reduceEqDiff,if_true,if_false]
  ·simp only[T.get_set,reduceEqDiff,if_true,if_false]
theorem findD_at{s:List UInt8}:∀{l:List PDc} {d:PDc} {i:Nat},findD s l=some (d,i)→∃h:i<l.length,l[i]=d
 | [],_,_,h=>by cases h
 |x :: r,d,i,h=>by
  unfold findD at h
  by_cases hx:x.name=s
  ·rw[if_pos hx]at h
   injection h with h
   injection h with h1 h2
   subst h1;subst h2
   exact⟨by simp,rfl⟩
  ·rw[if_neg hx]at h
   cases hr:findD s r with
   |none=>rw[hr]at h;cases h
   |some y =>
    obtain⟨d',i'⟩:=y
    rw[hr]at h
    injection h with h
    injection h with h1 h2
    simp only at h1 h2
    subst h1;subst h2
    obtain⟨h3,h4⟩:=findD_at hr
    exact⟨by simpa using h3,by simpa using h4⟩
theorem ndrow_idx29{l:List NdX}(j:Nat)(h:j<l.length):oIndexAddr Tryd.prog 29 (.sl 0 0 6 (l.map ndA)) (.v (.int .i64 (j:Int)))=some (.ep [.v (.string ⟨⟨l[j].name⟩⟩),.v (.int .i64 l[j].at_),.sl 0 0 6 (l[j].ins.map dcA),.sl 0 0 6 (l[j].outs.map dcA),.sl 0 0 6 (l[j].vars.map dcA),eqRow l[j].eqs]):=by
 have:=yxW 0 0 (l.map ndA) j (by rw[List.length_map];exact h)
 rw[List.getElem_map]at this
 exact this
theorem ndrow_idx22{l:List NdX}(tk j:Nat)(h:j<l.length):oIndexAddr Tryd.prog 22 (.sl tk 0 6 (l.map ndA)) (.v (.int .i64 (j:Int)))=some (.ep [.v (.string ⟨⟨l[j].name⟩⟩),.v (.int .i64 l[j].at_),.sl 0 0 6 (l[j].ins.map dcA),.sl 0 0 6 (l[j].outs.map dcA),.sl 0 0 6 (l[j].vars.map dcA),eqRow l[j].eqs]):=by
 have:=yxNr tk 0 (l.map ndA) j (by rw[List.length_map];exact h)
 rw[List.getElem_map]at this
 exact this
theorem tp2_lp{l:List NdX}(hok:∀n∈l,okNd n)(hl:l.length≤3){s:List UInt8}{tk:Nat}:∀(n j:Nat) (t:T AV) (S:St),j+n=l.length→t.get 7=some (.sl 0 0 6 (l.map ndA))→t.get 8=some (.v (.string ⟨⟨s⟩⟩))→t.get 82=some (.sl tk 0 6 (l.map ndA))→t.get 83=some (.v (.int .i64 ((l.length:Nat):Int)))→t.get 84=some (.v (.int .i64 ((j:Nat):Int))) →
  WX EZ 165 (.loop tq2) ⟨t,[]⟩ S (fun r=>∃t' S',r=.out (.exit 2) ⟨t',[]⟩ S')
 |0,j,t,S,hj,T7,T8,T82,T83,T84=>by
  refine WX_loop (W_sound ?_)
  have hlt:decide ((j:Int)<(l.length:Int))=false:=by rw[decide_eq_false_iff_not];omega
  simp(maxSteps:=2000000) (disch:=omega)only[thenW_exit,W_skip,W_region,W_seq,W_cond,W_block,W_exit,seqQ_normal2,seqQ_exit2,WL_nil2,WL_cons,execL_val2,putL_some2,condW_f2,wantedA,exec1,evalO,T.get_set,ofOpt,neNil3,fb_lss,reduceLT,reduceEqDiff,if_true,if_false,true_and,Bool.false_eq_true,ez_P,neNil3,tq2,Tryd.f3,T82,T83,T84,hlt]
  exact⟨_,_,rfl⟩
 |n+1,j,t,S,hj,T7,T8,T82,T83,T84=>by
  refine WX_loop (W_sound ?_)
  have hjl:j<l.length:=by omega
  have hlt:decide ((j:Int)<(l.length:Int))=true:=by rw[decide_eq_true_eq];omega
  have hws:=wrapS j (by omega)
  have hn:=hok _ (List.getElem_mem hjl)
  have hx:=ndrow_idx22 tk j hjl
  have hx2:=ndrow_idx29 j hjl
  obtain⟨m,hm⟩:∃m,m=l[j]:=⟨_,rfl⟩
  rw[← hm]at hn hx hx2
  clear hm
  obtain⟨fn1,hf1⟩:∃fn,EZ.F 13=some fn:=fnz_13
  obtain⟨fn2,hf2⟩:∃fn,EZ.F 14=some fn:=fnz_14
  obtain⟨fn3,hf3⟩:∃fn,EZ.F 15=some fn:=fnz_15
  have hr:=fun(S:St) (Q:R→Prop) h=>rnamed_u (s:=s) (S:=S) (Q:=Q) hn h
  have hp:=fun(S:St) (Q:R→Prop) h=>named_u (s:=s) (S:=S) (Q:=Q) hn h
  have ha:=fun(S:St) (Q:R→Prop) h=>all_u (S:=S) (Q:=Q) hn h
  have hnd:ndA m=.agg [.v (.string ⟨⟨m.name⟩⟩),.v (.int .i64 m.at_),.sl 0 0 6 (m.ins.map dcA),.sl 0 0 6 (m.outs.map dcA),.sl 0 0 6 (m.vars.map dcA),eqRow m.eqs]:=rfl
  rw[hnd]at hr hp ha
  obtain⟨_,⟨l1,_⟩,⟨l2,_⟩,⟨l3,_⟩,_⟩:=hn
  have hal:(allD m).length=m.ins.length+m.outs.length+m.vars.length:=by unfold allD;rw[List.length_append,List.length_append]
  have g1:∀S,oLen Tryd.prog S 24 (.sl 0 0 6 (m.ins.map dcA))=some m.ins.length:=erow_len (.inr ⟨0,0,rfl⟩)
  have g2:∀S,oLen Tryd.prog S 24 (.sl 0 0 6 (m.outs.map dcA))=some m.outs.length:=erow_len (.inr ⟨0,0,rfl⟩)
  have g3:∀S,oLen Tryd.prog S 24 (.sl 0 0 6 (m.vars.map dcA))=some m.vars.length:=erow_len (.inr ⟨0,0,rfl⟩)
  have q1:IntKind.i64.wrap ((m.ins.length:Int)+(m.outs.length:Int))=((m.ins.length+m.outs.length:Nat):Int):=by rw[wrap_small _ (by omega)];omega
  have q2:IntKind.i64.wrap (((m.ins.length+m.outs.length:Nat):Int)+(m.vars.length:Int))=((m.ins.length+m.outs.length+m.vars.length:Nat):Int):=by rw[wrap_small _ (by omega)];omega
  have fin:=fun(t':T AV) (S':St)=>tp2_lp hok hl (s:=s) (tk:=tk) n (j+1) t' S' (by omega)
  simp only[strS]at hr hp
  have hn4:¬ S.next=S.next+1:=by omega
  have hn5:¬ S.next=S.next+1+1:=by omega
  have hn6:¬ S.next+1=S.next+1+1:=by omega
  have hn7:¬ S.next+1=S.next:=by omega
  have hn8:¬ S.next+1+1=S.next:=by omega
  have hn9:¬ S.next+1+1=S.next+1:=by omega
  generalize m.ins.map dcA=a1 at *
  generalize m.outs.map dcA=a2 at *
  generalize m.vars.map dcA=a3 at *
  generalize eqRow m.eqs=a4 at *
  generalize hlw:l.map ndA=lw at *
  generalize m.name=nm at *
  generalize m.at_=ap at *
  cases hf:findD s (allD m)with
  |none =>
   rw[hf]at hr hp
   simp only[dcZero,strS,i64A]at hr hp
   simp(maxSteps:=2000000) (disch:=omega)only[thenW_exit,W_skip,W_region,W_seq,W_cond,W_block,W_exit,seqQ_normal2,seqQ_exit2,WL_nil2,WL_cons,execL_val2,execL_skip2,execL_enter2,putL_none2,putL_some2,condW_t2,wantedA,exec1,evalO,T.get_set,callA,mapO,ofOpt,ofOptS,neNil3,fb_lss,reduceLT,reduceAdd,reduceEqDiff,if_true,if_false,true_and,List.nil_append,List.append_nil,Bool.false_eq_true,to_get,nb_get,clN_box,vstB_agg,List.length_cons,List.length_nil,Nat.zero_add,reduceLeDiff,List.drop_zero,List.drop_succ_cons,List.drop_nil,List.take_succ_cons,List.take_zero,and_self,ez_P,neNil3,clN_box,ylMr,yleMr,ysMr,yaMr,to_get,nb_get,tq2,Tryd.f3,T8,T82,T83,T84,hlt,hx,hf1]
   refine hr _ _ ?_
   simp(maxSteps:=2000000) (disch:=omega)only[W_region,W_seq,seqQ_normal2,WL_nil2,WL_cons,execL_val2,execL_skip2,execL_enter2,putL_none2,putL_some2,retL_ret2,wantedA,exec1,evalO,T.get_set,callA,mapO,ofOpt,ofOptS,reduceLT,reduceAdd,reduceEqDiff,if_true,if_false,true_and,List.getElem?_cons_succ,List.getElem?_cons_zero,List.nil_append,List.append_nil,to_get,nb_get,to_next,nb_next,vstB_agg,List.length_cons,List.length_nil,Nat.zero_add,reduceLeDiff,List.drop_succ_cons,List.drop_nil,List.take_succ_cons,List.take_zero,and_self,oExtract,ez_P,strS,Int.reduceNeg,List.getElem?_cons_succ,yleN,ysEc,yaEc,to_get,nb_get,to_next,nb_next,Int.reduceNeg,T7,T8,hx2,hf2,hn7]
   refine hp _ _ ?_
   simp(maxSteps:=2000000) (disch:=omega)only[W_region,W_seq,seqQ_normal2,WL_nil2,WL_cons,execL_val2,execL_skip2,execL_enter2,putL_none2,putL_some2,retL_ret2,wantedA,exec1,evalO,T.get_set,callA,mapO,ofOpt,ofOptS,reduceLT,reduceAdd,reduceEqDiff,if_true,if_false,true_and,List.getElem?_cons_succ,List.getElem?_cons_zero,List.nil_append,List.append_nil,to_get,nb_get,to_next,nb_next,vstB_agg,List.length_cons,List.length_nil,Nat.zero_add,reduceLeDiff,List.drop_succ_cons,List.drop_nil,List.take_succ_cons,List.take_zero,and_self,oExtract,ez_P,strS,Int.reduceNeg,List.getElem?_cons_succ,yleN,ysDc,yaDc,to_get,nb_get,to_next,nb_next,Int.reduceNeg,T7,hx2,hf3,hn8,hn9]
   refine ha _ _ (fun va hva=>?_)
   have g4:=drow_len hva
   rw[hal]at g4
   simp(maxSteps:=2000000) (disch:=omega)only[W_drawn,W_seq,seqQ_normal2,WL_nil2,WL_cons,execL_val2,putL_some2,retL_ret2,wantedA,exec1,evalO,T.get_set,ofOpt,reduceLT,reduceEqDiff,if_true,if_false,true_and,Int.reduceNeg,Int.reduceNeg]
   refine WD_by [(0,true),(1,true),(2,true),(3,true),(4,true),(5,true),(6,true),(7,true),(8,true),(9,true),(10,true),(11,true),(12,true),(13,true),(14,true),(15,true),(16,true),(17,true),(18,true),(19,true),(20,true),(21,true),(22,true),(23,true),(24,true),(25,true),(26,true),(27,true),(28,true),(29,true),(30,true),(31,true),(32,true),(33,true),(34,true),(35,true),(36,true),(37,true),(38,true),(39,true),(40,true),(41,true),(42,true),(43,true),(44,true),(45,true),(46,true),(47,true),(48,true),(49,true),(50,true),(51,true),(52,true),(53,true),(54,true)] (by kernel_rfl) (by kernel_rfl) ?_
   simp(maxSteps:=2000000) (disch:=omega)only[thenW_normal,thenW_ret,W_skip,W_region,W_seq,W_cond,W_ret,seqQ_normal2,seqQ_ret2,blockW_normal2,blockW_ret2,WL_nil2,WL_cons,execL_val2,putL_some2,condW_f2,wantedA,exec1,evalO,T.get_set,callA,ofOpt,ofConst,neNil3,fb_geq,fb_add,fb_neqI,neNil9,reduceLT,reduceEqDiff,if_true,if_false,true_and,List.getElem?_toArray,List.getElem?_cons_succ,List.getElem?_cons_zero,Option.bind_some,beq_self_eq_true,Bool.false_eq_true,decide_false,Bool.not_true,Bool.false_beq,WR_nil2,WR_op,execR_no,execR_val2,putRW_some2,fixQ_normal2,rsOf,to_get,nb_get,to_next,nb_next,cl1_box,Nat.zero_add,ez_P,ez_G,neNil3,neNil9,Int.reduceNeg,List.getElem?_cons_succ,yfMr_2,yfMr_3,yfMr_4,yfDc_1,yfDc_2,yfDc_3,yfEc_1,yfEc_2,yfEc_4,yl24,eqOr_neqB,neqBO_bb,fnbB,neNil4,bne_self_eq_false,to_get,nb_get,to_next,nb_next,Int.reduceNeg,Int.reduceGE,T84,hws,hn4,hn5,g1,g2,g3,g4,q1,q2]
   refine fin _ _ ?_ ?_ ?_ ?_ ?_
   ·simp only[T.get_set,reduceEqDiff,if_false,T7]
   ·simp only[T.get_set,reduceEqDiff,if_false,T8]
   ·simp only[T.get_set,reduceEqDiff,if_false,T82]
   ·simp only[T.get_set,reduceEqDiff,if_false,T83]
   ·simp only[T.get_set,reduceEqDiff,if_true,if_false]
  |some di =>
   obtain⟨d,i⟩:=di
   rw[hf]at hr hp
   obtain⟨dn,da,db,df,dc,do_⟩:=d
   simp only[dcA,strS,i64A]at hr hp
   obtain⟨hil,hid⟩:=findD_at hf
   have hge:decide (((i:Nat):Int) ≥ 0)=true:=by rw[decide_eq_true_eq];omega
   simp(maxSteps:=2000000) (disch:=omega)only[thenW_exit,W_skip,W_region,W_seq,W_cond,W_block,W_exit,seqQ_normal2,seqQ_exit2,WL_nil2,WL_cons,execL_val2,execL_skip2,execL_enter2,putL_none2,putL_some2,condW_t2,wantedA,exec1,evalO,T.get_set,callA,mapO,ofOpt,ofOptS,neNil3,fb_lss,reduceLT,reduceAdd,reduceEqDiff,if_true,if_false,true_and,List.nil_append,List.append_nil,Bool.false_eq_true,to_get,nb_get,clN_box,vstB_agg,List.length_cons,List.length_nil,Nat.zero_add,reduceLeDiff,List.drop_zero,List.drop_succ_cons,List.drop_nil,List.take_succ_cons,List.take_zero,and_self,ez_P,neNil3,clN_box,ylMr,yleMr,ysMr,yaMr,to_get,nb_get,tq2,Tryd.f3,T8,T82,T83,T84,hlt,hx,hf1]
   refine hr _ _ ?_
   simp(maxSteps:=2000000) (disch:=omega)only[W_region,W_seq,seqQ_normal2,WL_nil2,WL_cons,execL_val2,execL_skip2,execL_enter2,putL_none2,putL_some2,retL_ret2,wantedA,exec1,evalO,T.get_set,callA,mapO,ofOpt,ofOptS,reduceLT,reduceAdd,reduceEqDiff,if_true,if_false,true_and,List.getElem?_cons_succ,List.getElem?_cons_zero,List.nil_append,List.append_nil,to_get,nb_get,to_next,nb_next,vstB_agg,List.length_cons,List.length_nil,Nat.zero_add,reduceLeDiff,List.drop_succ_cons,List.drop_nil,List.take_succ_cons,List.take_zero,and_self,oExtract,ez_P,strS,List.getElem?_cons_succ,yleN,ysEc,yaEc,to_get,nb_get,to_next,nb_next,T7,T8,hx2,hf2,hn7]
   refine hp _ _ ?_
   simp(maxSteps:=2000000) (disch:=omega)only[W_region,W_seq,seqQ_normal2,WL_nil2,WL_cons,execL_val2,execL_skip2,execL_enter2,putL_none2,putL_some2,retL_ret2,wantedA,exec1,evalO,T.get_set,callA,mapO,ofOpt,ofOptS,reduceLT,reduceAdd,reduceEqDiff,if_true,if_false,true_and,List.getElem?_cons_succ,List.getElem?_cons_zero,List.nil_append,List.append_nil,to_get,nb_get,to_next,nb_next,vstB_agg,List.length_cons,List.length_nil,Nat.zero_add,reduceLeDiff,List.drop_succ_cons,List.drop_nil,List.take_succ_cons,List.take_zero,and_self,oExtract,ez_P,strS,List.getElem?_cons_succ,yleN,ysDc,yaDc,to_get,nb_get,to_next,nb_next,T7,hx2,hf3,hn8,hn9]
   refine ha _ _ (fun va hva=>?_)
   have g4:=drow_len hva
   rw[hal]at g4
   have hix:=drow_idx hva i hil
   rw[hid]at hix
   simp only[strS,i64A]at hix
   clear hid
   simp(maxSteps:=2000000) (disch:=omega)only[W_drawn,W_seq,seqQ_normal2,WL_nil2,WL_cons,execL_val2,putL_some2,retL_ret2,wantedA,exec1,evalO,T.get_set,ofOpt,reduceLT,reduceEqDiff,if_true,if_false,true_and]
   refine WD_by [(0,true),(1,true),(2,true),(3,true),(4,true),(5,true),(6,true),(7,true),(8,true),(9,true),(10,true),(11,true),(12,true),(13,true),(14,true),(15,true),(16,true),(17,true),(18,true),(19,true),(20,true),(21,true),(22,true),(23,true),(24,true),(25,true),(26,true),(27,true),(28,true),(29,true),(30,true),(31,true),(32,true),(33,true),(34,true),(35,true),(36,true),(37,true),(38,true),(39,true),(40,true),(41,true),(42,true),(43,true),(44,true),(45,true),(46,true),(47,true),(48,true),(49,true),(50,true),(51,true),(52,true),(53,true),(54,true)] (by kernel_rfl) (by kernel_rfl) ?_
   simp(maxSteps:=2000000) (disch:=omega)only[thenW_normal,thenW_ret,W_skip,W_region,W_seq,W_cond,W_ret,seqQ_normal2,seqQ_ret2,blockW_normal2,blockW_ret2,WL_nil2,WL_cons,execL_val2,putL_some2,condW_f2,wantedA,exec1,evalO,T.get_set,callA,ofOpt,ofConst,neNil3,fb_geq,fb_add,fb_neqI,fb_neqSx,neNil9,reduceLT,reduceEqDiff,if_true,if_false,true_and,List.getElem?_toArray,List.getElem?_cons_succ,List.getElem?_cons_zero,Option.bind_some,beq_self_eq_true,Bool.false_eq_true,decide_true,Bool.not_true,WR_nil2,WR_op,execR_val2,putRW_some2,fixQ_normal2,rsOf,to_get,nb_get,to_next,nb_next,cl1_box,Nat.zero_add,Nat.add_zero,ez_P,ez_G,neNil3,neNil9,yl3,yl4,yl9,List.getElem?_cons_succ,yfMr_2,yfMr_3,yfMr_4,yfDc_1,yfDc_2,yfDc_3,yfEc_1,yfEc_2,yfEc_4,yfTy_0,yl24,yle3,eqOr_neqB,neqBO_bb,fnbB,neNil4,bne_self_eq_false,to_get,nb_get,to_next,nb_next,T84,hws,hn4,hn5,hn6,hn7,hn8,hn9,g1,g2,g3,g4,q1,q2,hge,hix,yfeDc_1]
   refine fin _ _ ?_ ?_ ?_ ?_ ?_
   ·simp only[T.get_set,reduceEqDiff,if_false,T7]
   ·simp only[T.get_set,reduceEqDiff,if_false,T8]
   ·simp only[T.get_set,reduceEqDiff,if_false,T82]
   ·simp only[T.get_set,reduceEqDiff,if_false,T83]
   ·simp only[T.get_set,reduceEqDiff,if_true,if_false]
end Go.Ax
noncomputable section
open Nat (reduceLT reduceEqDiff)
namespace Go.Ax
open Go.RowKit Go.Proofs
set_option maxRecDepth 100000
theorem rprint_v{l:List NdX}(hl:l.length≤3)(hok:∀n∈l,okNd n){S:St}{Q:R→Prop}{tok off:Nat}(h:Q (.ret (strS (printF l)) S)):WC EZ 12 [.sl tok off 6 (l.map ndA)] S Q :=
 callZ (args':=[ndRow l]) (rprint_k l hl hok) (by kernel_rfl) (by show(freeL (l.map ndA) && true)=true;rw[(ndL_fr l).1];rfl) (by show [AV.sl 0 0 6 (cleanL (l.map ndA))]=_;rw[(ndL_fr l).2];rfl) fun x _ _ hs=>by
  have:=hs l rfl hok hl
  subst this
  exact h
theorem rfind_v{l:List NdX}{s:List UInt8}(hl:l.length≤3)(hok:∀n∈l,okNd n){S:St}{Q:R→Prop}{tok off:Nat}(h:Q (.ret (match findX s l with |some (_,i)=>i64A ((i:Nat):Int) |none=>i64A (-1)) S)):WC EZ 10 [.sl tok off 6 (l.map ndA),strS s] S Q :=
 callZ (args':=[ndRow l,strS s]) (rfind_k l s hl) (by kernel_rfl) (by show(freeL (l.map ndA) && true)=true;rw[(ndL_fr l).1];rfl) (by show [AV.sl 0 0 6 (cleanL (l.map ndA)),_]=_;rw[(ndL_fr l).2];rfl) fun x _ _ hs=>by
  have:=hs l s rfl hok hl
  subst this
  exact h
theorem findX_at{s:List UInt8}:∀{l:List NdX} {d:NdX} {i:Nat},findX s l=some (d,i)→∃h:i<l.length,l[i]=d
 | [],_,_,h=>by cases h
 |x :: r,d,i,h=>by
  unfold findX at h
  by_cases hx:x.name=s
  ·rw[if_pos hx]at h
   injection h with h
   injection h with h1 h2
   subst h1;subst h2
   exact⟨by simp,rfl⟩
  ·rw[if_neg hx]at h
   cases hr:findX s r with
   |none=>rw[hr]at h;cases h
   |some y =>
    obtain⟨d',i'⟩:=y
    rw[hr]at h
    injection h with h
    injection h with h1 h2
    simp only at h1 h2
    subst h1;subst h2
    obtain⟨h3,h4⟩:=findX_at hr
    exact⟨by simpa using h3,by simpa using h4⟩
theorem slice_one{tk i:Nat}{es:List AV}(h:i<es.length):∃tk' off',oSlice Tryd.prog 22 (.sl tk 0 6 es) (some (.v (.int .i64 ((i:Nat):Int)))) (some (.v (.int .i64 ((i+1:Nat):Int))))=some (.sl tk' off' 6 [es[i]]):=by
 have h0:(0:Int)≤((i:Nat):Int):=by omega
 have h1:(0:Int)≤((i+1:Nat):Int):=by omega
 have h2:i+1≤es.length:=h
 have hd:(es.drop i).take 1=[es[i]]:=by rw[List.drop_eq_getElem_cons h];rfl
 have hb:∀n,boundA (some (.v (.int .i64 ((i:Nat):Int)))) n=some i:=fun n=>by unfold boundA;simp
 have hb2:∀n,boundA (some (.v (.int .i64 ((i+1:Nat):Int)))) n=some (i+1):=fun n=>by unfold boundA;simp;omega
 unfold oSlice
 simp only[yeNr,yzeNr,hb,hb2,beq_self_eq_true,Bool.true_and,h2,decide_true,Nat.le_add_right,if_true]
 have hne:(i == i+1)=false:=by simp
 rw[hne]
 simp only[Bool.false_eq_true,if_false]
 by_cases he:i+1=es.length
 ·have:(i+1 == es.length)=true:=by rw[he];simp
  rw[this]
  have hd2:es.drop i=[es[i]]:=by
   rw[List.drop_eq_getElem_cons h,List.drop_of_length_le (by omega)]
  simp only[if_true,hd2]
  exact⟨_,_,rfl⟩
 ·have:(i+1 == es.length)=false:=by simp[he]
  rw[this]
  simp only[Bool.false_eq_true,if_false,Nat.add_sub_cancel_left,hd]
  exact⟨_,_,rfl⟩
theorem tp_w{v:AV}(hv:RawR 6 RawN v)(wh:Int):WC EZ 3 [v,i64A wh] St0 (fun r=>∃S',r=.ret (.v (.bool true)) S'):=by
 obtain⟨L,hL,hX⟩:=rawN_row hv
 obtain⟨fn4,hf4⟩:∃fn,EZ.F 4=some fn:=fnz_4
 obtain⟨fn6,hf6⟩:∃fn,EZ.F 6=some fn:=fnz_6
 obtain⟨fn7,hf7⟩:∃fn,EZ.F 7=some fn:=fnz_7
 obtain⟨fn8,hf8⟩:∃fn,EZ.F 8=some fn:=fnz_8
 obtain⟨fn9,hf9⟩:∃fn,EZ.F 9=some fn:=fnz_9
 obtain⟨fn10,hf10⟩:∃fn,EZ.F 10=some fn:=fnz_10
 obtain⟨fn11,hf11⟩:∃fn,EZ.F 11=some fn:=fnz_11
 obtain⟨fn12,hf12⟩:∃fn,EZ.F 12=some fn:=fnz_12
 obtain⟨s,hs,hng⟩:=names_get (modN wh 9) (modN_is wh (m:=9) (by decide)).2
 have lp1:=fun t S=>tp1_lp (x1:=.v (.int .i64 wh)) hL hX (min L 3) 0 1 [] t S (by omega) rfl (fun _ h=>by cases h) (.inl rfl)
 unfold tq1 at lp1
 simp only[Tryd.f3,List.map_nil]at lp1
 unfold i64A
 refine WC_fn Tryd.f3 sp_3 (by kernel_rfl) (by kernel_rfl) (show(_:Nat)≤_ from by show(_:Nat)≤_;simp[Tryd.f3]) ?_
 simp(maxSteps:=2000000) (disch:=omega)only[W_region,W_seq,seqQ_normal2,WL_nil2,WL_cons,execL_val2,execL_enter2,putL_some2,wantedA,exec1,evalO,initT,callA,mapO,ofOpt,ofConst,reduceLT,true_and,Option.getD_some,List.append_nil,Nat.zero_add,initT,Tryd.f3,hf4]
 refine WC.mono (aw_w _) ?_
 rintro _ ⟨Sa,rfl,hna⟩
 simp(maxSteps:=2000000) (disch:=omega)only[W_skip,W_region,W_seq,W_cond,W_block,W_loop,W_ret,seqQ_normal2,seqQ_ret2,WL_nil2,WL_cons,execL_val2,putL_some2,retL_ret2,condW_f2,wantedA,exec1,evalO,T.get_set,T.get_leaf,ofOpt,ofConst,partsA,finW_ret,giveW,resultsA,tupA,notO_bool,reduceLT,reduceEqDiff,if_true,if_false,true_and,Bool.not_true,ez_P,ez_G,gnot,yrNr_0]
 refine WX.mono (lp1 _ _ ?_ ?_ ?_ ?_ ?_) ?_
 ·have:St0.next=2:=rfl
  omega
 ·simp only[T.get_set,T.get_leaf,reduceEqDiff,if_true,if_false] <;> rfl
 ·simp only[T.get_set,T.get_leaf,reduceEqDiff,if_true,if_false] <;> rfl
 ·simp only[T.get_set,T.get_leaf,reduceEqDiff,if_true,if_false] <;> rfl
 ·simp only[T.get_set,T.get_leaf,reduceEqDiff,if_true,if_false] <;> rfl
 clear lp1
 rintro _ ⟨t1,S1,tk,l,rfl,hl3,hok,T1,T5,hn1⟩
 have lp2:=fun t S=>tp2_lp hok hl3 (s:=s) (tk:=tk) l.length 0 t S (by omega)
 unfold tq2 at lp2
 simp only[Tryd.f3]at lp2
 have hown:=fun(S:St) (Q:R→Prop) h=>own_nodes_u hok hl3 (S:=S) (Q:=Q) (tok:=tk) (off:=0) (ndL_fr l).1 (ndL_fr l).2 h
 have hfind:=fun(S:St) (Q:R→Prop) h=>find_u (s:=s) hl3 hok (S:=S) (Q:=Q) h
 have hrfind:=fun(S:St) (Q:R→Prop) h=>rfind_v (s:=s) hl3 hok (S:=S) (Q:=Q) (tok:=tk) (off:=0) h
 have hpr:=fun(S:St) (Q:R→Prop) h=>print_u hl3 hok (S:=S) (Q:=Q) (tok:=0) (off:=0) h
 have hrpr:=fun(S:St) (Q:R→Prop) h=>rprint_v hl3 hok (S:=S) (Q:=Q) (tok:=tk) (off:=0) h
 have hlr:∀S,oLen Tryd.prog S 22 (.sl tk 0 6 (l.map ndA))=some l.length:=fun S=>by rw[ynNr,List.length_map]
 unfold ndRow at hown hfind
 simp only[strS]at hfind hrfind hpr hrpr
 generalize printF l=pl at *
 simp(maxSteps:=2000000) (disch:=omega)only[W_region,W_seq,seqQ_normal2,seqQ_exit2,blockW_exit2,WL_cons,execL_val2,execL_enter2,putL_some2,wantedA,exec1,evalO,T.get_set,callA,mapO,ofOpt,reduceLT,if_true,true_and,List.nil_append,List.append_nil,T5,hf6]
 refine hown _ _ ?_
 simp(maxSteps:=2000000) (disch:=omega)only[W_region,W_seq,seqQ_normal2,WL_nil2,WL_cons,execL_val2,execL_enter2,putL_some2,retL_ret2,wantedA,exec1,evalO,T.get_set,callA,mapO,ofOpt,reduceLT,reduceEqDiff,if_true,if_false,true_and,List.append_nil,hf7]
 refine names_u ?_
 simp(maxSteps:=2000000) (disch:=omega)only[WL_cons,execL_val2,execL_enter2,putL_some2,retL_ret2,wantedA,exec1,evalO,T.get_set,callA,mapO,ofOpt,ofConst,reduceLT,reduceEqDiff,if_true,if_false,true_and,List.nil_append,List.append_nil,T1,hf8]
 refine mod_u 9 (by decide) (by decide) ?_
 simp(maxSteps:=2000000) (disch:=omega)only[W_region,W_seq,seqQ_normal2,WL_nil2,WL_cons,execL_val2,execL_enter2,putL_some2,retL_ret2,wantedA,exec1,evalO,T.get_set,callA,mapO,ofOpt,reduceLT,reduceEqDiff,if_true,if_false,true_and,List.nil_append,List.append_nil,ez_P,yle9,hng,hf9]
 refine hfind _ _ ?_
 cases hf:findX s l with
 |none =>
  rw[hf]at hrfind
  simp only[ndZero,strS,i64A]at hrfind ⊢
  simp(maxSteps:=2000000) (disch:=omega)only[W_region,W_seq,seqQ_normal2,WL_nil2,WL_cons,execL_val2,execL_skip2,execL_enter2,putL_none2,putL_some2,retL_ret2,wantedA,exec1,evalO,T.get_set,callA,mapO,ofOpt,ofOptS,reduceLT,Nat.reduceAdd,reduceEqDiff,if_true,if_false,true_and,List.getElem?_cons_succ,List.getElem?_cons_zero,List.nil_append,List.append_nil,nb_get,vstB_agg,List.length_cons,List.length_nil,Nat.zero_add,Nat.reduceLeDiff,List.drop_succ_cons,List.drop_nil,List.take_zero,and_self,oExtract,ez_P,List.getElem?_cons_succ,ysN,yaN,nb_get,T5,hf10]
  refine hrfind _ _ ?_
  simp(maxSteps:=2000000) (disch:=omega)only[W_drawn,W_seq,seqQ_normal2,WL_nil2,WL_cons,execL_val2,putL_some2,retL_ret2,wantedA,exec1,evalO,T.get_set,ofOpt,reduceLT,reduceEqDiff,if_true,if_false,true_and,Int.reduceNeg,Int.reduceNeg]
  refine WD_by [(0,true),(2,true),(1,true),(3,true),(4,true),(5,true),(6,true),(7,true),(8,true),(9,true),(10,true),(11,true),(12,true),(13,true),(14,true),(15,true),(17,true),(18,true),(19,true),(20,true),(21,true),(16,true),(22,true),(23,true),(24,true),(25,true)] (by kernel_rfl) (by kernel_rfl) ?_
  simp(maxSteps:=2000000) (disch:=omega)only[wantedA,exec1,evalO,T.get_set,callA,mapO,ofOpt,reduceLT,reduceEqDiff,if_true,if_false,true_and,List.getElem?_toArray,List.getElem?_cons_succ,List.getElem?_cons_zero,List.nil_append,List.append_nil,WR_op,execR_val2,execR_enter2,putRW_some2,rsOf,Int.reduceNeg,List.getElem?_cons_succ,Int.reduceNeg,T5,hf11]
  refine hpr _ _ ?_
  simp(maxSteps:=2000000) (disch:=omega)only[wantedA,exec1,evalO,T.get_set,callA,mapO,reduceLT,reduceEqDiff,if_true,if_false,true_and,List.nil_append,List.append_nil,WR_op,execR_enter2,putRW_some2,retRW_ret2,Int.reduceNeg,Int.reduceNeg,hf12]
  refine hrpr _ _ ?_
  simp(maxSteps:=2000000) (disch:=omega)only[W_skip,W_region,W_seq,W_cond,W_block,W_loop,W_ret,seqQ_normal2,seqQ_ret2,WL_nil2,WL_cons,execL_val2,putL_some2,condW_f2,wantedA,exec1,evalO,T.get_set,callA,mapO,ofOpt,ofConst,partsA,neNil3,finW_ret,giveW,resultsA,tupA,fb_geq,fb_neqSx,neNil9,reduceLT,Nat.reduceAdd,reduceEqDiff,if_true,if_false,true_and,List.getElem?_toArray,List.getElem?_cons_succ,List.getElem?_cons_zero,Option.bind_some,List.nil_append,List.append_nil,beq_self_eq_true,Bool.false_eq_true,decide_true,decide_false,Bool.not_true,Bool.false_beq,WR_nil2,WR_op,execR_no,execR_val2,putRW_some2,retRW_ret2,fixQ_normal2,to_get,nb_get,clN_box,List.length_cons,List.length_nil,Nat.zero_add,Nat.reduceLeDiff,List.drop_zero,List.take_succ_cons,List.take_zero,ez_P,ez_G,neNil3,neNil9,clN_box,Int.reduceNeg,List.getElem?_cons_succ,ylN,eqOr_neqB,neqBO_bb,fnbB,neNil4,bne_self_eq_false,to_get,nb_get,Int.reduceNeg,Int.reduceGE,T5,hlr,hf11,hf12]
  refine WX.mono (lp2 _ _ ?_ ?_ ?_ ?_ ?_) ?_
  ·simp only[T.get_set,reduceEqDiff,if_true,if_false]
  ·simp only[T.get_set,reduceEqDiff,if_true,if_false]
  ·simp only[T.get_set,reduceEqDiff,if_true,if_false]
  ·simp only[T.get_set,reduceEqDiff,if_true,if_false]
  ·simp only[T.get_set,reduceEqDiff,if_true,if_false];rfl
  rintro _ ⟨t2,S2,rfl⟩
  simp(maxSteps:=2000000) (disch:=omega)only[W_region,W_seq,W_ret,seqQ_normal2,seqQ_exit2,blockW_exit2,WL_nil2,WL_cons,execL_val2,putL_some2,wantedA,exec1,evalO,T.get_set,ofOpt,ofConst,finW_ret,giveW,resultsA,tupA,reduceLT,if_true,true_and]
  exact⟨_,rfl⟩
 |some ni =>
  obtain⟨n,i⟩:=ni
  rw[hf]at hrfind
  obtain⟨hil,hid⟩:=findX_at hf
  have hnok:=hok _ (List.getElem_mem hil)
  rw[hid]at hnok
  have hpr1:=fun(S:St) (Q:R→Prop) h=>print_u (l:=[n]) (by show 1≤3;decide) (fun x hx=>by rw[List.mem_singleton]at hx;subst hx;exact hnok) (S:=S) (Q:=Q) (tok:=1) (off:=0) h
  have hrpr1:=fun(tok off:Nat) (S:St) (Q:R→Prop) h=>rprint_v (l:=[n]) (by show 1≤3;decide) (fun x hx=>by rw[List.mem_singleton]at hx;subst hx;exact hnok) (S:=S) (Q:=Q) (tok:=tok) (off:=off) h
  obtain⟨tk2,off2,hsl⟩:=slice_one (tk:=tk) (i:=i) (es:=l.map ndA) (by rw[List.length_map];exact hil)
  rw[List.getElem_map,hid]at hsl
  have hge:decide (((i:Nat):Int) ≥ 0)=true:=by rw[decide_eq_true_eq];omega
  have hws:=wrapS i (by omega)
  have hnd:ndA n=.agg [.v (.string ⟨⟨n.name⟩⟩),.v (.int .i64 n.at_),.sl 0 0 6 (n.ins.map dcA),.sl 0 0 6 (n.outs.map dcA),.sl 0 0 6 (n.vars.map dcA),eqRow n.eqs]:=rfl
  rw[show [n].map ndA=[ndA n] from rfl]at hpr1 hrpr1
  simp only[i64A]at hrfind ⊢
  rw[hnd]at hpr1 hrpr1 hsl ⊢
  simp only[strS]at hpr1 hrpr1
  generalize printF [n]=pn at *
  clear hid hnd hnok
  generalize n.ins.map dcA=a1 at *
  generalize n.outs.map dcA=a2 at *
  generalize n.vars.map dcA=a3 at *
  generalize eqRow n.eqs=a4 at *
  generalize n.name=nm at *
  generalize n.at_=ap at *
  simp(maxSteps:=2000000) (disch:=omega)only[W_region,W_seq,seqQ_normal2,WL_nil2,WL_cons,execL_val2,execL_skip2,execL_enter2,putL_none2,putL_some2,retL_ret2,wantedA,exec1,evalO,T.get_set,callA,mapO,ofOpt,ofOptS,reduceLT,Nat.reduceAdd,reduceEqDiff,if_true,if_false,true_and,List.getElem?_cons_succ,List.getElem?_cons_zero,List.nil_append,List.append_nil,nb_get,vstB_agg,List.length_cons,List.length_nil,Nat.zero_add,Nat.reduceLeDiff,List.drop_succ_cons,List.drop_nil,List.take_zero,and_self,oExtract,ez_P,List.getElem?_cons_succ,ysN,yaN,nb_get,T5,hf10]
  refine hrfind _ _ ?_
  simp(maxSteps:=2000000) (disch:=omega)only[W_drawn,W_seq,seqQ_normal2,WL_nil2,WL_cons,execL_val2,putL_some2,retL_ret2,wantedA,exec1,evalO,T.get_set,ofOpt,reduceLT,reduceEqDiff,if_true,if_false,true_and]
  refine WD_by [(0,true),(2,true),(1,true),(3,true),(4,true),(5,true),(6,true),(7,true),(8,true),(9,true),(10,true),(11,true),(12,true),(13,true),(14,true),(15,true),(17,true),(18,true),(19,true),(20,true),(21,true),(16,true),(22,true),(23,true),(24,true),(25,true)] (by kernel_rfl) (by kernel_rfl) ?_
  simp(maxSteps:=2000000) (disch:=omega)only[wantedA,exec1,evalO,T.get_set,callA,mapO,ofOpt,reduceLT,reduceEqDiff,if_true,if_false,true_and,List.getElem?_toArray,List.getElem?_cons_succ,List.getElem?_cons_zero,List.nil_append,List.append_nil,WR_op,execR_val2,execR_enter2,putRW_some2,rsOf,List.getElem?_cons_succ,T5,hf11]
  refine hpr _ _ ?_
  simp(maxSteps:=2000000) (disch:=omega)only[wantedA,exec1,evalO,T.get_set,callA,mapO,reduceLT,reduceEqDiff,if_true,if_false,true_and,List.nil_append,List.append_nil,WR_op,execR_enter2,putRW_some2,retRW_ret2,hf12]
  refine hrpr _ _ ?_
  simp(maxSteps:=2000000) (disch:=omega)only[wantedA,exec1,evalO,T.get_set,callA,mapO,ofOpt,ofConst,partsA,neNil3,fb_geq,fb_add,fb_neqSx,neNil9,reduceLT,Nat.reduceAdd,reduceEqDiff,if_true,if_false,true_and,List.getElem?_toArray,List.getElem?_cons_succ,List.getElem?_cons_zero,Option.bind_some,List.nil_append,List.append_nil,beq_self_eq_true,Bool.false_eq_true,decide_true,Bool.not_true,Option.toList,List.head?_cons,WR_op,execR_val2,execR_enter2,putRW_some2,retRW_ret2,to_get,nb_get,clN_box,List.length_cons,List.length_nil,Nat.zero_add,Nat.reduceLeDiff,List.drop_zero,List.take_succ_cons,List.take_zero,ez_P,ez_G,neNil3,neNil9,clN_box,List.getElem?_cons_succ,ylN,eqOr_neqB,neqBO_bb,fnbB,neNil4,bne_self_eq_false,to_get,nb_get,T5,hf11,hge,hws,hsl,yrW_1]
  refine hpr1 _ _ ?_
  simp(maxSteps:=2000000) (disch:=omega)only[wantedA,exec1,evalO,T.get_set,callA,mapO,reduceLT,reduceEqDiff,if_true,if_false,true_and,List.getElem?_toArray,List.getElem?_cons_succ,List.getElem?_cons_zero,Option.bind_some,List.nil_append,List.append_nil,beq_self_eq_true,WR_op,execR_enter2,putRW_some2,retRW_ret2,List.getElem?_cons_succ,hf12]
  refine hrpr1 _ _ _ _ ?_
  simp(maxSteps:=2000000) (disch:=omega)only[W_skip,W_region,W_seq,W_cond,W_block,W_loop,W_ret,seqQ_normal2,seqQ_ret2,WL_nil2,WL_cons,execL_val2,putL_some2,condW_f2,wantedA,exec1,evalO,T.get_set,callA,ofOpt,ofConst,finW_ret,giveW,resultsA,tupA,fb_neqSx,neNil9,reduceLT,reduceEqDiff,if_true,if_false,true_and,List.getElem?_toArray,List.getElem?_cons_succ,List.getElem?_cons_zero,Option.bind_some,beq_self_eq_true,Bool.false_eq_true,decide_true,Bool.not_true,WR_nil2,WR_op,execR_val2,putRW_some2,retRW_ret2,fixQ_normal2,ez_P,neNil9,List.getElem?_cons_succ,T5,hlr]
  refine WX.mono (lp2 _ _ ?_ ?_ ?_ ?_ ?_) ?_
  ·simp only[T.get_set,reduceEqDiff,if_true,if_false]
  ·simp only[T.get_set,reduceEqDiff,if_true,if_false]
  ·simp only[T.get_set,reduceEqDiff,if_true,if_false]
  ·simp only[T.get_set,reduceEqDiff,if_true,if_false]
  ·simp only[T.get_set,reduceEqDiff,if_true,if_false];rfl
  rintro _ ⟨t2,S2,rfl⟩
  simp(maxSteps:=2000000) (disch:=omega)only[W_region,W_seq,W_ret,seqQ_normal2,seqQ_exit2,blockW_exit2,WL_nil2,WL_cons,execL_val2,putL_some2,wantedA,exec1,evalO,T.get_set,ofOpt,ofConst,finW_ret,giveW,resultsA,tupA,reduceLT,if_true,true_and]
  exact⟨_,rfl⟩
end Go.Ax
