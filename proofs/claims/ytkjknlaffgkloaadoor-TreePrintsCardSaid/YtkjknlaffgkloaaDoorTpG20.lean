/- TuK -/
import Derived.Test.YtkjknlaffgkloaaDoorTpG19
set_option linter.unusedVariables false
set_option linter.unusedSimpArgs false
set_option maxHeartbeats 16000000
noncomputable section
open Nat (reduceLT reduceAdd reduceEqDiff reduceLeDiff)
namespace Go.Ax
open Go.RowKit Go.Proofs
set_option maxRecDepth 100000
theorem ybN_0:oBuild Tryd.prog 37 []=some (.agg [.v (.string ⟨⟨[]⟩⟩),.v (.int .i64 0),.nils,.nils,.nils,.nils]):=by kernel_rfl
def tfLB:Code:=match Tryd.f9.body with
 |some (.seq _ (.seq (.seq _ (.block _ (.loop c))) _))=>c
 |_=>.skip
theorem tf_lp{l:List NdX}{s:List UInt8}(hl:l.length≤3)(hok:∀n∈l,okNd n){z:List AV}(hz:z.length=6):∀(n j:Nat) (t:T AV) (S:St),j+n=l.length→(∀i (hi:i<l.length),i<j→l[i].name≠s)→3≤S.next→S.mem.get 2=some (.box z)→t.get 1=some (.v (.string ⟨⟨s⟩⟩))→t.get 4=some (.ptr 2 0)→t.get 8=some (.sl 0 0 6 (l.map ndA))→t.get 9=some (.v (.int .i64 ((l.length:Nat):Int)))→t.get 10=some (.v (.int .i64 ((j:Nat):Int))) →
  WX EZ 22 (.loop tfLB) ⟨t,[]⟩ S (fun r=>(∃t' S',r=.out (.exit 0) ⟨t',[]⟩ S'∧findX s l=none∧t'.get 4=some (.ptr 2 0)∧S'.mem.get 2=some (.box z))∨∃t' S' n i,r=.out .ret ⟨t',[]⟩ S'∧findX s l=some (n,i)∧t'.get 4=some (.ptr 2 0)∧t'.get 5=some (.v (.bool true))∧S'.mem.get 2=some (.box (ndC n)))
 |0,j,t,S,hj,hp,hn,m2,T1,T4,T8,T9,T10=>by
  refine WX_loop (W_sound ?_)
  have hlt:decide ((j:Int)<(l.length:Int))=false:=by rw[decide_eq_false_iff_not];omega
  simp(maxSteps:=2000000) (disch:=omega)only[thenW_exit,W_skip,W_region,W_seq,W_cond,W_block,W_exit,seqQ_normal2,seqQ_exit2,WL_nil2,WL_cons,execL_val2,putL_some2,condW_f2,wantedA,exec1,evalO,T.get_set,ofOpt,neNil3,fb_lss,reduceLT,reduceEqDiff,if_true,if_false,true_and,Bool.false_eq_true,ez_P,neNil3,tfLB,Tryd.f9,T8,T9,T10,hlt]
  exact .inl ⟨_,_,rfl,findX_miss fun i hi=>hp i hi (by omega),by simp only[T.get_set,reduceEqDiff,if_false,T4],m2⟩
 |n+1,j,t,S,hj,hp,hn,m2,T1,T4,T8,T9,T10=>by
  refine WX_loop (W_sound ?_)
  have hjl:j<l.length:=by omega
  have hlt:decide ((j:Int)<(l.length:Int))=true:=by rw[decide_eq_true_eq];omega
  have hws:=wrapS j (by omega)
  have hx:=yxW 0 0 (l.map ndA) j (by rw[List.length_map];exact hjl)
  rw[List.getElem_map]at hx
  have hc:(ndA l[j]).cells=[.v (.string ⟨⟨l[j].name⟩⟩),.v (.int .i64 l[j].at_),.sl 0 0 6 (l[j].ins.map dcA),.sl 0 0 6 (l[j].outs.map dcA),.sl 0 0 6 (l[j].vars.map dcA),eqRow l[j].eqs]:=rfl
  rw[hc]at hx
  have hcn:ndC l[j]=[.v (.string ⟨⟨l[j].name⟩⟩),.v (.int .i64 l[j].at_),.sl 0 0 6 (l[j].ins.map dcA),.sl 0 0 6 (l[j].outs.map dcA),.sl 0 0 6 (l[j].vars.map dcA),eqRow l[j].eqs]:=rfl
  clear hc
  obtain⟨z0,z1,z2,z3,z4,z5,rfl⟩:∃z0 z1 z2 z3 z4 z5,z=[z0,z1,z2,z3,z4,z5]:=by
   match z,hz with
   | [a,b,c,d,e,f],_=>exact⟨_,_,_,_,_,_,rfl⟩
  obtain⟨fn1,hf1⟩:∃fn,EZ.F 21=some fn:=fnz_21
  have hhit:=fun e=>findX_hit (s:=s) hjl (fun i hi hij=>hp i hi hij) e
  have hcopy:=fun(S:St) (Q:R→Prop) (h:Q (.ret (.agg (ndC l[j])) S))=>cn_u (S:=S) (Q:=Q) (hok _ (List.getElem_mem hjl)) h
  unfold ndA at hcopy
  have fin:=fun(h:l[j].name≠s) (t':T AV) (S':St)=>tf_lp (s:=s) hl hok (z:=[z0,z1,z2,z3,z4,z5]) rfl n (j+1) t' S' (by omega) (fun i hi hij=>by
   by_cases hij':i=j
   ·subst hij';exact h
   ·exact hp i hi (by omega))
  have hne2:¬ 2=S.next:=by omega
  have hne3:¬ S.next=2:=by omega
  by_cases he:l[j].name=s
  ·have hne:decide (l[j].name=s)=true:=decide_eq_true he
   have hh:=hhit he
   have hQ:∀(t':T AV) (S':St),t'.get 4=some (.ptr 2 0)→t'.get 5=some (.v (.bool true))→S'.mem.get 2=some (.box (ndC l[j]))→∃t'' S'' n i,(O.out .ret ⟨t',[]⟩ S')=.out .ret ⟨t'',[]⟩ S''∧findX s l=some (n,i)∧t''.get 4=some (.ptr 2 0)∧t''.get 5=some (.v (.bool true))∧S''.mem.get 2=some (.box (ndC n)):=fun t' S' h1 h2 h3=>⟨_,_,_,_,rfl,hh,h1,h2,h3⟩
   rw[hcn]at hcopy hQ
   clear hhit fin hh hcn
   generalize l[j].ins.map dcA=a1 at *
   generalize l[j].outs.map dcA=a2 at *
   generalize l[j].vars.map dcA=a3 at *
   generalize eqRow l[j].eqs=a4 at *
   generalize l.map ndA=lw at *
   generalize l[j].name=nm at *
   generalize l[j].at_=ap at *
   simp(maxSteps:=2000000) (disch:=omega)only[thenW_normal,thenW_exit,W_skip,W_region,W_seq,W_cond,W_block,W_exit,seqQ_normal2,seqQ_exit2,blockW_normal2,WL_nil2,WL_cons,execL_val2,execL_skip2,execL_enter2,putL_none2,putL_some2,condW_t2,wantedA,exec1,evalO,T.get_set,callA,mapO,ofOpt,ofOptS,ofConst,neNil3,fb_lss,fb_add,fb_eqS,neNil9,reduceLT,reduceAdd,reduceEqDiff,if_true,if_false,true_and,List.getElem?_cons_zero,List.nil_append,List.append_nil,Bool.false_eq_true,to_get,nb_get,cl1_box,clN_box,vstB_agg,List.length_cons,List.length_nil,Nat.zero_add,Nat.add_zero,reduceLeDiff,List.drop_zero,List.drop_succ_cons,List.drop_nil,List.take_succ_cons,List.take_zero,and_self,ez_P,neNil3,neNil9,yl9,clN_box,ylN,yleN,ysN,yaN,yfN_0,to_get,nb_get,fb_eqS,tfLB,Tryd.f9,T1,T8,T9,T10,hlt,hx,hne,hws,hf1]
   refine hcopy _ _ ?_
   simp(maxSteps:=2000000) (disch:=omega)only[thenW_ret,W_ret,seqQ_normal2,seqQ_ret2,blockW_ret2,WL_nil2,WL_cons,execL_val2,execL_skip2,putL_none2,putL_some2,retL_ret2,wantedA,exec1,evalO,T.get_set,ofOpt,ofConst,reduceLT,reduceAdd,reduceEqDiff,if_true,if_false,true_and,List.nil_append,List.append_nil,to_get,nb_get,vstB_agg,List.length_cons,List.length_nil,Nat.zero_add,reduceLeDiff,List.drop_succ_cons,List.drop_nil,List.take_zero,and_self,ez_P,ysN,to_get,nb_get,T4,m2,hne2]
   refine .inr (hQ _ _ ?_ ?_ ?_)
   ·simp only[T.get_set,reduceEqDiff,if_false,T4]
   ·simp only[T.get_set,reduceEqDiff,if_true,if_false]
   ·simp only[to_get,if_true]
  ·have hne:decide (l[j].name=s)=false:=decide_eq_false he
   have fin2:=fin he
   clear fin hhit hcopy hcn
   generalize l[j].ins.map dcA=a1 at *
   generalize l[j].outs.map dcA=a2 at *
   generalize l[j].vars.map dcA=a3 at *
   generalize eqRow l[j].eqs=a4 at *
   generalize l.map ndA=lw at *
   generalize l[j].name=nm at *
   generalize l[j].at_=ap at *
   simp(maxSteps:=2000000) (disch:=omega)only[thenW_normal,thenW_exit,W_skip,W_region,W_seq,W_cond,W_block,W_exit,seqQ_normal2,seqQ_exit2,blockW_normal2,WL_nil2,WL_cons,execL_val2,execL_skip2,execL_enter2,putL_none2,putL_some2,condW_t2,condW_f2,wantedA,exec1,evalO,T.get_set,callA,mapO,ofOpt,ofOptS,ofConst,neNil3,fb_lss,fb_add,fb_eqS,neNil9,reduceLT,reduceAdd,reduceEqDiff,if_true,if_false,true_and,List.getElem?_cons_zero,List.nil_append,List.append_nil,Bool.false_eq_true,to_get,nb_get,cl1_box,clN_box,vstB_agg,List.length_cons,List.length_nil,Nat.zero_add,Nat.add_zero,reduceLeDiff,List.drop_zero,List.drop_succ_cons,List.drop_nil,List.take_succ_cons,List.take_zero,and_self,ez_P,neNil3,neNil9,yl9,clN_box,ylN,yleN,ysN,yaN,yfN_0,to_get,nb_get,fb_eqS,tfLB,Tryd.f9,T1,T8,T9,T10,hlt,hx,hne,hws,hf1]
   refine fin2 _ _ ?_ ?_ ?_ ?_ ?_ ?_ ?_
   ·simp only[to_next,nb_next];omega
   ·simp only[to_get,nb_get];rw[if_neg (by omega),if_neg (by omega)];exact m2
   ·simp only[T.get_set,reduceEqDiff,if_false,T1]
   ·simp only[T.get_set,reduceEqDiff,if_false,T4]
   ·simp only[T.get_set,reduceEqDiff,if_false,T8]
   ·simp only[T.get_set,reduceEqDiff,if_false,T9]
   ·simp only[T.get_set,reduceEqDiff,if_true,if_false]
theorem find_k(l:List NdX)(s:List UInt8)(hl:l.length≤3)(hok:∀n∈l,okNd n):KnZ 9 [ndRow l,strS s]:=by
 have fin:∀(x:AV) (S':St),freeV x=true→clean x=(match findX s l with |some (n,_)=>.tup [ndA n,.v (.bool true)] |none=>.tup [ndZero,.v (.bool false)])→∃a S'',R.ret x S' = R.ret a S''∧freeV a=true∧SpecZ 9 [ndRow l,strS s] (clean a):=fun x S' h1 h=>by
  refine⟨_,_,rfl,h1,?_⟩
  intro l' s' q _ _
  simp only[List.cons.injEq,and_true]at q
  rw[← ndRow_inj q.1,← str_inj q.2]
  exact h
 have lp:=fun t S=>tf_lp (s:=s) hl hok (z:=[.v (.string ⟨⟨[]⟩⟩),.v (.int .i64 0),.nils,.nils,.nils,.nils]) rfl l.length 0 t S (by omega) (fun i _ h=>absurd h (Nat.not_lt_zero _))
 unfold tfLB at lp
 simp only[Tryd.f9]at lp
 have hln:∀S,oLen Tryd.prog S 29 (.sl 0 0 6 (l.map ndA))=some l.length:=fun S=>by rw[ynW,List.length_map]
 unfold ndRow at fin ⊢
 generalize l.map ndA=lw at *
 simp only[strS,i64A]at fin ⊢
 refine bodyZ Tryd.f9 (by kernel_rfl) (by kernel_rfl) (show(_:Nat)≤_ from by show(_:Nat)≤_;simp[Tryd.f9]) ?_
 simp(maxSteps:=2000000) (disch:=omega)only[W_region,W_seq,W_block,W_loop,seqQ_normal2,WL_nil2,WL_cons,execL_val2,putL_some2,wantedA,exec1,evalO,initT,T.get_set,T.get_leaf,callA,ofOpt,ofOptS,ofConst,reduceLT,reduceEqDiff,if_true,if_false,true_and,Option.getD_some,st0_next,Nat.zero_add,ez_P,initT,yaN,Tryd.f9,hln]
 refine WX.mono (lp _ _ ?_ ?_ ?_ ?_ ?_ ?_ ?_) ?_
 ·simp only[to_next,nb_next,st0_next];omega
 ·simp only[nb_get,st0_next,if_true] <;> rfl
 ·simp only[T.get_set,T.get_leaf,reduceEqDiff,if_true,if_false] <;> rfl
 ·simp only[T.get_set,T.get_leaf,reduceEqDiff,if_true,if_false] <;> rfl
 ·simp only[T.get_set,T.get_leaf,reduceEqDiff,if_true,if_false] <;> rfl
 ·simp only[T.get_set,T.get_leaf,reduceEqDiff,if_true,if_false] <;> rfl
 ·simp only[T.get_set,T.get_leaf,reduceEqDiff,if_true,if_false] <;> rfl
 rintro _ (⟨t',S',rfl,hf,T4,m2⟩ | ⟨t',S',nn,i,rfl,hf,T4,T5,m2⟩)
 ·rw[hf]at fin
  simp(maxSteps:=2000000) (disch:=omega)only[W_region,W_seq,W_ret,seqQ_normal2,seqQ_exit2,blockW_exit2,WL_nil2,WL_cons,execL_val2,execL_skip2,putL_none2,putL_some2,wantedA,exec1,evalO,T.get_set,ofOpt,ofConst,partsA,finW_ret,giveW,resultsA,tupA,reduceLT,reduceAdd,reduceEqDiff,if_true,if_false,true_and,List.nil_append,List.append_nil,to_get,clN_box,vstB_agg,List.length_cons,List.length_nil,Nat.zero_add,reduceLeDiff,List.drop_zero,List.drop_succ_cons,List.drop_nil,List.take_succ_cons,List.take_zero,and_self,ez_P,clN_box,ylN,ysN,to_get,T4,m2,ybN_0]
  exact fin _ _ rfl rfl
 ·rw[hf]at fin
  have hfr:=ndA_fr nn
  unfold ndC at m2
  simp only at fin
  have fin2:=fun S'=>fin (.tup [ndA nn,.v (.bool true)]) S' (by show(freeV (ndA nn) && (true && true))=true;rw[hfr.1];rfl) (by show AV.tup [clean (ndA nn),_]=_;rw[hfr.2];rfl)
  unfold ndA ndC at fin2
  clear fin hfr
  generalize nn.ins.map dcA=a1 at *
  generalize nn.outs.map dcA=a2 at *
  generalize nn.vars.map dcA=a3 at *
  generalize eqRow nn.eqs=a4 at *
  simp only[strS,i64A]at *
  simp(maxSteps:=2000000) (disch:=omega)only[seqQ_ret2,blockW_ret2,finW_ret,giveW,resultsA,tupA,reduceAdd,if_true,clN_box,List.length_cons,List.length_nil,Nat.zero_add,reduceLeDiff,List.drop_zero,List.take_succ_cons,List.take_zero,ez_P,clN_box,ylN,T4,T5,m2]
  exact fin2 _
theorem find_u{l:List NdX}{s:List UInt8}(hl:l.length≤3)(hok:∀n∈l,okNd n){S:St}{Q:R→Prop}(h:Q (.ret (match findX s l with |some (n,_)=>.tup [ndA n,.v (.bool true)] |none=>.tup [ndZero,.v (.bool false)]) S)):WC EZ 9 [ndRow l,strS s] S Q :=
 callZ (args':=[ndRow l,strS s]) (find_k l s hl hok) (by kernel_rfl) (by show(freeV (ndRow l) && true)=true;rw[(ndRow_fr l).1];rfl) (by show [clean (ndRow l),_]=_;rw[(ndRow_fr l).2];rfl) fun x _ _ hs=>by
  have:=hs l s rfl hok hl
  subst this
  exact h
end Go.Ax
noncomputable section
open Nat (reduceLT reduceAdd reduceEqDiff)
namespace Go.Ax
open Go.RowKit Go.Proofs
set_option maxRecDepth 100000
theorem acc_isRow{sz:Nat}{S:St}{v:AV}{es:List AV}(h:Acc sz S v es):isRowA sz v es:=by
 rcases h with⟨rfl,rfl⟩ | ⟨tk,rfl,_⟩
 ·exact .inl ⟨rfl,rfl⟩
 ·exact .inr ⟨tk,0,rfl⟩
def dcC(d:PDc):List AV:=[.v (.string ⟨⟨d.name⟩⟩),.v (.int .i64 d.at_),.v (.bool d.bool),.v (.bool d.fut),.v (.string ⟨⟨d.clock⟩⟩),.v (.bool d.off)]
def rnLB:Code:=match Tryd.f13.body with
 |some (.seq _ (.seq _ (.seq (.seq _ (.block _ (.loop c))) _)))=>c
 |_=>.skip
theorem ybEc_0:oBuild Tryd.prog 44 []=some (.agg [.v (.string ⟨⟨[]⟩⟩),.v (.int .i64 0),.v (.bool false),.v (.bool false),.v (.string ⟨⟨[]⟩⟩),.v (.bool false)]):=by kernel_rfl
theorem ybDc_0:oBuild Tryd.prog 50 []=some (.agg [.v (.string ⟨⟨[]⟩⟩),.v (.int .i64 0),.v (.bool false),.v (.bool false),.v (.string ⟨⟨[]⟩⟩),.v (.bool false)]):=by kernel_rfl
theorem rn_lp{v:AV}{l:List PDc}{s:List UInt8}(hv:isRowA 6 v (l.map dcA))(hl:l.length≤9){z0 z1 z2 z3 z4 z5:AV}:∀(n j:Nat) (t:T AV) (S:St),j+n=l.length→(∀i (hi:i<l.length),i<j→l[i].name≠s)→4≤S.next→S.mem.get 3=some (.box [z0,z1,z2,z3,z4,z5])→t.get 1=some (.v (.string ⟨⟨s⟩⟩))→t.get 4=some (.ptr 3 0)→t.get 19=some v→t.get 20=some (.v (.int .i64 ((l.length:Nat):Int)))→t.get 21=some (.v (.int .i64 ((j:Nat):Int))) →
  WX EZ 34 (.loop rnLB) ⟨t,[]⟩ S (fun r=>(∃t' S',r=.out (.exit 0) ⟨t',[]⟩ S'∧findD s l=none∧t'.get 4=some (.ptr 3 0)∧S'.mem.get 3=some (.box [z0,z1,z2,z3,z4,z5]))∨∃t' S' d i,r=.out .ret ⟨t',[]⟩ S'∧findD s l=some (d,i)∧t'.get 4=some (.ptr 3 0)∧t'.get 5=some (.v (.int .i64 ((i:Nat):Int)))∧S'.mem.get 3=some (.box (dcC d)))
 |0,j,t,S,hj,hp,hn,m3,T1,T4,T19,T20,T21=>by
  refine WX_loop (W_sound ?_)
  have hlt:decide ((j:Int)<(l.length:Int))=false:=by rw[decide_eq_false_iff_not];omega
  simp(maxSteps:=2000000) (disch:=omega)only[thenW_exit,W_skip,W_region,W_seq,W_cond,W_block,W_exit,seqQ_normal2,seqQ_exit2,WL_nil2,WL_cons,execL_val2,putL_some2,condW_f2,wantedA,exec1,evalO,T.get_set,ofOpt,neNil3,fb_lss,reduceLT,reduceEqDiff,if_true,if_false,true_and,Bool.false_eq_true,ez_P,neNil3,Int.reduceNeg,rnLB,Tryd.f13,T19,T20,T21,hlt]
  exact .inl ⟨_,_,rfl,findD_miss fun i hi=>hp i hi (by omega),by simp only[T.get_set,reduceEqDiff,if_false,T4],m3⟩
 |n+1,j,t,S,hj,hp,hn,m3,T1,T4,T19,T20,T21=>by
  refine WX_loop (W_sound ?_)
  have hjl:j<l.length:=by omega
  have hlt:decide ((j:Int)<(l.length:Int))=true:=by rw[decide_eq_true_eq];omega
  have hws:=wrapS j (by omega)
  have hx:=erow_idx hv j hjl
  simp only[strS,i64A]at hx
  have hhit:=fun e=>findD_hit (s:=s) hjl (fun i hi hij=>hp i hi hij) e
  have fin:=fun(h:l[j].name≠s) (t':T AV) (S':St)=>rn_lp (s:=s) hv hl (z0:=z0) (z1:=z1) (z2:=z2) (z3:=z3) (z4:=z4) (z5:=z5) n (j+1) t' S' (by omega) (fun i hi hij=>by
   by_cases hij':i=j
   ·subst hij';exact h
   ·exact hp i hi (by omega))
  have hne2:¬ 3=S.next:=by omega
  have hne3:¬ S.next=3:=by omega
  have hcn:dcC l[j]=[.v (.string ⟨⟨l[j].name⟩⟩),.v (.int .i64 l[j].at_),.v (.bool l[j].bool),.v (.bool l[j].fut),.v (.string ⟨⟨l[j].clock⟩⟩),.v (.bool l[j].off)]:=rfl
  by_cases he:l[j].name=s
  ·have hne:decide (l[j].name=s)=true:=decide_eq_true he
   have hh:=hhit he
   have hQ:∀(t':T AV) (S':St),t'.get 4=some (.ptr 3 0)→t'.get 5=some (.v (.int .i64 ((j:Nat):Int)))→S'.mem.get 3=some (.box (dcC l[j]))→∃t'' S'' d i,(O.out .ret ⟨t',[]⟩ S')=.out .ret ⟨t'',[]⟩ S''∧findD s l=some (d,i)∧t''.get 4=some (.ptr 3 0)∧t''.get 5=some (.v (.int .i64 ((i:Nat):Int)))∧S''.mem.get 3=some (.box (dcC d)):=fun t' S' h1 h2 h3=>⟨_,_,_,_,rfl,hh,h1,h2,h3⟩
   rw[hcn]at hQ
   clear hhit fin hh hcn
   generalize l[j].name=nm at *
   generalize l[j].at_=ap at *
   generalize l[j].bool=b1 at *
   generalize l[j].fut=b2 at *
   generalize l[j].clock=ck at *
   generalize l[j].off=b3 at *
   simp(maxSteps:=2000000) (disch:=omega)only[thenW_normal,thenW_exit,thenW_ret,W_skip,W_region,W_seq,W_cond,W_block,W_exit,W_ret,seqQ_normal2,seqQ_exit2,seqQ_ret2,blockW_normal2,blockW_ret2,WL_nil2,WL_cons,execL_val2,execL_skip2,putL_none2,putL_some2,condW_t2,wantedA,exec1,evalO,T.get_set,ofOpt,ofOptS,ofConst,neNil3,fb_lss,fb_add,fb_eqS,neNil9,reduceLT,reduceAdd,reduceEqDiff,if_true,if_false,true_and,List.getElem?_cons_zero,List.nil_append,List.append_nil,Bool.false_eq_true,to_get,nb_get,cl1_box,clN_box,vstB_agg,List.length_cons,List.length_nil,Nat.zero_add,Nat.add_zero,Nat.reduceLeDiff,List.drop_zero,List.drop_succ_cons,List.drop_nil,List.take_succ_cons,List.take_zero,and_self,ez_P,strS,neNil3,neNil9,yl9,clN_box,Int.reduceNeg,ylEc,yleEc,ysEc,yaEc,yfEc_0,to_get,nb_get,fb_eqS,rnLB,Tryd.f13,T1,T4,T19,T20,T21,hlt,hx,hne,hws,m3,hne2]
   refine .inr (hQ _ _ ?_ ?_ ?_)
   ·simp only[T.get_set,reduceEqDiff,if_false,T4]
   ·simp only[T.get_set,reduceEqDiff,if_true,if_false]
   ·simp only[to_get,if_true]
  ·have hne:decide (l[j].name=s)=false:=decide_eq_false he
   have fin2:=fin he
   clear fin hhit hcn
   generalize l[j].name=nm at *
   generalize l[j].at_=ap at *
   generalize l[j].bool=b1 at *
   generalize l[j].fut=b2 at *
   generalize l[j].clock=ck at *
   generalize l[j].off=b3 at *
   simp(maxSteps:=2000000) (disch:=omega)only[thenW_normal,thenW_exit,thenW_ret,W_skip,W_region,W_seq,W_cond,W_block,W_exit,W_ret,seqQ_normal2,seqQ_exit2,seqQ_ret2,blockW_normal2,blockW_ret2,WL_nil2,WL_cons,execL_val2,execL_skip2,putL_none2,putL_some2,condW_t2,condW_f2,wantedA,exec1,evalO,T.get_set,ofOpt,ofOptS,ofConst,neNil3,fb_lss,fb_add,fb_eqS,neNil9,reduceLT,reduceAdd,reduceEqDiff,if_true,if_false,true_and,List.getElem?_cons_zero,List.nil_append,List.append_nil,Bool.false_eq_true,to_get,nb_get,cl1_box,clN_box,vstB_agg,List.length_cons,List.length_nil,Nat.zero_add,Nat.add_zero,Nat.reduceLeDiff,List.drop_zero,List.drop_succ_cons,List.drop_nil,List.take_succ_cons,List.take_zero,and_self,ez_P,strS,neNil3,neNil9,yl9,clN_box,Int.reduceNeg,ylEc,yleEc,ysEc,yaEc,yfEc_0,to_get,nb_get,fb_eqS,rnLB,Tryd.f13,T1,T4,T19,T20,T21,hlt,hx,hne,hws,m3,hne2]
   refine fin2 _ _ ?_ ?_ ?_ ?_ ?_ ?_ ?_
   ·simp only[to_next,nb_next];omega
   ·simp only[to_get,nb_get];rw[if_neg (by omega),if_neg (by omega)];exact m3
   ·simp only[T.get_set,reduceEqDiff,if_false,T1]
   ·simp only[T.get_set,reduceEqDiff,if_false,T4]
   ·simp only[T.get_set,reduceEqDiff,if_false,T19]
   ·simp only[T.get_set,reduceEqDiff,if_false,T20]
   ·simp only[T.get_set,reduceEqDiff,if_true,if_false]
theorem rnamed_k(n:NdX)(s:List UInt8)(hn:okNd n):KnZ 13 [ndA n,strS s]:=by
 have fin:∀(x:AV) (S':St),freeV x=true→clean x=(match findD s (allD n)with |some (d,i)=>.tup [dcA d,i64A ((i:Nat):Int)] |none=>.tup [dcZero,i64A (-1)])→∃a S'',R.ret x S' = R.ret a S''∧freeV a=true∧SpecZ 13 [ndA n,strS s] (clean a):=fun x S' h1 h=>by
  refine⟨_,_,rfl,h1,?_⟩
  intro n' s' q _
  simp only[List.cons.injEq,and_true]at q
  rw[← ndA_inj q.1,← str_inj q.2]
  exact h
 obtain⟨_,⟨l1,_⟩,⟨l2,_⟩,⟨l3,_⟩,_⟩:=hn
 obtain⟨bytes,hrt⟩:=ytE
 have hal:(allD n).length≤9:=by unfold allD;rw[List.length_append,List.length_append];omega
 have hm:(allD n).map dcA=(n.ins.map dcA ++ n.outs.map dcA) ++ n.vars.map dcA:=by unfold allD;rw[List.map_append,List.map_append]
 let Sx:St:=(St0.newBox [.v (.string ⟨⟨n.name⟩⟩),.v (.int .i64 n.at_),.sl 0 0 6 (n.ins.map dcA),.sl 0 0 6 (n.outs.map dcA),.sl 0 0 6 (n.vars.map dcA),eqRow n.eqs]).newBox [.v (.string ⟨⟨[]⟩⟩),.v (.int .i64 0),.v (.bool false),.v (.bool false),.v (.string ⟨⟨[]⟩⟩),.v (.bool false)]
 have hSx:4≤Sx.next:=by show 4≤2+1+1;decide
 have hm3:Sx.mem.get 3=some (.box [.v (.string ⟨⟨[]⟩⟩),.v (.int .i64 0),.v (.bool false),.v (.bool false),.v (.string ⟨⟨[]⟩⟩),.v (.bool false)]):=by
  show(St.newBox _ _).mem.get 3=_
  rw[nb_get];exact if_pos rfl
 obtain⟨v1,S1,h1,hA1,hn1,k1⟩:=acc_rows (E:=EZ) hrt rfl rfl (Acc.new 6 Sx) (by omega) 0 0 (n.ins.map dcA) (by simp only[List.length_nil,List.length_map];omega)
 obtain⟨v2,S2,h2,hA2,hn2,k2⟩:=acc_rows (E:=EZ) hrt rfl rfl hA1 (by omega) 0 0 (n.outs.map dcA) (by simp only[List.length_append,List.length_nil,List.length_map];omega)
 obtain⟨v3,S3,h3,hA3,hn3,k3⟩:=acc_rows (E:=EZ) hrt rfl rfl hA2 (by omega) 0 0 (n.vars.map dcA) (by simp only[List.length_append,List.length_nil,List.length_map];omega)
 rw[List.nil_append,← hm]at hA3
 have hv:=acc_isRow hA3
 have m33:=k3 3 _ (by decide) (by omega) (k2 3 _ (by decide) (by omega) (k1 3 _ (by decide) (by omega) hm3))
 have hs3:4≤S3.next:=by omega
 have hm2:Sx.mem.get 2=some (.box [.v (.string ⟨⟨n.name⟩⟩),.v (.int .i64 n.at_),.sl 0 0 6 (n.ins.map dcA),.sl 0 0 6 (n.outs.map dcA),.sl 0 0 6 (n.vars.map dcA),eqRow n.eqs]):=by
  show(St.newBox _ _).mem.get 2=_
  rw[nb_get]
  refine(if_neg (show ¬ (2:Nat)=3 by decide)).trans ?_
  rw[nb_get];exact if_pos rfl
 have m12:=k1 2 _ (by decide) (by omega) hm2
 have m22:=k2 2 _ (by decide) (by omega) m12
 have lp:=fun t=>rn_lp (s:=s) hv hal (z0:=.v (.string ⟨⟨[]⟩⟩)) (z1:=.v (.int .i64 0)) (z2:=.v (.bool false)) (z3:=.v (.bool false)) (z4:=.v (.string ⟨⟨[]⟩⟩)) (z5:=.v (.bool false)) (allD n).length 0 t S3 (by omega) (fun i _ h=>absurd h (Nat.not_lt_zero _)) hs3 m33
 unfold rnLB at lp
 simp only[Tryd.f13]at lp
 have hln:=erow_len hv
 have hb1:=beqA_dc 0 0 n.ins
 have hb2:=beqA_dc 0 0 n.outs
 have hb3:=beqA_dc 0 0 n.vars
 have hnd:ndA n=.agg [.v (.string ⟨⟨n.name⟩⟩),.v (.int .i64 n.at_),.sl 0 0 6 (n.ins.map dcA),.sl 0 0 6 (n.outs.map dcA),.sl 0 0 6 (n.vars.map dcA),eqRow n.eqs]:=rfl
 rw[hnd]at fin ⊢
 clear hA1 hA2 hA3 hv k1 k2 k3 hm hm3 m33 hSx hm2
 simp only[Sx]at h1
 clear_value Sx
 generalize n.ins.map dcA=a1 at *
 generalize n.outs.map dcA=a2 at *
 generalize n.vars.map dcA=a3 at *
 generalize eqRow n.eqs=a4 at *
 simp only[strS,i64A]at fin ⊢
 refine bodyZ Tryd.f13 (by kernel_rfl) (by kernel_rfl) (show(_:Nat)≤_ from by show(_:Nat)≤_;simp[Tryd.f13]) ?_
 simp(maxSteps:=2000000) (disch:=omega)only[W_region,W_drawn,W_seq,seqQ_normal2,WL_nil2,WL_cons,execL_val2,putL_some2,wantedA,exec1,evalO,initT,T.get_set,T.get_leaf,ofOpt,ofOptS,ofConst,reduceLT,reduceAdd,reduceEqDiff,if_true,if_false,true_and,Option.getD_some,nb_next,st0_next,Nat.zero_add,noTup_agg,cells_agg,ez_P,strS,cells_agg,initT,Int.reduceNeg,yaEc,nb_next,Tryd.f13]
 refine WD_by [(0,true),(1,true),(2,true),(4,true),(5,true),(7,true),(8,true),(3,true),(8,false),(5,false),(6,true),(8,false),(9,true),(10,true)] (by kernel_rfl) (by kernel_rfl) ?_
 simp(maxSteps:=2000000) (disch:=omega)only[W_region,W_seq,W_block,W_loop,seqQ_normal2,WL_nil2,WL_cons,execL_val2,putL_some2,wantedA,exec1,evalO,T.get_set,T.get_leaf,callA,ofOpt,ofOptS,ofConst,partsA,reduceLT,reduceAdd,reduceEqDiff,if_true,if_false,true_and,List.getElem?_toArray,List.getElem?_cons_succ,List.getElem?_cons_zero,Bool.false_eq_true,WR_nil2,WR_op,WR_re2,execR_val2,putRW_some2,fixQ_normal2,rsOf,againO,lookV,nb_get,nb_next,st0_get,st0_next,cl1_box,Nat.zero_add,ez_P,Int.reduceNeg,List.getElem?_cons_succ,yfMr_2,yfMr_3,yfMr_4,yl24,nb_get,nb_next,hln,h1,h2,h3,hb2,hb3,m12,m22,yrE_0]
 refine WX.mono (lp _ ?_ ?_ ?_ ?_ ?_) ?_
 ·simp only[T.get_set,T.get_leaf,reduceEqDiff,if_true,if_false] <;> rfl
 ·simp only[T.get_set,T.get_leaf,reduceEqDiff,if_true,if_false] <;> rfl
 ·simp only[T.get_set,T.get_leaf,reduceEqDiff,if_true,if_false] <;> rfl
 ·simp only[T.get_set,T.get_leaf,reduceEqDiff,if_true,if_false] <;> rfl
 ·simp only[T.get_set,T.get_leaf,reduceEqDiff,if_true,if_false] <;> rfl
 rintro _ (⟨t',S',rfl,hf,T4,m3⟩ | ⟨t',S',d,i,rfl,hf,T4,T5,m3⟩)
 ·rw[hf]at fin
  simp(maxSteps:=2000000) (disch:=omega)only[W_region,W_seq,W_ret,seqQ_normal2,seqQ_exit2,blockW_exit2,WL_nil2,WL_cons,execL_val2,execL_skip2,putL_none2,putL_some2,wantedA,exec1,evalO,T.get_set,ofOpt,ofConst,partsA,finW_ret,giveW,resultsA,tupA,reduceLT,reduceAdd,reduceEqDiff,if_true,if_false,true_and,List.nil_append,List.append_nil,to_get,clN_box,vstB_agg,List.length_cons,List.length_nil,Nat.zero_add,Nat.reduceLeDiff,List.drop_zero,List.drop_succ_cons,List.drop_nil,List.take_succ_cons,List.take_zero,and_self,ez_P,clN_box,Int.reduceNeg,ylEc,ysEc,to_get,T4,m3,ybEc_0]
  exact fin _ _ rfl rfl
 ·rw[hf]at fin
  unfold dcC at m3
  have fin2:=fun S'=>fin (.tup [.agg [.v (.string ⟨⟨d.name⟩⟩),.v (.int .i64 d.at_),.v (.bool d.bool),.v (.bool d.fut),.v (.string ⟨⟨d.clock⟩⟩),.v (.bool d.off)],.v (.int .i64 ((i:Nat):Int))]) S' rfl rfl
  simp(maxSteps:=2000000) (disch:=omega)only[seqQ_ret2,blockW_ret2,finW_ret,giveW,resultsA,tupA,reduceAdd,if_true,clN_box,List.length_cons,List.length_nil,Nat.zero_add,Nat.reduceLeDiff,List.drop_zero,List.take_succ_cons,List.take_zero,ez_P,clN_box,Int.reduceNeg,ylEc,T4,T5,m3]
  exact fin2 _
theorem rnamed_u{n:NdX}{s:List UInt8}(hn:okNd n){S:St}{Q:R→Prop}(h:Q (.ret (match findD s (allD n)with |some (d,i)=>.tup [dcA d,i64A ((i:Nat):Int)] |none=>.tup [dcZero,i64A (-1)]) S)):WC EZ 13 [ndA n,strS s] S Q :=
 callZ (args':=[ndA n,strS s]) (rnamed_k n s hn) (by kernel_rfl) (by show(freeV (ndA n) && true)=true;rw[(ndA_fr n).1];rfl) (by show [clean (ndA n),_]=_;rw[(ndA_fr n).2];rfl) fun x _ _ hs=>by
  have:=hs n s rfl hn
  subst this
  exact h
end Go.Ax
noncomputable section
open Nat (reduceLT reduceAdd reduceEqDiff reduceLeDiff)
namespace Go.Ax
open Go.RowKit Go.Proofs
set_option maxRecDepth 100000
theorem yb89(a b c:List AV):oBuild Tryd.prog 89 [(0,.sl 0 0 6 a),(1,.sl 0 0 6 b),(2,.sl 0 0 6 c)]=some (.agg [.sl 0 0 6 a,.sl 0 0 6 b,.sl 0 0 6 c]):=by kernel_rfl
theorem fx89_0(a b c:List AV):fastIndex Tryd.prog 89 (.agg [.sl 0 0 6 a,.sl 0 0 6 b,.sl 0 0 6 c]) (.v (.int .i64 0))=some (.sl 0 0 6 a):=by kernel_rfl
theorem fx89_1(a b c:List AV):fastIndex Tryd.prog 89 (.agg [.sl 0 0 6 a,.sl 0 0 6 b,.sl 0 0 6 c]) (.v (.int .i64 1))=some (.sl 0 0 6 b):=by kernel_rfl
theorem fx89_2(a b c:List AV):fastIndex Tryd.prog 89 (.agg [.sl 0 0 6 a,.sl 0 0 6 b,.sl 0 0 6 c]) (.v (.int .i64 2))=some (.sl 0 0 6 c):=by kernel_rfl
def tnLO:Code:=match Tryd.f14.body with
 |some (.seq _ (.seq (.seq _ (.block _ (.loop c))) _))=>c
 |_=>.skip
def tnLB:Code:=match tnLO with
 |.seq _ (.seq _ (.seq (.block _ (.seq _ (.seq _ (.block _ (.loop c))))) _))=>c
 |_=>.skip
theorem tn_lp{v:AV}{l:List PDc}{s:List UInt8}(hv:isRowA 6 v (l.map dcA))(hl:l.length≤9){z0 z1 z2 z3 z4 z5 r16 r17:AV}:∀(n j:Nat) (t:T AV) (S:St),j+n=l.length→(∀i (hi:i<l.length),i<j→l[i].name≠s)→4≤S.next→S.mem.get 3=some (.box [z0,z1,z2,z3,z4,z5])→t.get 1=some (.v (.string ⟨⟨s⟩⟩))→t.get 4=some (.ptr 3 0)→t.get 16=some r16→t.get 17=some r17→t.get 20=some v→t.get 21=some (.v (.int .i64 ((l.length:Nat):Int)))→t.get 22=some (.v (.int .i64 ((j:Nat):Int))) →
  WX EZ 34 (.loop tnLB) ⟨t,[]⟩ S (fun r=>(∃t' S',r=.out (.exit 2) ⟨t',[]⟩ S'∧findD s l=none∧t'.get 1=some (.v (.string ⟨⟨s⟩⟩))∧t'.get 4=some (.ptr 3 0)∧t'.get 16=some r16∧t'.get 17=some r17∧4≤S'.next∧S'.mem.get 3=some (.box [z0,z1,z2,z3,z4,z5]))∨∃t' S' d i,r=.out .ret ⟨t',[]⟩ S'∧findD s l=some (d,i)∧t'.get 4=some (.ptr 3 0)∧t'.get 5=some (.v (.bool true))∧S'.mem.get 3=some (.box (dcC d)))
 |0,j,t,S,hj,hp,hn,m3,T1,T4,T16,T17,T20,T21,T22=>by
  refine WX_loop (W_sound ?_)
  have hlt:decide ((j:Int)<(l.length:Int))=false:=by rw[decide_eq_false_iff_not];omega
  simp(maxSteps:=2000000) (disch:=omega)only[thenW_exit,W_skip,W_region,W_seq,W_cond,W_block,W_exit,seqQ_normal2,seqQ_exit2,WL_nil2,WL_cons,execL_val2,putL_some2,condW_f2,wantedA,exec1,evalO,T.get_set,ofOpt,neNil3,fb_lss,reduceLT,reduceEqDiff,if_true,if_false,true_and,Bool.false_eq_true,ez_P,neNil3,tnLB,tnLO,Tryd.f14,T20,T21,T22,hlt]
  exact .inl ⟨_,_,rfl,findD_miss fun i hi=>hp i hi (by omega),by simp only[T.get_set,reduceEqDiff,if_false,T1],by simp only[T.get_set,reduceEqDiff,if_false,T4],by simp only[T.get_set,reduceEqDiff,if_false,T16],by simp only[T.get_set,reduceEqDiff,if_false,T17],hn,m3⟩
 |n+1,j,t,S,hj,hp,hn,m3,T1,T4,T16,T17,T20,T21,T22=>by
  refine WX_loop (W_sound ?_)
  have hjl:j<l.length:=by omega
  have hlt:decide ((j:Int)<(l.length:Int))=true:=by rw[decide_eq_true_eq];omega
  have hws:=wrapS j (by omega)
  have hx:=drow_idx hv j hjl
  simp only[strS,i64A]at hx
  have hhit:=fun e=>findD_hit (s:=s) hjl (fun i hi hij=>hp i hi hij) e
  have fin:=fun(h:l[j].name≠s) (t':T AV) (S':St)=>tn_lp (s:=s) hv hl (z0:=z0) (z1:=z1) (z2:=z2) (z3:=z3) (z4:=z4) (z5:=z5) (r16:=r16) (r17:=r17) n (j+1) t' S' (by omega) (fun i hi hij=>by
   by_cases hij':i=j
   ·subst hij';exact h
   ·exact hp i hi (by omega))
  have hne2:¬ 3=S.next:=by omega
  have hne3:¬ S.next=3:=by omega
  have hcn:dcC l[j]=[.v (.string ⟨⟨l[j].name⟩⟩),.v (.int .i64 l[j].at_),.v (.bool l[j].bool),.v (.bool l[j].fut),.v (.string ⟨⟨l[j].clock⟩⟩),.v (.bool l[j].off)]:=rfl
  by_cases he:l[j].name=s
  ·have hne:decide (l[j].name=s)=true:=decide_eq_true he
   have hh:=hhit he
   have hQ:∀(t':T AV) (S':St),t'.get 4=some (.ptr 3 0)→t'.get 5=some (.v (.bool true))→S'.mem.get 3=some (.box (dcC l[j]))→∃t'' S'' d i,(O.out .ret ⟨t',[]⟩ S')=.out .ret ⟨t'',[]⟩ S''∧findD s l=some (d,i)∧t''.get 4=some (.ptr 3 0)∧t''.get 5=some (.v (.bool true))∧S''.mem.get 3=some (.box (dcC d)):=fun t' S' h1 h2 h3=>⟨_,_,_,_,rfl,hh,h1,h2,h3⟩
   rw[hcn]at hQ
   clear hhit fin hh hcn
   generalize l[j].name=nm at *
   generalize l[j].at_=ap at *
   generalize l[j].bool=b1 at *
   generalize l[j].fut=b2 at *
   generalize l[j].clock=ck at *
   generalize l[j].off=b3 at *
   simp(maxSteps:=2000000) (disch:=omega)only[thenW_normal,thenW_exit,thenW_ret,W_skip,W_region,W_seq,W_cond,W_block,W_exit,W_ret,seqQ_normal2,seqQ_exit2,seqQ_ret2,blockW_normal2,blockW_ret2,WL_nil2,WL_cons,execL_val2,execL_skip2,putL_none2,putL_some2,condW_t2,wantedA,exec1,evalO,T.get_set,ofOpt,ofOptS,ofConst,neNil3,fb_lss,fb_add,fb_eqS,neNil9,reduceLT,reduceAdd,reduceEqDiff,if_true,if_false,true_and,List.getElem?_cons_zero,List.nil_append,List.append_nil,Bool.false_eq_true,to_get,nb_get,cl1_box,clN_box,vstB_agg,List.length_cons,List.length_nil,Nat.zero_add,Nat.add_zero,reduceLeDiff,List.drop_zero,List.drop_succ_cons,List.drop_nil,List.take_succ_cons,List.take_zero,and_self,ez_P,strS,neNil3,neNil9,yl9,clN_box,ylDc,yleDc,ysDc,yaDc,yfDc_0,to_get,nb_get,fb_eqS,tnLB,tnLO,Tryd.f14,T1,T4,T20,T21,T22,hlt,hx,hne,hws,m3,hne2]
   refine .inr (hQ _ _ ?_ ?_ ?_)
   ·simp only[T.get_set,reduceEqDiff,if_false,T4]
   ·simp only[T.get_set,reduceEqDiff,if_true,if_false]
   ·simp only[to_get,if_true]
  ·have hne:decide (l[j].name=s)=false:=decide_eq_false he
   have fin2:=fin he
   clear fin hhit hcn
   generalize l[j].name=nm at *
   generalize l[j].at_=ap at *
   generalize l[j].bool=b1 at *
   generalize l[j].fut=b2 at *
   generalize l[j].clock=ck at *
   generalize l[j].off=b3 at *
   simp(maxSteps:=2000000) (disch:=omega)only[thenW_normal,thenW_exit,thenW_ret,W_skip,W_region,W_seq,W_cond,W_block,W_exit,W_ret,seqQ_normal2,seqQ_exit2,seqQ_ret2,blockW_normal2,blockW_ret2,WL_nil2,WL_cons,execL_val2,execL_skip2,putL_none2,putL_some2,condW_t2,condW_f2,wantedA,exec1,evalO,T.get_set,ofOpt,ofOptS,ofConst,neNil3,fb_lss,fb_add,fb_eqS,neNil9,reduceLT,reduceAdd,reduceEqDiff,if_true,if_false,true_and,List.getElem?_cons_zero,List.nil_append,List.append_nil,Bool.false_eq_true,to_get,nb_get,cl1_box,clN_box,vstB_agg,List.length_cons,List.length_nil,Nat.zero_add,Nat.add_zero,reduceLeDiff,List.drop_zero,List.drop_succ_cons,List.drop_nil,List.take_succ_cons,List.take_zero,and_self,ez_P,strS,neNil3,neNil9,yl9,clN_box,ylDc,yleDc,ysDc,yaDc,yfDc_0,to_get,nb_get,fb_eqS,tnLB,tnLO,Tryd.f14,T1,T4,T20,T21,T22,hlt,hx,hne,hws,m3,hne2]
   refine fin2 _ _ ?_ ?_ ?_ ?_ ?_ ?_ ?_ ?_ ?_
   ·simp only[to_next,nb_next];omega
   ·simp only[to_get,nb_get];rw[if_neg (by omega),if_neg (by omega)];exact m3
   ·simp only[T.get_set,reduceEqDiff,if_false,T1]
   ·simp only[T.get_set,reduceEqDiff,if_false,T4]
   ·simp only[T.get_set,reduceEqDiff,if_false,T16]
   ·simp only[T.get_set,reduceEqDiff,if_false,T17]
   ·simp only[T.get_set,reduceEqDiff,if_false,T20]
   ·simp only[T.get_set,reduceEqDiff,if_false,T21]
   ·simp only[T.get_set,reduceEqDiff,if_true,if_false]
theorem named_k(n:NdX)(s:List UInt8)(hn:okNd n):KnZ 14 [ndA n,strS s]:=by
 have fin:∀(x:AV) (S':St),freeV x=true→clean x=(match findD s (allD n)with |some (d,_)=>.tup [dcA d,.v (.bool true)] |none=>.tup [dcZero,.v (.bool false)])→∃a S'',R.ret x S' = R.ret a S''∧freeV a=true∧SpecZ 14 [ndA n,strS s] (clean a):=fun x S' h1 h=>by
  refine⟨_,_,rfl,h1,?_⟩
  intro n' s' q _
  simp only[List.cons.injEq,and_true]at q
  rw[← ndA_inj q.1,← str_inj q.2]
  exact h
 have hall:∀d i,findD s (allD n)=some (d,i)→∀S',∃a S'',R.ret (.tup [.agg (dcC d),.v (.bool true)]) S' = R.ret a S''∧freeV a=true∧SpecZ 14 [ndA n,strS s] (clean a):=fun d i h S'=>fin (.tup [.agg (dcC d),.v (.bool true)]) S' rfl (by rw[h];rfl)
 have hnone:findD s (allD n)=none→∀S',∃a S'',R.ret (.tup [.agg [.v (.string ⟨⟨[]⟩⟩),.v (.int .i64 0),.v (.bool false),.v (.bool false),.v (.string ⟨⟨[]⟩⟩),.v (.bool false)],.v (.bool false)]) S' = R.ret a S''∧freeV a=true∧SpecZ 14 [ndA n,strS s] (clean a):=fun h S'=>fin (.tup [.agg [.v (.string ⟨⟨[]⟩⟩),.v (.int .i64 0),.v (.bool false),.v (.bool false),.v (.string ⟨⟨[]⟩⟩),.v (.bool false)],.v (.bool false)]) S' rfl (by rw[h];rfl)
 clear fin
 obtain⟨_,⟨l1,_⟩,⟨l2,_⟩,⟨l3,_⟩,_⟩:=hn
 have row:∀l:List PDc,isRowA 6 (.sl 0 0 6 (l.map dcA)) (l.map dcA):=fun l=>.inr ⟨0,0,rfl⟩
 have lpX:=fun(l:List PDc) (hl:l.length≤9) (r17:AV) t S=>tn_lp (s:=s) (row l) hl (z0:=.v (.string ⟨⟨[]⟩⟩)) (z1:=.v (.int .i64 0)) (z2:=.v (.bool false)) (z3:=.v (.bool false)) (z4:=.v (.string ⟨⟨[]⟩⟩)) (z5:=.v (.bool false)) (r16:=.agg [.sl 0 0 6 (n.ins.map dcA),.sl 0 0 6 (n.outs.map dcA),.sl 0 0 6 (n.vars.map dcA)]) (r17:=r17) l.length 0 t S (by omega) (fun i _ h=>absurd h (Nat.not_lt_zero _))
 have lp1:=lpX n.ins (by omega) (.v (.int .i64 0))
 have lp2:=lpX n.outs (by omega) (.v (.int .i64 1))
 have lp3:=lpX n.vars (by omega) (.v (.int .i64 2))
 clear lpX
 unfold tnLB at lp1 lp2 lp3
 unfold tnLO at lp1 lp2 lp3
 simp only[Tryd.f14]at lp1 lp2 lp3
 have hl1:∀S,oLen Tryd.prog S 34 (.sl 0 0 6 (n.ins.map dcA))=some n.ins.length:=drow_len (row n.ins)
 have hl2:∀S,oLen Tryd.prog S 34 (.sl 0 0 6 (n.outs.map dcA))=some n.outs.length:=drow_len (row n.outs)
 have hl3:∀S,oLen Tryd.prog S 34 (.sl 0 0 6 (n.vars.map dcA))=some n.vars.length:=drow_len (row n.vars)
 have d0:decide ((0:Int)<3)=true:=by decide
 have k0:IntKind.i64.wrap 1=1:=by decide
 have k1:IntKind.i64.wrap 2=2:=by decide
 have k2:IntKind.i64.wrap 3=3:=by decide
 have hnd:ndA n=.agg [.v (.string ⟨⟨n.name⟩⟩),.v (.int .i64 n.at_),.sl 0 0 6 (n.ins.map dcA),.sl 0 0 6 (n.outs.map dcA),.sl 0 0 6 (n.vars.map dcA),eqRow n.eqs]:=rfl
 rw[hnd]at hall hnone ⊢
 have hadd1:∀d i,findD s n.ins=some (d,i)→findD s (allD n)=some (d,i):=fun d i h=>findD_app1 (findD_app1 h)
 have hadd2:findD s n.ins=none→∀d i,findD s n.outs=some (d,i)→findD s (allD n)=some (d,i+n.ins.length):=fun h0 d i h=>findD_app1 (by rw[findD_app2 h0,h];rfl)
 have hadd3:findD s n.ins=none→findD s n.outs=none→∀d i,findD s n.vars=some (d,i)→findD s (allD n)=some (d,i+(n.ins ++ n.outs).length):=fun h0 h1 d i h=>by
  unfold allD
  rw[findD_app2 (by rw[findD_app2 h0,h1];rfl),h];rfl
 have hadd4:findD s n.ins=none→findD s n.outs=none→findD s n.vars=none→findD s (allD n)=none:=fun h0 h1 h=>by
  unfold allD
  rw[findD_app2 (by rw[findD_app2 h0,h1];rfl),h];rfl
 generalize n.ins.map dcA=a1 at *
 generalize n.outs.map dcA=a2 at *
 generalize n.vars.map dcA=a3 at *
 generalize eqRow n.eqs=a4 at *
 simp only[strS,i64A]at hall hnone ⊢
 refine bodyZ Tryd.f14 (by kernel_rfl) (by kernel_rfl) (show(_:Nat)≤_ from by show(_:Nat)≤_;simp[Tryd.f14]) ?_
 simp(maxSteps:=2000000) (disch:=omega)only[W_region,W_seq,W_block,W_loop,seqQ_normal2,WL_nil2,WL_cons,execL_val2,putL_some2,wantedA,exec1,evalO,initT,T.get_set,T.get_leaf,ofOpt,ofOptS,ofConst,partsA,reduceLT,reduceAdd,reduceEqDiff,if_true,if_false,true_and,Option.getD_some,List.getElem?_cons_succ,List.getElem?_cons_zero,nb_get,nb_next,st0_get,st0_next,cl1_box,Nat.zero_add,noTup_agg,cells_agg,ez_P,strS,cells_agg,initT,List.getElem?_cons_succ,yfN_2,yfN_3,yfN_4,yaDc,yl34,nb_get,nb_next,Tryd.f14,yb89]
 refine WX_loop (W_sound ?_)
 simp(maxSteps:=2000000) (disch:=omega)only[thenW_exit,W_skip,W_region,W_seq,W_cond,W_block,W_loop,W_exit,seqQ_normal2,seqQ_exit2,blockW_exit2,WL_nil2,WL_cons,execL_val2,putL_some2,condW_t2,wantedA,exec1,evalO,T.get_set,T.get_leaf,callA,ofOpt,ofConst,partsA,neNil3,fb_lss,reduceLT,reduceEqDiff,if_true,if_false,true_and,Bool.false_eq_true,decide_true,ez_P,neNil3,Int.reduceLT,fx89_0,hl1]
 refine WX.mono (lp1 _ _ ?_ ?_ ?_ ?_ ?_ ?_ ?_ ?_ ?_) ?_
 ·simp only[nb_next,st0_next];omega
 ·simp only[nb_get,nb_next,st0_next,reduceAdd,reduceEqDiff,if_true,if_false] <;> rfl
 iterate 7 (simp only[T.get_set,T.get_leaf,reduceEqDiff,if_true,if_false] <;> rfl)
 rintro _ (⟨t1,S1,rfl,hf1,T1,T4,T16,T17,hn1,m3⟩ | ⟨t1,S1,d,i,rfl,hf1,T4,T5,m3⟩)
 rotate_left
 ·have fin:=hall d i (hadd1 d i hf1)
  unfold dcC at m3 fin
  simp(maxSteps:=2000000) (disch:=omega)only[thenW_ret,seqQ_ret2,blockW_ret2,finW_ret,giveW,resultsA,tupA,reduceAdd,if_true,clN_box,List.length_cons,List.length_nil,Nat.zero_add,reduceLeDiff,List.drop_zero,List.take_succ_cons,List.take_zero,ez_P,clN_box,ylDc,T4,T5,m3]
  exact fin _
 simp(maxSteps:=2000000) (disch:=omega)only[thenW_normal,thenW_exit,W_region,W_seq,W_ret,seqQ_normal2,seqQ_exit2,blockW_normal2,blockW_exit2,WL_nil2,WL_cons,execL_val2,execL_skip2,putL_none2,putL_some2,wantedA,exec1,evalO,T.get_set,ofOpt,ofConst,partsA,neNil3,finW_ret,giveW,resultsA,tupA,fb_add,reduceLT,reduceAdd,reduceEqDiff,if_true,if_false,true_and,List.nil_append,List.append_nil,Bool.false_eq_true,to_get,clN_box,vstB_agg,List.length_cons,List.length_nil,Nat.zero_add,reduceLeDiff,List.drop_zero,List.drop_succ_cons,List.drop_nil,List.take_succ_cons,List.take_zero,and_self,ez_P,neNil3,clN_box,ylDc,ysDc,to_get,k0,Int.reduceAdd,T4,T17,m3,ybDc_0]
 refine WX_loop (W_sound ?_)
 simp(maxSteps:=2000000) (disch:=omega)only[thenW_exit,W_skip,W_region,W_seq,W_cond,W_block,W_loop,W_exit,W_ret,seqQ_normal2,seqQ_exit2,blockW_exit2,WL_nil2,WL_cons,execL_val2,execL_skip2,putL_none2,putL_some2,condW_t2,wantedA,exec1,evalO,T.get_set,callA,ofOpt,ofConst,partsA,neNil3,finW_ret,giveW,resultsA,tupA,fb_lss,reduceLT,reduceAdd,reduceEqDiff,if_true,if_false,true_and,List.nil_append,List.append_nil,Bool.false_eq_true,decide_true,to_get,clN_box,vstB_agg,List.length_cons,List.length_nil,Nat.zero_add,reduceLeDiff,List.drop_zero,List.drop_succ_cons,List.drop_nil,List.take_succ_cons,List.take_zero,and_self,ez_P,neNil3,clN_box,Int.reduceLT,ylDc,ysDc,to_get,fx89_1,hl2,T4,T16,T17,m3,ybDc_0]
 refine WX.mono (lp2 _ _ hn1 m3 ?_ ?_ ?_ ?_ ?_ ?_ ?_) ?_
 ·simp only[T.get_set,reduceEqDiff,if_false,T1]
 ·simp only[T.get_set,reduceEqDiff,if_false,T4]
 ·simp only[T.get_set,reduceEqDiff,if_false,T16]
 ·simp only[T.get_set,reduceEqDiff,if_true,if_false]
 ·simp only[T.get_set,reduceEqDiff,if_true,if_false]
 ·simp only[T.get_set,reduceEqDiff,if_true,if_false]
 ·simp only[T.get_set,reduceEqDiff,if_true,if_false];rfl
 clear T1 T4 T16 T17 hn1 m3
 rintro _ (⟨t2,S2,rfl,hf2,T1,T4,T16,T17,hn1,m3⟩ | ⟨t2,S2,d,i,rfl,hf2,T4,T5,m3⟩)
 rotate_left
 ·have fin:=hall d _ (hadd2 hf1 d i hf2)
  unfold dcC at m3 fin
  simp(maxSteps:=2000000) (disch:=omega)only[thenW_ret,seqQ_ret2,blockW_ret2,finW_ret,giveW,resultsA,tupA,reduceAdd,if_true,clN_box,List.length_cons,List.length_nil,Nat.zero_add,reduceLeDiff,List.drop_zero,List.take_succ_cons,List.take_zero,ez_P,clN_box,ylDc,T4,T5,m3]
  exact fin _
 simp(maxSteps:=2000000) (disch:=omega)only[thenW_normal,thenW_exit,W_region,W_seq,W_ret,seqQ_normal2,seqQ_exit2,blockW_normal2,blockW_exit2,WL_nil2,WL_cons,execL_val2,execL_skip2,putL_none2,putL_some2,wantedA,exec1,evalO,T.get_set,ofOpt,ofConst,partsA,neNil3,finW_ret,giveW,resultsA,tupA,fb_add,reduceLT,reduceAdd,reduceEqDiff,if_true,if_false,true_and,List.nil_append,List.append_nil,Bool.false_eq_true,to_get,clN_box,vstB_agg,List.length_cons,List.length_nil,Nat.zero_add,reduceLeDiff,List.drop_zero,List.drop_succ_cons,List.drop_nil,List.take_succ_cons,List.take_zero,and_self,ez_P,neNil3,clN_box,ylDc,ysDc,to_get,k1,Int.reduceAdd,T4,T17,m3,ybDc_0]
 refine WX_loop (W_sound ?_)
 simp(maxSteps:=2000000) (disch:=omega)only[thenW_exit,W_skip,W_region,W_seq,W_cond,W_block,W_loop,W_exit,W_ret,seqQ_normal2,seqQ_exit2,blockW_exit2,WL_nil2,WL_cons,execL_val2,execL_skip2,putL_none2,putL_some2,condW_t2,wantedA,exec1,evalO,T.get_set,callA,ofOpt,ofConst,partsA,neNil3,finW_ret,giveW,resultsA,tupA,fb_lss,reduceLT,reduceAdd,reduceEqDiff,if_true,if_false,true_and,List.nil_append,List.append_nil,Bool.false_eq_true,decide_true,to_get,clN_box,vstB_agg,List.length_cons,List.length_nil,Nat.zero_add,reduceLeDiff,List.drop_zero,List.drop_succ_cons,List.drop_nil,List.take_succ_cons,List.take_zero,and_self,ez_P,neNil3,clN_box,Int.reduceLT,ylDc,ysDc,to_get,fx89_2,hl3,T4,T16,T17,m3,ybDc_0]
 refine WX.mono (lp3 _ _ hn1 m3 ?_ ?_ ?_ ?_ ?_ ?_ ?_) ?_
 ·simp only[T.get_set,reduceEqDiff,if_false,T1]
 ·simp only[T.get_set,reduceEqDiff,if_false,T4]
 ·simp only[T.get_set,reduceEqDiff,if_false,T16]
 ·simp only[T.get_set,reduceEqDiff,if_true,if_false]
 ·simp only[T.get_set,reduceEqDiff,if_true,if_false]
 ·simp only[T.get_set,reduceEqDiff,if_true,if_false]
 ·simp only[T.get_set,reduceEqDiff,if_true,if_false];rfl
 clear T1 T4 T16 T17 hn1 m3
 rintro _ (⟨t3,S3,rfl,hf3,T1,T4,T16,T17,hn1,m3⟩ | ⟨t3,S3,d,i,rfl,hf3,T4,T5,m3⟩)
 rotate_left
 ·have fin:=hall d _ (hadd3 hf1 hf2 d i hf3)
  unfold dcC at m3 fin
  simp(maxSteps:=2000000) (disch:=omega)only[thenW_ret,seqQ_ret2,blockW_ret2,finW_ret,giveW,resultsA,tupA,reduceAdd,if_true,clN_box,List.length_cons,List.length_nil,Nat.zero_add,reduceLeDiff,List.drop_zero,List.take_succ_cons,List.take_zero,ez_P,clN_box,ylDc,T4,T5,m3]
  exact fin _
 have fin:=hnone (hadd4 hf1 hf2 hf3)
 simp(maxSteps:=2000000) (disch:=omega)only[thenW_normal,thenW_exit,W_region,W_seq,W_ret,seqQ_normal2,seqQ_exit2,blockW_normal2,blockW_exit2,WL_nil2,WL_cons,execL_val2,execL_skip2,putL_none2,putL_some2,wantedA,exec1,evalO,T.get_set,ofOpt,ofConst,partsA,neNil3,finW_ret,giveW,resultsA,tupA,fb_add,reduceLT,reduceAdd,reduceEqDiff,if_true,if_false,true_and,List.nil_append,List.append_nil,Bool.false_eq_true,to_get,clN_box,vstB_agg,List.length_cons,List.length_nil,Nat.zero_add,reduceLeDiff,List.drop_zero,List.drop_succ_cons,List.drop_nil,List.take_succ_cons,List.take_zero,and_self,ez_P,neNil3,clN_box,ylDc,ysDc,to_get,k2,Int.reduceAdd,T4,T17,m3,ybDc_0]
 refine WX_loop (W_sound ?_)
 simp(maxSteps:=2000000) (disch:=omega)only[thenW_exit,W_skip,W_region,W_seq,W_cond,W_block,W_exit,W_ret,seqQ_normal2,seqQ_exit2,blockW_exit2,WL_nil2,WL_cons,execL_val2,execL_skip2,putL_none2,putL_some2,condW_f2,wantedA,exec1,evalO,T.get_set,ofOpt,ofConst,partsA,neNil3,finW_ret,giveW,resultsA,tupA,fb_lss,reduceLT,reduceAdd,reduceEqDiff,if_true,if_false,true_and,List.nil_append,List.append_nil,Bool.false_eq_true,decide_false,to_get,clN_box,vstB_agg,List.length_cons,List.length_nil,Nat.zero_add,reduceLeDiff,List.drop_zero,List.drop_succ_cons,List.drop_nil,List.take_succ_cons,List.take_zero,and_self,ez_P,ez_G,neNil3,clN_box,Int.reduceLT,ylDc,ysDc,to_get,T4,T16,T17,m3,ybDc_0]
 exact fin _
theorem named_u{n:NdX}{s:List UInt8}(hn:okNd n){S:St}{Q:R→Prop}(h:Q (.ret (match findD s (allD n)with |some (d,_)=>.tup [dcA d,.v (.bool true)] |none=>.tup [dcZero,.v (.bool false)]) S)):WC EZ 14 [ndA n,strS s] S Q :=
 callZ (args':=[ndA n,strS s]) (named_k n s hn) (by kernel_rfl) (by show(freeV (ndA n) && true)=true;rw[(ndA_fr n).1];rfl) (by show [clean (ndA n),_]=_;rw[(ndA_fr n).2];rfl) fun x _ _ hs=>by
  have:=hs n s rfl hn
  subst this
  exact h
end Go.Ax
noncomputable section
open Nat (reduceEqDiff)
namespace Go.Ax
open Go.RowKit Go.Proofs
set_option maxRecDepth 100000
def joinK(l:List (List UInt8 × Int))(k:Nat):List UInt8:=Lib.join ((l.take k).map fun x=>x.1) [44,32]
theorem joinK_step(l:List (List UInt8 × Int))(k:Nat)(h:k<l.length):joinK l (k+1)=if k=0 then l[k].1 else(joinK l k ++ [44,32]) ++ l[k].1:=by
 unfold joinK
 rw[List.take_succ_eq_append_getElem h,List.map_append]
 by_cases hk:k=0
 ·subst hk
  rw[if_pos rfl]
  show Lib.join [l[0].1] _=_
  rw[Lib.join_one]
 ·rw[if_neg hk]
  refine join_snoc _ _ _ fun e=>?_
  have:=congrArg List.length e
  rw[List.length_map,List.length_take]at this
  simp only[List.length_nil]at this
  omega
theorem joinK_len{l:List (List UInt8 × Int)}(hok:∀x∈l,x.1.length≤30)(hl:l.length≤3)(k:Nat):(joinK l k).length≤400 :=
 lefts_len (fun x hx=>hok x (List.mem_of_mem_take hx)) (by rw[List.length_take];omega)
theorem joinK_all(l:List (List UInt8 × Int)):joinK l l.length=Lib.join (l.map fun x=>x.1) [44,32]:=by unfold joinK;rw[List.take_length]
def Kp(S S':St):Prop:=S.next≤S'.next∧∀id,id<S.next→S'.mem.get id=S.mem.get id
theorem Kp.refl(S:St):Kp S S:=⟨Nat.le_refl _,fun _ _=>rfl⟩
theorem Kp.trans{a b c:St}(h:Kp a b)(h2:Kp b c):Kp a c:=⟨Nat.le_trans h.1 h2.1,fun id hi=>(h2.2 id (Nat.lt_of_lt_of_le hi h.1)).trans (h.2 id hi)⟩
theorem Kp.box(S:St)(z c:List AV):Kp S ((S.newBox z).to S.next c):=⟨by rw[to_next,nb_next];omega,fun id hi=>by rw[to_get,nb_get,if_neg (by omega),if_neg (by omega)]⟩
def K8(t t':T AV):Prop:=t'.get 3=t.get 3∧t'.get 7=t.get 7∧t'.get 11=t.get 11∧t'.get 12=t.get 12∧t'.get 13=t.get 13∧t'.get 47=t.get 47∧t'.get 48=t.get 48∧t'.get 49=t.get 49
theorem K8.trans{a b c:T AV}(h:K8 a b)(h2:K8 b c):K8 a c:=⟨h2.1.trans h.1,h2.2.1.trans h.2.1,h2.2.2.1.trans h.2.2.1,h2.2.2.2.1.trans h.2.2.2.1,h2.2.2.2.2.1.trans h.2.2.2.2.1,h2.2.2.2.2.2.1.trans h.2.2.2.2.2.1,h2.2.2.2.2.2.2.1.trans h.2.2.2.2.2.2.1,h2.2.2.2.2.2.2.2.trans h.2.2.2.2.2.2.2⟩
def rp0:Code:=match Tryd.f12.body with
 |some (.seq c _)=>c
 |_=>.skip
def rp1:Code:=match Tryd.f12.body with
 |some (.seq _ (.seq c _))=>c
 |_=>.skip
def rp2:Code:=match Tryd.f12.body with
 |some (.seq _ (.seq _ (.seq (.seq c _) _)))=>c
 |_=>.skip
def rpL:Code:=match Tryd.f12.body with
 |some (.seq _ (.seq _ (.seq (.seq _ (.block _ (.loop c))) _)))=>c
 |_=>.skip
def rpZ:Code:=match Tryd.f12.body with
 |some (.seq _ (.seq _ (.seq _ c)))=>c
 |_=>.skip
theorem rp_is:Tryd.f12.body=some (.seq rp0 (.seq rp1 (.seq (.seq rp2 (.block 0 (.loop rpL))) rpZ))):=by kernel_rfl
def rq3:Code:=match rpL with
 |.seq c _=>c
 |_=>.skip
def rqC:Code:=match rpL with
 |.seq _ (.seq c _)=>c
 |_=>.skip
def rq4:Code:=match rpL with
 |.seq _ (.seq _ (.seq (.block _ (.seq c _)) _))=>c
 |_=>.skip
def rq5:Code:=match rpL with
 |.seq _ (.seq _ (.seq (.block _ (.seq _ (.seq c _))) _))=>c
 |_=>.skip
def rq6:Code:=match rpL with
 |.seq _ (.seq _ (.seq (.block _ (.seq _ (.seq _ (.seq c _)))) _))=>c
 |_=>.skip
def rq8:Code:=match rpL with
 |.seq _ (.seq _ (.seq (.block _ (.seq _ (.seq _ (.seq _ (.seq c _))))) _))=>c
 |_=>.skip
def rq9:Code:=match rpL with
 |.seq _ (.seq _ (.seq (.block _ (.seq _ (.seq _ (.seq _ (.seq _ (.seq (.seq c _) _)))))) _))=>c
 |_=>.skip
def rqL:Code:=match rpL with
 |.seq _ (.seq _ (.seq (.block _ (.seq _ (.seq _ (.seq _ (.seq _ (.seq (.seq _ (.block _ (.loop c))) _)))))) _))=>c
 |_=>.skip
def rq27:Code:=match rpL with
 |.seq _ (.seq _ (.seq (.block _ (.seq _ (.seq _ (.seq _ (.seq _ (.seq _ c)))))) _))=>c
 |_=>.skip
def rq28:Code:=match rpL with
 |.seq _ (.seq _ (.seq _ c))=>c
 |_=>.skip
theorem rq_is:rpL=.seq rq3 (.seq rqC (.seq (.block 1 (.seq rq4 (.seq rq5 (.seq rq6 (.seq rq8 (.seq (.seq rq9 (.block 2 (.loop rqL))) rq27)))))) rq28)):=by kernel_rfl
def rs10:Code:=match rqL with
 |.seq c _=>c
 |_=>.skip
def rsC:Code:=match rqL with
 |.seq _ (.seq c _)=>c
 |_=>.skip
def rs11:Code:=match rqL with
 |.seq _ (.seq _ (.seq (.block _ (.seq c _)) _))=>c
 |_=>.skip
def rs12:Code:=match rqL with
 |.seq _ (.seq _ (.seq (.block _ (.seq _ (.seq c _))) _))=>c
 |_=>.skip
def rs13:Code:=match rqL with
 |.seq _ (.seq _ (.seq (.block _ (.seq _ (.seq _ (.seq (.seq c _) _)))) _))=>c
 |_=>.skip
def rsL:Code:=match rqL with
 |.seq _ (.seq _ (.seq (.block _ (.seq _ (.seq _ (.seq (.seq _ (.block _ (.loop c))) _)))) _))=>c
 |_=>.skip
def rs20:Code:=match rqL with
 |.seq _ (.seq _ (.seq (.block _ (.seq _ (.seq _ (.seq _ (.seq c _))))) _))=>c
 |_=>.skip
def rs22:Code:=match rqL with
 |.seq _ (.seq _ (.seq (.block _ (.seq _ (.seq _ (.seq _ (.seq _ (.seq c _)))))) _))=>c
 |_=>.skip
def rs23:Code:=match rqL with
 |.seq _ (.seq _ (.seq (.block _ (.seq _ (.seq _ (.seq _ (.seq _ (.seq _ (.seq c _))))))) _))=>c
 |_=>.skip
def rs25:Code:=match rqL with
 |.seq _ (.seq _ (.seq (.block _ (.seq _ (.seq _ (.seq _ (.seq _ (.seq _ (.seq _ c))))))) _))=>c
 |_=>.skip
def rs26:Code:=match rqL with
 |.seq _ (.seq _ (.seq _ c))=>c
 |_=>.skip
theorem rs_is:rqL=.seq rs10 (.seq rsC (.seq (.block 3 (.seq rs11 (.seq rs12 (.seq (.seq rs13 (.block 4 (.loop rsL))) (.seq rs20 (.seq rs22 (.seq rs23 rs25))))))) rs26)):=by kernel_rfl
theorem rl_lp{l:List (List UInt8 × Int)}(hok:∀x∈l,x.1.length≤30)(hl:l.length≤3):∀(n k:Nat) (t:T AV) (S:St),k+n=l.length→t.get 8=some (.v (.string ⟨⟨joinK l k⟩⟩))→t.get 54=some (.sl 0 0 2 (l.map lfA))→t.get 55=some (.v (.int .i64 ((l.length:Nat):Int)))→t.get 56=some (.v (.int .i64 ((k:Nat):Int))) →
  WX EZ 97 (.loop rsL) ⟨t,[]⟩ S (fun r=>∃t' S',r=.out (.exit 4) ⟨t',[]⟩ S'∧K8 t t'∧t'.get 8=some (.v (.string ⟨⟨Lib.join (l.map fun x=>x.1) [44,32]⟩⟩))∧Kp S S')
 |0,k,t,S,hk,T8,T54,T55,T56=>by
  refine WX_loop (W_sound ?_)
  have hlt:decide ((k:Int)<(l.length:Int))=false:=by rw[decide_eq_false_iff_not];omega
  have hkl:k=l.length:=by omega
  rw[hkl,joinK_all]at T8
  simp(maxSteps:=2000000) (disch:=omega)only[thenW_exit,W_skip,W_region,W_seq,W_cond,W_block,W_exit,seqQ_normal2,seqQ_exit2,WL_nil2,WL_cons,execL_val2,putL_some2,condW_f2,wantedA,exec1,evalO,T.get_set,ofOpt,neNil3,fb_lss,Nat.reduceLT,reduceEqDiff,if_true,if_false,true_and,Bool.false_eq_true,ez_P,neNil3,rsL,rqL,rpL,Tryd.f12,T54,T55,T56,hlt]
  exact⟨_,_,rfl,⟨by simp only[T.get_set,reduceEqDiff,if_false],by simp only[T.get_set,reduceEqDiff,if_false],by simp only[T.get_set,reduceEqDiff,if_false],by simp only[T.get_set,reduceEqDiff,if_false],by simp only[T.get_set,reduceEqDiff,if_false],by simp only[T.get_set,reduceEqDiff,if_false],by simp only[T.get_set,reduceEqDiff,if_false],by simp only[T.get_set,reduceEqDiff,if_false]⟩,by simp only[T.get_set,reduceEqDiff,if_false,T8],Kp.refl S⟩
 |n+1,k,t,S,hk,T8,T54,T55,T56=>by
  refine WX_loop (W_sound ?_)
  have hkl:k<l.length:=by omega
  have hlt:decide ((k:Int)<(l.length:Int))=true:=by rw[decide_eq_true_eq];omega
  have hws:=wrapS k (by omega)
  have hx:=yxGr 0 0 (l.map lfA) k (by rw[List.length_map];exact hkl)
  rw[List.getElem_map]at hx
  have hc:(lfA l[k]).cells=[.v (.string ⟨⟨l[k].1⟩⟩),.v (.int .i64 l[k].2)]:=rfl
  rw[hc]at hx
  clear hc
  have hs:=joinK_step l k hkl
  have hl0:=joinK_len hok hl k
  have hl1:=hok _ (List.getElem_mem hkl)
  have fin:=fun(t1:T AV) (hK:K8 t t1) (c:List AV) (h8:t1.get 8=some (.v (.string ⟨⟨joinK l (k+1)⟩⟩))) (h54:t1.get 54=some (.sl 0 0 2 (l.map lfA))) (h55:t1.get 55=some (.v (.int .i64 ((l.length:Nat):Int)))) (h56:t1.get 56=some (.v (.int .i64 ((k+1:Nat):Int))))=>WX.mono (rl_lp hok hl n (k+1) t1 ((S.newBox [.v (.string ⟨⟨[]⟩⟩),.v (.int .i64 0)]).to S.next c) (by omega) h8 h54 h55 h56) (Q':=fun r=>∃t' S',r=.out (.exit 4) ⟨t',[]⟩ S'∧K8 t t'∧t'.get 8=some (.v (.string ⟨⟨Lib.join (l.map fun x=>x.1) [44,32]⟩⟩))∧Kp S S') (fun r ⟨t',S',h1,h2,h3,h4⟩=>⟨t',S',h1,hK.trans h2,h3,(Kp.box S _ c).trans h4⟩)
  by_cases hk0:k=0
  ·have hgt:decide ((k:Int) > 0)=false:=by rw[decide_eq_false_iff_not];omega
   rw[if_pos hk0]at hs
   have h0:joinK l k=[]:=by rw[hk0];rfl
   rw[h0]at T8
   rw[hs]at fin
   have hc1:fastBin .add (.v (.string ⟨⟨[]⟩⟩)) (.v (.string ⟨⟨l[k].1⟩⟩))=some (.v (.string ⟨⟨l[k].1⟩⟩)):=fb_catS [] _ (by simp only[List.length_nil];omega)
   clear hs
   generalize l[k].1=nm at *
   generalize l[k].2=ap at *
   generalize l.map lfA=lw at *
   simp(maxSteps:=2000000) (disch:=omega)only[thenW_normal,thenW_exit,W_skip,W_region,W_seq,W_cond,W_block,W_exit,seqQ_normal2,seqQ_exit2,blockW_normal2,WL_nil2,WL_cons,execL_val2,execL_skip2,putL_none2,putL_some2,condW_t2,condW_f2,wantedA,exec1,evalO,T.get_set,ofOpt,ofOptS,ofConst,neNil3,fb_lss,fb_gtr,fb_add,neNil9,Nat.reduceLT,Nat.reduceAdd,reduceEqDiff,if_true,if_false,true_and,List.getElem?_cons_zero,List.nil_append,List.append_nil,Bool.false_eq_true,to_get,nb_get,cl1_box,vstB_agg,List.length_cons,List.length_nil,Nat.zero_add,Nat.add_zero,Nat.reduceLeDiff,List.drop_succ_cons,List.drop_nil,List.take_succ_cons,List.take_zero,and_self,ez_P,ez_G,neNil3,neNil9,yl9,yleLr,ysLr,yaLr,yfLr_0,to_get,nb_get,rsL,rqL,rpL,Tryd.f12,T8,T54,T55,T56,hlt,hws,hx,hgt,hc1]
   refine fin _ ⟨by simp only[T.get_set,reduceEqDiff,if_false],by simp only[T.get_set,reduceEqDiff,if_false],by simp only[T.get_set,reduceEqDiff,if_false],by simp only[T.get_set,reduceEqDiff,if_false],by simp only[T.get_set,reduceEqDiff,if_false],by simp only[T.get_set,reduceEqDiff,if_false],by simp only[T.get_set,reduceEqDiff,if_false],by simp only[T.get_set,reduceEqDiff,if_false]⟩ _ ?_ ?_ ?_ ?_
   ·simp only[T.get_set,reduceEqDiff,if_true,if_false]
   ·simp only[T.get_set,reduceEqDiff,if_false,T54]
   ·simp only[T.get_set,reduceEqDiff,if_false,T55]
   ·simp only[T.get_set,reduceEqDiff,if_true,if_false]
  ·have hgt:decide ((k:Int) > 0)=true:=by rw[decide_eq_true_eq];omega
   rw[if_neg hk0]at hs
   have hc1:=fb_catS (joinK l k) [44,32] (by simp only[List.length_cons,List.length_nil];omega)
   have hc2:=fb_catS (joinK l k ++ [44,32]) l[k].1 (by simp only[List.length_append,List.length_cons,List.length_nil];omega)
   rw[← hs]at hc2
   clear hs
   generalize joinK l (k+1)=y2 at *
   generalize joinK l k ++ [44,32]=y1 at *
   generalize joinK l k=y0 at *
   generalize l[k].1=nm at *
   generalize l[k].2=ap at *
   generalize l.map lfA=lw at *
   simp(maxSteps:=2000000) (disch:=omega)only[thenW_normal,thenW_exit,W_skip,W_region,W_seq,W_cond,W_block,W_exit,seqQ_normal2,seqQ_exit2,blockW_normal2,WL_nil2,WL_cons,execL_val2,execL_skip2,putL_none2,putL_some2,condW_t2,wantedA,exec1,evalO,T.get_set,ofOpt,ofOptS,ofConst,neNil3,fb_lss,fb_gtr,fb_add,neNil9,Nat.reduceLT,Nat.reduceAdd,reduceEqDiff,if_true,if_false,true_and,List.getElem?_cons_zero,List.nil_append,List.append_nil,Bool.false_eq_true,to_get,nb_get,cl1_box,vstB_agg,List.length_cons,List.length_nil,Nat.zero_add,Nat.add_zero,Nat.reduceLeDiff,List.drop_succ_cons,List.drop_nil,List.take_succ_cons,List.take_zero,and_self,ez_P,ez_G,neNil3,neNil9,yl9,yleLr,ysLr,yaLr,yfLr_0,to_get,nb_get,rsL,rqL,rpL,Tryd.f12,T8,T54,T55,T56,hlt,hws,hx,hgt,hc1,hc2]
   refine fin _ ⟨by simp only[T.get_set,reduceEqDiff,if_false],by simp only[T.get_set,reduceEqDiff,if_false],by simp only[T.get_set,reduceEqDiff,if_false],by simp only[T.get_set,reduceEqDiff,if_false],by simp only[T.get_set,reduceEqDiff,if_false],by simp only[T.get_set,reduceEqDiff,if_false],by simp only[T.get_set,reduceEqDiff,if_false],by simp only[T.get_set,reduceEqDiff,if_false]⟩ _ ?_ ?_ ?_ ?_
   ·simp only[T.get_set,reduceEqDiff,if_true,if_false]
   ·simp only[T.get_set,reduceEqDiff,if_false,T54]
   ·simp only[T.get_set,reduceEqDiff,if_false,T55]
   ·simp only[T.get_set,reduceEqDiff,if_true,if_false]
end Go.Ax
