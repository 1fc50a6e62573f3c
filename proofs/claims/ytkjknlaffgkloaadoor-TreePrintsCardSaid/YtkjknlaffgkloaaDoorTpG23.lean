/- TuP -/
import Derived.Test.YtkjknlaffgkloaaDoorTpG22
import Derived.Test.YtkjknlaffgkloaaDoorAxShelfB
import Derived.Shelf.Strings.Builder1
import Derived.Shelf.Strings.Builder2
import Derived.OneCell
import Derived.Lib.Hide
import Derived.ProofKit
import Derived.Tactics
import Derived.Test.YtkjknlaffgkloaaDoorTpG12
import Derived.Test.YtkjknlaffgkloaaDoorTpG18
import Derived.Deep.RegionHeld3
import Derived.Deep.DeepCutAuto
import Derived.Deep.RegionWith
import Derived.WalkSpells
import Derived.WalkKit
import Derived.OwnWalk
import Derived.IntWalk
set_option linter.unusedVariables false
set_option linter.unusedSimpArgs false
set_option maxHeartbeats 16000000
noncomputable section
open Nat (reduceLT reduceEqDiff)
namespace Go.Ax
open Go.RowKit Go.Proofs
set_option maxRecDepth 100000
def headF(n:NdX):List UInt8:=(((((([110,111,100,101,32] ++ n.name) ++ [40]) ++ Lib.join (n.ins.map declF) [44,32]) ++ [41,32,114,101,116,117,114,110,115,32,40]) ++ Lib.join (n.outs.map declF) [44,32]) ++ [41,10])
def varF(n:NdX):List UInt8:=if n.vars=[]then []else([118,97,114,32] ++ Lib.join (n.vars.map declF) [59,32]) ++ [59,10]
theorem nodeF_is(n:NdX)(s:List UInt8):s ++ nodeF n=((((s ++ headF n) ++ varF n) ++ [108,101,116,10]) ++ (n.eqs.map eqLF).flatten) ++ [116,101,108,10]:=by
 have:nodeF n=headF n ++ (varF n ++ ([108,101,116,10] ++ ((n.eqs.map eqLF).flatten ++ [116,101,108,10]))):=rfl
 rw[this]
 simp only[List.append_assoc]
theorem ds_len{l:List PDc}(h:okDs l)(s:List UInt8)(hs:s.length≤10):(Lib.join (l.map declF) s).length≤1000000:=decls_len h.2 (by have:=h.1;omega) hs
theorem headF_len{n:NdX}(h:okNd n):(headF n).length≤2000200:=by
 obtain⟨h0,h1,h2,_⟩:=h
 have g1:=ds_len h1 [44,32] (by decide)
 have g2:=ds_len h2 [44,32] (by decide)
 unfold headF
 simp only[List.length_append,List.length_cons,List.length_nil];omega
theorem varF_len{n:NdX}(h:okNd n):(varF n).length≤1000020:=by
 obtain⟨h0,h1,h2,h3,_⟩:=h
 have g3:=ds_len h3 [59,32] (by decide)
 unfold varF
 split
 ·simp
 ·simp only[List.length_append,List.length_cons,List.length_nil];omega
theorem nodeF_len{n:NdX}(h:okNd n):(nodeF n).length≤10000000:=by
 have h1:=headF_len h
 have h2:=varF_len h
 have h3:=flat_len' eqLF 401000 n.eqs fun q hq=>eqF_len (h.2.2.2.2.2 q hq)
 have h4:n.eqs.length*401000≤5*401000:=Nat.mul_le_mul_right _ h.2.2.2.2.1
 have h5:=nodeF_is n []
 rw[List.nil_append]at h5
 rw[h5]
 simp only[List.length_append,List.length_cons,List.length_nil];omega
theorem printF_len{l:List NdX}(hl:l.length≤3)(hok:∀n∈l,okNd n):(printF l).length≤30000000:=by
 have h:=flat_len' nodeF 10000000 l fun n hn=>nodeF_len (hok n hn)
 have h2:l.length*10000000≤3*10000000:=Nat.mul_le_mul_right _ hl
 unfold printF;omega
theorem printF_step(l:List NdX)(j:Nat)(h:j<l.length):printF (l.take (j+1))=printF (l.take j) ++ nodeF l[j]:=by
 unfold printF
 rw[List.take_succ_eq_append_getElem h,List.map_append,List.flatten_append]
 simp
theorem ndrow_idx{l:List NdX}(j:Nat)(h:j<l.length):oIndexAddr Tryd.prog 22 (.sl 0 0 6 (l.map ndA)) (.v (.int .i64 (j:Int)))=some (.ep [.v (.string ⟨⟨l[j].name⟩⟩),.v (.int .i64 l[j].at_),.sl 0 0 6 (l[j].ins.map dcA),.sl 0 0 6 (l[j].outs.map dcA),.sl 0 0 6 (l[j].vars.map dcA),eqRow l[j].eqs]):=by
 have:=yxNr 0 0 (l.map ndA) j (by rw[List.length_map];exact h)
 rw[List.getElem_map]at this
 exact this
theorem rp_lp{l:List NdX}(hl:l.length≤3)(hok:∀n∈l,okNd n):∀(n j:Nat) (t:T AV) (S:St),j+n=l.length→t.get 3=some (.v (.string ⟨⟨printF (l.take j)⟩⟩))→t.get 11=some (.sl 0 0 6 (l.map ndA))→t.get 12=some (.v (.int .i64 ((l.length:Nat):Int)))→t.get 13=some (.v (.int .i64 ((j:Nat):Int))) →
  WX EZ 97 (.loop rpL) ⟨t,[]⟩ S (fun r=>∃t' S',r=.out (.exit 0) ⟨t',[]⟩ S'∧t'.get 3=some (.v (.string ⟨⟨printF l⟩⟩)))
 |0,j,t,S,hj,T3,T11,T12,T13=>by
  refine WX_loop (W_sound ?_)
  have hlt:decide ((j:Int)<(l.length:Int))=false:=by rw[decide_eq_false_iff_not];omega
  rw[List.take_of_length_le (by omega)]at T3
  simp(maxSteps:=2000000) (disch:=omega)only[thenW_exit,W_skip,W_region,W_seq,W_cond,W_block,W_exit,seqQ_normal2,seqQ_exit2,WL_nil2,WL_cons,execL_val2,putL_some2,condW_f2,wantedA,exec1,evalO,T.get_set,ofOpt,neNil3,fb_lss,reduceLT,reduceEqDiff,if_true,if_false,true_and,Bool.false_eq_true,ez_P,neNil3,rpL,Tryd.f12,T11,T12,T13,hlt]
  exact⟨_,_,rfl,by simp only[T.get_set,reduceEqDiff,if_false,T3]⟩
 |n+1,j,t,S,hj,T3,T11,T12,T13=>by
  refine WX_loop (W_sound ?_)
  have key:∀Q,W EZ 97 (.seq rq3 (.seq rqC (.seq (.block 1 (.seq rq4 (.seq rq5 (.seq rq6 (.seq rq8 (.seq (.seq rq9 (.block 2 (.loop rqL))) rq27)))))) rq28))) ⟨t,[]⟩ S Q→W EZ 97 rpL ⟨t,[]⟩ S Q:=fun Q h=>by rw[rq_is];exact h
  refine key _ ?_
  clear key
  have hjl:j<l.length:=by omega
  have hlt:decide ((j:Int)<(l.length:Int))=true:=by rw[decide_eq_true_eq];omega
  have hws:=wrapS j (by omega)
  have hn:=hok _ (List.getElem_mem hjl)
  have hx:=ndrow_idx j hjl
  have hst:=printF_step l j hjl
  have hp0:=printF_len (l:=l.take j) (by rw[List.length_take];omega) (fun n hn=>hok n (List.mem_of_mem_take hn))
  obtain⟨m,hm⟩:∃m,m=l[j]:=⟨_,rfl⟩
  rw[← hm]at hn hx hst
  have hhl:=headF_len hn
  have hvl:=varF_len hn
  obtain⟨hnm,hd1,hd2,hd3,hq5,hoq⟩:=hn
  have hr1:=fun(S:St) (Q:R→Prop) h=>rd_u (S:=S) (Q:=Q) (v:=.sl 0 0 6 (m.ins.map dcA)) (.inr ⟨0,0,rfl⟩) hd1.2 (by have:=hd1.1;omega) (s:=[44,32]) (by decide) h
  have hr2:=fun(S:St) (Q:R→Prop) h=>rd_u (S:=S) (Q:=Q) (v:=.sl 0 0 6 (m.outs.map dcA)) (.inr ⟨0,0,rfl⟩) hd2.2 (by have:=hd2.1;omega) (s:=[44,32]) (by decide) h
  have hr3:=fun(S:St) (Q:R→Prop) h=>rd_u (S:=S) (Q:=Q) (v:=.sl 0 0 6 (m.vars.map dcA)) (.inr ⟨0,0,rfl⟩) hd3.2 (by have:=hd3.1;omega) (s:=[59,32]) (by decide) h
  have g1:=ds_len hd1 [44,32] (by decide)
  have g2:=ds_len hd2 [44,32] (by decide)
  have g3:=ds_len hd3 [59,32] (by decide)
  have hlv:∀S,oLen Tryd.prog S 24 (.sl 0 0 6 (m.vars.map dcA))=some m.vars.length:=erow_len (.inr ⟨0,0,rfl⟩)
  have hlq:∀S,oLen Tryd.prog S 25 (eqRow m.eqs)=some m.eqs.length:=eqs_len
  obtain⟨fn1,hf1⟩:∃fn,EZ.F 26=some fn:=fnz_26
  have hb1:=beqA_dc 0 0 m.ins
  have hb2:=beqA_dc 0 0 m.outs
  have hb3:=beqA_dc 0 0 m.vars
  have hbq:True:=trivial
  have e1:=fb_catS [110,111,100,101,32] m.name (by simp only[List.length_cons,List.length_nil];omega)
  have e2:=fb_catS ([110,111,100,101,32] ++ m.name) [40] (by simp only[List.length_append,List.length_cons,List.length_nil];omega)
  have e3:=fb_catS (([110,111,100,101,32] ++ m.name) ++ [40]) (Lib.join (m.ins.map declF) [44,32]) (by simp only[List.length_append,List.length_cons,List.length_nil];omega)
  have e4:=fb_catS ((([110,111,100,101,32] ++ m.name) ++ [40]) ++ Lib.join (m.ins.map declF) [44,32]) [41,32,114,101,116,117,114,110,115,32,40] (by simp only[List.length_append,List.length_cons,List.length_nil];omega)
  have e5:=fb_catS (((([110,111,100,101,32] ++ m.name) ++ [40]) ++ Lib.join (m.ins.map declF) [44,32]) ++ [41,32,114,101,116,117,114,110,115,32,40]) (Lib.join (m.outs.map declF) [44,32]) (by simp only[List.length_append,List.length_cons,List.length_nil];omega)
  have e6:=fb_catS ((((([110,111,100,101,32] ++ m.name) ++ [40]) ++ Lib.join (m.ins.map declF) [44,32]) ++ [41,32,114,101,116,117,114,110,115,32,40]) ++ Lib.join (m.outs.map declF) [44,32]) [41,10] (by simp only[List.length_append,List.length_cons,List.length_nil];omega)
  have hhd:headF m=(((((([110,111,100,101,32] ++ m.name) ++ [40]) ++ Lib.join (m.ins.map declF) [44,32]) ++ [41,32,114,101,116,117,114,110,115,32,40]) ++ Lib.join (m.outs.map declF) [44,32]) ++ [41,10]):=rfl
  rw[← hhd]at e6
  have e7:=fb_catS (printF (l.take j)) (headF m) (by omega)
  have v1:=fb_catS [118,97,114,32] (Lib.join (m.vars.map declF) [59,32]) (by simp only[List.length_cons,List.length_nil];omega)
  have v2:=fb_catS ([118,97,114,32] ++ Lib.join (m.vars.map declF) [59,32]) [59,10] (by simp only[List.length_append,List.length_cons,List.length_nil];omega)
  have v3:=fb_catS (printF (l.take j) ++ headF m) (varF m) (by simp only[List.length_append];omega)
  have v4:=fb_catS ((printF (l.take j) ++ headF m) ++ varF m) [108,101,116,10] (by simp only[List.length_append,List.length_cons,List.length_nil];omega)
  have lp:=fun t S=>re_lp (A:=((printF (l.take j) ++ headF m) ++ varF m) ++ [108,101,116,10]) (l:=m.eqs) (by simp only[List.length_append,List.length_cons,List.length_nil];omega) hq5 hoq m.eqs.length 0 t S (by omega)
  have hsE:sE (((printF (l.take j) ++ headF m) ++ varF m) ++ [108,101,116,10]) m.eqs 0=((printF (l.take j) ++ headF m) ++ varF m) ++ [108,101,116,10]:=by
   show _ ++ []=_
   rw[List.append_nil]
  rw[hsE]at lp
  have hql:=flat_len' eqLF 401000 m.eqs fun q hq=>eqF_len (hoq q hq)
  have hql2:m.eqs.length*401000≤5*401000:=Nat.mul_le_mul_right _ hq5
  have z1:=fb_catS ((((printF (l.take j) ++ headF m) ++ varF m) ++ [108,101,116,10]) ++ (m.eqs.map eqLF).flatten) [116,101,108,10] (by simp only[List.length_append,List.length_cons,List.length_nil];omega)
  rw[← nodeF_is m,← hst]at z1
  have fin:=fun(t':T AV) (S':St)=>rp_lp hl hok n (j+1) t' S' (by omega)
  have hvr:varF m=if m.vars=[]then []else([118,97,114,32] ++ Lib.join (m.vars.map declF) [59,32]) ++ [59,10]:=rfl
  clear hst hsE hql hql2 g1 g2 g3 hhl hvl hp0 hhd hm
  unfold strS at hr1 hr2 hr3
  by_cases hv:m.vars=[]
  ·have hgt:decide (((m.vars.length:Nat):Int) > 0)=false:=by rw[hv];decide
   rw[if_pos hv]at hvr
   have v5:=v4
   rw[hvr,List.append_nil]at v5 z1 lp
   clear v1 v2 v3 v4 hvr hr3 hv
   generalize headF m=hd at *
   generalize (((([110,111,100,101,32] ++ m.name) ++ [40]) ++ Lib.join (m.ins.map declF) [44,32]) ++ [41,32,114,101,116,117,114,110,115,32,40]) ++ Lib.join (m.outs.map declF) [44,32]=y5 at *
   generalize ((([110,111,100,101,32] ++ m.name) ++ [40]) ++ Lib.join (m.ins.map declF) [44,32]) ++ [41,32,114,101,116,117,114,110,115,32,40]=y4 at *
   generalize (([110,111,100,101,32] ++ m.name) ++ [40]) ++ Lib.join (m.ins.map declF) [44,32]=y3 at *
   generalize ([110,111,100,101,32] ++ m.name) ++ [40]=y2 at *
   generalize [110,111,100,101,32] ++ m.name=y1 at *
   generalize Lib.join (m.ins.map declF) [44,32]=j1 at *
   generalize Lib.join (m.outs.map declF) [44,32]=j2 at *
   generalize ((printF (l.take j) ++ hd) ++ [108,101,116,10])=p3 at *
   generalize printF (l.take (j+1))=p9 at *
   generalize printF (l.take j) ++ hd=p1 at *
   generalize printF (l.take j)=p0 at *
   generalize p3 ++ (m.eqs.map eqLF).flatten=p4 at *
   generalize m.ins.map dcA=a1 at *
   generalize m.outs.map dcA=a2 at *
   generalize m.vars.map dcA=a3 at *
   generalize eqRow m.eqs=a4 at *
   generalize m.name=nm at *
   generalize m.at_=ap at *
   generalize l.map ndA=lw at *
   simp(maxSteps:=2000000) (disch:=omega)only[thenW_exit,W_skip,W_region,W_drawn,W_seq,W_cond,W_block,W_exit,seqQ_normal2,seqQ_exit2,WL_nil2,WL_cons,execL_val2,execL_skip2,putL_none2,putL_some2,condW_t2,wantedA,exec1,evalO,T.get_set,ofOpt,ofOptS,neNil3,fb_lss,reduceLT,Nat.reduceAdd,reduceEqDiff,if_true,if_false,true_and,List.nil_append,List.append_nil,Bool.false_eq_true,nb_get,vstB_agg,List.length_cons,List.length_nil,Nat.zero_add,Nat.reduceLeDiff,List.drop_succ_cons,List.drop_nil,List.take_succ_cons,List.take_zero,and_self,ez_P,neNil3,yleMr,ysMr,yaMr,nb_get,rq3,rqC,rq4,rq5,rpL,Tryd.f12,T11,T12,T13,hlt,hx]
   refine WD_by [(0,true),(1,true),(2,true),(3,true),(4,true),(5,true),(6,true),(10,true),(11,true),(7,true),(11,false),(2,false),(8,true),(9,true),(12,true),(2,false),(13,true),(14,true),(15,true),(16,true)] (by kernel_rfl) (by kernel_rfl) ?_
   simp(maxSteps:=2000000) (disch:=omega)only[wantedA,exec1,evalO,T.get_set,callA,mapO,ofOpt,ofConst,neNil9,reduceLT,reduceEqDiff,if_true,if_false,true_and,List.getElem?_toArray,List.getElem?_cons_succ,List.getElem?_cons_zero,List.nil_append,List.append_nil,Bool.false_eq_true,WR_op,execR_val2,execR_enter2,putRW_some2,rsOf,to_get,nb_get,cl1_box,Nat.zero_add,Nat.add_zero,ez_P,neNil9,yl9,List.getElem?_cons_succ,yfMr_0,yfMr_2,yfMr_3,yl24,to_get,nb_get,T3,hf1,e1,e2]
   refine hr1 _ _ ?_
   simp(maxSteps:=2000000) (disch:=omega)only[wantedA,exec1,evalO,T.get_set,callA,mapO,ofOpt,ofConst,neNil9,reduceLT,reduceEqDiff,if_true,if_false,true_and,List.getElem?_cons_succ,List.getElem?_cons_zero,List.nil_append,List.append_nil,Bool.false_eq_true,WR_op,WR_re2,execR_val2,execR_enter2,putRW_some2,retRW_ret2,againO,lookV,to_get,nb_get,cl1_box,ez_P,neNil9,yl9,List.getElem?_cons_succ,yl24,beqA_st,to_get,nb_get,hb2,hf1,e3,e4]
   refine hr2 _ _ ?_
   simp(maxSteps:=2000000) (disch:=omega)only[W_skip,W_region,W_seq,W_cond,W_block,W_loop,seqQ_normal2,WL_nil2,WL_cons,execL_val2,execL_enter2,putL_some2,condW_f2,wantedA,exec1,evalO,T.get_set,callA,mapO,ofOpt,ofConst,neNil3,fb_gtr,neNil9,reduceLT,reduceEqDiff,if_true,if_false,true_and,List.getElem?_cons_succ,List.getElem?_cons_zero,List.nil_append,List.append_nil,Bool.false_eq_true,WR_nil2,WR_op,WR_re2,execR_val2,putRW_some2,retRW_ret2,fixQ_normal2,againO,lookV,to_get,nb_get,cl1_box,Nat.zero_add,ez_P,neNil3,neNil9,yl9,List.getElem?_cons_succ,yfMr_4,yfMr_5,yl24,yl25,beqA_st,to_get,nb_get,rq6,rq8,rq9,rpL,Tryd.f12,T3,hf1,hlv,e5,e6,e7,hgt,v5,hlq]
   refine WX.mono (lp _ _ ?_ ?_ ?_ ?_) ?_
   ·simp only[T.get_set,reduceEqDiff,if_true,if_false]
   ·simp only[T.get_set,reduceEqDiff,if_true,if_false]
   ·simp only[T.get_set,reduceEqDiff,if_true,if_false]
   ·simp only[T.get_set,reduceEqDiff,if_true,if_false];rfl
   rintro _ ⟨t1,S1,rfl,⟨k11,k12,k13⟩,T3',hk1⟩
   simp only[T.get_set,reduceEqDiff,if_false,T11,T12,T13]at k11 k12 k13
   simp(maxSteps:=2000000) (disch:=omega)only[thenW_normal,thenW_exit,W_region,seqQ_normal2,seqQ_exit2,blockW_normal2,blockW_exit2,WL_nil2,WL_cons,execL_val2,putL_some2,wantedA,exec1,evalO,T.get_set,ofOpt,ofConst,neNil3,fb_add,neNil9,reduceLT,reduceEqDiff,if_true,if_false,true_and,Bool.false_eq_true,ez_P,neNil3,neNil9,rq27,rq28,T3',k13,z1,hws,rpL,Tryd.f12]
   refine fin _ _ ?_ ?_ ?_ ?_
   ·simp only[T.get_set,reduceEqDiff,if_true,if_false]
   ·simp only[T.get_set,reduceEqDiff,if_false,k11]
   ·simp only[T.get_set,reduceEqDiff,if_false,k12]
   ·simp only[T.get_set,reduceEqDiff,if_true,if_false]
  ·have hgt:decide (((m.vars.length:Nat):Int) > 0)=true:=by
    have:m.vars.length≠0:=fun h=>hv (List.length_eq_zero_iff.1 h)
    rw[decide_eq_true_eq];omega
   rw[if_neg hv]at hvr
   rw[← hvr]at v2
   clear hvr hv
   generalize headF m=hd at *
   generalize (((([110,111,100,101,32] ++ m.name) ++ [40]) ++ Lib.join (m.ins.map declF) [44,32]) ++ [41,32,114,101,116,117,114,110,115,32,40]) ++ Lib.join (m.outs.map declF) [44,32]=y5 at *
   generalize ((([110,111,100,101,32] ++ m.name) ++ [40]) ++ Lib.join (m.ins.map declF) [44,32]) ++ [41,32,114,101,116,117,114,110,115,32,40]=y4 at *
   generalize (([110,111,100,101,32] ++ m.name) ++ [40]) ++ Lib.join (m.ins.map declF) [44,32]=y3 at *
   generalize ([110,111,100,101,32] ++ m.name) ++ [40]=y2 at *
   generalize [110,111,100,101,32] ++ m.name=y1 at *
   generalize Lib.join (m.ins.map declF) [44,32]=j1 at *
   generalize Lib.join (m.outs.map declF) [44,32]=j2 at *
   generalize ((printF (l.take j) ++ hd) ++ varF m) ++ [108,101,116,10]=p3 at *
   generalize (printF (l.take j) ++ hd) ++ varF m=p2 at *
   generalize printF (l.take (j+1))=p9 at *
   generalize printF (l.take j) ++ hd=p1 at *
   generalize printF (l.take j)=p0 at *
   generalize p3 ++ (m.eqs.map eqLF).flatten=p4 at *
   generalize varF m=vt at *
   generalize [118,97,114,32] ++ Lib.join (m.vars.map declF) [59,32]=w1 at *
   generalize Lib.join (m.vars.map declF) [59,32]=j3 at *
   generalize m.ins.map dcA=a1 at *
   generalize m.outs.map dcA=a2 at *
   generalize m.vars.map dcA=a3 at *
   generalize eqRow m.eqs=a4 at *
   generalize m.name=nm at *
   generalize m.at_=ap at *
   generalize l.map ndA=lw at *
   simp(maxSteps:=2000000) (disch:=omega)only[thenW_exit,W_skip,W_region,W_drawn,W_seq,W_cond,W_block,W_exit,seqQ_normal2,seqQ_exit2,WL_nil2,WL_cons,execL_val2,execL_skip2,putL_none2,putL_some2,condW_t2,wantedA,exec1,evalO,T.get_set,ofOpt,ofOptS,neNil3,fb_lss,reduceLT,Nat.reduceAdd,reduceEqDiff,if_true,if_false,true_and,List.nil_append,List.append_nil,Bool.false_eq_true,nb_get,vstB_agg,List.length_cons,List.length_nil,Nat.zero_add,Nat.reduceLeDiff,List.drop_succ_cons,List.drop_nil,List.take_succ_cons,List.take_zero,and_self,ez_P,neNil3,yleMr,ysMr,yaMr,nb_get,rq3,rqC,rq4,rq5,rpL,Tryd.f12,T11,T12,T13,hlt,hx]
   refine WD_by [(0,true),(1,true),(2,true),(3,true),(4,true),(5,true),(6,true),(10,true),(11,true),(7,true),(11,false),(2,false),(8,true),(9,true),(12,true),(2,false),(13,true),(14,true),(15,true),(16,true)] (by kernel_rfl) (by kernel_rfl) ?_
   simp(maxSteps:=2000000) (disch:=omega)only[wantedA,exec1,evalO,T.get_set,callA,mapO,ofOpt,ofConst,neNil9,reduceLT,reduceEqDiff,if_true,if_false,true_and,List.getElem?_toArray,List.getElem?_cons_succ,List.getElem?_cons_zero,List.nil_append,List.append_nil,Bool.false_eq_true,WR_op,execR_val2,execR_enter2,putRW_some2,rsOf,to_get,nb_get,cl1_box,Nat.zero_add,Nat.add_zero,ez_P,neNil9,yl9,List.getElem?_cons_succ,yfMr_0,yfMr_2,yfMr_3,yl24,to_get,nb_get,T3,hf1,e1,e2]
   refine hr1 _ _ ?_
   simp(maxSteps:=2000000) (disch:=omega)only[wantedA,exec1,evalO,T.get_set,callA,mapO,ofOpt,ofConst,neNil9,reduceLT,reduceEqDiff,if_true,if_false,true_and,List.getElem?_cons_succ,List.getElem?_cons_zero,List.nil_append,List.append_nil,Bool.false_eq_true,WR_op,WR_re2,execR_val2,execR_enter2,putRW_some2,retRW_ret2,againO,lookV,to_get,nb_get,cl1_box,ez_P,neNil9,yl9,List.getElem?_cons_succ,yl24,beqA_st,to_get,nb_get,hb2,hf1,e3,e4]
   refine hr2 _ _ ?_
   simp(maxSteps:=2000000) (disch:=omega)only[W_skip,W_region,W_seq,W_cond,seqQ_normal2,WL_nil2,WL_cons,execL_val2,execL_enter2,putL_some2,condW_t2,wantedA,exec1,evalO,T.get_set,callA,mapO,ofOpt,ofConst,neNil3,fb_gtr,neNil9,reduceLT,reduceEqDiff,if_true,if_false,true_and,List.getElem?_cons_succ,List.getElem?_cons_zero,List.nil_append,List.append_nil,Bool.false_eq_true,WR_nil2,WR_op,WR_re2,execR_val2,putRW_some2,retRW_ret2,fixQ_normal2,againO,lookV,to_get,nb_get,cl1_box,Nat.zero_add,ez_P,ez_G,neNil3,neNil9,yl9,List.getElem?_cons_succ,yfMr_4,yl24,beqA_st,to_get,nb_get,rq6,rq8,rq9,rpL,Tryd.f12,T3,hf1,hlv,e5,e6,e7,hgt]
   refine hr3 _ _ ?_
   simp(maxSteps:=2000000) (disch:=omega)only[W_region,W_seq,W_block,W_loop,seqQ_normal2,WL_nil2,WL_cons,execL_val2,putL_some2,retL_ret2,wantedA,exec1,evalO,T.get_set,callA,ofOpt,ofConst,neNil9,reduceLT,reduceEqDiff,if_true,if_false,true_and,List.getElem?_cons_succ,List.getElem?_cons_zero,Bool.false_eq_true,to_get,nb_get,cl1_box,Nat.zero_add,ez_P,neNil9,List.getElem?_cons_succ,yfMr_5,yl25,to_get,nb_get,T3,v1,v2,v3,v4,hlq]
   refine WX.mono (lp _ _ ?_ ?_ ?_ ?_) ?_
   ·simp only[T.get_set,reduceEqDiff,if_true,if_false]
   ·simp only[T.get_set,reduceEqDiff,if_true,if_false]
   ·simp only[T.get_set,reduceEqDiff,if_true,if_false]
   ·simp only[T.get_set,reduceEqDiff,if_true,if_false];rfl
   rintro _ ⟨t1,S1,rfl,⟨k11,k12,k13⟩,T3',hk1⟩
   simp only[T.get_set,reduceEqDiff,if_false,T11,T12,T13]at k11 k12 k13
   simp(maxSteps:=2000000) (disch:=omega)only[thenW_normal,thenW_exit,W_region,seqQ_normal2,seqQ_exit2,blockW_normal2,blockW_exit2,WL_nil2,WL_cons,execL_val2,putL_some2,wantedA,exec1,evalO,T.get_set,ofOpt,ofConst,neNil3,fb_add,neNil9,reduceLT,reduceEqDiff,if_true,if_false,true_and,Bool.false_eq_true,ez_P,neNil3,neNil9,rq27,rq28,T3',k13,z1,hws,rpL,Tryd.f12]
   refine fin _ _ ?_ ?_ ?_ ?_
   ·simp only[T.get_set,reduceEqDiff,if_true,if_false]
   ·simp only[T.get_set,reduceEqDiff,if_false,k11]
   ·simp only[T.get_set,reduceEqDiff,if_false,k12]
   ·simp only[T.get_set,reduceEqDiff,if_true,if_false]
theorem rprint_k(l:List NdX)(hl:l.length≤3)(hok:∀n∈l,okNd n):KnZ 12 [ndRow l]:=by
 have fin:∀(S':St),∃a S'',R.ret (.v (.string ⟨⟨printF l⟩⟩)) S' = R.ret a S''∧freeV a=true∧SpecZ 12 [ndRow l] (clean a):=fun S'=>by
  refine⟨_,_,rfl,rfl,?_⟩
  intro l' q _ _
  simp only[List.cons.injEq,and_true]at q
  rw[← ndRow_inj q];rfl
 have lp:=fun t S=>rp_lp hl hok l.length 0 t S (by omega)
 have hln:∀S,oLen Tryd.prog S 22 (.sl 0 0 6 (l.map ndA))=some l.length:=fun S=>by rw[ynNr,List.length_map]
 have h0:printF (l.take 0)=[]:=rfl
 rw[h0]at lp
 unfold ndRow at fin ⊢
 generalize l.map ndA=lw at *
 refine bodyZ Tryd.f12 (by kernel_rfl) (by kernel_rfl) (show(_:Nat)≤_ from by show(_:Nat)≤_;simp[Tryd.f12]) ?_
 simp only[rp_is,Option.getD_some]
 simp(maxSteps:=2000000) (disch:=omega)only[W_region,W_seq,W_block,W_loop,seqQ_normal2,WL_nil2,WL_cons,execL_val2,putL_some2,wantedA,exec1,evalO,initT,T.get_set,T.get_leaf,callA,ofOpt,ofConst,reduceLT,reduceEqDiff,if_true,if_false,true_and,ez_P,initT,rp0,rp1,rp2,Tryd.f12,hln]
 refine WX.mono (lp _ _ ?_ ?_ ?_ ?_) ?_
 ·simp only[T.get_set,T.get_leaf,reduceEqDiff,if_true,if_false] <;> rfl
 ·simp only[T.get_set,T.get_leaf,reduceEqDiff,if_true,if_false] <;> rfl
 ·simp only[T.get_set,T.get_leaf,reduceEqDiff,if_true,if_false] <;> rfl
 ·simp only[T.get_set,T.get_leaf,reduceEqDiff,if_true,if_false] <;> rfl
 rintro _ ⟨t',S',rfl,T3⟩
 simp(maxSteps:=2000000) (disch:=omega)only[W_region,W_seq,W_ret,seqQ_normal2,seqQ_exit2,blockW_exit2,WL_nil2,WL_cons,execL_val2,putL_some2,wantedA,exec1,evalO,T.get_set,ofOpt,finW_ret,giveW,resultsA,tupA,reduceLT,reduceEqDiff,if_true,if_false,true_and,rpZ,Tryd.f12,T3]
 exact fin _
end Go.Ax
noncomputable section
namespace Go.Ax
open Go.RowKit Go.Proofs
set_option maxRecDepth 100000
theorem ownsRow_below{w w':World}{base e size n:Nat}{v:Value}{xs:List Value}(h:w.ownsRow base e size v n xs)(hb:Below w.heap.size w w'):w'.ownsRow base e size v n xs:=by
 refine⟨h.1,?_⟩
 rcases h.2 with hn | ⟨g,cap,cur,hv,hbg,hg,rest⟩
 ·exact .inl hn
 ·exact .inr ⟨g,cap,cur,hv,hbg,(hb.block g (Array.getElem?_eq_some_iff.1 hg).1).trans hg,rest⟩
def Six(w:World)(b o:Nat)(c0 c1 c2 c3 c4 c5:Value):Prop :=
 w.cell? ⟨b,o,none⟩=some c0∧w.cell? ⟨b,o+1,none⟩=some c1∧w.cell? ⟨b,o+2,none⟩=some c2∧w.cell? ⟨b,o+3,none⟩=some c3∧w.cell? ⟨b,o+4,none⟩=some c4∧w.cell? ⟨b,o+5,none⟩=some c5
theorem Six.below{w w':World}{B b o:Nat}{c0 c1 c2 c3 c4 c5:Value}(hb:Below B w w')(h:b<B)(hs:Six w b o c0 c1 c2 c3 c4 c5):Six w' b o c0 c1 c2 c3 c4 c5:=by
 obtain⟨h0,h1,h2,h3,h4,h5⟩:=hs
 exact⟨(hb.cell (p:=⟨b,o,none⟩) h).trans h0,(hb.cell (p:=⟨b,o+1,none⟩) h).trans h1,(hb.cell (p:=⟨b,o+2,none⟩) h).trans h2,(hb.cell (p:=⟨b,o+3,none⟩) h).trans h3,(hb.cell (p:=⟨b,o+4,none⟩) h).trans h4,(hb.cell (p:=⟨b,o+5,none⟩) h).trans h5⟩
theorem six_parts{w:World}{b o:Nat}{c0 c1 c2 c3 c4 c5:Value}(h:Six w b o c0 c1 c2 c3 c4 c5):w.cell? ⟨b,o,none⟩=some c0∧w.cell? ⟨b,o+1,none⟩=some c1∧w.cell? ⟨b,o+2,none⟩=some c2∧w.cell? ⟨b,o+3,none⟩=some c3∧w.cell? ⟨b,o+4,none⟩=some c4∧w.cell? ⟨b,o+5,none⟩=some c5:=h
def Blk(w:World)(b T:Nat)(cs:Array Value):Prop:=w.heap[b]? = some (.cells cs T (0,0))
theorem Blk.lt{w:World}{b T:Nat}{cs:Array Value}(h:Blk w b T cs):b<w.heap.size:=lt_of_block h
theorem Blk.free{w:World}{b T:Nat}{cs:Array Value}(h:Blk w b T cs)(o:Nat):w.frozen? ⟨b,o,none⟩=false:=by
 unfold Blk at h
 simp[World.frozen?,h]
theorem Blk.cell{w:World}{b T:Nat}{cs:Array Value}(h:Blk w b T cs){o:Nat}{v:Value}(hv:cs[o]? = some v):w.cell? ⟨b,o,none⟩=some v:=by
 unfold Blk at h
 simp[World.cell?,h,hv]
theorem Blk.new(w:World)(T:Nat)(cs:Array Value):Blk (w.alloc (.cells cs T)) w.heap.size T cs:=heap_alloc_new w _
theorem Blk.same{w w':World}{b T:Nat}{cs:Array Value}(h:Blk w b T cs)(hs:w'.heap[b]? = w.heap[b]?):Blk w' b T cs:=hs.trans h
theorem Blk.below{w w':World}{b T:Nat}{cs:Array Value}(h:Blk w b T cs)(hb:Below w.heap.size w w'):Blk w' b T cs:=h.same (hb.block b h.lt)
theorem Blk.alloc{w:World}{b T:Nat}{cs:Array Value}(h:Blk w b T cs)(o:Obj):Blk (w.alloc o) b T cs:=h.same (heap_alloc_old w _ h.lt)
theorem Blk.other{w:World}{b b' o T:Nat}{cs:Array Value}{x:Value}(h:Blk w b T cs)(hne:b≠b'):Blk (w.setCell ⟨b',o,none⟩ x) b T cs :=
 h.same (Below.heap_setCell _ _ _ _ hne)
theorem Blk.set{w:World}{b o T:Nat}{cs:Array Value}(h:Blk w b T cs)(x:Value):Blk (w.setCell ⟨b,o,none⟩ x) b T (cs.setIfInBounds o x):=by
 have hlt:=h.lt
 have h':w.heap[b]=.cells cs T (0,0):=by have:=h;unfold Blk at this;simpa[Array.getElem?_eq_getElem hlt]using this
 show(w.heap.modify b _)[b]? = _
 rw[Array.getElem?_eq_getElem (by simpa using hlt),Array.getElem_modify_self,h']
 rfl
theorem Blk.grown{w w':World}{b T:Nat}{cs:Array Value}{row:Option Nat}(h:Blk w b T cs)(hg:w.grownBy w' row)(hne:row≠some b):Blk w' b T cs :=
 h.same (hg.block b h.lt (fun e=>hne e.symm))
theorem Blk.six{w:World}{b T:Nat}{c0 c1 c2 c3 c4 c5:Value}(h:Blk w b T #[c0,c1,c2,c3,c4,c5]):w.cell? ⟨b,0,none⟩=some c0∧w.cell? ⟨b,1,none⟩=some c1∧w.cell? ⟨b,2,none⟩=some c2∧w.cell? ⟨b,3,none⟩=some c3∧w.cell? ⟨b,4,none⟩=some c4∧w.cell? ⟨b,5,none⟩=some c5 :=
 ⟨h.cell rfl,h.cell rfl,h.cell rfl,h.cell rfl,h.cell rfl,h.cell rfl⟩
theorem size79:(Tryd.prog.info? 79).map (·.size)=some 2:=by kernel_rfl
theorem lies79:liesAt Tryd.prog Tryd.prog.depth 79 (2 / Tryd.prog.cellsOf 79) 0 79 1=true:=by kernel_rfl
theorem infoByte5:(Tryd.prog.info? 5).map (fun i=>(i.zero,i.size,i.bytes))=some (some (.int .u8 0),1,1):=by kernel_rfl
set_option maxRecDepth 100000 in
theorem cc_used(b:Nat)(w:World)(h0:w.cell? ⟨b,0,none⟩=some (.pointer (some ⟨b,0,none⟩))):
  Calls Tryd.prog 41 #[.pointer (some ⟨b,0,none⟩)] w fun e w'=>e=.returned (.tuple #[])∧w' = w:=by
 obtain⟨j,hj,_⟩:=Option.map_eq_some_iff.1 size79
 go_enter Tryd.func41,Tryd.ntmps41
 go_wp2
 rw[Lib.run_neq_ptr_same w _ Tryd.underlying76 hj]
 go_wp2
 go_end0
 exact⟨rfl,rfl⟩
set_option maxRecDepth 100000 in
theorem cc_fresh(b:Nat)(w:World)(h0:w.cell? ⟨b,0,none⟩=some (.pointer none))(hsh:w.shape? b=some (79,2))(hfz:w.frozen? ⟨b,0,none⟩=false):
  Calls Tryd.prog 41 #[.pointer (some ⟨b,0,none⟩)] w fun e w'=>e=.returned (.tuple #[])∧w' = w.setCell ⟨b,0,none⟩ (.pointer (some ⟨b,0,none⟩)):=by
 obtain⟨j,hj,hjs⟩:=Option.map_eq_some_iff.1 size79
 go_enter Tryd.func41,Tryd.ntmps41
 go_wp2
 rw[Lib.run_to_unsafe w ⟨b,0,none⟩ Tryd.underlying76 Tryd.underlying115 hj (by rw[hjs];decide) hsh (Nat.zero_lt_succ 1)]
 simp only[Result.andThen]
 rw[Oper.upon_value]
 go_wp2
 rw[run_callFunc_extern Tryd.func57 (by kernel_rfl) (by kernel_rfl) (by kernel_rfl) (e:=Extern.AbiNoEscape.same) (by kernel_rfl)]
 rw[Lib.run_noEscape]
 simp only[Result.andThen]
 rw[Oper.upon_value]
 go_wp2
 rw[Lib.run_from_unsafe w ⟨b,0,none⟩ Tryd.underlying115 Tryd.underlying76 hj hsh lies79]
 simp only[Result.andThen]
 rw[Oper.upon_value]
 go_wp2
 go_end0
 exact⟨rfl,rfl⟩
theorem cc_any(B b:Nat)(bs:List Value)(w:World)(h:Lib.IsBuilder 79 5 B b bs w):
  Calls Tryd.prog 41 #[.pointer (some ⟨b,0,none⟩)] w fun e w'=>e=.returned (.tuple #[])∧(Lib.BuilderAt 79 5 B b (.pointer (some ⟨b,0,none⟩)) bs w'∧Below B w w'∧∀k T cs,k≠b→Blk w k T cs→Blk w' k T cs):=by
 rcases h with h |h
 ·refine(cc_fresh b w h.cell0 h.shape h.frozen0).mono ?_
  rintro e w' ⟨rfl,rfl⟩
  exact⟨rfl,h.used _,(Below.refl B w).setCell (p:=⟨b,0,none⟩) h.1 _,fun k T cs hk hb=>hb.other hk⟩
 ·refine(cc_used b w h.cell0).mono ?_
  rintro e w' ⟨rfl,rfl⟩
  exact⟨rfl,h,Below.refl B _,fun k T cs hk hb=>hb⟩
set_option maxRecDepth 100000 in
theorem write_any(B b:Nat)(bs:List Value)(s:ByteArray)(w:World)(h:Lib.IsBuilder 79 5 B b bs w)(hlen:bs.length+s.size≤140737488355328)(hBw:B≤w.heap.size):
  Calls Tryd.prog 22 #[.pointer (some ⟨b,0,none⟩),.string s] w fun e w'=>e=.returned (.tuple #[.int .i64 s.size,.nilIface])∧(Lib.BuilderAt 79 5 B b (.pointer (some ⟨b,0,none⟩)) (bs ++ Lib.strCells s) w'∧Below B w w'∧∀k T cs,k≠b→T≠5→Blk w k T cs→Blk w' k T cs):=by
 obtain⟨i0,hi,hz0,hz1,hz2⟩:=info_parts infoByte5
 go_enter Tryd.func22,Tryd.ntmps22
 go_wp2_with fail
 refine(cc_any B b bs _ h).mono ?_
 rintro e w1 ⟨rfl,h1,hb1,hk1⟩
 obtain⟨hB,v,hbk,hown,hne⟩:=h1
 have c0:w1.cell? ⟨b,0,none⟩=some (.pointer (some ⟨b,0,none⟩)):=by rw[Lib.cell_of_heap hbk];rfl
 have c1:w1.cell? ⟨b,1,none⟩=some v:=by rw[Lib.cell_of_heap hbk];rfl
 go_wp2_with (at_builtin;refine Lib.wpList_append_own_string _ rfl _ _ 77 9 rfl B 5 i0 Tryd.underlying77 Tryd.underlying9 hi hz0 hz1 hz2 _ _ _ rfl hown s rfl ?c3 ?c4 ?c5 ?_)
 case c3=>unfold maxLen;omega
 case c4=>omega
 case c5=>have:=hb1.size;omega
 intro v' w2 hown' hgrow _
 have hlt:b<w1.heap.size:=by
  rcases Nat.lt_or_ge b w1.heap.size with h' |h'
  ·exact h'
  ·simp[Array.getElem?_eq_none h']at hbk
 have hb2:w2.heap[b]? = some (.cells #[.pointer (some ⟨b,0,none⟩),v] 79 (0,0)):=by
  rw[hgrow.block b hlt (fun e=>hne e.symm)]
  exact hbk
 have d0:w2.cell? ⟨b,0,none⟩=some (.pointer (some ⟨b,0,none⟩)):=by rw[Lib.cell_of_heap hb2];rfl
 have d1:w2.cell? ⟨b,1,none⟩=some v:=by rw[Lib.cell_of_heap hb2];rfl
 have f1:w2.frozen? ⟨b,1,none⟩=false:=Lib.frozen_of_heap hb2 1
 obtain⟨ao,n',cap,rfl⟩:∃ao n' cap,v' = .slice ao n' cap:=by
  rcases hown'.2 with⟨hv,_⟩ | ⟨g,cap,cur,hv,_⟩
  ·exact⟨_,_,_,hv⟩
  ·exact⟨_,_,_,hv⟩
 go_wp2
 go_ret2
 refine⟨rfl,?_,?_,?_⟩
 ·exact Lib.BuilderAt.put (T:=79) (e:=5) hB hb2 (bs':=bs ++ Lib.strCells s) (by simpa[Lib.strCells_length]using hown') (by decide)
 ·exact(hb1.grown hgrow (by have:=hb1.size;omega) (fun k hk=>(hown.lt k hk).1)).setCell (p:=⟨b,1,none⟩) hB _
 ·intro k T cs hk hT hb
  have hb1':=hk1 k T cs hk hb
  refine Blk.other (hb1'.grown hgrow (fun e=>?_)) hk
  rcases hown.2 with⟨hv,_⟩ | ⟨g,cap,cur,hv,_,hg,_⟩
  ·subst hv;simp[Value.ownBlock]at e
  ·subst hv
   have:g=k:=by simpa[Value.ownBlock]using e
   subst this
   have h2:=hb1'.symm.trans hg
   injection h2 with h2
   injection h2 with _ h2
   exact hT h2
def GhW(w:World):Gh:={ loc:=fun _=>none,im:=fun b o=>b<w.heap.size∧∃v,w.cell? ⟨b,o,none⟩=some v }
theorem ev_below{w w':World}(hb:Below w.heap.size w w'):Ev (GhW w) w (GhW w') w' :=
 ⟨fun _ _ h=>(by cases h),fun b o h=>⟨Nat.lt_of_lt_of_le h.1 hb.size,by obtain⟨v,hv⟩:=h.2;exact⟨v,(hb.cell (p:=⟨b,o,none⟩) h.1).trans hv⟩⟩,fun b o v h hv=>(hb.cell (p:=⟨b,o,none⟩) h.1).trans hv,fun b arr T fr h=>⟨arr,fr,(hb.block b (Array.getElem?_eq_some_iff.1 h).1).trans h,rfl⟩⟩
theorem gr_below{w w':World}(h:GR (GhW w) w gZ)(hb:Below w.heap.size w w'):GR (GhW w') w' gZ:=h.mono (ev_below hb)
theorem pure_str{k:FuncId}{args:List AV}{t:List UInt8}(hk:KnZ k args)(hs:∀a,SpecZ k args a→a=strS t){w:World}(hg:GR (GhW w) w gZ){vs:List Value}(hv:VRL (GhW w) w args vs):
  Calls Tryd.prog k vs.toArray w (fun e w'=>e=.returned (.string ⟨⟨t⟩⟩)∧Below w.heap.size w w'):=by
 obtain⟨a,ha⟩:=hk
 have:=hs a ha.spec
 subst this
 refine(ha.pure w (GhW w).im (fun b o h=>h.2) hg vs hv).mono fun e w' he=>?_
 obtain⟨v,γ',rfl,hb,hc,hl,hr⟩:=he
 have:=hr γ' (fun _ _ h=>h)
 cases this
 exact⟨rfl,hb⟩
def dS(l:List PDc)(sep:ByteArray):ByteArray:=⟨⟨Lib.join (l.map declF) sep.data.toList⟩⟩
def eqTB(d:Nat)(q:EqX):ByteArray:=⟨⟨eqF q.left q.async q.e⟩⟩
def RdD(w:World)(B:Nat)(v:Value)(es:List PDc):Prop:=∃p c,v=.slice p es.length c∧∃a,VR (GhW w) w a v∧a=.sl 0 0 6 (es.map dcA)
def RdE(w:World)(v:Value)(q:EqX):Prop:=∃a,VR (GhW w) w a v∧a=eqX q
theorem RdD.below{w w':World}{B:Nat}{v:Value}{es:List PDc}(h:RdD w B v es)(hb:Below w.heap.size w w'):RdD w' B v es:=by
 obtain⟨p,c,hv,a,h1,h2⟩:=h
 exact⟨p,c,hv,a,h1.mono (ev_below hb),h2⟩
theorem RdE.below{w w':World}{v:Value}{q:EqX}(h:RdE w v q)(hb:Below w.heap.size w w'):RdE w' v q:=by
 obtain⟨a,h1,h2⟩:=h
 exact⟨a,h1.mono (ev_below hb),h2⟩
theorem declTexts_any(v:Value)(es:List PDc)(sep:ByteArray)(w:World)(B:Nat)(hB:B≤w.heap.size)(hg:GR (GhW w) w gZ)(h:RdD w B v es)(hl:es.length≤10)(hf:∀x∈es,okDc x)(hs:sep.size≤2):
  Calls Tryd.prog 23 #[v,.string sep] w fun e w'=>e=.returned (.string (dS es sep))∧Below w.heap.size w w':=by
 obtain⟨p,c,hv,a,h1,rfl⟩:=h
 have hs:sep.data.toList.length≤10:=by
  have:sep.data.toList.length=sep.size:=rfl
  omega
 exact pure_str (k:=23) (args:=[.sl 0 0 6 (es.map dcA),strS sep.data.toList]) (t:=Lib.join (es.map declF) sep.data.toList) (dt_k _ es sep.data.toList (.inr ⟨0,0,rfl⟩) hf hl hs) (fun a h=>h _ es _ rfl (.inr ⟨0,0,rfl⟩) hf hl hs) hg (vs:=[v,.string sep]) (VRL.cons h1 (VRL.cons (.v _ rfl) (VRL.nil _ _)))
theorem eqText_any(v:Value)(q:EqX)(w:World)(hg:GR (GhW w) w gZ)(h:RdE w v q)(hf:okQ q)(d:Nat):Calls Tryd.prog 24 #[v] w fun e w'=>e=.returned (.string (eqTB d q))∧Below w.heap.size w w':=by
 obtain⟨a,h1,rfl⟩:=h
 exact pure_str (k:=24) (args:=[eqX q]) (t:=eqF q.left q.async q.e) (eq_k _ q.left q.async q.e 4 (.inr ⟨0,0,rfl⟩) hf.2.1 (by have:=hf.1;omega) hf.2.2 (Nat.le_refl _)) (fun a h=>h _ q.left q.async q.e 4 rfl (.inr ⟨0,0,rfl⟩) hf.2.1 (by have:=hf.1;omega) hf.2.2 (Nat.le_refl _)) hg (vs:=[v]) (VRL.cons h1 (VRL.nil _ _))
structure Nd where
 nm:ByteArray
 pos:Int
 ins:List PDc
 outs:List PDc
 vars:List PDc
 eqs:List EqX
def headB(n:Nd):ByteArray:=⟨#[110,111,100,101,32]⟩ ++ n.nm ++ ⟨#[40]⟩ ++ dS n.ins ⟨#[44,32]⟩ ++ ⟨#[41,32,114,101,116,117,114,110,115,32,40]⟩ ++ dS n.outs ⟨#[44,32]⟩ ++ ⟨#[41,10]⟩
def varB(n:Nd):ByteArray:=if 0<n.vars.length then⟨#[118,97,114,32]⟩ ++ dS n.vars ⟨#[59,32]⟩ ++ ⟨#[59,10]⟩else⟨#[]⟩
def eqL(d:Nat)(q:EqX):ByteArray:=⟨#[32,32]⟩ ++ eqTB d q ++ ⟨#[59,10]⟩
def catB(l:List ByteArray):ByteArray:=l.foldl (· ++ ·) ⟨#[]⟩
theorem catB_snoc(l:List ByteArray)(x:ByteArray):catB (l ++ [x])=catB l ++ x:=by unfold catB;rw[List.foldl_append];rfl
theorem catB_take{l:List ByteArray}{j:Nat}{x:ByteArray}(h:l[j]? = some x):catB (l.take (j+1))=catB (l.take j) ++ x:=by rw[List.take_add_one,h];exact catB_snoc _ _
theorem catB_le(l m:List ByteArray):(catB l).size≤(catB (l ++ m)).size:=by
 induction m generalizing l with
 |nil=>simp
 |cons x r ih=>rw[show l ++ x :: r=(l ++ [x]) ++ r by simp];exact Nat.le_trans (by rw[catB_snoc,ByteArray.size_append];omega) (ih (l ++ [x]))
theorem catB_take_le(l:List ByteArray)(j:Nat):(catB (l.take j)).size≤(catB l).size:=by
 have:=catB_le (l.take j) (l.drop j)
 rwa [List.take_append_drop]at this
def nodeB(d:Nat)(n:Nd):ByteArray:=headB n ++ varB n ++ ⟨#[108,101,116,10]⟩ ++ catB (n.eqs.map (eqL d)) ++ ⟨#[116,101,108,10]⟩
def printT(d:Nat)(l:List Nd):ByteArray:=catB (l.map (nodeB d))
def RdQ(w:World)(B d:Nat)(v:Value)(qs:List EqX):Prop :=
 ∃p c,v=.slice p qs.length c∧(qs=[]∨∃g o,p=some ⟨g,o,none⟩∧g<B ∧
  ∀i (h:i<qs.length),∃pL cL k a n nm off sp sl sc,w.cell? ⟨g,o+i*8,none⟩=some (.slice pL qs[i].left.length cL)∧w.cell? ⟨g,o+i*8+1,none⟩=some (.bool qs[i].async) ∧
   w.cell? ⟨g,o+i*8+2,none⟩=some (.int .i64 k)∧w.cell? ⟨g,o+i*8+3,none⟩=some (.int .i64 a)∧w.cell? ⟨g,o+i*8+4,none⟩=some (.int .i64 n)∧w.cell? ⟨g,o+i*8+5,none⟩=some (.string nm)∧w.cell? ⟨g,o+i*8+6,none⟩=some (.bool off)∧w.cell? ⟨g,o+i*8+7,none⟩=some (.slice sp sl sc) ∧
   RdE w (.agg #[.slice pL qs[i].left.length cL,.bool qs[i].async,.int .i64 k,.int .i64 a,.int .i64 n,.string nm,.bool off,.slice sp sl sc]) qs[i])
def RdN(w:World)(B d:Nat)(v:Value)(ns:List Nd):Prop :=
 ∃p c,v=.slice p ns.length c∧(ns=[]∨∃g o,p=some ⟨g,o,none⟩∧g<B ∧
  ∀i (h:i<ns.length),∃v2 v3 v4 v5,Six w g (o+i*6) (.string ns[i].nm) (.int .i64 ns[i].pos) v2 v3 v4 v5∧RdD w B v2 ns[i].ins∧RdD w B v3 ns[i].outs∧RdD w B v4 ns[i].vars∧RdQ w B d v5 ns[i].eqs)
def FineN(d:Nat)(n:Nd):Prop:=(n.ins.length≤10∧∀x∈n.ins,okDc x)∧(n.outs.length≤10∧∀x∈n.outs,okDc x)∧(n.vars.length≤10∧∀x∈n.vars,okDc x)∧n.eqs.length≤10∧∀q∈n.eqs,okQ q
theorem isb_below{w w':World}{B b:Nat}{bs:List Value}(h:Lib.IsBuilder 79 5 B b bs w)(hb:Below w.heap.size w w'):Lib.IsBuilder 79 5 B b bs w':=by
 rcases h with⟨h1,v,h2,h3,h4⟩ | ⟨h1,v,h2,h3,h4⟩
 ·exact Or.inl ⟨h1,v,(hb.block b (Array.getElem?_eq_some_iff.1 h2).1).trans h2,ownsRow_below h3 hb,h4⟩
 ·exact Or.inr ⟨h1,v,(hb.block b (Array.getElem?_eq_some_iff.1 h2).1).trans h2,ownsRow_below h3 hb,h4⟩
theorem strCells_app(a b:ByteArray):Lib.strCells a ++ Lib.strCells b=Lib.strCells (a ++ b):=by unfold Lib.strCells;simp
def PrSt(w:World)(nb:Nat)(cs:Array Value)(acc:ByteArray)(wx:World):Prop :=
 Below w.heap.size w wx∧Blk wx nb 37 cs∧Lib.IsBuilder 79 5 w.heap.size w.heap.size (Lib.strCells acc) wx
theorem PrSt.write{w wx:World}{nb:Nat}{cs:Array Value}{acc s:ByteArray}(h:PrSt w nb cs acc wx)(hn:nb≠w.heap.size)(hz:acc.size+s.size≤140737488355328):
  Calls Tryd.prog 22 #[.pointer (some ⟨w.heap.size,0,none⟩),.string s] wx fun e w'=>e=.returned (.tuple #[.int .i64 s.size,.nilIface])∧PrSt w nb cs (acc ++ s) w'∧∀k T cs,k≠w.heap.size→T≠5→Blk wx k T cs→Blk w' k T cs:=by
 refine(write_any w.heap.size w.heap.size (Lib.strCells acc) s wx h.2.2 (by rw[Lib.strCells_length];exact hz) h.1.size).mono ?_
 rintro e w' ⟨rfl,h1,h2,h3⟩
 exact⟨rfl,⟨h.1.trans h2,h3 _ _ _ hn (by decide) h.2.1,Or.inr (strCells_app acc s ▸ h1)⟩,h3⟩
theorem PrSt.below{w wx w':World}{nb:Nat}{cs:Array Value}{acc:ByteArray}(h:PrSt w nb cs acc wx)(hb:Below wx.heap.size wx w'):PrSt w nb cs acc w' :=
 ⟨h.1.trans (hb.mono h.1.size),h.2.1.below hb,isb_below h.2.2 hb⟩
theorem PrSt.drew{w wx:World}{nb:Nat}{cs:Array Value}{acc:ByteArray}(h:PrSt w nb cs acc wx):PrSt w nb cs acc wx.drew:=h.below ((Below.refl _ _).drew)
set_option maxRecDepth 100000 in
theorem print_any(v:Value)(ns:List Nd)(w:World)(B d:Nat)(hd:d≤6)(hB:B≤w.heap.size)(hp:GR (GhW w) w gZ)(hv:RdN w B d v ns)(hf:∀x∈ns,FineN d x)(hl:ns.length≤10)(hz:(printT d ns).size≤100000000000000):
  Calls Tryd.prog 11 #[v] w fun e w'=>e=.returned (.string (printT d ns))∧Below w.heap.size w w':=by
 obtain⟨p,c,rfl,hor⟩:=hv
 have HOR:=Lib.hid hor;have HF:=Lib.hid hf;have HP:=Lib.hid hp;have HZ:=Lib.hid hz
 clear hor hf hp hz
 obtain⟨n,hn⟩:∃n,ns.length=n:=⟨_,rfl⟩
 have HN:=Lib.hid hn
 rw[hn]at hl ⊢
 clear hn
 go_enter Tryd.func11,Tryd.ntmps11
 go_wp2_with fail
 generalize hW:w.alloc _=W0
 have HB0:=Lib.hid (show Below w.heap.size w W0 by rw[← hW];exact(Below.refl _ _).alloc (Nat.le_refl _) _)
 have HI0:=Lib.hid (show Lib.IsBuilder 79 5 w.heap.size w.heap.size (Lib.strCells (catB ((ns.map (nodeB d)).take 0))) W0 by rw[← hW];exact Lib.fresh_isBuilder 79 5 w)
 clear hW
 go_loopw [10] (fun t wr=>∃j:Nat,t=.int .i64 j∧j≤n∧Below w.heap.size w wr∧Lib.IsBuilder 79 5 w.heap.size w.heap.size (Lib.strCells (catB ((ns.map (nodeB d)).take j))) wr) (fun t _=>n - (intOf t).toNat)
 case atStart=>exact⟨0,rfl,Nat.zero_le _,HB0.out,HI0.out⟩
 case round =>
  obtain⟨j,rfl,hj,hbr,hib⟩:=hrel
  have HBR:=Lib.hid hbr;have HIB:=Lib.hid hib;clear hbr hib
  by_cases hl1:j<n
  ·have hlt:j<ns.length:=HN.out ▸ hl1
   obtain⟨g,o,rfl,hg,h6⟩:∃g o,p=some ⟨g,o,none⟩∧g<B∧∀i (h:i<ns.length),∃v2 v3 v4 v5,Six w g (o+i*6) (.string ns[i].nm) (.int .i64 ns[i].pos) v2 v3 v4 v5∧RdD w B v2 ns[i].ins∧RdD w B v3 ns[i].outs∧RdD w B v4 ns[i].vars∧RdQ w B d v5 ns[i].eqs:=by
    rcases HOR.out with h0 |h
    ·subst h0;cases hlt
    ·exact h
   obtain⟨v2,v3,v4,v5,h6j,hr2,hr3,hr4,hr5⟩:=h6 j hlt
   have HFJ:=Lib.hid (HF.out _ (List.getElem_mem hlt))
   have htj:(ns.map (nodeB d))[j]? = some (nodeB d ns[j]):=by rw[List.getElem?_map,List.getElem?_eq_getElem hlt];rfl
   have HTK:=Lib.hid (catB_take htj)
   have HZ1:=Lib.hid (show(catB ((ns.map (nodeB d)).take (j+1))).size≤100000000000000 from Nat.le_trans (catB_take_le _ _) HZ.out)
   obtain⟨N,hN⟩:∃N,ns[j]=N:=⟨_,rfl⟩
   rw[hN]at h6j hr2 hr3 hr4 hr5 HFJ HTK
   generalize catB ((ns.map (nodeB d)).take j)=A at *
   rw[HTK.out]at HZ1
   have hHT:headB N=headB N:=rfl
   obtain⟨e0,e1,e2,e3,e4,e5⟩:=six_parts (h6j.below HBR.out (Nat.lt_of_lt_of_le hg hB))
   clear h6 h6j hN hlt hg htj hHT
   obtain⟨p2,c2,rfl,hq2⟩:=hr2
   obtain⟨p3,c3,rfl,hq3⟩:=hr3
   obtain⟨p4,c4,rfl,hq4⟩:=hr4
   obtain⟨p5,c5,rfl,hq5⟩:=hr5
   have H2:=Lib.hid (show RdD w B (.slice p2 N.ins.length c2) N.ins from⟨p2,c2,rfl,hq2⟩)
   have H3:=Lib.hid (show RdD w B (.slice p3 N.outs.length c3) N.outs from⟨p3,c3,rfl,hq3⟩)
   have H4:=Lib.hid (show RdD w B (.slice p4 N.vars.length c4) N.vars from⟨p4,c4,rfl,hq4⟩)
   have H5:=Lib.hid hq5
   clear hq2 hq3 hq4 hq5
   obtain⟨n2,hn2⟩:∃x,N.ins.length=x:=⟨_,rfl⟩
   obtain⟨n3,hn3⟩:∃x,N.outs.length=x:=⟨_,rfl⟩
   obtain⟨n4,hn4⟩:∃x,N.vars.length=x:=⟨_,rfl⟩
   obtain⟨n5,hn5⟩:∃x,N.eqs.length=x:=⟨_,rfl⟩
   rw[hn2]at H2 e2;rw[hn3]at H3 e3;rw[hn4]at H4 e4;rw[hn5]at e5
   have HN4:=Lib.hid hn4;have HN5:=Lib.hid hn5
   clear hn2 hn3 hn4 hn5
   obtain⟨nm,hnm⟩:∃x,N.nm=x:=⟨_,rfl⟩
   obtain⟨pos,hpos⟩:∃x,N.pos=x:=⟨_,rfl⟩
   rw[hnm]at e0;rw[hpos]at e1
   have HNM:=Lib.hid hnm
   clear hnm hpos
   go_upto_region 5 with fail
   generalize hV:wr.alloc _=V1
   have HS0:=Lib.hid (show PrSt w wr.heap.size #[.string nm,.int .i64 pos,.slice p2 n2 c2,.slice p3 n3 c3,.slice p4 n4 c4,.slice p5 n5 c5] A V1 by rw[← hV];exact⟨HBR.out.alloc HBR.out.size _,Blk.new _ _ _,isb_below HIB.out ((Below.refl _ _).alloc (Nat.le_refl _) _)⟩)
   have HNB:=Lib.hid (show wr.heap.size≠w.heap.size from by
    have h1:w.heap.size<wr.heap.size:=by
     rcases HIB.out with⟨_,v,h2,_⟩ | ⟨_,v,h2,_⟩ <;> exact(Array.getElem?_eq_some_iff.1 h2).1
    omega)
   clear hV e0 e1 e2 e3 e4 e5
   obtain⟨nb,hnb⟩:∃nb,wr.heap.size=nb:=⟨_,rfl⟩
   rw[hnb]at HS0 HNB ⊢
   clear hnb
   go_cut [] (fun wx=>PrSt w nb #[.string nm,.int .i64 pos,.slice p2 n2 c2,.slice p3 n3 c3,.slice p4 n4 c4,.slice p5 n5 c5] (A ++ headB N) wx)
   case first =>
    have hzs:A.size+(nodeB d N).size≤100000000000000:=by have:=HZ1.out;rwa [ByteArray.size_append]at this
    have hzh:(headB N).size≤(nodeB d N).size:=by unfold nodeB;simp only[ByteArray.size_append];omega
    have hzp:5+nm.size+1+(dS N.ins ⟨#[44,32]⟩).size+11+(dS N.outs ⟨#[44,32]⟩).size+2≤(headB N).size:=by
     rw[← HNM.out];unfold headB;simp only[ByteArray.size_append];exact Nat.le_refl _
    obtain⟨J2,hJ2⟩:∃x,dS N.ins ⟨#[44,32]⟩=x:=⟨_,rfl⟩
    obtain⟨J3,hJ3⟩:∃x,dS N.outs ⟨#[44,32]⟩=x:=⟨_,rfl⟩
    have HJ2:=Lib.hid hJ2;have HJ3:=Lib.hid hJ3
    rw[hJ2,hJ3]at hzp
    clear hJ2 hJ3
    have g1:¬ 9223372036854775807<5+nm.size:=by omega
    have g2:¬ 9223372036854775807<5+nm.size+1:=by omega
    have g3:¬ 9223372036854775807<5+nm.size+1+J2.size:=by omega
    have g4:¬ 9223372036854775807<5+nm.size+1+J2.size+11:=by omega
    have g5:¬ 9223372036854775807<5+nm.size+1+J2.size+11+J3.size:=by omega
    have g6:¬ 9223372036854775807<5+nm.size+1+J2.size+11+J3.size+2:=by omega
    have yx:=fun w' (h:Below w.heap.size w w'∧Blk w' nb 37 #[.string nm,.int .i64 pos,.slice p2 n2 c2,.slice p3 n3 c3,.slice p4 n4 c4,.slice p5 n5 c5])=>h.2.six
    have hS0:Below w.heap.size w V1∧Blk V1 nb 37 #[.string nm,.int .i64 pos,.slice p2 n2 c2,.slice p3 n3 c3,.slice p4 n4 c4,.slice p5 n5 c5]:=⟨HS0.out.1,HS0.out.2.1⟩
    refine wp_region_held_drew (S:=fun w'=>Below w.heap.size w w'∧Blk w' nb 37 #[.string nm,.int .i64 pos,.slice p2 n2 c2,.slice p3 n3 c3,.slice p4 n4 c4,.slice p5 n5 c5]) (by kernel_rfl) ⟨HS0.out.drew.1,HS0.out.drew.2.1⟩ (fun hS1=>?_)
    refine wpAnyH_take (i:=0) (v:=?nv0) rfl (by kernel_rfl) (by kernel_rfl) (by kernel_rfl) (fun _ _ _ h=>h) (Or.inl ⟨by rfl,?ny0⟩) hS1 ?nr0
    case ny0=>(intro w hSw;(try dsimp only at hSw);go_simp;(try with_reducible rfl))
    try simp only[Act.put,List.getElem_toArray,List.getElem_cons_zero,List.setIfInBounds_toArray,List.set_cons_zero,List.set_cons_succ]
    refine wpAnyH_take (i:=1) (v:=?nv1) rfl (by kernel_rfl) (by kernel_rfl) (by kernel_rfl) (fun _ _ _ h=>h) (Or.inl ⟨by rfl,?ny1⟩) hS1 ?nr1
    case ny1=>(intro w hSw;(try dsimp only at hSw);go_simp;(try with_reducible rfl))
    try simp only[Act.put,List.getElem_toArray,List.getElem_cons_succ,List.getElem_cons_zero,List.setIfInBounds_toArray,List.set_cons_zero,List.set_cons_succ]
    refine wpAnyH_take (i:=2) (v:=?nv2) rfl (by kernel_rfl) (by kernel_rfl) (by kernel_rfl) (fun _ _ _ h=>h) (Or.inl ⟨by rfl,?ny2⟩) hS1 ?nr2
    case ny2=>(intro w hSw;(try dsimp only at hSw);go_simp;(try with_reducible rfl))
    try simp only[Act.put,List.getElem_toArray,List.getElem_cons_succ,List.getElem_cons_zero,List.setIfInBounds_toArray,List.set_cons_zero,List.set_cons_succ]
    refine wpAnyH_take (i:=3) (v:=?nv3) rfl (by kernel_rfl) (by kernel_rfl) (by kernel_rfl) (fun _ _ _ h=>h) (Or.inl ⟨by rfl,?ny3⟩) hS1 ?nr3
    case ny3=>(intro w hSw;(try dsimp only at hSw);go_simp;(try with_reducible rfl))
    try simp only[Act.put,List.getElem_toArray,List.getElem_cons_succ,List.getElem_cons_zero,List.setIfInBounds_toArray,List.set_cons_zero,List.set_cons_succ]
    refine wpAnyH_take (i:=4) (v:=?nv4) rfl (by kernel_rfl) (by kernel_rfl) (by kernel_rfl) (fun _ _ _ h=>h) (Or.inl ⟨by rfl,?ny4⟩) hS1 ?nr4
    case ny4=>(intro w hSw;(try dsimp only at hSw);go_simp;(try with_reducible rfl))
    try simp only[Act.put,List.getElem_toArray,List.getElem_cons_succ,List.getElem_cons_zero,List.setIfInBounds_toArray,List.set_cons_zero,List.set_cons_succ]
    refine wpAnyH_take (i:=5) (v:=?nv5) rfl (by kernel_rfl) (by kernel_rfl) (by kernel_rfl) (fun _ _ _ h=>h) (Or.inl ⟨by rfl,?ny5⟩) hS1 ?nr5
    case ny5=>(intro w hSw;(try dsimp only at hSw);go_simp;(try with_reducible rfl))
    try simp only[Act.put,List.getElem_toArray,List.getElem_cons_succ,List.getElem_cons_zero,List.setIfInBounds_toArray,List.set_cons_zero,List.set_cons_succ]
    refine wpAnyH_take (i:=9) (v:=?nv9) rfl (by kernel_rfl) (by kernel_rfl) (by kernel_rfl) (fun _ _ _ h=>h) (Or.inl ⟨by rfl,?ny9⟩) hS1 ?nr9
    case ny9=>(intro w hSw;(try dsimp only at hSw);go_simp;(try with_reducible rfl))
    try simp only[Act.put,List.getElem_toArray,List.getElem_cons_succ,List.getElem_cons_zero,List.setIfInBounds_toArray,List.set_cons_zero,List.set_cons_succ]
    refine wpAnyH_take (i:=10) (v:=?nv10) rfl (by kernel_rfl) (by kernel_rfl) (by kernel_rfl) (fun _ _ _ h=>h) (Or.inl ⟨by rfl,?ny10⟩) hS1 ?nr10
    case ny10=>(intro w hSw;(try dsimp only at hSw);go_simp;(try with_reducible rfl))
    try simp only[Act.put,List.getElem_toArray,List.getElem_cons_succ,List.getElem_cons_zero,List.setIfInBounds_toArray,List.set_cons_zero,List.set_cons_succ]
    refine wpAnyH_ready (rs:=[6]) (by kernel_rfl) (by simp) ?_
    refine AllReadyH.cons rfl (fun K hK=>?_) AllReadyH.nil
    go_simp
    refine(declTexts_any _ N.ins _ V1.drew B (Nat.le_trans hB HS0.out.drew.1.size) (gr_below HP.out HS0.out.drew.1) (H2.out.below HS0.out.drew.1) HFJ.out.1.1 HFJ.out.1.2 (by decide)).mono ?_
    rintro e w2 ⟨rfl,hb2⟩
    have HS2:=Lib.hid (HS0.out.drew.below hb2)
    rw[HJ2.out]
    refine hK.out _ _ ⟨HS2.out.1,HS2.out.2.1⟩ (fun _=>?_)
    have hS2:Below w.heap.size w w2∧Blk w2 nb 37 #[.string nm,.int .i64 pos,.slice p2 n2 c2,.slice p3 n3 c3,.slice p4 n4 c4,.slice p5 n5 c5]:=⟨HS2.out.1,HS2.out.2.1⟩
    clear hK K hb2
    try simp only[Act.put,List.getElem_toArray,List.getElem_cons_succ,List.getElem_cons_zero,List.setIfInBounds_toArray,List.set_cons_zero,List.set_cons_succ]
    refine wpAnyH_take (i:=7) (v:=?nv7) rfl (by kernel_rfl) (by kernel_rfl) (by kernel_rfl) (fun _ _ _ h=>h) (Or.inl ⟨by rfl,?ny7⟩) hS2 ?nr7
    case ny7=>(intro w hSw;(try dsimp only at hSw);go_simp;(try with_reducible rfl))
    try simp only[Act.put,List.getElem_toArray,List.getElem_cons_succ,List.getElem_cons_zero,List.setIfInBounds_toArray,List.set_cons_zero,List.set_cons_succ]
    refine wpAnyH_take (i:=8) (v:=?nv8) rfl (by kernel_rfl) (by kernel_rfl) (by kernel_rfl) (fun _ _ _ h=>h) (Or.inl ⟨by rfl,?ny8⟩) hS2 ?nr8
    case ny8=>(intro w hSw;(try dsimp only at hSw);go_simp;(try with_reducible rfl))
    try simp only[Act.put,List.getElem_toArray,List.getElem_cons_succ,List.getElem_cons_zero,List.setIfInBounds_toArray,List.set_cons_zero,List.set_cons_succ]
    refine wpAnyH_ready (rs:=[11]) (by kernel_rfl) (by simp) ?_
    refine AllReadyH.cons rfl (fun K hK=>?_) AllReadyH.nil
    go_simp
    refine(declTexts_any _ N.outs _ w2 B (Nat.le_trans hB HS2.out.1.size) (gr_below HP.out HS2.out.1) (H3.out.below HS2.out.1) HFJ.out.2.1.1 HFJ.out.2.1.2 (by decide)).mono ?_
    rintro e w3 ⟨rfl,hb3⟩
    have HS3:=Lib.hid (HS2.out.below hb3)
    rw[HJ3.out]
    refine hK.out _ _ ⟨HS3.out.1,HS3.out.2.1⟩ (fun _=>?_)
    have hS3:Below w.heap.size w w3∧Blk w3 nb 37 #[.string nm,.int .i64 pos,.slice p2 n2 c2,.slice p3 n3 c3,.slice p4 n4 c4,.slice p5 n5 c5]:=⟨HS3.out.1,HS3.out.2.1⟩
    clear hK K hb3
    try simp only[Act.put,List.getElem_toArray,List.getElem_cons_succ,List.getElem_cons_zero,List.setIfInBounds_toArray,List.set_cons_zero,List.set_cons_succ]
    refine wpAnyH_take (i:=12) (v:=?nv12) rfl (by kernel_rfl) (by kernel_rfl) (by kernel_rfl) (fun _ _ _ h=>h) (Or.inl ⟨by rfl,?ny12⟩) hS3 ?nr12
    case ny12=>(intro w hSw;(try dsimp only at hSw);go_simp;(try with_reducible rfl))
    try simp only[Act.put,List.getElem_toArray,List.getElem_cons_succ,List.getElem_cons_zero,List.setIfInBounds_toArray,List.set_cons_zero,List.set_cons_succ]
    refine wpAnyH_take (i:=13) (v:=?nv13) rfl (by kernel_rfl) (by kernel_rfl) (by kernel_rfl) (fun _ _ _ h=>h) (Or.inl ⟨by rfl,?ny13⟩) hS3 ?nr13
    case ny13=>(intro w hSw;(try dsimp only at hSw);go_simp;(try with_reducible rfl))
    try simp only[Act.put,List.getElem_toArray,List.getElem_cons_succ,List.getElem_cons_zero,List.setIfInBounds_toArray,List.set_cons_zero,List.set_cons_succ]
    have HEQ:=Lib.hid (show(⟨#[110,111,100,101,32]⟩ ++ nm ++ ⟨#[40]⟩ ++ J2 ++ ⟨#[41,32,114,101,116,117,114,110,115,32,40]⟩ ++ J3 ++ ⟨#[41,10]⟩:ByteArray)=headB N by unfold headB;rw[HNM.out,HJ2.out,HJ3.out])
    refine wpAnyH_ready (rs:=[14]) (by kernel_rfl) (by simp) ?_
    refine AllReadyH.cons rfl (fun K hK=>?_) AllReadyH.nil
    go_simp
    rw[HEQ.out]
    refine(HS3.out.write HNB.out (by omega)).mono ?_
    rintro e w4 ⟨rfl,hst,hkp⟩
    refine hK.out _ _ ⟨hst.1,hst.2.1⟩ (fun _=>?_)
    clear hK K hkp
    try simp only[Act.put,List.getElem_toArray,List.getElem_cons_succ,List.getElem_cons_zero,List.setIfInBounds_toArray,List.set_cons_zero,List.set_cons_succ]
    refine wpAnyH_done (by kernel_rfl) ?_ _
    go_wp2_with fail
    go_meet
    exact hst
   case rest =>
    have HS5:=Lib.hid hcut
    clear HS0 hcut
    obtain⟨v0,v1,v2,v3,v4,v5⟩:=HS5.out.2.1.six
    have hzs:A.size+(nodeB d N).size≤100000000000000:=by have:=HZ1.out;rwa [ByteArray.size_append]at this
    have hzn:(headB N).size+(varB N).size+4+(catB (N.eqs.map (eqL d))).size+4=(nodeB d N).size:=by unfold nodeB;simp only[ByteArray.size_append];rfl
    have HZS:=Lib.hid hzs;have HZN:=Lib.hid hzn
    clear hzs hzn
    go_upto_if 32 with fail
    go_cut [] (fun wx=>PrSt w nb #[.string nm,.int .i64 pos,.slice p2 n2 c2,.slice p3 n3 c3,.slice p4 n4 c4,.slice p5 n5 c5] (A ++ headB N ++ varB N) wx)
    case first =>
     by_cases h4:0<n4
     ·have hd4:decide (0<n4)=true:=by simpa using h4
      have hv4:varB N=⟨#[118,97,114,32]⟩ ++ dS N.vars ⟨#[59,32]⟩ ++ ⟨#[59,10]⟩:=by unfold varB;rw[if_pos (HN4.out ▸ h4)]
      obtain⟨J4,hJ4⟩:∃x,dS N.vars ⟨#[59,32]⟩=x:=⟨_,rfl⟩
      have hzv:4+J4.size+2=(varB N).size:=by rw[hv4,hJ4];simp only[ByteArray.size_append];rfl
      have HJ4:=Lib.hid hJ4;have HV4:=Lib.hid (hJ4 ▸ hv4)
      have g1:¬ 9223372036854775807<4+J4.size:=by have:=HZS.out;have:=HZN.out;omega
      have g2:¬ 9223372036854775807<4+J4.size+2:=by have:=HZS.out;have:=HZN.out;omega
      clear hJ4 hv4
      go_wp2_with fail
      refine(declTexts_any _ N.vars ⟨#[59,32]⟩ _ B (Nat.le_trans hB HS5.out.1.size) (gr_below HP.out HS5.out.1) (H4.out.below HS5.out.1) HFJ.out.2.2.1.1 HFJ.out.2.2.1.2 (by decide)).mono ?_
      rintro e w2 ⟨rfl,hb2⟩
      have HS2:=Lib.hid (HS5.out.below hb2)
      rw[HJ4.out]
      clear hb2
      go_wp2_with fail
      have hst:=HS2.out.write (s:=varB N) HNB.out (by have:=HZS.out;have:=HZN.out;simp only[ByteArray.size_append];omega)
      rw[HV4.out]at hst
      refine hst.mono ?_
      rintro e w4 ⟨rfl,hst,hkp⟩
      rw[← HV4.out]at hst
      have HS6:=Lib.hid hst
      clear hst hkp
      go_wp2_with fail
      go_meet
      exact HS6.out
     ·have hd4:decide (0<n4)=false:=by simpa using h4
      have hv4:varB N=⟨#[]⟩:=by unfold varB;rw[if_neg (HN4.out ▸ h4)]
      have HV4:=Lib.hid hv4
      clear hv4
      go_wp2_with fail
      go_meet
      rw[HV4.out]
      have e:A ++ headB N ++ ⟨#[]⟩=A ++ headB N:=by apply ByteArray.ext;simp
      rw[e]
      exact HS5.out
    case rest =>
     have HS6:=Lib.hid hcut
     clear HS5 hcut v0 v1 v2 v3 v4 v5
     go_wp2_with fail
     refine(HS6.out.write (s:=⟨#[108,101,116,10]⟩) HNB.out (by have:=HZS.out;have:=HZN.out;have:(⟨#[108,101,116,10]⟩:ByteArray).size=4:=rfl;simp only[ByteArray.size_append];omega)).mono ?_
     rintro e w4 ⟨rfl,hst,hkp⟩
     have HS7:=Lib.hid hst
     clear hst hkp
     obtain⟨v0,v1,v2,v3,v4,v5⟩:=HS7.out.2.1.six
     obtain⟨A2,hA2⟩:∃x,A ++ headB N ++ varB N ++ ⟨#[108,101,116,10]⟩=x:=⟨_,rfl⟩
     have HA2:=Lib.hid hA2
     have hz2:A2.size+(catB (N.eqs.map (eqL d))).size+4≤100000000000000:=by
      have:=HZS.out;have:=HZN.out;have:(⟨#[108,101,116,10]⟩:ByteArray).size=4:=rfl
      rw[← hA2];simp only[ByteArray.size_append];omega
     rw[hA2]at HS7
     have HZ2:=Lib.hid hz2
     clear hA2 hz2
     have hn5:n5≤10:=HN5.out ▸ HFJ.out.2.2.2.1
     go_wp2_with fail
     go_loopw [43] (fun t wr=>∃i:Nat,t=.int .i64 i∧i≤n5∧PrSt w nb #[.string nm,.int .i64 pos,.slice p2 n2 c2,.slice p3 n3 c3,.slice p4 n4 c4,.slice p5 n5 c5] (A2 ++ catB ((N.eqs.map (eqL d)).take i)) wr) (fun t _=>n5 - (intOf t).toNat)
     case atStart=>exact⟨0,rfl,Nat.zero_le _,by
      have e:A2 ++ catB ((N.eqs.map (eqL d)).take 0)=A2:=by apply ByteArray.ext;simp[catB]
      rw[e];exact HS7.out⟩
     case round =>
      obtain⟨i,rfl,hi,hst⟩:=hrel
      have HS8:=Lib.hid hst
      clear hst v0 v1 v2 v3 v4 v5 HS7 HS6
      by_cases hl2:i<n5
      ·have hlt2:i<N.eqs.length:=HN5.out ▸ hl2
       obtain⟨g5,o5,rfl,hg5,hq⟩:∃g o,p5=some ⟨g,o,none⟩∧g<B∧∀i (h:i<N.eqs.length),∃pL cL k a n nm off sp sl sc,w.cell? ⟨g,o+i*8,none⟩=some (.slice pL N.eqs[i].left.length cL)∧w.cell? ⟨g,o+i*8+1,none⟩=some (.bool N.eqs[i].async) ∧
         w.cell? ⟨g,o+i*8+2,none⟩=some (.int .i64 k)∧w.cell? ⟨g,o+i*8+3,none⟩=some (.int .i64 a)∧w.cell? ⟨g,o+i*8+4,none⟩=some (.int .i64 n)∧w.cell? ⟨g,o+i*8+5,none⟩=some (.string nm)∧w.cell? ⟨g,o+i*8+6,none⟩=some (.bool off)∧w.cell? ⟨g,o+i*8+7,none⟩=some (.slice sp sl sc) ∧
         RdE w (.agg #[.slice pL N.eqs[i].left.length cL,.bool N.eqs[i].async,.int .i64 k,.int .i64 a,.int .i64 n,.string nm,.bool off,.slice sp sl sc]) N.eqs[i]:=by
        rcases H5.out with h0 |h
        ·rw[h0]at hlt2;cases hlt2
        ·exact h
       obtain⟨pL,cL,k,a,m,nme,off,sp,sl,sc,q0,q1,q2,q3,q4,q5,q6,q7,hE⟩:=hq i hlt2
       have HFQ:=Lib.hid (HFJ.out.2.2.2.2 _ (List.getElem_mem hlt2))
       have hti:(N.eqs.map (eqL d))[i]? = some (eqL d N.eqs[i]):=by rw[List.getElem?_map,List.getElem?_eq_getElem hlt2];rfl
       have HTI:=Lib.hid (catB_take hti)
       have hzi:(catB ((N.eqs.map (eqL d)).take (i+1))).size≤(catB (N.eqs.map (eqL d))).size:=catB_take_le _ _
       rw[HTI.out,ByteArray.size_append]at hzi
       obtain⟨Q,hQ⟩:∃Q,N.eqs[i]=Q:=⟨_,rfl⟩
       rw[hQ]at q0 q1 hE HFQ HTI hzi
       generalize catB ((N.eqs.map (eqL d)).take i)=A3 at *
       have hb8:=HS8.out.1
       have hlw:g5<w.heap.size:=Nat.lt_of_lt_of_le hg5 hB
       have c0:=(hb8.cell (p:=⟨g5,o5+i*8,none⟩) hlw).trans q0
       have c1:=(hb8.cell (p:=⟨g5,o5+i*8+1,none⟩) hlw).trans q1
       have c2':=(hb8.cell (p:=⟨g5,o5+i*8+2,none⟩) hlw).trans q2
       have c3':=(hb8.cell (p:=⟨g5,o5+i*8+3,none⟩) hlw).trans q3
       have c4':=(hb8.cell (p:=⟨g5,o5+i*8+4,none⟩) hlw).trans q4
       have c5':=(hb8.cell (p:=⟨g5,o5+i*8+5,none⟩) hlw).trans q5
       have c6:=(hb8.cell (p:=⟨g5,o5+i*8+6,none⟩) hlw).trans q6
       have c7:=(hb8.cell (p:=⟨g5,o5+i*8+7,none⟩) hlw).trans q7
       have HE:=Lib.hid hE
       obtain⟨eT,heT⟩:∃x,eqTB d Q=x:=⟨_,rfl⟩
       have hze:2+eT.size+2=(eqL d Q).size:=by unfold eqL;rw[heT];simp only[ByteArray.size_append];rfl
       have HEL:=Lib.hid (show⟨#[32,32]⟩ ++ eT ++ ⟨#[59,10]⟩=eqL d Q by unfold eqL;rw[heT])
       have HET:=Lib.hid heT
       have f1:¬ 9223372036854775807<2+eT.size:=by have:=HZ2.out;omega
       have f2:¬ 9223372036854775807<2+eT.size+2:=by have:=HZ2.out;omega
       have HZI:=Lib.hid hzi
       clear q0 q1 q2 q3 q4 q5 q6 q7 hq hQ hE hti hb8 heT hze hzi hlt2 hlw
       go_upto_region 12 with fail
       generalize hX:wr.alloc _=X1
       have HB9:=Lib.hid (show Below wr.heap.size wr X1 by rw[← hX];exact(Below.refl _ _).alloc (Nat.le_refl _) _)
       have HX1:=Lib.hid (show Blk X1 wr.heap.size 73 #[.slice pL Q.left.length cL,.bool Q.async,.int .i64 k,.int .i64 a,.int .i64 m,.string nme,.bool off,.slice sp sl sc] by rw[← hX];exact Blk.new _ _ _)
       clear hX c0 c1 c2' c3' c4' c5' c6 c7
       have HS9:=Lib.hid (HS8.out.below HB9.out)
       have x0:=HX1.out.cell (o:=0) (v:=.slice pL Q.left.length cL) rfl
       have x1:=HX1.out.cell (o:=1) (v:=.bool Q.async) rfl
       have x2:=HX1.out.cell (o:=2) (v:=.int .i64 k) rfl
       have x3:=HX1.out.cell (o:=3) (v:=.int .i64 a) rfl
       have x4:=HX1.out.cell (o:=4) (v:=.int .i64 m) rfl
       have x5:=HX1.out.cell (o:=5) (v:=.string nme) rfl
       have x6:=HX1.out.cell (o:=6) (v:=.bool off) rfl
       have x7:=HX1.out.cell (o:=7) (v:=.slice sp sl sc) rfl
       go_wp2_with fail
       refine(eqText_any _ Q _ (gr_below HP.out HS9.out.1) (HE.out.below HS9.out.1) HFQ.out d).mono ?_
       rintro e w10 ⟨rfl,hb10⟩
       have HS10:=Lib.hid (HS9.out.below hb10)
       rw[HET.out]
       clear hb10
       go_wp2_with fail
       have hst:=HS10.out.write (s:=eqL d Q) HNB.out (by have:=HZ2.out;have:=HZI.out;simp only[ByteArray.size_append];omega)
       rw[← HEL.out]at hst
       refine hst.mono ?_
       rintro e w11 ⟨rfl,hst,hkp⟩
       rw[HEL.out]at hst
       have HS11:=Lib.hid hst
       clear hst hkp
       go_wp2_with fail
       go_roundw
       case rel=>exact⟨i+1,by go_num,by omega,by
        have e:A2 ++ catB ((N.eqs.map (eqL d)).take (i+1))=A2 ++ A3 ++ eqL d Q:=by rw[HTI.out,ByteArray.append_assoc]
        rw[e];exact HS11.out⟩
       case measure=>simp[intOf];omega
      ·have hie:i=n5:=by omega
       subst hie
       have ht:(N.eqs.map (eqL d)).take i=N.eqs.map (eqL d):=by rw[← HN5.out,← List.length_map (f:=eqL d)];exact List.take_length
       rw[ht]at HS8
       clear ht
       go_wp2_with fail
       refine(HS8.out.write (s:=⟨#[116,101,108,10]⟩) HNB.out (by have:=HZ2.out;have:(⟨#[116,101,108,10]⟩:ByteArray).size=4:=rfl;simp only[ByteArray.size_append];omega)).mono ?_
       rintro e w9 ⟨rfl,hst,hkp⟩
       have HS9:=Lib.hid hst
       clear hst hkp
       go_wp2_with fail
       go_roundw
       case rel=>exact⟨j+1,by go_num,by omega,HS9.out.1,by
        have e:A2 ++ catB (N.eqs.map (eqL d)) ++ ⟨#[116,101,108,10]⟩=A ++ nodeB d N:=by rw[← HA2.out];unfold nodeB;simp only[ByteArray.append_assoc]
        rw[HTK.out,← e];exact HS9.out.2.2⟩
       case measure=>simp[intOf];omega
  ·have hje:j=n:=by omega
   subst hje
   have ht:(ns.map (nodeB d)).take j=ns.map (nodeB d):=by rw[← HN.out,← List.length_map (f:=nodeB d)];exact List.take_length
   rw[ht]at HIB
   clear ht
   go_wp2_with fail
   rw[Lib.strCells_eq]at HIB
   refine(Tryd.Builder_String_any w.heap.size w.heap.size _ _ HIB.out HBR.out.size).mono ?_
   rintro e w2 ⟨rfl,hb2⟩
   have HB2:=Lib.hid (HBR.out.trans hb2)
   clear hb2
   go_wp2_with fail
   go_ret
   exact⟨rfl,HB2.out⟩
end Go.Ax
