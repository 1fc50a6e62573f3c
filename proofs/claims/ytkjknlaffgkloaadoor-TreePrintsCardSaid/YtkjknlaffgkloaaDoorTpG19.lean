/- TuI -/
import Derived.Test.YtkjknlaffgkloaaDoorTpG18
import Derived.Test.YtkjknlaffgkloaaDoorTpG17
set_option linter.unusedVariables false
set_option linter.unusedSimpArgs false
set_option maxHeartbeats 16000000
noncomputable section
open Nat (reduceLT reduceAdd reduceEqDiff reduceLeDiff)
namespace Go.Ax
open Go.RowKit Go.Proofs
set_option maxRecDepth 100000
theorem sp_56:EZ.I 56=none:=by
 show(Bool.rec (Bool.rec (Bool.rec none (some (growI 6)) (Nat.beq 56 50)) (some joinB) (Nat.beq 56 43)) (some (pureG gZ Tryd.prog SpecZ 56)) (knz 56):Option (List AV→St→R))=_
 rw[show knz 56=false from by decide]
 rfl
theorem sp_38:EZ.I 38=none:=by
 show(Bool.rec (Bool.rec (Bool.rec none (some (growI 6)) (Nat.beq 38 50)) (some joinB) (Nat.beq 38 43)) (some (pureG gZ Tryd.prog SpecZ 38)) (knz 38):Option (List AV→St→R))=_
 rw[show knz 38=false from by decide]
 rfl
theorem yzsx34:sizeT Tryd.prog 34=some 1:=by kernel_rfl
theorem ys34x(S:St)(p k:Nat)(v:AV):oStore Tryd.prog S 34 (.ptr p k) v=vstB S (S.mem.get p) p k v 1:=vstG yzsx34 S p k v
theorem yzsx35:sizeT Tryd.prog 35=some 1:=by kernel_rfl
theorem ys35x(S:St)(p k:Nat)(v:AV):oStore Tryd.prog S 35 (.ptr p k) v=vstB S (S.mem.get p) p k v 1:=vstG yzsx35 S p k v
theorem yzsx71:sizeT Tryd.prog 71=some 1:=by kernel_rfl
theorem ys71x(S:St)(p k:Nat)(v:AV):oStore Tryd.prog S 71 (.ptr p k) v=vstB S (S.mem.get p) p k v 1:=vstG yzsx71 S p k v
theorem yaQ(S:St):oAlloc Tryd.prog S 73=some (.ptr S.next 0,S.newBox [.nils,.v (.bool false),.v (.int .i64 0),.v (.int .i64 0),.v (.int .i64 0),.v (.string ⟨⟨[]⟩⟩),.v (.bool false),.nils]):=by kernel_rfl
theorem beqA_bs(a b c d:Nat):beqA (.bs a b c d) (.bs a b c d)=true:=by simp[beqA]
theorem vstB_bs(id o n sz:Nat)(S:St)(cs:List AV)(b k:Nat):vstB S (some (.box cs)) b k (.bs id o n sz) 1=if k+1≤cs.length then some (S.to b (cs.take k ++ .bs id o n sz :: cs.drop (k+1)))else none:=vstB_one rfl S cs b k
theorem clone56n(S:St):WC EM 56 [.nils] S (fun r=>r=.ret .nils S):=by
 refine WC_fn Tryd.f56 sp_56 (by kernel_rfl) (by kernel_rfl) (show(_:Nat)≤_ from by show(_:Nat)≤_;simp[Tryd.f56]) ?_
 have h0:=fbNils
 have h1:=neNil55n
 have h2:=eqOrN55
 simp(maxSteps:=2000000) (disch:=omega)only[W_skip,W_region,W_seq,W_cond,W_ret,seqQ_normal2,seqQ_ret2,WL_nil2,WL_cons,execL_val2,putL_some2,condW_t2,wantedA,exec1,evalO,initT,T.get_set,T.get_leaf,ofOpt,ofConst,partsA,finW_ret,giveW,resultsA,tupA,reduceLT,reduceEqDiff,if_true,if_false,Option.getD_some,Bool.false_eq_true,and_self,initT,em_P,em_G,Tryd.f56,h0,h1,h2,nilS_i]
theorem clone56b(S:St)(tok off:Nat)(e:AV)(es:List AV)(hl:(e :: es).length≤1000):WC EM 56 [.sl tok off 6 (e :: es)] S (fun r=>r=.ret (.bs S.next 0 (e :: es).length 6) (S.newBox (flat (e :: es)))):=by
 refine WC_fn Tryd.f56 sp_56 (by kernel_rfl) (by kernel_rfl) (show(_:Nat)≤_ from by show(_:Nat)≤_;simp[Tryd.f56]) ?_
 have happ:=appM55 S tok off e es hl
 generalize (e :: es).length=n at *
 generalize flat (e :: es)=fl at *
 generalize e :: es=l at *
 simp(maxSteps:=2000000) (disch:=omega)only[W_skip,W_region,W_seq,W_cond,W_ret,seqQ_normal2,seqQ_ret2,WL_nil2,WL_cons,execL_val2,putL_some2,condW_f2,wantedA,exec1,evalO,initT,T.get_set,T.get_leaf,callA,ofOpt,ofOptS,ofConst,partsA,finW_ret,giveW,resultsA,tupA,reduceLT,reduceEqDiff,if_true,if_false,true_and,Option.getD_some,and_self,initT,em_P,em_G,Tryd.f56,neNil55s,yrP_0,happ]
theorem clone38n(S:St):WC EM 38 [.nils] S (fun r=>r=.ret .nils S):=by
 refine WC_fn Tryd.f38 sp_38 (by kernel_rfl) (by kernel_rfl) (show(_:Nat)≤_ from by show(_:Nat)≤_;simp[Tryd.f38]) ?_
 have h0:=fbNils
 have h1:=neNil35n
 have h2:=eqOrN35
 simp(maxSteps:=2000000) (disch:=omega)only[W_skip,W_region,W_seq,W_cond,W_ret,seqQ_normal2,seqQ_ret2,WL_nil2,WL_cons,execL_val2,putL_some2,condW_t2,wantedA,exec1,evalO,initT,T.get_set,T.get_leaf,ofOpt,ofConst,partsA,finW_ret,giveW,resultsA,tupA,reduceLT,reduceEqDiff,if_true,if_false,Option.getD_some,Bool.false_eq_true,and_self,initT,em_P,em_G,Tryd.f38,h0,h1,h2,nilS_i]
theorem clone38b(S:St)(tok off:Nat)(e:AV)(es:List AV)(hl:(e :: es).length≤1000):WC EM 38 [.sl tok off 8 (e :: es)] S (fun r=>r=.ret (.bs S.next 0 (e :: es).length 8) (S.newBox (flat (e :: es)))):=by
 refine WC_fn Tryd.f38 sp_38 (by kernel_rfl) (by kernel_rfl) (show(_:Nat)≤_ from by show(_:Nat)≤_;simp[Tryd.f38]) ?_
 have happ:=appM35 S tok off e es hl
 generalize (e :: es).length=n at *
 generalize flat (e :: es)=fl at *
 generalize e :: es=l at *
 simp(maxSteps:=2000000) (disch:=omega)only[W_skip,W_region,W_seq,W_cond,W_ret,seqQ_normal2,seqQ_ret2,WL_nil2,WL_cons,execL_val2,putL_some2,condW_f2,wantedA,exec1,evalO,initT,T.get_set,T.get_leaf,callA,ofOpt,ofOptS,ofConst,partsA,finW_ret,giveW,resultsA,tupA,reduceLT,reduceEqDiff,if_true,if_false,true_and,Option.getD_some,and_self,initT,em_P,em_G,Tryd.f38,neNil35s,yrV_0,happ]
theorem exL_cells(l:List PX):∀e∈exL l,e.cells.length=6:=fun e he=>by
 induction l with
 |nil=>cases he
 |cons x r ih =>
  have he:e∈exA x :: exL r:=he
  rcases List.mem_cons.1 he with rfl |he
  ·obtain⟨c0,c1,c2,c3,c4,c5,hagg⟩:=ex_agg x
   rw[hagg];rfl
  ·exact ih he
theorem flat_fr{es:List AV}(h:∀e∈es,∀x∈e.cells,freeV x=true∧clean x=x∧x.one=true):∀x∈flat es,freeV x=true∧clean x=x∧x.one=true:=by
 induction es with
 |nil=>intro x hx;cases hx
 |cons e r ih =>
  intro x hx
  rw[flat_cons]at hx
  rcases List.mem_append.1 hx with hx |hx
  ·exact h e (List.mem_cons_self ..) x hx
  ·exact ih (fun e he=>h e (List.mem_cons_of_mem _ he)) x hx
theorem exA_cells_fr(e:PX):∀x∈(exA e).cells,freeV x=true∧clean x=x∧x.one=true:=by
 cases e with
 |mk k a n nm off kids =>
  rw[exA_mk]
  intro x hx
  simp only[cells_agg,List.mem_cons,List.not_mem_nil,or_false]at hx
  rcases hx with rfl |rfl |rfl |rfl |rfl |rfl
  iterate 5 exact⟨rfl,rfl,rfl⟩
  obtain⟨h1,h2⟩:=rowX_fr kids
  refine⟨h1,h2,?_⟩
  cases kids <;> rfl
theorem exL_fl(l:List PX):∀x∈flat (exL l),freeV x=true∧clean x=x∧x.one=true:=flat_fr fun e he=>by
 induction l with
 |nil=>cases he
 |cons y r ih =>
  have he:e∈exA y :: exL r:=he
  rcases List.mem_cons.1 he with rfl |he
  ·exact exA_cells_fr y
  ·exact ih he
def ceLB:Code:=match Tryd.f40.body with
 |some (.seq _ (.seq _ (.seq (.seq _ (.block _ (.loop c))) _)))=>c
 |_=>.skip
theorem call40{e:PX}{d:Nat}{S:St}{Q:R→Prop}(hk:KnZ 40 [exA e])(ho:okX d e)(hd:d≤4)(h:Q (.ret (exA e) S)):WC EM 40 [exA e] S Q :=
 callM (args':=[exA e]) hk (by kernel_rfl) (by show(freeV (exA e) && true)=true;rw[(exA_fr e).1];rfl) (by show [clean (exA e)]=_;rw[(exA_fr e).2]) fun x _ _ hs=>by
  have:=hs e d rfl ho hd
  subst this
  exact h
theorem ce_lp{kids:List PX}{d:Nat}{x0 x1 x2 x3 x4:AV}{z3:List AV}(ho:okL d kids)(hd:d≤4)(hl:kids.length≤10)(H:∀x∈kids,KnZ 40 [exA x]):∀(n j:Nat) (t:T AV) (S:St),j+n=kids.length→5≤S.next→S.mem.get 2=some (.box [x0,x1,x2,x3,x4,.bs 4 0 kids.length 6])→S.mem.get 3=some (.box z3)→S.mem.get 4=some (.box (flat (exL kids)))→t.get 1=some (.ptr 2 0)→t.get 2=some (.ptr 3 0)→t.get 10=some (.bs 4 0 kids.length 6)→t.get 11=some (.v (.int .i64 ((kids.length:Nat):Int)))→t.get 12=some (.v (.int .i64 ((j:Nat):Int))) →
  WX EM 25 (.loop ceLB) ⟨t,[]⟩ S (fun r=>∃t' S',r=.out (.exit 0) ⟨t',[]⟩ S'∧5≤S'.next∧S'.mem.get 2=some (.box [x0,x1,x2,x3,x4,.bs 4 0 kids.length 6])∧S'.mem.get 3=some (.box z3)∧S'.mem.get 4=some (.box (flat (exL kids)))∧t'.get 1=some (.ptr 2 0)∧t'.get 2=some (.ptr 3 0))
 |0,j,t,S,hj,hn,m2,m3,m4,T1,T2,T10,T11,T12=>by
  refine WX_loop (W_sound ?_)
  have hlt:decide ((j:Int)<(kids.length:Int))=false:=by rw[decide_eq_false_iff_not];omega
  simp(maxSteps:=2000000) (disch:=omega)only[thenW_exit,W_skip,W_region,W_seq,W_cond,W_block,W_exit,seqQ_normal2,seqQ_exit2,WL_nil2,WL_cons,execL_val2,putL_some2,condW_f2,wantedA,exec1,evalO,T.get_set,ofOpt,neNil3,fb_lss,reduceLT,reduceEqDiff,if_true,if_false,true_and,Bool.false_eq_true,neNil3,em_P,ceLB,Tryd.f40,T10,T11,T12,hlt]
  exact⟨_,_,rfl,hn,m2,m3,m4,by simp only[T.get_set,reduceEqDiff,if_false,T1],by simp only[T.get_set,reduceEqDiff,if_false,T2]⟩
 |n+1,j,t,S,hj,hn,m2,m3,m4,T1,T2,T10,T11,T12=>by
  refine WX_loop (W_sound ?_)
  have hjl:j<kids.length:=by omega
  have hlt:decide ((j:Int)<(kids.length:Int))=true:=by rw[decide_eq_true_eq];omega
  have hws:=wrapS j (by omega)
  have hx:=xM55 4 j kids.length hjl
  have hjx:j<(exL kids).length:=by rw[exL_len];exact hjl
  have hmem:=List.getElem_mem hjl
  have hok:=okL_get ho _ hmem
  obtain⟨fn1,hf1⟩:∃fn,EZ.F 40=some fn:=fnz_40
  have hf1:EM.F 40=some fn1:=hf1
  obtain⟨c0,c1,c2,c3,c4,c5,hagg⟩:=ex_agg kids[j]
  have hcl:(exA kids[j]).cells=[c0,c1,c2,c3,c4,c5]:=by rw[hagg];rfl
  have hld:=ld_row (t:=57) (sz:=6) (by decide) ygX yzX (exL_cells kids) m4 j hjx
  rw[exL_get kids j hjl,hcl]at hld
  have hcall:=fun(S:St) (Q:R→Prop) h=>call40 (S:=S) (Q:=Q) (H _ hmem) hok hd h
  obtain⟨hfl,hfd⟩:=flat_atZ (exL_cells kids) j hjx
  rw[exL_get kids j hjl,hcl]at hfd
  have hfl2:j*6+6≤(flat (exL kids)).length:=by rw[hfl,exL_len];omega
  have hst:=fun(S:St) (hm:S.mem.get 4=some (.box (flat (exL kids))))=>st_same (t:=57) (n:=6) yzX (k:=j*6) (.agg [c0,c1,c2,c3,c4,c5]) hm rfl rfl hfl2 hfd
  have fin:=fun(t':T AV) (S':St)=>ce_lp (x0:=x0) (x1:=x1) (x2:=x2) (x3:=x3) (x4:=x4) (z3:=z3) ho hd hl H n (j+1) t' S' (by omega)
  rw[hagg]at hcall
  have hst2:=hst ((S.newBox [.v (.int .i64 0),.v (.int .i64 0),.v (.int .i64 0),.v (.string ⟨⟨[]⟩⟩),.v (.bool false),.nils]).to S.next [c0,c1,c2,c3,c4,c5]) (by rw[to_get,nb_get,if_neg (by omega),if_neg (by omega)];exact m4)
  generalize flat (exL kids)=fl at *
  have hne2:¬ 2=S.next:=by omega
  have hne4:¬ 4=S.next:=by omega
  clear hfl hfd hfl2 hst
  simp(maxSteps:=2000000) (disch:=omega)only[thenW_exit,W_skip,W_region,W_drawn,W_seq,W_cond,W_block,W_exit,seqQ_normal2,seqQ_exit2,WL_nil2,WL_cons,execL_val2,execL_skip2,putL_none2,putL_some2,condW_t2,wantedA,exec1,evalO,T.get_set,ofOpt,ofOptS,neNil3,fb_lss,reduceLT,reduceAdd,reduceEqDiff,if_true,if_false,true_and,List.nil_append,List.append_nil,Bool.false_eq_true,nb_get,vstB_agg,List.length_cons,List.length_nil,Nat.zero_add,reduceLeDiff,List.drop_succ_cons,List.drop_nil,List.take_zero,and_self,strS,neNil3,ysX,yaX,em_P,ysX,yaX,nb_get,ceLB,Tryd.f40,T10,T11,T12,hlt,hx,hld]
  refine WD_by [(0,true),(1,true),(2,true),(3,true),(4,true),(1,false),(5,true),(6,true)] (by kernel_rfl) (by kernel_rfl) ?_
  simp(maxSteps:=2000000) (disch:=omega)only[wantedA,exec1,evalO,T.get_set,callA,mapO,ofOpt,reduceLT,reduceAdd,reduceEqDiff,if_true,if_false,true_and,List.getElem?_toArray,List.getElem?_cons_succ,List.getElem?_cons_zero,List.nil_append,List.append_nil,Bool.false_eq_true,WR_op,execR_val2,execR_enter2,putRW_some2,rsOf,to_get,nb_get,cl1_box,clN_box,List.length_cons,List.length_nil,Nat.zero_add,reduceLeDiff,List.drop_zero,List.take_succ_cons,List.take_zero,yl55,ylX,yfX_5,clN_box,List.getElem?_cons_succ,em_P,ylX,to_get,nb_get,T1,hf1,m2,hne2]
  refine hcall _ _ ?_
  simp(maxSteps:=2000000) (disch:=omega)only[thenW_normal,W_region,seqQ_normal2,blockW_normal2,WL_nil2,WL_cons,execL_val2,putL_some2,wantedA,exec1,evalO,T.get_set,ofOpt,ofConst,neNil3,fb_add,reduceLT,reduceEqDiff,if_true,if_false,true_and,List.getElem?_cons_succ,List.getElem?_cons_zero,Bool.false_eq_true,WR_nil2,WR_op,WR_re2,execR_val2,execR_skip2,putRW_none2,putRW_some2,retRW_ret2,fixQ_normal2,againO,lookV,to_get,nb_get,cl1_box,neNil3,yl55,List.getElem?_cons_succ,em_P,beqA_bs,to_get,nb_get,T12,hws,hx,m2,hst2,hne2]
  refine fin _ _ ?_ ?_ ?_ ?_ ?_ ?_ ?_ ?_ ?_
  ·simp only[to_next,nb_next];omega
  ·simp only[to_get,nb_get];rw[if_neg (by omega),if_neg (by omega),if_neg (by omega)];exact m2
  ·simp only[to_get,nb_get];rw[if_neg (by omega),if_neg (by omega),if_neg (by omega)];exact m3
  ·simp only[to_get,if_true]
  ·simp only[T.get_set,reduceEqDiff,if_false,T1]
  ·simp only[T.get_set,reduceEqDiff,if_false,T2]
  ·simp only[T.get_set,reduceEqDiff,if_false,T10]
  ·simp only[T.get_set,reduceEqDiff,if_false,T11]
  ·simp only[T.get_set,reduceEqDiff,if_true,if_false]
theorem ce_step(e:PX)(d:Nat)(ho:okX (d+1) e)(hd:d+1≤4)(H:∀x∈e.kids,KnZ 40 [exA x]):KnZ 40 [exA e]:=by
 have fin:∀(x:AV) (S':St),Frz S' x (exA e)→∃a S'' c,R.ret x S' = R.ret a S''∧Frz S'' a c∧SpecZ 40 [exA e] c:=fun x S' h=>by
  refine⟨_,_,_,rfl,h,?_⟩
  intro e' d' q _ _
  simp only[List.cons.injEq,and_true]at q
  rw[← exA_inj _ _ q]
 cases e with
 |mk k ap nn nm off kids =>
 simp only[okX]at ho
 obtain⟨_,hnn,_,hnm,hne,hok⟩:=ho
 have hfew:=needs_few hne
 have H:∀x∈kids,KnZ 40 [exA x]:=H
 have he:exA (.mk k ap nn nm off kids)=.agg [i64A k,i64A ap,i64A nn,strS nm,.v (.bool off),rowX kids]:=exA_mk ..
 have hfr:=exA_fr (.mk k ap nn nm off kids)
 have hclf:=exA_cells_fr (.mk k ap nn nm off kids)
 rw[he]at fin hfr hclf ⊢
 obtain⟨fn1,hf1⟩:∃fn,EZ.F 56=some fn:=fnz_56
 have hf1:EM.F 56=some fn1:=hf1
 by_cases hk:kids=[]
 ·have hrow:rowX kids=.nils:=by rw[hk];rfl
  rw[hrow]at fin hfr ⊢
  have fin0:∀S',∃a S'' c,R.ret (.agg [i64A k,i64A ap,i64A nn,strS nm,.v (.bool off),.nils]) S' = R.ret a S''∧Frz S'' a c∧SpecZ 40 [.agg [i64A k,i64A ap,i64A nn,strS nm,.v (.bool off),.nils]] c:=fun S'=>fin _ S' ⟨fun base w0 w γ γ2 H u hu=>by
   have:=hu.clean (fun b o h=>H.im b o h) hfr.1
   rw[hfr.2]at this
   exact this,hfr.1,hfr.2⟩
  have hcl:=fun S=>clone56n S
  have hln:∀S,oLen Tryd.prog S 55 .nils=some 0:=ynnP
  have hlt:decide ((0:Int)<((0:Nat):Int))=false:=by decide
  simp only[strS,i64A]at fin0 ⊢
  refine bodyM Tryd.f40 (by kernel_rfl) (by kernel_rfl) (show(_:Nat)≤_ from by show(_:Nat)≤_;simp[Tryd.f40]) ?_
  simp(maxSteps:=2000000) (disch:=omega)only[W_region,W_seq,seqQ_normal2,WL_nil2,WL_cons,execL_val2,execL_enter2,putL_some2,wantedA,exec1,evalO,initT,T.get_set,T.get_leaf,callA,mapO,ofOpt,ofOptS,reduceLT,reduceAdd,reduceEqDiff,if_true,if_false,true_and,Option.getD_some,List.getElem?_cons_succ,List.getElem?_cons_zero,List.nil_append,List.append_nil,nb_get,nb_next,st0_get,st0_next,cl1_box,Nat.zero_add,noTup_agg,cells_agg,strS,yl55,yfX_5,yaX,cells_agg,initT,List.getElem?_cons_succ,em_P,yaX,nb_get,nb_next,Tryd.f40,hf1]
  refine WC.mono (hcl _) ?_
  rintro _ rfl
  simp(maxSteps:=2000000) (disch:=omega)only[W_region,W_seq,W_block,W_loop,seqQ_normal2,WL_nil2,WL_cons,execL_val2,execL_skip2,putL_none2,putL_some2,retL_ret2,wantedA,exec1,evalO,T.get_set,T.get_leaf,callA,ofOpt,ofConst,reduceLT,reduceAdd,reduceEqDiff,if_true,if_false,true_and,List.getElem?_cons_succ,List.getElem?_cons_zero,List.nil_append,to_get,nb_get,nb_next,st0_get,st0_next,cl1_box,vstB_n,List.length_cons,List.length_nil,Nat.zero_add,reduceLeDiff,List.drop_succ_cons,List.drop_nil,List.take_succ_cons,List.take_zero,List.cons_append,yl55,yfX_5,List.getElem?_cons_succ,em_P,ys55,to_get,nb_get,nb_next,hln]
  refine WX_loop (W_sound ?_)
  simp(maxSteps:=2000000) (disch:=omega)only[thenW_exit,W_skip,W_region,W_seq,W_cond,W_block,W_exit,W_ret,seqQ_normal2,seqQ_exit2,blockW_exit2,WL_nil2,WL_cons,execL_val2,execL_skip2,putL_none2,putL_some2,condW_f2,wantedA,exec1,evalO,T.get_set,T.get_leaf,ofOpt,neNil3,finW_ret,giveW,resultsA,tupA,fb_lss,reduceLT,reduceAdd,reduceEqDiff,if_true,if_false,true_and,List.nil_append,List.append_nil,Bool.false_eq_true,to_get,nb_get,nb_next,st0_get,st0_next,clN_box,vstB_agg,List.length_cons,List.length_nil,Nat.zero_add,reduceLeDiff,List.drop_zero,List.drop_succ_cons,List.drop_nil,List.take_succ_cons,List.take_zero,and_self,neNil3,ylX,ysX,clN_box,em_P,ylX,ysX,to_get,nb_get,nb_next,hlt]
  exact fin0 _
 ·obtain⟨x,r,hkr⟩:∃x r,kids=x :: r:=by
   cases kids with
   |nil=>exact absurd rfl hk
   |cons x r=>exact⟨x,r,rfl⟩
  have hrow:rowX kids=.sl 0 0 6 (exL kids):=by rw[hkr];rfl
  have hxl:exL kids=exA x :: exL r:=by rw[hkr];rfl
  have hlen:(exL kids).length=kids.length:=exL_len kids
  have hcl:∀S,WC EM 56 [.sl 0 0 6 (exL kids)] S (fun rr=>rr=.ret (.bs S.next 0 kids.length 6) (S.newBox (flat (exL kids)))):=fun S=>by
   have:=clone56b S 0 0 (exA x) (exL r) (by rw[← hxl,hlen];omega)
   rw[← hxl,hlen]at this
   exact this
  rw[hrow]at fin ⊢
  have fin1:∀S',S'.mem.get 4=some (.box (flat (exL kids)))→∃a S'' c,R.ret (.agg [i64A k,i64A ap,i64A nn,strS nm,.v (.bool off),.bs 4 0 kids.length 6]) S' = R.ret a S''∧Frz S'' a c∧SpecZ 40 [.agg [i64A k,i64A ap,i64A nn,strS nm,.v (.bool off),.sl 0 0 6 (exL kids)]] c:=fun S' hm=>fin _ S' ⟨fun base w0 w γ γ2 HF u hu=>by
   have hbs:∀u,VR γ w (.bs 4 0 kids.length 6) u→VR γ2 w (.sl 0 0 6 (exL kids)) u:=fun u hu=>by
    rw[← hlen]at hu
    exact bs_fz HF hm (fun x hx=>⟨(exL_fl kids x hx).1,(exL_fl kids x hx).2.1⟩) (exL_cells kids) (fun x hx=>(exL_fl kids x hx).2.2) hu
   cases hu with
   |agg _ y hy h1 hr =>
    refine .agg _ y hy (fun z hz=>?_) (fun j hj hj'=>?_)
    ·simp only[List.mem_cons,List.not_mem_nil,or_false]at hz
     rcases hz with rfl |rfl |rfl |rfl |rfl |rfl <;> rfl
    ·have hj6:j<6:=hj
     have hrj:=hr j hj hj'
     match j,hj6 with
     |0,_=>exact vr_v _ _ hrj
     |1,_=>exact vr_v _ _ hrj
     |2,_=>exact vr_v _ _ hrj
     |3,_=>exact vr_v _ _ hrj
     |4,_=>exact vr_v _ _ hrj
     |5,_=>exact hbs _ hrj,by rw[← hrow];exact hfr.1,by rw[← hrow];exact hfr.2⟩
  have lp:=fun z3 t S=>ce_lp (x0:=i64A k) (x1:=i64A ap) (x2:=i64A nn) (x3:=strS nm) (x4:=.v (.bool off)) (z3:=z3) hok (by omega) hfew H kids.length 0 t S (by omega)
  unfold ceLB at lp
  simp only[Tryd.f40]at lp
  have hlx:∀S,oLen Tryd.prog S 55 (.bs 4 0 kids.length 6)=some kids.length:=fun S=>nM55 S 4 kids.length
  generalize flat (exL kids)=fl at *
  clear fin hxl hlen hrow
  generalize exL kids=xl at *
  simp only[strS,i64A]at *
  refine bodyM Tryd.f40 (by kernel_rfl) (by kernel_rfl) (show(_:Nat)≤_ from by show(_:Nat)≤_;simp[Tryd.f40]) ?_
  simp(maxSteps:=2000000) (disch:=omega)only[W_region,W_seq,seqQ_normal2,WL_nil2,WL_cons,execL_val2,execL_enter2,putL_some2,wantedA,exec1,evalO,initT,T.get_set,T.get_leaf,callA,mapO,ofOpt,ofOptS,reduceLT,reduceAdd,reduceEqDiff,if_true,if_false,true_and,Option.getD_some,List.getElem?_cons_succ,List.getElem?_cons_zero,List.nil_append,List.append_nil,nb_get,nb_next,st0_get,st0_next,cl1_box,Nat.zero_add,noTup_agg,cells_agg,strS,yl55,yfX_5,yaX,cells_agg,initT,List.getElem?_cons_succ,em_P,yaX,nb_get,nb_next,Tryd.f40,hf1]
  refine WC.mono (hcl _) ?_
  rintro _ rfl
  simp(maxSteps:=2000000) (disch:=omega)only[W_region,W_seq,W_block,W_loop,seqQ_normal2,WL_nil2,WL_cons,execL_val2,execL_skip2,putL_none2,putL_some2,retL_ret2,wantedA,exec1,evalO,T.get_set,T.get_leaf,callA,ofOpt,ofConst,reduceLT,reduceAdd,reduceEqDiff,if_true,if_false,true_and,List.getElem?_cons_succ,List.getElem?_cons_zero,List.nil_append,to_get,nb_get,nb_next,st0_get,st0_next,cl1_box,List.length_cons,List.length_nil,Nat.zero_add,reduceLeDiff,List.drop_succ_cons,List.drop_nil,List.take_succ_cons,List.take_zero,List.cons_append,yl55,yfX_5,List.getElem?_cons_succ,em_P,ys55,vstB_bs,to_get,nb_get,nb_next,hlx]
  refine WX.mono (lp [.v (.int .i64 0),.v (.int .i64 0),.v (.int .i64 0),.v (.string ⟨⟨[]⟩⟩),.v (.bool false),.nils] _ _ ?_ ?_ ?_ ?_ ?_ ?_ ?_ ?_ ?_) ?_
  ·simp only[to_next,nb_next,st0_next];omega
  ·simp only[to_get,nb_get,nb_next,st0_next,reduceAdd,reduceEqDiff,if_true,if_false] <;> rfl
  ·simp only[to_get,nb_get,nb_next,st0_next,reduceAdd,reduceEqDiff,if_true,if_false] <;> rfl
  ·simp only[to_get,nb_get,nb_next,st0_next,reduceAdd,reduceEqDiff,if_true,if_false] <;> rfl
  ·simp only[T.get_set,T.get_leaf,reduceEqDiff,if_true,if_false] <;> rfl
  ·simp only[T.get_set,T.get_leaf,reduceEqDiff,if_true,if_false] <;> rfl
  ·simp only[T.get_set,T.get_leaf,reduceEqDiff,if_true,if_false] <;> rfl
  ·simp only[T.get_set,T.get_leaf,reduceEqDiff,if_true,if_false] <;> rfl
  ·simp only[T.get_set,T.get_leaf,reduceEqDiff,if_true,if_false] <;> rfl
  rintro _ ⟨t',S',rfl,hn',m2,m3,m4,T1,T2⟩
  clear lp
  simp(maxSteps:=2000000) (disch:=omega)only[W_region,W_seq,W_ret,seqQ_normal2,seqQ_exit2,blockW_exit2,WL_nil2,WL_cons,execL_val2,execL_skip2,putL_none2,putL_some2,wantedA,exec1,evalO,T.get_set,ofOpt,finW_ret,giveW,resultsA,tupA,reduceLT,reduceAdd,reduceEqDiff,if_true,if_false,true_and,List.nil_append,List.append_nil,to_get,clN_box,vstB_agg,List.length_cons,List.length_nil,Nat.zero_add,reduceLeDiff,List.drop_zero,List.drop_succ_cons,List.drop_nil,List.take_succ_cons,List.take_zero,and_self,ylX,ysX,clN_box,em_P,ylX,ysX,to_get,T1,T2,m2,m3]
  refine fin1 _ ?_
  simp only[to_get,reduceEqDiff,if_false]
  exact m4
theorem ce_k:∀(d:Nat) (e:PX),okX d e→d≤4→KnZ 40 [exA e]
 |0,e,h,_=>absurd h (by cases e;simp[okX])
 |d+1,e,h,hd=>ce_step e d h hd fun x hx=>ce_k d x (okL_get (okX_kids h) x hx) (by omega)
end Go.Ax
noncomputable section
open Nat (reduceLT reduceAdd reduceEqDiff reduceLeDiff)
namespace Go.Ax
open Go.RowKit Go.Proofs
set_option maxRecDepth 100000
theorem sub_take{L xs:List AV}{k n m o:Nat}(h:(L.drop k).take n=xs)(hm:o+m≤n):(L.drop (k+o)).take m=(xs.drop o).take m:=by
 rw[← h,List.drop_take,List.take_take,List.drop_drop,Nat.min_eq_left (by omega)]
theorem eqX_agg(q:EqX):∃c0 c1 c2 c3 c4 c5,exA q.e=.agg [c0,c1,c2,c3,c4,c5]∧(eqX q).cells=[.sl 0 0 2 (q.left.map lfA),.v (.bool q.async),c0,c1,c2,c3,c4,c5]:=by
 obtain⟨c0,c1,c2,c3,c4,c5,h⟩:=ex_agg q.e
 refine⟨c0,c1,c2,c3,c4,c5,h,?_⟩
 unfold eqX
 rw[h];rfl
theorem eqL_cells(l:List EqX):∀e∈l.map eqX,e.cells.length=8:=fun e he=>by
 obtain⟨q,_,rfl⟩:=List.mem_map.1 he
 obtain⟨c0,c1,c2,c3,c4,c5,_,h⟩:=eqX_agg q
 rw[h];rfl
theorem eqL_fl(l:List EqX):∀x∈flat (l.map eqX),freeV x=true∧clean x=x∧x.one=true:=flat_fr fun e he x hx=>by
 obtain⟨q,_,rfl⟩:=List.mem_map.1 he
 have h2:=exA_cells_fr q.e
 have hx:x∈AV.sl 0 0 2 (q.left.map lfA) :: .v (.bool q.async) :: (exA q.e).cells:=hx
 rcases List.mem_cons.1 hx with rfl |hx
 ·exact⟨(lf_fr _).1,by show AV.sl 0 0 2 (cleanL _)=_;rw[(lf_fr _).2],rfl⟩
 ·rcases List.mem_cons.1 hx with rfl |hx
  ·exact⟨rfl,rfl,rfl⟩
  ·exact h2 x hx
def cnLB:Code:=match Tryd.f21.body with
 |some (.seq _ (.seq _ (.seq _ (.seq (.seq _ (.block _ (.loop c))) _))))=>c
 |_=>.skip
theorem cn_lp{eqs:List EqX}{x0 x1 x2 x3 x4:AV}{z3:List AV}(ho:∀q∈eqs,okQ q)(hl:eqs.length≤10):∀(n j:Nat) (t:T AV) (S:St),j+n=eqs.length→5≤S.next→S.mem.get 2=some (.box [x0,x1,x2,x3,x4,.bs 4 0 eqs.length 8])→S.mem.get 3=some (.box z3)→S.mem.get 4=some (.box (flat (eqs.map eqX)))→t.get 1=some (.ptr 2 0)→t.get 2=some (.ptr 3 0)→t.get 22=some (.bs 4 0 eqs.length 8)→t.get 23=some (.v (.int .i64 ((eqs.length:Nat):Int)))→t.get 24=some (.v (.int .i64 ((j:Nat):Int))) →
  WX EM 47 (.loop cnLB) ⟨t,[]⟩ S (fun r=>∃t' S',r=.out (.exit 0) ⟨t',[]⟩ S'∧5≤S'.next∧S'.mem.get 2=some (.box [x0,x1,x2,x3,x4,.bs 4 0 eqs.length 8])∧S'.mem.get 3=some (.box z3)∧S'.mem.get 4=some (.box (flat (eqs.map eqX)))∧t'.get 1=some (.ptr 2 0)∧t'.get 2=some (.ptr 3 0))
 |0,j,t,S,hj,hn,m2,m3,m4,T1,T2,T22,T23,T24=>by
  refine WX_loop (W_sound ?_)
  have hlt:decide ((j:Int)<(eqs.length:Int))=false:=by rw[decide_eq_false_iff_not];omega
  simp(maxSteps:=2000000) (disch:=omega)only[thenW_exit,W_skip,W_region,W_seq,W_cond,W_block,W_exit,seqQ_normal2,seqQ_exit2,WL_nil2,WL_cons,execL_val2,putL_some2,condW_f2,wantedA,exec1,evalO,T.get_set,ofOpt,neNil3,fb_lss,reduceLT,reduceEqDiff,if_true,if_false,true_and,Bool.false_eq_true,neNil3,em_P,cnLB,Tryd.f21,T22,T23,T24,hlt]
  exact⟨_,_,rfl,hn,m2,m3,m4,by simp only[T.get_set,reduceEqDiff,if_false,T1],by simp only[T.get_set,reduceEqDiff,if_false,T2]⟩
 |n+1,j,t,S,hj,hn,m2,m3,m4,T1,T2,T22,T23,T24=>by
  refine WX_loop (W_sound ?_)
  have hjl:j<eqs.length:=by omega
  have hlt:decide ((j:Int)<(eqs.length:Int))=true:=by rw[decide_eq_true_eq];omega
  have hws:=wrapS j (by omega)
  have hx:=xM35 4 j eqs.length hjl
  have hjx:j<(eqs.map eqX).length:=by rw[List.length_map];exact hjl
  have hok:=ho _ (List.getElem_mem hjl)
  obtain⟨fn1,hf1⟩:∃fn,EZ.F 40=some fn:=fnz_40
  have hf1:EM.F 40=some fn1:=hf1
  obtain⟨fn2,hf2⟩:∃fn,EZ.F 39=some fn:=fnz_39
  have hf2:EM.F 39=some fn2:=hf2
  obtain⟨c0,c1,c2,c3,c4,c5,hagg,hcl⟩:=eqX_agg eqs[j]
  have hld:=ld_row (t:=73) (sz:=8) (by decide) ygQ yzQ (eqL_cells eqs) m4 j hjx
  rw[List.getElem_map,hcl]at hld
  have hcall:=fun(S:St) (Q:R→Prop) h=>call40 (S:=S) (Q:=Q) (ce_k 4 _ hok.2.2 (by decide)) hok.2.2 (by decide) h
  have hclone:=fun(S:St) (Q:R→Prop) (h:Q (.ret (.sl 0 0 2 (eqs[j].left.map lfA)) S))=>clone39_u (E:=EM) (tok:=0) (off:=0) (S:=S) (Q:=Q) (lf_fr eqs[j].left).1 (lf_fr eqs[j].left).2 (by rw[List.length_map];have:=hok.1;omega) (em_I (by kernel_rfl)) h
  obtain⟨hfl,hfd⟩:=flat_atZ (eqL_cells eqs) j hjx
  rw[List.getElem_map,hcl]at hfd
  have hfl2:j*8+8≤(flat (eqs.map eqX)).length:=by rw[hfl,List.length_map];omega
  have hfd0:=sub_take (o:=0) (m:=1) hfd (by decide)
  have hfd2:=sub_take (o:=2) (m:=6) hfd (by decide)
  have hst:=fun(S:St) (hm:S.mem.get 4=some (.box (flat (eqs.map eqX))))=>st_same (t:=71) (n:=1) yzsx71 (k:=j*8+0) (.sl 0 0 2 (eqs[j].left.map lfA)) hm rfl rfl (by omega) hfd0
  have hst6:=fun(S:St) (hm:S.mem.get 4=some (.box (flat (eqs.map eqX))))=>st_same (t:=57) (n:=6) yzX (k:=j*8+2) (.agg [c0,c1,c2,c3,c4,c5]) hm rfl rfl (by omega) hfd2
  have fin:=fun(t':T AV) (S':St)=>cn_lp (x0:=x0) (x1:=x1) (x2:=x2) (x3:=x3) (x4:=x4) (z3:=z3) ho hl n (j+1) t' S' (by omega)
  rw[hagg]at hcall
  have hm1:((S.newBox [.nils,.v (.bool false),.v (.int .i64 0),.v (.int .i64 0),.v (.int .i64 0),.v (.string ⟨⟨[]⟩⟩),.v (.bool false),.nils]).to S.next [.sl 0 0 2 (eqs[j].left.map lfA),.v (.bool eqs[j].async),c0,c1,c2,c3,c4,c5]).mem.get 4=some (.box (flat (eqs.map eqX))):=by rw[to_get,nb_get,if_neg (by omega),if_neg (by omega)];exact m4
  have hs1:=hst _ hm1
  have hs2:=hst6 (((S.newBox [.nils,.v (.bool false),.v (.int .i64 0),.v (.int .i64 0),.v (.int .i64 0),.v (.string ⟨⟨[]⟩⟩),.v (.bool false),.nils]).to S.next [.sl 0 0 2 (eqs[j].left.map lfA),.v (.bool eqs[j].async),c0,c1,c2,c3,c4,c5]).to 4 (flat (eqs.map eqX))) (by rw[to_get,if_pos rfl])
  have hbl:=beq_lf 0 0 eqs[j].left
  have hne2:¬ 2=S.next:=by omega
  have hne4:¬ S.next=4:=by omega
  have hne4':¬ 4=S.next:=by omega
  clear hfl hfd hfl2 hst hst6 hfd0 hfd2 hm1
  generalize flat (eqs.map eqX)=fl at *
  generalize eqs[j].left.map lfA=lw at *
  generalize eqs[j].async=bo at *
  simp only[Nat.add_zero]at hs1
  simp(maxSteps:=2000000) (disch:=omega)only[thenW_exit,W_skip,W_region,W_drawn,W_seq,W_cond,W_block,W_exit,seqQ_normal2,seqQ_exit2,WL_nil2,WL_cons,execL_val2,execL_skip2,putL_none2,putL_some2,condW_t2,wantedA,exec1,evalO,T.get_set,ofOpt,ofOptS,neNil3,fb_lss,reduceLT,reduceAdd,reduceEqDiff,if_true,if_false,true_and,List.nil_append,List.append_nil,Bool.false_eq_true,nb_get,vstB_agg,List.length_cons,List.length_nil,Nat.zero_add,reduceLeDiff,List.drop_succ_cons,List.drop_nil,List.take_zero,and_self,neNil3,em_P,ysQ,yaQ,nb_get,cnLB,Tryd.f21,T22,T23,T24,hlt,hx,hld]
  refine WD_by [(0,true),(1,true),(2,true),(3,true),(4,true),(5,true),(1,false),(6,true),(7,true),(8,true)] (by kernel_rfl) (by kernel_rfl) ?_
  simp(maxSteps:=2000000) (disch:=omega)only[wantedA,exec1,evalO,T.get_set,callA,mapO,ofOpt,reduceLT,reduceEqDiff,if_true,if_false,true_and,List.getElem?_toArray,List.getElem?_cons_succ,List.getElem?_cons_zero,List.nil_append,List.append_nil,Bool.false_eq_true,WR_op,execR_val2,execR_enter2,putRW_some2,rsOf,to_get,nb_get,cl1_box,Nat.zero_add,Nat.add_zero,List.getElem?_cons_succ,em_P,yfN_5,yfQ_0,yl35,yl71,to_get,nb_get,T1,hf2,m2,hne2]
  refine hclone _ _ ?_
  simp(maxSteps:=2000000) (disch:=omega)only[W_drawn,seqQ_normal2,wantedA,exec1,evalO,T.get_set,ofOpt,reduceLT,reduceEqDiff,if_true,if_false,true_and,List.getElem?_cons_succ,List.getElem?_cons_zero,WR_nil2,WR_op,WR_re2,execR_val2,execR_skip2,putRW_none2,putRW_some2,retRW_ret2,fixQ_normal2,againO,lookV,to_get,nb_get,cl1_box,Nat.add_zero,List.getElem?_cons_succ,em_P,yfQ_0,yl35,beqA_bs,to_get,nb_get,hx,m2,hs1,hne2]
  refine WD_by [(0,true),(1,true),(2,true),(3,true),(4,true),(5,true),(1,false),(6,true),(7,true),(8,true)] (by kernel_rfl) (by kernel_rfl) ?_
  simp(maxSteps:=2000000) (disch:=omega)only[wantedA,exec1,evalO,T.get_set,callA,mapO,ofOpt,reduceLT,reduceAdd,reduceEqDiff,if_true,if_false,true_and,List.getElem?_toArray,List.getElem?_cons_succ,List.getElem?_cons_zero,List.nil_append,List.append_nil,Bool.false_eq_true,WR_op,execR_val2,execR_enter2,putRW_some2,rsOf,to_get,nb_get,cl1_box,clN_box,List.length_cons,List.length_nil,Nat.zero_add,reduceLeDiff,List.drop_zero,List.drop_succ_cons,List.take_succ_cons,List.take_zero,ylX,clN_box,List.getElem?_cons_succ,em_P,yfN_5,yfQ_2,ylX,yl35,to_get,nb_get,T1,hf1,m2,hne2,hne4]
  refine hcall _ _ ?_
  simp(maxSteps:=2000000) (disch:=omega)only[thenW_normal,W_region,seqQ_normal2,blockW_normal2,WL_nil2,WL_cons,execL_val2,putL_some2,wantedA,exec1,evalO,T.get_set,ofOpt,ofConst,neNil3,fb_add,reduceLT,reduceEqDiff,if_true,if_false,true_and,List.getElem?_cons_succ,List.getElem?_cons_zero,Bool.false_eq_true,WR_nil2,WR_op,WR_re2,execR_val2,execR_skip2,putRW_none2,putRW_some2,retRW_ret2,fixQ_normal2,againO,lookV,to_get,nb_get,cl1_box,neNil3,List.getElem?_cons_succ,em_P,yfQ_2,yl35,beqA_bs,to_get,nb_get,T24,hws,hx,m2,hs2,hne2]
  refine fin _ _ ?_ ?_ ?_ ?_ ?_ ?_ ?_ ?_ ?_
  ·simp only[to_next,nb_next];omega
  ·simp only[to_get,nb_get];rw[if_neg (by omega),if_neg (by omega),if_neg (by omega),if_neg (by omega)];exact m2
  ·simp only[to_get,nb_get];rw[if_neg (by omega),if_neg (by omega),if_neg (by omega),if_neg (by omega)];exact m3
  ·simp only[to_get,if_true]
  ·simp only[T.get_set,reduceEqDiff,if_false,T1]
  ·simp only[T.get_set,reduceEqDiff,if_false,T2]
  ·simp only[T.get_set,reduceEqDiff,if_false,T22]
  ·simp only[T.get_set,reduceEqDiff,if_false,T23]
  ·simp only[T.get_set,reduceEqDiff,if_true,if_false]
theorem beqA_dc(tok off:Nat)(l:List PDc):beqA (.sl tok off 6 (l.map dcA)) (.sl tok off 6 (l.map dcA))=true:=by
 have h:∀l:List PDc,beqL (l.map dcA) (l.map dcA)=true:=fun l=>by
  induction l with
  |nil=>rfl
  |cons x r ih =>
   rw[List.map_cons]
   show(beqA (dcA x) (dcA x) && beqL (r.map dcA) (r.map dcA))=true
   rw[ih,Bool.and_true]
   show(beqA (strS x.name) (strS x.name) && (beqA (i64A x.at_) (i64A x.at_) && (beqA (.v (.bool x.bool)) (.v (.bool x.bool)) && (beqA (.v (.bool x.fut)) (.v (.bool x.fut)) && (beqA (strS x.clock) (strS x.clock) && (beqA (.v (.bool x.off)) (.v (.bool x.off)) && true))))))=true
   unfold strS i64A
   rw[beqA_st,beqA_in,beqA_bo,beqA_bo,beqA_st,beqA_bo];rfl
 show(tok == tok && off == off && (6:Nat) == 6 && beqL (l.map dcA) (l.map dcA))=true
 rw[h];simp
theorem cn_k(n:NdX)(hn:okNd n):KnZ 21 [ndA n]:=by
 have fin:∀(x:AV) (S':St),Frz S' x (ndA n)→∃a S'' c,R.ret x S' = R.ret a S''∧Frz S'' a c∧SpecZ 21 [ndA n] c:=fun x S' h=>by
  refine⟨_,_,_,rfl,h,?_⟩
  intro n' q _
  simp only[List.cons.injEq,and_true]at q
  exact q
 have hfr:=ndA_fr n
 obtain⟨hnm,⟨l1,_⟩,⟨l2,_⟩,⟨l3,_⟩,l5,hoq⟩:=hn
 have he:ndA n=.agg [strS n.name,i64A n.at_,.sl 0 0 6 (n.ins.map dcA),.sl 0 0 6 (n.outs.map dcA),.sl 0 0 6 (n.vars.map dcA),eqRow n.eqs]:=rfl
 rw[he]at fin hfr ⊢
 obtain⟨fn1,hf1⟩:∃fn,EZ.F 38=some fn:=fnz_38
 have hf1:EM.F 38=some fn1:=hf1
 obtain⟨fn2,hf2⟩:∃fn,EZ.F 37=some fn:=fnz_37
 have hf2:EM.F 37=some fn2:=hf2
 have hc1:=fun(S:St) (Q:R→Prop) h=>clone37_u (E:=EM) (tok:=0) (off:=0) (S:=S) (Q:=Q) (dc_free n.ins).1 (dc_free n.ins).2 (by rw[List.length_map];omega) (em_I (by kernel_rfl)) h
 have hc2:=fun(S:St) (Q:R→Prop) h=>clone37_u (E:=EM) (tok:=0) (off:=0) (S:=S) (Q:=Q) (dc_free n.outs).1 (dc_free n.outs).2 (by rw[List.length_map];omega) (em_I (by kernel_rfl)) h
 have hc3:=fun(S:St) (Q:R→Prop) h=>clone37_u (E:=EM) (tok:=0) (off:=0) (S:=S) (Q:=Q) (dc_free n.vars).1 (dc_free n.vars).2 (by rw[List.length_map];omega) (em_I (by kernel_rfl)) h
 have hb1:=beqA_dc 0 0 n.ins
 have hb2:=beqA_dc 0 0 n.outs
 have hb3:=beqA_dc 0 0 n.vars
 by_cases hk:n.eqs=[]
 ·have hrow:eqRow n.eqs=.nils:=by rw[hk];rfl
  rw[hrow]at fin hfr ⊢
  have fin0:∀S',∃a S'' c,R.ret (.agg [strS n.name,i64A n.at_,.sl 0 0 6 (n.ins.map dcA),.sl 0 0 6 (n.outs.map dcA),.sl 0 0 6 (n.vars.map dcA),.nils]) S' = R.ret a S''∧Frz S'' a c∧SpecZ 21 [.agg [strS n.name,i64A n.at_,.sl 0 0 6 (n.ins.map dcA),.sl 0 0 6 (n.outs.map dcA),.sl 0 0 6 (n.vars.map dcA),.nils]] c:=fun S'=>fin _ S' ⟨fun base w0 w γ γ2 H u hu=>by
   have:=hu.clean (fun b o h=>H.im b o h) hfr.1
   rw[hfr.2]at this
   exact this,hfr.1,hfr.2⟩
  have hcl:=fun S=>clone38n S
  have hln:∀S,oLen Tryd.prog S 35 .nils=some 0:=ynnV
  have hlt:decide ((0:Int)<((0:Nat):Int))=false:=by decide
  clear fin hfr
  generalize n.ins.map dcA=a1 at *
  generalize n.outs.map dcA=a2 at *
  generalize n.vars.map dcA=a3 at *
  simp only[strS,i64A]at fin0 ⊢
  refine bodyM Tryd.f21 (by kernel_rfl) (by kernel_rfl) (show(_:Nat)≤_ from by show(_:Nat)≤_;simp[Tryd.f21]) ?_
  simp(maxSteps:=2000000) (disch:=omega)only[W_region,W_drawn,W_seq,seqQ_normal2,WL_nil2,WL_cons,execL_val2,putL_some2,wantedA,exec1,evalO,initT,T.get_set,T.get_leaf,ofOptS,reduceLT,reduceAdd,if_true,true_and,Option.getD_some,nb_next,st0_next,noTup_agg,cells_agg,cells_agg,initT,em_P,yaN,nb_next,Tryd.f21]
  refine WD_by [(0,true),(1,true),(3,true),(4,true),(6,true),(7,true),(2,true),(7,false),(4,false),(9,true),(5,true),(7,false),(8,true),(10,true),(11,true),(12,true),(13,true),(14,true)] (by kernel_rfl) (by kernel_rfl) ?_
  simp(maxSteps:=2000000) (disch:=omega)only[wantedA,exec1,evalO,T.get_set,T.get_leaf,callA,mapO,ofOpt,reduceLT,reduceAdd,reduceEqDiff,if_true,if_false,true_and,List.getElem?_toArray,List.getElem?_cons_succ,List.getElem?_cons_zero,List.nil_append,List.append_nil,Bool.false_eq_true,WR_op,execR_val2,execR_enter2,putRW_some2,rsOf,nb_get,nb_next,st0_get,st0_next,cl1_box,Nat.zero_add,List.getElem?_cons_succ,em_P,yfN_2,yfN_3,yfN_4,yl34,nb_get,nb_next,hf2]
  refine hc1 _ _ ?_
  simp(maxSteps:=2000000) (disch:=omega)only[wantedA,exec1,evalO,T.get_set,T.get_leaf,callA,mapO,ofOpt,reduceLT,reduceAdd,reduceEqDiff,if_true,if_false,true_and,List.getElem?_cons_succ,List.getElem?_cons_zero,List.nil_append,List.append_nil,WR_op,WR_re2,execR_val2,execR_enter2,putRW_some2,retRW_ret2,againO,lookV,nb_get,nb_next,st0_get,st0_next,cl1_box,Nat.zero_add,List.getElem?_cons_succ,em_P,yfN_2,yl34,nb_get,nb_next,hf2,hb2,hb3]
  refine hc2 _ _ ?_
  simp(maxSteps:=2000000) (disch:=omega)only[wantedA,exec1,evalO,T.get_set,T.get_leaf,callA,mapO,ofOpt,reduceLT,reduceAdd,reduceEqDiff,if_true,if_false,true_and,List.getElem?_cons_succ,List.getElem?_cons_zero,List.nil_append,List.append_nil,WR_op,WR_re2,execR_enter2,putRW_some2,retRW_ret2,againO,lookV,nb_get,nb_next,st0_get,st0_next,cl1_box,List.getElem?_cons_succ,em_P,yl34,nb_get,nb_next,hf2,hb3]
  refine hc3 _ _ ?_
  simp(maxSteps:=2000000) (disch:=omega)only[W_region,W_seq,seqQ_normal2,WL_cons,execL_val2,execL_enter2,putL_some2,wantedA,exec1,evalO,T.get_set,T.get_leaf,callA,mapO,ofOpt,reduceLT,reduceAdd,reduceEqDiff,if_true,if_false,true_and,List.getElem?_cons_succ,List.getElem?_cons_zero,List.nil_append,List.append_nil,WR_nil2,WR_op,execR_val2,execR_skip2,putRW_none2,putRW_some2,retRW_ret2,fixQ_normal2,to_get,nb_get,nb_next,st0_get,st0_next,cl1_box,vstB_s,List.length_cons,List.length_nil,Nat.zero_add,reduceLeDiff,List.drop_zero,List.drop_succ_cons,List.take_succ_cons,List.take_zero,List.cons_append,List.getElem?_cons_succ,em_P,yfN_3,yfN_4,yfN_5,yl35,ys34x,to_get,nb_get,nb_next,hf1]
  refine WC.mono (hcl _) ?_
  rintro _ rfl
  simp(maxSteps:=2000000) (disch:=omega)only[W_region,W_seq,W_block,W_loop,seqQ_normal2,WL_nil2,WL_cons,execL_val2,execL_skip2,putL_none2,putL_some2,retL_ret2,wantedA,exec1,evalO,T.get_set,T.get_leaf,callA,ofOpt,ofConst,reduceLT,reduceAdd,reduceEqDiff,if_true,if_false,true_and,List.getElem?_cons_succ,List.getElem?_cons_zero,List.nil_append,to_get,nb_get,nb_next,st0_get,st0_next,cl1_box,vstB_n,List.length_cons,List.length_nil,Nat.zero_add,reduceLeDiff,List.drop_succ_cons,List.drop_nil,List.take_succ_cons,List.take_zero,List.cons_append,List.getElem?_cons_succ,em_P,yfN_5,yl35,ys35x,to_get,nb_get,nb_next,hln]
  refine WX_loop (W_sound ?_)
  simp(maxSteps:=2000000) (disch:=omega)only[thenW_exit,W_skip,W_region,W_seq,W_cond,W_block,W_exit,W_ret,seqQ_normal2,seqQ_exit2,blockW_exit2,WL_nil2,WL_cons,execL_val2,execL_skip2,putL_none2,putL_some2,condW_f2,wantedA,exec1,evalO,T.get_set,T.get_leaf,ofOpt,neNil3,finW_ret,giveW,resultsA,tupA,fb_lss,reduceLT,reduceAdd,reduceEqDiff,if_true,if_false,true_and,List.nil_append,List.append_nil,Bool.false_eq_true,to_get,nb_get,nb_next,st0_get,st0_next,clN_box,vstB_agg,List.length_cons,List.length_nil,Nat.zero_add,reduceLeDiff,List.drop_zero,List.drop_succ_cons,List.drop_nil,List.take_succ_cons,List.take_zero,and_self,neNil3,clN_box,em_P,ylN,ysN,to_get,nb_get,nb_next,hlt]
  exact fin0 _
 ·obtain⟨x,r,hkr⟩:∃x r,n.eqs=x :: r:=by
   cases h:n.eqs with
   |nil=>exact absurd h hk
   |cons x r=>exact⟨x,r,rfl⟩
  have hrow:eqRow n.eqs=.sl 0 0 8 (n.eqs.map eqX):=by rw[hkr];rfl
  have hlen:(n.eqs.map eqX).length=n.eqs.length:=List.length_map ..
  have hcl:∀S,WC EM 38 [.sl 0 0 8 (n.eqs.map eqX)] S (fun rr=>rr=.ret (.bs S.next 0 n.eqs.length 8) (S.newBox (flat (n.eqs.map eqX)))):=fun S=>by
   have:=clone38b S 0 0 (eqX x) (r.map eqX) (by rw[← List.map_cons,← hkr,hlen];omega)
   rw[← List.map_cons,← hkr,hlen]at this
   exact this
  rw[hrow]at fin hfr ⊢
  have fin1:∀S',S'.mem.get 4=some (.box (flat (n.eqs.map eqX)))→∃a S'' c,R.ret (.agg [strS n.name,i64A n.at_,.sl 0 0 6 (n.ins.map dcA),.sl 0 0 6 (n.outs.map dcA),.sl 0 0 6 (n.vars.map dcA),.bs 4 0 n.eqs.length 8]) S' = R.ret a S''∧Frz S'' a c∧SpecZ 21 [.agg [strS n.name,i64A n.at_,.sl 0 0 6 (n.ins.map dcA),.sl 0 0 6 (n.outs.map dcA),.sl 0 0 6 (n.vars.map dcA),.sl 0 0 8 (n.eqs.map eqX)]] c:=fun S' hm=>fin _ S' ⟨fun base w0 w γ γ2 HF u hu=>by
   have hbs:∀u,VR γ w (.bs 4 0 n.eqs.length 8) u→VR γ2 w (.sl 0 0 8 (n.eqs.map eqX)) u:=fun u hu=>by
    rw[← hlen]at hu
    exact bs_fz HF hm (fun x hx=>⟨(eqL_fl n.eqs x hx).1,(eqL_fl n.eqs x hx).2.1⟩) (eqL_cells n.eqs) (fun x hx=>(eqL_fl n.eqs x hx).2.2) hu
   have hds:∀(l:List PDc) u,VR γ w (.sl 0 0 6 (l.map dcA)) u→VR γ2 w (.sl 0 0 6 (l.map dcA)) u:=fun l u hu=>by
    have:=hu.clean (fun b o h=>HF.im b o h) (dc_free l).1
    rw[show clean (.sl 0 0 6 (l.map dcA))=.sl 0 0 6 (cleanL (l.map dcA)) from rfl,(dc_free l).2]at this
    exact this
   cases hu with
   |agg _ y hy h1 hr =>
    refine .agg _ y hy (fun z hz=>?_) (fun j hj hj'=>?_)
    ·simp only[List.mem_cons,List.not_mem_nil,or_false]at hz
     rcases hz with rfl |rfl |rfl |rfl |rfl |rfl <;> rfl
    ·have hj6:j<6:=hj
     have hrj:=hr j hj hj'
     match j,hj6 with
     |0,_=>exact vr_v _ _ hrj
     |1,_=>exact vr_v _ _ hrj
     |2,_=>exact hds _ _ hrj
     |3,_=>exact hds _ _ hrj
     |4,_=>exact hds _ _ hrj
     |5,_=>exact hbs _ hrj,hfr.1,hfr.2⟩
  have lp:=fun z3 t S=>cn_lp (x0:=strS n.name) (x1:=i64A n.at_) (x2:=.sl 0 0 6 (n.ins.map dcA)) (x3:=.sl 0 0 6 (n.outs.map dcA)) (x4:=.sl 0 0 6 (n.vars.map dcA)) (z3:=z3) hoq (by omega) n.eqs.length 0 t S (by omega)
  unfold cnLB at lp
  simp only[Tryd.f21]at lp
  have hlx:∀S,oLen Tryd.prog S 35 (.bs 4 0 n.eqs.length 8)=some n.eqs.length:=fun S=>nM35 S 4 n.eqs.length
  clear fin hfr hlen hrow
  generalize flat (n.eqs.map eqX)=fl at *
  generalize n.eqs.map eqX=xl at *
  generalize n.ins.map dcA=a1 at *
  generalize n.outs.map dcA=a2 at *
  generalize n.vars.map dcA=a3 at *
  simp only[strS,i64A]at *
  refine bodyM Tryd.f21 (by kernel_rfl) (by kernel_rfl) (show(_:Nat)≤_ from by show(_:Nat)≤_;simp[Tryd.f21]) ?_
  simp(maxSteps:=2000000) (disch:=omega)only[W_region,W_drawn,W_seq,seqQ_normal2,WL_nil2,WL_cons,execL_val2,putL_some2,wantedA,exec1,evalO,initT,T.get_set,T.get_leaf,ofOptS,reduceLT,reduceAdd,if_true,true_and,Option.getD_some,nb_next,st0_next,noTup_agg,cells_agg,cells_agg,initT,em_P,yaN,nb_next,Tryd.f21]
  refine WD_by [(0,true),(1,true),(3,true),(4,true),(6,true),(7,true),(2,true),(7,false),(4,false),(9,true),(5,true),(7,false),(8,true),(10,true),(11,true),(12,true),(13,true),(14,true)] (by kernel_rfl) (by kernel_rfl) ?_
  simp(maxSteps:=2000000) (disch:=omega)only[wantedA,exec1,evalO,T.get_set,T.get_leaf,callA,mapO,ofOpt,reduceLT,reduceAdd,reduceEqDiff,if_true,if_false,true_and,List.getElem?_toArray,List.getElem?_cons_succ,List.getElem?_cons_zero,List.nil_append,List.append_nil,Bool.false_eq_true,WR_op,execR_val2,execR_enter2,putRW_some2,rsOf,nb_get,nb_next,st0_get,st0_next,cl1_box,Nat.zero_add,List.getElem?_cons_succ,em_P,yfN_2,yfN_3,yfN_4,yl34,nb_get,nb_next,hf2]
  refine hc1 _ _ ?_
  simp(maxSteps:=2000000) (disch:=omega)only[wantedA,exec1,evalO,T.get_set,T.get_leaf,callA,mapO,ofOpt,reduceLT,reduceAdd,reduceEqDiff,if_true,if_false,true_and,List.getElem?_cons_succ,List.getElem?_cons_zero,List.nil_append,List.append_nil,WR_op,WR_re2,execR_val2,execR_enter2,putRW_some2,retRW_ret2,againO,lookV,nb_get,nb_next,st0_get,st0_next,cl1_box,Nat.zero_add,List.getElem?_cons_succ,em_P,yfN_2,yl34,nb_get,nb_next,hf2,hb2,hb3]
  refine hc2 _ _ ?_
  simp(maxSteps:=2000000) (disch:=omega)only[wantedA,exec1,evalO,T.get_set,T.get_leaf,callA,mapO,ofOpt,reduceLT,reduceAdd,reduceEqDiff,if_true,if_false,true_and,List.getElem?_cons_succ,List.getElem?_cons_zero,List.nil_append,List.append_nil,WR_op,WR_re2,execR_enter2,putRW_some2,retRW_ret2,againO,lookV,nb_get,nb_next,st0_get,st0_next,cl1_box,List.getElem?_cons_succ,em_P,yl34,nb_get,nb_next,hf2,hb3]
  refine hc3 _ _ ?_
  simp(maxSteps:=2000000) (disch:=omega)only[W_region,W_seq,seqQ_normal2,WL_cons,execL_val2,execL_enter2,putL_some2,wantedA,exec1,evalO,T.get_set,T.get_leaf,callA,mapO,ofOpt,reduceLT,reduceAdd,reduceEqDiff,if_true,if_false,true_and,List.getElem?_cons_succ,List.getElem?_cons_zero,List.nil_append,List.append_nil,WR_nil2,WR_op,execR_val2,execR_skip2,putRW_none2,putRW_some2,retRW_ret2,fixQ_normal2,to_get,nb_get,nb_next,st0_get,st0_next,cl1_box,vstB_s,List.length_cons,List.length_nil,Nat.zero_add,reduceLeDiff,List.drop_zero,List.drop_succ_cons,List.take_succ_cons,List.take_zero,List.cons_append,List.getElem?_cons_succ,em_P,yfN_3,yfN_4,yfN_5,yl35,ys34x,to_get,nb_get,nb_next,hf1]
  refine WC.mono (hcl _) ?_
  rintro _ rfl
  simp(maxSteps:=2000000) (disch:=omega)only[W_region,W_seq,W_block,W_loop,seqQ_normal2,WL_nil2,WL_cons,execL_val2,execL_skip2,putL_none2,putL_some2,retL_ret2,wantedA,exec1,evalO,T.get_set,T.get_leaf,callA,ofOpt,ofConst,reduceLT,reduceAdd,reduceEqDiff,if_true,if_false,true_and,List.getElem?_cons_succ,List.getElem?_cons_zero,List.nil_append,to_get,nb_get,to_next,nb_next,st0_get,st0_next,cl1_box,List.length_cons,List.length_nil,Nat.zero_add,reduceLeDiff,List.drop_succ_cons,List.drop_nil,List.take_succ_cons,List.take_zero,List.cons_append,List.getElem?_cons_succ,em_P,yfN_5,yl35,ys35x,vstB_bs,to_get,nb_get,to_next,nb_next,hlx]
  refine WX.mono (lp [.v (.string ⟨⟨[]⟩⟩),.v (.int .i64 0),.nils,.nils,.nils,.nils] _ _ ?_ ?_ ?_ ?_ ?_ ?_ ?_ ?_ ?_) ?_
  ·simp only[to_next,nb_next,st0_next];omega
  ·simp only[to_get,nb_get,to_next,nb_next,st0_next,reduceAdd,reduceEqDiff,if_true,if_false] <;> rfl
  ·simp only[to_get,nb_get,to_next,nb_next,st0_next,reduceAdd,reduceEqDiff,if_true,if_false] <;> rfl
  ·simp only[to_get,nb_get,to_next,nb_next,st0_next,reduceAdd,reduceEqDiff,if_true,if_false] <;> rfl
  ·simp only[T.get_set,T.get_leaf,reduceEqDiff,if_true,if_false] <;> rfl
  ·simp only[T.get_set,T.get_leaf,reduceEqDiff,if_true,if_false] <;> rfl
  ·simp only[T.get_set,T.get_leaf,reduceEqDiff,if_true,if_false] <;> rfl
  ·simp only[T.get_set,T.get_leaf,reduceEqDiff,if_true,if_false] <;> rfl
  ·simp only[T.get_set,T.get_leaf,reduceEqDiff,if_true,if_false] <;> rfl
  rintro _ ⟨t',S',rfl,hn',m2,m3,m4,T1,T2⟩
  clear lp
  simp(maxSteps:=2000000) (disch:=omega)only[W_region,W_seq,W_ret,seqQ_normal2,seqQ_exit2,blockW_exit2,WL_nil2,WL_cons,execL_val2,execL_skip2,putL_none2,putL_some2,wantedA,exec1,evalO,T.get_set,ofOpt,finW_ret,giveW,resultsA,tupA,reduceLT,reduceAdd,reduceEqDiff,if_true,if_false,true_and,List.nil_append,List.append_nil,to_get,clN_box,vstB_agg,List.length_cons,List.length_nil,Nat.zero_add,reduceLeDiff,List.drop_zero,List.drop_succ_cons,List.drop_nil,List.take_succ_cons,List.take_zero,and_self,clN_box,em_P,ylN,ysN,to_get,T1,T2,m2,m3]
  refine fin1 _ ?_
  simp only[to_get,reduceEqDiff,if_false]
  exact m4
theorem cn_u{n:NdX}(hn:okNd n){S:St}{Q:R→Prop}(h:Q (.ret (ndA n) S)):WC EZ 21 [ndA n] S Q :=
 callZ (args':=[ndA n]) (cn_k n hn) (by kernel_rfl) (by show(freeV (ndA n) && true)=true;rw[(ndA_fr n).1];rfl) (by show [clean (ndA n)]=_;rw[(ndA_fr n).2]) fun x _ _ hs=>by
  have:=hs n rfl hn
  subst this
  exact h
end Go.Ax
noncomputable section
open Nat (reduceLT reduceEqDiff)
namespace Go.Ax
open Go.RowKit Go.Proofs
set_option maxRecDepth 100000
theorem yuW:Tryd.prog.underlying 29=some (.slice 37):=by kernel_rfl
theorem yeW:elemT Tryd.prog 29=some (none,37):=by kernel_rfl
theorem yzeW:sizeT Tryd.prog 37=some 6:=by kernel_rfl
theorem yiW:(Tryd.prog.info? 37).map (fun i=>(i.zero.map fun z=>z.cells.size,i.size,decide (i.bytes≤1000)))=some (some 6,6,true):=by kernel_rfl
theorem ytW:∃bytes,RowT Tryd.prog 29 37 6 bytes:=rowT_of yeW yuW yiW (by decide)
theorem yrW_0:oBuildSlice Tryd.prog 29 0 []=some (.sl 1 0 6 []):=by kernel_rfl
theorem ynW(S:St)(tok off:Nat)(es:List AV):oLen Tryd.prog S 29 (.sl tok off 6 es)=some es.length:=by simp[oLen,yuW]
theorem yxW(tok off:Nat)(es:List AV)(i:Nat)(h:i<es.length):oIndexAddr Tryd.prog 29 (.sl tok off 6 es) (.v (.int .i64 (i:Int)))=some (.ep es[i].cells):=by
 have h0:(0:Int)≤(i:Int):=by omega
 simp[oIndexAddr,h0,yeW,yzeW,h]
theorem findX_hit{s:List UInt8}:∀{l:List NdX} {j:Nat} (h:j<l.length),(∀i (hi:i<l.length),i<j→l[i].name≠s)→l[j].name=s→findX s l=some (l[j],j)
 |n :: r,0,h,_,e=>by
  unfold findX
  rw[if_pos (show n.name=s from e)];rfl
 |n :: r,j+1,h,hp,e=>by
  have h0:n.name≠s:=hp 0 (by simp) (by omega)
  have h':j<r.length:=by simpa using h
  have ih:=findX_hit (s:=s) h' (fun i hi hij=>hp (i+1) (by simpa using hi) (by omega)) e
  unfold findX
  rw[if_neg h0,ih];rfl
theorem findX_miss{s:List UInt8}:∀{l:List NdX},(∀i (hi:i<l.length),l[i].name≠s)→findX s l=none
 | [],_=>rfl
 |n :: r,hp=>by
  have h0:n.name≠s:=hp 0 (by simp)
  have ih:=findX_miss (s:=s) (l:=r) (fun i hi=>hp (i+1) (by simpa using hi))
  unfold findX
  rw[if_neg h0,ih];rfl
theorem findD_hit{s:List UInt8}:∀{l:List PDc} {j:Nat} (h:j<l.length),(∀i (hi:i<l.length),i<j→l[i].name≠s)→l[j].name=s→findD s l=some (l[j],j)
 |n :: r,0,h,_,e=>by
  unfold findD
  rw[if_pos (show n.name=s from e)];rfl
 |n :: r,j+1,h,hp,e=>by
  have h0:n.name≠s:=hp 0 (by simp) (by omega)
  have h':j<r.length:=by simpa using h
  have ih:=findD_hit (s:=s) h' (fun i hi hij=>hp (i+1) (by simpa using hi) (by omega)) e
  unfold findD
  rw[if_neg h0,ih];rfl
theorem findD_miss{s:List UInt8}:∀{l:List PDc},(∀i (hi:i<l.length),l[i].name≠s)→findD s l=none
 | [],_=>rfl
 |n :: r,hp=>by
  have h0:n.name≠s:=hp 0 (by simp)
  have ih:=findD_miss (s:=s) (l:=r) (fun i hi=>hp (i+1) (by simpa using hi))
  unfold findD
  rw[if_neg h0,ih];rfl
theorem findD_app1{s:List UInt8}{d:PDc}{i:Nat}:∀{l m:List PDc},findD s l=some (d,i)→findD s (l ++ m)=some (d,i)
 | [],_,h=>by cases h
 |n :: r,m,h=>by
  show(if n.name=s then some (n,0)else(findD s (r ++ m)).map fun x=>(x.1,x.2+1))=_
  unfold findD at h
  by_cases hn:n.name=s
  ·rw[if_pos hn]at h ⊢;exact h
  ·rw[if_neg hn]at h ⊢
   cases hr:findD s r with
   |none=>rw[hr]at h;cases h
   |some x =>
    obtain⟨d',i'⟩:=x
    rw[findD_app1 hr]
    rw[hr]at h;exact h
theorem findD_app2{s:List UInt8}:∀{l m:List PDc},findD s l=none→findD s (l ++ m)=(findD s m).map fun x=>(x.1,x.2+l.length)
 | [],m,_=>by cases h:findD s m <;> simp[h]
 |n :: r,m,h=>by
  show(if n.name=s then some (n,0)else(findD s (r ++ m)).map fun x=>(x.1,x.2+1))=_
  unfold findD at h
  by_cases hn:n.name=s
  ·rw[if_pos hn]at h;cases h
  ·rw[if_neg hn]at h ⊢
   have hr:findD s r=none:=by cases hr:findD s r with
    |none=>rfl
    |some x=>rw[hr]at h;cases h
   rw[findD_app2 hr]
   cases findD s m <;> simp[Nat.add_assoc]
theorem ndL_fr:∀l:List NdX,freeL (l.map ndA)=true∧cleanL (l.map ndA)=l.map ndA
 | []=>⟨rfl,rfl⟩
 |x :: r=>by
  obtain⟨h1,h2⟩:=ndL_fr r
  obtain⟨h3,h4⟩:=ndA_fr x
  exact⟨by show(freeV (ndA x) && freeL (r.map ndA))=true;rw[h1,h3];rfl,by show clean (ndA x) :: cleanL (r.map ndA)=_;rw[h2,h4];rfl⟩
theorem ndRow_fr(l:List NdX):freeV (ndRow l)=true∧clean (ndRow l)=ndRow l:=⟨(ndL_fr l).1,by show AV.sl 0 0 6 (cleanL _)=_;rw[(ndL_fr l).2];rfl⟩
theorem eqX_inj{p q:EqX}(h:eqX p=eqX q):p=q:=by
 obtain⟨l,bo,e⟩:=p
 obtain⟨l',bo',e'⟩:=q
 unfold eqX at h
 simp only[AV.agg.injEq,List.cons.injEq,AV.sl.injEq,true_and,AV.v.injEq,Value.bool.injEq]at h
 obtain⟨h1,h2,h3⟩:=h
 have he:exA e=exA e':=by
  obtain⟨c0,c1,c2,c3,c4,c5,hagg⟩:=ex_agg e
  obtain⟨d0,d1,d2,d3,d4,d5,hagg'⟩:=ex_agg e'
  rw[hagg,hagg']at h3 ⊢
  rw[show AV.cells (.agg [c0,c1,c2,c3,c4,c5])=[c0,c1,c2,c3,c4,c5] from rfl,show AV.cells (.agg [d0,d1,d2,d3,d4,d5])=[d0,d1,d2,d3,d4,d5] from rfl]at h3
  rw[h3]
 rw[lfL_inj h1,h2,exA_inj _ _ he]
theorem eqL_inj:∀{x y:List EqX},x.map eqX=y.map eqX→x=y
 | [],[],_=>rfl
 | [],_ :: _,h=>by cases h
 |_ :: _,[],h=>by cases h
 |a :: x,c :: y,h=>by
  simp only[List.map_cons,List.cons.injEq]at h
  rw[eqX_inj h.1,eqL_inj h.2]
theorem eqRow_inj{x y:List EqX}(h:eqRow x=eqRow y):x=y:=by
 cases x with
 |nil=>cases y with
  |nil=>rfl
  |cons a r=>cases h
 |cons a r=>cases y with
  |nil=>cases h
  |cons c s=>injection h with _ _ _ h;exact eqL_inj h
theorem ndA_inj{n m:NdX}(h:ndA n=ndA m):n=m:=by
 obtain⟨nm,at0,l1,l2,l3,q⟩:=n
 obtain⟨nm',at0',m1,m2,m3,q'⟩:=m
 unfold ndA ndC at h
 simp only[AV.agg.injEq,List.cons.injEq,AV.sl.injEq,and_true,true_and]at h
 obtain⟨h0,h9,h1,h2,h3,h4⟩:=h
 unfold i64A at h9
 simp only[AV.v.injEq,Value.int.injEq,true_and]at h9
 rw[str_inj h0,h9,dcL_inj h1,dcL_inj h2,dcL_inj h3,eqRow_inj h4]
theorem ndRow_inj{x y:List NdX}(h:ndRow x=ndRow y):x=y:=by
 have hl:∀{x y:List NdX},x.map ndA=y.map ndA→x=y:=fun {x}=>by
  induction x with
  |nil =>
   intro y h
   cases y with
   |nil=>rfl
   |cons a r=>cases h
  |cons a r ih =>
   intro y h
   cases y with
   |nil=>cases h
   |cons c s =>
    simp only[List.map_cons,List.cons.injEq]at h
    rw[ndA_inj h.1,ih h.2]
 injection h with _ _ _ h
 exact hl h
def rfLB:Code:=match Tryd.f10.body with
 |some (.seq _ (.seq (.seq _ (.block _ (.loop c))) _))=>c
 |_=>.skip
theorem rf_lp{l:List NdX}{s:List UInt8}(hl:l.length≤3):∀(n j:Nat) (t:T AV) (S:St),j+n=l.length→(∀i (hi:i<l.length),i<j→l[i].name≠s)→t.get 1=some (.v (.string ⟨⟨s⟩⟩))→t.get 7=some (.sl 0 0 6 (l.map ndA))→t.get 8=some (.v (.int .i64 ((l.length:Nat):Int)))→t.get 9=some (.v (.int .i64 ((j:Nat):Int))) →
  WX EZ 20 (.loop rfLB) ⟨t,[]⟩ S (fun r=>(∃t' S',r=.out (.exit 0) ⟨t',[]⟩ S'∧findX s l=none)∨∃t' S' n i,r=.out .ret ⟨t',[]⟩ S'∧findX s l=some (n,i)∧t'.get 4=some (.v (.int .i64 ((i:Nat):Int))))
 |0,j,t,S,hj,hp,T1,T7,T8,T9=>by
  refine WX_loop (W_sound ?_)
  have hlt:decide ((j:Int)<(l.length:Int))=false:=by rw[decide_eq_false_iff_not];omega
  simp(maxSteps:=2000000) (disch:=omega)only[thenW_exit,W_skip,W_region,W_seq,W_cond,W_block,W_exit,seqQ_normal2,seqQ_exit2,WL_nil2,WL_cons,execL_val2,putL_some2,condW_f2,wantedA,exec1,evalO,T.get_set,ofOpt,neNil3,fb_lss,reduceLT,reduceEqDiff,if_true,if_false,true_and,Bool.false_eq_true,ez_P,neNil3,Int.reduceNeg,rfLB,Tryd.f10,T7,T8,T9,hlt]
  exact .inl ⟨_,_,rfl,findX_miss fun i hi=>hp i hi (by omega)⟩
 |n+1,j,t,S,hj,hp,T1,T7,T8,T9=>by
  refine WX_loop (W_sound ?_)
  have hjl:j<l.length:=by omega
  have hlt:decide ((j:Int)<(l.length:Int))=true:=by rw[decide_eq_true_eq];omega
  have hws:=wrapS j (by omega)
  have hx:=yxNr 0 0 (l.map ndA) j (by rw[List.length_map];exact hjl)
  rw[List.getElem_map]at hx
  have hc:(ndA l[j]).cells=[.v (.string ⟨⟨l[j].name⟩⟩),.v (.int .i64 l[j].at_),.sl 0 0 6 (l[j].ins.map dcA),.sl 0 0 6 (l[j].outs.map dcA),.sl 0 0 6 (l[j].vars.map dcA),eqRow l[j].eqs]:=rfl
  rw[hc]at hx
  clear hc
  have hhit:=fun e=>findX_hit (s:=s) hjl (fun i hi hij=>hp i hi hij) e
  have fin:=fun(h:l[j].name≠s) (t':T AV) (S':St)=>rf_lp (s:=s) hl n (j+1) t' S' (by omega) (fun i hi hij=>by
   by_cases hij':i=j
   ·subst hij';exact h
   ·exact hp i hi (by omega))
  generalize l[j].ins.map dcA=a1 at *
  generalize l[j].outs.map dcA=a2 at *
  generalize l[j].vars.map dcA=a3 at *
  generalize eqRow l[j].eqs=a4 at *
  generalize l.map ndA=lw at *
  by_cases he:l[j].name=s
  ·have hne:decide (l[j].name=s)=true:=decide_eq_true he
   have hh:=hhit he
   generalize l[j].name=nm at *
   generalize l[j].at_=ap at *
   simp(maxSteps:=2000000) (disch:=omega)only[thenW_normal,thenW_exit,thenW_ret,W_skip,W_region,W_seq,W_cond,W_block,W_exit,W_ret,seqQ_normal2,seqQ_exit2,seqQ_ret2,blockW_normal2,blockW_ret2,WL_nil2,WL_cons,execL_val2,execL_skip2,putL_none2,putL_some2,condW_t2,wantedA,exec1,evalO,T.get_set,ofOpt,ofOptS,ofConst,neNil3,fb_lss,fb_add,fb_eqS,neNil9,reduceLT,Nat.reduceAdd,reduceEqDiff,if_true,if_false,true_and,List.getElem?_cons_zero,List.nil_append,List.append_nil,Bool.false_eq_true,to_get,nb_get,cl1_box,vstB_agg,List.length_cons,List.length_nil,Nat.zero_add,Nat.add_zero,Nat.reduceLeDiff,List.drop_succ_cons,List.drop_nil,List.take_succ_cons,List.take_zero,and_self,ez_P,neNil3,neNil9,yl9,Int.reduceNeg,yleMr,ysMr,yaMr,yfMr_0,to_get,nb_get,fb_eqS,rfLB,Tryd.f10,T1,T7,T8,T9,hlt,hx,hne,hws]
   exact .inr ⟨_,_,_,_,rfl,hh,by simp only[T.get_set,reduceEqDiff,if_true,if_false]⟩
  ·have hne:decide (l[j].name=s)=false:=decide_eq_false he
   have fin2:=fin he
   clear fin
   generalize l[j].name=nm at *
   generalize l[j].at_=ap at *
   simp(maxSteps:=2000000) (disch:=omega)only[thenW_normal,thenW_exit,thenW_ret,W_skip,W_region,W_seq,W_cond,W_block,W_exit,W_ret,seqQ_normal2,seqQ_exit2,seqQ_ret2,blockW_normal2,blockW_ret2,WL_nil2,WL_cons,execL_val2,execL_skip2,putL_none2,putL_some2,condW_t2,condW_f2,wantedA,exec1,evalO,T.get_set,ofOpt,ofOptS,ofConst,neNil3,fb_lss,fb_add,fb_eqS,neNil9,reduceLT,Nat.reduceAdd,reduceEqDiff,if_true,if_false,true_and,List.getElem?_cons_zero,List.nil_append,List.append_nil,Bool.false_eq_true,to_get,nb_get,cl1_box,vstB_agg,List.length_cons,List.length_nil,Nat.zero_add,Nat.add_zero,Nat.reduceLeDiff,List.drop_succ_cons,List.drop_nil,List.take_succ_cons,List.take_zero,and_self,ez_P,neNil3,neNil9,yl9,Int.reduceNeg,yleMr,ysMr,yaMr,yfMr_0,to_get,nb_get,fb_eqS,rfLB,Tryd.f10,T1,T7,T8,T9,hlt,hx,hne,hws]
   refine fin2 _ _ ?_ ?_ ?_ ?_
   ·simp only[T.get_set,reduceEqDiff,if_false,T1]
   ·simp only[T.get_set,reduceEqDiff,if_false,T7]
   ·simp only[T.get_set,reduceEqDiff,if_false,T8]
   ·simp only[T.get_set,reduceEqDiff,if_true,if_false]
theorem rfind_k(l:List NdX)(s:List UInt8)(hl:l.length≤3):KnZ 10 [ndRow l,strS s]:=by
 have fin:∀(x:Int) (S':St),(.v (.int .i64 x):AV)=(match findX s l with |some (_,i)=>i64A ((i:Nat):Int) |none=>i64A (-1))→∃a S'',R.ret (.v (.int .i64 x)) S' = R.ret a S''∧freeV a=true∧SpecZ 10 [ndRow l,strS s] (clean a):=fun x S' h=>by
  refine⟨_,_,rfl,rfl,?_⟩
  intro l' s' q _ _
  simp only[List.cons.injEq,and_true]at q
  rw[← ndRow_inj q.1,← str_inj q.2]
  exact h
 have lp:=fun t S=>rf_lp (s:=s) hl l.length 0 t S (by omega) (fun i _ h=>absurd h (Nat.not_lt_zero _))
 unfold rfLB at lp
 simp only[Tryd.f10]at lp
 have hln:∀S,oLen Tryd.prog S 22 (.sl 0 0 6 (l.map ndA))=some l.length:=fun S=>by rw[ynNr,List.length_map]
 unfold ndRow at fin ⊢
 generalize l.map ndA=lw at *
 simp only[strS,i64A]at fin ⊢
 refine bodyZ Tryd.f10 (by kernel_rfl) (by kernel_rfl) (show(_:Nat)≤_ from by show(_:Nat)≤_;simp[Tryd.f10]) ?_
 simp(maxSteps:=2000000) (disch:=omega)only[W_region,W_seq,W_block,W_loop,seqQ_normal2,WL_nil2,WL_cons,execL_val2,putL_some2,wantedA,exec1,evalO,initT,T.get_set,T.get_leaf,callA,ofOpt,ofConst,reduceLT,reduceEqDiff,if_true,if_false,true_and,Option.getD_some,Nat.zero_add,ez_P,initT,Int.reduceNeg,Tryd.f10,hln]
 refine WX.mono (lp _ _ ?_ ?_ ?_ ?_) ?_
 ·simp only[T.get_set,T.get_leaf,reduceEqDiff,if_true,if_false] <;> rfl
 ·simp only[T.get_set,T.get_leaf,reduceEqDiff,if_true,if_false] <;> rfl
 ·simp only[T.get_set,T.get_leaf,reduceEqDiff,if_true,if_false] <;> rfl
 ·simp only[T.get_set,T.get_leaf,reduceEqDiff,if_true,if_false] <;> rfl
 rintro _ (⟨t',S',rfl,hf⟩ | ⟨t',S',nn,i,rfl,hf,T4⟩)
 ·rw[hf]at fin
  simp(maxSteps:=2000000) (disch:=omega)only[W_region,W_seq,W_ret,seqQ_normal2,seqQ_exit2,blockW_exit2,WL_nil2,WL_cons,execL_val2,putL_some2,wantedA,exec1,evalO,T.get_set,ofOpt,ofConst,finW_ret,giveW,resultsA,tupA,reduceLT,if_true,true_and,Int.reduceNeg]
  exact fin _ _ rfl
 ·rw[hf]at fin
  simp(maxSteps:=2000000) (disch:=omega)only[seqQ_ret2,blockW_ret2,finW_ret,giveW,resultsA,tupA,Int.reduceNeg,T4]
  exact fin _ _ rfl
end Go.Ax
