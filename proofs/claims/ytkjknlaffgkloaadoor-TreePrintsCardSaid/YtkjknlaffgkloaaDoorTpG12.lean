/- TtF -/
import Derived.Test.YtkjknlaffgkloaaDoorTpG10
import Derived.Test.YtkjknlaffgkloaaDoorTpG11
set_option linter.unusedVariables false
set_option linter.unusedSimpArgs false
set_option maxHeartbeats 16000000
noncomputable section
open Nat (reduceLT reduceEqDiff)
namespace Go.Ax
open Go.RowKit Go.Proofs
set_option maxRecDepth 100000
theorem when_k(nm:List UInt8)(off:Bool)(hl:nm.length≤30):KnZ 34 [strS nm,.v (.bool off)]:=by
 refine bodyZ Tryd.f34 (by kernel_rfl) (by kernel_rfl) (show(_:Nat)≤_ from by show(_:Nat)≤_;simp[Tryd.f34]) ?_
 have hc1:=fb_catS [32,119,104,101,110,32] nm (by simp only[List.length_cons,List.length_nil];omega)
 have hc2:=fb_catS [32,119,104,101,110,32,110,111,116,32] nm (by simp only[List.length_cons,List.length_nil];omega)
 have fin:∀(x:List UInt8) (S':St),x=whenF nm off→∃a S'',R.ret (.v (.string ⟨⟨x⟩⟩)) S' = R.ret a S''∧freeV a=true∧SpecZ 34 [strS nm,.v (.bool off)] (clean a):=fun x S' h=>by
  refine⟨_,_,rfl,rfl,?_⟩
  intro nm' off' e _
  simp only[List.cons.injEq,and_true,AV.v.injEq,Value.bool.injEq]at e
  rw[← str_inj e.1,← e.2,← h]
  rfl
 unfold strS
 generalize hx1:[32,119,104,101,110,32] ++ nm=x1 at *
 generalize hx2:[32,119,104,101,110,32,110,111,116,32] ++ nm=x2 at *
 cases off
 ·simp(maxSteps:=2000000) (disch:=omega)only[W_skip,W_region,W_seq,W_cond,W_ret,seqQ_normal2,seqQ_ret2,WL_nil2,WL_cons,execL_val2,putL_some2,condW_f2,wantedA,exec1,evalO,initT,T.get_set,T.get_leaf,ofOpt,ofConst,finW_ret,giveW,resultsA,tupA,neNil9,reduceLT,reduceEqDiff,if_true,if_false,true_and,Option.getD_some,Bool.false_eq_true,Nat.zero_add,ez_P,neNil9,initT,Tryd.f34,hc1,hc2]
  exact fin _ _ (by rw[← hx1];rfl)
 ·simp(maxSteps:=2000000) (disch:=omega)only[W_skip,W_region,W_seq,W_cond,W_ret,seqQ_normal2,seqQ_ret2,WL_nil2,WL_cons,execL_val2,putL_some2,condW_t2,wantedA,exec1,evalO,initT,T.get_set,T.get_leaf,ofOpt,ofConst,finW_ret,giveW,resultsA,tupA,neNil9,reduceLT,reduceEqDiff,if_true,if_false,true_and,Option.getD_some,Bool.false_eq_true,Nat.zero_add,ez_P,neNil9,initT,Tryd.f34,hc1,hc2]
  exact fin _ _ (by rw[← hx2];rfl)
theorem when_u{nm:List UInt8}{off:Bool}{S:St}{Q:R→Prop}(hl:nm.length≤30)(h:Q (.ret (strS (whenF nm off)) S)):WC EZ 34 [strS nm,.v (.bool off)] S Q :=
 callZ (when_k nm off hl) (by kernel_rfl) rfl rfl fun a _ _ hs=>by
  have:=hs nm off rfl hl
  subst this
  exact h
theorem ty_k(bb ff:Bool):KnZ 42 [.agg [.v (.bool bb),.v (.bool ff)]]:=by
 refine bodyZ Tryd.f42 (by kernel_rfl) (by kernel_rfl) (show(_:Nat)≤_ from by show(_:Nat)≤_;simp[Tryd.f42]) ?_
 have hc1:=fb_catS [102,117,116,117,114,101,32] [98,111,111,108] (by decide)
 have hc2:=fb_catS [102,117,116,117,114,101,32] [105,110,116] (by decide)
 have fin:∀(x:List UInt8) (S':St),x=typeF bb ff→∃a S'',R.ret (.v (.string ⟨⟨x⟩⟩)) S' = R.ret a S''∧freeV a=true∧SpecZ 42 [.agg [.v (.bool bb),.v (.bool ff)]] (clean a):=fun x S' h=>by
  refine⟨_,_,rfl,rfl,?_⟩
  intro b' f' e
  simp only[List.cons.injEq,and_true,AV.agg.injEq,AV.v.injEq,Value.bool.injEq]at e
  rw[← e.1,← e.2,← h]
  rfl
 cases bb <;> cases ff
 ·simp(maxSteps:=2000000) (disch:=omega)only[W_skip,W_region,W_seq,W_cond,W_ret,seqQ_normal2,seqQ_ret2,WL_nil2,WL_cons,execL_val2,putL_some2,condW_f2,wantedA,exec1,evalO,initT,T.get_set,T.get_leaf,ofOpt,ofConst,finW_ret,giveW,resultsA,tupA,neNil9,reduceLT,reduceEqDiff,if_true,if_false,true_and,Option.getD_some,List.getElem?_cons_succ,List.getElem?_cons_zero,List.nil_append,Bool.false_eq_true,nb_get,st0_get,st0_next,cl1_box,Nat.zero_add,Nat.add_zero,List.cons_append,noTup_agg,cells_agg,ez_P,neNil9,yl4,yfTy_0,yfTy_1,initT,cells_agg,List.getElem?_cons_succ,Tryd.f42,hc1,hc2]
  exact fin _ _ rfl
 ·simp(maxSteps:=2000000) (disch:=omega)only[W_skip,W_region,W_seq,W_cond,W_ret,seqQ_normal2,seqQ_ret2,WL_nil2,WL_cons,execL_val2,putL_some2,condW_t2,condW_f2,wantedA,exec1,evalO,initT,T.get_set,T.get_leaf,ofOpt,ofConst,finW_ret,giveW,resultsA,tupA,neNil9,reduceLT,reduceEqDiff,if_true,if_false,true_and,Option.getD_some,List.getElem?_cons_succ,List.getElem?_cons_zero,List.nil_append,Bool.false_eq_true,nb_get,st0_get,st0_next,cl1_box,Nat.zero_add,Nat.add_zero,List.cons_append,noTup_agg,cells_agg,ez_P,neNil9,yl4,yfTy_0,yfTy_1,initT,cells_agg,List.getElem?_cons_succ,Tryd.f42,hc1,hc2]
  exact fin _ _ rfl
 ·simp(maxSteps:=2000000) (disch:=omega)only[W_skip,W_region,W_seq,W_cond,W_ret,seqQ_normal2,seqQ_ret2,WL_nil2,WL_cons,execL_val2,putL_some2,condW_t2,condW_f2,wantedA,exec1,evalO,initT,T.get_set,T.get_leaf,ofOpt,ofConst,finW_ret,giveW,resultsA,tupA,neNil9,reduceLT,reduceEqDiff,if_true,if_false,true_and,Option.getD_some,List.getElem?_cons_succ,List.getElem?_cons_zero,List.nil_append,Bool.false_eq_true,nb_get,st0_get,st0_next,cl1_box,Nat.zero_add,Nat.add_zero,List.cons_append,noTup_agg,cells_agg,ez_P,neNil9,yl4,yfTy_0,yfTy_1,initT,cells_agg,List.getElem?_cons_succ,Tryd.f42,hc1,hc2]
  exact fin _ _ rfl
 ·simp(maxSteps:=2000000) (disch:=omega)only[W_skip,W_region,W_seq,W_cond,W_ret,seqQ_normal2,seqQ_ret2,WL_nil2,WL_cons,execL_val2,putL_some2,condW_t2,wantedA,exec1,evalO,initT,T.get_set,T.get_leaf,ofOpt,ofConst,finW_ret,giveW,resultsA,tupA,neNil9,reduceLT,reduceEqDiff,if_true,if_false,true_and,Option.getD_some,List.getElem?_cons_succ,List.getElem?_cons_zero,List.nil_append,Bool.false_eq_true,nb_get,st0_get,st0_next,cl1_box,Nat.zero_add,Nat.add_zero,List.cons_append,noTup_agg,cells_agg,ez_P,neNil9,yl4,yfTy_0,yfTy_1,initT,cells_agg,List.getElem?_cons_succ,Tryd.f42,hc1,hc2]
  exact fin _ _ rfl
theorem ty_u{bb ff:Bool}{S:St}{Q:R→Prop}(h:Q (.ret (strS (typeF bb ff)) S)):WC EZ 42 [.agg [.v (.bool bb),.v (.bool ff)]] S Q :=
 callZ (ty_k bb ff) (by kernel_rfl) rfl rfl fun a _ _ hs=>by
  have:=hs bb ff rfl
  subst this
  exact h
theorem rty_k(bb ff:Bool):KnZ 45 [.v (.bool bb),.v (.bool ff)]:=by
 refine bodyZ Tryd.f45 (by kernel_rfl) (by kernel_rfl) (show(_:Nat)≤_ from by show(_:Nat)≤_;simp[Tryd.f45]) ?_
 have hc1:=fb_catS [102,117,116,117,114,101,32] [98,111,111,108] (by decide)
 have hc2:=fb_catS [102,117,116,117,114,101,32] [105,110,116] (by decide)
 have hc3:=fb_catS [] [98,111,111,108] (by decide)
 have hc4:=fb_catS [] [105,110,116] (by decide)
 have fin:∀(x:List UInt8) (S':St),x=typeF bb ff→∃a S'',R.ret (.v (.string ⟨⟨x⟩⟩)) S' = R.ret a S''∧freeV a=true∧SpecZ 45 [.v (.bool bb),.v (.bool ff)] (clean a):=fun x S' h=>by
  refine⟨_,_,rfl,rfl,?_⟩
  intro b' f' e
  simp only[List.cons.injEq,and_true,AV.v.injEq,Value.bool.injEq]at e
  rw[← e.1,← e.2,← h]
  rfl
 cases bb <;> cases ff
 ·simp(maxSteps:=2000000) (disch:=omega)only[W_skip,W_region,W_seq,W_cond,W_ret,seqQ_normal2,seqQ_ret2,WL_nil2,WL_cons,execL_val2,putL_some2,condW_f2,wantedA,exec1,evalO,initT,T.get_set,T.get_leaf,ofOpt,ofConst,finW_ret,giveW,resultsA,tupA,neNil9,reduceLT,reduceEqDiff,if_true,if_false,true_and,Option.getD_some,List.nil_append,Bool.false_eq_true,Nat.zero_add,List.cons_append,ez_P,neNil9,initT,Tryd.f45,hc1,hc2,hc3,hc4]
  exact fin _ _ rfl
 ·simp(maxSteps:=2000000) (disch:=omega)only[W_skip,W_region,W_seq,W_cond,W_ret,seqQ_normal2,seqQ_ret2,WL_nil2,WL_cons,execL_val2,putL_some2,condW_t2,condW_f2,wantedA,exec1,evalO,initT,T.get_set,T.get_leaf,ofOpt,ofConst,finW_ret,giveW,resultsA,tupA,neNil9,reduceLT,reduceEqDiff,if_true,if_false,true_and,Option.getD_some,List.nil_append,Bool.false_eq_true,Nat.zero_add,List.cons_append,ez_P,neNil9,initT,Tryd.f45,hc1,hc2,hc3,hc4]
  exact fin _ _ rfl
 ·simp(maxSteps:=2000000) (disch:=omega)only[W_skip,W_region,W_seq,W_cond,W_ret,seqQ_normal2,seqQ_ret2,WL_nil2,WL_cons,execL_val2,putL_some2,condW_t2,condW_f2,wantedA,exec1,evalO,initT,T.get_set,T.get_leaf,ofOpt,ofConst,finW_ret,giveW,resultsA,tupA,neNil9,reduceLT,reduceEqDiff,if_true,if_false,true_and,Option.getD_some,List.nil_append,Bool.false_eq_true,Nat.zero_add,List.cons_append,ez_P,neNil9,initT,Tryd.f45,hc1,hc2,hc3,hc4]
  exact fin _ _ rfl
 ·simp(maxSteps:=2000000) (disch:=omega)only[W_skip,W_region,W_seq,W_cond,W_ret,seqQ_normal2,seqQ_ret2,WL_nil2,WL_cons,execL_val2,putL_some2,condW_t2,wantedA,exec1,evalO,initT,T.get_set,T.get_leaf,ofOpt,ofConst,finW_ret,giveW,resultsA,tupA,neNil9,reduceLT,reduceEqDiff,if_true,if_false,true_and,Option.getD_some,List.nil_append,Bool.false_eq_true,Nat.zero_add,List.cons_append,ez_P,neNil9,initT,Tryd.f45,hc1,hc2,hc3,hc4]
  exact fin _ _ rfl
theorem rty_u{bb ff:Bool}{S:St}{Q:R→Prop}(h:Q (.ret (strS (typeF bb ff)) S)):WC EZ 45 [.v (.bool bb),.v (.bool ff)] S Q :=
 callZ (rty_k bb ff) (by kernel_rfl) rfl rfl fun a _ _ hs=>by
  have:=hs bb ff rfl
  subst this
  exact h
theorem sp_52:EZ.I 52=none:=by
 show(Bool.rec (Bool.rec (Bool.rec none (some (growI 6)) (Nat.beq 52 50)) (some joinB) (Nat.beq 52 43)) (some (pureG gZ Tryd.prog SpecZ 52)) (knz 52):Option (List AV→St→R))=_
 rw[show knz 52=false from by decide]
 rfl
theorem fnz_52:∃fn,EZ.F 52=some fn:=Option.isSome_iff_exists.1 (by kernel_rfl)
theorem fmtb_w{bb:Bool}{S:St}{Q:R→Prop}(h:Q (.ret (strS (if bb then [116,114,117,101]else [102,97,108,115,101])) S)):WC EZ 52 [.v (.bool bb)] S Q:=by
 refine WC_fn Tryd.f52 sp_52 (by kernel_rfl) (by kernel_rfl) (show(_:Nat)≤_ from by show(_:Nat)≤_;simp[Tryd.f52]) ?_
 cases bb
 ·simp(maxSteps:=2000000) (disch:=omega)only[W_skip,W_region,W_seq,W_cond,W_ret,seqQ_normal2,seqQ_ret2,WL_nil2,WL_cons,execL_val2,putL_some2,condW_f2,wantedA,exec1,evalO,initT,T.get_set,T.get_leaf,ofOpt,ofConst,finW_ret,giveW,resultsA,tupA,reduceLT,reduceEqDiff,if_true,if_false,true_and,Option.getD_some,initT,Tryd.f52]
  exact h
 ·simp(maxSteps:=2000000) (disch:=omega)only[W_skip,W_region,W_seq,W_cond,W_ret,seqQ_normal2,seqQ_ret2,WL_nil2,WL_cons,execL_val2,putL_some2,condW_t2,wantedA,exec1,evalO,initT,T.get_set,T.get_leaf,ofOpt,ofConst,finW_ret,giveW,resultsA,tupA,reduceLT,reduceEqDiff,if_true,if_false,true_and,Option.getD_some,initT,Tryd.f52]
  exact h
theorem fb_k(bb:Bool):KnZ 30 [.v (.bool bb)]:=by
 refine bodyZ Tryd.f30 (by kernel_rfl) (by kernel_rfl) (show(_:Nat)≤_ from by show(_:Nat)≤_;simp[Tryd.f30]) ?_
 obtain⟨fn1,hf1⟩:=fnz_52
 simp(maxSteps:=2000000) (disch:=omega)only[W_region,W_seq,seqQ_normal2,WL_nil2,WL_cons,execL_val2,execL_enter2,putL_some2,wantedA,exec1,evalO,initT,T.get_set,T.get_leaf,callA,mapO,ofOpt,ofConst,reduceLT,reduceEqDiff,if_true,if_false,true_and,Option.getD_some,List.nil_append,List.append_nil,initT,Tryd.f30,hf1]
 refine fmtb_w ?_
 unfold strS
 simp(maxSteps:=2000000) (disch:=omega)only[W_ret,seqQ_normal2,WL_nil2,WL_cons,execL_val2,putL_some2,retL_ret2,wantedA,exec1,evalO,T.get_set,T.get_leaf,ofOpt,finW_ret,giveW,resultsA,tupA,reduceLT,reduceEqDiff,if_true,if_false,true_and]
 refine⟨_,_,rfl,rfl,?_⟩
 intro b' e
 simp only[List.cons.injEq,and_true,AV.v.injEq,Value.bool.injEq]at e
 rw[← e]
 rfl
theorem fb_u{bb:Bool}{S:St}{Q:R→Prop}(h:Q (.ret (strS (if bb then [116,114,117,101]else [102,97,108,115,101])) S)):WC EZ 30 [.v (.bool bb)] S Q :=
 callZ (fb_k bb) (by kernel_rfl) rfl rfl fun a _ _ hs=>by
  have:=hs bb rfl
  subst this
  exact h
end Go.Ax
noncomputable section
open Nat (reduceLT reduceEqDiff)
namespace Go.Ax
open Go.RowKit Go.Proofs
set_option maxRecDepth 100000
theorem drow_len{v:AV}{l:List PDc}(h:isRowA 6 v (l.map dcA))(S:St):oLen Tryd.prog S 34 v=some l.length:=by
 rcases h with⟨rfl,h⟩ | ⟨tok,off,rfl⟩
 ·rw[List.map_eq_nil_iff.1 h];exact ynnD S
 ·rw[ynD,List.length_map]
theorem drow_idx{v:AV}{l:List PDc}(h:isRowA 6 v (l.map dcA))(j:Nat)(hj:j<l.length):oIndexAddr Tryd.prog 34 v (.v (.int .i64 (j:Int)))=some (.ep [strS l[j].name,i64A l[j].at_,.v (.bool l[j].bool),.v (.bool l[j].fut),strS l[j].clock,.v (.bool l[j].off)]):=by
 rcases h with⟨rfl,h⟩ | ⟨tok,off,rfl⟩
 ·rw[List.map_eq_nil_iff.1 h]at hj;exact absurd hj (Nat.not_lt_zero _)
 ·rw[yxD tok off _ j (by rw[List.length_map];exact hj),List.getElem_map];rfl
def boxD(S:St)(cs:List AV):St:=(S.newBox [strS [],.v (.int .i64 0),.v (.bool false),.v (.bool false),strS [],.v (.bool false)]).to S.next cs
theorem boxD_next(S:St)(cs:List AV):(boxD S cs).next=S.next+1:=by unfold boxD;simp only[to_next,nb_next]
theorem acc_boxD{S:St}{v:AV}{es:List AV}{sz:Nat}(h:Acc sz S v es)(cs:List AV):Acc sz (boxD S cs) v es:=by
 refine h.keep (by rw[boxD_next];omega) fun id m _ hi hm=>?_
 unfold boxD
 simp only[to_get,nb_get]
 rw[if_neg (by omega),if_neg (by omega)];exact hm
theorem type_len(bb ff:Bool):(typeF bb ff).length≤11:=by cases bb <;> cases ff <;> decide
theorem declF_len{d:PDc}(h:okDc d):(declF d).length≤200:=by
 have h1:=type_len d.bool d.fut
 have h2:=when_len d.clock d.off
 unfold declF
 have h3:=h.1;have h4:=h.2
 split <;> simp only[List.length_append,List.length_cons,List.length_nil] <;> omega
def dtLB:Code:=match Tryd.f23.body with
 |some (.seq _ (.seq _ (.seq (.seq _ (.block _ (.loop c))) _)))=>c
 |_=>.skip
theorem dt_lp{v:AV}{l:List PDc}(hv:isRowA 6 v (l.map dcA))(hok:∀d∈l,okDc d)(hl:l.length≤10)(sep:AV):∀(n j:Nat) (a:AV) (t:T AV) (S:St),j+n=l.length→Acc 1 S a ((l.take j).map fun x=>strS (declF x))→2≤S.next→t.get 1=some sep→t.get 5=some a→t.get 9=some v→t.get 10=some (.v (.int .i64 ((l.length:Nat):Int)))→t.get 11=some (.v (.int .i64 ((j:Nat):Int))) →
  WX EZ 40 (.loop dtLB) ⟨t,[]⟩ S (fun r=>∃t' S' a',r=.out (.exit 0) ⟨t',[]⟩ S'∧Acc 1 S' a' (l.map fun x=>strS (declF x))∧t'.get 5=some a'∧t'.get 1=some sep)
 |0,j,a,t,S,hj,hA,hn,T1,T5,T9,T10,T11=>by
  refine WX_loop (W_sound ?_)
  have hlt:decide ((j:Int)<(l.length:Int))=false:=by rw[decide_eq_false_iff_not];omega
  have hjl:l.take j=l:=List.take_of_length_le (by omega)
  rw[hjl]at hA
  simp(maxSteps:=2000000) (disch:=omega)only[thenW_exit,W_skip,W_region,W_seq,W_cond,W_block,W_exit,seqQ_normal2,seqQ_exit2,WL_nil2,WL_cons,execL_val2,putL_some2,condW_f2,wantedA,exec1,evalO,T.get_set,ofOpt,neNil3,fb_lss,reduceLT,reduceEqDiff,if_true,if_false,true_and,Bool.false_eq_true,ez_P,strS,neNil3,dtLB,Tryd.f23,T9,T10,T11,hlt]
  exact⟨_,_,a,rfl,hA,by simp only[T.get_set,reduceEqDiff,if_false,T5],by simp only[T.get_set,reduceEqDiff,if_false,T1]⟩
 |n+1,j,a,t,S,hj,hA,hn,T1,T5,T9,T10,T11=>by
  refine WX_loop (W_sound ?_)
  have hjl:j<l.length:=by omega
  have hlt:decide ((j:Int)<(l.length:Int))=true:=by rw[decide_eq_true_eq];omega
  have hws:=wrapS j (by omega)
  have hx:=drow_idx hv j hjl
  have hd:=hok _ (List.getElem_mem hjl)
  obtain⟨fn1,hf1⟩:=fnz_42
  obtain⟨fn2,hf2⟩:=fnz_34
  obtain⟨bytes,hrt⟩:=ytS
  have htk:l.take (j+1)=l.take j ++ [l[j]]:=List.take_succ_eq_append_getElem hjl
  have hmm:(l.take j).map (fun x=>strS (declF x)) ++ [strS (declF l[j])]=(l.take (j+1)).map fun x=>strS (declF x):=by rw[htk,List.map_append];rfl
  have hel:((l.take j).map fun x=>strS (declF x)).length≤2000000:=by rw[List.length_map,List.length_take];omega
  generalize l[j]=dj at *
  obtain⟨nm,at0,bb,ff,ck,off⟩:=dj
  simp only at hx
  have hd1:nm.length≤30:=hd.1
  have hd2:ck.length≤30:=hd.2
  obtain⟨S2,happ,hA2,n2,k2⟩:=acc_push hrt (acc_boxD hA [strS nm,i64A at0,.v (.bool bb),.v (.bool ff),strS ck,.v (.bool off)]) (by rw[boxD_next];omega) (strS (declF ⟨nm,at0,bb,ff,ck,off⟩)) rfl hel
  rw[hmm]at happ hA2
  have fin:=fun(t':T AV)=>dt_lp hv hok hl sep n (j+1) _ t' S2 (by omega) hA2 (by rw[n2,boxD_next];omega)
  generalize (l.take (j+1)).map (fun x=>strS (declF x))=nw at *
  generalize (l.take j).map (fun x=>strS (declF x))=ow at *
  have h1:=type_len bb ff
  have h2:=when_len ck off
  have hdf:declF ⟨nm,at0,bb,ff,ck,off⟩=if ck=[]then(nm ++ [58,32]) ++ typeF bb ff else((nm ++ [58,32]) ++ typeF bb ff) ++ whenF ck off:=rfl
  rw[hdf]at happ
  have hc1:=fb_catS nm [58,32] (by simp only[List.length_cons,List.length_nil];omega)
  have hc2:=fb_catS (nm ++ [58,32]) (typeF bb ff) (by simp only[List.length_append,List.length_cons,List.length_nil];omega)
  have hc3:=fb_catS ((nm ++ [58,32]) ++ typeF bb ff) (whenF ck off) (by simp only[List.length_append,List.length_cons,List.length_nil];omega)
  have hty:=fun(S:St) (Q:R→Prop) h=>ty_u (S:=S) (Q:=Q) (bb:=bb) (ff:=ff) h
  have hwh:=fun(S:St) (Q:R→Prop) h=>when_u (S:=S) (Q:=Q) (off:=off) hd2 h
  generalize typeF bb ff=tf at *
  generalize whenF ck off=wf at *
  generalize ((nm ++ [58,32]) ++ tf) ++ wf=y3 at *
  generalize (nm ++ [58,32]) ++ tf=y2 at *
  generalize nm ++ [58,32]=y1 at *
  rw[boxD_next]at happ fin
  unfold boxD at happ
  have hbs:=beqA_st nm
  simp only[strS,i64A]at *
  by_cases hck:ck=[]
  ·have hne:decide (ck=[])=true:=decide_eq_true hck
   rw[if_pos hck]at happ
   simp(maxSteps:=2000000) (disch:=omega)only[thenW_exit,W_skip,W_region,W_drawn,W_seq,W_cond,W_block,W_exit,seqQ_normal2,seqQ_exit2,WL_nil2,WL_cons,execL_val2,execL_skip2,putL_none2,putL_some2,condW_t2,wantedA,exec1,evalO,T.get_set,ofOpt,ofOptS,neNil3,fb_lss,reduceLT,Nat.reduceAdd,reduceEqDiff,if_true,if_false,true_and,List.nil_append,List.append_nil,Bool.false_eq_true,nb_get,vstB_agg,List.length_cons,List.length_nil,Nat.zero_add,Nat.reduceLeDiff,List.drop_succ_cons,List.drop_nil,List.take_succ_cons,List.take_zero,and_self,ez_P,strS,neNil3,yleDc,ysDc,yaDc,nb_get,dtLB,Tryd.f23,T9,T10,T11,hlt,hx]
   refine WD_by [(0,true),(1,true),(2,true),(3,true),(4,true),(5,true),(1,false),(6,true),(7,true)] (by kernel_rfl) (by kernel_rfl) ?_
   simp(maxSteps:=2000000) (disch:=omega)only[wantedA,exec1,evalO,T.get_set,callA,mapO,ofOpt,ofConst,neNil9,reduceLT,Nat.reduceAdd,reduceEqDiff,if_true,if_false,true_and,List.getElem?_toArray,List.getElem?_cons_succ,List.getElem?_cons_zero,List.nil_append,List.append_nil,Bool.false_eq_true,WR_op,execR_val2,execR_enter2,putRW_some2,rsOf,to_get,nb_get,cl1_box,clN_box,List.length_cons,List.length_nil,Nat.zero_add,Nat.add_zero,Nat.reduceLeDiff,List.drop_zero,List.drop_succ_cons,List.take_succ_cons,List.take_zero,ez_P,neNil9,yl9,clN_box,List.getElem?_cons_succ,yfDc_0,yfDc_2,ylTy,to_get,nb_get,hf1,hc1]
   refine hty _ _ ?_
   simp(maxSteps:=2000000) (disch:=omega)only[thenW_normal,W_skip,W_region,W_seq,W_cond,seqQ_normal2,blockW_normal2,WL_nil2,WL_cons,execL_val2,execL_enter2,putL_some2,condW_f2,wantedA,exec1,evalO,T.get_set,callA,mapO,ofOpt,ofOptS,ofConst,partsA,neNil3,fb_add,fb_neqSx,neNil9,reduceLT,reduceEqDiff,if_true,if_false,true_and,List.getElem?_cons_succ,List.getElem?_cons_zero,List.nil_append,List.append_nil,Bool.false_eq_true,Bool.not_true,WR_nil2,WR_op,WR_re2,execR_val2,putRW_some2,retRW_ret2,fixQ_normal2,againO,lookV,to_get,nb_get,cl1_box,Nat.zero_add,ez_P,neNil3,neNil9,yl4,yl9,yrS_1,List.getElem?_cons_succ,yfDc_3,yfDc_4,to_get,nb_get,T5,T11,hbs,hf2,hne,hc2,happ,hws]
   refine fin _ ?_ ?_ ?_ ?_ ?_
   ·simp only[T.get_set,reduceEqDiff,if_false,T1]
   ·simp only[T.get_set,reduceEqDiff,if_true,if_false]
   ·simp only[T.get_set,reduceEqDiff,if_false,T9]
   ·simp only[T.get_set,reduceEqDiff,if_false,T10]
   ·simp only[T.get_set,reduceEqDiff,if_true,if_false]
  ·have hne:decide (ck=[])=false:=decide_eq_false hck
   rw[if_neg hck]at happ
   simp(maxSteps:=2000000) (disch:=omega)only[thenW_exit,W_skip,W_region,W_drawn,W_seq,W_cond,W_block,W_exit,seqQ_normal2,seqQ_exit2,WL_nil2,WL_cons,execL_val2,execL_skip2,putL_none2,putL_some2,condW_t2,wantedA,exec1,evalO,T.get_set,ofOpt,ofOptS,neNil3,fb_lss,reduceLT,Nat.reduceAdd,reduceEqDiff,if_true,if_false,true_and,List.nil_append,List.append_nil,Bool.false_eq_true,nb_get,vstB_agg,List.length_cons,List.length_nil,Nat.zero_add,Nat.reduceLeDiff,List.drop_succ_cons,List.drop_nil,List.take_succ_cons,List.take_zero,and_self,ez_P,strS,neNil3,yleDc,ysDc,yaDc,nb_get,dtLB,Tryd.f23,T9,T10,T11,hlt,hx]
   refine WD_by [(0,true),(1,true),(2,true),(3,true),(4,true),(5,true),(1,false),(6,true),(7,true)] (by kernel_rfl) (by kernel_rfl) ?_
   simp(maxSteps:=2000000) (disch:=omega)only[wantedA,exec1,evalO,T.get_set,callA,mapO,ofOpt,ofConst,neNil9,reduceLT,Nat.reduceAdd,reduceEqDiff,if_true,if_false,true_and,List.getElem?_toArray,List.getElem?_cons_succ,List.getElem?_cons_zero,List.nil_append,List.append_nil,Bool.false_eq_true,WR_op,execR_val2,execR_enter2,putRW_some2,rsOf,to_get,nb_get,cl1_box,clN_box,List.length_cons,List.length_nil,Nat.zero_add,Nat.add_zero,Nat.reduceLeDiff,List.drop_zero,List.drop_succ_cons,List.take_succ_cons,List.take_zero,ez_P,neNil9,yl9,clN_box,List.getElem?_cons_succ,yfDc_0,yfDc_2,ylTy,to_get,nb_get,hf1,hc1]
   refine hty _ _ ?_
   simp(maxSteps:=2000000) (disch:=omega)only[W_skip,W_region,W_seq,W_cond,seqQ_normal2,WL_nil2,WL_cons,execL_val2,execL_enter2,putL_some2,condW_t2,wantedA,exec1,evalO,T.get_set,callA,mapO,ofOpt,ofOptS,ofConst,partsA,fb_neqSx,neNil9,reduceLT,reduceEqDiff,if_true,if_false,true_and,List.getElem?_cons_succ,List.getElem?_cons_zero,List.nil_append,List.append_nil,Bool.false_eq_true,Bool.not_false,WR_nil2,WR_op,WR_re2,execR_val2,putRW_some2,retRW_ret2,fixQ_normal2,againO,lookV,to_get,nb_get,cl1_box,Nat.zero_add,ez_P,neNil9,yl4,yl9,yrS_1,List.getElem?_cons_succ,yfDc_3,yfDc_4,to_get,nb_get,T5,hbs,hf2,hne,hc2]
   refine hwh _ _ ?_
   simp(maxSteps:=2000000) (disch:=omega)only[thenW_normal,W_region,seqQ_normal2,blockW_normal2,WL_nil2,WL_cons,execL_val2,putL_some2,retL_ret2,wantedA,exec1,evalO,T.get_set,callA,ofOpt,ofOptS,ofConst,partsA,neNil3,fb_add,neNil9,reduceLT,reduceEqDiff,if_true,if_false,true_and,Bool.false_eq_true,ez_P,neNil3,neNil9,yrS_1,T5,T11,hc3,happ,hws]
   refine fin _ ?_ ?_ ?_ ?_ ?_
   ·simp only[T.get_set,reduceEqDiff,if_false,T1]
   ·simp only[T.get_set,reduceEqDiff,if_true,if_false]
   ·simp only[T.get_set,reduceEqDiff,if_false,T9]
   ·simp only[T.get_set,reduceEqDiff,if_false,T10]
   ·simp only[T.get_set,reduceEqDiff,if_true,if_false]
theorem dcA_inj{x y:PDc}(h:dcA x=dcA y):x=y:=by
 obtain⟨nm,at0,bb,ff,ck,off⟩:=x
 obtain⟨nm',at0',bb',ff',ck',off'⟩:=y
 unfold dcA at h
 simp only[AV.agg.injEq,List.cons.injEq,and_true,i64A,AV.v.injEq,Value.int.injEq,Value.bool.injEq,true_and]at h
 obtain⟨h1,h2,h3,h4,h5,h6⟩:=h
 rw[str_inj h1,h2,h3,h4,str_inj h5,h6]
theorem dcL_inj:∀{x y:List PDc},x.map dcA=y.map dcA→x=y
 | [],[],_=>rfl
 | [],_ :: _,h=>by cases h
 |_ :: _,[],h=>by cases h
 |a :: x,c :: y,h=>by
  simp only[List.map_cons,List.cons.injEq]at h
  rw[dcA_inj h.1,dcL_inj h.2]
theorem isRow_inj{v:AV}{x y:List PDc}(hx:isRowA 6 v (x.map dcA))(hy:isRowA 6 v (y.map dcA)):x=y:=by
 rcases hx with⟨rfl,hx⟩ | ⟨tok,off,rfl⟩
 ·rcases hy with⟨_,hy⟩ | ⟨_,_,hy⟩
  ·rw[List.map_eq_nil_iff.1 hx,List.map_eq_nil_iff.1 hy]
  ·cases hy
 ·rcases hy with⟨hy,_⟩ | ⟨_,_,hy⟩
  ·cases hy
  ·injection hy with _ _ _ hy
   exact dcL_inj hy
theorem dc_free:∀l:List PDc,freeL (l.map dcA)=true∧cleanL (l.map dcA)=l.map dcA
 | []=>⟨rfl,rfl⟩
 |d :: r=>by
  have ih:=dc_free r
  refine⟨?_,?_⟩
  ·rw[List.map_cons]
   show(freeV (dcA d) && freeL (r.map dcA))=true
   rw[ih.1];rfl
  ·rw[List.map_cons]
   show clean (dcA d) :: cleanL (r.map dcA)=_
   rw[ih.2];rfl
theorem row_cl{v:AV}{l:List PDc}(h:isRowA 6 v (l.map dcA)):freeV v=true∧isRowA 6 (clean v) (l.map dcA):=by
 rcases h with⟨rfl,h⟩ | ⟨tok,off,rfl⟩
 ·exact⟨rfl,.inl ⟨rfl,h⟩⟩
 ·exact⟨(dc_free l).1,.inr ⟨0,0,by show AV.sl 0 0 6 (cleanL _)=_;rw[(dc_free l).2]⟩⟩
theorem decls_len{l:List PDc}(hok:∀d∈l,okDc d)(hl:l.length≤10){s:List UInt8}(hs:s.length≤10):(Lib.join (l.map declF) s).length≤1000000:=by
 have h:=join_le s 200 (l.map declF) fun x hx=>by
  obtain⟨d,hd,rfl⟩:=List.mem_map.1 hx
  exact declF_len (hok d hd)
 have h2:(l.map declF).length≤10:=by rw[List.length_map];exact hl
 have h3:=Nat.mul_le_mul h2 (show s.length+200≤210 by omega)
 omega
theorem dt_k(v:AV)(l:List PDc)(s:List UInt8)(hv:isRowA 6 v (l.map dcA))(hok:∀d∈l,okDc d)(hl:l.length≤10)(hs:s.length≤10):KnZ 23 [v,strS s]:=by
 have fin:∀(x:List UInt8) (S':St),x=Lib.join (l.map declF) s→∃a S'',R.ret (.v (.string ⟨⟨x⟩⟩)) S' = R.ret a S''∧freeV a=true∧SpecZ 23 [v,strS s] (clean a):=fun x S' h=>by
  refine⟨_,_,rfl,rfl,?_⟩
  intro v' l' s' q hv' _ _ _
  simp only[List.cons.injEq,and_true]at q
  obtain⟨q1,q2⟩:=q
  subst q1
  rw[← isRow_inj hv hv',← str_inj q2,← h]
  rfl
 have hjl:=decls_len hok hl hs
 have hml:(l.map declF).length≤1000000:=by rw[List.length_map];omega
 have hlr:=drow_len hv
 have lp:=fun t S=>dt_lp hv hok hl (strS s) l.length 0 .nils t S (by omega) (Acc.none 1 S)
 unfold dtLB at lp
 simp only[Tryd.f23]at lp
 refine bodyZ Tryd.f23 (by kernel_rfl) (by kernel_rfl) (show(_:Nat)≤_ from by show(_:Nat)≤_;simp[Tryd.f23]) ?_
 obtain⟨fn1,hf1⟩:=fnz_43
 simp(maxSteps:=2000000) (disch:=omega)only[W_region,W_seq,W_block,W_loop,seqQ_normal2,WL_nil2,WL_cons,execL_val2,putL_some2,wantedA,exec1,evalO,initT,T.get_set,T.get_leaf,callA,ofOpt,ofConst,reduceLT,reduceEqDiff,if_true,if_false,true_and,Option.getD_some,Nat.zero_add,ez_P,strS,initT,Tryd.f23,hlr]
 refine WX.mono (lp _ _ ?_ ?_ ?_ ?_ ?_ ?_) ?_
 ·exact Nat.le_refl _
 ·simp only[T.get_set,T.get_leaf,reduceEqDiff,if_true,if_false] <;> rfl
 ·simp only[T.get_set,T.get_leaf,reduceEqDiff,if_true,if_false] <;> rfl
 ·simp only[T.get_set,T.get_leaf,reduceEqDiff,if_true,if_false] <;> rfl
 ·simp only[T.get_set,T.get_leaf,reduceEqDiff,if_true,if_false] <;> rfl
 ·simp only[T.get_set,T.get_leaf,reduceEqDiff,if_true,if_false] <;> rfl
 rintro _ ⟨t',S',a',rfl,hA,T5,T1⟩
 clear lp
 simp only[strS]at T1
 rcases hA with⟨rfl,hA⟩ | ⟨tk,rfl,_⟩
 ·have hnil:l=[]:=List.map_eq_nil_iff.1 hA
  simp(maxSteps:=2000000) (disch:=omega)only[W_region,W_seq,seqQ_normal2,seqQ_exit2,blockW_exit2,WL_cons,execL_val2,execL_enter2,putL_some2,wantedA,exec1,evalO,T.get_set,callA,mapO,ofOpt,reduceLT,reduceEqDiff,if_true,if_false,true_and,List.nil_append,List.append_nil,T5,T1,hf1]
  refine join_none ?_
  unfold strS
  simp(maxSteps:=2000000) (disch:=omega)only[W_ret,seqQ_normal2,WL_nil2,WL_cons,execL_val2,putL_some2,retL_ret2,wantedA,exec1,evalO,T.get_set,ofOpt,finW_ret,giveW,resultsA,tupA,reduceLT,reduceEqDiff,if_true,if_false,true_and]
  exact fin _ _ (by rw[hnil];rfl)
 ·have hst:l.map (fun x=>strS (declF x))=(l.map declF).map strS:=by rw[List.map_map];rfl
  rw[hst]at T5
  generalize hwm:(l.map declF).map strS=wm at T5
  simp(maxSteps:=2000000) (disch:=omega)only[W_region,W_seq,seqQ_normal2,seqQ_exit2,blockW_exit2,WL_cons,execL_val2,execL_enter2,putL_some2,wantedA,exec1,evalO,T.get_set,callA,mapO,ofOpt,reduceLT,reduceEqDiff,if_true,if_false,true_and,List.nil_append,List.append_nil,T5,T1,hf1]
  rw[← hwm]
  refine join_sl (s:=s) hml (by omega) ?_
  unfold strS
  simp(maxSteps:=2000000) (disch:=omega)only[W_ret,seqQ_normal2,WL_nil2,WL_cons,execL_val2,putL_some2,retL_ret2,wantedA,exec1,evalO,T.get_set,ofOpt,finW_ret,giveW,resultsA,tupA,reduceLT,reduceEqDiff,if_true,if_false,true_and]
  exact fin _ _ rfl
end Go.Ax
noncomputable section
open Nat (reduceLT reduceEqDiff)
namespace Go.Ax
open Go.RowKit Go.Proofs
set_option maxRecDepth 100000
theorem rbnd_k(k n:Int)(nm:List UInt8)(a0 off v:AV)(hk:1≤k∧k≤14):KnZ 48 [.agg [i64A k,a0,i64A n,strS nm,off,v]]:=by
 refine bodyZ Tryd.f48 (by kernel_rfl) (by kernel_rfl) (show(_:Nat)≤_ from by show(_:Nat)≤_;simp[Tryd.f48]) ?_
 have fin:∀(x:Int) (S':St),x=bndF k n nm→∃a S'',R.ret (.v (.int .i64 x)) S' = R.ret a S''∧freeV a=true∧SpecZ 48 [.agg [i64A k,a0,i64A n,strS nm,off,v]] (clean a):=fun x S' h=>by
  refine⟨_,_,rfl,rfl,?_⟩
  intro k' a0' n' nm' off' v' e _
  simp only[List.cons.injEq,and_true,AV.agg.injEq,i64A,AV.v.injEq,Value.int.injEq,true_and]at e
  obtain⟨e1,_,e2,e3,_⟩:=e
  rw[← e1,← e2,← str_inj e3,← h]
  rfl
 have hrow:oBuildSlice Tryd.prog 95 15 [(0,.v (.int .i64 0)),(1,.v (.int .i64 10)),(2,.v (.int .i64 10)),(3,.v (.int .i64 10)),(4,.v (.int .i64 8)),(5,.v (.int .i64 4)),(6,.v (.int .i64 0)),(7,.v (.int .i64 0)),(8,.v (.int .i64 1)),(9,.v (.int .i64 1)),(10,.v (.int .i64 8)),(11,.v (.int .i64 9)),(12,.v (.int .i64 10)),(13,.v (.int .i64 10)),(14,.v (.int .i64 10))]=some (.sl 1 0 1 [.v (.int .i64 0),.v (.int .i64 10),.v (.int .i64 10),.v (.int .i64 10),.v (.int .i64 8),.v (.int .i64 4),.v (.int .i64 0),.v (.int .i64 0),.v (.int .i64 1),.v (.int .i64 1),.v (.int .i64 8),.v (.int .i64 9),.v (.int .i64 10),.v (.int .i64 10),.v (.int .i64 10)]):=by kernel_rfl
 generalize hes:[AV.v (.int .i64 0),.v (.int .i64 10),.v (.int .i64 10),.v (.int .i64 10),.v (.int .i64 8),.v (.int .i64 4),.v (.int .i64 0),.v (.int .i64 0),.v (.int .i64 1),.v (.int .i64 1),.v (.int .i64 8),.v (.int .i64 9),.v (.int .i64 10),.v (.int .i64 10),.v (.int .i64 10)]=es at hrow
 have hx:∀(i:Nat) (h:i<es.length),oIndexAddr Tryd.prog 95 (.sl 1 0 1 es) (.v (.int .i64 (i:Int)))=some (.ep es[i].cells):=fun i h=>yxI 1 0 es i h
 have hel:es.length=15:=by rw[← hes];rfl
 unfold strS
 by_cases h6:k=6
 ·subst h6
  generalize nm=s at *
  by_cases h0:s=[111,114]
  ·have e0:decide (s=[111,114])=true:=decide_eq_true h0
   simp(maxSteps:=2000000) (disch:=omega)only[W_skip,W_region,W_seq,W_cond,W_block,W_ret,seqQ_normal2,seqQ_ret2,blockW_normal2,blockW_ret2,WL_nil2,WL_cons,execL_no,execL_val2,putL_some2,condW_t2,condW_f2,wantedA,exec1,evalO,initT,T.get_set,T.get_leaf,ofOpt,ofConst,partsA,neNil3,finW_ret,giveW,resultsA,tupA,fb_eqlI,fb_neqI,fb_eqS,neNil9,reduceLT,reduceEqDiff,if_true,if_false,true_and,Option.getD_some,List.getElem?_toArray,List.getElem?_cons_succ,List.getElem?_cons_zero,Option.bind_some,Bool.false_eq_true,Bool.not_true,Bool.false_beq,nb_get,st0_get,st0_next,cl1_box,Nat.zero_add,Nat.add_zero,noTup_agg,cells_agg,ez_P,ez_G,i64A,neNil2,neNil3,neNil9,yl3,yl9,yfY_0,yfY_2,yfY_3,initT,cells_agg,List.getElem?_cons_succ,Int.reduceBEq,Int.reduceBNe,Tryd.f48,hrow,e0]
   exact fin _ _ (by rw[h0];exact sgn_vals.1.symm)
  ·have e0:decide (s=[111,114])=false:=decide_eq_false h0
   by_cases h1:s=[120,111,114]
   ·have e1:decide (s=[120,111,114])=true:=decide_eq_true h1
    simp(maxSteps:=2000000) (disch:=omega)only[W_skip,W_region,W_seq,W_cond,W_block,W_ret,seqQ_normal2,seqQ_ret2,blockW_normal2,blockW_ret2,WL_nil2,WL_cons,execL_no,execL_val2,putL_some2,condW_t2,condW_f2,wantedA,exec1,evalO,initT,T.get_set,T.get_leaf,ofOpt,ofConst,partsA,neNil3,finW_ret,giveW,resultsA,tupA,fb_eqlI,fb_neqI,fb_eqS,neNil9,reduceLT,reduceEqDiff,if_true,if_false,true_and,Option.getD_some,List.getElem?_toArray,List.getElem?_cons_succ,List.getElem?_cons_zero,Option.bind_some,Bool.false_eq_true,Bool.not_true,Bool.false_beq,nb_get,st0_get,st0_next,cl1_box,Nat.zero_add,Nat.add_zero,noTup_agg,cells_agg,ez_P,ez_G,i64A,neNil2,neNil3,neNil9,yl3,yl9,yfY_0,yfY_2,yfY_3,initT,cells_agg,List.getElem?_cons_succ,Int.reduceBEq,Int.reduceBNe,Tryd.f48,hrow,e0,e1]
    exact fin _ _ (by rw[h1];exact sgn_vals.2.1.symm)
   ·have e1:decide (s=[120,111,114])=false:=decide_eq_false h1
    by_cases h2:s=[97,110,100]
    ·have e2:decide (s=[97,110,100])=true:=decide_eq_true h2
     simp(maxSteps:=2000000) (disch:=omega)only[W_skip,W_region,W_seq,W_cond,W_block,W_ret,seqQ_normal2,seqQ_ret2,blockW_normal2,blockW_ret2,WL_nil2,WL_cons,execL_no,execL_val2,putL_some2,condW_t2,condW_f2,wantedA,exec1,evalO,initT,T.get_set,T.get_leaf,ofOpt,ofConst,partsA,neNil3,finW_ret,giveW,resultsA,tupA,fb_eqlI,fb_neqI,fb_eqS,neNil9,reduceLT,reduceEqDiff,if_true,if_false,true_and,Option.getD_some,List.getElem?_toArray,List.getElem?_cons_succ,List.getElem?_cons_zero,Option.bind_some,Bool.false_eq_true,Bool.not_true,Bool.false_beq,nb_get,st0_get,st0_next,cl1_box,Nat.zero_add,Nat.add_zero,noTup_agg,cells_agg,ez_P,ez_G,i64A,neNil2,neNil3,neNil9,yl3,yl9,yfY_0,yfY_2,yfY_3,initT,cells_agg,List.getElem?_cons_succ,Int.reduceBEq,Int.reduceBNe,Tryd.f48,hrow,e0,e1,e2]
     exact fin _ _ (by rw[h2];exact sgn_vals.2.2.1.symm)
    ·have e2:decide (s=[97,110,100])=false:=decide_eq_false h2
     by_cases h3:s=[42]
     ·have e3:decide (s=[42])=true:=decide_eq_true h3
      simp(maxSteps:=2000000) (disch:=omega)only[W_skip,W_region,W_seq,W_cond,W_block,W_ret,seqQ_normal2,seqQ_ret2,blockW_normal2,blockW_ret2,WL_nil2,WL_cons,execL_no,execL_val2,putL_some2,condW_t2,condW_f2,wantedA,exec1,evalO,initT,T.get_set,T.get_leaf,ofOpt,ofConst,partsA,neNil3,finW_ret,giveW,resultsA,tupA,fb_eqlI,fb_neqI,fb_eqS,neNil9,reduceLT,reduceEqDiff,if_true,if_false,true_and,Option.getD_some,List.getElem?_toArray,List.getElem?_cons_succ,List.getElem?_cons_zero,Option.bind_some,Bool.false_eq_true,Bool.not_true,Bool.false_beq,nb_get,st0_get,st0_next,cl1_box,Nat.zero_add,Nat.add_zero,noTup_agg,cells_agg,ez_P,ez_G,i64A,neNil2,neNil3,neNil9,yl3,yl9,yfY_0,yfY_2,yfY_3,initT,cells_agg,List.getElem?_cons_succ,Int.reduceBEq,Int.reduceBNe,Tryd.f48,hrow,e0,e1,e2,e3]
      exact fin _ _ (by rw[h3];exact sgn_vals.2.2.2.2.2.1.symm)
     ·have e3:decide (s=[42])=false:=decide_eq_false h3
      by_cases h4:s=[47]
      ·have e4:decide (s=[47])=true:=decide_eq_true h4
       simp(maxSteps:=2000000) (disch:=omega)only[W_skip,W_region,W_seq,W_cond,W_block,W_ret,seqQ_normal2,seqQ_ret2,blockW_normal2,blockW_ret2,WL_nil2,WL_cons,execL_no,execL_val2,putL_some2,condW_t2,condW_f2,wantedA,exec1,evalO,initT,T.get_set,T.get_leaf,ofOpt,ofConst,partsA,neNil3,finW_ret,giveW,resultsA,tupA,fb_eqlI,fb_neqI,fb_eqS,neNil9,reduceLT,reduceEqDiff,if_true,if_false,true_and,Option.getD_some,List.getElem?_toArray,List.getElem?_cons_succ,List.getElem?_cons_zero,Option.bind_some,Bool.false_eq_true,Bool.not_true,Bool.false_beq,nb_get,st0_get,st0_next,cl1_box,Nat.zero_add,Nat.add_zero,noTup_agg,cells_agg,ez_P,ez_G,i64A,neNil2,neNil3,neNil9,yl3,yl9,yfY_0,yfY_2,yfY_3,initT,cells_agg,List.getElem?_cons_succ,Int.reduceBEq,Int.reduceBNe,Tryd.f48,hrow,e0,e1,e2,e3,e4]
       exact fin _ _ (by rw[h4];exact sgn_vals.2.2.2.2.2.2.1.symm)
      ·have e4:decide (s=[47])=false:=decide_eq_false h4
       by_cases h5:s=[109,111,100]
       ·have e5:decide (s=[109,111,100])=true:=decide_eq_true h5
        simp(maxSteps:=2000000) (disch:=omega)only[W_skip,W_region,W_seq,W_cond,W_block,W_ret,seqQ_normal2,seqQ_ret2,blockW_normal2,blockW_ret2,WL_nil2,WL_cons,execL_no,execL_val2,putL_some2,condW_t2,condW_f2,wantedA,exec1,evalO,initT,T.get_set,T.get_leaf,ofOpt,ofConst,partsA,neNil3,finW_ret,giveW,resultsA,tupA,fb_eqlI,fb_neqI,fb_eqS,neNil9,reduceLT,reduceEqDiff,if_true,if_false,true_and,Option.getD_some,List.getElem?_toArray,List.getElem?_cons_succ,List.getElem?_cons_zero,Option.bind_some,Bool.false_eq_true,Bool.not_true,Bool.false_beq,nb_get,st0_get,st0_next,cl1_box,Nat.zero_add,Nat.add_zero,noTup_agg,cells_agg,ez_P,ez_G,i64A,neNil2,neNil3,neNil9,yl3,yl9,yfY_0,yfY_2,yfY_3,initT,cells_agg,List.getElem?_cons_succ,Int.reduceBEq,Int.reduceBNe,Tryd.f48,hrow,e0,e1,e2,e3,e4,e5]
        exact fin _ _ (by rw[h5];exact sgn_vals.2.2.2.2.2.2.2.symm)
       ·have e5:decide (s=[109,111,100])=false:=decide_eq_false h5
        by_cases h6:s=[43]
        ·have e6:decide (s=[43])=true:=decide_eq_true h6
         simp(maxSteps:=2000000) (disch:=omega)only[W_skip,W_region,W_seq,W_cond,W_block,W_ret,seqQ_normal2,seqQ_ret2,blockW_normal2,blockW_ret2,WL_nil2,WL_cons,execL_no,execL_val2,putL_some2,condW_t2,condW_f2,wantedA,exec1,evalO,initT,T.get_set,T.get_leaf,ofOpt,ofConst,partsA,neNil3,finW_ret,giveW,resultsA,tupA,fb_eqlI,fb_neqI,fb_eqS,neNil9,reduceLT,reduceEqDiff,if_true,if_false,true_and,Option.getD_some,List.getElem?_toArray,List.getElem?_cons_succ,List.getElem?_cons_zero,Option.bind_some,Bool.false_eq_true,Bool.not_true,Bool.false_beq,nb_get,st0_get,st0_next,cl1_box,Nat.zero_add,Nat.add_zero,noTup_agg,cells_agg,ez_P,ez_G,i64A,neNil2,neNil3,neNil9,yl3,yl9,yfY_0,yfY_2,yfY_3,initT,cells_agg,List.getElem?_cons_succ,Int.reduceBEq,Int.reduceBNe,Tryd.f48,hrow,e0,e1,e2,e3,e4,e5,e6]
         exact fin _ _ (by rw[h6];exact sgn_vals.2.2.2.1.symm)
        ·have e6:decide (s=[43])=false:=decide_eq_false h6
         by_cases h7:s=[45]
         ·have e7:decide (s=[45])=true:=decide_eq_true h7
          simp(maxSteps:=2000000) (disch:=omega)only[W_skip,W_region,W_seq,W_cond,W_block,W_ret,seqQ_normal2,seqQ_ret2,blockW_normal2,blockW_ret2,WL_nil2,WL_cons,execL_no,execL_val2,putL_some2,condW_t2,condW_f2,wantedA,exec1,evalO,initT,T.get_set,T.get_leaf,ofOpt,ofConst,partsA,neNil3,finW_ret,giveW,resultsA,tupA,fb_eqlI,fb_neqI,fb_eqS,neNil9,reduceLT,reduceEqDiff,if_true,if_false,true_and,Option.getD_some,List.getElem?_toArray,List.getElem?_cons_succ,List.getElem?_cons_zero,Option.bind_some,Bool.false_eq_true,Bool.not_true,Bool.false_beq,nb_get,st0_get,st0_next,cl1_box,Nat.zero_add,Nat.add_zero,noTup_agg,cells_agg,ez_P,ez_G,i64A,neNil2,neNil3,neNil9,yl3,yl9,yfY_0,yfY_2,yfY_3,initT,cells_agg,List.getElem?_cons_succ,Int.reduceBEq,Int.reduceBNe,Tryd.f48,hrow,e0,e1,e2,e3,e4,e5,e6,e7]
          exact fin _ _ (by rw[h7];exact sgn_vals.2.2.2.2.1.symm)
         ·have e7:decide (s=[45])=false:=decide_eq_false h7
          simp(maxSteps:=2000000) (disch:=omega)only[W_skip,W_region,W_seq,W_cond,W_block,W_ret,seqQ_normal2,seqQ_ret2,blockW_normal2,blockW_ret2,WL_nil2,WL_cons,execL_no,execL_val2,putL_some2,condW_f2,wantedA,exec1,evalO,initT,T.get_set,T.get_leaf,ofOpt,ofConst,partsA,neNil3,finW_ret,giveW,resultsA,tupA,fb_eqlI,fb_neqI,fb_eqS,neNil9,reduceLT,reduceEqDiff,if_true,if_false,true_and,Option.getD_some,List.getElem?_toArray,List.getElem?_cons_succ,List.getElem?_cons_zero,Option.bind_some,Bool.false_eq_true,Bool.not_true,Bool.false_beq,nb_get,st0_get,st0_next,cl1_box,Nat.zero_add,Nat.add_zero,noTup_agg,cells_agg,ez_P,ez_G,i64A,neNil2,neNil3,neNil9,yl3,yl9,yfY_0,yfY_2,yfY_3,initT,cells_agg,List.getElem?_cons_succ,Int.reduceBEq,Int.reduceBNe,Tryd.f48,hrow,e0,e1,e2,e3,e4,e5,e6,e7]
          exact fin _ _ (sgn_else h0 h1 h2 h6 h7 h3 h4 h5).symm
 ·have e6:(k != 6)=true:=by simp[h6]
  rcases kind_cases hk with rfl |rfl |rfl |rfl |rfl |rfl |rfl |rfl |rfl |rfl |rfl |rfl |rfl |rfl
  ·have hc:es[1]'(by omega)=.v (.int .i64 10):=by simp[← hes]
   have hx1:oIndexAddr Tryd.prog 95 (.sl 1 0 1 es) (.v (.int .i64 1))=some (.ep [.v (.int .i64 10)]):=by
    have h:=hx 1 (by omega)
    rw[hc]at h;exact h
   by_cases hn:n<0
   ·have e0:decide (n<0)=true:=decide_eq_true hn
    simp(maxSteps:=2000000) (disch:=omega)only[W_skip,W_region,W_seq,W_cond,W_block,W_ret,seqQ_normal2,seqQ_ret2,blockW_normal2,blockW_ret2,WL_nil2,WL_cons,execL_val2,putL_some2,condW_t2,wantedA,exec1,evalO,initT,T.get_set,T.get_leaf,ofOpt,ofConst,partsA,neNil3,finW_ret,giveW,resultsA,tupA,fb_lss,fb_eqlI,fb_neqI,fb_eqS,neNil9,reduceLT,reduceEqDiff,if_true,if_false,true_and,Option.getD_some,List.getElem?_toArray,List.getElem?_cons_succ,List.getElem?_cons_zero,Option.bind_some,beq_self_eq_true,Bool.false_eq_true,nb_get,st0_get,st0_next,cl1_box,Nat.zero_add,Nat.add_zero,noTup_agg,cells_agg,ez_P,i64A,neNil2,neNil3,neNil9,yl2,yl3,yl9,yfY_0,yfY_2,yfY_3,initT,cells_agg,List.getElem?_cons_succ,Tryd.f48,hrow,e0,e6]
    exact fin _ _ (by unfold bndF;rw[if_pos rfl,if_pos hn])
   ·have e0:decide (n<0)=false:=decide_eq_false hn
    simp(maxSteps:=2000000) (disch:=omega)only[W_skip,W_region,W_seq,W_cond,W_block,W_ret,seqQ_normal2,seqQ_ret2,blockW_normal2,blockW_ret2,WL_nil2,WL_cons,execL_val2,putL_some2,condW_t2,condW_f2,wantedA,exec1,evalO,initT,T.get_set,T.get_leaf,ofOpt,ofConst,partsA,neNil3,finW_ret,giveW,resultsA,tupA,fb_lss,fb_eqlI,fb_neqI,fb_eqS,neNil9,reduceLT,reduceEqDiff,if_true,if_false,true_and,Option.getD_some,List.getElem?_toArray,List.getElem?_cons_succ,List.getElem?_cons_zero,Option.bind_some,beq_self_eq_true,Bool.false_eq_true,nb_get,st0_get,st0_next,cl1_box,Nat.zero_add,Nat.add_zero,noTup_agg,cells_agg,ez_P,i64A,neNil2,neNil3,neNil9,yl2,yl3,yl9,yfY_0,yfY_2,yfY_3,initT,cells_agg,List.getElem?_cons_succ,Tryd.f48,hrow,e0,e6,hx1,yle3]
    exact fin _ _ (by unfold bndF;rw[if_pos rfl,if_neg hn])
  ·have hc:es[2]'(by omega)=.v (.int .i64 10):=by simp[← hes]
   have hx1:oIndexAddr Tryd.prog 95 (.sl 1 0 1 es) (.v (.int .i64 2))=some (.ep [.v (.int .i64 10)]):=by
    have h:=hx 2 (by omega)
    rw[hc]at h;exact h
   simp(maxSteps:=2000000) (disch:=omega)only[W_skip,W_region,W_seq,W_cond,W_block,W_ret,seqQ_normal2,seqQ_ret2,blockW_normal2,blockW_ret2,WL_nil2,WL_cons,execL_no,execL_val2,putL_some2,condW_t2,condW_f2,wantedA,exec1,evalO,initT,T.get_set,T.get_leaf,ofOpt,ofConst,partsA,neNil3,finW_ret,giveW,resultsA,tupA,fb_eqlI,fb_neqI,fb_eqS,neNil9,reduceLT,reduceEqDiff,if_true,if_false,true_and,Option.getD_some,List.getElem?_toArray,List.getElem?_cons_succ,List.getElem?_cons_zero,Option.bind_some,Bool.false_eq_true,Bool.not_true,Bool.false_beq,nb_get,st0_get,st0_next,cl1_box,Nat.zero_add,Nat.add_zero,noTup_agg,cells_agg,ez_P,ez_G,i64A,neNil2,neNil3,neNil9,yl3,yl9,yfY_0,yfY_2,yfY_3,initT,cells_agg,List.getElem?_cons_succ,Int.reduceBEq,Tryd.f48,hrow,e6,hx1,yle3]
   exact fin _ _ rfl
  ·have hc:es[3]'(by omega)=.v (.int .i64 10):=by simp[← hes]
   have hx1:oIndexAddr Tryd.prog 95 (.sl 1 0 1 es) (.v (.int .i64 3))=some (.ep [.v (.int .i64 10)]):=by
    have h:=hx 3 (by omega)
    rw[hc]at h;exact h
   simp(maxSteps:=2000000) (disch:=omega)only[W_skip,W_region,W_seq,W_cond,W_block,W_ret,seqQ_normal2,seqQ_ret2,blockW_normal2,blockW_ret2,WL_nil2,WL_cons,execL_no,execL_val2,putL_some2,condW_t2,condW_f2,wantedA,exec1,evalO,initT,T.get_set,T.get_leaf,ofOpt,ofConst,partsA,neNil3,finW_ret,giveW,resultsA,tupA,fb_eqlI,fb_neqI,fb_eqS,neNil9,reduceLT,reduceEqDiff,if_true,if_false,true_and,Option.getD_some,List.getElem?_toArray,List.getElem?_cons_succ,List.getElem?_cons_zero,Option.bind_some,Bool.false_eq_true,Bool.not_true,Bool.false_beq,nb_get,st0_get,st0_next,cl1_box,Nat.zero_add,Nat.add_zero,noTup_agg,cells_agg,ez_P,ez_G,i64A,neNil2,neNil3,neNil9,yl3,yl9,yfY_0,yfY_2,yfY_3,initT,cells_agg,List.getElem?_cons_succ,Int.reduceBEq,Tryd.f48,hrow,e6,hx1,yle3]
   exact fin _ _ rfl
  ·have hc:es[4]'(by omega)=.v (.int .i64 8):=by simp[← hes]
   have hx1:oIndexAddr Tryd.prog 95 (.sl 1 0 1 es) (.v (.int .i64 4))=some (.ep [.v (.int .i64 8)]):=by
    have h:=hx 4 (by omega)
    rw[hc]at h;exact h
   simp(maxSteps:=2000000) (disch:=omega)only[W_skip,W_region,W_seq,W_cond,W_block,W_ret,seqQ_normal2,seqQ_ret2,blockW_normal2,blockW_ret2,WL_nil2,WL_cons,execL_no,execL_val2,putL_some2,condW_t2,condW_f2,wantedA,exec1,evalO,initT,T.get_set,T.get_leaf,ofOpt,ofConst,partsA,neNil3,finW_ret,giveW,resultsA,tupA,fb_eqlI,fb_neqI,fb_eqS,neNil9,reduceLT,reduceEqDiff,if_true,if_false,true_and,Option.getD_some,List.getElem?_toArray,List.getElem?_cons_succ,List.getElem?_cons_zero,Option.bind_some,Bool.false_eq_true,Bool.not_true,Bool.false_beq,nb_get,st0_get,st0_next,cl1_box,Nat.zero_add,Nat.add_zero,noTup_agg,cells_agg,ez_P,ez_G,i64A,neNil2,neNil3,neNil9,yl3,yl9,yfY_0,yfY_2,yfY_3,initT,cells_agg,List.getElem?_cons_succ,Int.reduceBEq,Tryd.f48,hrow,e6,hx1,yle3]
   exact fin _ _ rfl
  ·have hc:es[5]'(by omega)=.v (.int .i64 4):=by simp[← hes]
   have hx1:oIndexAddr Tryd.prog 95 (.sl 1 0 1 es) (.v (.int .i64 5))=some (.ep [.v (.int .i64 4)]):=by
    have h:=hx 5 (by omega)
    rw[hc]at h;exact h
   simp(maxSteps:=2000000) (disch:=omega)only[W_skip,W_region,W_seq,W_cond,W_block,W_ret,seqQ_normal2,seqQ_ret2,blockW_normal2,blockW_ret2,WL_nil2,WL_cons,execL_no,execL_val2,putL_some2,condW_t2,condW_f2,wantedA,exec1,evalO,initT,T.get_set,T.get_leaf,ofOpt,ofConst,partsA,neNil3,finW_ret,giveW,resultsA,tupA,fb_eqlI,fb_neqI,fb_eqS,neNil9,reduceLT,reduceEqDiff,if_true,if_false,true_and,Option.getD_some,List.getElem?_toArray,List.getElem?_cons_succ,List.getElem?_cons_zero,Option.bind_some,Bool.false_eq_true,Bool.not_true,Bool.false_beq,nb_get,st0_get,st0_next,cl1_box,Nat.zero_add,Nat.add_zero,noTup_agg,cells_agg,ez_P,ez_G,i64A,neNil2,neNil3,neNil9,yl3,yl9,yfY_0,yfY_2,yfY_3,initT,cells_agg,List.getElem?_cons_succ,Int.reduceBEq,Tryd.f48,hrow,e6,hx1,yle3]
   exact fin _ _ rfl
  ·exact absurd rfl h6
  ·have hc:es[7]'(by omega)=.v (.int .i64 0):=by simp[← hes]
   have hx1:oIndexAddr Tryd.prog 95 (.sl 1 0 1 es) (.v (.int .i64 7))=some (.ep [.v (.int .i64 0)]):=by
    have h:=hx 7 (by omega)
    rw[hc]at h;exact h
   simp(maxSteps:=2000000) (disch:=omega)only[W_skip,W_region,W_seq,W_cond,W_block,W_ret,seqQ_normal2,seqQ_ret2,blockW_normal2,blockW_ret2,WL_nil2,WL_cons,execL_no,execL_val2,putL_some2,condW_t2,condW_f2,wantedA,exec1,evalO,initT,T.get_set,T.get_leaf,ofOpt,ofConst,partsA,neNil3,finW_ret,giveW,resultsA,tupA,fb_eqlI,fb_neqI,fb_eqS,neNil9,reduceLT,reduceEqDiff,if_true,if_false,true_and,Option.getD_some,List.getElem?_toArray,List.getElem?_cons_succ,List.getElem?_cons_zero,Option.bind_some,Bool.false_eq_true,Bool.not_true,Bool.false_beq,nb_get,st0_get,st0_next,cl1_box,Nat.zero_add,Nat.add_zero,noTup_agg,cells_agg,ez_P,ez_G,i64A,neNil2,neNil3,neNil9,yl3,yl9,yfY_0,yfY_2,yfY_3,initT,cells_agg,List.getElem?_cons_succ,Int.reduceBEq,Tryd.f48,hrow,e6,hx1,yle3]
   exact fin _ _ rfl
  ·have hc:es[8]'(by omega)=.v (.int .i64 1):=by simp[← hes]
   have hx1:oIndexAddr Tryd.prog 95 (.sl 1 0 1 es) (.v (.int .i64 8))=some (.ep [.v (.int .i64 1)]):=by
    have h:=hx 8 (by omega)
    rw[hc]at h;exact h
   simp(maxSteps:=2000000) (disch:=omega)only[W_skip,W_region,W_seq,W_cond,W_block,W_ret,seqQ_normal2,seqQ_ret2,blockW_normal2,blockW_ret2,WL_nil2,WL_cons,execL_no,execL_val2,putL_some2,condW_t2,condW_f2,wantedA,exec1,evalO,initT,T.get_set,T.get_leaf,ofOpt,ofConst,partsA,neNil3,finW_ret,giveW,resultsA,tupA,fb_eqlI,fb_neqI,fb_eqS,neNil9,reduceLT,reduceEqDiff,if_true,if_false,true_and,Option.getD_some,List.getElem?_toArray,List.getElem?_cons_succ,List.getElem?_cons_zero,Option.bind_some,Bool.false_eq_true,Bool.not_true,Bool.false_beq,nb_get,st0_get,st0_next,cl1_box,Nat.zero_add,Nat.add_zero,noTup_agg,cells_agg,ez_P,ez_G,i64A,neNil2,neNil3,neNil9,yl3,yl9,yfY_0,yfY_2,yfY_3,initT,cells_agg,List.getElem?_cons_succ,Int.reduceBEq,Tryd.f48,hrow,e6,hx1,yle3]
   exact fin _ _ rfl
  ·have hc:es[9]'(by omega)=.v (.int .i64 1):=by simp[← hes]
   have hx1:oIndexAddr Tryd.prog 95 (.sl 1 0 1 es) (.v (.int .i64 9))=some (.ep [.v (.int .i64 1)]):=by
    have h:=hx 9 (by omega)
    rw[hc]at h;exact h
   simp(maxSteps:=2000000) (disch:=omega)only[W_skip,W_region,W_seq,W_cond,W_block,W_ret,seqQ_normal2,seqQ_ret2,blockW_normal2,blockW_ret2,WL_nil2,WL_cons,execL_no,execL_val2,putL_some2,condW_t2,condW_f2,wantedA,exec1,evalO,initT,T.get_set,T.get_leaf,ofOpt,ofConst,partsA,neNil3,finW_ret,giveW,resultsA,tupA,fb_eqlI,fb_neqI,fb_eqS,neNil9,reduceLT,reduceEqDiff,if_true,if_false,true_and,Option.getD_some,List.getElem?_toArray,List.getElem?_cons_succ,List.getElem?_cons_zero,Option.bind_some,Bool.false_eq_true,Bool.not_true,Bool.false_beq,nb_get,st0_get,st0_next,cl1_box,Nat.zero_add,Nat.add_zero,noTup_agg,cells_agg,ez_P,ez_G,i64A,neNil2,neNil3,neNil9,yl3,yl9,yfY_0,yfY_2,yfY_3,initT,cells_agg,List.getElem?_cons_succ,Int.reduceBEq,Tryd.f48,hrow,e6,hx1,yle3]
   exact fin _ _ rfl
  ·have hc:es[10]'(by omega)=.v (.int .i64 8):=by simp[← hes]
   have hx1:oIndexAddr Tryd.prog 95 (.sl 1 0 1 es) (.v (.int .i64 10))=some (.ep [.v (.int .i64 8)]):=by
    have h:=hx 10 (by omega)
    rw[hc]at h;exact h
   simp(maxSteps:=2000000) (disch:=omega)only[W_skip,W_region,W_seq,W_cond,W_block,W_ret,seqQ_normal2,seqQ_ret2,blockW_normal2,blockW_ret2,WL_nil2,WL_cons,execL_no,execL_val2,putL_some2,condW_t2,condW_f2,wantedA,exec1,evalO,initT,T.get_set,T.get_leaf,ofOpt,ofConst,partsA,neNil3,finW_ret,giveW,resultsA,tupA,fb_eqlI,fb_neqI,fb_eqS,neNil9,reduceLT,reduceEqDiff,if_true,if_false,true_and,Option.getD_some,List.getElem?_toArray,List.getElem?_cons_succ,List.getElem?_cons_zero,Option.bind_some,Bool.false_eq_true,Bool.not_true,Bool.false_beq,nb_get,st0_get,st0_next,cl1_box,Nat.zero_add,Nat.add_zero,noTup_agg,cells_agg,ez_P,ez_G,i64A,neNil2,neNil3,neNil9,yl3,yl9,yfY_0,yfY_2,yfY_3,initT,cells_agg,List.getElem?_cons_succ,Int.reduceBEq,Tryd.f48,hrow,e6,hx1,yle3]
   exact fin _ _ rfl
  ·have hc:es[11]'(by omega)=.v (.int .i64 9):=by simp[← hes]
   have hx1:oIndexAddr Tryd.prog 95 (.sl 1 0 1 es) (.v (.int .i64 11))=some (.ep [.v (.int .i64 9)]):=by
    have h:=hx 11 (by omega)
    rw[hc]at h;exact h
   simp(maxSteps:=2000000) (disch:=omega)only[W_skip,W_region,W_seq,W_cond,W_block,W_ret,seqQ_normal2,seqQ_ret2,blockW_normal2,blockW_ret2,WL_nil2,WL_cons,execL_no,execL_val2,putL_some2,condW_t2,condW_f2,wantedA,exec1,evalO,initT,T.get_set,T.get_leaf,ofOpt,ofConst,partsA,neNil3,finW_ret,giveW,resultsA,tupA,fb_eqlI,fb_neqI,fb_eqS,neNil9,reduceLT,reduceEqDiff,if_true,if_false,true_and,Option.getD_some,List.getElem?_toArray,List.getElem?_cons_succ,List.getElem?_cons_zero,Option.bind_some,Bool.false_eq_true,Bool.not_true,Bool.false_beq,nb_get,st0_get,st0_next,cl1_box,Nat.zero_add,Nat.add_zero,noTup_agg,cells_agg,ez_P,ez_G,i64A,neNil2,neNil3,neNil9,yl3,yl9,yfY_0,yfY_2,yfY_3,initT,cells_agg,List.getElem?_cons_succ,Int.reduceBEq,Tryd.f48,hrow,e6,hx1,yle3]
   exact fin _ _ rfl
  ·have hc:es[12]'(by omega)=.v (.int .i64 10):=by simp[← hes]
   have hx1:oIndexAddr Tryd.prog 95 (.sl 1 0 1 es) (.v (.int .i64 12))=some (.ep [.v (.int .i64 10)]):=by
    have h:=hx 12 (by omega)
    rw[hc]at h;exact h
   simp(maxSteps:=2000000) (disch:=omega)only[W_skip,W_region,W_seq,W_cond,W_block,W_ret,seqQ_normal2,seqQ_ret2,blockW_normal2,blockW_ret2,WL_nil2,WL_cons,execL_no,execL_val2,putL_some2,condW_t2,condW_f2,wantedA,exec1,evalO,initT,T.get_set,T.get_leaf,ofOpt,ofConst,partsA,neNil3,finW_ret,giveW,resultsA,tupA,fb_eqlI,fb_neqI,fb_eqS,neNil9,reduceLT,reduceEqDiff,if_true,if_false,true_and,Option.getD_some,List.getElem?_toArray,List.getElem?_cons_succ,List.getElem?_cons_zero,Option.bind_some,Bool.false_eq_true,Bool.not_true,Bool.false_beq,nb_get,st0_get,st0_next,cl1_box,Nat.zero_add,Nat.add_zero,noTup_agg,cells_agg,ez_P,ez_G,i64A,neNil2,neNil3,neNil9,yl3,yl9,yfY_0,yfY_2,yfY_3,initT,cells_agg,List.getElem?_cons_succ,Int.reduceBEq,Tryd.f48,hrow,e6,hx1,yle3]
   exact fin _ _ rfl
  ·have hc:es[13]'(by omega)=.v (.int .i64 10):=by simp[← hes]
   have hx1:oIndexAddr Tryd.prog 95 (.sl 1 0 1 es) (.v (.int .i64 13))=some (.ep [.v (.int .i64 10)]):=by
    have h:=hx 13 (by omega)
    rw[hc]at h;exact h
   simp(maxSteps:=2000000) (disch:=omega)only[W_skip,W_region,W_seq,W_cond,W_block,W_ret,seqQ_normal2,seqQ_ret2,blockW_normal2,blockW_ret2,WL_nil2,WL_cons,execL_no,execL_val2,putL_some2,condW_t2,condW_f2,wantedA,exec1,evalO,initT,T.get_set,T.get_leaf,ofOpt,ofConst,partsA,neNil3,finW_ret,giveW,resultsA,tupA,fb_eqlI,fb_neqI,fb_eqS,neNil9,reduceLT,reduceEqDiff,if_true,if_false,true_and,Option.getD_some,List.getElem?_toArray,List.getElem?_cons_succ,List.getElem?_cons_zero,Option.bind_some,Bool.false_eq_true,Bool.not_true,Bool.false_beq,nb_get,st0_get,st0_next,cl1_box,Nat.zero_add,Nat.add_zero,noTup_agg,cells_agg,ez_P,ez_G,i64A,neNil2,neNil3,neNil9,yl3,yl9,yfY_0,yfY_2,yfY_3,initT,cells_agg,List.getElem?_cons_succ,Int.reduceBEq,Tryd.f48,hrow,e6,hx1,yle3]
   exact fin _ _ rfl
  ·have hc:es[14]'(by omega)=.v (.int .i64 10):=by simp[← hes]
   have hx1:oIndexAddr Tryd.prog 95 (.sl 1 0 1 es) (.v (.int .i64 14))=some (.ep [.v (.int .i64 10)]):=by
    have h:=hx 14 (by omega)
    rw[hc]at h;exact h
   simp(maxSteps:=2000000) (disch:=omega)only[W_skip,W_region,W_seq,W_cond,W_block,W_ret,seqQ_normal2,seqQ_ret2,blockW_normal2,blockW_ret2,WL_nil2,WL_cons,execL_no,execL_val2,putL_some2,condW_t2,condW_f2,wantedA,exec1,evalO,initT,T.get_set,T.get_leaf,ofOpt,ofConst,partsA,neNil3,finW_ret,giveW,resultsA,tupA,fb_eqlI,fb_neqI,fb_eqS,neNil9,reduceLT,reduceEqDiff,if_true,if_false,true_and,Option.getD_some,List.getElem?_toArray,List.getElem?_cons_succ,List.getElem?_cons_zero,Option.bind_some,Bool.false_eq_true,Bool.not_true,Bool.false_beq,nb_get,st0_get,st0_next,cl1_box,Nat.zero_add,Nat.add_zero,noTup_agg,cells_agg,ez_P,ez_G,i64A,neNil2,neNil3,neNil9,yl3,yl9,yfY_0,yfY_2,yfY_3,initT,cells_agg,List.getElem?_cons_succ,Int.reduceBEq,Tryd.f48,hrow,e6,hx1,yle3]
   exact fin _ _ rfl
end Go.Ax
