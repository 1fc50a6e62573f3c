/- TtZ -/
import Derived.Test.YtkjknlaffgkloaaDoorTpG12
import Derived.Test.YtkjknlaffgkloaaDoorTpG14
import Derived.Test.YtkjknlaffgkloaaDoorTpG13
import Derived.Test.YtkjknlaffgkloaaDoorTpG17
set_option linter.unusedVariables false
set_option linter.unusedSimpArgs false
set_option maxHeartbeats 16000000
noncomputable section
open Nat (reduceLT reduceEqDiff)
namespace Go.Ax
open Go.RowKit Go.Proofs
set_option maxRecDepth 100000
theorem lrow_len{v:AV}{l:List (List UInt8 × Int)}(h:isRowA 2 v (l.map lfA))(S:St):oLen Tryd.prog S 71 v=some l.length:=by
 rcases h with⟨rfl,h⟩ | ⟨tok,off,rfl⟩
 ·rw[List.map_eq_nil_iff.1 h];exact ynnL S
 ·rw[ynL,List.length_map]
theorem lrow_idx{v:AV}{l:List (List UInt8 × Int)}(h:isRowA 2 v (l.map lfA))(j:Nat)(hj:j<l.length):oIndexAddr Tryd.prog 71 v (.v (.int .i64 (j:Int)))=some (.ep [strS l[j].1,i64A l[j].2]):=by
 rcases h with⟨rfl,h⟩ | ⟨tok,off,rfl⟩
 ·rw[List.map_eq_nil_iff.1 h]at hj;exact absurd hj (Nat.not_lt_zero _)
 ·rw[yxL tok off _ j (by rw[List.length_map];exact hj),List.getElem_map];rfl
theorem lfA_inj{x y:List UInt8 × Int}(h:lfA x=lfA y):x=y:=by
 obtain⟨a,i⟩:=x
 obtain⟨c,j⟩:=y
 unfold lfA at h
 simp only[AV.agg.injEq,List.cons.injEq,and_true,i64A,AV.v.injEq,Value.int.injEq,true_and]at h
 rw[str_inj h.1,h.2]
theorem lfL_inj:∀{x y:List (List UInt8 × Int)},x.map lfA=y.map lfA→x=y
 | [],[],_=>rfl
 | [],_ :: _,h=>by cases h
 |_ :: _,[],h=>by cases h
 |a :: x,c :: y,h=>by
  simp only[List.map_cons,List.cons.injEq]at h
  rw[lfA_inj h.1,lfL_inj h.2]
theorem lrow_inj{v:AV}{x y:List (List UInt8 × Int)}(hx:isRowA 2 v (x.map lfA))(hy:isRowA 2 v (y.map lfA)):x=y:=by
 rcases hx with⟨rfl,hx⟩ | ⟨tok,off,rfl⟩
 ·rcases hy with⟨_,hy⟩ | ⟨_,_,hy⟩
  ·rw[List.map_eq_nil_iff.1 hx,List.map_eq_nil_iff.1 hy]
  ·cases hy
 ·rcases hy with⟨hy,_⟩ | ⟨_,_,hy⟩
  ·cases hy
  ·injection hy with _ _ _ hy
   exact lfL_inj hy
theorem lf_free:∀l:List (List UInt8 × Int),freeL (l.map lfA)=true∧cleanL (l.map lfA)=l.map lfA
 | []=>⟨rfl,rfl⟩
 |d :: r=>by
  have ih:=lf_free r
  refine⟨?_,?_⟩
  ·rw[List.map_cons]
   show(freeV (lfA d) && freeL (r.map lfA))=true
   rw[ih.1];rfl
  ·rw[List.map_cons]
   show clean (lfA d) :: cleanL (r.map lfA)=_
   rw[ih.2];rfl
theorem lrow_cl{v:AV}{l:List (List UInt8 × Int)}(h:isRowA 2 v (l.map lfA)):freeV v=true∧isRowA 2 (clean v) (l.map lfA):=by
 rcases h with⟨rfl,h⟩ | ⟨tok,off,rfl⟩
 ·exact⟨rfl,.inl ⟨rfl,h⟩⟩
 ·exact⟨(lf_free l).1,.inr ⟨0,0,by show AV.sl 0 0 2 (cleanL _)=_;rw[(lf_free l).2]⟩⟩
def boxF(S:St)(cs:List AV):St:=(S.newBox [strS [],.v (.int .i64 0)]).to S.next cs
theorem boxF_next(S:St)(cs:List AV):(boxF S cs).next=S.next+1:=by unfold boxF;simp only[to_next,nb_next]
theorem acc_boxF{S:St}{v:AV}{es:List AV}{sz:Nat}(h:Acc sz S v es)(cs:List AV):Acc sz (boxF S cs) v es:=by
 refine h.keep (by rw[boxF_next];omega) fun id m _ hi hm=>?_
 unfold boxF
 simp only[to_get,nb_get]
 rw[if_neg (by omega),if_neg (by omega)];exact hm
theorem lefts_len{l:List (List UInt8 × Int)}(hok:∀x∈l,x.1.length≤30)(hl:l.length≤10):(Lib.join (l.map fun x=>x.1) [44,32]).length≤400:=by
 have h:=join_le [44,32] 30 (l.map fun x=>x.1) fun x hx=>by
  obtain⟨d,hd,rfl⟩:=List.mem_map.1 hx
  exact hok d hd
 have h2:(l.map fun x=>x.1).length≤10:=by rw[List.length_map];exact hl
 have h3:=Nat.mul_le_mul h2 (Nat.le_refl (([44,32]:List UInt8).length+30))
 simp only[List.length_cons,List.length_nil]at h h3
 omega
theorem leftF_len{l:List (List UInt8 × Int)}(hok:∀x∈l,x.1.length≤30)(hl:l.length≤10):(leftF l).length≤402:=by
 have:=lefts_len hok hl
 unfold leftF
 split <;> first |omega | (simp only[List.length_append,List.length_cons,List.length_nil];omega)
def ltLB:Code:=match Tryd.f44.body with
 |some (.seq _ (.seq _ (.seq (.seq _ (.block _ (.loop c))) _)))=>c
 |_=>.skip
theorem lt_lp{v:AV}{l:List (List UInt8 × Int)}(hv:isRowA 2 v (l.map lfA))(hl:l.length≤10):∀(n j:Nat) (a:AV) (t:T AV) (S:St),j+n=l.length→Acc 1 S a ((l.take j).map fun x=>strS x.1)→2≤S.next→t.get 3=some a→t.get 7=some v→t.get 8=some (.v (.int .i64 ((l.length:Nat):Int)))→t.get 9=some (.v (.int .i64 ((j:Nat):Int))) →
  WX EZ 28 (.loop ltLB) ⟨t,[]⟩ S (fun r=>∃t' S' a',r=.out (.exit 0) ⟨t',[]⟩ S'∧Acc 1 S' a' (l.map fun x=>strS x.1)∧t'.get 3=some a')
 |0,j,a,t,S,hj,hA,hn,T3,T7,T8,T9=>by
  refine WX_loop (W_sound ?_)
  have hlt:decide ((j:Int)<(l.length:Int))=false:=by rw[decide_eq_false_iff_not];omega
  have hjl:l.take j=l:=List.take_of_length_le (by omega)
  rw[hjl]at hA
  simp(maxSteps:=2000000) (disch:=omega)only[thenW_exit,W_skip,W_region,W_seq,W_cond,W_block,W_exit,seqQ_normal2,seqQ_exit2,WL_nil2,WL_cons,execL_val2,putL_some2,condW_f2,wantedA,exec1,evalO,T.get_set,ofOpt,neNil3,fb_lss,reduceLT,reduceEqDiff,if_true,if_false,true_and,Bool.false_eq_true,ez_P,strS,neNil3,ltLB,Tryd.f44,T7,T8,T9,hlt]
  exact⟨_,_,a,rfl,hA,by simp only[T.get_set,reduceEqDiff,if_false,T3]⟩
 |n+1,j,a,t,S,hj,hA,hn,T3,T7,T8,T9=>by
  refine WX_loop (W_sound ?_)
  have hjl:j<l.length:=by omega
  have hlt:decide ((j:Int)<(l.length:Int))=true:=by rw[decide_eq_true_eq];omega
  have hws:=wrapS j (by omega)
  have hx:=lrow_idx hv j hjl
  obtain⟨bytes,hrt⟩:=ytS
  have htk:l.take (j+1)=l.take j ++ [l[j]]:=List.take_succ_eq_append_getElem hjl
  have hmm:(l.take j).map (fun x=>strS x.1) ++ [strS l[j].1]=(l.take (j+1)).map fun x=>strS x.1:=by rw[htk,List.map_append];rfl
  have hel:((l.take j).map fun x=>strS x.1).length≤2000000:=by rw[List.length_map,List.length_take];omega
  generalize l[j]=dj at *
  obtain⟨nm,at0⟩:=dj
  simp only at hx hmm
  obtain⟨S2,happ,hA2,n2,k2⟩:=acc_push hrt (acc_boxF hA [strS nm,i64A at0]) (by rw[boxF_next];omega) (strS nm) rfl hel
  rw[hmm]at happ hA2
  have fin:=fun(t':T AV)=>lt_lp hv hl n (j+1) _ t' S2 (by omega) hA2 (by rw[n2,boxF_next];omega)
  generalize (l.take (j+1)).map (fun x=>strS x.1)=nw at *
  generalize (l.take j).map (fun x=>strS x.1)=ow at *
  rw[boxF_next]at happ fin
  unfold boxF at happ
  simp only[strS,i64A]at *
  simp(maxSteps:=2000000) (disch:=omega)only[thenW_normal,thenW_exit,W_skip,W_region,W_seq,W_cond,W_block,W_exit,seqQ_normal2,seqQ_exit2,blockW_normal2,WL_nil2,WL_cons,execL_val2,execL_skip2,putL_none2,putL_some2,condW_t2,wantedA,exec1,evalO,T.get_set,callA,ofOpt,ofOptS,ofConst,partsA,neNil3,fb_lss,fb_add,reduceLT,Nat.reduceAdd,reduceEqDiff,if_true,if_false,true_and,List.getElem?_cons_zero,List.nil_append,List.append_nil,Bool.false_eq_true,to_get,nb_get,cl1_box,vstB_agg,List.length_cons,List.length_nil,Nat.zero_add,Nat.add_zero,Nat.reduceLeDiff,List.drop_succ_cons,List.drop_nil,List.take_succ_cons,List.take_zero,and_self,ez_P,strS,neNil3,yl9,yrS_1,yleLf,ysLf,yaLf,yfLf_0,to_get,nb_get,ltLB,Tryd.f44,T3,T7,T8,T9,hlt,hx,happ,hws]
  refine fin _ ?_ ?_ ?_ ?_
  ·simp only[T.get_set,reduceEqDiff,if_true,if_false]
  ·simp only[T.get_set,reduceEqDiff,if_false,T7]
  ·simp only[T.get_set,reduceEqDiff,if_false,T8]
  ·simp only[T.get_set,reduceEqDiff,if_true,if_false]
theorem lt_k(v:AV)(l:List (List UInt8 × Int))(hv:isRowA 2 v (l.map lfA))(hok:∀x∈l,x.1.length≤30)(hl:l.length≤10):KnZ 44 [v]:=by
 have fin:∀(x:List UInt8) (S':St),x=leftF l→∃a S'',R.ret (.v (.string ⟨⟨x⟩⟩)) S' = R.ret a S''∧freeV a=true∧SpecZ 44 [v] (clean a):=fun x S' h=>by
  refine⟨_,_,rfl,rfl,?_⟩
  intro v' l' q hv' _ _
  simp only[List.cons.injEq,and_true]at q
  subst q
  rw[← lrow_inj hv hv',← h]
  rfl
 have hjl:=lefts_len hok hl
 have hml:(l.map fun x=>x.1).length≤1000000:=by rw[List.length_map];omega
 have hlr:=lrow_len hv
 have lp:=fun t S=>lt_lp hv hl l.length 0 .nils t S (by omega) (Acc.none 1 S)
 unfold ltLB at lp
 simp only[Tryd.f44]at lp
 refine bodyZ Tryd.f44 (by kernel_rfl) (by kernel_rfl) (show(_:Nat)≤_ from by show(_:Nat)≤_;simp[Tryd.f44]) ?_
 obtain⟨fn1,hf1⟩:=fnz_43
 simp(maxSteps:=2000000) (disch:=omega)only[W_region,W_seq,W_block,W_loop,seqQ_normal2,WL_nil2,WL_cons,execL_val2,putL_some2,wantedA,exec1,evalO,initT,T.get_set,T.get_leaf,callA,ofOpt,ofConst,reduceLT,reduceEqDiff,if_true,if_false,true_and,Option.getD_some,ez_P,initT,Tryd.f44,hlr]
 refine WX.mono (lp _ _ ?_ ?_ ?_ ?_ ?_) ?_
 ·exact Nat.le_refl _
 ·simp only[T.get_set,T.get_leaf,reduceEqDiff,if_true,if_false] <;> rfl
 ·simp only[T.get_set,T.get_leaf,reduceEqDiff,if_true,if_false] <;> rfl
 ·simp only[T.get_set,T.get_leaf,reduceEqDiff,if_true,if_false] <;> rfl
 ·simp only[T.get_set,T.get_leaf,reduceEqDiff,if_true,if_false] <;> rfl
 rintro _ ⟨t',S',a',rfl,hA,T3⟩
 clear lp
 unfold leftF at fin
 rcases hA with⟨rfl,hA⟩ | ⟨tk,rfl,_⟩
 ·have hnil:l=[]:=List.map_eq_nil_iff.1 hA
  rw[if_neg (by rw[hnil];decide)]at fin
  have h01:decide (((0:Nat):Int) > 1)=false:=rfl
  simp(maxSteps:=2000000) (disch:=omega)only[W_region,W_seq,seqQ_normal2,seqQ_exit2,blockW_exit2,WL_cons,execL_val2,execL_enter2,putL_some2,wantedA,exec1,evalO,T.get_set,callA,mapO,ofOpt,ofConst,reduceLT,if_true,true_and,List.nil_append,List.append_nil,T3,hf1]
  refine join_none ?_
  unfold strS
  simp(maxSteps:=2000000) (disch:=omega)only[W_skip,W_region,W_seq,W_cond,W_ret,seqQ_normal2,WL_nil2,WL_cons,execL_val2,putL_some2,retL_ret2,condW_f2,wantedA,exec1,evalO,T.get_set,callA,ofOpt,ofConst,neNil3,finW_ret,giveW,resultsA,tupA,fb_gtr,neNil9,reduceLT,reduceEqDiff,if_true,if_false,true_and,Bool.false_eq_true,ez_P,ez_G,neNil3,neNil9,T3,ynnS,h01]
  exact fin _ _ (by rw[hnil];rfl)
 ·have hst:l.map (fun x=>strS x.1)=(l.map fun x=>x.1).map strS:=by rw[List.map_map];rfl
  rw[hst]at T3
  have h01:True:=trivial
  have hln:∀S,oLen Tryd.prog S 31 (.sl tk 0 1 ((l.map fun x=>x.1).map strS))=some l.length:=fun S=>by rw[ynS,List.length_map,List.length_map]
  generalize hwm:(l.map fun x=>x.1).map strS=wm at *
  have hjs:=fun(S:St) (Q:R→Prop) h=>@join_sl S Q tk 0 (l.map fun x=>x.1) [44,32] hml (by omega) h
  rw[hwm]at hjs
  generalize Lib.join (l.map fun x=>x.1) [44,32]=js at *
  have hc1:=fb_catS [40] js (by first |omega | (simp only[List.length_cons,List.length_nil];omega))
  have hc2:=fb_catS ([40] ++ js) [41] (by first |omega | (simp only[List.length_append,List.length_cons,List.length_nil];omega))
  generalize ([40] ++ js) ++ [41]=y2 at *
  generalize [40] ++ js=y1 at *
  simp only[strS]at hjs
  simp(maxSteps:=2000000) (disch:=omega)only[W_region,W_seq,seqQ_normal2,seqQ_exit2,blockW_exit2,WL_cons,execL_val2,execL_enter2,putL_some2,wantedA,exec1,evalO,T.get_set,callA,mapO,ofOpt,ofConst,reduceLT,if_true,true_and,List.nil_append,List.append_nil,T3,hf1]
  refine hjs _ _ ?_
  by_cases h1:1<l.length
  ·have hgt:decide ((l.length:Int) > 1)=true:=by rw[decide_eq_true_eq];omega
   rw[if_pos h1]at fin
   simp(maxSteps:=2000000) (disch:=omega)only[W_skip,W_region,W_seq,W_cond,W_ret,seqQ_normal2,seqQ_ret2,WL_nil2,WL_cons,execL_val2,putL_some2,retL_ret2,condW_t2,wantedA,exec1,evalO,T.get_set,callA,ofOpt,ofConst,neNil3,finW_ret,giveW,resultsA,tupA,fb_gtr,neNil9,reduceLT,reduceEqDiff,if_true,if_false,true_and,Bool.false_eq_true,ez_P,neNil3,neNil9,T3,hln,hgt,hc1,hc2]
   exact fin _ _ rfl
  ·have hgt:decide ((l.length:Int) > 1)=false:=by rw[decide_eq_false_iff_not];omega
   rw[if_neg h1]at fin
   simp(maxSteps:=2000000) (disch:=omega)only[W_skip,W_region,W_seq,W_cond,W_ret,seqQ_normal2,seqQ_ret2,WL_nil2,WL_cons,execL_val2,putL_some2,retL_ret2,condW_f2,wantedA,exec1,evalO,T.get_set,callA,ofOpt,ofConst,neNil3,finW_ret,giveW,resultsA,tupA,fb_gtr,neNil9,reduceLT,reduceEqDiff,if_true,if_false,true_and,Bool.false_eq_true,ez_P,neNil3,neNil9,T3,hln,hgt,hc1,hc2]
   exact fin _ _ rfl
theorem lt_u{v:AV}{l:List (List UInt8 × Int)}{S:St}{Q:R→Prop}(hv:isRowA 2 v (l.map lfA))(hok:∀x∈l,x.1.length≤30)(hl:l.length≤10)(h:Q (.ret (strS (leftF l)) S)):WC EZ 44 [v] S Q :=
 callZ (lt_k (clean v) l (lrow_cl hv).2 hok hl) (by kernel_rfl) (by show(freeV v && true)=true;rw[(lrow_cl hv).1];rfl) rfl fun a _ _ hs'=>by
  have:=hs' (clean v) l rfl (lrow_cl hv).2 hok hl
  subst this
  exact h
end Go.Ax
noncomputable section
open Nat (reduceLT reduceEqDiff)
namespace Go.Ax
open Go.RowKit Go.Proofs
set_option maxRecDepth 100000
theorem eq_k(lv:AV)(l:List (List UInt8 × Int))(async:Bool)(e:PX)(d:Nat)(hv:isRowA 2 lv (l.map lfA))(hok:∀x∈l,x.1.length≤30)(hl:l.length≤10)(ho:okX d e)(hd:d≤4):KnZ 24 [.agg (lv :: .v (.bool async) :: (exA e).cells)]:=by
 have fin:∀(x:List UInt8) (S':St),x=eqF l async e→∃a S'',R.ret (.v (.string ⟨⟨x⟩⟩)) S' = R.ret a S''∧freeV a=true∧SpecZ 24 [.agg (lv :: .v (.bool async) :: (exA e).cells)] (clean a):=fun x S' h=>by
  refine⟨_,_,rfl,rfl,?_⟩
  intro lv' l' as' e' d' q hv' _ _ _ _
  simp only[List.cons.injEq,and_true,AV.agg.injEq,AV.v.injEq,Value.bool.injEq]at q
  obtain⟨q1,q2,q3⟩:=q
  subst q1;subst q2
  have q4:e=e':=by
   refine exA_inj _ _ ?_
   obtain⟨c0,c1,c2,c3,c4,c5,h1⟩:=ex_agg e
   obtain⟨b0,b1,b2,b3,b4,b5,h2⟩:=ex_agg e'
   rw[h1,h2]at q3 ⊢
   exact congrArg AV.agg q3
  subst q4
  rw[← lrow_inj hv hv',← h]
  rfl
 have hll:=leftF_len hok hl
 have htl:=txt_len _ _ ho
 have hLB:=LB_le hd
 have hlt:=fun(S:St) (Q:R→Prop) h=>lt_u (S:=S) (Q:=Q) hv hok hl h
 have htx:=fun(S:St) (Q:R→Prop) h=>text_u (S:=S) (Q:=Q) ho hd h
 obtain⟨c0,c1,c2,c3,c4,c5,hagg⟩:=ex_agg e
 have hcl:(exA e).cells=[c0,c1,c2,c3,c4,c5]:=by rw[hagg];rfl
 rw[hcl]at fin ⊢
 rw[hagg]at htx
 unfold eqF at fin
 refine bodyZ Tryd.f24 (by kernel_rfl) (by kernel_rfl) (show(_:Nat)≤_ from by show(_:Nat)≤_;simp[Tryd.f24]) ?_
 obtain⟨fn1,hf1⟩:=fnz_44
 obtain⟨fn2,hf2⟩:=fnz_16
 generalize leftF l=lf at *
 generalize txt e=te at *
 have hc1:=fb_catS lf [32,61,32] (by first |omega | (simp only[List.length_cons,List.length_nil];omega))
 have hy1:(lf ++ [32,61,32]).length≤410:=(by first |omega | (simp only[List.length_append,List.length_cons,List.length_nil];omega))
 generalize lf ++ [32,61,32]=y1 at *
 have hc2:=fb_catS y1 [97,115,121,110,99,32] (by first |omega | (simp only[List.length_cons,List.length_nil];omega))
 simp only[strS]at *
 cases async with
 |true =>
  have hy2:(y1 ++ [97,115,121,110,99,32]).length≤420:=(by first |omega | (simp only[List.length_append,List.length_cons,List.length_nil];omega))
  rw[if_pos rfl]at fin
  generalize y1 ++ [97,115,121,110,99,32]=y2 at *
  have hc3:=fb_catS y2 te (by first |omega | (simp only[List.length_append,List.length_cons,List.length_nil];omega))
  generalize y2 ++ te=y3 at *
  simp(maxSteps:=2000000) (disch:=omega)only[W_region,W_seq,seqQ_normal2,WL_nil2,WL_cons,execL_val2,execL_enter2,putL_some2,wantedA,exec1,evalO,initT,T.get_set,T.get_leaf,callA,mapO,ofOpt,ofConst,reduceLT,reduceEqDiff,if_true,if_false,true_and,Option.getD_some,List.getElem?_cons_zero,List.nil_append,List.append_nil,nb_get,st0_get,st0_next,cl1_box,Nat.add_zero,noTup_agg,cells_agg,ez_P,cells_agg,initT,yl71,yfQ_0,nb_get,Tryd.f24,hf1]
  refine hlt _ _ ?_
  simp(maxSteps:=2000000) (disch:=omega)only[W_skip,W_region,W_seq,W_cond,seqQ_normal2,WL_nil2,WL_cons,execL_val2,execL_enter2,putL_some2,retL_ret2,condW_t2,wantedA,exec1,evalO,T.get_set,T.get_leaf,callA,mapO,ofOpt,ofConst,neNil9,reduceLT,Nat.reduceAdd,reduceEqDiff,if_true,if_false,true_and,List.getElem?_cons_succ,List.getElem?_cons_zero,List.nil_append,List.append_nil,Bool.false_eq_true,nb_get,st0_get,st0_next,cl1_box,clN_box,List.length_cons,List.length_nil,Nat.zero_add,Nat.reduceLeDiff,List.drop_zero,List.drop_succ_cons,List.take_succ_cons,List.take_zero,ez_P,neNil9,yl4,ylX,clN_box,List.getElem?_cons_succ,yfQ_1,yfQ_2,nb_get,hf2,hc1,hc2,ylX,yl4,clN_box]
  refine htx _ _ ?_
  simp(maxSteps:=2000000) (disch:=omega)only[W_ret,seqQ_normal2,WL_nil2,WL_cons,execL_val2,putL_some2,retL_ret2,wantedA,exec1,evalO,T.get_set,T.get_leaf,ofOpt,finW_ret,giveW,resultsA,tupA,neNil9,reduceLT,reduceEqDiff,if_true,if_false,true_and,Bool.false_eq_true,ez_P,neNil9,hc3]
  exact fin _ _ rfl
 |false =>
  rw[if_neg (by decide)]at fin
  have hc3:=fb_catS y1 te (by first |omega | (simp only[List.length_append,List.length_cons,List.length_nil];omega))
  generalize y1 ++ te=y3 at *
  simp(maxSteps:=2000000) (disch:=omega)only[W_region,W_seq,seqQ_normal2,WL_nil2,WL_cons,execL_val2,execL_enter2,putL_some2,wantedA,exec1,evalO,initT,T.get_set,T.get_leaf,callA,mapO,ofOpt,ofConst,reduceLT,reduceEqDiff,if_true,if_false,true_and,Option.getD_some,List.getElem?_cons_zero,List.nil_append,List.append_nil,nb_get,st0_get,st0_next,cl1_box,Nat.add_zero,noTup_agg,cells_agg,ez_P,cells_agg,initT,yl71,yfQ_0,nb_get,Tryd.f24,hf1]
  refine hlt _ _ ?_
  simp(maxSteps:=2000000) (disch:=omega)only[W_skip,W_region,W_seq,W_cond,seqQ_normal2,WL_nil2,WL_cons,execL_val2,execL_enter2,putL_some2,retL_ret2,condW_f2,wantedA,exec1,evalO,T.get_set,T.get_leaf,callA,mapO,ofOpt,ofConst,neNil9,reduceLT,Nat.reduceAdd,reduceEqDiff,if_true,if_false,true_and,List.getElem?_cons_succ,List.getElem?_cons_zero,List.nil_append,List.append_nil,Bool.false_eq_true,nb_get,st0_get,st0_next,cl1_box,clN_box,List.length_cons,List.length_nil,Nat.zero_add,Nat.reduceLeDiff,List.drop_zero,List.drop_succ_cons,List.take_succ_cons,List.take_zero,ez_P,neNil9,yl4,ylX,clN_box,List.getElem?_cons_succ,yfQ_1,yfQ_2,nb_get,hf2,hc1,hc2,ylX,yl4,clN_box]
  refine htx _ _ ?_
  simp(maxSteps:=2000000) (disch:=omega)only[W_ret,seqQ_normal2,WL_nil2,WL_cons,execL_val2,putL_some2,retL_ret2,wantedA,exec1,evalO,T.get_set,T.get_leaf,ofOpt,finW_ret,giveW,resultsA,tupA,neNil9,reduceLT,reduceEqDiff,if_true,if_false,true_and,Bool.false_eq_true,ez_P,neNil9,hc3]
  exact fin _ _ rfl
end Go.Ax
noncomputable section
open Nat (reduceLT reduceEqDiff)
namespace Go.Ax
open Go.RowKit Go.Proofs
set_option maxRecDepth 100000
theorem push_rows{P:Program}{t e sz bytes:Nat}(TT:RowT P t e sz bytes){E:Env}(hP:E.P=P)(hM:E.M t=0){S:St}{tok:Nat}{es:List AV}(h:RowO sz S tok es)(hn:2≤S.next)(x:AV)(ms:List AV)(tk2 o2:Nat)(hl:es.length+(x :: ms).length≤2000001):
  ∃S',appendE E S t t (.sl tok 0 sz es) (.sl tk2 o2 sz (x :: ms))=some (.sl S.next 0 sz (es ++ x :: ms),S')∧RowO sz S' S.next (es ++ x :: ms)∧S'.next=S.next+1∧∀id,id≠tok→id<S.next→S'.mem.get id=S.mem.get id:=by
 obtain⟨i,z,hi,hz0,hz1,hz2,hz3⟩:=TT.info
 have hfew:=TT.few
 have hpos:=TT.pos
 have hb0:(es.length+(x :: ms).length)*bytes≤2000001*1000:=Nat.mul_le_mul hl hfew
 have hb1:(es.length+(x :: ms).length)*bytes≤140737488355328:=by omega
 have hb2:es.length+(x :: ms).length≤9223372036854775807:=by omega
 have app:appendE E S t t (.sl tok 0 sz es) (.sl tk2 o2 sz (x :: ms))=oAppend P S t t (.sl tok 0 sz es) (.sl tk2 o2 sz (x :: ms)):=by
  unfold appendE;rw[hM,hP]
 rw[app]
 have hsz:i.size=sz:=hz2
 subst hsz
 subst hz3
 have hsrc:srcA P t i.size (.sl tk2 o2 i.size (x :: ms))=some (x :: ms):=by
  unfold srcA;rw[TT.un];simp
 rcases h with rfl | ⟨h1,h2,h3⟩
 ·refine⟨S.grown 1 ((es ++ x :: ms).length*i.size),?_,.inr ⟨hn,Nat.lt_succ_self _,?_⟩,rfl,fun id hne hid=>?_⟩
  ·unfold oAppend
   simp only[TT.el,hi,hz0,hsrc,hz1,beq_self_eq_true,Bool.true_and,hpos,decide_true,if_true,hb1,hb2,tipOk]
  ·show(S.mem.set S.next _).get S.next=_
   rw[T.get_set,if_pos rfl]
  ·show(S.mem.set S.next _).get id=_
   rw[T.get_set,if_neg (by omega)]
 ·obtain⟨k,rfl⟩:∃k,tok=k+2:=⟨tok - 2,by omega⟩
  refine⟨S.grown (k+2) ((es ++ x :: ms).length*i.size),?_,.inr ⟨hn,Nat.lt_succ_self _,?_⟩,rfl,fun id hne hid=>?_⟩
  ·unfold oAppend
   simp only[TT.el,hi,hz0,hsrc,hz1,beq_self_eq_true,Bool.true_and,hpos,decide_true,if_true,hb1,hb2,tipOk,h3,Nat.zero_add]
  ·show((S.mem.set (k+2) none).set S.next _).get S.next=_
   rw[T.get_set,if_pos rfl]
  ·show((S.mem.set (k+2) none).set S.next _).get id=_
   rw[T.get_set,if_neg (by omega),T.get_set,if_neg (by omega)]
theorem yuV:Tryd.prog.underlying 35=some (.slice 73):=by kernel_rfl
theorem yeV:elemT Tryd.prog 35=some (none,73):=by kernel_rfl
theorem yzeV:sizeT Tryd.prog 73=some 8:=by kernel_rfl
theorem yiV:(Tryd.prog.info? 73).map (fun i=>(i.zero.map fun z=>z.cells.size,i.size,decide (i.bytes≤1000)))=some (some 8,8,true):=by kernel_rfl
theorem ytV:∃bytes,RowT Tryd.prog 35 73 8 bytes:=rowT_of yeV yuV yiV (by decide)
theorem yrV_0:oBuildSlice Tryd.prog 35 0 []=some (.sl 1 0 8 []):=by kernel_rfl
theorem ynnV(S:St):oLen Tryd.prog S 35 .nils=some 0:=by simp[oLen,yuV]
theorem yuC:Tryd.prog.underlying 109=some (.slice 34):=by kernel_rfl
theorem yeC:elemT Tryd.prog 109=some (none,34):=by kernel_rfl
theorem yzeC:sizeT Tryd.prog 34=some 1:=by kernel_rfl
theorem ynC(S:St)(tok off:Nat)(es:List AV):oLen Tryd.prog S 109 (.sl tok off 1 es)=some es.length:=by simp[oLen,yuC]
theorem yxC(tok off:Nat)(es:List AV)(i:Nat)(h:i<es.length):oIndexAddr Tryd.prog 109 (.sl tok off 1 es) (.v (.int .i64 (i:Int)))=some (.ep es[i].cells):=by
 have h0:(0:Int)≤(i:Int):=by omega
 simp[oIndexAddr,h0,yeC,yzeC,h]
theorem ygN:isAggT Tryd.prog 37=some true:=by kernel_rfl
theorem yzN:sizeT Tryd.prog 37=some 6:=by kernel_rfl
theorem ylN(S:St)(p k:Nat):oLoad Tryd.prog S 37 (.ptr p k)=clN (S.mem.get p) k 6:=vldG ygN yzN S p k
theorem yleN(S:St)(cs:List AV):oLoad Tryd.prog S 37 (.ep cs)=if 6≤cs.length then some (.agg (cs.take 6))else none:=vldGE ygN yzN S cs
theorem ysN(S:St)(p k:Nat)(v:AV):oStore Tryd.prog S 37 (.ptr p k) v=vstB S (S.mem.get p) p k v 6:=vstG yzN S p k v
theorem yaN(S:St):oAlloc Tryd.prog S 37=some (.ptr S.next 0,S.newBox [.v (.string ⟨⟨[]⟩⟩),.v (.int .i64 0),.nils,.nils,.nils,.nils]):=by kernel_rfl
theorem yfN_0(p k:Nat):oFieldAddr Tryd.prog 37 (.ptr p k) 0=some (.ptr p (k+0)):=by kernel_rfl
theorem yfN_2(p k:Nat):oFieldAddr Tryd.prog 37 (.ptr p k) 2=some (.ptr p (k+2)):=by kernel_rfl
theorem yfN_3(p k:Nat):oFieldAddr Tryd.prog 37 (.ptr p k) 3=some (.ptr p (k+3)):=by kernel_rfl
theorem yfN_4(p k:Nat):oFieldAddr Tryd.prog 37 (.ptr p k) 4=some (.ptr p (k+4)):=by kernel_rfl
theorem yfN_5(p k:Nat):oFieldAddr Tryd.prog 37 (.ptr p k) 5=some (.ptr p (k+5)):=by kernel_rfl
theorem yg34:isAggT Tryd.prog 34=some false:=by kernel_rfl
theorem yl34(S:St)(p k:Nat):oLoad Tryd.prog S 34 (.ptr p k)=cl1 (S.mem.get p) k:=vldS yg34 S p k
theorem yle34(S:St)(c:AV)(cs:List AV):oLoad Tryd.prog S 34 (.ep (c :: cs))=some c:=vldSE yg34 S c cs
theorem yg35:isAggT Tryd.prog 35=some false:=by kernel_rfl
theorem yl35(S:St)(p k:Nat):oLoad Tryd.prog S 35 (.ptr p k)=cl1 (S.mem.get p) k:=vldS yg35 S p k
theorem neNil34s(tok off sz:Nat)(es:List AV):neNil Tryd.prog 34 (.sl tok off sz es) .nils=true:=by unfold neNil;rw[yuD]
theorem neNil71s(tok off sz:Nat)(es:List AV):neNil Tryd.prog 71 (.sl tok off sz es) .nils=true:=by unfold neNil;rw[yuL]
theorem neNil35s(tok off sz:Nat)(es:List AV):neNil Tryd.prog 35 (.sl tok off sz es) .nils=true:=by unfold neNil;rw[yuV]
theorem neNil55s(tok off sz:Nat)(es:List AV):neNil Tryd.prog 55 (.sl tok off sz es) .nils=true:=by unfold neNil;rw[yuP]
theorem acc_rows{t e sz bytes:Nat}(TT:RowT Tryd.prog t e sz bytes){E:Env}(hP:E.P=Tryd.prog)(hM:E.M t=0){S:St}{v:AV}{es:List AV}(h:Acc sz S v es)(hn:2≤S.next)(tk2 o2:Nat)(ns:List AV)(hl:es.length+ns.length≤2000000):
  ∃v' S',appendE E S t t v (.sl tk2 o2 sz ns)=some (v',S')∧Acc sz S' v' (es ++ ns)∧S.next≤S'.next∧∀id cs,2≤id→id<S.next→S.mem.get id=some (.box cs)→S'.mem.get id=some (.box cs):=by
 obtain⟨i,z,hi,hz0,hz1,hz2,hz3⟩:=TT.info
 have hfew:=TT.few
 have hpos:=TT.pos
 have hsz:i.size=sz:=hz2
 subst hsz
 subst hz3
 cases ns with
 |nil =>
  refine⟨v,S,?_,by rw[List.append_nil];exact h,Nat.le_refl _,fun _ _ _ _ h=>h⟩
  have hsrc:srcA Tryd.prog t i.size (.sl tk2 o2 i.size [])=some []:=by
   unfold srcA;rw[TT.un];simp
  unfold appendE
  rw[hM,hP]
  unfold oAppend
  rcases h with⟨rfl,rfl⟩ | ⟨tk,rfl,_⟩ <;> simp only[TT.el,hi,hz0,hsrc,hz1,beq_self_eq_true,Bool.true_and,hpos,decide_true,if_true]
 |cons x ms =>
  rcases h with⟨rfl,rfl⟩ | ⟨tk,rfl,h2⟩
  ·have hsrc:srcA Tryd.prog t i.size (.sl tk2 o2 i.size (x :: ms))=some (x :: ms):=by
    unfold srcA;rw[TT.un];simp
   have hb0:(x :: ms).length*i.bytes≤2000001*1000:=Nat.mul_le_mul (by simp at hl ⊢;omega) hfew
   have hb1:(x :: ms).length*i.bytes≤140737488355328:=by omega
   have hb2:(x :: ms).length≤9223372036854775807:=by simp at hl ⊢;omega
   refine⟨.sl S.next 0 i.size (x :: ms),S.grown 1 ((x :: ms).length*i.size),?_,.inr ⟨S.next,rfl,.inr ⟨hn,Nat.lt_succ_self _,?_⟩⟩,Nat.le_succ _,fun id cs h1 h2 h3=>?_⟩
   ·unfold appendE
    rw[hM,hP]
    unfold oAppend
    simp only[TT.el,hi,hz0,hsrc,hz1,beq_self_eq_true,Bool.true_and,hpos,decide_true,if_true,hb1,hb2]
   ·show(S.mem.set S.next _).get S.next=_
    rw[T.get_set,if_pos rfl];rfl
   ·show(S.mem.set S.next _).get id=_
    rw[T.get_set,if_neg (by omega)];exact h3
  ·obtain⟨S',a1,a2,a3,a4⟩:=push_rows TT hP hM h2 hn x ms tk2 o2 (by simp at hl ⊢;omega)
   refine⟨_,S',a1,.inr ⟨_,rfl,a2⟩,by omega,fun id cs h1 h3 h4=>?_⟩
   have hne:id≠tk:=fun e=>by
    subst e
    rcases h2 with h | ⟨_,_,h⟩
    ·omega
    ·rw[h]at h4;cases h4
   rw[a4 id hne h3];exact h4
theorem clone37_k(es:List AV)(hf:freeL es=true)(hc:cleanL es=es)(hl:es.length≤10):KnZ 37 [.sl 0 0 6 es]:=by
 have fin:∀(v:AV) (S S':St),Acc 6 S v es→v≠.nils→∃a S'',R.ret v S' = R.ret a S''∧freeV a=true∧SpecZ 37 [.sl 0 0 6 es] (clean a):=fun v S S' h hv=>by
  rcases h with⟨h,_⟩ | ⟨tk,rfl,_⟩
  ·exact absurd h hv
  refine⟨_,_,rfl,hf,?_⟩
  intro es' q _ _ _
  simp only[List.cons.injEq,and_true,AV.sl.injEq,true_and]at q
  subst q
  show AV.sl 0 0 6 (cleanL es)=_
  rw[hc]
 obtain⟨bytes,hrt⟩:=ytD
 obtain⟨v',S',happ,hA,_,_⟩:=acc_rows (E:=EZ) hrt rfl rfl (Acc.new 6 St0) (Nat.le_refl _) 0 0 es (by simp only[List.length_nil];omega)
 rw[List.nil_append]at hA
 have hv:v'≠.nils:=fun e=>by
  subst e
  rcases hA with⟨_,h⟩ | ⟨_,h,_⟩
  ·subst h
   have h2:appendE EZ St0 34 34 (.sl 1 0 6 []) (.sl 0 0 6 [])=some (.sl 1 0 6 [],St0):=by kernel_rfl
   rw[h2]at happ;cases happ
  ·cases h
 refine bodyZ Tryd.f37 (by kernel_rfl) (by kernel_rfl) (show(_:Nat)≤_ from by show(_:Nat)≤_;simp[Tryd.f37]) ?_
 simp(maxSteps:=2000000) (disch:=omega)only[W_skip,W_region,W_seq,W_cond,W_ret,seqQ_normal2,seqQ_ret2,WL_nil2,WL_cons,execL_val2,putL_some2,condW_f2,wantedA,exec1,evalO,initT,T.get_set,T.get_leaf,callA,ofOpt,ofOptS,ofConst,partsA,finW_ret,giveW,resultsA,tupA,reduceLT,reduceEqDiff,if_true,if_false,true_and,Option.getD_some,ez_P,ez_G,initT,Tryd.f37,neNil34s,yrD_0,happ]
 exact fin _ _ _ hA hv
theorem clone39_k(es:List AV)(hf:freeL es=true)(hc:cleanL es=es)(hl:es.length≤10):KnZ 39 [.sl 0 0 2 es]:=by
 have fin:∀(v:AV) (S S':St),Acc 2 S v es→v≠.nils→∃a S'',R.ret v S' = R.ret a S''∧freeV a=true∧SpecZ 39 [.sl 0 0 2 es] (clean a):=fun v S S' h hv=>by
  rcases h with⟨h,_⟩ | ⟨tk,rfl,_⟩
  ·exact absurd h hv
  refine⟨_,_,rfl,hf,?_⟩
  intro es' q _ _ _
  simp only[List.cons.injEq,and_true,AV.sl.injEq,true_and]at q
  subst q
  show AV.sl 0 0 2 (cleanL es)=_
  rw[hc]
 obtain⟨bytes,hrt⟩:=ytL
 obtain⟨v',S',happ,hA,_,_⟩:=acc_rows (E:=EZ) hrt rfl rfl (Acc.new 2 St0) (Nat.le_refl _) 0 0 es (by simp only[List.length_nil];omega)
 rw[List.nil_append]at hA
 have hv:v'≠.nils:=fun e=>by
  subst e
  rcases hA with⟨_,h⟩ | ⟨_,h,_⟩
  ·subst h
   have h2:appendE EZ St0 71 71 (.sl 1 0 2 []) (.sl 0 0 2 [])=some (.sl 1 0 2 [],St0):=by kernel_rfl
   rw[h2]at happ;cases happ
  ·cases h
 refine bodyZ Tryd.f39 (by kernel_rfl) (by kernel_rfl) (show(_:Nat)≤_ from by show(_:Nat)≤_;simp[Tryd.f39]) ?_
 simp(maxSteps:=2000000) (disch:=omega)only[W_skip,W_region,W_seq,W_cond,W_ret,seqQ_normal2,seqQ_ret2,WL_nil2,WL_cons,execL_val2,putL_some2,condW_f2,wantedA,exec1,evalO,initT,T.get_set,T.get_leaf,callA,ofOpt,ofOptS,ofConst,partsA,finW_ret,giveW,resultsA,tupA,reduceLT,reduceEqDiff,if_true,if_false,true_and,Option.getD_some,ez_P,ez_G,initT,Tryd.f39,neNil71s,yrL_0,happ]
 exact fin _ _ _ hA hv
theorem clone37_u{es:List AV}{tok off:Nat}(hf:freeL es=true)(hc:cleanL es=es)(hl:es.length≤10){E:Env}(hE:E.I 37=some (pureG gZ Tryd.prog SpecZ 37)){S:St}{Q:R→Prop}(h:Q (.ret (.sl 0 0 6 es) S)):WC E 37 [.sl tok off 6 es] S Q:=by
 obtain⟨a,ha,hka⟩:=pureG_is (P:=Tryd.prog) (Spec:=SpecZ) (G:=gZ) (k:=37) (args:=[.sl tok off 6 es]) (by show(freeL es && true)=true;rw[hf];rfl) (by show ∃a,KnG gZ Tryd.prog SpecZ 37 [.sl 0 0 6 (cleanL es)] a;rw[hc];exact clone37_k es hf hc hl)
 refine WC_known hE ?_
 rw[ha S]
 have hs:=hka.spec es (by show [AV.sl 0 0 6 (cleanL es)]=_;rw[hc]) hf hc hl
 subst hs
 exact h
theorem clone39_u{es:List AV}{tok off:Nat}(hf:freeL es=true)(hc:cleanL es=es)(hl:es.length≤10){E:Env}(hE:E.I 39=some (pureG gZ Tryd.prog SpecZ 39)){S:St}{Q:R→Prop}(h:Q (.ret (.sl 0 0 2 es) S)):WC E 39 [.sl tok off 2 es] S Q:=by
 obtain⟨a,ha,hka⟩:=pureG_is (P:=Tryd.prog) (Spec:=SpecZ) (G:=gZ) (k:=39) (args:=[.sl tok off 2 es]) (by show(freeL es && true)=true;rw[hf];rfl) (by show ∃a,KnG gZ Tryd.prog SpecZ 39 [.sl 0 0 2 (cleanL es)] a;rw[hc];exact clone39_k es hf hc hl)
 refine WC_known hE ?_
 rw[ha S]
 have hs:=hka.spec es (by show [AV.sl 0 0 2 (cleanL es)]=_;rw[hc]) hf hc hl
 subst hs
 exact h
theorem sp_28:EZ.I 28=none:=by
 show(Bool.rec (Bool.rec (Bool.rec none (some (growI 6)) (Nat.beq 28 50)) (some joinB) (Nat.beq 28 43)) (some (pureG gZ Tryd.prog SpecZ 28)) (knz 28):Option (List AV→St→R))=_
 rw[show knz 28=false from by decide]
 rfl
theorem i109_0(a b c:AV):oIndexAddr Tryd.prog 109 (.sl 1 0 1 [a,b,c]) (.v (.int .i64 0))=some (.ep a.cells):=yxC 1 0 [a,b,c] 0 (by simp)
theorem i109_1(a b c:AV):oIndexAddr Tryd.prog 109 (.sl 1 0 1 [a,b,c]) (.v (.int .i64 1))=some (.ep b.cells):=yxC 1 0 [a,b,c] 1 (by simp)
theorem i109_2(a b c:AV):oIndexAddr Tryd.prog 109 (.sl 1 0 1 [a,b,c]) (.v (.int .i64 2))=some (.ep c.cells):=yxC 1 0 [a,b,c] 2 (by simp)
theorem l109(S:St)(a b c:AV):oLen Tryd.prog S 109 (.sl 1 0 1 [a,b,c])=some 3:=ynC S 1 0 [a,b,c]
theorem yrC_3(a b c:List AV):oBuildSlice Tryd.prog 109 3 [(0,.sl 0 0 6 a),(1,.sl 0 0 6 b),(2,.sl 0 0 6 c)]=some (.sl 1 0 1 [.sl 0 0 6 a,.sl 0 0 6 b,.sl 0 0 6 c]):=by kernel_rfl
theorem concat_w(ea eb ec:List AV)(ha:ea.length≤10)(hb:eb.length≤10)(hc:ec.length≤10)(S:St)(hS:2≤S.next):WC EZ 28 [.sl 1 0 1 [.sl 0 0 6 ea,.sl 0 0 6 eb,.sl 0 0 6 ec]] S (fun r=>∃v S',r=.ret v S'∧Acc 6 S' v ((ea ++ eb) ++ ec)):=by
 obtain⟨bytes,hrt⟩:=ytD
 obtain⟨fn1,hf1⟩:∃fn,EZ.F 50=some fn:=fnz_50
 have w1:IntKind.i64.wrap (0+(ea.length:Int))=(ea.length:Int):=by rw[wrap_small _ (by omega)];omega
 have w2:IntKind.i64.wrap ((ea.length:Int)+(eb.length:Int))=((ea.length+eb.length:Nat):Int):=by rw[wrap_small _ (by omega)];omega
 have w3:IntKind.i64.wrap (((ea.length+eb.length:Nat):Int)+(ec.length:Int))=((ea.length+eb.length+ec.length:Nat):Int):=by rw[wrap_small _ (by omega)];omega
 have e1:decide ((ea.length:Int)<0)=false:=by rw[decide_eq_false_iff_not];omega
 have e2:decide (((ea.length+eb.length:Nat):Int)<0)=false:=by rw[decide_eq_false_iff_not];omega
 have e3:decide (((ea.length+eb.length+ec.length:Nat):Int)<0)=false:=by rw[decide_eq_false_iff_not];omega
 have k0:IntKind.i64.wrap 1=1:=by decide
 have k1:IntKind.i64.wrap 2=2:=by decide
 have k2:IntKind.i64.wrap 3=3:=by decide
 have k3:True:=trivial
 have d0:decide ((0:Int)<((3:Nat):Int))=true:=by decide
 have d1:decide ((1:Int)<((3:Nat):Int))=true:=by decide
 have d2:decide ((2:Int)<((3:Nat):Int))=true:=by decide
 have d3:decide ((3:Int)<((3:Nat):Int))=false:=by decide
 have hg:∃v0 S0,growI 6 [.nils,.v (.int .i64 ((ea.length+eb.length+ec.length:Nat):Int))] S=.ret v0 S0∧Acc 6 S0 v0 []∧2≤S0.next:=by
  by_cases hz:((ea.length+eb.length+ec.length:Nat):Int)=0
  ·exact⟨.nils,S,by unfold growI;simp only;rw[if_pos hz],Acc.none 6 S,hS⟩
  ·refine⟨.sl S.next 0 6 [],⟨S.next+1,S.mem.set S.next (some (.tip 0))⟩,by unfold growI;simp only;rw[if_neg hz,if_pos ⟨by omega,by omega,by decide⟩],.inr ⟨S.next,rfl,.inr ⟨hS,Nat.lt_succ_self _,?_⟩⟩,by show 2≤S.next+1;omega⟩
   show(S.mem.set S.next _).get S.next=_
   rw[T.get_set,if_pos rfl];rfl
 obtain⟨v0,S0,hg,hA0,hn0⟩:=hg
 obtain⟨v1,S1,h1,hA1,hn1,_⟩:=acc_rows (E:=EZ) hrt rfl rfl hA0 hn0 0 0 ea (by simp only[List.length_nil];omega)
 obtain⟨v2,S2,h2,hA2,hn2,_⟩:=acc_rows (E:=EZ) hrt rfl rfl hA1 (by omega) 0 0 eb (by simp only[List.length_append,List.length_nil];omega)
 obtain⟨v3,S3,h3,hA3,hn3,_⟩:=acc_rows (E:=EZ) hrt rfl rfl hA2 (by omega) 0 0 ec (by simp only[List.length_append,List.length_nil];omega)
 rw[List.nil_append]at hA3
 refine WC_fn Tryd.f28 sp_28 (by kernel_rfl) (by kernel_rfl) (show(_:Nat)≤_ from by show(_:Nat)≤_;simp[Tryd.f28]) ?_
 clear hA0 hA1 hA2
 simp(maxSteps:=2000000) (disch:=omega)only[W_region,W_seq,W_block,W_loop,seqQ_normal2,WL_nil2,WL_cons,execL_val2,putL_some2,wantedA,exec1,evalO,initT,T.get_set,T.get_leaf,callA,ofOpt,ofConst,reduceLT,reduceEqDiff,if_true,if_false,true_and,Option.getD_some,List.append_assoc,ez_P,initT,Tryd.f28,l109]
 iterate 4
  refine WX_loop (W_sound ?_)
  simp(maxSteps:=2000000) (disch:=omega)only[thenW_normal,thenW_exit,W_skip,W_region,W_seq,W_cond,W_block,W_exit,seqQ_normal2,seqQ_exit2,blockW_normal2,blockW_exit2,WL_nil2,WL_cons,execL_val2,execL_enter2,putL_some2,condW_t2,condW_f2,wantedA,exec1,evalO,T.get_set,T.get_leaf,callA,mapO,ofOpt,ofConst,neNil3,fb_lss,fb_add,reduceLT,reduceEqDiff,if_true,if_false,true_and,List.nil_append,List.append_nil,Bool.false_eq_true,cells_sl,ez_P,neNil3,yle34,i109_0,i109_1,i109_2,ynD,k0,k1,k2,d0,d1,d2,d3,w1,w2,w3,e1,e2,e3,Int.reduceAdd,hf1]
 refine WC_known ez_grow ?_
 rw[hg]
 simp(maxSteps:=2000000) (disch:=omega)only[W_region,W_seq,W_block,W_loop,seqQ_normal2,WL_nil2,WL_cons,execL_val2,putL_some2,retL_ret2,wantedA,exec1,evalO,T.get_set,T.get_leaf,callA,ofOpt,ofConst,reduceLT,reduceEqDiff,if_true,if_false,true_and,ez_P,l109]
 iterate 4
  refine WX_loop (W_sound ?_)
  simp(maxSteps:=2000000) (disch:=omega)only[thenW_normal,thenW_exit,W_skip,W_region,W_seq,W_cond,W_block,W_exit,W_ret,seqQ_normal2,seqQ_exit2,blockW_normal2,blockW_exit2,WL_nil2,WL_cons,execL_val2,putL_some2,condW_t2,condW_f2,wantedA,exec1,evalO,T.get_set,T.get_leaf,callA,ofOpt,ofOptS,ofConst,neNil3,finW_ret,giveW,resultsA,tupA,fb_lss,fb_add,reduceLT,reduceEqDiff,if_true,if_false,true_and,Bool.false_eq_true,cells_sl,ez_P,neNil3,yle34,i109_0,i109_1,i109_2,k0,k1,k2,d0,d1,d2,d3,Int.reduceAdd,h1,h2,h3]
 exact⟨_,_,rfl,by rw[← List.append_assoc];exact hA3⟩
theorem eqX_fr(q:EqX):freeV (eqX q)=true∧clean (eqX q)=eqX q:=by
 obtain⟨c0,c1,c2,c3,c4,c5,hagg⟩:=ex_agg q.e
 have h:=eq_clean (lv:=.sl 0 0 2 (q.left.map lfA)) (l:=q.left) (bo:=q.async) hagg ⟨(lf_fr _).1,by show AV.sl 0 0 2 (cleanL _)=_;rw[(lf_fr _).2]⟩
 have e:eqX q=.agg [.sl 0 0 2 (q.left.map lfA),.v (.bool q.async),c0,c1,c2,c3,c4,c5]:=by unfold eqX;rw[hagg];rfl
 rw[e]
 refine⟨h.1,h.2.trans ?_⟩
 exact e
theorem eqL_fr:∀l:List EqX,freeL (l.map eqX)=true∧cleanL (l.map eqX)=l.map eqX
 | []=>⟨rfl,rfl⟩
 |x :: r=>by
  obtain⟨h1,h2⟩:=eqL_fr r
  obtain⟨h3,h4⟩:=eqX_fr x
  exact⟨by show(freeV (eqX x) && freeL (r.map eqX))=true;rw[h1,h3];rfl,by show clean (eqX x) :: cleanL (r.map eqX)=_;rw[h2,h4];rfl⟩
theorem eqRow_fr(l:List EqX):freeV (eqRow l)=true∧clean (eqRow l)=eqRow l:=by
 cases l with
 |nil=>exact⟨rfl,rfl⟩
 |cons x r=>exact⟨(eqL_fr (x :: r)).1,by show AV.sl 0 0 8 (cleanL _)=_;rw[(eqL_fr (x :: r)).2];rfl⟩
theorem ndA_fr(n:NdX):freeV (ndA n)=true∧clean (ndA n)=ndA n:=by
 refine⟨?_,?_⟩
 ·show(true && (true && (freeL (n.ins.map dcA) && (freeL (n.outs.map dcA) && (freeL (n.vars.map dcA) && (freeV (eqRow n.eqs) && true))))))=true
  rw[(dc_free _).1,(dc_free _).1,(dc_free _).1,(eqRow_fr _).1];rfl
 ·show AV.agg [_,_,.sl 0 0 6 (cleanL (n.ins.map dcA)),.sl 0 0 6 (cleanL (n.outs.map dcA)),.sl 0 0 6 (cleanL (n.vars.map dcA)),clean (eqRow n.eqs)]=_
  rw[(dc_free _).2,(dc_free _).2,(dc_free _).2,(eqRow_fr _).2];rfl
theorem ndA_all{n m:NdX}(h:ndA n=ndA m):allD n=allD m:=by
 unfold ndA ndC at h
 simp only[AV.agg.injEq,List.cons.injEq,AV.sl.injEq,and_true,true_and]at h
 obtain⟨_,_,h1,h2,h3,_⟩:=h
 unfold allD
 rw[dcL_inj h1,dcL_inj h2,dcL_inj h3]
theorem all_k(n:NdX)(hn:okNd n):KnZ 15 [ndA n]:=by
 have fin:∀(v:AV) (S S':St),Acc 6 S v ((allD n).map dcA)→∃a S'',R.ret v S' = R.ret a S''∧freeV a=true∧SpecZ 15 [ndA n] (clean a):=fun v S S' h=>by
  refine⟨v,S',rfl,?_,?_⟩
  ·rcases h with⟨rfl,_⟩ | ⟨tk,rfl,_⟩
   ·rfl
   ·exact(dc_free _).1
  ·intro n' q _
   simp only[List.cons.injEq,and_true]at q
   rw[← ndA_all q]
   rcases h with⟨rfl,h⟩ | ⟨tk,rfl,_⟩
   ·exact .inl ⟨rfl,h⟩
   ·refine .inr ⟨0,0,?_⟩
    show AV.sl 0 0 6 (cleanL _)=_
    rw[(dc_free _).2]
 have hm:(allD n).map dcA=(n.ins.map dcA ++ n.outs.map dcA) ++ n.vars.map dcA:=by unfold allD;rw[List.map_append,List.map_append]
 rw[hm]at fin
 obtain⟨_,⟨l1,_⟩,⟨l2,_⟩,⟨l3,_⟩,_⟩:=hn
 have hcat:=fun S hS=>concat_w (n.ins.map dcA) (n.outs.map dcA) (n.vars.map dcA) (by rw[List.length_map];omega) (by rw[List.length_map];omega) (by rw[List.length_map];omega) S hS
 obtain⟨fn1,hf1⟩:∃fn,EZ.F 28=some fn:=fnz_28
 have hnd:ndA n=.agg [.v (.string ⟨⟨n.name⟩⟩),.v (.int .i64 n.at_),.sl 0 0 6 (n.ins.map dcA),.sl 0 0 6 (n.outs.map dcA),.sl 0 0 6 (n.vars.map dcA),eqRow n.eqs]:=rfl
 rw[hnd]at fin ⊢
 refine bodyZ Tryd.f15 (by kernel_rfl) (by kernel_rfl) (show(_:Nat)≤_ from by show(_:Nat)≤_;simp[Tryd.f15]) ?_
 generalize n.ins.map dcA=ea at *
 generalize n.outs.map dcA=eb at *
 generalize n.vars.map dcA=ec at *
 generalize eqRow n.eqs=er at *
 simp(maxSteps:=2000000) (disch:=omega)only[W_region,W_seq,seqQ_normal2,WL_nil2,WL_cons,execL_val2,execL_enter2,putL_some2,wantedA,exec1,evalO,initT,T.get_set,T.get_leaf,callA,mapO,ofOpt,ofConst,partsA,reduceLT,reduceEqDiff,if_true,if_false,true_and,Option.getD_some,List.getElem?_cons_succ,List.getElem?_cons_zero,List.nil_append,List.append_nil,nb_get,st0_get,st0_next,cl1_box,Nat.zero_add,noTup_agg,cells_agg,ez_P,cells_agg,initT,List.getElem?_cons_succ,yfN_2,yfN_3,yfN_4,yl34,nb_get,Tryd.f15,hf1,yrC_3]
 refine WC.mono (hcat _ (by simp only[nb_next,st0_next];omega)) ?_
 rintro _ ⟨v,S',rfl,hA⟩
 simp(maxSteps:=2000000) (disch:=omega)only[W_ret,seqQ_normal2,WL_nil2,WL_cons,execL_val2,putL_some2,retL_ret2,wantedA,exec1,evalO,T.get_set,T.get_leaf,ofOpt,finW_ret,giveW,resultsA,tupA,reduceLT,reduceEqDiff,if_true,if_false,true_and]
 exact fin _ _ _ hA
theorem all_u{n:NdX}(hn:okNd n){S:St}{Q:R→Prop}(h:∀v,isRowA 6 v ((allD n).map dcA)→Q (.ret v S)):WC EZ 15 [ndA n] S Q :=
 callZ (args':=[ndA n]) (all_k n hn) (by kernel_rfl) (by show(freeV (ndA n) && true)=true;rw[(ndA_fr n).1];rfl) (by show [clean (ndA n)]=_;rw[(ndA_fr n).2]) fun x _ _ hs=>h x (hs n rfl hn)
end Go.Ax
noncomputable section
namespace Go.Ax
open Go.RowKit Go.Proofs
set_option maxRecDepth 100000
def RL(γ γ2:Gh)(w:World)(l m:List AV):Prop:=l.length=m.length∧∀(k:Nat) (a c:AV),l[k]? = some a→m[k]? = some c→∀u,VR γ w a u→VR γ2 w c u
theorem RL.nil(γ γ2:Gh)(w:World):RL γ γ2 w [] []:=⟨rfl,fun k a c h=>by simp at h⟩
theorem RL.cons{γ γ2:Gh}{w:World}{a c:AV}{l m:List AV}(h:∀u,VR γ w a u→VR γ2 w c u)(h2:RL γ γ2 w l m):RL γ γ2 w (a :: l) (c :: m):=⟨by rw[List.length_cons,List.length_cons,h2.1],fun k a' c' h3 h4=>by
 cases k with
 |zero=>simp at h3 h4;subst h3;subst h4;exact h
 |succ k=>exact h2.2 k a' c' (by simpa using h3) (by simpa using h4)⟩
theorem RL.app{γ γ2:Gh}{w:World}:∀{l m l2 m2:List AV},RL γ γ2 w l m→RL γ γ2 w l2 m2→RL γ γ2 w (l ++ l2) (m ++ m2)
 | [],[],_,_,_,h=>h
 |a :: l,c :: m,_,_,h1,h=>RL.cons (h1.2 0 a c rfl rfl) (RL.app (l:=l) (m:=m) ⟨by simpa using h1.1,fun k a' c' h3 h4=>h1.2 (k+1) a' c' (by simpa using h3) (by simpa using h4)⟩ h)
 | [],_ :: _,_,_,h1,h=>by cases h1.1
 |_ :: _,[],_,_,h1,h=>by cases h1.1
theorem vr_v{γ γ2:Gh}{w:World}(x:Value):∀u,VR γ w (.v x) u→VR γ2 w (.v x) u:=fun u h=>by cases h with |v _ h=>exact .v _ h
structure FzOk(base:Nat)(w0:World)(γ:Gh)(S:St)(w:World)(γ2:Gh):Prop where
 sr:SR base w0 γ S w
 im:∀b o,γ.im b o→γ2.im b o
 bx:∀id cs b s,S.mem.get id=some (.box cs)→γ.loc id=some (b,s)→∀o,o<cs.length→γ2.im b o
section
variable {base:Nat} {w0 w:World} {γ γ2:Gh} {S:St}
theorem cell_arrZ{W:World}{b o:Nat}{arr:Array Value}{T:TypeId}{fr:Nat × Nat}(ha:W.heap[b]? = some (.cells arr T fr)):W.cell? ⟨b,o,none⟩=arr[o]?:=by
 unfold World.cell?
 simp[ha]
theorem bs_fz(H:FzOk base w0 γ S w γ2){id sz:Nat}{es:List AV}(hm:S.mem.get id=some (.box (flat es)))(q0:∀x∈flat es,freeV x=true∧clean x=x)(q3:∀e∈es,e.cells.length=sz)(q4:∀x∈flat es,x.one=true){u:Value}(hu:VR γ w (.bs id 0 es.length sz) u):VR γ2 w (.sl 0 0 sz es) u:=by
 cases hu with
 |bs _ _ _ _ b s cap hl hc hsz hb =>
  obtain⟨b',s',l1,l2,hs0,hni,hone,arr,T,x,y,ha,hx,hr⟩:=H.sr.live id _ hm
  rw[hl]at l1
  injection l1 with l1;injection l1 with e1 e2
  subst e1;subst e2
  have hbx:=H.bx id _ b s hm hl
  have hs0:s=0:=hs0
  subst hs0
  refine .sl 0 0 sz es b 0 cap (fun k=>x.getD k undef) hsz q3 q4 (fun k hk=>⟨by rw[Nat.zero_add];exact hbx k (by omega),?_⟩) (fun k hk=>?_) (fun h=>by omega) (fun h=>by omega) hc ?_
  ·have h2:k<x.length:=by rw[hr.1];omega
   rw[Nat.zero_add,cell_arrZ ha,← Array.getElem?_toList,hx,List.getElem?_append_left h2,List.getD_eq_getElem?_getD,List.getElem?_eq_getElem h2]
   rfl
  ·have h2:k<x.length:=by rw[hr.1];exact hk
   have:=hr.2 k hk h2
   obtain⟨f1,f2⟩:=q0 _ (List.getElem_mem hk)
   rw[List.getD_eq_getElem?_getD,List.getElem?_eq_getElem h2]
   have h4:=this.clean (fun b o h=>H.im b o h) f1
   rw[f2]at h4
   exact h4
  ·obtain⟨arr2,T2,fr2,g1,g2⟩:=hb
   exact⟨arr2,T2,fr2,g1,by simpa using g2⟩
end
def Frz(S:St)(a c:AV):Prop:=(∀(base:Nat) (w0 w:World) (γ γ2:Gh),FzOk base w0 γ S w γ2→∀u,VR γ w a u→VR γ2 w c u)∧freeV c=true∧clean c=c
theorem pureOfGZ{E:Env}(hE:E.Ok)(hI:IntrOk E)(hmix:E.P.follows .mixedOrders=true){Spec:FuncId→List AV→AV→Prop}{k:FuncId}{args:List AV}(fn:Func)(hF:E.F k=some fn)(hb:fn.body.isSome=true)(hl:args.length≤fn.ntmps)
  (h:W E fn.ntmps (fn.body.getD .skip) ⟨initT args 0,[]⟩ St0 (finW E fn.results.toList (fun r=>∃a S' c,r=.ret a S'∧Frz S' a c∧Spec k args c))):∃a,KnG E.G E.P Spec k args a:=by
 obtain⟨r,⟨m0,hm⟩,hq⟩:=W_sound h
 have hm:=hm m0 (Nat.le_refl _)
 obtain⟨c,hc⟩:=Option.isSome_iff_exists.1 hb
 rw[hc]at hm
 have give:∀(Q:R→Prop) (f:Fr) (S':St),giveW E fn.results.toList f S' Q→∃l,f.dfr=[]∧resultsA E f.tmps S' fn.results.toList=some l∧Q (.ret (tupA l) S'):=fun Q f S' hg=>by
  unfold giveW at hg
  split at hg
  ·rename_i l h1 h2;exact⟨l,h1,h2,hg⟩
  ·exact hg.elim
 have key:∃a S' c,stepF (noI2 E k) (run E (drawnNew E) m0) k args St0=.ret a S'∧Frz S' a c∧Spec k args c:=by
  have e:stepF (noI2 E k) (run E (drawnNew E) m0) k args St0=endA (noI2 E k) (run E (drawnNew E) m0) fn r:=by
   unfold stepF
   have h1:(noI2 E k).I k=none:=by show(if k=k then none else E.I k)=none;rw[if_pos rfl]
   have h2:(noI2 E k).F k=some fn:=hF
   rw[h1,h2]
   simp only[hc,if_pos hl]
   rw[show run E (drawnNew E) m0 fn.ntmps c ⟨initT args 0,[]⟩ St0=r from hm]
  rw[e]
  cases r with
  |fail=>exact hq.elim
  |out ee f' S' =>
   cases ee with
   |normal =>
    obtain⟨l,h1,h2,a,S2,c0,h3,h4⟩:=give (fun r=>∃a S' c,r=.ret a S'∧Frz S' a c∧Spec k args c) f' S' hq
    have h2':resultsA (noI2 E k) f'.tmps S' fn.results.toList=some l:=(results_noI E k _ _ _).trans h2
    exact⟨a,S2,c0,by simp only[endA,h1,giveA,h2'];exact h3,h4⟩
   |ret =>
    obtain⟨l,h1,h2,a,S2,c0,h3,h4⟩:=give (fun r=>∃a S' c,r=.ret a S'∧Frz S' a c∧Spec k args c) f' S' hq
    have h2':resultsA (noI2 E k) f'.tmps S' fn.results.toList=some l:=(results_noI E k _ _ _).trans h2
    exact⟨a,S2,c0,by simp only[endA,h1,giveA,h2'];exact h3,h4⟩
   |pan a =>
    obtain⟨_,_,_,_,hp,_⟩:=hq
    cases hp
   |exit id=>exact hq.elim
 obtain⟨a,S',c1,hst,hfz,hsp⟩:=key
 refine⟨c1,hfz.2.1,hfz.2.2,fun w im him hgr vs hv=>?_,hsp⟩
 have hS0:SR w.heap.size w ⟨fun _=>none,im⟩ St0 w:=⟨.refl _ _,Nat.le_refl _,him,fun _ _=>⟨rfl,rfl⟩,Nat.le_refl _,fun _ _ _ h=>(by cases h),fun _ _ h=>(by cases h),fun _ _ _ _ _ _ _ h=>(by cases h)⟩
 have hR:CodeOk E (run E (drawnNew E) m0):=run_sound hE hI (drawnNew_ok hE hmix) m0
 have hR':CodeOk (noI2 E k) (run E (drawnNew E) m0):=⟨hR.code,hR.loop⟩
 have hE':(noI2 E k).Ok:=⟨fun j fn h=>hE.fn j fn h⟩
 have hg:GR ⟨fun _=>none,im⟩ w (noI2 E k).G:=hgr
 have:=stepF_sound hE' (noI2_intr hI k) hR' w.heap.size w k args St0 (by rw[hst];intro e;cases e) ⟨fun _=>none,im⟩ w vs hS0 hg hv (by show(E.F k).isSome=true;rw[hF];rfl)
 rw[hst]at this
 refine this.mono fun e w' he=>?_
 obtain⟨γ',v,h1,h2,h3,rfl⟩:=he
 have hbx:∀id cs b s,S'.mem.get id=some (.box cs)→γ'.loc id=some (b,s)→w.heap.size≤b∧∀o,o<cs.length→∃v,w'.cell? ⟨b,o,none⟩=some v:=fun id cs b s hb hl=>by
  obtain⟨b',s',l1,l2,hs0,hni,hone,arr,T,x,y,ha,hx,hr⟩:=h1.live id _ hb
  rw[hl]at l1
  injection l1 with l1;injection l1 with e1 e2
  subst e1
  refine⟨l2,fun o hlt=>?_⟩
  have hlt2:o<x.length:=by rw[hr.1];exact hlt
  exact⟨x[o],by rw[cell_arrZ ha,← Array.getElem?_toList,hx,List.getElem?_append_left hlt2,List.getElem?_eq_getElem hlt2]⟩
 refine⟨v,⟨fun _=>none,fun b o=>γ'.im b o∨∃id cs s,S'.mem.get id=some (.box cs)∧γ'.loc id=some (b,s)∧o<cs.length⟩,rfl,h1.below,fun b o ho=>?_,fun b hlt o ho=>?_,fun γ2 h=>hfz.1 _ _ _ _ _ ⟨h1,fun b o ho=>h b o (.inl ho),fun id cs b s hb hl o ho=>h b o (.inr ⟨id,cs,s,hb,hl,ho⟩)⟩ _ h3⟩
 ·rcases ho with ho | ⟨id,cs,s,hb,hl,hlt⟩
  ·exact h1.imc b o ho
  ·exact(hbx id cs b s hb hl).2 o hlt
 ·rcases ho with ho | ⟨id,cs,s,hb,hl,hlt2⟩
  ·exact(h2.frame b hlt (fun id c s hm hl=>by cases hl)).2 o ho
  ·have:=(hbx id cs b s hb hl).1;omega
def EM:Env:={ P:=Tryd.prog,G:=gZ,F:=E1.F,I:=EZ.I,M:=fun t=>if t=55∨t=35 then 1 else 0 }
theorem em_P:EM.P=Tryd.prog:=_root_.id rfl
theorem em_G:EM.G=gZ:=_root_.id rfl
theorem em_ok:EM.Ok:=⟨fun k fn h=>e1_ok.fn k fn h⟩
theorem em_mix:EM.P.follows .mixedOrders=true:=e1_mix
theorem em_intr:IntrOk EM:=fun k g hk base w0 args S hne γ w vs hS hg hv=>ez_intr k g hk base w0 args S hne γ w vs hS hg hv
theorem em_I{k:Nat}(h:knz k=true):EM.I k=some (pureG gZ Tryd.prog SpecZ k):=ez_I h
theorem bodyM{k:FuncId}{args:List AV}(fn:Func)(hF:E1.F k=some fn)(hb:fn.body.isSome=true)(hl:args.length≤fn.ntmps)
  (h:W EM fn.ntmps (fn.body.getD .skip) ⟨initT args 0,[]⟩ St0 (finW EM fn.results.toList (fun r=>∃a S' c,r=.ret a S'∧Frz S' a c∧SpecZ k args c))):KnZ k args :=
 pureOfGZ em_ok em_intr em_mix fn hF hb hl h
theorem callM{k:FuncId}{args args':List AV}{S:St}{Q:R→Prop}(hk:KnZ k args')(hkn:knz k=true)(hf:freeL args=true)(hc:cleanL args=args')(h:∀a,freeV a=true→clean a=a→SpecZ k args' a→Q (.ret a S)):WC EM k args S Q:=by
 subst hc
 obtain⟨a,ha,hka⟩:=pureG_is (P:=Tryd.prog) (Spec:=SpecZ) hf hk
 refine WC_known (em_I hkn) ?_
 rw[ha S]
 exact h a hka.free hka.cln hka.spec
theorem fbNils:fastBin .eql .nils .nils=none:=rfl
def nilS(r:OR)(S:St)(x:Option AV):OR:=match x with
 |some .nils=>.val (.v (.bool true)) S
 |_=>r
theorem nilS_i(r:OR)(S:St):nilS r S (some .nils)=.val (.v (.bool true)) S:=_root_.id rfl
theorem eqOrN55(f:T AV)(S:St)(k:Nat)(dst:Option Tmp)(ty:TypeId)(pos:String)(af:Array Edge)(gd:Option (Nat × Bool)):
  eqOr Tryd.prog gZ f S { dst:=dst,op:=.binOp .eql 55 (.tmp k) (.const (.slice none 0 0)) 55,type:=ty,pos:=pos,after:=af,guard:=gd } .eql 55 .nils .nils =
  nilS (eqOrX Tryd.prog gZ f S { dst:=dst,op:=.binOp .eql 55 (.tmp k) (.const (.slice none 0 0)) 55,type:=ty,pos:=pos,after:=af,guard:=gd } .eql 55 .nils .nils) S (f.get k):=by
 unfold nilS
 split
 ·rename_i hf
  have h0:fastEq Tryd.prog .eql 55 .nils .nils=none:=by kernel_rfl
  unfold eqOr
  rw[h0]
  have hg:groundO gZ f (.tmp k)=some (.slice none 0 0):=by unfold groundO;simp only[evalO,hf];rfl
  have hc:groundO gZ f (.const (.slice none 0 0))=some (.slice none 0 0):=rfl
  unfold ground
  simp only[Op.operands,List.all_cons,List.all_nil,hg,hc,Option.isSome_some,Bool.and_self,if_true]
  have e:execOp (fun x=>(groundO gZ f x).getD undef) { dst:=dst,op:=.binOp .eql 55 (.tmp k) (.const (.slice none 0 0)) 55,type:=ty,pos:=pos,after:=af,guard:=gd }=execOp (fun _=>.slice none 0 0) { dst:=none,op:=.binOp .eql 55 (.tmp 3) (.const (.slice none 0 0)) 55,type:=4,pos := "", after:=#[],guard:=none }:=by
   simp only[execOp,hg,hc,Option.getD_some]
   rfl
  rw[e]
  have e3:(pureN Tryd.prog 4000 (execOp (fun _=>Value.slice none 0 0) { dst:=none,op:=.binOp .eql 55 (.tmp 3) (.const (.slice none 0 0)) 55,type:=4,pos := "", after:=#[],guard:=none }))=some (.bool true):=by kernel_rfl
  rw[e3];rfl
 ·rfl
theorem neNil55n:neNil Tryd.prog 55 .nils .nils=false:=by unfold neNil;rw[yuP]
theorem eqOrN35(f:T AV)(S:St)(k:Nat)(dst:Option Tmp)(ty:TypeId)(pos:String)(af:Array Edge)(gd:Option (Nat × Bool)):
  eqOr Tryd.prog gZ f S { dst:=dst,op:=.binOp .eql 35 (.tmp k) (.const (.slice none 0 0)) 35,type:=ty,pos:=pos,after:=af,guard:=gd } .eql 35 .nils .nils =
  nilS (eqOrX Tryd.prog gZ f S { dst:=dst,op:=.binOp .eql 35 (.tmp k) (.const (.slice none 0 0)) 35,type:=ty,pos:=pos,after:=af,guard:=gd } .eql 35 .nils .nils) S (f.get k):=by
 unfold nilS
 split
 ·rename_i hf
  have h0:fastEq Tryd.prog .eql 35 .nils .nils=none:=by kernel_rfl
  unfold eqOr
  rw[h0]
  have hg:groundO gZ f (.tmp k)=some (.slice none 0 0):=by unfold groundO;simp only[evalO,hf];rfl
  have hc:groundO gZ f (.const (.slice none 0 0))=some (.slice none 0 0):=rfl
  unfold ground
  simp only[Op.operands,List.all_cons,List.all_nil,hg,hc,Option.isSome_some,Bool.and_self,if_true]
  have e:execOp (fun x=>(groundO gZ f x).getD undef) { dst:=dst,op:=.binOp .eql 35 (.tmp k) (.const (.slice none 0 0)) 35,type:=ty,pos:=pos,after:=af,guard:=gd }=execOp (fun _=>.slice none 0 0) { dst:=none,op:=.binOp .eql 35 (.tmp 3) (.const (.slice none 0 0)) 35,type:=4,pos := "", after:=#[],guard:=none }:=by
   simp only[execOp,hg,hc,Option.getD_some]
   rfl
  rw[e]
  have e3:(pureN Tryd.prog 4000 (execOp (fun _=>Value.slice none 0 0) { dst:=none,op:=.binOp .eql 35 (.tmp 3) (.const (.slice none 0 0)) 35,type:=4,pos := "", after:=#[],guard:=none }))=some (.bool true):=by kernel_rfl
  rw[e3];rfl
 ·rfl
theorem neNil35n:neNil Tryd.prog 35 .nils .nils=false:=by unfold neNil;rw[yuV]
theorem appM55(S:St)(tok off:Nat)(e:AV)(es:List AV)(hl:(e :: es).length≤1000):appendE EM S 55 55 (.sl 1 0 6 []) (.sl tok off 6 (e :: es))=some (.bs S.next 0 (e :: es).length 6,S.newBox (flat (e :: es))):=by
 obtain⟨bytes,TT⟩:=ytP
 obtain⟨i,z,hi,hz0,hz1,hz2,hz3⟩:=TT.info
 have hfew:=TT.few
 have hb0:(e :: es).length*bytes≤1000*1000:=Nat.mul_le_mul hl hfew
 have hb1:(e :: es).length*i.bytes≤140737488355328:=by rw[hz3];omega
 have hb2:(e :: es).length≤9223372036854775807:=by omega
 have hz2:i.size=6:=hz2
 have hsrc:srcM Tryd.prog S 55 6 (.sl tok off 6 (e :: es))=some (e :: es):=by
  simp[srcM,srcA,yuP]
 have hz1':(z.cells.size == 6)=true:=by rw[← hz2,hz1];exact beq_self_eq_true _
 show(match oAppendM Tryd.prog S 55 55 (Nat.beq 0 1) (.sl 1 0 6 []) (.sl tok off 6 (e :: es))with |some r=>some r |none=>oAppend Tryd.prog S 55 55 (.sl 1 0 6 []) (.sl tok off 6 (e :: es)))=_
 have:oAppendM Tryd.prog S 55 55 (Nat.beq 0 1) (.sl 1 0 6 []) (.sl tok off 6 (e :: es))=some (.bs S.next 0 (e :: es).length 6,S.newBox (flat (e :: es))):=by
  unfold oAppendM
  simp only[yeP,hi,hz0,hz2,hsrc,hz1',hb1,hb2,beq_self_eq_true,Bool.and_self,decide_true,if_true,Nat.reduceLT]
 rw[this]
theorem nM55(S:St)(id n:Nat):oLen Tryd.prog S 55 (.bs id 0 n 6)=some n:=by simp[oLen,yuP]
theorem xM55(id i n:Nat)(h:i<n):oIndexAddr Tryd.prog 55 (.bs id 0 n 6) (.v (.int .i64 (i:Int)))=some (.ptr id (i*6)):=by
 have h0:(0:Int)≤(i:Int):=by omega
 have h1:(i:Int)<(n:Int):=by omega
 simp[oIndexAddr,h0,yeP,yzeP,h1]
theorem appM35(S:St)(tok off:Nat)(e:AV)(es:List AV)(hl:(e :: es).length≤1000):appendE EM S 35 35 (.sl 1 0 8 []) (.sl tok off 8 (e :: es))=some (.bs S.next 0 (e :: es).length 8,S.newBox (flat (e :: es))):=by
 obtain⟨bytes,TT⟩:=ytV
 obtain⟨i,z,hi,hz0,hz1,hz2,hz3⟩:=TT.info
 have hfew:=TT.few
 have hb0:(e :: es).length*bytes≤1000*1000:=Nat.mul_le_mul hl hfew
 have hb1:(e :: es).length*i.bytes≤140737488355328:=by rw[hz3];omega
 have hb2:(e :: es).length≤9223372036854775807:=by omega
 have hz2:i.size=8:=hz2
 have hsrc:srcM Tryd.prog S 35 8 (.sl tok off 8 (e :: es))=some (e :: es):=by
  simp[srcM,srcA,yuV]
 have hz1':(z.cells.size == 8)=true:=by rw[← hz2,hz1];exact beq_self_eq_true _
 show(match oAppendM Tryd.prog S 35 35 (Nat.beq 0 1) (.sl 1 0 8 []) (.sl tok off 8 (e :: es))with |some r=>some r |none=>oAppend Tryd.prog S 35 35 (.sl 1 0 8 []) (.sl tok off 8 (e :: es)))=_
 have:oAppendM Tryd.prog S 35 35 (Nat.beq 0 1) (.sl 1 0 8 []) (.sl tok off 8 (e :: es))=some (.bs S.next 0 (e :: es).length 8,S.newBox (flat (e :: es))):=by
  unfold oAppendM
  simp only[yeV,hi,hz0,hz2,hsrc,hz1',hb1,hb2,beq_self_eq_true,Bool.and_self,decide_true,if_true,Nat.reduceLT]
 rw[this]
theorem nM35(S:St)(id n:Nat):oLen Tryd.prog S 35 (.bs id 0 n 8)=some n:=by simp[oLen,yuV]
theorem xM35(id i n:Nat)(h:i<n):oIndexAddr Tryd.prog 35 (.bs id 0 n 8) (.v (.int .i64 (i:Int)))=some (.ptr id (i*8)):=by
 have h0:(0:Int)≤(i:Int):=by omega
 have h1:(i:Int)<(n:Int):=by omega
 simp[oIndexAddr,h0,yeV,yzeV,h1]
theorem flat_atZ{sz:Nat}:∀{es:List AV} (_:∀e∈es,e.cells.length=sz) (i:Nat) (h:i<es.length),(flat es).length=es.length*sz∧((flat es).drop (i*sz)).take sz=es[i].cells
 | [],_,i,h=>absurd h (Nat.not_lt_zero _)
 |e :: r,hs,i,h=>by
  have he:=hs e (List.mem_cons_self ..)
  have hr:∀x∈r,x.cells.length=sz:=fun x hx=>hs x (List.mem_cons_of_mem _ hx)
  have hlen:∀l:List AV,(∀x∈l,x.cells.length=sz)→(flat l).length=l.length*sz:=fun l=>by
   induction l with
   |nil=>intro _;simp[flat]
   |cons a l ih =>
    intro h
    rw[flat_cons,List.length_append,ih fun x hx=>h x (List.mem_cons_of_mem _ hx),h a (List.mem_cons_self ..),List.length_cons,Nat.add_mul];omega
  refine⟨hlen _ hs,?_⟩
  rw[flat_cons]
  cases i with
  |zero=>rw[Nat.zero_mul,List.drop_zero,List.take_left' he];rfl
  |succ i =>
   have h':i<r.length:=by simpa using h
   rw[Nat.add_mul,Nat.one_mul,Nat.add_comm,← List.drop_drop,List.drop_left' he]
   exact(flat_atZ hr i h').2
theorem ld_row{t sz:Nat}(h0:0<sz)(ha:isAggT Tryd.prog t=some true)(hz:sizeT Tryd.prog t=some sz){es:List AV}(hs:∀e∈es,e.cells.length=sz){S:St}{c:Nat}(hm:S.mem.get c=some (.box (flat es)))(i:Nat)(h:i<es.length):oLoad Tryd.prog S t (.ptr c (i*sz))=some (.agg es[i].cells):=by
 obtain⟨h1,h2⟩:=flat_atZ hs i h
 have h3:i*sz+sz≤es.length*sz:=by
  have:=Nat.mul_le_mul_right sz (show i+1≤es.length from h)
  rw[Nat.add_mul,Nat.one_mul]at this
  exact this
 obtain⟨m,rfl⟩:∃m,sz=m+1:=⟨sz - 1,by omega⟩
 rw[vldG ha hz,hm,clN_box,h2,if_pos (by rw[h1];exact h3)]
theorem st_same{t n:Nat}(hz:sizeT Tryd.prog t=some n){S:St}{c k:Nat}{cs:List AV}(v:AV)(hm:S.mem.get c=some (.box cs))(hn:v.noTup=true)(hv:v.cells.length=n)(hk:k+n≤cs.length)(he:(cs.drop k).take n=v.cells):oStore Tryd.prog S t (.ptr c k) v=some (S.to c cs):=by
 rw[vstG hz,hm]
 unfold vstB
 simp only[hn,hv,beq_self_eq_true,Bool.true_and,hk,decide_true,if_true]
 have:cs.take k ++ v.cells ++ cs.drop (k+n)=cs:=by
  rw[← he,List.append_assoc,← List.drop_drop]
  rw[List.take_append_drop,List.take_append_drop]
 rw[this];rfl
end Go.Ax
