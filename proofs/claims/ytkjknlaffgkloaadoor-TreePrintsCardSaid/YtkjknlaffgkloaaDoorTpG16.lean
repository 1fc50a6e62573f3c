/- TtSc -/
import Derived.Test.YtkjknlaffgkloaaDoorTpG15
set_option linter.unusedVariables false
set_option linter.unusedSimpArgs false
set_option maxHeartbeats 16000000
noncomputable section
open Nat (reduceLT reduceAdd reduceEqDiff reduceLeDiff)
namespace Go.Ax
open Go.RowKit Go.Proofs
set_option maxRecDepth 100000
def rawB(k a n:Int)(s:List UInt8)(o:Bool)(kv:AV):List AV:=[.v (.int .i64 k),.v (.int .i64 a),.v (.int .i64 n),.v (.string ⟨⟨s⟩⟩),.v (.bool o),kv]
theorem rawX_cases{v:AV}(h:RawX v):∃k a n s o kv,v=.agg (rawB k a n s o kv)∧okI n∧RawXs kv:=by
 cases h with
 |mk k a n s b kv hn h=>exact⟨k,a,n,s,b,kv,rfl,hn,h⟩
theorem rawX_mk(k a n:Int)(s:List UInt8)(o:Bool)(kv:AV)(hn:okI n)(h:RawXs kv):RawX (.agg (rawB k a n s o kv)):=.mk k a n s o kv hn h
theorem sl4_w{dp:Int}{z3 xs:List AV}{kv kr:AV}{es:List AV}{k a n:Int}{s:List UInt8}{o:Bool}{j:Nat}{t:T AV}{S:St}{Q:O→Prop}(hf:FrO dp t)(h9:t.get 9=some (.v (.int .i64 (j:Int))))(hm:MemO (rawB k a n s o kr) z3 xs kv es S)
  (hQ:∀(t':T AV) (S':St) (k' a' n':Int),okI n'→FrO dp t'→t'.get 84=t.get 84→t'.get 85=t.get 85→t'.get 9=t.get 9→t'.get 10=some (.ptr S.next 0)→MemO (rawB k a n s o kr) z3 xs kv es S'→S'.mem.get S.next=some (.box (rawB k' a' n' [] o .nils))→S'.next=S.next+1→Q (.out .normal ⟨t',[]⟩ S')):W EZ 157 sor4 ⟨t,[]⟩ S Q:=by
 have h2:=hf.t2
 have m2:=hm.m2
 have hn5:=hm.n
 have hok:okI (IntKind.i64.wrap (n+(j:Int))):=okI_wrap _
 have M1:=hm.nb [.v (.int .i64 0),.v (.int .i64 0),.v (.int .i64 0),.v (.string ⟨⟨[]⟩⟩),.v (.bool false),.nils]
 have M2:=fun zs=>M1.to (b:=S.next) hn5 (by rw[nb_get,if_pos rfl]) zs
 simp only[rawB]at m2
 simp(maxSteps:=2000000) (disch:=omega)only[W_region,WL_nil2,WL_cons,execL_val2,execL_skip2,putL_none2,putL_some2,wantedA,exec1,evalO,T.get_set,ofOpt,ofOptS,ofConst,partsA,neNil3,fb_add,reduceLT,reduceAdd,reduceEqDiff,if_true,if_false,true_and,List.getElem?_cons_succ,List.getElem?_cons_zero,List.nil_append,List.append_nil,Bool.false_eq_true,nb_get,cl1_box,vstB_agg,List.length_cons,List.length_nil,Nat.zero_add,Nat.add_zero,reduceLeDiff,List.drop_succ_cons,List.drop_nil,List.take_zero,and_self,ez_P,strS,neNil2,neNil3,yl2,yl3,yl4,List.getElem?_cons_succ,ysY,yaY,yfY_0,yfY_1,yfY_2,yfY_4,fb_mul,nb_get,sor4,soL,Tryd.f18,h2,h9,m2,ybY_4,strS]
 refine hQ _ _ (IntKind.i64.wrap (IntKind.i64.wrap (k+(j:Int))+1)) (IntKind.i64.wrap (IntKind.i64.wrap (a+IntKind.i64.wrap (3*(j:Int)))+1)) (IntKind.i64.wrap (n+(j:Int))) hok (hf.same ?_ ?_ ?_ ?_) ?_ ?_ ?_ ?_ (M2 _) ?_ ?_
 iterate 8 simp only[T.get_set,reduceEqDiff,if_true,if_false]
 ·simp only[to_get,if_true];rfl
 ·simp only[to_next,nb_next]
theorem sl5_w{dp:Int}{z3 xs:List AV}{kv kr:AV}{es:List AV}{k a n:Int}{s:List UInt8}{o:Bool}{j b:Nat}{k0 a0 n0:Int}{o0:Bool}{t:T AV}{S:St}{Q:O→Prop}(hf:FrO dp t)(h9:t.get 9=some (.v (.int .i64 (j:Int))))(h10:t.get 10=some (.ptr b 0))(hb:5≤b)(hn0:okI n0)(hkr:RawXs kr)(hm:MemO (rawB k a n s o kr) z3 xs kv es S)(mb:S.mem.get b=some (.box (rawB k0 a0 n0 [] o0 .nils)))
  (hQ:∀(t':T AV) (S':St) (k' a' n':Int) (s':List UInt8) (o':Bool) (kr':AV),okI n'→RawXs kr'→FrO dp t'→t'.get 84=t.get 84→t'.get 85=t.get 85→t'.get 9=t.get 9→t'.get 10=t.get 10→MemO (rawB k a n s o kr) z3 xs kv es S'→S'.mem.get b=some (.box (rawB k' a' n' s' o' kr'))→S'.next=S.next→Q (.out .normal ⟨t',[]⟩ S')):W EZ 157 sor5 ⟨t,[]⟩ S Q:=by
 have h2:=hf.t2
 have m2:=hm.m2
 have mb0:=mb
 have M2:=fun zs=>hm.to (b:=b) hb mb zs
 simp only[rawB]at m2 mb
 cases hkr with
 |nil =>
  have hl:oLen Tryd.prog S 61 .nils=some 0:=ynnR S
  have hlt:decide ((j:Int)<((0:Nat):Int))=false:=by rw[decide_eq_false_iff_not];omega
  simp(maxSteps:=2000000) (disch:=omega)only[W_skip,W_region,W_seq,W_cond,seqQ_normal2,WL_nil2,WL_cons,execL_val2,putL_some2,condW_f2,wantedA,exec1,evalO,T.get_set,callA,ofOpt,neNil3,fb_lss,reduceLT,reduceEqDiff,if_true,if_false,true_and,List.getElem?_cons_succ,List.getElem?_cons_zero,Bool.false_eq_true,cl1_box,Nat.zero_add,ez_P,neNil3,List.getElem?_cons_succ,yfY_5,yl61,sor5,soL,Tryd.f18,h2,h9,m2,hl,hlt]
  refine hQ _ _ k0 a0 n0 [] o0 .nils hn0 .nil (hf.same ?_ ?_ ?_ ?_) ?_ ?_ ?_ ?_ hm mb0 rfl
  iterate 8 simp only[T.get_set,reduceEqDiff,if_false]
 |emp ad =>
  have hl:oLen Tryd.prog S 61 (.v (.slice (some ad) 0 0))=some 0:=by simp[oLen,yuR]
  have hlt:decide ((j:Int)<((0:Nat):Int))=false:=by rw[decide_eq_false_iff_not];omega
  simp(maxSteps:=2000000) (disch:=omega)only[W_skip,W_region,W_seq,W_cond,seqQ_normal2,WL_nil2,WL_cons,execL_val2,putL_some2,condW_f2,wantedA,exec1,evalO,T.get_set,callA,ofOpt,neNil3,fb_lss,reduceLT,reduceEqDiff,if_true,if_false,true_and,List.getElem?_cons_succ,List.getElem?_cons_zero,Bool.false_eq_true,cl1_box,Nat.zero_add,ez_P,neNil3,List.getElem?_cons_succ,yfY_5,yl61,sor5,soL,Tryd.f18,h2,h9,m2,hl,hlt]
  refine hQ _ _ k0 a0 n0 [] o0 .nils hn0 .nil (hf.same ?_ ?_ ?_ ?_) ?_ ?_ ?_ ?_ hm mb0 rfl
  iterate 8 simp only[T.get_set,reduceEqDiff,if_false]
 |row rw hrw =>
  have hl:oLen Tryd.prog S 61 (.sl 0 0 6 rw)=some rw.length:=ynR S 0 0 rw
  by_cases hi:j<rw.length
  ·have hlt:decide ((j:Int)<(rw.length:Int))=true:=by rw[decide_eq_true_eq];omega
   obtain⟨k',a',n',s',o',kr',he,hn',hk'⟩:=rawX_cases (hrw _ (List.getElem_mem hi))
   have hx:=yxR 0 0 rw j hi
   rw[he]at hx
   simp only[rawB,cells_agg]at hx
   have M3:=M2 (rawB k' a' n' s' o' kr')
   simp only[rawB]at M3
   simp(maxSteps:=2000000) (disch:=omega)only[W_skip,W_region,W_seq,W_cond,seqQ_normal2,WL_nil2,WL_cons,execL_val2,execL_skip2,putL_none2,putL_some2,condW_t2,wantedA,exec1,evalO,T.get_set,callA,ofOpt,neNil3,fb_lss,reduceLT,reduceAdd,reduceEqDiff,if_true,if_false,true_and,List.getElem?_cons_succ,List.getElem?_cons_zero,List.nil_append,List.append_nil,Bool.false_eq_true,cl1_box,vstB_agg,List.length_cons,List.length_nil,Nat.zero_add,reduceLeDiff,List.drop_succ_cons,List.drop_nil,List.take_succ_cons,List.take_zero,and_self,ez_P,neNil3,List.getElem?_cons_succ,yleY,ysY,yfY_5,yl61,sor5,soL,Tryd.f18,h2,h9,h10,m2,mb,hl,hlt,hx]
   refine hQ _ _ k' a' n' s' o' kr' hn' hk' (hf.same ?_ ?_ ?_ ?_) ?_ ?_ ?_ ?_ M3 ?_ ?_
   iterate 8 simp only[T.get_set,reduceEqDiff,if_false]
   ·simp only[to_get,if_true];rfl
   ·simp only[to_next]
  ·have hlt:decide ((j:Int)<(rw.length:Int))=false:=by rw[decide_eq_false_iff_not];omega
   simp(maxSteps:=2000000) (disch:=omega)only[W_skip,W_region,W_seq,W_cond,seqQ_normal2,WL_nil2,WL_cons,execL_val2,putL_some2,condW_f2,wantedA,exec1,evalO,T.get_set,callA,ofOpt,neNil3,fb_lss,reduceLT,reduceEqDiff,if_true,if_false,true_and,List.getElem?_cons_succ,List.getElem?_cons_zero,Bool.false_eq_true,cl1_box,Nat.zero_add,ez_P,neNil3,List.getElem?_cons_succ,yfY_5,yl61,sor5,soL,Tryd.f18,h2,h9,m2,hl,hlt]
   refine hQ _ _ k0 a0 n0 [] o0 .nils hn0 .nil (hf.same ?_ ?_ ?_ ?_) ?_ ?_ ?_ ?_ hm mb0 rfl
   iterate 8 simp only[T.get_set,reduceEqDiff,if_false]
theorem leaf_ok(c a n:Int)(d:Nat)(hd:1≤d)(hc:c=1∨c=2)(ha:okI a)(hn:okI n)(h2:c=2→n=0∨n=1):okX d (.mk c a n [] false []):=by
 obtain⟨d,rfl⟩:∃x,d=x+1:=⟨d - 1,by omega⟩
 simp only[okX,okL,List.length_nil]
 refine⟨ha,hn,⟨h2,fun h=>by omega⟩,by omega,?_,trivial⟩
 unfold needs;omega
mutual
theorem raw_free:∀{v:AV},RawX v→freeV v=true∧clean v=v
 |_,.mk k a n s b kv hn h=>by
  obtain⟨h1,h2⟩:=raws_free h
  refine⟨?_,?_⟩
  ·show(true && (true && (true && (true && (true && (freeV kv && true))))))=true
   rw[h1];rfl
  ·show AV.agg [_,_,_,_,_,clean kv]=_
   rw[h2];rfl
theorem raws_free:∀{v:AV},RawXs v→freeV v=true∧clean v=v
 |_,.nil=>⟨rfl,rfl⟩
 |_,.row es h=>by
  have hl:=rawl_free es h
  exact⟨hl.1,by show AV.sl 0 0 6 (cleanL es)=_;rw[hl.2]⟩
 |_,.emp a=>⟨rfl,rfl⟩
theorem rawl_free:∀(es:List AV),(∀e∈es,RawX e)→freeL es=true∧cleanL es=es
 | [],_=>⟨rfl,rfl⟩
 |e :: r,h=>by
  obtain⟨h1,h2⟩:=raw_free (h e (List.mem_cons_self ..))
  obtain⟨h3,h4⟩:=rawl_free r fun x hx=>h x (List.mem_cons_of_mem _ hx)
  exact⟨by show(freeV e && freeL r)=true;rw[h1,h3];rfl,by show clean e :: cleanL r=_;rw[h2,h4]⟩
end
theorem sl7_w{d:Nat}{z3 ys:List AV}{kv:AV}{es:List AV}{K at0 N:Int}{NM:List UInt8}{OFF:Bool}{j b:Nat}{k0 a0 n0:Int}{s0:List UInt8}{o0:Bool}{kr0:AV}{t:T AV}{S:St}{Q:O→Prop}(hd1:1≤d)(hd4:d≤4)(H:∀v,RawX v→KnZ 18 [v,i64A (d:Int)])(hf:FrO ((d+1:Nat):Int) t)(h9:t.get 9=some (.v (.int .i64 (j:Int))))(h10:t.get 10=some (.ptr b 0))(hb:5≤b)(hn0:okI n0)(hkr0:RawXs kr0)
  (hm:MemO ys z3 [.v (.int .i64 K),.v (.int .i64 at0),.v (.int .i64 N),.v (.string ⟨⟨NM⟩⟩),.v (.bool OFF),kv] kv es S) (mb:S.mem.get b=some (.box (rawB k0 a0 n0 s0 o0 kr0)))
  (hQ:∀(t':T AV) (S':St) (e:PX),okX d e→FrO ((d+1:Nat):Int) t'→t'.get 84=t.get 84→t'.get 85=t.get 85→t'.get 9=t.get 9→t'.get 10=t.get 10→MemO ys z3 [.v (.int .i64 K),.v (.int .i64 at0),.v (.int .i64 N),.v (.string ⟨⟨NM⟩⟩),.v (.bool OFF),kv] kv es S'→S'.mem.get b=some (.box (exA e).cells)→S'.next=S.next→Q (.out .normal ⟨t',[]⟩ S')):W EZ 157 sor7 ⟨t,[]⟩ S Q:=by
 have h1:=hf.t1
 have h6:=hf.t6
 have m4:=hm.m4
 have M2:=fun zs=>hm.to (b:=b) hb mb zs
 simp only[rawB]at mb
 by_cases h14:K=14
 ·have e1:(K == (14:Int))=true:=by rw[h14];rfl
  obtain⟨fn1,hf1⟩:∃fn,EZ.F 8=some fn:=fnz_8
  have hml:=(modN_is k0 (m:=2) (by decide)).2
  have hbn:=and_bit n0
  have hba:=okI_and a0 4095 (by decide)
  have M3:=fun zs=>(M2 zs)
  have M4:=fun zs zs'=>(M2 zs).to (b:=b) hb (by rw[to_get,if_pos rfl]) zs'
  obtain hm0 |hm1:modN k0 2=0∨modN k0 2=1:=by omega
  ·have hq:IntKind.i64.wrap (1+((modN k0 2:Nat):Int))=1:=by rw[hm0];decide
   simp(maxSteps:=2000000) (disch:=omega)only[W_region,W_drawn,W_seq,W_cond,seqQ_normal2,WL_nil2,WL_cons,execL_no,execL_val2,putL_some2,condW_t2,wantedA,exec1,evalO,T.get_set,ofOpt,ofConst,neNil3,fb_eqlI,reduceLT,reduceAdd,reduceEqDiff,if_true,if_false,true_and,List.getElem?_toArray,List.getElem?_cons_succ,List.getElem?_cons_zero,Option.bind_some,Bool.false_eq_true,Bool.true_beq,cl1_box,clN_box,List.length_cons,List.length_nil,Nat.zero_add,Nat.add_zero,reduceLeDiff,List.drop_zero,List.take_succ_cons,List.take_zero,ez_P,ez_G,neNil3,yl3,clN_box,List.getElem?_cons_succ,ylY,yfY_0,sor7,soL,Tryd.f18,h6,h9,h10,m4,mb,e1]
   refine WD_by [(0,true),(1,true),(4,true),(5,true),(6,true),(7,true),(8,true),(2,true),(8,false),(5,false),(3,true),(9,true),(10,true)] (by kernel_rfl) (by kernel_rfl) ?_
   simp(maxSteps:=2000000) (disch:=omega)only[wantedA,exec1,evalO,T.get_set,callA,mapO,ofOpt,ofConst,neNil3,reduceLT,reduceEqDiff,if_true,if_false,true_and,List.getElem?_toArray,List.getElem?_cons_succ,List.getElem?_cons_zero,List.nil_append,List.append_nil,Bool.false_eq_true,WR_op,execR_val2,execR_enter2,putRW_some2,rsOf,cl1_box,Nat.zero_add,Nat.add_zero,ez_P,ez_G,neNil3,yl2,yl3,List.getElem?_cons_succ,yfY_0,yfY_1,yfY_2,fb_and,eqOr_and3,andO_i,h10,mb,hf1]
   refine mod_u 2 (by decide) (by decide) ?_
   simp(maxSteps:=2000000) (disch:=omega)only[W_skip,W_region,W_seq,W_cond,seqQ_normal2,WL_nil2,WL_cons,execL_val2,execL_skip2,putL_none2,putL_some2,condW_f2,wantedA,exec1,evalO,T.get_set,ofOpt,ofConst,partsA,neNil3,fb_add,fb_eqlI,reduceLT,reduceAdd,reduceEqDiff,if_true,if_false,true_and,List.getElem?_cons_succ,List.getElem?_cons_zero,List.nil_append,List.append_nil,Bool.false_eq_true,WR_nil2,WR_op,WR_re2,execR_val2,execR_skip2,putRW_none2,putRW_some2,retRW_ret2,fixQ_normal2,againO,lookV,to_get,cl1_box,vstB_agg,vstB_v,List.length_cons,List.length_nil,Nat.zero_add,Nat.add_zero,reduceLeDiff,List.drop_zero,List.drop_succ_cons,List.drop_nil,List.take_succ_cons,List.take_zero,List.cons_append,and_self,ez_P,ez_G,neNil2,neNil3,yl2,yl3,Int.reduceBEq,List.getElem?_cons_succ,ysY,yfY_0,yfY_2,ys2,fb_and,eqOr_and2,andO_i,beqA_in,to_get,h10,mb,hq,ybY_3]
   refine hQ _ _ (.mk 1 (bits .and .i64 a0 4095) n0 [] false []) (leaf_ok 1 _ n0 d hd1 (.inl rfl) hba hn0 (fun h=>absurd h (by decide))) (hf.same ?_ ?_ ?_ ?_) ?_ ?_ ?_ ?_ (M3 _) ?_ ?_
   iterate 8 simp only[T.get_set,reduceEqDiff,if_false]
   ·simp only[to_get,if_true];rfl
   ·simp only[to_next]
  ·have hq:IntKind.i64.wrap (1+((modN k0 2:Nat):Int))=2:=by rw[hm1];decide
   simp(maxSteps:=2000000) (disch:=omega)only[W_region,W_drawn,W_seq,W_cond,seqQ_normal2,WL_nil2,WL_cons,execL_no,execL_val2,putL_some2,condW_t2,wantedA,exec1,evalO,T.get_set,ofOpt,ofConst,neNil3,fb_eqlI,reduceLT,reduceAdd,reduceEqDiff,if_true,if_false,true_and,List.getElem?_toArray,List.getElem?_cons_succ,List.getElem?_cons_zero,Option.bind_some,Bool.false_eq_true,Bool.true_beq,cl1_box,clN_box,List.length_cons,List.length_nil,Nat.zero_add,Nat.add_zero,reduceLeDiff,List.drop_zero,List.take_succ_cons,List.take_zero,ez_P,ez_G,neNil3,yl3,clN_box,List.getElem?_cons_succ,ylY,yfY_0,sor7,soL,Tryd.f18,h6,h9,h10,m4,mb,e1]
   refine WD_by [(0,true),(1,true),(4,true),(5,true),(6,true),(7,true),(8,true),(2,true),(8,false),(5,false),(3,true),(9,true),(10,true)] (by kernel_rfl) (by kernel_rfl) ?_
   simp(maxSteps:=2000000) (disch:=omega)only[wantedA,exec1,evalO,T.get_set,callA,mapO,ofOpt,ofConst,neNil3,reduceLT,reduceEqDiff,if_true,if_false,true_and,List.getElem?_toArray,List.getElem?_cons_succ,List.getElem?_cons_zero,List.nil_append,List.append_nil,Bool.false_eq_true,WR_op,execR_val2,execR_enter2,putRW_some2,rsOf,cl1_box,Nat.zero_add,Nat.add_zero,ez_P,ez_G,neNil3,yl2,yl3,List.getElem?_cons_succ,yfY_0,yfY_1,yfY_2,fb_and,eqOr_and3,andO_i,h10,mb,hf1]
   refine mod_u 2 (by decide) (by decide) ?_
   simp(maxSteps:=2000000) (disch:=omega)only[W_skip,W_region,W_seq,W_cond,seqQ_normal2,WL_nil2,WL_cons,execL_val2,execL_skip2,putL_none2,putL_some2,condW_t2,wantedA,exec1,evalO,T.get_set,ofOpt,ofConst,partsA,neNil3,fb_add,fb_eqlI,reduceLT,reduceAdd,reduceEqDiff,if_true,if_false,true_and,List.getElem?_cons_succ,List.getElem?_cons_zero,List.nil_append,List.append_nil,beq_self_eq_true,Bool.false_eq_true,WR_nil2,WR_op,WR_re2,execR_val2,execR_skip2,putRW_none2,putRW_some2,retRW_ret2,fixQ_normal2,againO,lookV,to_get,cl1_box,vstB_agg,vstB_v,List.length_cons,List.length_nil,Nat.zero_add,Nat.add_zero,reduceLeDiff,List.drop_zero,List.drop_succ_cons,List.drop_nil,List.take_succ_cons,List.take_zero,List.cons_append,and_self,ez_P,ez_G,neNil2,neNil3,yl2,yl3,List.getElem?_cons_succ,ysY,yfY_0,yfY_2,ys2,fb_and,eqOr_and2,andO_i,beqA_in,to_get,h10,mb,hq,ybY_3]
   refine hQ _ _ (.mk 2 (bits .and .i64 a0 4095) (bits .and .i64 n0 1) [] false []) (leaf_ok 2 _ _ d hd1 (.inr rfl) hba (okI_and n0 1 (by decide)) (fun _=>hbn)) (hf.same ?_ ?_ ?_ ?_) ?_ ?_ ?_ ?_ (M4 _ _) ?_ ?_
   iterate 8 simp only[T.get_set,reduceEqDiff,if_false]
   ·simp only[to_get,if_true];rfl
   ·simp only[to_next]
 ·have e1:(K == (14:Int))=false:=by simpa using h14
  by_cases hk9:K=9
  ·have e2:(K == (9:Int))=true:=by rw[hk9];rfl
   by_cases hj0:j=0
   ·have e3:(((j:Nat):Int) == (0:Int))=true:=by rw[hj0];rfl
    obtain⟨fn1,hf1⟩:∃fn,EZ.F 8=some fn:=fnz_8
    have hml:=(modN_is k0 (m:=2) (by decide)).2
    have hbn:=and_bit n0
    have hba:=okI_and a0 4095 (by decide)
    have M3:=fun zs=>(M2 zs)
    have M4:=fun zs zs'=>(M2 zs).to (b:=b) hb (by rw[to_get,if_pos rfl]) zs'
    obtain hm0 |hm1:modN k0 2=0∨modN k0 2=1:=by omega
    ·have hq:IntKind.i64.wrap (1+((modN k0 2:Nat):Int))=1:=by rw[hm0];decide
     simp(maxSteps:=2000000) (disch:=omega)only[W_region,W_drawn,W_seq,W_cond,seqQ_normal2,WL_nil2,WL_cons,execL_val2,putL_some2,condW_t2,wantedA,exec1,evalO,T.get_set,ofOpt,ofConst,neNil3,fb_eqlI,reduceLT,reduceAdd,reduceEqDiff,if_true,if_false,true_and,List.getElem?_toArray,List.getElem?_cons_succ,List.getElem?_cons_zero,Option.bind_some,beq_self_eq_true,Bool.false_eq_true,cl1_box,clN_box,List.length_cons,List.length_nil,Nat.zero_add,Nat.add_zero,reduceLeDiff,List.drop_zero,List.take_succ_cons,List.take_zero,ez_P,neNil3,yl3,clN_box,List.getElem?_cons_succ,ylY,yfY_0,sor7,soL,Tryd.f18,h6,h9,h10,m4,mb,e1,e2,e3]
     refine WD_by [(0,true),(1,true),(4,true),(5,true),(6,true),(7,true),(8,true),(2,true),(8,false),(5,false),(3,true),(9,true),(10,true)] (by kernel_rfl) (by kernel_rfl) ?_
     simp(maxSteps:=2000000) (disch:=omega)only[wantedA,exec1,evalO,T.get_set,callA,mapO,ofOpt,ofConst,neNil3,reduceLT,reduceEqDiff,if_true,if_false,true_and,List.getElem?_toArray,List.getElem?_cons_succ,List.getElem?_cons_zero,List.nil_append,List.append_nil,Bool.false_eq_true,WR_op,execR_val2,execR_enter2,putRW_some2,rsOf,cl1_box,Nat.zero_add,Nat.add_zero,ez_P,ez_G,neNil3,yl2,yl3,List.getElem?_cons_succ,yfY_0,yfY_1,yfY_2,fb_and,eqOr_and3,andO_i,h10,mb,hf1]
     refine mod_u 2 (by decide) (by decide) ?_
     simp(maxSteps:=2000000) (disch:=omega)only[W_skip,W_region,W_seq,W_cond,seqQ_normal2,WL_nil2,WL_cons,execL_val2,execL_skip2,putL_none2,putL_some2,condW_f2,wantedA,exec1,evalO,T.get_set,ofOpt,ofConst,partsA,neNil3,fb_add,fb_eqlI,reduceLT,reduceAdd,reduceEqDiff,if_true,if_false,true_and,List.getElem?_cons_succ,List.getElem?_cons_zero,List.nil_append,List.append_nil,Bool.false_eq_true,WR_nil2,WR_op,WR_re2,execR_val2,execR_skip2,putRW_none2,putRW_some2,retRW_ret2,fixQ_normal2,againO,lookV,to_get,cl1_box,vstB_agg,vstB_v,List.length_cons,List.length_nil,Nat.zero_add,Nat.add_zero,reduceLeDiff,List.drop_zero,List.drop_succ_cons,List.drop_nil,List.take_succ_cons,List.take_zero,List.cons_append,and_self,ez_P,ez_G,neNil2,neNil3,yl2,yl3,Int.reduceBEq,List.getElem?_cons_succ,ysY,yfY_0,yfY_2,ys2,fb_and,eqOr_and2,andO_i,beqA_in,to_get,h10,mb,hq,ybY_3]
     refine hQ _ _ (.mk 1 (bits .and .i64 a0 4095) n0 [] false []) (leaf_ok 1 _ n0 d hd1 (.inl rfl) hba hn0 (fun h=>absurd h (by decide))) (hf.same ?_ ?_ ?_ ?_) ?_ ?_ ?_ ?_ (M3 _) ?_ ?_
     iterate 8 simp only[T.get_set,reduceEqDiff,if_false]
     ·simp only[to_get,if_true];rfl
     ·simp only[to_next]
    ·have hq:IntKind.i64.wrap (1+((modN k0 2:Nat):Int))=2:=by rw[hm1];decide
     simp(maxSteps:=2000000) (disch:=omega)only[W_region,W_drawn,W_seq,W_cond,seqQ_normal2,WL_nil2,WL_cons,execL_val2,putL_some2,condW_t2,wantedA,exec1,evalO,T.get_set,ofOpt,ofConst,neNil3,fb_eqlI,reduceLT,reduceAdd,reduceEqDiff,if_true,if_false,true_and,List.getElem?_toArray,List.getElem?_cons_succ,List.getElem?_cons_zero,Option.bind_some,beq_self_eq_true,Bool.false_eq_true,cl1_box,clN_box,List.length_cons,List.length_nil,Nat.zero_add,Nat.add_zero,reduceLeDiff,List.drop_zero,List.take_succ_cons,List.take_zero,ez_P,neNil3,yl3,clN_box,List.getElem?_cons_succ,ylY,yfY_0,sor7,soL,Tryd.f18,h6,h9,h10,m4,mb,e1,e2,e3]
     refine WD_by [(0,true),(1,true),(4,true),(5,true),(6,true),(7,true),(8,true),(2,true),(8,false),(5,false),(3,true),(9,true),(10,true)] (by kernel_rfl) (by kernel_rfl) ?_
     simp(maxSteps:=2000000) (disch:=omega)only[wantedA,exec1,evalO,T.get_set,callA,mapO,ofOpt,ofConst,neNil3,reduceLT,reduceEqDiff,if_true,if_false,true_and,List.getElem?_toArray,List.getElem?_cons_succ,List.getElem?_cons_zero,List.nil_append,List.append_nil,Bool.false_eq_true,WR_op,execR_val2,execR_enter2,putRW_some2,rsOf,cl1_box,Nat.zero_add,Nat.add_zero,ez_P,ez_G,neNil3,yl2,yl3,List.getElem?_cons_succ,yfY_0,yfY_1,yfY_2,fb_and,eqOr_and3,andO_i,h10,mb,hf1]
     refine mod_u 2 (by decide) (by decide) ?_
     simp(maxSteps:=2000000) (disch:=omega)only[W_skip,W_region,W_seq,W_cond,seqQ_normal2,WL_nil2,WL_cons,execL_val2,execL_skip2,putL_none2,putL_some2,condW_t2,wantedA,exec1,evalO,T.get_set,ofOpt,ofConst,partsA,neNil3,fb_add,fb_eqlI,reduceLT,reduceAdd,reduceEqDiff,if_true,if_false,true_and,List.getElem?_cons_succ,List.getElem?_cons_zero,List.nil_append,List.append_nil,beq_self_eq_true,Bool.false_eq_true,WR_nil2,WR_op,WR_re2,execR_val2,execR_skip2,putRW_none2,putRW_some2,retRW_ret2,fixQ_normal2,againO,lookV,to_get,cl1_box,vstB_agg,vstB_v,List.length_cons,List.length_nil,Nat.zero_add,Nat.add_zero,reduceLeDiff,List.drop_zero,List.drop_succ_cons,List.drop_nil,List.take_succ_cons,List.take_zero,List.cons_append,and_self,ez_P,ez_G,neNil2,neNil3,yl2,yl3,List.getElem?_cons_succ,ysY,yfY_0,yfY_2,ys2,fb_and,eqOr_and2,andO_i,beqA_in,to_get,h10,mb,hq,ybY_3]
     refine hQ _ _ (.mk 2 (bits .and .i64 a0 4095) (bits .and .i64 n0 1) [] false []) (leaf_ok 2 _ _ d hd1 (.inr rfl) hba (okI_and n0 1 (by decide)) (fun _=>hbn)) (hf.same ?_ ?_ ?_ ?_) ?_ ?_ ?_ ?_ (M4 _ _) ?_ ?_
     iterate 8 simp only[T.get_set,reduceEqDiff,if_false]
     ·simp only[to_get,if_true];rfl
     ·simp only[to_next]
   ·have e3:(((j:Nat):Int) == (0:Int))=false:=by simp;omega
    obtain⟨fn1,hf1⟩:∃fn,EZ.F 18=some fn:=fnz_18
    have hrx:=rawX_mk k0 a0 n0 s0 o0 kr0 hn0 hkr0
    have hrf:=raw_free hrx
    simp only[rawB]at hrf
    have hws:IntKind.i64.wrap (((d+1:Nat):Int) - 1)=(d:Int):=by rw[wrap_small _ (by omega)];omega
    simp(maxSteps:=2000000) (disch:=omega)only[W_region,W_drawn,W_seq,W_cond,seqQ_normal2,WL_nil2,WL_cons,execL_val2,execL_enter2,putL_some2,condW_f2,wantedA,exec1,evalO,T.get_set,callA,mapO,ofOpt,ofConst,neNil3,fb_eqlI,reduceLT,reduceAdd,reduceEqDiff,if_true,if_false,true_and,List.getElem?_toArray,List.getElem?_cons_succ,List.getElem?_cons_zero,Option.bind_some,List.nil_append,List.append_nil,beq_self_eq_true,Bool.false_eq_true,cl1_box,clN_box,List.length_cons,List.length_nil,Nat.zero_add,Nat.add_zero,reduceLeDiff,List.drop_zero,List.take_succ_cons,List.take_zero,ez_P,neNil3,yl3,clN_box,List.getElem?_cons_succ,ylY,yfY_0,fb_sub,sor7,soL,Tryd.f18,h1,h6,h9,h10,m4,mb,hf1,hws,e1,e2,e3]
    refine callZ (args':=[.agg (rawB k0 a0 n0 s0 o0 kr0),i64A (d:Int)]) (H _ hrx) (by kernel_rfl) (by show(freeV (.agg _) && true)=true;rw[hrf.1];rfl) (by show [clean (.agg _),_]=_;rw[hrf.2];rfl) fun x _ _ hs=>?_
    obtain⟨e,he,hxe⟩:=hs _ d rfl hrx hd1 hd4
    subst hxe
    obtain⟨c0,c1,c2,c3,c4,c5,hagg⟩:=ex_agg e
    have hcl:(exA e).cells=[c0,c1,c2,c3,c4,c5]:=by rw[hagg];rfl
    have M3:=M2 (exA e).cells
    rw[hagg]at M3 ⊢
    simp only[cells_agg]at M3
    simp(maxSteps:=2000000) (disch:=omega)only[WL_nil2,WL_cons,execL_skip2,putL_none2,putL_some2,retL_ret2,wantedA,exec1,evalO,T.get_set,reduceLT,reduceAdd,reduceEqDiff,if_true,if_false,true_and,List.nil_append,List.append_nil,vstB_agg,List.length_cons,List.length_nil,Nat.zero_add,reduceLeDiff,List.drop_succ_cons,List.drop_nil,List.take_zero,and_self,ez_P,ysY,h10,mb]
    refine hQ _ _ e he (hf.same ?_ ?_ ?_ ?_) ?_ ?_ ?_ ?_ M3 ?_ ?_
    iterate 8 simp only[T.get_set,reduceEqDiff,if_false]
    ·simp only[to_get,if_true];rw[hcl]
    ·simp only[to_next]
  ·have e2:(K == (9:Int))=false:=by simpa using hk9
   obtain⟨fn1,hf1⟩:∃fn,EZ.F 18=some fn:=fnz_18
   have hrx:=rawX_mk k0 a0 n0 s0 o0 kr0 hn0 hkr0
   have hrf:=raw_free hrx
   simp only[rawB]at hrf
   have hws:IntKind.i64.wrap (((d+1:Nat):Int) - 1)=(d:Int):=by rw[wrap_small _ (by omega)];omega
   simp(maxSteps:=2000000) (disch:=omega)only[W_region,W_drawn,W_seq,W_cond,seqQ_normal2,WL_nil2,WL_cons,execL_no,execL_val2,execL_enter2,putL_some2,condW_f2,wantedA,exec1,evalO,T.get_set,callA,mapO,ofOpt,ofConst,neNil3,fb_eqlI,reduceLT,reduceAdd,reduceEqDiff,if_true,if_false,true_and,List.getElem?_toArray,List.getElem?_cons_succ,List.getElem?_cons_zero,Option.bind_some,List.nil_append,List.append_nil,beq_self_eq_true,Bool.false_eq_true,Bool.not_true,Bool.false_beq,cl1_box,clN_box,List.length_cons,List.length_nil,Nat.zero_add,Nat.add_zero,reduceLeDiff,List.drop_zero,List.take_succ_cons,List.take_zero,ez_P,ez_G,neNil3,yl3,clN_box,List.getElem?_cons_succ,ylY,yfY_0,fb_sub,sor7,soL,Tryd.f18,h1,h6,h9,h10,m4,mb,hf1,hws,e1,e2]
   refine callZ (args':=[.agg (rawB k0 a0 n0 s0 o0 kr0),i64A (d:Int)]) (H _ hrx) (by kernel_rfl) (by show(freeV (.agg _) && true)=true;rw[hrf.1];rfl) (by show [clean (.agg _),_]=_;rw[hrf.2];rfl) fun x _ _ hs=>?_
   obtain⟨e,he,hxe⟩:=hs _ d rfl hrx hd1 hd4
   subst hxe
   obtain⟨c0,c1,c2,c3,c4,c5,hagg⟩:=ex_agg e
   have hcl:(exA e).cells=[c0,c1,c2,c3,c4,c5]:=by rw[hagg];rfl
   have M3:=M2 (exA e).cells
   rw[hagg]at M3 ⊢
   simp only[cells_agg]at M3
   simp(maxSteps:=2000000) (disch:=omega)only[WL_nil2,WL_cons,execL_skip2,putL_none2,putL_some2,retL_ret2,wantedA,exec1,evalO,T.get_set,reduceLT,reduceAdd,reduceEqDiff,if_true,if_false,true_and,List.nil_append,List.append_nil,vstB_agg,List.length_cons,List.length_nil,Nat.zero_add,reduceLeDiff,List.drop_succ_cons,List.drop_nil,List.take_zero,and_self,ez_P,ysY,h10,mb]
   refine hQ _ _ e he (hf.same ?_ ?_ ?_ ?_) ?_ ?_ ?_ ?_ M3 ?_ ?_
   iterate 8 simp only[T.get_set,reduceEqDiff,if_false]
   ·simp only[to_get,if_true];rw[hcl]
   ·simp only[to_next]
end Go.Ax
noncomputable section
open Nat (reduceLT reduceEqDiff)
namespace Go.Ax
open Go.RowKit Go.Proofs
set_option maxRecDepth 100000
def outB(K at0 N:Int)(NM:List UInt8)(OFF:Bool)(kv:AV):List AV:=[.v (.int .i64 K),.v (.int .i64 at0),.v (.int .i64 N),.v (.string ⟨⟨NM⟩⟩),.v (.bool OFF),kv]
theorem sl8_w{dp:Int}{z3 ys:List AV}{kv:AV}{kids:List PX}{K at0 N:Int}{NM:List UInt8}{OFF:Bool}{b:Nat}{e:PX}{t:T AV}{S:St}{Q:O→Prop}(hf:FrO dp t)(h10:t.get 10=some (.ptr b 0))(hb:5≤b)(hbn:b<S.next)(hkl:kids.length≤10)
  (hm:MemO ys z3 (outB K at0 N NM OFF kv) kv (exL kids) S) (mb:S.mem.get b=some (.box (exA e).cells))
  (hQ:∀(t':T AV) (S':St) (kv':AV),FrO dp t'→t'.get 84=t.get 84→t'.get 85=t.get 85→MemO ys z3 (outB K at0 N NM OFF kv') kv' (exL (kids ++ [e])) S'→Q (.out .normal ⟨t',[]⟩ S')):W EZ 157 sor8 ⟨t,[]⟩ S Q:=by
 have h6:=hf.t6
 have m4:=hm.m4
 have hn5:=hm.n
 obtain⟨bytes,hrt⟩:=ytR
 obtain⟨c0,c1,c2,c3,c4,c5,hagg⟩:=ex_agg e
 have hcl:(exA e).cells=[c0,c1,c2,c3,c4,c5]:=by rw[hagg];rfl
 obtain⟨S2,happ,hA2,n2,k2⟩:=acc_push hrt hm.acc (by omega) (exA e) (by rw[hcl];rfl) (by rw[exL_len];omega)
 have m4':=k2 4 _ (by omega) (by omega) m4
 have m3':=k2 3 _ (by omega) (by omega) hm.m3
 have m2':=k2 2 _ (by omega) (by omega) hm.m2
 have hmm:exL kids ++ [exA e]=exL (kids ++ [e]):=by rw[exL_app];rfl
 rw[hmm]at hA2 happ
 have fin:MemO ys z3 (outB K at0 N NM OFF (.sl S.next 0 6 (exL (kids ++ [e])))) (.sl S.next 0 6 (exL (kids ++ [e]))) (exL (kids ++ [e])) (S2.to 4 (outB K at0 N NM OFF (.sl S.next 0 6 (exL (kids ++ [e]))))) :=
  ⟨by rw[to_next];omega,by rw[to_get,if_neg (by decide)];exact m2',by rw[to_get,if_neg (by decide)];exact m3',by rw[to_get,if_pos rfl],acc_to hA2 m4'⟩
 rw[hcl]at mb
 rw[hagg]at happ
 simp only[outB]at m4 m4' fin
 generalize exL (kids ++ [e])=nw at *
 simp(maxSteps:=2000000) (disch:=omega)only[W_region,WL_nil2,WL_cons,execL_val2,execL_skip2,putL_none2,putL_some2,wantedA,exec1,evalO,T.get_set,callA,ofOpt,ofOptS,partsA,reduceLT,Nat.reduceAdd,reduceEqDiff,if_true,if_false,true_and,List.getElem?_cons_succ,List.getElem?_cons_zero,List.nil_append,cl1_box,clN_box,vstB_s,List.length_cons,List.length_nil,Nat.zero_add,Nat.reduceLeDiff,List.drop_zero,List.drop_succ_cons,List.drop_nil,List.take_succ_cons,List.take_zero,List.cons_append,ez_P,clN_box,List.getElem?_cons_succ,ylY,yfY_5,yl61,ys61,sor8,soL,Tryd.f18,h6,h10,m4,m4',mb,happ,yrR_1]
 refine hQ _ _ _ (hf.same ?_ ?_ ?_ ?_) ?_ ?_ fin
 iterate 6 simp only[T.get_set,reduceEqDiff,if_false]
theorem okL_snoc:∀{d:Nat} {l:List PX} {e:PX},okL d l→okX d e→okL d (l ++ [e])
 |d,[],e,_,h=>⟨h,trivial⟩
 |d,x :: r,e,h,h2=>by
  have h:okX d x∧okL d r:=h
  exact⟨h.1,okL_snoc h.2 h2⟩
theorem so_lp{d nd:Nat}{k a n:Int}{s:List UInt8}{o:Bool}{kr:AV}{z3:List AV}{K at0 N:Int}{NM:List UInt8}{OFF:Bool}(hd1:1≤nd→1≤d)(hd4:d≤4)(H:1≤d→∀v,RawX v→KnZ 18 [v,i64A (d:Int)])(hkr:RawXs kr)(hnd:nd≤3):∀(m j:Nat) (kv:AV) (kids:List PX) (t:T AV) (S:St),j+m=nd→kids.length=j→okL d kids→(kids=[]→kv=.nils)→FrO ((d+1:Nat):Int) t→t.get 84=some (.v (.int .i64 (nd:Int)))→t.get 85=some (.v (.int .i64 (j:Int)))→MemO (rawB k a n s o kr) z3 (outB K at0 N NM OFF kv) kv (exL kids) S →
  WX EZ 157 (.loop soL) ⟨t,[]⟩ S (fun r=>∃t' S' kv' kids',r=.out (.exit 1) ⟨t',[]⟩ S'∧FrO ((d+1:Nat):Int) t'∧kids'.length=nd∧okL d kids'∧(kids' = []→kv' = .nils)∧MemO (rawB k a n s o kr) z3 (outB K at0 N NM OFF kv') kv' (exL kids') S')
 |0,j,kv,kids,t,S,hj,hkl,hok,hz,hf,h84,h85,hm=>by
  refine WX_loop (W_sound ?_)
  have hlt:decide ((j:Int)<(nd:Int))=false:=by rw[decide_eq_false_iff_not];omega
  simp(maxSteps:=2000000) (disch:=omega)only[thenW_exit,W_skip,W_region,W_seq,W_cond,W_block,W_exit,seqQ_normal2,seqQ_exit2,WL_nil2,WL_cons,execL_val2,putL_some2,condW_f2,wantedA,exec1,evalO,T.get_set,ofOpt,neNil3,fb_lss,reduceLT,reduceEqDiff,if_true,if_false,true_and,Bool.false_eq_true,ez_P,neNil3,soL,Tryd.f18,h84,h85,hlt]
  refine⟨_,_,kv,kids,rfl,hf.same ?_ ?_ ?_ ?_,by omega,hok,hz,hm⟩
  iterate 4 simp only[T.get_set,reduceEqDiff,if_false]
 |m+1,j,kv,kids,t,S,hj,hkl,hok,hz,hf,h84,h85,hm=>by
  refine WX_loop (W_sound ?_)
  have key:∀Q,W EZ 157 (.seq sor2 (.seq sorC (.seq (.block 2 (.seq sor3 (.seq sor4 (.seq sor5 (.seq sor7 sor8))))) sor9))) ⟨t,[]⟩ S Q→W EZ 157 soL ⟨t,[]⟩ S Q:=fun Q h=>by rw[sor_is];exact h
  refine key _ ?_
  clear key
  have hlt:decide ((j:Int)<(nd:Int))=true:=by rw[decide_eq_true_eq];omega
  have hws:=wrapS j (by omega)
  have hn5:=hm.n
  have h84':=h84
  have h85':=h85
  simp(maxSteps:=2000000) (disch:=omega)only[thenW_exit,W_skip,W_region,W_seq,W_cond,W_block,W_exit,seqQ_normal2,seqQ_exit2,WL_nil2,WL_cons,execL_val2,putL_some2,condW_t2,wantedA,exec1,evalO,T.get_set,ofOpt,neNil3,fb_lss,reduceLT,reduceEqDiff,if_true,if_false,true_and,Bool.false_eq_true,ez_P,neNil3,sor2,sorC,sor3,soL,Tryd.f18,h84,h85,hlt]
  refine sl4_w (j:=j) (hf.same ?_ ?_ ?_ ?_) ?_ hm (fun t1 S1 k1 a1 n1 hn1 f1 f84 f85 f9 f10 M1 mb1 nx1=>?_)
  iterate 5 simp only[T.get_set,reduceEqDiff,if_true,if_false]
  simp only[T.get_set,reduceEqDiff,if_true,if_false,h84,h85]at f84 f85 f9
  simp only[W_seq,seqQ_normal2]
  refine sl5_w (j:=j) (b:=S.next) f1 f9 f10 hn5 hn1 hkr M1 mb1 (fun t2 S2 k2 a2 n2 s2 o2 kr2 hn2 hk2 g1 g84 g85 g9 g10 M2 mb2 nx2=>?_)
  simp only[W_seq,seqQ_normal2]
  refine sl7_w (j:=j) (b:=S.next) (hd1 (by omega)) hd4 (H (hd1 (by omega))) g1 (g9.trans f9) (g10.trans f10) hn5 hn2 hk2 M2 mb2 (fun t3 S3 e he l1 l84 l85 l9 l10 M3 mb3 nx3=>?_)
  simp only[seqQ_normal2]
  refine sl8_w (b:=S.next) (e:=e) l1 ((l10.trans g10).trans f10) hn5 (by omega) (by omega) M3 mb3 (fun t4 S4 kv4 q1 q84 q85 M4=>?_)
  have h85n:t4.get 85=some (.v (.int .i64 (j:Int))):=(((q85.trans l85).trans g85).trans f85)
  have h84n:t4.get 84=some (.v (.int .i64 (nd:Int))):=(((q84.trans l84).trans g84).trans f84)
  have hokn:okL d (kids ++ [e]):=okL_snoc hok he
  simp(maxSteps:=2000000) (disch:=omega)only[thenW_normal,W_region,seqQ_normal2,blockW_normal2,WL_nil2,WL_cons,execL_val2,putL_some2,wantedA,exec1,evalO,T.get_set,ofOpt,ofConst,neNil3,fb_add,reduceLT,if_true,if_false,true_and,Bool.false_eq_true,ez_P,neNil3,sor9,soL,Tryd.f18,h85n,hws]
  refine so_lp hd1 hd4 H hkr hnd m (j+1) kv4 (kids ++ [e]) _ S4 (by omega) (by rw[List.length_append,hkl];rfl) hokn (fun h=>absurd h (by simp)) (q1.same ?_ ?_ ?_ ?_) ?_ ?_ M4
  iterate 4 simp only[T.get_set,reduceEqDiff,if_false]
  ·simp only[T.get_set,reduceEqDiff,if_false,h84n]
  ·simp only[T.get_set,reduceEqDiff,if_true,if_false]
theorem so3_w{d:Nat}{k a n:Int}{s:List UInt8}{o:Bool}{kr z3:AV}{kk:Nat}{at0:Int}{t:T AV}{S:St}{Q:O→Prop}(hkk:1≤kk∧kk≤14)(h1:t.get 1=some (.v (.int .i64 ((d+1:Nat):Int))))(h2:t.get 2=some (.ptr 2 0))(h6:t.get 6=some (.ptr 4 0))(hd4:d+1≤4)
  (m2:S.mem.get 2=some (.box (rawB k a n s o kr))) (m4:S.mem.get 4=some (.box (outB (kk:Int) at0 0 [] false .nils)))
  (hQ:∀(t':T AV) (S':St) (kk':Nat),(1≤kk'∧kk'≤14)→(d=0→kk'≤3)→t'.get 1=t.get 1→t'.get 2=t.get 2→t'.get 4=t.get 4→t'.get 6=t.get 6→S'.next=S.next→S'.mem.get 4=some (.box (outB (kk':Int) at0 0 [] false .nils))→(∀id,id≠4→S'.mem.get id=S.mem.get id)→Q (.out .normal ⟨t',[]⟩ S')):W EZ 157 so3 ⟨t,[]⟩ S Q:=by
 simp only[rawB,outB]at m2 m4
 by_cases hd0:d=0
 ·obtain⟨fn1,hf1⟩:∃fn,EZ.F 8=some fn:=fnz_8
  have hml:=(modN_is k (m:=3) (by decide)).2
  have hle:decide (((d+1:Nat):Int)≤1)=true:=by rw[hd0];decide
  have hq:IntKind.i64.wrap (1+((modN k 3:Nat):Int))=((1+modN k 3:Nat):Int):=by rw[wrap_small _ (by omega)];omega
  simp(maxSteps:=2000000) (disch:=omega)only[W_skip,W_region,W_seq,W_cond,seqQ_normal2,WL_nil2,WL_cons,execL_val2,execL_enter2,putL_some2,condW_t2,wantedA,exec1,evalO,T.get_set,callA,mapO,ofOpt,ofConst,neNil3,fb_leq,reduceLT,reduceEqDiff,if_true,if_false,true_and,List.getElem?_cons_zero,List.nil_append,List.append_nil,Bool.false_eq_true,cl1_box,Nat.add_zero,ez_P,neNil3,yl3,yfY_0,so3,Tryd.f18,h1,h2,m2,hle,hf1]
  refine mod_u 3 (by decide) (by decide) ?_
  simp(maxSteps:=2000000) (disch:=omega)only[WL_nil2,WL_cons,execL_val2,execL_skip2,putL_none2,putL_some2,retL_ret2,wantedA,exec1,evalO,T.get_set,ofOpt,ofConst,neNil3,fb_add,reduceLT,Nat.reduceAdd,reduceEqDiff,if_true,if_false,true_and,List.nil_append,Bool.false_eq_true,vstB_v,List.length_cons,List.length_nil,Nat.zero_add,Nat.add_zero,Nat.reduceLeDiff,List.drop_zero,List.drop_succ_cons,List.take_zero,ez_P,neNil3,yfY_0,ys3,h6,m4,hq]
  refine hQ _ _ (1+modN k 3) (by omega) (fun _=>by omega) ?_ ?_ ?_ ?_ ?_ ?_ ?_
  iterate 4 simp only[T.get_set,reduceEqDiff,if_false]
  ·simp only[to_next]
  ·simp only[to_get,if_true];rfl
  ·intro id hid;simp only[to_get,if_neg hid]
 ·have hle:decide (((d+1:Nat):Int)≤1)=false:=by rw[decide_eq_false_iff_not];omega
  simp(maxSteps:=2000000) (disch:=omega)only[W_skip,W_region,W_seq,W_cond,seqQ_normal2,WL_nil2,WL_cons,execL_val2,putL_some2,condW_f2,wantedA,exec1,evalO,T.get_set,callA,mapO,ofOpt,ofConst,neNil3,fb_leq,reduceLT,reduceEqDiff,if_true,if_false,true_and,List.getElem?_cons_zero,List.nil_append,List.append_nil,Bool.false_eq_true,cl1_box,Nat.add_zero,ez_P,ez_F,neNil3,yl3,yfY_0,so3,Tryd.f18,h1,h2,m2,hle]
  refine hQ _ _ kk hkk (fun h=>absurd h hd0) ?_ ?_ ?_ ?_ rfl m4 (fun _ _=>rfl)
  iterate 4 simp only[T.get_set,reduceEqDiff,if_false]
end Go.Ax
noncomputable section
open Nat (reduceLT reduceAdd reduceEqDiff)
namespace Go.Ax
open Go.RowKit Go.Proofs
set_option maxRecDepth 100000
theorem some_step(d:Nat)(hd4:d+1≤4)(H:1≤d→∀v,RawX v→KnZ 18 [v,i64A (d:Int)])(v:AV)(hv:RawX v):KnZ 18 [v,i64A ((d+1:Nat):Int)]:=by
 have fin:∀(e:PX) (x:AV) (S':St),okX (d+1) e→freeV x=true→clean x=exA e→∃a S'',R.ret x S' = R.ret a S''∧freeV a=true∧SpecZ 18 [v,i64A ((d+1:Nat):Int)] (clean a):=fun e x S' he h1 h2=>by
  refine⟨_,_,rfl,h1,?_⟩
  intro v' d' q _ _ _
  simp only[List.cons.injEq,and_true,i64A,AV.v.injEq,Value.int.injEq,true_and]at q
  have hdd:d+1=d':=by omega
  subst hdd
  exact⟨e,he,h2⟩
 obtain⟨k,a,n,s,o,kr,rfl,hn,hk⟩:=rawX_cases hv
 have ok0:=okI_and a 4095 (by decide)
 obtain⟨fn1,hf1⟩:∃fn,EZ.F 8=some fn:=fnz_8
 obtain⟨fn2,hf2⟩:∃fn,EZ.F 7=some fn:=fnz_7
 have hkr:=kinds_row
 obtain⟨kk0,hkk0,hkg⟩:=kinds_get (modN k 19) (modN_is k (m:=19) (by decide)).2
 obtain⟨nm,hnm,hng⟩:=names_get (modN a 9) (modN_is a (m:=9) (by decide)).2
 have hkl:=kinds_len
 have hx4:=(modN_is a (m:=4) (by decide)).2
 have hy3:=(modN_is a (m:=3) (by decide)).2
 have hnr:=need_row (modN a 4) (modN a 3)
 have hng2:=need_get (modN a 4) (modN a 3) hx4 hy3
 generalize kindsA=kdA at *
 generalize needA (modN a 4) (modN a 3)=ndT at *
 simp only[rawB]at *
 refine bodyZ Tryd.f18 (by kernel_rfl) (by kernel_rfl) (show(_:Nat)≤_ from by show(_:Nat)≤_;simp[Tryd.f18]) ?_
 simp only[so_is,Option.getD_some]
 simp(maxSteps:=2000000) (disch:=omega)only[W_region,W_drawn,W_seq,seqQ_normal2,WL_nil2,WL_cons,execL_val2,putL_some2,wantedA,exec1,evalO,initT,T.get_set,T.get_leaf,ofOpt,ofOptS,ofConst,partsA,reduceLT,reduceAdd,reduceEqDiff,if_true,if_false,true_and,nb_next,st0_next,Nat.zero_add,noTup_agg,cells_agg,ez_P,strS,i64A,cells_agg,initT,yaY,nb_next,so0,so1,so2,Tryd.f18,hkr,strS,i64A]
 refine WD_byFl (x:=⟨12,6,[0,1,2,3,4,8,9,10,5,6,7,11],[13]⟩) [(0,true),(1,true),(2,true),(3,true),(4,true),(8,true),(9,true),(10,true),(5,true),(9,false),(6,true),(7,true),(11,true),(12,true),(13,true)] (by kernel_rfl) (by kernel_rfl) (by decide) ?_
 simp(maxSteps:=2000000) (disch:=omega)only[wantedA,exec1,evalO,T.get_set,T.get_leaf,callA,mapO,ofOpt,ofConst,neNil3,reduceLT,reduceAdd,reduceEqDiff,if_true,if_false,true_and,List.getElem?_toArray,List.getElem?_cons_succ,List.getElem?_cons_zero,List.nil_append,List.append_nil,Bool.false_eq_true,WR_op,execR_val2,execR_enter2,putRW_some2,rsOf,nb_get,nb_next,st0_get,st0_next,cl1_box,Nat.zero_add,Nat.add_zero,ez_P,ez_G,neNil3,yl3,List.getElem?_cons_succ,yfY_0,yfY_1,fb_and,eqOr_and3,andO_i,nb_get,nb_next,hf1,hkl]
 refine mod_u 19 (by decide) (by decide) ?_
 simp(maxSteps:=2000000) (disch:=omega)only[W_seq,seqQ_normal2,wantedA,exec1,evalO,T.get_set,T.get_leaf,ofOpt,ofOptS,partsA,reduceLT,reduceAdd,reduceEqDiff,if_true,if_false,true_and,List.getElem?_cons_succ,List.getElem?_cons_zero,List.nil_append,List.append_nil,WR_nil2,WR_op,WR_re2,execR_val2,execR_skip2,putRW_none2,putRW_some2,retRW_ret2,fixQ_normal2,againO,lookV,nb_get,nb_next,st0_get,st0_next,cl1_box,vstB_agg,List.length_cons,List.length_nil,Nat.zero_add,Nat.reduceLeDiff,List.drop_succ_cons,List.drop_nil,List.take_zero,and_self,ez_P,strS,yl3,List.getElem?_cons_succ,ysY,yaY,yle3,beqA_in,nb_get,nb_next,hkg,ybY_2,strS]
 refine so3_w (k:=k) (a:=a) (n:=n) (s:=s) (o:=o) (kr:=kr) (at0:=bits .and .i64 a 4095) (z3:=.nils) hkk0 ?_ ?_ ?_ hd4 ?_ ?_ (fun t1 S1 kk hkk hd3 f1 f2 f4 f6 nx1 m4 mo=>?_)
 ·simp only[T.get_set,T.get_leaf,reduceEqDiff,if_true,if_false] <;> rfl
 ·simp only[T.get_set,T.get_leaf,reduceEqDiff,if_true,if_false] <;> rfl
 ·simp only[T.get_set,T.get_leaf,reduceEqDiff,if_true,if_false] <;> rfl
 ·simp only[to_get,nb_get,nb_next,st0_next,reduceAdd,reduceEqDiff,if_true,if_false] <;> rfl
 ·simp only[to_get,nb_get,nb_next,st0_next,reduceAdd,reduceEqDiff,if_true,if_false] <;> rfl
 have m2:=mo 2 (by decide)
 have m3:=mo 3 (by decide)
 simp only[T.get_set,T.get_leaf,reduceEqDiff,if_true,if_false,to_next,nb_next,st0_next,to_get,nb_get,reduceAdd]at f1 f2 f4 f6 nx1 m2 m3
 obtain⟨nd,hnd3,hneed,hnd0,hni⟩:=hng2 kk hkk
 have m4':=m4
 simp only[outB]at m4'
 simp(maxSteps:=2000000) (disch:=omega)only[W_drawn,W_seq,seqQ_normal2,so5,Tryd.f18]
 refine WD_by [(0,true),(1,true),(3,true),(4,true),(7,true),(8,true),(2,true),(8,false),(4,false),(5,true),(8,false),(6,true),(9,true),(10,true),(11,true)] (by kernel_rfl) (by kernel_rfl) ?_
 simp(maxSteps:=2000000) (disch:=omega)only[wantedA,exec1,evalO,T.get_set,callA,mapO,ofOpt,ofConst,reduceLT,reduceEqDiff,if_true,if_false,true_and,List.getElem?_toArray,List.getElem?_cons_succ,List.getElem?_cons_zero,List.nil_append,List.append_nil,Bool.false_eq_true,WR_op,execR_val2,execR_enter2,putRW_some2,rsOf,cl1_box,Nat.zero_add,Nat.add_zero,ez_P,yl3,List.getElem?_cons_succ,yfY_0,yfY_1,hf1,f2,f6,m2,m4']
 refine mod_u 4 (by decide) (by decide) ?_
 simp(maxSteps:=2000000) (disch:=omega)only[wantedA,exec1,evalO,T.get_set,callA,mapO,ofOpt,ofConst,reduceLT,reduceEqDiff,if_true,if_false,true_and,List.getElem?_cons_succ,List.getElem?_cons_zero,List.nil_append,List.append_nil,WR_op,WR_re2,execR_enter2,putRW_some2,retRW_ret2,againO,lookV,cl1_box,ez_P,yl3,List.getElem?_cons_succ,beqA_in,hf1,m2,m4']
 refine mod_u 3 (by decide) (by decide) ?_
 simp(maxSteps:=2000000) (disch:=omega)only[W_seq,seqQ_normal2,wantedA,exec1,evalO,T.get_set,ofOpt,ofConst,partsA,reduceLT,reduceEqDiff,if_true,if_false,true_and,List.getElem?_cons_zero,WR_nil2,WR_op,WR_re2,execR_val2,putRW_some2,retRW_ret2,fixQ_normal2,againO,lookV,cl1_box,ez_P,yl3,yle3,beqA_in,m4',hnr,hni]
 refine WD_by [(1,true),(2,true),(0,true),(2,false),(3,true),(4,true),(5,true),(6,true)] (by kernel_rfl) (by kernel_rfl) ?_
 simp(maxSteps:=2000000) (disch:=omega)only[wantedA,exec1,evalO,T.get_set,callA,mapO,ofOpt,reduceLT,reduceEqDiff,if_true,if_false,true_and,List.getElem?_toArray,List.getElem?_cons_succ,List.getElem?_cons_zero,List.append_nil,Bool.false_eq_true,WR_op,execR_val2,execR_enter2,putRW_some2,rsOf,cl1_box,Nat.zero_add,ez_P,yl3,List.getElem?_cons_succ,yfY_1,hf2,f2,m2]
 refine names_u ?_
 simp(maxSteps:=2000000) (disch:=omega)only[wantedA,exec1,evalO,T.get_set,callA,mapO,ofOpt,ofConst,reduceLT,reduceEqDiff,if_true,if_false,true_and,List.getElem?_cons_succ,List.getElem?_cons_zero,List.nil_append,List.append_nil,WR_op,WR_re2,execR_enter2,putRW_some2,retRW_ret2,againO,lookV,cl1_box,ez_P,yl3,List.getElem?_cons_succ,beqA_in,hf1,m2]
 refine mod_u 9 (by decide) (by decide) ?_
 simp(maxSteps:=2000000) (disch:=omega)only[W_seq,seqQ_normal2,wantedA,exec1,evalO,T.get_set,ofOpt,reduceLT,reduceEqDiff,if_true,if_false,true_and,WR_nil2,WR_op,execR_val2,putRW_some2,retRW_ret2,fixQ_normal2,ez_P,yle9,hng]
 refine soW_w (K:=(kk:Int)) (at0:=bits .and .i64 a 4095) (k:=k) (a:=a) (n:=n) (s:=s) (bb:=o) (kv:=kr) (z3:=.nils) (nm:=nm) (by omega) hn hnm ?_ ?_ ?_ m2 m4' (fun t2 S2 N NM OFF hN h22 h33 hNM g1 g2 g4 g6 g7 nx2 m4n mo2=>?_)
 ·simp only[T.get_set,reduceEqDiff,if_false,f2]
 ·simp only[T.get_set,reduceEqDiff,if_false,f6]
 ·simp only[T.get_set,reduceEqDiff,if_true,if_false]
 have m2n:=(mo2 2 (by decide)).trans m2
 have m3n:=(mo2 3 (by decide)).trans m3
 simp only[T.get_set,reduceEqDiff,if_true,if_false,f1,f2,f4,f6]at g1 g2 g4 g6 g7
 simp(maxSteps:=2000000) (disch:=omega)only[W_region,W_seq,W_block,W_loop,seqQ_normal2,WL_nil2,WL_cons,execL_val2,putL_some2,wantedA,exec1,evalO,ofOpt,ofConst,reduceLT,true_and,soR,Tryd.f18,g7]
 refine WX.mono (so_lp (d:=d) (nd:=nd) (k:=k) (a:=a) (n:=n) (s:=s) (o:=o) (kr:=kr) (K:=(kk:Int)) (at0:=bits .and .i64 a 4095) (N:=N) (NM:=NM) (OFF:=OFF) (fun h1=>?_) (by omega) H hk hnd3 nd 0 .nils [] _ S2 (by omega) rfl trivial (fun _=>rfl) ⟨?_,?_,?_,?_⟩ ?_ ?_ ⟨by rw[nx2,nx1];omega,m2n,m3n,m4n,Acc.none 6 S2⟩) ?_
 ·by_cases h0:d=0
  ·have:=hnd0 (hd3 h0);omega
  ·omega
 ·simp only[T.get_set,reduceEqDiff,if_false,g1]
 ·simp only[T.get_set,reduceEqDiff,if_false,g2]
 ·simp only[T.get_set,reduceEqDiff,if_false,g4]
 ·simp only[T.get_set,reduceEqDiff,if_false,g6]
 ·simp only[T.get_set,reduceEqDiff,if_true,if_false]
 ·simp only[T.get_set,reduceEqDiff,if_true,if_false] <;> rfl
 rintro _ ⟨t3,S3,kv3,kids,rfl,fr3,hkl3,hok3,hz3,M3⟩
 have h44:=fr3.t4
 have h66:=fr3.t6
 have q3:=M3.m3
 have q4:=M3.m4
 simp only[outB]at q4
 have hek:okX (d+1) (.mk (kk:Int) (bits .and .i64 a 4095) N NM OFF kids):=by
  simp only[okX]
  exact⟨ok0,hN,⟨h22,h33⟩,hNM,by rw[hkl3];exact hneed,hok3⟩
 have hend:freeV kv3=true∧clean kv3=rowX kids:=by
  rcases M3.acc with⟨rfl,h⟩ | ⟨tk,rfl,_⟩
  ·have hk0:kids=[]:=by
    have:=exL_len kids
    rw[h]at this
    exact List.length_eq_zero_iff.1 this.symm
   rw[hk0];exact⟨rfl,rfl⟩
  ·refine⟨(exL_fr kids).1,?_⟩
   show AV.sl 0 0 6 (cleanL (exL kids))=_
   rw[(exL_fr kids).2]
   cases kids with
   |nil=>exact absurd (hz3 rfl) (by intro h;cases h)
   |cons x r=>rfl
 simp(maxSteps:=2000000) (disch:=omega)only[W_region,W_seq,W_ret,seqQ_normal2,seqQ_exit2,blockW_exit2,WL_nil2,WL_cons,execL_val2,execL_skip2,putL_none2,putL_some2,wantedA,exec1,evalO,T.get_set,ofOpt,finW_ret,giveW,resultsA,tupA,reduceLT,reduceAdd,reduceEqDiff,if_true,if_false,true_and,List.nil_append,List.append_nil,to_get,clN_box,vstB_agg,List.length_cons,List.length_nil,Nat.zero_add,Nat.reduceLeDiff,List.drop_zero,List.drop_succ_cons,List.drop_nil,List.take_succ_cons,List.take_zero,and_self,ez_P,clN_box,ylY,ysY,to_get,soZ,Tryd.f18,h44,h66,q3,q4]
 refine fin _ _ _ hek ?_ ?_
 ·show(true && (true && (true && (true && (true && (freeV kv3 && true))))))=true
  rw[hend.1];rfl
 ·rw[exA_mk]
  show AV.agg [_,_,_,_,_,clean kv3]=_
  rw[hend.2];rfl
theorem some_k:∀(d:Nat) (v:AV),RawX v→1≤d→d≤4→KnZ 18 [v,i64A (d:Int)]
 |0,_,_,h,_=>absurd h (by decide)
 |d+1,v,hv,_,hd=>some_step d hd (fun h1 v' hv'=>some_k d v' hv' h1 (by omega)) v hv
theorem some_u{v:AV}{S:St}{Q:R→Prop}(hv:RawX v)(h:∀e,okX 4 e→Q (.ret (exA e) S)):WC EZ 18 [v,.v (.int .i64 4)] S Q :=
 callZ (args':=[v,i64A ((4:Nat):Int)]) (some_k 4 v hv (by decide) (by decide)) (by kernel_rfl) (by show(freeV v && true)=true;rw[(raw_free hv).1];rfl) (by show [clean v,_]=_;rw[(raw_free hv).2];rfl) fun x _ _ hs=>by
  obtain⟨e,he,hx⟩:=hs v 4 rfl hv (by decide) (by decide)
  subst hx
  exact h e he
end Go.Ax
noncomputable section
open Nat (reduceLT reduceAdd reduceEqDiff reduceLeDiff)
namespace Go.Ax
open Go.RowKit Go.Proofs
set_option maxRecDepth 100000
theorem rawD_row{v:AV}(h:RawR 6 RawD v):∃L,(∀S,oLen Tryd.prog S 24 v=some L)∧∀j,j<L→∃e,RawD e∧oIndexAddr Tryd.prog 24 v (.v (.int .i64 (j:Int)))=some (.ep e.cells):=by
 rcases h with rfl | ⟨es,rfl,h⟩ | ⟨a,rfl⟩
 ·exact⟨0,fun S=>ynnE S,fun j hj=>absurd hj (Nat.not_lt_zero _)⟩
 ·exact⟨es.length,fun S=>ynE S 0 0 es,fun j hj=>⟨es[j],h _ (List.getElem_mem hj),yxE 0 0 es j hj⟩⟩
 ·exact⟨0,fun S=>by simp[oLen,yuE],fun j hj=>absurd hj (Nat.not_lt_zero _)⟩
theorem yrE_1(a0 a1 a2 a3 a4 a5:AV):oBuildSlice Tryd.prog 24 1 [(0,.agg [a0,a1,a2,a3,a4,a5])]=some (.sl 1 0 6 [.agg [a0,a1,a2,a3,a4,a5]]):=by kernel_rfl
theorem rawD_free{v:AV}(h:RawD v):freeV v=true∧clean v=v:=by
 obtain⟨s,a,b,f,c,o,rfl⟩:=h
 exact⟨rfl,rfl⟩
theorem rawR_free{sz:Nat}{P:AV→Prop}(hP:∀e,P e→freeV e=true∧clean e=e){v:AV}(h:RawR sz P v):freeV v=true∧clean v=v:=by
 have hl:∀es:List AV,(∀e∈es,P e)→freeL es=true∧cleanL es=es:=fun es=>by
  induction es with
  |nil=>exact fun _=>⟨rfl,rfl⟩
  |cons e r ih =>
   intro h
   obtain⟨h1,h2⟩:=hP e (h e (List.mem_cons_self ..))
   obtain⟨h3,h4⟩:=ih fun x hx=>h x (List.mem_cons_of_mem _ hx)
   exact⟨by show(freeV e && freeL r)=true;rw[h1,h3];rfl,by show clean e :: cleanL r=_;rw[h2,h4]⟩
 rcases h with rfl | ⟨es,rfl,h⟩ | ⟨a,rfl⟩
 ·exact⟨rfl,rfl⟩
 ·exact⟨(hl es h).1,by show AV.sl 0 0 sz (cleanL es)=_;rw[(hl es h).2]⟩
 ·exact⟨rfl,rfl⟩
def sdLB:Code:=match Tryd.f17.body with
 |some (.seq _ (.seq _ (.seq (.seq _ (.block _ (.loop c))) _)))=>c
 |_=>.skip
theorem sd_lp{v:AV}{L:Nat}(hL:∀S,oLen Tryd.prog S 24 v=some L)(hX:∀j,j<L→∃e,RawD e∧oIndexAddr Tryd.prog 24 v (.v (.int .i64 (j:Int)))=some (.ep e.cells)):∀(n j tk:Nat) (l:List PDc) (t:T AV) (S:St),j+n=min L 3→l.length=j→(∀d∈l,okDc d)→RowO 6 S tk (l.map dcA)→2≤S.next→t.get 0=some v→t.get 3=some (.sl tk 0 6 (l.map dcA))→t.get 4=some (.v (.int .i64 ((j:Nat):Int))) →
  WX EZ 49 (.loop sdLB) ⟨t,[]⟩ S (fun r=>∃t' S' tk l',r=.out (.exit 0) ⟨t',[]⟩ S'∧okDs l'∧t'.get 3=some (.sl tk 0 6 (l'.map dcA)))
 |0,j,tk,l,t,S,hj,hl,hok,RO,hn,T0,T3,T4=>by
  refine WX_loop (W_sound ?_)
  have hl3:l.length≤3:=by omega
  by_cases hlt0:j<L
  ·have hlt:decide ((j:Int)<(L:Int))=true:=by rw[decide_eq_true_eq];omega
   have hl2:decide ((j:Int)<3)=false:=by rw[decide_eq_false_iff_not];omega
   simp(maxSteps:=2000000) (disch:=omega)only[thenW_exit,W_skip,W_region,W_seq,W_cond,W_block,W_exit,seqQ_normal2,seqQ_exit2,WL_nil2,WL_cons,execL_val2,putL_some2,condW_f2,wantedA,exec1,evalO,T.get_set,callA,ofOpt,ofConst,neNil3,fb_lss,reduceLT,reduceEqDiff,if_true,if_false,true_and,List.getElem?_toArray,List.getElem?_cons_succ,List.getElem?_cons_zero,Option.bind_some,beq_self_eq_true,Bool.false_eq_true,ez_P,neNil3,List.getElem?_cons_succ,sdLB,Tryd.f17,T0,T4,hL,hlt,hl2]
   exact⟨_,_,tk,l,rfl,⟨hl3,hok⟩,by simp only[T.get_set,reduceEqDiff,if_false,T3]⟩
  ·have hlt:decide ((j:Int)<(L:Int))=false:=by rw[decide_eq_false_iff_not];omega
   simp(maxSteps:=2000000) (disch:=omega)only[thenW_exit,W_skip,W_region,W_seq,W_cond,W_block,W_exit,seqQ_normal2,seqQ_exit2,WL_nil2,WL_cons,execL_no,execL_val2,putL_some2,condW_f2,wantedA,exec1,evalO,T.get_set,callA,ofOpt,ofConst,neNil3,fb_lss,reduceLT,reduceEqDiff,if_true,if_false,true_and,List.getElem?_toArray,List.getElem?_cons_succ,List.getElem?_cons_zero,Option.bind_some,Bool.false_eq_true,Bool.not_true,Bool.false_beq,ez_P,ez_G,neNil3,List.getElem?_cons_succ,sdLB,Tryd.f17,T0,T4,hL,hlt]
   exact⟨_,_,tk,l,rfl,⟨hl3,hok⟩,by simp only[T.get_set,reduceEqDiff,if_false,T3]⟩
 |n+1,j,tk,l,t,S,hj,hl,hok,RO,hn,T0,T3,T4=>by
  refine WX_loop (W_sound ?_)
  have hjl:j<L:=by omega
  have hlt:decide ((j:Int)<(L:Int))=true:=by rw[decide_eq_true_eq];omega
  have hl2:decide ((j:Int)<3)=true:=by rw[decide_eq_true_eq];omega
  have hws:=wrapS j (by omega)
  obtain⟨e,⟨s,a,bb,ff,ck,off,rfl⟩,hx⟩:=hX j hjl
  obtain⟨fn1,hf1⟩:∃fn,EZ.F 8=some fn:=fnz_8
  obtain⟨fn2,hf2⟩:∃fn,EZ.F 7=some fn:=fnz_7
  obtain⟨nm,hnm,hng⟩:=names_get (modN a 9) (modN_is a (m:=9) (by decide)).2
  obtain⟨nm2,hnm2,hng2⟩:=names_get (ck.length % 9) (Nat.mod_lt _ (by decide))
  obtain⟨bytes,hrt⟩:=ytE
  have RO2:∀(S':St),S.next≤S'.next→(∀id,id<S.next→S'.mem.get id=S.mem.get id)→RowO 6 S' tk (l.map dcA):=fun S' h1 h2=>RO.keep h1 fun ha hb=>h2 _ hb
  have hpush:=fun(S':St) (d:PDc) (h1:S.next≤S'.next) (h2:∀id,id<S.next→S'.mem.get id=S.mem.get id)=>push_row (E:=EZ) hrt rfl rfl (RO2 S' h1 h2) (by omega) (dcA d) rfl (by rw[List.length_map];omega)
  have hmap:∀d:PDc,l.map dcA ++ [dcA d]=(l ++ [d]).map dcA:=fun d=>by rw[List.map_append];rfl
  simp only[cells_agg,strS,i64A]at hx
  have hbs:=beqA_st ck
  have hrem:=fbm_rem .i64 (ck.length:Int) 9 (by decide)
  have hrem2:((ck.length:Int)).tmod 9=((ck.length % 9:Nat):Int):=by rw[Int.tmod_eq_emod_of_nonneg (by omega)];omega
  rw[hrem2]at hrem
  have hsl:∀S,oLen Tryd.prog S 9 (.v (.string ⟨⟨ck⟩⟩))=some ck.length:=fun S=>len9 S ck
  have fin:=fun(d:PDc) (hd:okDc d) (tk':Nat) (t':T AV) (S':St) (RO':RowO 6 S' tk' ((l ++ [d]).map dcA)) (hn':2≤S'.next)=>sd_lp hL hX n (j+1) tk' (l ++ [d]) t' S' (by omega) (by rw[List.length_append,hl];rfl) (fun x hx=>by
   rcases List.mem_append.1 hx with h |h
   ·exact hok x h
   ·rw[List.mem_singleton]at h;subst h;exact hd) RO' hn'
  generalize hz:[AV.v (.string ⟨⟨[]⟩⟩),.v (.int .i64 0),.v (.bool false),.v (.bool false),.v (.string ⟨⟨[]⟩⟩),.v (.bool false)]=zz
  have mk:∀(c0 c1 c2 c3:List AV) (d:PDc),okDc d→∃S2,appendE EZ (((((S.newBox zz).to S.next c0).to S.next c1).to S.next c2).to S.next c3) 24 24 (.sl tk 0 6 (l.map dcA)) (.sl 1 0 6 [dcA d])=some (.sl (S.next+1) 0 6 ((l ++ [d]).map dcA),S2)∧∀t':T AV,t'.get 0=some v→t'.get 3=some (.sl (S.next+1) 0 6 ((l ++ [d]).map dcA))→t'.get 4=some (.v (.int .i64 ((j+1:Nat):Int)))→WX EZ 49 (.loop sdLB) ⟨t',[]⟩ S2 (fun r=>∃t' S' tk l',r=.out (.exit 0) ⟨t',[]⟩ S'∧okDs l'∧t'.get 3=some (.sl tk 0 6 (l'.map dcA))):=fun c0 c1 c2 c3 d hd=>by
   obtain⟨S2,happ,ro2,n2,k2⟩:=hpush (((((S.newBox zz).to S.next c0).to S.next c1).to S.next c2).to S.next c3) d (by simp only[to_next,nb_next];omega) (fun id hid=>by simp only[to_get,nb_get];rw[if_neg (by omega),if_neg (by omega),if_neg (by omega),if_neg (by omega),if_neg (by omega)])
   rw[hmap d]at happ ro2
   simp only[to_next,nb_next]at happ ro2 n2
   exact⟨S2,happ,fun t' h0 h3 h4=>fin d hd _ t' S2 ro2 (by omega) h0 h3 h4⟩
  subst hz
  by_cases hck:ck=[]
  ·have hne:decide (ck=[])=true:=decide_eq_true hck
   obtain⟨S2,happ,fin2⟩:=mk [.v (.string ⟨⟨s⟩⟩),.v (.int .i64 a),.v (.bool bb),.v (.bool ff),.v (.string ⟨⟨ck⟩⟩),.v (.bool off)] [.v (.string ⟨⟨nm⟩⟩),.v (.int .i64 a),.v (.bool bb),.v (.bool ff),.v (.string ⟨⟨ck⟩⟩),.v (.bool off)] [.v (.string ⟨⟨nm⟩⟩),.v (.int .i64 (bits .and .i64 a 4095)),.v (.bool bb),.v (.bool ff),.v (.string ⟨⟨ck⟩⟩),.v (.bool off)] [.v (.string ⟨⟨nm⟩⟩),.v (.int .i64 (bits .and .i64 a 4095)),.v (.bool bb),.v (.bool ff),.v (.string ⟨⟨ck⟩⟩),.v (.bool false)] ⟨nm,bits .and .i64 a 4095,bb,ff,ck,false⟩ ⟨hnm.2,by show ck.length≤30;rw[hck];exact Nat.zero_le _⟩
   generalize (l ++ [(⟨nm,bits .and .i64 a 4095,bb,ff,ck,false⟩:PDc)]).map dcA=nw at *
   generalize l.map dcA=ow at *
   simp only[dcA,strS,i64A]at happ
   simp(maxSteps:=2000000) (disch:=omega)only[thenW_exit,W_skip,W_region,W_drawn,W_seq,W_cond,W_block,W_exit,seqQ_normal2,seqQ_exit2,WL_nil2,WL_cons,execL_val2,execL_skip2,putL_none2,putL_some2,condW_t2,wantedA,exec1,evalO,T.get_set,callA,ofOpt,ofOptS,ofConst,neNil3,fb_lss,reduceLT,reduceAdd,reduceEqDiff,if_true,if_false,true_and,List.getElem?_toArray,List.getElem?_cons_succ,List.getElem?_cons_zero,Option.bind_some,List.nil_append,List.append_nil,beq_self_eq_true,Bool.false_eq_true,nb_get,vstB_agg,List.length_cons,List.length_nil,Nat.zero_add,reduceLeDiff,List.drop_succ_cons,List.drop_nil,List.take_succ_cons,List.take_zero,and_self,ez_P,strS,neNil3,List.getElem?_cons_succ,yleEc,ysEc,yaEc,nb_get,sdLB,Tryd.f17,T0,T4,hL,hlt,hl2,hx]
   refine WD_by [(1,true),(2,true),(0,true),(2,false),(3,true),(4,true),(5,true),(6,true),(7,true)] (by kernel_rfl) (by kernel_rfl) ?_
   simp(maxSteps:=2000000) (disch:=omega)only[wantedA,exec1,evalO,T.get_set,callA,mapO,ofOpt,reduceLT,reduceEqDiff,if_true,if_false,true_and,List.getElem?_toArray,List.getElem?_cons_succ,List.getElem?_cons_zero,List.append_nil,Bool.false_eq_true,WR_op,execR_val2,execR_enter2,putRW_some2,rsOf,to_get,nb_get,cl1_box,Nat.zero_add,ez_P,yl3,List.getElem?_cons_succ,yfEc_1,to_get,nb_get,hf2]
   refine names_u ?_
   simp(maxSteps:=2000000) (disch:=omega)only[wantedA,exec1,evalO,T.get_set,callA,mapO,ofOpt,ofConst,reduceLT,reduceEqDiff,if_true,if_false,true_and,List.getElem?_cons_succ,List.getElem?_cons_zero,List.nil_append,List.append_nil,WR_op,WR_re2,execR_enter2,putRW_some2,retRW_ret2,againO,lookV,to_get,nb_get,cl1_box,ez_P,yl3,List.getElem?_cons_succ,beqA_in,to_get,nb_get,hf1]
   refine mod_u 9 (by decide) (by decide) ?_
   simp(maxSteps:=2000000) (disch:=omega)only[thenW_normal,W_region,W_drawn,W_seq,W_cond,seqQ_normal2,blockW_normal2,WL_nil2,WL_cons,execL_val2,execL_skip2,putL_none2,putL_some2,condW_f2,wantedA,exec1,evalO,T.get_set,callA,ofOpt,ofOptS,ofConst,partsA,neNil3,fb_add,fb_neqSx,neNil9,reduceLT,reduceAdd,reduceEqDiff,if_true,if_false,true_and,List.getElem?_cons_succ,List.getElem?_cons_zero,List.nil_append,Bool.false_eq_true,Bool.not_true,WR_nil2,WR_op,execR_val2,execR_skip2,putRW_none2,putRW_some2,retRW_ret2,fixQ_normal2,to_get,nb_get,cl1_box,clN_box,vstB_v,List.length_cons,List.length_nil,Nat.zero_add,Nat.add_zero,reduceLeDiff,List.drop_zero,List.drop_succ_cons,List.drop_nil,List.take_succ_cons,List.take_zero,List.cons_append,ez_P,ez_G,neNil3,neNil9,yl3,yl9,clN_box,List.getElem?_cons_succ,ylEc,yfEc_0,yfEc_1,yfEc_4,yfEc_5,yle9,ys3,ys4,ys9,fb_and,eqOr_and3,andO_i,to_get,nb_get,T3,T4,hws,hng,hne,happ,yrE_1]
   refine fin2 _ ?_ ?_ ?_
   ·simp only[T.get_set,reduceEqDiff,if_false,T0]
   ·simp only[T.get_set,reduceEqDiff,if_true,if_false]
   ·simp only[T.get_set,reduceEqDiff,if_true,if_false]
  ·have hne:decide (ck=[])=false:=decide_eq_false hck
   obtain⟨S2,happ,fin2⟩:=mk [.v (.string ⟨⟨s⟩⟩),.v (.int .i64 a),.v (.bool bb),.v (.bool ff),.v (.string ⟨⟨ck⟩⟩),.v (.bool off)] [.v (.string ⟨⟨nm⟩⟩),.v (.int .i64 a),.v (.bool bb),.v (.bool ff),.v (.string ⟨⟨ck⟩⟩),.v (.bool off)] [.v (.string ⟨⟨nm⟩⟩),.v (.int .i64 (bits .and .i64 a 4095)),.v (.bool bb),.v (.bool ff),.v (.string ⟨⟨ck⟩⟩),.v (.bool off)] [.v (.string ⟨⟨nm⟩⟩),.v (.int .i64 (bits .and .i64 a 4095)),.v (.bool bb),.v (.bool ff),.v (.string ⟨⟨nm2⟩⟩),.v (.bool off)] ⟨nm,bits .and .i64 a 4095,bb,ff,nm2,off⟩ ⟨hnm.2,hnm2.2⟩
   generalize (l ++ [(⟨nm,bits .and .i64 a 4095,bb,ff,nm2,off⟩:PDc)]).map dcA=nw at *
   generalize l.map dcA=ow at *
   simp only[dcA,strS,i64A]at happ
   simp(maxSteps:=2000000) (disch:=omega)only[thenW_exit,W_skip,W_region,W_drawn,W_seq,W_cond,W_block,W_exit,seqQ_normal2,seqQ_exit2,WL_nil2,WL_cons,execL_val2,execL_skip2,putL_none2,putL_some2,condW_t2,wantedA,exec1,evalO,T.get_set,callA,ofOpt,ofOptS,ofConst,neNil3,fb_lss,reduceLT,reduceAdd,reduceEqDiff,if_true,if_false,true_and,List.getElem?_toArray,List.getElem?_cons_succ,List.getElem?_cons_zero,Option.bind_some,List.nil_append,List.append_nil,beq_self_eq_true,Bool.false_eq_true,nb_get,vstB_agg,List.length_cons,List.length_nil,Nat.zero_add,reduceLeDiff,List.drop_succ_cons,List.drop_nil,List.take_succ_cons,List.take_zero,and_self,ez_P,strS,neNil3,List.getElem?_cons_succ,yleEc,ysEc,yaEc,nb_get,sdLB,Tryd.f17,T0,T4,hL,hlt,hl2,hx]
   refine WD_by [(1,true),(2,true),(0,true),(2,false),(3,true),(4,true),(5,true),(6,true),(7,true)] (by kernel_rfl) (by kernel_rfl) ?_
   simp(maxSteps:=2000000) (disch:=omega)only[wantedA,exec1,evalO,T.get_set,callA,mapO,ofOpt,reduceLT,reduceEqDiff,if_true,if_false,true_and,List.getElem?_toArray,List.getElem?_cons_succ,List.getElem?_cons_zero,List.append_nil,Bool.false_eq_true,WR_op,execR_val2,execR_enter2,putRW_some2,rsOf,to_get,nb_get,cl1_box,Nat.zero_add,ez_P,yl3,List.getElem?_cons_succ,yfEc_1,to_get,nb_get,hf2]
   refine names_u ?_
   simp(maxSteps:=2000000) (disch:=omega)only[wantedA,exec1,evalO,T.get_set,callA,mapO,ofOpt,ofConst,reduceLT,reduceEqDiff,if_true,if_false,true_and,List.getElem?_cons_succ,List.getElem?_cons_zero,List.nil_append,List.append_nil,WR_op,WR_re2,execR_enter2,putRW_some2,retRW_ret2,againO,lookV,to_get,nb_get,cl1_box,ez_P,yl3,List.getElem?_cons_succ,beqA_in,to_get,nb_get,hf1]
   refine mod_u 9 (by decide) (by decide) ?_
   simp(maxSteps:=2000000) (disch:=omega)only[W_region,W_drawn,W_seq,W_cond,seqQ_normal2,WL_nil2,WL_cons,execL_val2,execL_skip2,putL_none2,putL_some2,condW_t2,wantedA,exec1,evalO,T.get_set,callA,ofOpt,ofOptS,ofConst,partsA,neNil3,fb_neqSx,neNil9,reduceLT,reduceAdd,reduceEqDiff,if_true,if_false,true_and,List.getElem?_cons_succ,List.getElem?_cons_zero,List.nil_append,Bool.false_eq_true,Bool.not_false,WR_nil2,WR_op,execR_val2,execR_skip2,putRW_none2,putRW_some2,retRW_ret2,fixQ_normal2,to_get,nb_get,cl1_box,clN_box,vstB_v,List.length_cons,List.length_nil,Nat.zero_add,Nat.add_zero,reduceLeDiff,List.drop_zero,List.drop_succ_cons,List.drop_nil,List.take_succ_cons,List.take_zero,List.cons_append,ez_P,ez_G,neNil3,neNil9,yl3,yl9,clN_box,List.getElem?_cons_succ,ylEc,yfEc_0,yfEc_1,yfEc_4,yfEc_5,yle9,ys3,ys4,ys9,fb_and,eqOr_and3,andO_i,to_get,nb_get,T3,hng,hne,yrE_1]
   refine WD_by [(1,true),(2,true),(3,true),(4,true),(0,true),(3,false),(2,false),(5,true),(6,true),(7,true),(8,true)] (by kernel_rfl) (by kernel_rfl) ?_
   simp(maxSteps:=2000000) (disch:=omega)only[wantedA,exec1,evalO,T.get_set,callA,mapO,ofOpt,ofConst,neNil3,reduceLT,reduceEqDiff,if_true,if_false,true_and,List.getElem?_toArray,List.getElem?_cons_succ,List.getElem?_cons_zero,List.append_nil,Bool.false_eq_true,WR_op,execR_val2,execR_enter2,putRW_some2,rsOf,to_get,nb_get,cl1_box,Nat.zero_add,ez_P,neNil3,yl9,List.getElem?_cons_succ,yfEc_4,to_get,nb_get,hf2,hrem,hsl]
   refine names_u ?_
   simp(maxSteps:=2000000) (disch:=omega)only[thenW_normal,W_region,seqQ_normal2,blockW_normal2,WL_nil2,WL_cons,execL_val2,putL_some2,wantedA,exec1,evalO,T.get_set,callA,ofOpt,ofOptS,ofConst,partsA,neNil3,fb_add,reduceLT,reduceAdd,reduceEqDiff,if_true,if_false,true_and,List.getElem?_cons_succ,List.getElem?_cons_zero,List.nil_append,Bool.false_eq_true,WR_nil2,WR_op,WR_re2,execR_val2,execR_skip2,putRW_none2,putRW_some2,retRW_ret2,fixQ_normal2,againO,lookV,to_get,nb_get,cl1_box,clN_box,vstB_v,List.length_cons,List.length_nil,Nat.zero_add,reduceLeDiff,List.drop_zero,List.drop_succ_cons,List.take_succ_cons,List.take_zero,List.cons_append,ez_P,neNil3,yl9,clN_box,List.getElem?_cons_succ,ylEc,yfEc_4,yle9,ys9,beqA_in,to_get,nb_get,T3,T4,hws,hng2,hsl,happ,hbs,yrE_1]
   refine fin2 _ ?_ ?_ ?_
   ·simp only[T.get_set,reduceEqDiff,if_false,T0]
   ·simp only[T.get_set,reduceEqDiff,if_true,if_false]
   ·simp only[T.get_set,reduceEqDiff,if_true,if_false]
theorem sd_k(v:AV)(hv:RawR 6 RawD v):KnZ 17 [v]:=by
 have fin:∀(l:List PDc) (tk:Nat) (S':St),okDs l→∃a S'',R.ret (.sl tk 0 6 (l.map dcA)) S' = R.ret a S''∧freeV a=true∧SpecZ 17 [v] (clean a):=fun l tk S' hl=>by
  refine⟨_,_,rfl,(dc_free l).1,?_⟩
  intro v' q _
  refine⟨l,hl,?_⟩
  show AV.sl 0 0 6 (cleanL _)=_
  rw[(dc_free l).2]
 obtain⟨L,hL,hX⟩:=rawD_row hv
 have lp:=fun t S=>sd_lp hL hX (min L 3) 0 1 [] t S (by omega) rfl (fun _ h=>by cases h) (.inl rfl)
 unfold sdLB at lp
 simp only[Tryd.f17,List.map_nil]at lp
 refine bodyZ Tryd.f17 (by kernel_rfl) (by kernel_rfl) (show(_:Nat)≤_ from by show(_:Nat)≤_;simp[Tryd.f17]) ?_
 simp(maxSteps:=2000000) (disch:=omega)only[W_region,W_seq,W_block,W_loop,seqQ_normal2,WL_nil2,WL_cons,execL_val2,putL_some2,wantedA,exec1,evalO,initT,T.get_set,T.get_leaf,ofOpt,ofConst,partsA,reduceLT,reduceEqDiff,if_true,if_false,true_and,Option.getD_some,ez_P,initT,Tryd.f17,yrE_0]
 refine WX.mono (lp _ _ ?_ ?_ ?_ ?_) ?_
 ·exact Nat.le_refl _
 ·simp only[T.get_set,T.get_leaf,reduceEqDiff,if_true,if_false] <;> rfl
 ·simp only[T.get_set,T.get_leaf,reduceEqDiff,if_true,if_false] <;> rfl
 ·simp only[T.get_set,T.get_leaf,reduceEqDiff,if_true,if_false] <;> rfl
 rintro _ ⟨t',S',tk,l',rfl,hl',T3⟩
 simp(maxSteps:=2000000) (disch:=omega)only[W_region,W_seq,W_ret,seqQ_normal2,seqQ_exit2,blockW_exit2,WL_nil2,WL_cons,execL_val2,putL_some2,wantedA,exec1,evalO,T.get_set,ofOpt,finW_ret,giveW,resultsA,tupA,reduceLT,reduceEqDiff,if_true,if_false,true_and,T3]
 exact fin _ _ _ hl'
theorem sd_u{v:AV}{S:St}{Q:R→Prop}(hv:RawR 6 RawD v)(h:∀l,okDs l→Q (.ret (.sl 0 0 6 (l.map dcA)) S)):WC EZ 17 [v] S Q :=
 callZ (args':=[v]) (sd_k v hv) (by kernel_rfl) (by show(freeV v && true)=true;rw[(rawR_free (fun _=>rawD_free) hv).1];rfl) (by show [clean v]=_;rw[(rawR_free (fun _=>rawD_free) hv).2]) fun x _ _ hs=>by
  obtain⟨l,hl,hx⟩:=hs v rfl hv
  subst hx
  exact h l hl
end Go.Ax
