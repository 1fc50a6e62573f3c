/- TtZa -/
import Derived.Test.YtkjknlaffgkloaaDoorTpG13
import Derived.Test.YtkjknlaffgkloaaDoorTpG14
import Derived.Laws.BitsLemmas
import Derived.Laws.Entries
import Derived.IntWalk
set_option linter.unusedVariables false
set_option linter.unusedSimpArgs false
set_option maxHeartbeats 16000000
noncomputable section
open Nat (reduceLT reduceAdd reduceEqDiff reduceLeDiff)
namespace Go.Ax
open Go.RowKit Go.Proofs
set_option maxRecDepth 100000
theorem yz55':sizeT Tryd.prog 55=some 1:=by kernel_rfl
theorem ys55(S:St)(p k:Nat)(v:AV):oStore Tryd.prog S 55 (.ptr p k) v=vstB S (S.mem.get p) p k v 1:=vstG yz55' S p k v
theorem yrP_1(a0 a1 a2 a3 a4 a5:AV):oBuildSlice Tryd.prog 55 1 [(0,.agg [a0,a1,a2,a3,a4,a5])]=some (.sl 1 0 6 [.agg [a0,a1,a2,a3,a4,a5]]):=by kernel_rfl
theorem ybX_5(a b c:Int)(l:List UInt8)(o:Bool):oBuild Tryd.prog 57 [(0,.v (.int .i64 a)),(1,.v (.int .i64 b)),(2,.v (.int .i64 c)),(3,.v (.string ⟨⟨l⟩⟩)),(4,.v (.bool o))]=some (.agg [.v (.int .i64 a),.v (.int .i64 b),.v (.int .i64 c),.v (.string ⟨⟨l⟩⟩),.v (.bool o),.nils]):=by kernel_rfl
theorem exL_app:∀(l m:List PX),exL (l ++ m)=exL l ++ exL m
 | [],m=>rfl
 |e :: r,m=>by show exA e :: exL (r ++ m)=_;rw[exL_app r m];rfl
def boxY(S:St)(cs:List AV):St:=(S.newBox [.v (.int .i64 0),.v (.int .i64 0),.v (.int .i64 0),strS [],.v (.bool false),.nils]).to S.next cs
theorem boxY_next(S:St)(cs:List AV):(boxY S cs).next=S.next+1:=by unfold boxY;simp only[to_next,nb_next]
theorem boxY_get(S:St)(cs:List AV)(id:Nat)(h:id<S.next):(boxY S cs).mem.get id=S.mem.get id:=by
 unfold boxY
 simp only[to_get,nb_get]
 rw[if_neg (by omega),if_neg (by omega)]
theorem acc_boxY{S:St}{v:AV}{es:List AV}{sz:Nat}(h:Acc sz S v es)(cs:List AV):Acc sz (boxY S cs) v es :=
 h.keep (by rw[boxY_next];omega) fun id m _ hi hm=>by rw[boxY_get S cs id hi];exact hm
theorem acc_to{S:St}{v:AV}{es:List AV}{sz:Nat}(h:Acc sz S v es){id:Nat}{bs cs:List AV}(hb:S.mem.get id=some (.box bs)):Acc sz (S.to id cs) v es :=
 h.keep (Nat.le_refl _) fun i m _ _ hm=>by
  rw[to_get,if_neg (fun e=>by rw[e,hb]at hm;cases hm)];exact hm
theorem call20{e:PX}{d:Nat}{S:St}{Q:R→Prop}(hk:KnZ 20 [exA e])(ho:okX d e)(hd:d≤4)(h:Q (.ret (exA e) S)):WC EZ 20 [exA e] S Q :=
 callZ hk (by kernel_rfl) (by show(freeV (exA e) && true)=true;rw[(exA_fr e).1];rfl) (by show [clean (exA e)]=_;rw[(exA_fr e).2]) fun a _ _ hs=>by
  have:=hs e d rfl ho hd
  subst this
  exact h
def owLB:Code:=match Tryd.f20.body with
 |some (.seq _ (.seq _ (.seq (.seq _ (.block _ (.loop c))) _)))=>c
 |_=>.skip
theorem ow_lp{k ap nn:Int}{nm:List UInt8}{off:Bool}{kids:List PX}{d:Nat}{z3:List AV}(ho:okL d kids)(hd:d≤4)(hl:kids.length≤10)(H:∀x∈kids,KnZ 20 [exA x]):∀(n j:Nat) (a:AV) (t:T AV) (S:St),j+n=kids.length→Acc 6 S a (exL (kids.take j))→5≤S.next→S.mem.get 3=some (.box z3)→S.mem.get 4=some (.box [i64A k,i64A ap,i64A nn,strS nm,.v (.bool off),a])→t.get 2=some (.ptr 3 0)→t.get 3=some (.ptr 4 0)→t.get 18=some (rowX kids)→t.get 19=some (.v (.int .i64 ((kids.length:Nat):Int)))→t.get 20=some (.v (.int .i64 ((j:Nat):Int))) →
  WX EZ 33 (.loop owLB) ⟨t,[]⟩ S (fun r=>∃t' S' a',r=.out (.exit 0) ⟨t',[]⟩ S'∧Acc 6 S' a' (exL kids)∧S'.mem.get 3=some (.box z3)∧S'.mem.get 4=some (.box [i64A k,i64A ap,i64A nn,strS nm,.v (.bool off),a'])∧t'.get 2=some (.ptr 3 0)∧t'.get 3=some (.ptr 4 0)∧(kids=[]→a' = a))
 |0,j,a,t,S,hj,hA,hn,m3,m4,T2,T3,T18,T19,T20=>by
  refine WX_loop (W_sound ?_)
  have hlt:decide ((j:Int)<(kids.length:Int))=false:=by rw[decide_eq_false_iff_not];omega
  have hjl:kids.take j=kids:=List.take_of_length_le (by omega)
  rw[hjl]at hA
  simp(maxSteps:=2000000) (disch:=omega)only[thenW_exit,W_skip,W_region,W_seq,W_cond,W_block,W_exit,seqQ_normal2,seqQ_exit2,WL_nil2,WL_cons,execL_val2,putL_some2,condW_f2,wantedA,exec1,evalO,T.get_set,ofOpt,neNil3,fb_lss,reduceLT,reduceEqDiff,if_true,if_false,true_and,Bool.false_eq_true,ez_P,strS,i64A,neNil3,owLB,Tryd.f20,T18,T19,T20,hlt]
  exact⟨_,_,a,rfl,hA,m3,m4,by simp only[T.get_set,reduceEqDiff,if_false,T2],by simp only[T.get_set,reduceEqDiff,if_false,T3],fun _=>rfl⟩
 |n+1,j,a,t,S,hj,hA,hn,m3,m4,T2,T3,T18,T19,T20=>by
  refine WX_loop (W_sound ?_)
  have hjl:j<kids.length:=by omega
  have hlt:decide ((j:Int)<(kids.length:Int))=true:=by rw[decide_eq_true_eq];omega
  have hws:=wrapS j (by omega)
  have hx:=rowX_idxR kids j hjl
  have hmem:=List.getElem_mem hjl
  have hok:=okL_get ho _ hmem
  obtain⟨fn1,hf1⟩:=fnz_20
  obtain⟨bytes,hrt⟩:=ytP
  obtain⟨c0,c1,c2,c3,c4,c5,hagg⟩:=ex_agg kids[j]
  have hcl:(exA kids[j]).cells=[c0,c1,c2,c3,c4,c5]:=by rw[hagg];rfl
  rw[hcl]at hx
  have hcall:=fun(S:St) (Q:R→Prop) h=>call20 (S:=S) (Q:=Q) (H _ hmem) hok hd h
  have hel:(exL (kids.take j)).length≤2000000:=by rw[exL_len,List.length_take];omega
  obtain⟨S2,happ,hA2,n2,k2⟩:=acc_push hrt (acc_boxY hA [c0,c1,c2,c3,c4,c5]) (by rw[boxY_next];omega) (exA kids[j]) (by rw[hcl];rfl) hel
  have hba:beqA a a=true:=by
   rcases hA with⟨rfl,_⟩ | ⟨tk,rfl,_⟩
   ·rfl
   ·show(tk == tk && 0 == 0 && 6 == 6 && beqL (exL (kids.take j)) (exL (kids.take j)))=true
    rw[beqL_ex];simp
  have hmm:exL (kids.take j) ++ [exA kids[j]]=exL (kids.take (j+1)):=by
   rw[List.take_succ_eq_append_getElem hjl,exL_app];rfl
  rw[hmm]at happ hA2
  have m4':=k2 4 _ (by omega) (by rw[boxY_next];omega) (by rw[boxY_get S _ 4 (by omega)];exact m4)
  have m3':=k2 3 _ (by omega) (by rw[boxY_next];omega) (by rw[boxY_get S _ 3 (by omega)];exact m3)
  have fin:=fun(t':T AV) (cs:List AV) (hcs:cs=[i64A k,i64A ap,i64A nn,strS nm,.v (.bool off),.sl (boxY S [c0,c1,c2,c3,c4,c5]).next 0 6 (exL (kids.take (j+1)))])=>ow_lp (k:=k) (ap:=ap) (nn:=nn) (nm:=nm) (off:=off) (z3:=z3) ho hd hl H n (j+1) _ t' (S2.to 4 cs) (by omega) (acc_to hA2 m4') (by rw[to_next,n2,boxY_next];omega) (by rw[to_get,if_neg (by decide)];exact m3') (by rw[to_get,if_pos rfl,hcs])
  rw[hagg]at happ hcall
  generalize exL (kids.take (j+1))=nw at *
  generalize exL (kids.take j)=ow at *
  generalize rowX kids=row at *
  rw[boxY_next]at happ fin
  unfold boxY at happ
  simp only[strS,i64A]at *
  have hne4:¬ 4=S.next:=by omega
  simp(maxSteps:=2000000) (disch:=omega)only[thenW_exit,W_skip,W_region,W_drawn,W_seq,W_cond,W_block,W_exit,seqQ_normal2,seqQ_exit2,WL_nil2,WL_cons,execL_val2,execL_skip2,putL_none2,putL_some2,condW_t2,wantedA,exec1,evalO,T.get_set,ofOpt,ofOptS,neNil3,fb_lss,reduceLT,reduceAdd,reduceEqDiff,if_true,if_false,true_and,List.nil_append,List.append_nil,Bool.false_eq_true,nb_get,vstB_agg,List.length_cons,List.length_nil,Nat.zero_add,reduceLeDiff,List.drop_succ_cons,List.drop_nil,List.take_succ_cons,List.take_zero,and_self,ez_P,strS,neNil3,yleY,ysY,yaY,nb_get,owLB,Tryd.f20,T18,T19,T20,hlt,hx]
  refine WD_by [(0,true),(1,true),(2,true),(3,true),(1,false),(4,true),(5,true),(6,true),(7,true)] (by kernel_rfl) (by kernel_rfl) ?_
  simp(maxSteps:=2000000) (disch:=omega)only[wantedA,exec1,evalO,T.get_set,callA,mapO,ofOpt,reduceLT,reduceAdd,reduceEqDiff,if_true,if_false,true_and,List.getElem?_toArray,List.getElem?_cons_succ,List.getElem?_cons_zero,List.nil_append,List.append_nil,Bool.false_eq_true,WR_op,execR_val2,execR_enter2,putRW_some2,rsOf,to_get,nb_get,cl1_box,clN_box,List.length_cons,List.length_nil,Nat.zero_add,reduceLeDiff,List.drop_zero,List.take_succ_cons,List.take_zero,ez_P,yl55,yfX_5,clN_box,List.getElem?_cons_succ,ylY,to_get,nb_get,T3,hf1,m4,hne4]
  refine hcall _ _ ?_
  simp(maxSteps:=2000000) (disch:=omega)only[thenW_normal,W_region,seqQ_normal2,blockW_normal2,WL_nil2,WL_cons,execL_val2,putL_some2,wantedA,exec1,evalO,T.get_set,callA,ofOpt,ofOptS,ofConst,partsA,neNil3,fb_add,reduceLT,reduceAdd,reduceEqDiff,if_true,if_false,true_and,List.getElem?_cons_succ,List.getElem?_cons_zero,List.nil_append,Bool.false_eq_true,WR_nil2,WR_op,WR_re2,execR_val2,execR_skip2,putRW_none2,putRW_some2,retRW_ret2,fixQ_normal2,againO,lookV,to_get,nb_get,cl1_box,vstB_s,List.length_cons,List.length_nil,Nat.zero_add,reduceLeDiff,List.drop_succ_cons,List.drop_nil,List.take_succ_cons,List.take_zero,List.cons_append,ez_P,neNil3,yl55,yfX_5,List.getElem?_cons_succ,ys55,yrP_1,to_get,nb_get,T3,T20,m4,m4',hne4,happ,hba,hws]
  refine WX.mono (fin _ _ rfl ?_ ?_ ?_ ?_ ?_) fun r ⟨t',S',a',h1,h2,h3,h4,h5,h6,_⟩=>⟨t',S',a',h1,h2,h3,h4,h5,h6,fun h=>by rw[h]at hjl;exact absurd hjl (Nat.not_lt_zero _)⟩
  ·simp only[T.get_set,reduceEqDiff,if_false,T2]
  ·simp only[T.get_set,reduceEqDiff,if_false,T3]
  ·simp only[T.get_set,reduceEqDiff,if_false,T18]
  ·simp only[T.get_set,reduceEqDiff,if_false,T19]
  ·simp only[T.get_set,reduceEqDiff,if_true,if_false]
theorem own_step(e:PX)(d:Nat)(ho:okX (d+1) e)(hd:d+1≤4)(H:∀x∈e.kids,KnZ 20 [exA x]):KnZ 20 [exA e]:=by
 have fin:∀(x:AV) (S':St),freeV x=true→clean x=exA e→∃a S'',R.ret x S' = R.ret a S''∧freeV a=true∧SpecZ 20 [exA e] (clean a):=fun x S' h1 h2=>by
  refine⟨_,_,rfl,h1,?_⟩
  intro e' d' q _ _
  simp only[List.cons.injEq,and_true]at q
  rw[← exA_inj _ _ q,h2]
 cases e with
 |mk k ap nn nm off kids =>
 simp only[okX]at ho
 obtain⟨_,hnn,_,hnm,hne,hok⟩:=ho
 have hfew:=needs_few hne
 have H:∀x∈kids,KnZ 20 [exA x]:=H
 have he:exA (.mk k ap nn nm off kids)=.agg [i64A k,i64A ap,i64A nn,strS nm,.v (.bool off),rowX kids]:=exA_mk ..
 have hlr:=rowX_lenR kids
 have lp:=fun z3 t S=>ow_lp (k:=k) (ap:=ap) (nn:=nn) (nm:=nm) (off:=off) (z3:=z3) hok (by omega) hfew H kids.length 0 .nils t S (by omega) (Acc.none 6 S)
 unfold owLB at lp
 simp only[Tryd.f20]at lp
 have hfr:=rowX_fr kids
 have hend:∀a,(a=.nils∧exL kids=[])∨(kids≠[]∧∃tk,a=.sl tk 0 6 (exL kids))→freeV a=true∧clean a=rowX kids:=fun a h=>by
  rcases h with⟨rfl,h⟩ | ⟨hne0,tk,rfl⟩
  ·have hk:kids=[]:=by
    have:=exL_len kids
    rw[h]at this
    exact List.length_eq_zero_iff.1 this.symm
   rw[hk];exact⟨rfl,rfl⟩
  ·refine⟨(exL_fr kids).1,?_⟩
   show AV.sl 0 0 6 (cleanL (exL kids))=_
   rw[(exL_fr kids).2]
   cases kids with
   |nil=>exact absurd rfl hne0
   |cons x r=>rfl
 rw[he]at fin ⊢
 refine bodyZ Tryd.f20 (by kernel_rfl) (by kernel_rfl) (show(_:Nat)≤_ from by show(_:Nat)≤_;simp[Tryd.f20]) ?_
 generalize rowX kids=row at *
 simp only[strS,i64A]at *
 simp(maxSteps:=2000000) (disch:=omega)only[W_region,W_seq,W_block,W_loop,seqQ_normal2,WL_nil2,WL_cons,execL_val2,execL_skip2,putL_none2,putL_some2,wantedA,exec1,evalO,initT,T.get_set,T.get_leaf,callA,ofOpt,ofOptS,ofConst,partsA,reduceLT,reduceAdd,reduceEqDiff,if_true,if_false,true_and,Option.getD_some,List.getElem?_cons_succ,List.getElem?_cons_zero,List.nil_append,List.append_nil,to_get,nb_get,nb_next,st0_get,st0_next,cl1_box,vstB_agg,List.length_cons,List.length_nil,Nat.zero_add,Nat.add_zero,reduceLeDiff,List.drop_succ_cons,List.drop_nil,List.take_zero,and_self,noTup_agg,cells_agg,ez_P,strS,yl2,yl3,yl4,yl9,ysX,yaX,cells_agg,initT,List.getElem?_cons_succ,yfY_0,yfY_1,yfY_2,yfY_3,yfY_4,yfY_5,yl61,ybX_5,to_get,nb_get,nb_next,Tryd.f20,hlr]
 refine WX.mono (lp [.v (.int .i64 0),.v (.int .i64 0),.v (.int .i64 0),.v (.string ⟨⟨[]⟩⟩),.v (.bool false),.nils] _ _ ?_ ?_ ?_ ?_ ?_ ?_ ?_ ?_) ?_
 ·simp only[to_next,nb_next,st0_next];omega
 ·simp only[to_get,nb_get,nb_next,st0_next,reduceAdd,reduceEqDiff,if_true,if_false] <;> rfl
 ·simp only[to_get,nb_get,nb_next,st0_next,reduceAdd,reduceEqDiff,if_true,if_false] <;> rfl
 ·simp only[T.get_set,T.get_leaf,reduceEqDiff,if_true,if_false] <;> rfl
 ·simp only[T.get_set,T.get_leaf,reduceEqDiff,if_true,if_false] <;> rfl
 ·simp only[T.get_set,T.get_leaf,reduceEqDiff,if_true,if_false] <;> rfl
 ·simp only[T.get_set,T.get_leaf,reduceEqDiff,if_true,if_false] <;> rfl
 ·simp only[T.get_set,T.get_leaf,reduceEqDiff,if_true,if_false] <;> rfl
 rintro _ ⟨t',S',a',rfl,hA,m3,m4,T2,T3,hz⟩
 clear lp
 obtain⟨h1,h2⟩:=hend a' (by
  by_cases hk:kids=[]
  ·exact .inl ⟨hz hk,by rw[hk];rfl⟩
  ·rcases hA with⟨_,h⟩ | ⟨tk,h,_⟩
   ·have:=exL_len kids
    rw[h]at this
    exact absurd (List.length_eq_zero_iff.1 this.symm) hk
   ·exact .inr ⟨hk,tk,h⟩)
 simp(maxSteps:=2000000) (disch:=omega)only[W_region,W_seq,W_ret,seqQ_normal2,seqQ_exit2,blockW_exit2,WL_nil2,WL_cons,execL_val2,execL_skip2,putL_none2,putL_some2,wantedA,exec1,evalO,T.get_set,ofOpt,finW_ret,giveW,resultsA,tupA,reduceLT,reduceAdd,reduceEqDiff,if_true,if_false,true_and,List.nil_append,List.append_nil,to_get,clN_box,vstB_agg,List.length_cons,List.length_nil,Nat.zero_add,reduceLeDiff,List.drop_zero,List.drop_succ_cons,List.drop_nil,List.take_succ_cons,List.take_zero,and_self,ez_P,ylX,ysX,clN_box,to_get,T2,T3,m3,m4]
 refine fin _ _ ?_ ?_
 ·show(true && (true && (true && (true && (true && (freeV a' && true))))))=true
  rw[h1];rfl
 ·show AV.agg [_,_,_,_,_,clean a']=_
  rw[h2];rfl
theorem own_k:∀(d:Nat) (e:PX),okX d e→d≤4→KnZ 20 [exA e]
 |0,e,h,_=>absurd h (by cases e;simp[okX])
 |d+1,e,h,hd=>own_step e d h hd fun x hx=>own_k d x (okL_get (okX_kids h) x hx) (by omega)
theorem own_u{e:PX}{d:Nat}{S:St}{Q:R→Prop}(ho:okX d e)(hd:d≤4)(h:Q (.ret (exA e) S)):WC EZ 20 [exA e] S Q:=call20 (own_k d e ho hd) ho hd h
end Go.Ax
noncomputable section
namespace Go.Ax
open Go.RowKit Go.Proofs
set_option maxRecDepth 100000
theorem and_any(x:Int)(m:Nat)(hm:m<65536):∃n:Nat,n≤m∧bits .and .i64 x (m:Int)=(n:Int):=by
 unfold bits
 simp only
 have h:(BitVec.ofInt IntKind.i64.bits x &&& BitVec.ofInt IntKind.i64.bits (m:Int)).toNat≤m:=by
  rw[BitVec.toNat_and]
  refine Nat.le_trans Nat.and_le_right ?_
  have e:(BitVec.ofInt IntKind.i64.bits (m:Int)).toNat=m:=by
   rw[BitVec.ofInt_natCast,BitVec.toNat_ofNat]
   exact Nat.mod_eq_of_lt (Nat.lt_of_lt_of_le hm (by decide))
  rw[e];exact Nat.le_refl _
 exact⟨_,h,IntWalk.i64_in _ (by omega)⟩
def andO(r:OR)(S:St)(c:Int)(x:Option AV):OR:=match x with
 |some (.v (.int .i64 a))=>.val (.v (.int .i64 (bits .and .i64 a c))) S
 |_=>r
theorem andO_i(r:OR)(S:St)(c a:Int):andO r S c (some (.v (.int .i64 a)))=.val (.v (.int .i64 (bits .and .i64 a c))) S:=_root_.id rfl
theorem fb_and(a c:Int):fastBin .and (.v (.int .i64 a)) (.v (.int .i64 c))=none:=by simp[fastBin]
theorem and2_eq(F:Operand→Value)(dst:Option Tmp)(k:Tmp)(c:Int)(ty ty2:TypeId)(pos:String)(af:Array Edge)(gd:Option (Nat × Bool)):execOp F { dst:=dst,op:=.binOp .and 2 (.tmp k) (.const (.int .i64 c)) ty2,type:=ty,pos:=pos,after:=af,guard:=gd }=execOp (maxG (F (.tmp k)) (F (.const (.int .i64 c)))) { dst:=none,op:=.binOp .and 2 (.tmp 0) (.tmp 1) 2,type:=ty,pos := "", after:=#[],guard:=none }:=by kernel_rfl
theorem and2_val(a c:Int)(ty:TypeId):pureN Tryd.prog 4000 (execOp (maxG (.int .i64 a) (.int .i64 c)) { dst:=none,op:=.binOp .and 2 (.tmp 0) (.tmp 1) 2,type:=ty,pos := "", after:=#[],guard:=none })=some (.int .i64 (bits .and .i64 a c)):=by kernel_rfl
theorem eqOr_and2(f:T AV)(S:St)(dst:Option Tmp)(k:Tmp)(c x:Int)(ty ty2:TypeId)(pos:String)(af:Array Edge)(gd:Option (Nat × Bool)):
  eqOr Tryd.prog gZ f S { dst:=dst,op:=.binOp .and 2 (.tmp k) (.const (.int .i64 c)) ty2,type:=ty,pos:=pos,after:=af,guard:=gd } .and 2 (.v (.int .i64 x)) (.v (.int .i64 c))=andO (eqOrX Tryd.prog gZ f S { dst:=dst,op:=.binOp .and 2 (.tmp k) (.const (.int .i64 c)) ty2,type:=ty,pos:=pos,after:=af,guard:=gd } .and 2 (.v (.int .i64 x)) (.v (.int .i64 c))) S c (f.get k):=by
 unfold andO
 split
 ·rename_i a h1
  have hg1:groundO gZ f (.tmp k)=some (.int .i64 a):=by unfold groundO;simp only[evalO,h1];rfl
  have hg2:groundO gZ f (.const (.int .i64 c))=some (.int .i64 c):=rfl
  have h0:fastEq Tryd.prog .and 2 (.v (.int .i64 x)) (.v (.int .i64 c))=none:=rfl
  unfold eqOr
  rw[h0]
  simp only
  unfold ground
  have hall:((Op.binOp .and 2 (.tmp k) (.const (.int .i64 c)) ty2:Op).operands.toList.all fun x=>(groundO gZ f x).isSome)=true:=by
   show([Operand.tmp k,Operand.const (.int .i64 c)].all fun x=>(groundO gZ f x).isSome)=true
   simp only[List.all_cons,List.all_nil,hg1,hg2,Option.isSome_some,Bool.and_self]
  refine(if_pos hall).trans ?_
  rw[and2_eq]
  have e1:(groundO gZ f (.tmp k)).getD undef=.int .i64 a:=by rw[hg1];rfl
  have e2:(groundO gZ f (.const (.int .i64 c))).getD undef=.int .i64 c:=by rw[hg2];rfl
  simp only[e1,e2,and2_val]
  rfl
 ·rfl
theorem and3_eq(F:Operand→Value)(dst:Option Tmp)(k:Tmp)(c:Int)(ty ty2:TypeId)(pos:String)(af:Array Edge)(gd:Option (Nat × Bool)):execOp F { dst:=dst,op:=.binOp .and 3 (.tmp k) (.const (.int .i64 c)) ty2,type:=ty,pos:=pos,after:=af,guard:=gd }=execOp (maxG (F (.tmp k)) (F (.const (.int .i64 c)))) { dst:=none,op:=.binOp .and 3 (.tmp 0) (.tmp 1) 3,type:=ty,pos := "", after:=#[],guard:=none }:=by kernel_rfl
theorem and3_val(a c:Int)(ty:TypeId):pureN Tryd.prog 4000 (execOp (maxG (.int .i64 a) (.int .i64 c)) { dst:=none,op:=.binOp .and 3 (.tmp 0) (.tmp 1) 3,type:=ty,pos := "", after:=#[],guard:=none })=some (.int .i64 (bits .and .i64 a c)):=by kernel_rfl
theorem eqOr_and3(f:T AV)(S:St)(dst:Option Tmp)(k:Tmp)(c x:Int)(ty ty2:TypeId)(pos:String)(af:Array Edge)(gd:Option (Nat × Bool)):
  eqOr Tryd.prog gZ f S { dst:=dst,op:=.binOp .and 3 (.tmp k) (.const (.int .i64 c)) ty2,type:=ty,pos:=pos,after:=af,guard:=gd } .and 3 (.v (.int .i64 x)) (.v (.int .i64 c))=andO (eqOrX Tryd.prog gZ f S { dst:=dst,op:=.binOp .and 3 (.tmp k) (.const (.int .i64 c)) ty2,type:=ty,pos:=pos,after:=af,guard:=gd } .and 3 (.v (.int .i64 x)) (.v (.int .i64 c))) S c (f.get k):=by
 unfold andO
 split
 ·rename_i a h1
  have hg1:groundO gZ f (.tmp k)=some (.int .i64 a):=by unfold groundO;simp only[evalO,h1];rfl
  have hg2:groundO gZ f (.const (.int .i64 c))=some (.int .i64 c):=rfl
  have h0:fastEq Tryd.prog .and 3 (.v (.int .i64 x)) (.v (.int .i64 c))=none:=rfl
  unfold eqOr
  rw[h0]
  simp only
  unfold ground
  have hall:((Op.binOp .and 3 (.tmp k) (.const (.int .i64 c)) ty2:Op).operands.toList.all fun x=>(groundO gZ f x).isSome)=true:=by
   show([Operand.tmp k,Operand.const (.int .i64 c)].all fun x=>(groundO gZ f x).isSome)=true
   simp only[List.all_cons,List.all_nil,hg1,hg2,Option.isSome_some,Bool.and_self]
  refine(if_pos hall).trans ?_
  rw[and3_eq]
  have e1:(groundO gZ f (.tmp k)).getD undef=.int .i64 a:=by rw[hg1];rfl
  have e2:(groundO gZ f (.const (.int .i64 c))).getD undef=.int .i64 c:=by rw[hg2];rfl
  simp only[e1,e2,and3_val]
  rfl
 ·rfl
theorem and_bit(x:Int):bits .and .i64 x 1=0∨bits .and .i64 x 1=1:=by
 obtain⟨n,h1,h2⟩:=and_any x 1 (by omega)
 have h2:bits .and .i64 x 1=(n:Int):=h2
 omega
theorem yzs2:sizeT Tryd.prog 2=some 1:=by kernel_rfl
theorem ys2(S:St)(p k:Nat)(v:AV):oStore Tryd.prog S 2 (.ptr p k) v=vstB S (S.mem.get p) p k v 1:=vstG yzs2 S p k v
theorem yzs3:sizeT Tryd.prog 3=some 1:=by kernel_rfl
theorem ys3(S:St)(p k:Nat)(v:AV):oStore Tryd.prog S 3 (.ptr p k) v=vstB S (S.mem.get p) p k v 1:=vstG yzs3 S p k v
theorem yzs4:sizeT Tryd.prog 4=some 1:=by kernel_rfl
theorem ys4(S:St)(p k:Nat)(v:AV):oStore Tryd.prog S 4 (.ptr p k) v=vstB S (S.mem.get p) p k v 1:=vstG yzs4 S p k v
theorem yzs9:sizeT Tryd.prog 9=some 1:=by kernel_rfl
theorem ys9(S:St)(p k:Nat)(v:AV):oStore Tryd.prog S 9 (.ptr p k) v=vstB S (S.mem.get p) p k v 1:=vstG yzs9 S p k v
theorem yzs61:sizeT Tryd.prog 61=some 1:=by kernel_rfl
theorem ys61(S:St)(p k:Nat)(v:AV):oStore Tryd.prog S 61 (.ptr p k) v=vstB S (S.mem.get p) p k v 1:=vstG yzs61 S p k v
def kindsN:List Nat:=[3,1,2,3,4,5,6,7,8,9,10,11,12,13,14,6,6,7,8]
def kindsA:List AV:=kindsN.map fun(k:Nat)=>AV.v (.int .i64 ((k:Nat):Int))
theorem kinds_row:oBuildSlice Tryd.prog 95 19 [(0,.v (.int .i64 3)),(1,.v (.int .i64 1)),(2,.v (.int .i64 2)),(3,.v (.int .i64 3)),(4,.v (.int .i64 4)),(5,.v (.int .i64 5)),(6,.v (.int .i64 6)),(7,.v (.int .i64 7)),(8,.v (.int .i64 8)),(9,.v (.int .i64 9)),(10,.v (.int .i64 10)),(11,.v (.int .i64 11)),(12,.v (.int .i64 12)),(13,.v (.int .i64 13)),(14,.v (.int .i64 14)),(15,.v (.int .i64 6)),(16,.v (.int .i64 6)),(17,.v (.int .i64 7)),(18,.v (.int .i64 8))]=some (.sl 1 0 1 kindsA):=by kernel_rfl
theorem kinds_get(j:Nat)(hj:j<19):∃k:Nat,(1≤k∧k≤14)∧oIndexAddr Tryd.prog 95 (.sl 1 0 1 kindsA) (.v (.int .i64 (j:Int)))=some (.ep [.v (.int .i64 (k:Int))]):=by
 have hl:kindsN.length=19:=rfl
 refine⟨kindsN[j],?_,?_⟩
 ·have:∀k∈kindsN,1≤k∧k≤14:=by decide
  exact this _ (List.getElem_mem _)
 ·unfold kindsA
  rw[yxI 1 0 _ j (by rw[List.length_map];omega),List.getElem_map];rfl
theorem kinds_len(S:St):oLen Tryd.prog S 95 (.sl 1 0 1 kindsA)=some 19:=by rw[ynI];rfl
def needN(x y:Nat):List Nat:=[0,0,0,0,1,1,2,3,2,2,1,1,2,x,y]
def needA(x y:Nat):List AV:=(needN x y).map fun(k:Nat)=>AV.v (.int .i64 ((k:Nat):Int))
theorem need_row(x y:Nat):oBuildSlice Tryd.prog 95 15 [(0,.v (.int .i64 0)),(1,.v (.int .i64 0)),(2,.v (.int .i64 0)),(3,.v (.int .i64 0)),(4,.v (.int .i64 1)),(5,.v (.int .i64 1)),(6,.v (.int .i64 2)),(7,.v (.int .i64 3)),(8,.v (.int .i64 2)),(9,.v (.int .i64 2)),(10,.v (.int .i64 1)),(11,.v (.int .i64 1)),(12,.v (.int .i64 2)),(13,.v (.int .i64 (x:Int))),(14,.v (.int .i64 (y:Int)))]=some (.sl 1 0 1 (needA x y)):=by kernel_rfl
theorem need_get(x y:Nat)(hx:x<4)(hy:y<3)(k:Nat)(hk:1≤k∧k≤14):∃m:Nat,m≤3∧needs (k:Int) m∧(k≤3→m=0)∧oIndexAddr Tryd.prog 95 (.sl 1 0 1 (needA x y)) (.v (.int .i64 (k:Int)))=some (.ep [.v (.int .i64 (m:Int))]):=by
 have hl:(needN x y).length=15:=rfl
 have hkl:k<(needN x y).length:=by omega
 have hidx:oIndexAddr Tryd.prog 95 (.sl 1 0 1 (needA x y)) (.v (.int .i64 (k:Int)))=some (.ep [.v (.int .i64 ((needN x y)[k]:Int))]):=by
  unfold needA
  rw[yxI 1 0 _ k (by rw[List.length_map];omega),List.getElem_map];rfl
 refine⟨_,?_,?_,?_,hidx⟩
 ·match k,hk with
  |1,_ |2,_ |3,_ |4,_ |5,_ |6,_ |7,_ |8,_ |9,_ |10,_ |11,_ |12,_=>show(_:Nat)≤3;simp[needN]
  |13,_=>show x≤3;omega
  |14,_=>show y≤3;omega
 ·match k,hk with
  |1,_ |2,_ |3,_ |4,_ |5,_ |6,_ |7,_ |8,_ |9,_ |10,_ |11,_ |12,_=>simp[needN,needs]
  |13,_=>show needs 13 x;unfold needs;omega
  |14,_=>show needs 14 y;unfold needs;omega
 ·intro h3
  match k,hk with
  |1,_ |2,_ |3,_=>rfl
def signsS:List (List UInt8):=[[43],[45],[42],[47],[109,111,100],[60],[60,61],[62],[62,61],[61],[60,62],[97,110,100],[111,114],[120,111,114]]
def signsA:List AV:=signsS.map strS
theorem signs_row:oBuildSlice Tryd.prog 31 14 [(0,.v (.string ⟨⟨[43]⟩⟩)),(1,.v (.string ⟨⟨[45]⟩⟩)),(2,.v (.string ⟨⟨[42]⟩⟩)),(3,.v (.string ⟨⟨[47]⟩⟩)),(4,.v (.string ⟨⟨[109,111,100]⟩⟩)),(5,.v (.string ⟨⟨[60]⟩⟩)),(6,.v (.string ⟨⟨[60,61]⟩⟩)),(7,.v (.string ⟨⟨[62]⟩⟩)),(8,.v (.string ⟨⟨[62,61]⟩⟩)),(9,.v (.string ⟨⟨[61]⟩⟩)),(10,.v (.string ⟨⟨[60,62]⟩⟩)),(11,.v (.string ⟨⟨[97,110,100]⟩⟩)),(12,.v (.string ⟨⟨[111,114]⟩⟩)),(13,.v (.string ⟨⟨[120,111,114]⟩⟩))]=some (.sl 1 0 1 signsA):=by kernel_rfl
theorem strs_get{l:List (List UInt8)}(hl:∀s∈l,s≠[]∧s.length≤30)(j:Nat)(hj:j<l.length):∃s:List UInt8,(s≠[]∧s.length≤30)∧oIndexAddr Tryd.prog 31 (.sl 1 0 1 (l.map strS)) (.v (.int .i64 (j:Int)))=some (.ep [.v (.string ⟨⟨s⟩⟩)]) :=
 ⟨l[j],hl _ (List.getElem_mem _),by rw[yxS 1 0 _ j (by rw[List.length_map];omega),List.getElem_map];rfl⟩
theorem signs_get(j:Nat)(hj:j<14):∃s:List UInt8,(s≠[]∧s.length≤30)∧oIndexAddr Tryd.prog 31 (.sl 1 0 1 signsA) (.v (.int .i64 (j:Int)))=some (.ep [.v (.string ⟨⟨s⟩⟩)]):=strs_get (by decide) j hj
def namesS:List (List UInt8):=[[120],[121],[122],[98],[99],[117],[102],[103],[104]]
theorem names_get(j:Nat)(hj:j<9):∃s:List UInt8,(s≠[]∧s.length≤30)∧oIndexAddr Tryd.prog 31 (.sl 1 0 1 namesA) (.v (.int .i64 (j:Int)))=some (.ep [.v (.string ⟨⟨s⟩⟩)]):=strs_get (l:=namesS) (by decide) j hj
theorem mod_u(m:Nat)(hm:0<m)(hm2:m≤1000){n:Int}{S:St}{Q:R→Prop}(h:Q (.ret (.v (.int .i64 ((modN n m:Nat):Int))) S)):WC EZ 8 [.v (.int .i64 n),.v (.int .i64 (m:Int))] S Q :=
 WC.mono (mod_w n m hm hm2 S) fun r hr=>by rw[hr];exact h
theorem names_u{S:St}{Q:R→Prop}(h:Q (.ret (.sl 1 0 1 namesA) S)):WC EZ 7 [] S Q :=
 WC.mono (names_w S) fun r hr=>by rw[hr];exact h
theorem okI_wrap(x:Int):okI (IntKind.i64.wrap x):=by
 have h1:=IntKind.wrap_i64 x
 unfold okI;omega
theorem okI_and(x:Int)(m:Nat)(hm:m<65536):okI (bits .and .i64 x (m:Int)):=by
 obtain⟨n,h1,h2⟩:=and_any x m hm
 rw[h2];unfold okI;omega
theorem ybY_2(a c:Int):oBuild Tryd.prog 63 [(0,.v (.int .i64 a)),(1,.v (.int .i64 c))]=some (.agg [.v (.int .i64 a),.v (.int .i64 c),.v (.int .i64 0),.v (.string ⟨⟨[]⟩⟩),.v (.bool false),.nils]):=by kernel_rfl
theorem ybY_4(a c e:Int)(o:Bool):oBuild Tryd.prog 63 [(0,.v (.int .i64 a)),(1,.v (.int .i64 c)),(2,.v (.int .i64 e)),(4,.v (.bool o))]=some (.agg [.v (.int .i64 a),.v (.int .i64 c),.v (.int .i64 e),.v (.string ⟨⟨[]⟩⟩),.v (.bool o),.nils]):=by kernel_rfl
theorem ybY_3(a c e:Int):oBuild Tryd.prog 63 [(0,.v (.int .i64 a)),(1,.v (.int .i64 c)),(2,.v (.int .i64 e))]=some (.agg [.v (.int .i64 a),.v (.int .i64 c),.v (.int .i64 e),.v (.string ⟨⟨[]⟩⟩),.v (.bool false),.nils]):=by kernel_rfl
theorem yrR_1(a0 a1 a2 a3 a4 a5:AV):oBuildSlice Tryd.prog 61 1 [(0,.agg [a0,a1,a2,a3,a4,a5])]=some (.sl 1 0 6 [.agg [a0,a1,a2,a3,a4,a5]]):=by kernel_rfl
theorem beqA_bo(b:Bool):beqA (.v (.bool b)) (.v (.bool b))=true:=by cases b <;> rfl
theorem beqA_in(n:Int):beqA (.v (.int .i64 n)) (.v (.int .i64 n))=true:=by simp[beqA,eqS]
theorem fb_mul(k:IntKind)(x y:Int):fastBin .mul (.v (.int k x)) (.v (.int k y))=some (.v (.int k (k.wrap (x*y)))):=by simp[fastBin]
theorem fb_sub(k:IntKind)(x y:Int):fastBin .sub (.v (.int k x)) (.v (.int k y))=some (.v (.int k (k.wrap (x - y)))):=by simp[fastBin]
def so0:Code:=match Tryd.f18.body with
 |some (.seq c _)=>c
 |_=>.skip
def so1:Code:=match Tryd.f18.body with
 |some (.seq _ (.seq c _))=>c
 |_=>.skip
def so2:Code:=match Tryd.f18.body with
 |some (.seq _ (.seq _ (.seq c _)))=>c
 |_=>.skip
def so3:Code:=match Tryd.f18.body with
 |some (.seq _ (.seq _ (.seq _ (.seq c _))))=>c
 |_=>.skip
def so5:Code:=match Tryd.f18.body with
 |some (.seq _ (.seq _ (.seq _ (.seq _ (.seq c _)))))=>c
 |_=>.skip
def so6:Code:=match Tryd.f18.body with
 |some (.seq _ (.seq _ (.seq _ (.seq _ (.seq _ (.seq c _))))))=>c
 |_=>.skip
def soW:Code:=match Tryd.f18.body with
 |some (.seq _ (.seq _ (.seq _ (.seq _ (.seq _ (.seq _ (.seq c _)))))))=>c
 |_=>.skip
def soR:Code:=match Tryd.f18.body with
 |some (.seq _ (.seq _ (.seq _ (.seq _ (.seq _ (.seq _ (.seq _ (.seq (.seq c _) _))))))))=>c
 |_=>.skip
def soL:Code:=match Tryd.f18.body with
 |some (.seq _ (.seq _ (.seq _ (.seq _ (.seq _ (.seq _ (.seq _ (.seq (.seq _ (.block _ (.loop c))) _))))))))=>c
 |_=>.skip
def soZ:Code:=match Tryd.f18.body with
 |some (.seq _ (.seq _ (.seq _ (.seq _ (.seq _ (.seq _ (.seq _ (.seq _ c))))))))=>c
 |_=>.skip
theorem so_is:Tryd.f18.body=some (.seq so0 (.seq so1 (.seq so2 (.seq so3 (.seq so5 (.seq so6 (.seq soW (.seq (.seq soR (.block 1 (.loop soL))) soZ)))))))):=by kernel_rfl
def sor2:Code:=match soL with
 |.seq c _=>c
 |_=>.skip
def sorC:Code:=match soL with
 |.seq _ (.seq c _)=>c
 |_=>.skip
def sor3:Code:=match soL with
 |.seq _ (.seq _ (.seq (.block _ (.seq c _)) _))=>c
 |_=>.skip
def sor4:Code:=match soL with
 |.seq _ (.seq _ (.seq (.block _ (.seq _ (.seq c _))) _))=>c
 |_=>.skip
def sor5:Code:=match soL with
 |.seq _ (.seq _ (.seq (.block _ (.seq _ (.seq _ (.seq c _)))) _))=>c
 |_=>.skip
def sor7:Code:=match soL with
 |.seq _ (.seq _ (.seq (.block _ (.seq _ (.seq _ (.seq _ (.seq c _))))) _))=>c
 |_=>.skip
def sor8:Code:=match soL with
 |.seq _ (.seq _ (.seq (.block _ (.seq _ (.seq _ (.seq _ (.seq _ c))))) _))=>c
 |_=>.skip
def sor9:Code:=match soL with
 |.seq _ (.seq _ (.seq _ c))=>c
 |_=>.skip
theorem sor_is:soL=.seq sor2 (.seq sorC (.seq (.block 2 (.seq sor3 (.seq sor4 (.seq sor5 (.seq sor7 sor8))))) sor9)):=by kernel_rfl
end Go.Ax
noncomputable section
open Nat (reduceLT reduceAdd reduceEqDiff reduceLeDiff)
namespace Go.Ax
open Go.RowKit Go.Proofs
set_option maxRecDepth 100000
structure FrO(dp:Int)(t:T AV):Prop where
 t1:t.get 1=some (.v (.int .i64 dp))
 t2:t.get 2=some (.ptr 2 0)
 t4:t.get 4=some (.ptr 3 0)
 t6:t.get 6=some (.ptr 4 0)
theorem FrO.same{dp:Int}{t t':T AV}(h:FrO dp t)(h1:t'.get 1=t.get 1)(h2:t'.get 2=t.get 2)(h4:t'.get 4=t.get 4)(h6:t'.get 6=t.get 6):FrO dp t':=⟨h1.trans h.t1,h2.trans h.t2,h4.trans h.t4,h6.trans h.t6⟩
structure MemO(ys z3 xs:List AV)(kv:AV)(es:List AV)(S:St):Prop where
 n:5≤S.next
 m2:S.mem.get 2=some (.box ys)
 m3:S.mem.get 3=some (.box z3)
 m4:S.mem.get 4=some (.box xs)
 acc:Acc 6 S kv es
theorem MemO.to{ys z3 xs:List AV}{kv:AV}{es:List AV}{S:St}(h:MemO ys z3 xs kv es S){b:Nat}(hb:5≤b){zs:List AV}(hm:S.mem.get b=some (.box zs))(zs':List AV):MemO ys z3 xs kv es (S.to b zs') :=
 ⟨by rw[to_next];exact h.n,by rw[to_get,if_neg (by omega)];exact h.m2,by rw[to_get,if_neg (by omega)];exact h.m3,by rw[to_get,if_neg (by omega)];exact h.m4,acc_to h.acc hm⟩
theorem MemO.nb{ys z3 xs:List AV}{kv:AV}{es:List AV}{S:St}(h:MemO ys z3 xs kv es S)(zs:List AV):MemO ys z3 xs kv es (S.newBox zs):=by
 have:=h.n
 exact⟨by rw[nb_next];omega,by rw[nb_get,if_neg (by omega)];exact h.m2,by rw[nb_get,if_neg (by omega)];exact h.m3,by rw[nb_get,if_neg (by omega)];exact h.m4,
  h.acc.keep (by rw[nb_next];omega) fun id m _ hi hm=>by rw[nb_get,if_neg (by omega)];exact hm⟩
theorem soW_w{K at0 k a n:Int}{s nm:List UInt8}{bb:Bool}{kv z3:AV}{t:T AV}{S:St}{Q:O→Prop}(hK:1≤K∧K≤14)(hn:okI n)(hnm:nm≠[]∧nm.length≤30)(h2:t.get 2=some (.ptr 2 0))(h6:t.get 6=some (.ptr 4 0))(h8:t.get 8=some (.v (.string ⟨⟨nm⟩⟩)))
  (m2:S.mem.get 2=some (.box [i64A k,i64A a,i64A n,strS s,.v (.bool bb),kv])) (m4:S.mem.get 4=some (.box [i64A K,i64A at0,i64A 0,strS [],.v (.bool false),.nils]))
  (hQ:∀(t':T AV) (S':St) (N:Int) (NM:List UInt8) (OFF:Bool),okI N→(K=2→N=0∨N=1)→(K=3→NM≠[])→NM.length≤30→t'.get 1=t.get 1→t'.get 2=t.get 2→t'.get 4=t.get 4→t'.get 6=t.get 6→t'.get 7=t.get 7 →
   S'.next=S.next→S'.mem.get 4=some (.box [i64A K,i64A at0,i64A N,strS NM,.v (.bool OFF),.nils])→(∀id,id≠4→S'.mem.get id=S.mem.get id)→Q (.out .normal ⟨t',[]⟩ S')):W EZ 157 soW ⟨t,[]⟩ S Q:=by
 have hr1:=signs_row
 obtain⟨sg,hsg,hs1⟩:=signs_get (modN a 14) (modN_is a (m:=14) (by decide)).2
 obtain⟨fn1,hf1⟩:∃fn,EZ.F 8=some fn:=fnz_8
 have ok0:okI 0:=by unfold okI;omega
 have hb1:=and_bit n
 have hlen:(8:Nat)=8:=rfl
 generalize signsA=sgA at *
 simp only[strS,i64A]at *
 have hc:K=1∨K=2∨K=3∨K=4∨K=5∨K=6∨K=7∨K=8∨K=9∨K=10∨K=11∨K=12∨K=13∨K=14:=by omega
 rcases hc with rfl |rfl |rfl |rfl |rfl |rfl |rfl |rfl |rfl |rfl |rfl |rfl |rfl |rfl
 ·simp(maxSteps:=2000000) (disch:=omega)only[W_skip,W_region,W_drawn,W_seq,W_cond,W_block,seqQ_normal2,blockW_normal2,WL_nil2,WL_cons,execL_val2,execL_skip2,execL_enter2,putL_none2,putL_some2,condW_t2,condW_f2,wantedA,exec1,evalO,T.get_set,callA,mapO,ofOpt,ofConst,partsA,neNil3,fb_eqlI,reduceLT,reduceAdd,reduceEqDiff,if_true,if_false,true_and,List.getElem?_cons_succ,List.getElem?_cons_zero,List.nil_append,List.append_nil,beq_self_eq_true,Bool.false_eq_true,cl1_box,vstB_v,List.length_cons,List.length_nil,Nat.zero_add,Nat.add_zero,reduceLeDiff,List.drop_zero,List.drop_succ_cons,List.take_succ_cons,List.take_zero,List.cons_append,ez_P,ez_G,neNil2,neNil3,yl2,yl3,Int.reduceBEq,List.getElem?_cons_succ,yfY_0,yfY_1,yfY_2,yfY_3,ys2,ys9,fb_and,eqOr_and2,andO_i,soW,Tryd.f18,h2,h6,h8,m2,m4,hf1,hr1]
  refine hQ _ _ n [] false hn (fun h=>absurd h (by decide)) (fun h=>absurd h (by decide)) (by decide) ?_ ?_ ?_ ?_ ?_ ?_ ?_ ?_
  iterate 5 simp only[T.get_set,reduceEqDiff,if_false]
  ·simp only[to_next]
  ·simp only[to_get,if_true]
  ·intro id hid;simp only[to_get,if_neg hid]
 ·simp(maxSteps:=2000000) (disch:=omega)only[W_skip,W_region,W_drawn,W_seq,W_cond,W_block,seqQ_normal2,blockW_normal2,WL_nil2,WL_cons,execL_val2,execL_skip2,execL_enter2,putL_none2,putL_some2,condW_t2,condW_f2,wantedA,exec1,evalO,T.get_set,callA,mapO,ofOpt,ofConst,partsA,neNil3,fb_eqlI,reduceLT,reduceAdd,reduceEqDiff,if_true,if_false,true_and,List.getElem?_cons_succ,List.getElem?_cons_zero,List.nil_append,List.append_nil,beq_self_eq_true,Bool.false_eq_true,cl1_box,vstB_v,List.length_cons,List.length_nil,Nat.zero_add,Nat.add_zero,reduceLeDiff,List.drop_zero,List.drop_succ_cons,List.take_succ_cons,List.take_zero,List.cons_append,ez_P,ez_G,neNil2,neNil3,yl2,yl3,Int.reduceBEq,List.getElem?_cons_succ,yfY_0,yfY_1,yfY_2,yfY_3,ys2,ys9,fb_and,eqOr_and2,andO_i,soW,Tryd.f18,h2,h6,h8,m2,m4,hf1,hr1]
  refine hQ _ _ (bits .and .i64 n 1) [] false (okI_and n 1 (by decide)) (fun _=>hb1) (fun h=>absurd h (by decide)) (by decide) ?_ ?_ ?_ ?_ ?_ ?_ ?_ ?_
  iterate 5 simp only[T.get_set,reduceEqDiff,if_false]
  ·simp only[to_next]
  ·simp only[to_get,if_true]
  ·intro id hid;simp only[to_get,if_neg hid]
 ·simp(maxSteps:=2000000) (disch:=omega)only[W_skip,W_region,W_drawn,W_seq,W_cond,W_block,seqQ_normal2,blockW_normal2,WL_nil2,WL_cons,execL_val2,execL_skip2,execL_enter2,putL_none2,putL_some2,condW_t2,condW_f2,wantedA,exec1,evalO,T.get_set,callA,mapO,ofOpt,ofConst,partsA,neNil3,fb_eqlI,reduceLT,reduceAdd,reduceEqDiff,if_true,if_false,true_and,List.getElem?_cons_succ,List.getElem?_cons_zero,List.nil_append,List.append_nil,beq_self_eq_true,Bool.false_eq_true,cl1_box,vstB_v,List.length_cons,List.length_nil,Nat.zero_add,Nat.add_zero,reduceLeDiff,List.drop_zero,List.drop_succ_cons,List.take_succ_cons,List.take_zero,List.cons_append,ez_P,ez_G,neNil2,neNil3,yl2,yl3,Int.reduceBEq,List.getElem?_cons_succ,yfY_0,yfY_1,yfY_2,yfY_3,ys2,ys9,fb_and,eqOr_and2,andO_i,soW,Tryd.f18,h2,h6,h8,m2,m4,hf1,hr1]
  refine hQ _ _ 0 nm false ok0 (fun h=>absurd h (by decide)) (fun _=>hnm.1) hnm.2 ?_ ?_ ?_ ?_ ?_ ?_ ?_ ?_
  iterate 5 simp only[T.get_set,reduceEqDiff,if_false]
  ·simp only[to_next]
  ·simp only[to_get,if_true]
  ·intro id hid;simp only[to_get,if_neg hid]
 ·simp(maxSteps:=2000000) (disch:=omega)only[W_skip,W_region,W_drawn,W_seq,W_cond,W_block,seqQ_normal2,blockW_normal2,WL_nil2,WL_cons,execL_val2,execL_skip2,execL_enter2,putL_none2,putL_some2,condW_f2,wantedA,exec1,evalO,T.get_set,callA,mapO,ofOpt,ofConst,partsA,neNil3,fb_eqlI,reduceLT,reduceAdd,reduceEqDiff,if_true,if_false,true_and,List.getElem?_cons_succ,List.getElem?_cons_zero,List.nil_append,List.append_nil,Bool.false_eq_true,cl1_box,vstB_v,List.length_cons,List.length_nil,Nat.zero_add,Nat.add_zero,reduceLeDiff,List.drop_zero,List.drop_succ_cons,List.take_succ_cons,List.take_zero,List.cons_append,ez_P,ez_G,neNil2,neNil3,yl2,yl3,Int.reduceBEq,List.getElem?_cons_succ,yfY_0,yfY_1,yfY_2,yfY_3,ys2,ys9,fb_and,eqOr_and2,andO_i,soW,Tryd.f18,h2,h6,h8,m2,m4,hf1,hr1]
  refine hQ _ _ 0 [] false ok0 (fun h=>absurd h (by decide)) (fun h=>absurd h (by decide)) (by decide) ?_ ?_ ?_ ?_ ?_ ?_ ?_ ?_
  iterate 5 simp only[T.get_set,reduceEqDiff,if_false]
  ·rfl
  ·exact m4
  ·intro id hid;rfl
 ·simp(maxSteps:=2000000) (disch:=omega)only[W_skip,W_region,W_drawn,W_seq,W_cond,W_block,seqQ_normal2,blockW_normal2,WL_nil2,WL_cons,execL_val2,execL_skip2,execL_enter2,putL_none2,putL_some2,condW_f2,wantedA,exec1,evalO,T.get_set,callA,mapO,ofOpt,ofConst,partsA,neNil3,fb_eqlI,reduceLT,reduceAdd,reduceEqDiff,if_true,if_false,true_and,List.getElem?_cons_succ,List.getElem?_cons_zero,List.nil_append,List.append_nil,Bool.false_eq_true,cl1_box,vstB_v,List.length_cons,List.length_nil,Nat.zero_add,Nat.add_zero,reduceLeDiff,List.drop_zero,List.drop_succ_cons,List.take_succ_cons,List.take_zero,List.cons_append,ez_P,ez_G,neNil2,neNil3,yl2,yl3,Int.reduceBEq,List.getElem?_cons_succ,yfY_0,yfY_1,yfY_2,yfY_3,ys2,ys9,fb_and,eqOr_and2,andO_i,soW,Tryd.f18,h2,h6,h8,m2,m4,hf1,hr1]
  refine hQ _ _ 0 [] false ok0 (fun h=>absurd h (by decide)) (fun h=>absurd h (by decide)) (by decide) ?_ ?_ ?_ ?_ ?_ ?_ ?_ ?_
  iterate 5 simp only[T.get_set,reduceEqDiff,if_false]
  ·rfl
  ·exact m4
  ·intro id hid;rfl
 ·simp(maxSteps:=2000000) (disch:=omega)only[W_skip,W_region,W_drawn,W_seq,W_cond,W_block,seqQ_normal2,blockW_normal2,WL_nil2,WL_cons,execL_val2,execL_skip2,execL_enter2,putL_none2,putL_some2,condW_t2,condW_f2,wantedA,exec1,evalO,T.get_set,callA,mapO,ofOpt,ofConst,partsA,neNil3,fb_eqlI,reduceLT,reduceAdd,reduceEqDiff,if_true,if_false,true_and,List.getElem?_cons_succ,List.getElem?_cons_zero,List.nil_append,List.append_nil,beq_self_eq_true,Bool.false_eq_true,cl1_box,vstB_v,List.length_cons,List.length_nil,Nat.zero_add,Nat.add_zero,reduceLeDiff,List.drop_zero,List.drop_succ_cons,List.take_succ_cons,List.take_zero,List.cons_append,ez_P,ez_G,neNil2,neNil3,yl2,yl3,Int.reduceBEq,List.getElem?_cons_succ,yfY_0,yfY_1,yfY_2,yfY_3,ys2,ys9,fb_and,eqOr_and2,andO_i,soW,Tryd.f18,h2,h6,h8,m2,m4,hf1,hr1]
  refine mod_u 14 (by decide) (by decide) ?_
  simp(maxSteps:=2000000) (disch:=omega)only[blockW_normal2,WL_nil2,WL_cons,execL_val2,execL_skip2,putL_none2,putL_some2,retL_ret2,wantedA,exec1,evalO,T.get_set,ofOpt,reduceLT,reduceAdd,reduceEqDiff,if_true,if_false,true_and,List.nil_append,vstB_v,List.length_cons,List.length_nil,Nat.zero_add,reduceLeDiff,List.drop_zero,List.drop_succ_cons,List.take_succ_cons,List.take_zero,List.cons_append,ez_P,yfY_3,yle9,ys9,h6,m4,hs1]
  refine hQ _ _ 0 sg false ok0 (fun h=>absurd h (by decide)) (fun h=>absurd h (by decide)) hsg.2 ?_ ?_ ?_ ?_ ?_ ?_ ?_ ?_
  iterate 5 simp only[T.get_set,reduceEqDiff,if_false]
  ·simp only[to_next]
  ·simp only[to_get,if_true]
  ·intro id hid;simp only[to_get,if_neg hid]
 ·simp(maxSteps:=2000000) (disch:=omega)only[W_skip,W_region,W_drawn,W_seq,W_cond,W_block,seqQ_normal2,blockW_normal2,WL_nil2,WL_cons,execL_val2,execL_skip2,execL_enter2,putL_none2,putL_some2,condW_f2,wantedA,exec1,evalO,T.get_set,callA,mapO,ofOpt,ofConst,partsA,neNil3,fb_eqlI,reduceLT,reduceAdd,reduceEqDiff,if_true,if_false,true_and,List.getElem?_cons_succ,List.getElem?_cons_zero,List.nil_append,List.append_nil,Bool.false_eq_true,cl1_box,vstB_v,List.length_cons,List.length_nil,Nat.zero_add,Nat.add_zero,reduceLeDiff,List.drop_zero,List.drop_succ_cons,List.take_succ_cons,List.take_zero,List.cons_append,ez_P,ez_G,neNil2,neNil3,yl2,yl3,Int.reduceBEq,List.getElem?_cons_succ,yfY_0,yfY_1,yfY_2,yfY_3,ys2,ys9,fb_and,eqOr_and2,andO_i,soW,Tryd.f18,h2,h6,h8,m2,m4,hf1,hr1]
  refine hQ _ _ 0 [] false ok0 (fun h=>absurd h (by decide)) (fun h=>absurd h (by decide)) (by decide) ?_ ?_ ?_ ?_ ?_ ?_ ?_ ?_
  iterate 5 simp only[T.get_set,reduceEqDiff,if_false]
  ·rfl
  ·exact m4
  ·intro id hid;rfl
 ·simp(maxSteps:=2000000) (disch:=omega)only[W_skip,W_region,W_drawn,W_seq,W_cond,W_block,seqQ_normal2,blockW_normal2,WL_nil2,WL_cons,execL_val2,execL_skip2,execL_enter2,putL_none2,putL_some2,condW_f2,wantedA,exec1,evalO,T.get_set,callA,mapO,ofOpt,ofConst,partsA,neNil3,fb_eqlI,reduceLT,reduceAdd,reduceEqDiff,if_true,if_false,true_and,List.getElem?_cons_succ,List.getElem?_cons_zero,List.nil_append,List.append_nil,Bool.false_eq_true,cl1_box,vstB_v,List.length_cons,List.length_nil,Nat.zero_add,Nat.add_zero,reduceLeDiff,List.drop_zero,List.drop_succ_cons,List.take_succ_cons,List.take_zero,List.cons_append,ez_P,ez_G,neNil2,neNil3,yl2,yl3,Int.reduceBEq,List.getElem?_cons_succ,yfY_0,yfY_1,yfY_2,yfY_3,ys2,ys9,fb_and,eqOr_and2,andO_i,soW,Tryd.f18,h2,h6,h8,m2,m4,hf1,hr1]
  refine hQ _ _ 0 [] false ok0 (fun h=>absurd h (by decide)) (fun h=>absurd h (by decide)) (by decide) ?_ ?_ ?_ ?_ ?_ ?_ ?_ ?_
  iterate 5 simp only[T.get_set,reduceEqDiff,if_false]
  ·rfl
  ·exact m4
  ·intro id hid;rfl
 ·simp(maxSteps:=2000000) (disch:=omega)only[W_skip,W_region,W_drawn,W_seq,W_cond,W_block,seqQ_normal2,blockW_normal2,WL_nil2,WL_cons,execL_val2,execL_skip2,execL_enter2,putL_none2,putL_some2,condW_f2,wantedA,exec1,evalO,T.get_set,callA,mapO,ofOpt,ofConst,partsA,neNil3,fb_eqlI,reduceLT,reduceAdd,reduceEqDiff,if_true,if_false,true_and,List.getElem?_cons_succ,List.getElem?_cons_zero,List.nil_append,List.append_nil,Bool.false_eq_true,cl1_box,vstB_v,List.length_cons,List.length_nil,Nat.zero_add,Nat.add_zero,reduceLeDiff,List.drop_zero,List.drop_succ_cons,List.take_succ_cons,List.take_zero,List.cons_append,ez_P,ez_G,neNil2,neNil3,yl2,yl3,Int.reduceBEq,List.getElem?_cons_succ,yfY_0,yfY_1,yfY_2,yfY_3,ys2,ys9,fb_and,eqOr_and2,andO_i,soW,Tryd.f18,h2,h6,h8,m2,m4,hf1,hr1]
  refine hQ _ _ 0 [] false ok0 (fun h=>absurd h (by decide)) (fun h=>absurd h (by decide)) (by decide) ?_ ?_ ?_ ?_ ?_ ?_ ?_ ?_
  iterate 5 simp only[T.get_set,reduceEqDiff,if_false]
  ·rfl
  ·exact m4
  ·intro id hid;rfl
 ·simp(maxSteps:=2000000) (disch:=omega)only[W_skip,W_region,W_drawn,W_seq,W_cond,W_block,seqQ_normal2,blockW_normal2,WL_nil2,WL_cons,execL_val2,execL_skip2,execL_enter2,putL_none2,putL_some2,condW_f2,wantedA,exec1,evalO,T.get_set,callA,mapO,ofOpt,ofConst,partsA,neNil3,fb_eqlI,reduceLT,reduceAdd,reduceEqDiff,if_true,if_false,true_and,List.getElem?_cons_succ,List.getElem?_cons_zero,List.nil_append,List.append_nil,Bool.false_eq_true,cl1_box,vstB_v,List.length_cons,List.length_nil,Nat.zero_add,Nat.add_zero,reduceLeDiff,List.drop_zero,List.drop_succ_cons,List.take_succ_cons,List.take_zero,List.cons_append,ez_P,ez_G,neNil2,neNil3,yl2,yl3,Int.reduceBEq,List.getElem?_cons_succ,yfY_0,yfY_1,yfY_2,yfY_3,ys2,ys9,fb_and,eqOr_and2,andO_i,soW,Tryd.f18,h2,h6,h8,m2,m4,hf1,hr1]
  refine hQ _ _ 0 [] false ok0 (fun h=>absurd h (by decide)) (fun h=>absurd h (by decide)) (by decide) ?_ ?_ ?_ ?_ ?_ ?_ ?_ ?_
  iterate 5 simp only[T.get_set,reduceEqDiff,if_false]
  ·rfl
  ·exact m4
  ·intro id hid;rfl
 ·simp(maxSteps:=2000000) (disch:=omega)only[W_skip,W_region,W_drawn,W_seq,W_cond,W_block,seqQ_normal2,blockW_normal2,WL_nil2,WL_cons,execL_val2,execL_skip2,execL_enter2,putL_none2,putL_some2,condW_t2,condW_f2,wantedA,exec1,evalO,T.get_set,callA,mapO,ofOpt,ofConst,partsA,neNil3,fb_eqlI,reduceLT,reduceAdd,reduceEqDiff,if_true,if_false,true_and,List.getElem?_cons_succ,List.getElem?_cons_zero,List.nil_append,List.append_nil,beq_self_eq_true,Bool.false_eq_true,cl1_box,vstB_v,List.length_cons,List.length_nil,Nat.zero_add,Nat.add_zero,reduceLeDiff,List.drop_zero,List.drop_succ_cons,List.take_succ_cons,List.take_zero,List.cons_append,ez_P,ez_G,neNil2,neNil3,yl2,yl3,Int.reduceBEq,List.getElem?_cons_succ,yfY_0,yfY_1,yfY_2,yfY_3,ys2,ys9,fb_and,eqOr_and2,andO_i,soW,Tryd.f18,h2,h6,h8,m2,m4,hf1,hr1]
  refine WD_by [(0,true),(1,true),(2,true),(3,true),(4,true),(2,false),(5,true),(6,true)] (by kernel_rfl) (by kernel_rfl) ?_
  simp(maxSteps:=2000000) (disch:=omega)only[blockW_normal2,wantedA,exec1,evalO,T.get_set,ofOpt,reduceLT,reduceAdd,reduceEqDiff,if_true,if_false,true_and,List.getElem?_toArray,List.getElem?_cons_succ,List.getElem?_cons_zero,List.nil_append,Bool.false_eq_true,WR_nil2,WR_op,WR_re2,execR_val2,execR_skip2,putRW_none2,putRW_some2,fixQ_normal2,rsOf,againO,lookV,to_get,cl1_box,vstB_v,List.length_cons,List.length_nil,Nat.zero_add,reduceLeDiff,List.drop_zero,List.drop_succ_cons,List.take_succ_cons,List.take_zero,List.cons_append,ez_P,yl4,List.getElem?_cons_succ,yfY_3,yfY_4,ys4,ys9,beqA_bo,to_get,h2,h6,h8,m2,m4]
  refine hQ _ _ 0 nm bb ok0 (fun h=>absurd h (by decide)) (fun h=>absurd h (by decide)) hnm.2 ?_ ?_ ?_ ?_ ?_ ?_ ?_ ?_
  iterate 5 simp only[T.get_set,reduceEqDiff,if_false]
  ·simp only[to_next]
  ·simp only[to_get,if_true]
  ·intro id hid;simp only[to_get,if_neg hid]
 ·simp(maxSteps:=2000000) (disch:=omega)only[W_skip,W_region,W_drawn,W_seq,W_cond,W_block,seqQ_normal2,blockW_normal2,WL_nil2,WL_cons,execL_val2,execL_skip2,execL_enter2,putL_none2,putL_some2,condW_t2,condW_f2,wantedA,exec1,evalO,T.get_set,callA,mapO,ofOpt,ofConst,partsA,neNil3,fb_eqlI,reduceLT,reduceAdd,reduceEqDiff,if_true,if_false,true_and,List.getElem?_cons_succ,List.getElem?_cons_zero,List.nil_append,List.append_nil,beq_self_eq_true,Bool.false_eq_true,cl1_box,vstB_v,List.length_cons,List.length_nil,Nat.zero_add,Nat.add_zero,reduceLeDiff,List.drop_zero,List.drop_succ_cons,List.take_succ_cons,List.take_zero,List.cons_append,ez_P,ez_G,neNil2,neNil3,yl2,yl3,Int.reduceBEq,List.getElem?_cons_succ,yfY_0,yfY_1,yfY_2,yfY_3,ys2,ys9,fb_and,eqOr_and2,andO_i,soW,Tryd.f18,h2,h6,h8,m2,m4,hf1,hr1]
  refine hQ _ _ 0 nm false ok0 (fun h=>absurd h (by decide)) (fun h=>absurd h (by decide)) hnm.2 ?_ ?_ ?_ ?_ ?_ ?_ ?_ ?_
  iterate 5 simp only[T.get_set,reduceEqDiff,if_false]
  ·simp only[to_next]
  ·simp only[to_get,if_true]
  ·intro id hid;simp only[to_get,if_neg hid]
 ·simp(maxSteps:=2000000) (disch:=omega)only[W_skip,W_region,W_drawn,W_seq,W_cond,W_block,seqQ_normal2,blockW_normal2,WL_nil2,WL_cons,execL_val2,execL_skip2,execL_enter2,putL_none2,putL_some2,condW_t2,condW_f2,wantedA,exec1,evalO,T.get_set,callA,mapO,ofOpt,ofConst,partsA,neNil3,fb_eqlI,reduceLT,reduceAdd,reduceEqDiff,if_true,if_false,true_and,List.getElem?_cons_succ,List.getElem?_cons_zero,List.nil_append,List.append_nil,beq_self_eq_true,Bool.false_eq_true,cl1_box,vstB_v,List.length_cons,List.length_nil,Nat.zero_add,Nat.add_zero,reduceLeDiff,List.drop_zero,List.drop_succ_cons,List.take_succ_cons,List.take_zero,List.cons_append,ez_P,ez_G,neNil2,neNil3,yl2,yl3,Int.reduceBEq,List.getElem?_cons_succ,yfY_0,yfY_1,yfY_2,yfY_3,ys2,ys9,fb_and,eqOr_and2,andO_i,soW,Tryd.f18,h2,h6,h8,m2,m4,hf1,hr1]
  refine hQ _ _ 0 nm false ok0 (fun h=>absurd h (by decide)) (fun h=>absurd h (by decide)) hnm.2 ?_ ?_ ?_ ?_ ?_ ?_ ?_ ?_
  iterate 5 simp only[T.get_set,reduceEqDiff,if_false]
  ·simp only[to_next]
  ·simp only[to_get,if_true]
  ·intro id hid;simp only[to_get,if_neg hid]
 ·simp(maxSteps:=2000000) (disch:=omega)only[W_skip,W_region,W_drawn,W_seq,W_cond,W_block,seqQ_normal2,blockW_normal2,WL_nil2,WL_cons,execL_val2,execL_skip2,execL_enter2,putL_none2,putL_some2,condW_t2,condW_f2,wantedA,exec1,evalO,T.get_set,callA,mapO,ofOpt,ofConst,partsA,neNil3,fb_eqlI,reduceLT,reduceAdd,reduceEqDiff,if_true,if_false,true_and,List.getElem?_cons_succ,List.getElem?_cons_zero,List.nil_append,List.append_nil,beq_self_eq_true,Bool.false_eq_true,cl1_box,vstB_v,List.length_cons,List.length_nil,Nat.zero_add,Nat.add_zero,reduceLeDiff,List.drop_zero,List.drop_succ_cons,List.take_succ_cons,List.take_zero,List.cons_append,ez_P,ez_G,neNil2,neNil3,yl2,yl3,Int.reduceBEq,List.getElem?_cons_succ,yfY_0,yfY_1,yfY_2,yfY_3,ys2,ys9,fb_and,eqOr_and2,andO_i,soW,Tryd.f18,h2,h6,h8,m2,m4,hf1,hr1]
  refine hQ _ _ 0 nm false ok0 (fun h=>absurd h (by decide)) (fun h=>absurd h (by decide)) hnm.2 ?_ ?_ ?_ ?_ ?_ ?_ ?_ ?_
  iterate 5 simp only[T.get_set,reduceEqDiff,if_false]
  ·simp only[to_next]
  ·simp only[to_get,if_true]
  ·intro id hid;simp only[to_get,if_neg hid]
end Go.Ax
