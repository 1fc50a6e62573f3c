/- ZzH -/
import Derived.Test.YtimbgdjbggdgmaaGreatDoorNcG27
import Derived.Test.YtimbgdjbggdgmaaGreatDoorNcG20
import Derived.Test.YtimbgdjbggdgmaaGreatDoorNcG19
set_option linter.unusedVariables false
set_option linter.unusedSimpArgs false
set_option maxHeartbeats 16000000
noncomputable section
open Nat (reduceAdd reduceEqDiff reduceLeDiff)
namespace Go.Ax
open Go.RowKit Go.Proofs
set_option maxRecDepth 100000
theorem ybT_3(a b:Int)(s:ByteArray):Du Tryz.prog 121 [(0,.v (.int .i64 a)),(1,.v (.int .i64 b)),(2,.v (.string s))]=some (.agg [.v (.int .i64 a),.v (.int .i64 b),.v (.string s),.v (.int .u64 0)]):=by kernel_rfl
theorem ybT_4(a b n:Int)(s:ByteArray):Du Tryz.prog 121 [(0,.v (.int .i64 a)),(1,.v (.int .i64 b)),(2,.v (.string s)),(3,.v (.int .u64 n))]=some (.agg [.v (.int .i64 a),.v (.int .i64 b),.v (.string s),.v (.int .u64 n)]):=by kernel_rfl
def Qg:Code:=match Tryz.f114.body with
 |some (.seq _ (.seq _ (.seq (.seq _ (.block _ (.seq _ (.cond _ c _)))) _)))=>c
 |_=>.skip
def wdLB:Code:=match Qg with
 |.seq (.block _ (.loop c)) _=>c
 |_=>.skip
def wsLB:Code:=match Qg with
 |.seq _ (.seq (.seq _ (.block _ (.loop c))) _)=>c
 |_=>.skip
def dgLB:Code:=match Tryz.f114.body with
 |some (.seq _ (.seq _ (.seq (.seq _ (.block _ (.seq _ (.cond _ _ (.seq _ (.cond _ (.seq (.block _ (.loop c)) _) _)))))) _)))=>c
 |_=>.skip
def xE:Code:=match Tryz.f114.body with
 |some (.seq _ (.seq _ (.seq _ (.seq (.seq _ (.block _ (.loop c))) _))))=>c
 |_=>.skip
structure AtO(l:List UInt8)(i j:Nat)(t:T AV):Prop where
 t0:t.get 0=some (A2 l)
 t1:t.get 1=some (Bk i)
 t4:t.get 4=some (.ptr 2 0)
 t7:t.get 7=some (Bk j)
def txt(l:List UInt8)(i j:Nat):List UInt8:=(l.drop i).take (j - i)
theorem wd_lp{l:List UInt8}(hl:l.length≤100000){i:Nat}:∀(d j:Nat) (t:T AV) (S:St),l.length - j<d→j≤l.length→AtO l i j t→WX E4 137 (.loop wdLB) ⟨t,[]⟩ S (fun r=>∃t',r=.out (.exit 1) ⟨t',[]⟩ S∧AtO l i (j+cnt Bq (l.drop j)) t')
 |0,j,t,S,hd,_,_=>absurd hd (by omega)
 |d+1,j,t,S,hd,hj,⟨T0,T1,T4,T7⟩=>by
  refine Bt (Bp ?_);unfold A2 at T0;unfold Bk at T1 T7;obtain⟨fn1,hf1⟩:=bJ
  by_cases hlt:j<l.length
  ·have hc:=ltT hlt
   have hw:=Jd (i:=j) (by omega)
   have hdr:=Ja6 hlt;have go:Bq l[j]=true→j+cnt Bq (l.drop j)=j+1+cnt Bq (l.drop (j+1)):=fun h=>by rw[hdr,Mm h];omega
   simp(disch:=omega)only[go_sem,reduceEqDiff,Qg,wdLB,Tryz.f114,T0,T7,hf1,hc,Xf,Jt,G3];refine Qm ?_
   cases hbl:Dp l[j]with
   |true =>
    have hb1:=(is1 l[j]).trans hbl;have hwb:Bq l[j]=true:=by unfold Bq;rw[hbl];rfl
    simp(disch:=omega)only[go_sem,reduceEqDiff,T0,T7,hf1,hw,hb1];rw[go hwb];exact wd_lp hl d (j+1) _ S (by omega) (by omega) ⟨by simp only[A0,reduceEqDiff,Ab,T0,A2],by simp only[A0,reduceEqDiff,Ab,T1,Bk],by simp only[A0,reduceEqDiff,Ab,T4],by simp only[A0,reduceEqDiff,Aa,Ab,Bk]⟩
   |false =>
    have hb1:=(is1 l[j]).trans hbl;simp(disch:=omega)only[go_sem,reduceEqDiff,T0,T7,hf1,hb1,Xf,G3];refine Qm ?_
    cases hbd:Bi l[j]with
    |true =>
     have hb2:=(is2 l[j]).trans hbd;have hwb:Bq l[j]=true:=by unfold Bq;rw[hbl,hbd];rfl
     simp(disch:=omega)only[go_sem,reduceEqDiff,T7,hw,hb2];rw[go hwb];exact wd_lp hl d (j+1) _ S (by omega) (by omega) ⟨by simp only[A0,reduceEqDiff,Ab,T0,A2],by simp only[A0,reduceEqDiff,Ab,T1,Bk],by simp only[A0,reduceEqDiff,Ab,T4],by simp only[A0,reduceEqDiff,Aa,Ab,Bk]⟩
    |false =>
     have hb2:=(is2 l[j]).trans hbd;have hwb:Bq l[j]=false:=by unfold Bq;rw[hbl,hbd];rfl
     simp(disch:=omega)only[go_sem,reduceEqDiff,T7,hw,hb2];have e:cnt Bq (l.drop j)=0:=by rw[hdr];unfold cnt;rw[hwb];rfl
     rw[e,Nat.add_zero];exact⟨_,rfl,⟨by simp only[A0,reduceEqDiff,Ab,T0,A2],by simp only[A0,reduceEqDiff,Ab,T1,Bk],by simp only[A0,reduceEqDiff,Ab,T4],by simp only[A0,reduceEqDiff,Ab,T7,Bk]⟩⟩
  ·have hc:=ltF hlt
   simp(disch:=omega)only[go_sem,reduceEqDiff,Qg,wdLB,Tryz.f114,T0,T7,hf1,hc,Jt];have e:cnt Bq (l.drop j)=0:=by rw[Jc3 (by omega)];rfl
   rw[e,Nat.add_zero];exact⟨_,rfl,⟨by simp only[A0,reduceEqDiff,Ab,T0,A2],by simp only[A0,reduceEqDiff,Ab,T1,Bk],by simp only[A0,reduceEqDiff,Ab,T4],by simp only[A0,reduceEqDiff,Ab,T7,Bk]⟩⟩
theorem dg_lp{l:List UInt8}(hl:l.length≤100000){i:Nat}:∀(d j:Nat) (t:T AV) (S:St),l.length - j<d→j≤l.length→AtO l i j t→WX E4 137 (.loop dgLB) ⟨t,[]⟩ S (fun r=>∃t',r=.out (.exit 5) ⟨t',[]⟩ S∧AtO l i (j+cnt Bi (l.drop j)) t')
 |0,j,t,S,hd,_,_=>absurd hd (by omega)
 |d+1,j,t,S,hd,hj,⟨T0,T1,T4,T7⟩=>by
  refine Bt (Bp ?_);unfold A2 at T0;unfold Bk at T1 T7;obtain⟨fn1,hf1⟩:=bJ
  by_cases hlt:j<l.length
  ·have hc:=ltT hlt
   have hw:=Jd (i:=j) (by omega)
   have hdr:=Ja6 hlt;simp(disch:=omega)only[go_sem,reduceEqDiff,dgLB,Tryz.f114,T0,T7,hf1,hc,Xf,Jt,G3];refine Qm ?_
   cases hbd:Bi l[j]with
   |true =>
    have hb2:=(is2 l[j]).trans hbd;simp(disch:=omega)only[go_sem,reduceEqDiff,T7,hw,hb2];have e:j+cnt Bi (l.drop j)=j+1+cnt Bi (l.drop (j+1)):=by rw[hdr,Mm hbd];omega
    rw[e];exact dg_lp hl d (j+1) _ S (by omega) (by omega) ⟨by simp only[A0,reduceEqDiff,Ab,T0,A2],by simp only[A0,reduceEqDiff,Ab,T1,Bk],by simp only[A0,reduceEqDiff,Ab,T4],by simp only[A0,reduceEqDiff,Aa,Ab,Bk]⟩
   |false =>
    have hb2:=(is2 l[j]).trans hbd;simp(disch:=omega)only[go_sem,reduceEqDiff,T7,hw,hb2];have e:cnt Bi (l.drop j)=0:=by rw[hdr];unfold cnt;rw[hbd];rfl
    rw[e,Nat.add_zero];exact⟨_,rfl,⟨by simp only[A0,reduceEqDiff,Ab,T0,A2],by simp only[A0,reduceEqDiff,Ab,T1,Bk],by simp only[A0,reduceEqDiff,Ab,T4],by simp only[A0,reduceEqDiff,Ab,T7,Bk]⟩⟩
  ·have hc:=ltF hlt
   simp(disch:=omega)only[go_sem,reduceEqDiff,dgLB,Tryz.f114,T0,T7,hf1,hc,Jt];have e:cnt Bi (l.drop j)=0:=by rw[Jc3 (by omega)];rfl
   rw[e,Nat.add_zero];exact⟨_,rfl,⟨by simp only[A0,reduceEqDiff,Ab,T0,A2],by simp only[A0,reduceEqDiff,Ab,T1,Bk],by simp only[A0,reduceEqDiff,Ab,T4],by simp only[A0,reduceEqDiff,Ab,T7,Bk]⟩⟩
def WsEnd(l:List UInt8)(i j:Nat)(S:St)(ws:List (List UInt8))(r:O):Prop:=(∃t' S',r=.out .ret ⟨t',[]⟩ S'∧t'.get 4=some (.ptr 2 0)∧t'.get 5=some (Bk j)∧t'.get 6=some (.v (.int .i64 0))∧S'.mem.get 2=some (.box [.v (.int .i64 3),.v (.int .i64 (i:Int)),.v (.string ⟨⟨txt l i j⟩⟩),.v (.int .u64 0)])∧txt l i j∈ws)∨(∃t',r=.out (.exit 3) ⟨t',[]⟩ S∧AtO l i j t'∧txt l i j ∉ ws)
theorem ws_lp{l:List UInt8}(hl:l.length≤100000){i j:Nat}(hij:i≤j)(hj:j≤l.length){ws:List (List UInt8)}(hwl:ws.length≤1000){tok off:Nat}{S:St}(M2:S.mem.get 2=some (.box [.v (.int .i64 0),.v (.int .i64 0),.v (.string ⟨⟨[]⟩⟩),.v (.int .u64 0)])):∀(d q:Nat) (t:T AV),ws.length - q<d→q≤ws.length→AtO l i j t→t.get 41=some (.sl tok off 1 (ws.map A2))→t.get 42=some (.v (.int .i64 (ws.length:Int)))→t.get 43=some (Bk q)→WX E4 137 (.loop wsLB) ⟨t,[]⟩ S (WsEnd l i j S (ws.drop q))
 |0,q,t,hd,_,_,_,_,_=>absurd hd (by omega)
 |d+1,q,t,hd,hq,⟨T0,T1,T4,T7⟩,T91,T92,T93=>by
  refine Bt (Bp ?_);unfold A2 at T0;unfold Bk at T1 T7;unfold Bk at T93
  by_cases hlt:q<ws.length
  ·have hc:=ltT hlt
   have hx:=yx39 tok off ws q hlt;have hw:=Jd (i:=q) (by omega)
   have hs:=Pb l i j hij hj;rw[Ja6 hlt]
   cases hst:decide (ws[q]=List.take (j - i) (List.drop i l))with
   |true =>
    have e:ws[q]=txt l i j:=of_decide_eq_true hst;simp(disch:=omega)only[go_sem,reduceAdd,reduceEqDiff,reduceLeDiff,Qg,wsLB,Tryz.f114,T0,T1,T4,T7,M2,hc,hw,hs,hx,hst,T91,T92,T93,G7,A2,ybT_3];refine .inl ⟨_,_,rfl,?_,?_,?_,?_,?_⟩
    ·simp only[A0,reduceEqDiff,Ab,T4]
    ·simp only[A0,reduceEqDiff,Aa,Ab,Bk] <;> rfl
    ·simp only[A0,reduceEqDiff,Aa,Ab] <;> rfl
    ·rw[A5,if_pos rfl,e]
    ·rw[e];exact Jb1
   |false =>
    have e:¬ ws[q]=txt l i j:=of_decide_eq_false hst;simp(disch:=omega)only[go_sem,reduceAdd,reduceEqDiff,reduceLeDiff,Qg,wsLB,Tryz.f114,T0,T1,T4,T7,M2,hc,hw,hs,hx,hst,T91,T92,T93,G7,A2,ybT_3];refine WX.mono (ws_lp hl hij hj hwl M2 d (q+1) _ (by omega) (by omega) ⟨by simp only[A0,reduceEqDiff,Ab,T0,A2],by simp only[A0,reduceEqDiff,Ab,T1,Bk],by simp only[A0,reduceEqDiff,Ab,T4],by simp only[A0,reduceEqDiff,Ab,T7,Bk]⟩ (by simp only[A0,reduceEqDiff,Ab,T91] <;> rfl) (by simp only[A0,reduceEqDiff,Ab,T92] <;> rfl) (by simp only[A0,reduceEqDiff,Aa,Ab,Bk] <;> rfl)) ?_
    rintro _ (⟨t',S',rfl,q1,q2,q3,q4,q5⟩ | ⟨t',rfl,q1,q2⟩)
    ·exact .inl ⟨t',S',rfl,q1,q2,q3,q4,Ja8 _ q5⟩
    ·refine .inr ⟨t',rfl,q1,fun h=>?_⟩
     rcases Jb8.1 h with h |h
     ·exact e h.symm
     ·exact q2 h
  ·have hc:=ltF hlt
   simp(disch:=omega)only[go_sem,reduceEqDiff,Qg,wsLB,Tryz.f114,hc,T91,T92,T93];refine .inr ⟨_,rfl,⟨by simp only[A0,reduceEqDiff,Ab,T0,A2],by simp only[A0,reduceEqDiff,Ab,T1,Bk],by simp only[A0,reduceEqDiff,Ab,T4],by simp only[A0,reduceEqDiff,Ab,T7,Bk]⟩,?_⟩
   rw[Jc3 (by omega)]
   exact Ja7
attribute [go_sem] ybT_3 ybT_4
end Go.Ax
noncomputable section
namespace Go.Ax
open Go.RowKit Go.Proofs
set_option maxRecDepth 100000
def SgEnd(l:List UInt8)(i:Nat)(S:St)(ws:List (List UInt8))(r:O):Prop:=(∃t' S' s,r=.out .ret ⟨t',[]⟩ S'∧t'.get 4=some (.ptr 2 0)∧t'.get 5=some (Bk (i+s.length))∧t'.get 6=some (.v (.int .i64 0))∧S'.mem.get 2=some (.box [.v (.int .i64 4),.v (.int .i64 (i:Int)),.v (.string ⟨⟨s⟩⟩),.v (.int .u64 0)])∧ws.find? (fun s=>Ci s (l.drop i))=some s)∨(∃t',r=.out (.exit 7) ⟨t',[]⟩ S∧AtO l i i t')
theorem leT{a b:Nat}(h:a≤b):decide ((a:Int)≤(b:Int))=true:=by rw[decide_eq_true_iff];omega
theorem leF{a b:Nat}(h:¬ a≤b):decide ((a:Int)≤(b:Int))=false:=by rw[decide_eq_false_iff_not];omega
theorem sg_lp{l:List UInt8}(hl:l.length≤100000){i:Nat}(hi:i≤l.length){ws:List (List UInt8)}(hwl:ws.length≤1000)(hwb:∀s∈ws,s.length≤1000){tok off:Nat}{S:St}(M2:S.mem.get 2=some (.box [.v (.int .i64 0),.v (.int .i64 0),.v (.string ⟨⟨[]⟩⟩),.v (.int .u64 0)])):∀(d q:Nat) (t:T AV),ws.length - q<d→q≤ws.length→AtO l i i t→t.get 103=some (.sl tok off 1 (ws.map A2))→t.get 104=some (.v (.int .i64 (ws.length:Int)))→t.get 105=some (Bk q)→WX E4 137 (.loop xE) ⟨t,[]⟩ S (SgEnd l i S (ws.drop q))
 |0,q,t,hd,_,_,_,_,_=>absurd hd (by omega)
 |d+1,q,t,hd,hq,⟨T0,T1,T4,T7⟩,T91,T92,T93=>by
  refine Bt (Bp ?_);unfold A2 at T0;unfold Bk at T1 T7;unfold Bk at T93
  by_cases hlt:q<ws.length
  ·have hc:=ltT hlt
   have hx:=yx39 tok off ws q hlt;have hw:=Jd (i:=q) (by omega)
   have hsl:=hwb ws[q] (List.getElem_mem hlt);have hwa:=I2 (i:=i) (j:=ws[q].length) (by omega)
   rw[Ja6 hlt]
   have again:Ci ws[q] (l.drop i)=false→∀r,SgEnd l i S (ws.drop (q+1)) r→SgEnd l i S (ws[q] :: ws.drop (q+1)) r:=fun hno r h=>by
    rcases h with⟨t',S',s,rfl,q1,q2,q3,q4,q5⟩ |h
    ·exact .inl ⟨t',S',s,rfl,q1,q2,q3,q4,by rw[List.find?_cons,hno];exact q5⟩
    ·exact .inr h
   by_cases hle1:i+ws[q].length≤l.length
   ·have hle:=leT hle1
    have hs:=Pb l i (i+ws[q].length) (by omega) hle1
    rw[Nat.add_sub_cancel_left]at hs
    cases hst:decide (List.take ws[q].length (List.drop i l)=ws[q])with
    |true =>
     simp(disch:=omega)only[go_sem,reduceAdd,reduceEqDiff,reduceLeDiff,xE,Tryz.f114,T0,T1,T4,M2,hc,hw,hwa,hs,hx,hst,hle,T91,T92,T93,Jt,G7,A2];refine .inl ⟨_,_,ws[q],rfl,?_,?_,?_,?_,?_⟩
     ·simp only[A0,reduceEqDiff,Ab,T4]
     ·simp only[A0,reduceEqDiff,Aa,Ab,Bk] <;> rfl
     ·simp only[A0,reduceEqDiff,Aa,Ab] <;> rfl
     ·rw[A5,if_pos rfl]
     ·rw[List.find?_cons,show Ci ws[q] (l.drop i)=true from hst]
    |false =>
     simp(disch:=omega)only[go_sem,reduceAdd,reduceEqDiff,reduceLeDiff,xE,Tryz.f114,T0,T1,T4,M2,hc,hw,hwa,hs,hx,hst,hle,T91,T92,T93,Jt,G7,A2];exact WX.mono (sg_lp hl hi hwl hwb M2 d (q+1) _ (by omega) (by omega) ⟨by simp only[A0,reduceEqDiff,Ab,T0,A2],by simp only[A0,reduceEqDiff,Ab,T1,Bk],by simp only[A0,reduceEqDiff,Ab,T4],by simp only[A0,reduceEqDiff,Ab,T7,Bk]⟩ (by simp only[A0,reduceEqDiff,Ab,T91] <;> rfl) (by simp only[A0,reduceEqDiff,Ab,T92] <;> rfl) (by simp only[A0,reduceEqDiff,Aa,Ab,Bk] <;> rfl)) (again hst)
   ·have hle:=leF hle1
    have hno:Ci ws[q] (l.drop i)=false:=by
     unfold Ci;rw[decide_eq_false_iff_not];intro h;have:=congrArg List.length h;simp at this;omega
    simp(disch:=omega)only[go_sem,reduceAdd,reduceEqDiff,reduceLeDiff,xE,Tryz.f114,T0,T1,T4,M2,hc,hw,hwa,hx,hle,T91,T92,T93,Jt,A2];exact WX.mono (sg_lp hl hi hwl hwb M2 d (q+1) _ (by omega) (by omega) ⟨by simp only[A0,reduceEqDiff,Ab,T0,A2],by simp only[A0,reduceEqDiff,Ab,T1,Bk],by simp only[A0,reduceEqDiff,Ab,T4],by simp only[A0,reduceEqDiff,Ab,T7,Bk]⟩ (by simp only[A0,reduceEqDiff,Ab,T91] <;> rfl) (by simp only[A0,reduceEqDiff,Ab,T92] <;> rfl) (by simp only[A0,reduceEqDiff,Aa,Ab,Bk] <;> rfl)) (again hno)
  ·have hc:=ltF hlt
   simp(disch:=omega)only[go_sem,reduceEqDiff,xE,Tryz.f114,hc,T91,T92,T93];exact .inr ⟨_,rfl,⟨by simp only[A0,reduceEqDiff,Ab,T0,A2],by simp only[A0,reduceEqDiff,Ab,T1,Bk],by simp only[A0,reduceEqDiff,Ab,T4],by simp only[A0,reduceEqDiff,Ab,T7,Bk]⟩⟩
theorem Uu{l:List UInt8}{i:Nat}(S':St)(a c n:Int)(s:List UInt8)(j:Nat)(e:Int)(h:e=0→∃t,Fx (l.drop i) i=some (t,0)∧AV.agg [.v (.int .i64 a),.v (.int .i64 c),.v (.string ⟨⟨s⟩⟩),.v (.int .u64 n)]=C6 t∧j=i+t.text.length):
  ∃x S'',R.ret (.tup [.agg [.v (.int .i64 a),.v (.int .i64 c),.v (.string ⟨⟨s⟩⟩),.v (.int .u64 n)],.v (.int .i64 (j:Int)),.v (.int .i64 e)]) S' = R.ret x S''∧Bw x=true∧Oe 114 [A2 l,Bk i] (clean x):=by
 refine⟨_,_,rfl,rfl,?_⟩;intro l' i' h1 _ _;have h3:=(Cy (Cy h1).2).1
 have h2:i=i':=by
  unfold Bk at h3;injection h3 with h
  injection h with _ h
  omega
 have h1:=J6 (Cy h1).1;subst h1;subst h2;exact⟨_,_,_,_,j,e,rfl,h⟩
theorem use_words{S:St}{Q:R→Prop}(h:Q (.ret (.sl 0 0 1 (E9.map A2)) S)):WC E4 177 [] S Q :=
 mE words_k (by kernel_rfl) rfl rfl fun a _ _ hs=>by
  rw[hs rfl];exact h
theorem use_signs{S:St}{Q:R→Prop}(h:Q (.ret (.sl 0 0 1 (Cu.map A2)) S)):WC E4 179 [] S Q :=
 mE signs_k (by kernel_rfl) rfl rfl fun a _ _ hs=>by
  rw[hs rfl];exact h
theorem signs_len:∀s∈Cu,s.length≤1000:=by
 have h:Cu.all (fun s=>decide (s.length≤1000))=true:=by kernel_rfl
 intro s hs;exact of_decide_eq_true (Jb6.1 h s hs)
theorem wl_len:(E9.map A2).length=E9.length:=Ja9 _
theorem sgl_len:(Cu.map A2).length=Cu.length:=Ja9 _
theorem nextq_w{l:List UInt8}{i:Nat}(hi:i<l.length)(hb:Dp l[i]=true):Fx (l.drop i) i=some (Kd (l.drop i) i):=by
 rw[Ja6 hi];unfold Fx;simp only[if_pos hb]
theorem nextq_n{l:List UInt8}{i:Nat}(hi:i<l.length)(hb:Dp l[i]=false)(hd:Bi l[i]=true):Fx (l.drop i) i=Sk (l.drop i) i:=by
 rw[Ja6 hi];unfold Fx;simp only[hb,Am,Ab,if_pos hd]
theorem nextq_s{l:List UInt8}{i:Nat}(hi:i<l.length)(hb:Dp l[i]=false)(hd:Bi l[i]=false):Fx (l.drop i) i=some (J2 (l.drop i) i):=by
 rw[Ja6 hi];unfold Fx;simp only[hb,hd,Am,Ab]
theorem one_k(l:List UInt8)(i:Nat)(hl:l.length≤100000)(hi:i<l.length):Kn4 114 [A2 l,Bk i]:=by
 refine body4 Tryz.f114 (by kernel_rfl) (by kernel_rfl) (by show(_:Nat)≤_;simp[Tryz.f114]) ?_
 obtain⟨fn1,hf1⟩:=bJ;obtain⟨fn2,hf2⟩:=fn4_177;obtain⟨fn3,hf3⟩:=fn4_178;obtain⟨fn4,hf4⟩:=fn4_179;have key1:=fun t S=>wd_lp hl (i:=i) (l.length+1) i t S
 have key2:=fun(j:Nat) (hij:i≤j) (hj:j≤l.length) (S:St) (M2:S.mem.get 2=some (.box [.v (.int .i64 0),.v (.int .i64 0),.v (.string ⟨⟨[]⟩⟩),.v (.int .u64 0)])) t=>ws_lp hl hij hj (ws:=E9) (by decide) (tok:=0) (off:=0) M2 (E9.length+1) 0 t
 have key3:=fun t S=>dg_lp hl (i:=i) (l.length+1) i t S
 have key4:=fun(S:St) (M2:S.mem.get 2=some (.box [.v (.int .i64 0),.v (.int .i64 0),.v (.string ⟨⟨[]⟩⟩),.v (.int .u64 0)])) t=>sg_lp hl (i:=i) (by omega) (ws:=Cu) (by decide) signs_len (tok:=0) (off:=0) M2 (Cu.length+1) 0 t
 unfold wdLB Qg at key1;unfold wsLB Qg at key2;unfold dgLB at key3;unfold xE at key4;simp only[Tryz.f114]at key1 key2 key3 key4;have hlw:((E9.map A2).length:Nat)=E9.length:=wl_len;have hls:((Cu.map A2).length:Nat)=Cu.length:=sgl_len;simp(disch:=omega)only[go_sem,reduceEqDiff,Tryz.f114,hf1,Xf,G3,Bk,A2];refine Qm ?_
 cases hbl:Dp l[i]with
 |true =>
  have hb1:=(is1 l[i]).trans hbl;simp(disch:=omega)only[go_sem,reduceEqDiff,hf4,hb1];refine WX.mono (key1 _ _ (by omega) (by omega) ⟨by simp only[A0,reduceEqDiff,Aa,Ab,A2],by simp only[A0,reduceEqDiff,Aa,Ab,Bk],by simp only[A0,reduceEqDiff,Aa,Ab],by simp only[A0,reduceEqDiff,Aa,Ab,Bk]⟩) ?_
  rintro _ ⟨t',rfl,T0,T1,T4,T7⟩;have hcl:=Qk Bq (l.drop i);rw[Jb4]at hcl;have hcl2:i+cnt Bq (l.drop i)≤l.length:=by omega
  have hts:txt l i (i+cnt Bq (l.drop i))=(l.drop i).take (cnt Bq (l.drop i)):=by unfold txt;rw[Nat.add_sub_cancel_left]
  have htl:((l.drop i).take (cnt Bq (l.drop i))).length=cnt Bq (l.drop i):=by rw[Jd0,Jb4];omega
  unfold A2 at T0;unfold Bk at T1 T7;simp(disch:=omega)only[go_sem,reduceEqDiff,hf2,hf4];refine use_words ?_;simp(disch:=omega)only[go_sem,hlw];refine WX.mono (key2 (i+cnt Bq (l.drop i)) (by omega) hcl2 _ (by simp only[Bj,Br,Aa] <;> rfl) _ (by omega) (by omega) ⟨by simp only[A0,reduceEqDiff,Ab,T0,A2],by simp only[A0,reduceEqDiff,Ab,T1,Bk],by simp only[A0,reduceEqDiff,Ab,T4],by simp only[A0,reduceEqDiff,Ab,T7,Bk]⟩ (by simp only[A0,reduceEqDiff,Aa,Ab] <;> rfl) (by simp only[A0,reduceEqDiff,Aa,Ab] <;> rfl) (by simp only[A0,reduceEqDiff,Aa,Ab,Bk] <;> rfl)) ?_
  rintro _ (⟨t2,S2,rfl,q1,q2,q3,q4,q5⟩ | ⟨t2,rfl,q1,q5⟩)
  ·unfold Bk at q2
   simp(disch:=omega)only[go_sem,reduceAdd,reduceLeDiff,q1,q2,q3,q4];refine Uu _ 3 i 0 _ _ 0 (fun _=>⟨⟨3,i,(l.drop i).take (cnt Bq (l.drop i)),0⟩,?_,by rw[hts];rfl,by show _=i+List.length _;rw[htl]⟩)
   rw[Jd1,hts]at q5;rw[nextq_w hi hbl];unfold Kd;rw[if_pos q5]
  ·obtain⟨T0,T1,T4,T7⟩:=q1
   rw[Jd1,hts]at q5;unfold A2 at T0;unfold Bk at T1 T7
   have hwa:IntKind.i64.wrap (((i+cnt Bq (l.drop i):Nat):Int) - (i:Int))=((cnt Bq (l.drop i):Nat):Int):=by
    rw[show((i+cnt Bq (l.drop i):Nat):Int) - (i:Int)=((cnt Bq (l.drop i):Nat):Int) by omega]
    exact qH (by omega)
   by_cases hg1:30<cnt Bq (l.drop i)
   ·have hn:decide (((cnt Bq (l.drop i):Nat):Int) > 30)=true:=gtT hg1
    simp(disch:=omega)only[go_sem,reduceAdd,reduceEqDiff,reduceLeDiff,T0,T1,T4,T7,hf4,hn,hwa,A2];exact Uu _ 0 0 0 [] _ 3 (fun h=>by cases h)
   ·have hn:decide (((cnt Bq (l.drop i):Nat):Int) > 30)=false:=gtF hg1
    have hs:=Pb l i (i+cnt Bq (l.drop i)) (by omega) hcl2
    rw[Nat.add_sub_cancel_left]at hs;simp(disch:=omega)only[go_sem,reduceAdd,reduceEqDiff,reduceLeDiff,T0,T1,T4,T7,hf4,hn,hwa,hs,A2];refine Uu _ 1 i 0 _ _ 0 (fun _=>⟨⟨1,i,(l.drop i).take (cnt Bq (l.drop i)),0⟩,?_,rfl,by show _=i+List.length _;rw[htl]⟩)
    rw[nextq_w hi hbl];unfold Kd;rw[if_neg q5,if_neg hg1]
 |false =>
  have hb1:=(is1 l[i]).trans hbl
  cases hbd:Bi l[i]with
  |true =>
   have hb2:=(is2 l[i]).trans hbd;simp(disch:=omega)only[go_sem,reduceEqDiff,hf4,hb1,hb2];refine WX.mono (key3 _ _ (by omega) (by omega) ⟨by simp only[A0,reduceEqDiff,Aa,Ab,A2],by simp only[A0,reduceEqDiff,Aa,Ab,Bk],by simp only[A0,reduceEqDiff,Aa,Ab],by simp only[A0,reduceEqDiff,Aa,Ab,Bk]⟩) ?_
   rintro _ ⟨t',rfl,T0,T1,T4,T7⟩;have hcl:=Qk Bi (l.drop i);rw[Jb4]at hcl;have hcl2:i+cnt Bi (l.drop i)≤l.length:=by omega
   have hct:=Ra Bi (l.drop i);have hpos:0<cnt Bi (l.drop i):=by rw[Ja6 hi,Mm hbd];omega
   unfold A2 at T0;unfold Bk at T1 T7;have hs:=Pb l i (i+cnt Bi (l.drop i)) (by omega) hcl2
   rw[Nat.add_sub_cancel_left]at hs;simp(disch:=omega)only[go_sem,reduceEqDiff,T0,T1,T7,hf3,hf4,hs];refine wV (by rw[hct.2];omega) (fun h=>by have:=hct.2;rw[h]at this;simp at this;omega) hct.1 fun n e q=>?_
   simp(disch:=omega)only[go_sem,reduceAdd,reduceEqDiff,reduceLeDiff,T0,T1,T4,T7,hs];refine Uu _ 2 i n _ _ e (fun h=>?_)
   obtain⟨q1,q2,q3⟩:=q h;rw[hct.2]at q1
   have hhd:((l.drop i).take (cnt Bi (l.drop i))).head? = (l.drop i).head?:=by
    rw[List.head?_take,if_neg (by omega)]
   rw[hhd]at q1;refine⟨⟨2,i,(l.drop i).take (cnt Bi (l.drop i)),n⟩,?_,rfl,by show _=i+List.length _;rw[hct.2]⟩
   rw[nextq_n hi hbl hbd];unfold Sk;rw[← q2,if_neg q1,if_pos (by omega),if_neg (by omega)]
  |false =>
   have hb2:=(is2 l[i]).trans hbd;simp(disch:=omega)only[go_sem,reduceEqDiff,hf4,hb1,hb2];refine use_signs ?_;simp(disch:=omega)only[go_sem,reduceEqDiff,hls];refine WX.mono (key4 _ (by simp only[Bj,Br,Aa] <;> rfl) _ (by omega) (by omega) ⟨by simp only[A0,reduceEqDiff,Aa,Ab,A2],by simp only[A0,reduceEqDiff,Aa,Ab,Bk],by simp only[A0,reduceEqDiff,Aa,Ab],by simp only[A0,reduceEqDiff,Aa,Ab,Bk]⟩ (by simp only[A0,reduceEqDiff,Aa,Ab] <;> rfl) (by simp only[A0,reduceEqDiff,Aa,Ab] <;> rfl) (by simp only[A0,reduceEqDiff,Aa,Ab,Bk] <;> rfl)) ?_
   rintro _ (⟨t2,S2,s,rfl,q1,q2,q3,q4,q5⟩ | ⟨t2,rfl,q1⟩)
   ·unfold Bk at q2
    simp(disch:=omega)only[go_sem,reduceAdd,reduceLeDiff,q1,q2,q3,q4];refine Uu _ 4 i 0 s _ 0 (fun _=>⟨⟨4,i,s,0⟩,?_,rfl,rfl⟩)
    rw[Jd1]at q5;rw[nextq_s hi hbl hbd];unfold J2;rw[q5]
   ·obtain⟨T0,T1,T4,T7⟩:=q1
    unfold A2 at T0;unfold Bk at T1 T7;simp(disch:=omega)only[go_sem,Nat.reduceLT,reduceAdd,reduceEqDiff,reduceLeDiff,T4,T7,A2];exact Uu _ 0 0 0 [] _ 1 (fun h=>by cases h)
theorem yuTok:Tryz.prog.underlying 114=some (.slice 121):=by kernel_rfl
theorem yiTok:(Tryz.prog.info? 121).map (fun i=>(i.zero.map fun z=>z.cells.size,i.size,decide (i.bytes≤1000)))=some (some 4,4,true):=by kernel_rfl
theorem yt114:∃bytes,RowT Tryz.prog 114 121 4 bytes:=K2 ye114 yuTok yiTok (by decide)
theorem yaTok_2(a b:Int):Du Tryz.prog 121 [(0,.v (.int .i64 a)),(1,.v (.int .i64 b))]=some (.agg [.v (.int .i64 a),.v (.int .i64 b),.v (.string ⟨⟨[]⟩⟩),.v (.int .u64 0)]):=by kernel_rfl
theorem yrTok_0:Bd Tryz.prog 114 0 []=some (.sl 1 0 4 []):=by kernel_rfl
theorem mR(a0 a1 a2 a3:AV):Bd Tryz.prog 114 1 [(0,.agg [a0,a1,a2,a3])]=some (.sl 1 0 4 [.agg [a0,a1,a2,a3]]):=by
 have h1:Fs Tryz.prog 114=some (none,121):=by kernel_rfl
 have h2:Cl Tryz.prog 121=some 4:=by kernel_rfl
 have h3:Kb Tryz.prog 121=some (.agg [.v (.int .i64 0),.v (.int .i64 0),A2 [],.v (.int .u64 0)]):=by kernel_rfl
 simp[Bd,h1,h2,h3,Cr,Cs]
theorem next_posq{l:List UInt8}{i:Nat}{t:Tk}(h:Fx l i=some (t,0)):0<t.text.length:=by
 have h0:=kM h;unfold Fx at h
 cases l with
 |nil=>cases h
 |cons b r =>
  simp only at h
  split at h
  ·rename_i hb
   injection h with h
   have hpos:cnt Bq (b :: r)=cnt Bq r+1:=Mm (by unfold Bq;rw[hb];rfl)
   unfold Kd at h
   split at h
   ·injection h with h1 h2;subst h1;rw[hpos];show 0<(b :: r.take _).length;simp
   ·split at h
    ·injection h with h1 h2;cases h2
    ·injection h with h1 h2;subst h1;rw[hpos];show 0<(b :: r.take _).length;simp
  ·split at h
   ·rename_i hd
    have hpos:cnt Bi (b :: r)=cnt Bi r+1:=Mm hd;unfold Sk at h
    split at h
    ·injection h with h;injection h with h1 h2;cases h2
    ·split at h
     ·split at h
      ·injection h with h;injection h with h1 h2;cases h2
      ·injection h with h;injection h with h1 h2;subst h1;rw[hpos];show 0<(b :: r.take _).length;simp
     ·injection h with h;injection h with h1 h2;cases h2
   ·injection h with h
    unfold J2 at h
    split at h
    ·rename_i s hs
     injection h with h1 h2;subst h1
     obtain⟨c,q,e,_⟩:=Sr _ (List.mem_of_find?_eq_some hs);subst e;exact Nat.succ_pos _
    ·injection h with h1 h2;cases h2
theorem qR{l:List UInt8}{i:Nat}{S:St}{Q:R→Prop}(hl:l.length≤100000)(hi:i≤l.length)(h:Q (.ret (.v (.int .i64 ((i+Fe (l.length+1) (l.drop i):Nat):Int))) S)):WC E4 113 [.v (.string ⟨⟨l⟩⟩),.v (.int .i64 (i:Int))] S Q :=
 mE (skip_k l i hl hi) (by kernel_rfl) rfl rfl fun a _ _ hs=>by
  rw[hs l i rfl hl hi];exact h
theorem use_skip0{l:List UInt8}{S:St}{Q:R→Prop}(hl:l.length≤100000)(h:Q (.ret (.v (.int .i64 ((Fe (l.length+1) l:Nat):Int))) S)):WC E4 113 [.v (.string ⟨⟨l⟩⟩),.v (.int .i64 0)] S Q :=
 qR (i:=0) hl (Nat.zero_le _) (by rw[Nat.zero_add,Jd1];exact h)
theorem use_one{l:List UInt8}{i:Nat}{S:St}{Q:R→Prop}(hl:l.length≤100000)(hi:i<l.length)(h:∀(x0 x1 x2 x3:AV) (j:Nat) (e:Int),(e=0→∃t,Fx (l.drop i) i=some (t,0)∧AV.agg [x0,x1,x2,x3]=C6 t∧j=i+t.text.length)→Q (.ret (.tup [.agg [x0,x1,x2,x3],.v (.int .i64 (j:Int)),.v (.int .i64 e)]) S)):WC E4 114 [.v (.string ⟨⟨l⟩⟩),.v (.int .i64 (i:Int))] S Q :=
 mE (one_k l i hl hi) (by kernel_rfl) rfl rfl fun a _ _ hs=>by
  obtain⟨x0,x1,x2,x3,j,e,rfl,q⟩:=hs l i rfl hl hi;exact h x0 x1 x2 x3 j e q
def alLB:Code:=match Tryz.f63.body with
 |some (.seq _ (.seq _ (.seq _ (.seq _ (.seq (.block _ (.loop c)) _)))))=>c
 |_=>.skip
structure AtA(l:List UInt8)(i tok:Nat)(es:List AV)(t:T AV)(S:St):Prop where
 t0:t.get 0=some (A2 l)
 t5:t.get 5=some (.sl tok 0 4 es)
 t6:t.get 6=some (Bk i)
 ro:Ka 4 S tok es
 nx:2≤S.next
def AlEnd(l:List UInt8)(r:O):Prop:=(∃t' S' e at_,r=.out .ret ⟨t',[]⟩ S'∧t'.get 2=some .nils∧t'.get 3=some (.v (.int .i64 e))∧e≠0∧t'.get 4=some (.v (.int .i64 at_)))∨(∃t' S' i tok ts,r=.out (.exit 0) ⟨t',[]⟩ S'∧AtA l i tok (ts.map C6) t' S'∧ts.length≤i∧i≤l.length∧Iw l=some (.inr (ts ++ [(⟨5,l.length,[],0⟩:Tk)])))
theorem all_lp{l:List UInt8}(hl:l.length≤4000):∀(n i tok:Nat) (ts:List Tk) (t:T AV) (S:St),l.length - i<n→i≤l.length→ts.length≤i→AtA l i tok (ts.map C6) t S→(∀r,L9 l n i=some (.inr r)→Iw l=some (.inr (ts ++ r)))→WX E4 44 (.loop alLB) ⟨t,[]⟩ S (AlEnd l)
 |0,i,tok,ts,t,S,hd,_,_,_,_=>absurd hd (by omega)
 |n+1,i,tok,ts,t,S,hd,hi,hti,⟨T0,T5,T6,RO,hnx⟩,hR=>by
  refine Bt (Bp ?_);unfold A2 at T0;unfold Bk at T6;obtain⟨fn1,hf1⟩:=fn4_113;obtain⟨fn2,hf2⟩:=fn4_114
  by_cases hlt:i<l.length
  ·have hc:=ltT hlt
   simp(disch:=omega)only[go_sem,reduceEqDiff,alLB,Tryz.f63,T0,T6,hf2,hc,Jt];refine use_one (by omega) hlt fun x0 x1 x2 x3 j e q=>?_
   by_cases he:e=0
   ·subst he
    obtain⟨tk1,hnext,hx,rfl⟩:=q rfl;have h0:((0:Int) != 0)=false:=rfl;have hpos:=next_posq hnext;have hnl:=Tf hnext;rw[Jb4]at hnl;have hj:i+tk1.text.length≤l.length:=by omega
    have hsk:=Ki (l.length+1) (l.drop (i+tk1.text.length));rw[Jb4]at hsk;unfold C6 Cb Bk A2 Kf at hx;injection hx with hx
    simp only[List.cons.injEq,Ad]at hx;obtain⟨rfl,rfl,rfl,rfl⟩:=hx;simp(disch:=omega)only[go_sem,reduceAdd,reduceEqDiff,reduceLeDiff,T5,T6,h0,mR,A2];generalize hS1:((S.newBox [.v (.int .i64 0),.v (.int .i64 0),.v (.string ⟨⟨[]⟩⟩),.v (.int .u64 0)]).to S.next [.v (.int .i64 (tk1.kind:Int)),.v (.int .i64 (tk1.pos:Int)),.v (.string ⟨⟨tk1.text⟩⟩),.v (.int .u64 (tk1.num:Int))])=S1;have n1:S1.next=S.next+1:=by rw[← hS1];rfl
    have ro1:Ka 4 S1 tok (ts.map C6):=RO.keep (by omega) (fun h6 hlt=>by
     have q1:¬ tok=S.next:=by omega
     rw[← hS1]
     simp only[A5,Bj,if_neg q1])
    obtain⟨bytes,hrt⟩:=yt114;obtain⟨S2,happ,ro2,n2,k2⟩:=J3 (E:=E4) hrt rfl rfl ro1 (by omega) (C6 tk1) rfl (by rw[Ja9];omega)
    have happ:Ej E4 S1 114 114 (.sl tok 0 4 (ts.map C6)) (.sl 1 0 4 [.agg [.v (.int .i64 (tk1.kind:Int)),.v (.int .i64 (tk1.pos:Int)),.v (.string ⟨⟨tk1.text⟩⟩),.v (.int .u64 (tk1.num:Int))]])=some (.sl S1.next 0 4 (ts.map C6 ++ [C6 tk1]),S2):=happ;simp(disch:=omega)only[go_sem,reduceEqDiff,T0,hf1,happ];refine qR (i:=i+tk1.text.length) (by omega) hj ?_
    simp(disch:=omega)only[go_sem,reduceEqDiff];rw[show ts.map C6 ++ [C6 tk1]=(ts ++ [tk1]).map C6 from by rw[Jd4];rfl]at ro2 ⊢
    refine all_lp hl n (i+tk1.text.length+Fe (l.length+1) (l.drop (i+tk1.text.length))) S1.next (ts ++ [tk1]) _ S2 (by omega) (by omega) (by rw[Ja3];show ts.length+1≤_;omega) ⟨by simp only[A0,reduceEqDiff,Ab,A2,T0] <;> rfl,by simp only[A0,reduceEqDiff,Aa,Ab] <;> rfl,by simp only[A0,reduceEqDiff,Aa,Ab,Bk] <;> rfl,ro2,by omega⟩ (fun r hr=>?_)
    rw[List.append_assoc];refine hR (tk1 :: r) ?_;rw[L9,if_pos hlt,hnext];simp only[Aa,hr]
   ·have h0:(e != 0)=true:=by rw[bne_iff_ne];exact he
    simp(disch:=omega)only[go_sem,reduceAdd,reduceEqDiff,reduceLeDiff,T5,T6,h0,mR,A2];exact .inl ⟨_,_,e,_,rfl,by simp only[A0,reduceEqDiff,Aa,Ab] <;> rfl,by simp only[A0,reduceEqDiff,Aa,Ab] <;> rfl,he,by simp only[A0,reduceEqDiff,Aa,Ab] <;> rfl⟩
  ·have hc:=ltF hlt
   simp(disch:=omega)only[go_sem,reduceEqDiff,alLB,Tryz.f63,T0,T6,hf2,hc,Jt];refine .inr ⟨_,_,i,tok,ts,rfl,⟨by simp only[A0,reduceEqDiff,Ab,A2,T0] <;> rfl,by simp only[A0,reduceEqDiff,Ab,T5] <;> rfl,by simp only[A0,reduceEqDiff,Ab,Bk,T6] <;> rfl,RO,hnx⟩,hti,hi,hR _ ?_⟩
   rw[L9,if_neg hlt]
theorem oX{l:List UInt8}(v:AV)(e at_:Int)(S':St)(hv:Bw v=true)(h:e=0→∃us,clean v=lvA us∧Iw l=some (.inr us)):∃a S'',R.ret (.tup [v,.v (.int .i64 e),.v (.int .i64 at_)]) S' = R.ret a S''∧Bw a=true∧Fv [] 63 [A2 l] (clean a):=by
 refine⟨_,_,rfl,by show(Bw _ && true)=true;rw[hv];rfl,?_⟩
 intro l' h1;have h1:=J6 (Cy h1).1;subst h1;exact⟨clean v,e,at_,rfl,h⟩
theorem all_known(l:List UInt8):∃a,Kn Tryz.prog (Fv []) 63 [A2 l] a:=by
 refine Ul e4_ok e4_intr e4_mix rfl Tryz.f63 (by kernel_rfl) (by kernel_rfl) (by show(_:Nat)≤_;simp[Tryz.f63]) ?_
 obtain⟨fn1,hf1⟩:=fn4_113
 by_cases hg:4000<l.length
 ·have hn:decide ((l.length:Int) > 4000)=true:=gtT hg
  simp(disch:=omega)only[go_sem,reduceEqDiff,Tryz.f63,hf1,hn,yrTok_0,Jt,A2];exact oX .nils 3 4000 _ rfl (fun h=>by cases h)
 ·have hn:decide ((l.length:Int) > 4000)=false:=gtF hg
  have key:=fun t S=>all_lp (l:=l) (by omega) (l.length+1) (Fe (l.length+1) l) 1 [] t S
  unfold alLB at key;simp only[Tryz.f63]at key;simp(disch:=omega)only[go_sem,reduceEqDiff,Tryz.f63,hf1,hn,yrTok_0,Jt,A2];refine use_skip0 (by omega) ?_
  have hsk:=Ki (l.length+1) l;simp(disch:=omega)only[go_sem,reduceEqDiff];refine WX.mono (key _ _ (by omega) hsk (Nat.zero_le _) ⟨by simp only[A0,reduceEqDiff,Aa,Ab,A2] <;> rfl,by simp only[A0,reduceEqDiff,Aa,Ab] <;> rfl,by simp only[A0,reduceEqDiff,Aa,Ab,Bk] <;> rfl,.inl rfl,by show 2≤St0.next;rw[Br];omega⟩ (fun r hr=>?_)) ?_
  ·unfold Iw
   rw[if_neg hg];exact hr
  rintro _ (⟨t',S',e,at_,rfl,q2,q3,he,q4⟩ | ⟨t',S',i,tok,ts,rfl,⟨T0,T5,T6,RO,hnx⟩,hti,hi,hlx⟩)
  ·simp(disch:=omega)only[go_sem,q2,q3,q4]
   exact oX .nils e at_ _ rfl (fun h=>absurd h he)
  ·unfold A2 at T0
   unfold Bk at T6;obtain⟨bytes,hrt⟩:=yt114;obtain⟨S2,happ,ro2,n2,k2⟩:=J3 (E:=E4) hrt rfl rfl RO hnx (C6 ⟨5,l.length,[],0⟩) rfl (by rw[Ja9];omega)
   have happ:Ej E4 S' 114 114 (.sl tok 0 4 (ts.map C6)) (.sl 1 0 4 [.agg [.v (.int .i64 5),.v (.int .i64 (l.length:Int)),.v (.string ⟨⟨[]⟩⟩),.v (.int .u64 0)]])=some (.sl S'.next 0 4 (ts.map C6 ++ [C6 ⟨5,l.length,[],0⟩]),S2):=happ;simp(disch:=omega)only[go_sem,Nat.reduceLT,reduceEqDiff,T0,T5,happ,mR,yaTok_2,Jt];rw[show ts.map C6 ++ [C6 ⟨5,l.length,[],0⟩]=(ts ++ [(⟨5,l.length,[],0⟩:Tk)]).map C6 from by rw[Jd4];rfl]
   refine oX (.sl S'.next 0 4 ((ts ++ [(⟨5,l.length,[],0⟩:Tk)]).map C6)) 0 0 _ (So (ts ++ [(⟨5,l.length,[],0⟩:Tk)])).1 (fun _=>⟨ts ++ [(⟨5,l.length,[],0⟩:Tk)],?_,hlx⟩)
   show AV.sl 0 0 4 (Be _)=_
   rw[(So _).2];rfl
theorem Vd(l:List UInt8):∃a,Kn Tryz.prog Qd 20 [A2 l] a:=sR l (all_known l)
mutual
def flE:PE→List PE
 |.mk k p n s o kids=>.mk k p n s o kids :: flL kids
def flL:List PE→List PE
 | []=>[]
 |e :: r=>flE e ++ flL r
end
mutual
theorem P6:∀x:PE,(flE x).length=Cp x
 |.mk k p n s o kids=>by rw[flE,Cp,Jb7,flL_len kids];omega
theorem flL_len:∀l:List PE,(flL l).length=Ch l
 | []=>by rw[flL,Ch];rfl
 |e :: r=>by rw[flL,Ch,Ja3,P6 e,flL_len r]
end
theorem sH:∀{es ds:List AV} {l m:List PE},RepF es l→RepF ds m→RepF (es ++ ds) (l ++ m)
 |_,_,_,_,.nil,h=>h
 |_,_,_,_,.cons a e r l h h2,h3=>.cons a e _ _ h (sH h2 h3)
theorem nS:∀{es:List AV} {l:List PE},RepF es l→C5 es=true∧RepF (Be es) l
 |_,_,.nil=>⟨rfl,.nil⟩
 |_,_,.cons a e r l h h2=>by
  have ih:=nS h2;have h1:=Iz h;exact⟨by rw[C5,h1.1,ih.1];rfl,by rw[Be];exact .cons _ _ _ _ h1.2 ih.2⟩
theorem push_rows{P:Program}{t e sz bytes:Nat}(TT:RowT P t e sz bytes){E:Env}(hP:E.P=P)(hM:E.M t=0){S:St}{tok:Nat}{es:List AV}(h:Ka sz S tok es)(hn:2≤S.next)(x:AV)(ms:List AV)(tk2 o2:Nat)(hl:es.length+(x :: ms).length≤2000001):
  ∃S',Ej E S t t (.sl tok 0 sz es) (.sl tk2 o2 sz (x :: ms))=some (.sl S.next 0 sz (es ++ x :: ms),S')∧Ka sz S' S.next (es ++ x :: ms)∧S'.next=S.next+1∧∀id,id≠tok→id<S.next→S'.mem.get id=S.mem.get id:=by
 obtain⟨i,z,hi,hz0,hz1,hz2,hz3⟩:=TT.info;have hfew:=TT.few;have hpos:=TT.pos;have hb0:(es.length+(x :: ms).length)*bytes≤2000001*1000:=Nat.mul_le_mul hl hfew;have hb1:(es.length+(x :: ms).length)*bytes≤140737488355328:=by omega
 have hb2:es.length+(x :: ms).length≤9223372036854775807:=by omega
 have app:Ej E S t t (.sl tok 0 sz es) (.sl tk2 o2 sz (x :: ms))=Ds P S t t (.sl tok 0 sz es) (.sl tk2 o2 sz (x :: ms)):=by
  unfold Ej;rw[hM,hP]
 rw[app];have hsz:i.size=sz:=hz2;subst hsz;subst hz3
 have hsrc:K9 P t i.size (.sl tk2 o2 i.size (x :: ms))=some (x :: ms):=by
  unfold K9;rw[TT.un];simp
 rcases h with rfl | ⟨h1,h2,h3⟩
 ·refine⟨S.grown 1 ((es ++ x :: ms).length*i.size),?_,.inr ⟨hn,Ja5 _,?_⟩,rfl,fun id hne hid=>?_⟩
  ·unfold Ds
   simp only[TT.el,hi,hz0,hsrc,hz1,Al,Bool.true_and,hpos,Ap,Aa,hb1,hb2,Le]
  ·show(S.mem.set S.next _).get S.next=_
   rw[T.get_set,if_pos rfl]
  ·show(S.mem.set S.next _).get id=_
   rw[T.get_set,if_neg (by omega)]
 ·obtain⟨k,rfl⟩:∃k,tok=k+2:=⟨tok - 2,by omega⟩
  refine⟨S.grown (k+2) ((es ++ x :: ms).length*i.size),?_,.inr ⟨hn,Ja5 _,?_⟩,rfl,fun id hne hid=>?_⟩
  ·unfold Ds
   simp only[TT.el,hi,hz0,hsrc,hz1,Al,Bool.true_and,hpos,Ap,Aa,hb1,hb2,Le,h3,Nat.zero_add]
  ·show((S.mem.set (k+2) none).set S.next _).get S.next=_
   rw[T.get_set,if_pos rfl]
  ·show((S.mem.set (k+2) none).set S.next _).get id=_
   rw[T.get_set,if_neg (by omega),T.get_set,if_neg (by omega)]
def SpFlat(args:List AV)(a:AV):Prop:=∀xs x,args=[.agg xs]→RepE (.agg xs) x→Cp x≤1000000→∃es,a=.sl 0 0 6 es∧RepF es (flE x)
def X9(k:FuncId)(args:List AV)(a:AV):Prop:=match k with
 |23=>SpFlat args a
 |_=>False
def kn6(k:Nat):Bool:=[23].any (Nat.beq k)
def E66:Env:={ P:=Tryz.prog,G:=G0,F:=E1.F,I:=fun k=>Bool.rec none (some (Ho Tryz.prog X9 k)) (kn6 k),M:=fun _=>0 }
theorem lR:E66.P=Tryz.prog:=_root_.id rfl
theorem e66_ok:E66.Ok:=⟨fun k fn h=>Kr.fn k fn h⟩
theorem e66_mix:E66.P.follows .mixedOrders=true:=Ks
theorem e66_I{k:Nat}(h:kn6 k=true):E66.I k=some (Ho Tryz.prog X9 k):=by
 show(Bool.rec none (some (Ho Tryz.prog X9 k)) (kn6 k):Option (List AV→St→R))=_
 rw[h]
theorem e66_intr:G8 E66:=fun k g hk base w0 args S hne γ w vs hS hg hv=>by
 have hk2:(Bool.rec none (some (Ho Tryz.prog X9 k)) (kn6 k):Option (List AV→St→R))=some g:=hk
 cases hb:kn6 k with
 |false=>rw[hb]at hk2;cases hk2
 |true =>
  rw[hb]at hk2;injection hk2 with hk2;subst hk2
  exact Ny base w0 args S hne γ w vs hS hv
abbrev Kn6(k:FuncId)(args:List AV):Prop:=∃a,Kn Tryz.prog X9 k args a
theorem body6{k:FuncId}{args:List AV}(fn:Func)(hF:E1.F k=some fn)(hb:fn.body.isSome=true)(hl:args.length≤fn.ntmps)
  (h:W E66 fn.ntmps (fn.body.getD .skip) ⟨Cx args 0,[]⟩ St0 (U6 E66 fn.results.toList (fun r=>∃a S',r=.ret a S'∧Bw a=true∧X9 k args (clean a)))):Kn6 k args :=
 Ul e66_ok e66_intr e66_mix rfl fn hF hb hl h
theorem call6{k:FuncId}{args args':List AV}{S:St}{Q:R→Prop}(hk:Kn6 k args')(hkn:kn6 k=true)(hf:C5 args=true)(hc:Be args=args')(h:∀a,Bw a=true→clean a=a→X9 k args' a→Q (.ret a S)):WC E66 k args S Q:=by
 subst hc;obtain⟨a,ha,hka⟩:=Me (P:=Tryz.prog) (Spec:=X9) hf hk;refine Gu (e66_I hkn) ?_;rw[ha S];exact h a hka.free hka.cln hka.spec
theorem fn6_23:∃fn,E66.F 23=some fn:=Jc0.1 (by kernel_rfl)
def flLB:Code:=match Tryz.f23.body with
 |some (.seq _ (.seq _ (.seq (.seq _ (.block _ (.loop c))) _)))=>c
 |_=>.skip
theorem use_flat{S:St}{Q:R→Prop}{xs:List AV}{x:PE}(hr:RepE (.agg xs) x)(hd:Cp x≤1000000)(hk:Kn6 23 [clean (.agg xs)])(h:∀es,RepF es (flE x)→Q (.ret (.sl 0 0 6 es) S)):WC E66 23 [.agg xs] S Q :=
 call6 hk (by kernel_rfl) (by show(Bw _ && true)=true;rw[(Iz hr).1];rfl) rfl fun a _ _ hs=>by
  have hc:clean (.agg xs)=.agg (Be xs):=rfl;rw[hc]at hs;obtain⟨es,rfl,hF⟩:=hs (Be xs) x rfl (Iz hr).2 hd;exact h es hF
theorem fl_lp{tok off:Nat}{es:List AV}{kids:List PE}(hrep:RepF es kids)(hd:Ch kids≤999999)(hK:∀(i:Nat) (h:i<es.length),Kn6 23 [clean es[i]]):∀(n j:Nat) (tk3:Nat) (acc:List AV) (l:List PE) (t:T AV) (S:St),j+n=es.length→RepF acc l→l.length+Ch (kids.drop j)≤1000000→Ka 6 S tk3 acc→2≤S.next→t.get 3=some (.sl tk3 0 6 acc)→t.get 9=some (.sl tok off 6 es)→t.get 10=some (.v (.int .i64 (es.length:Int)))→t.get 11=some (.v (.int .i64 (j:Int))) →
  WX E66 21 (.loop flLB) ⟨t,[]⟩ S (fun r=>∃t' S' tk4 acc4,r=.out (.exit 0) ⟨t',[]⟩ S'∧t'.get 3=some (.sl tk4 0 6 acc4)∧RepF acc4 (l ++ flL (kids.drop j)))
 |0,j,tk3,acc,l,t,S,hj,hacc,hb,RO,hnx,T3,T9,T10,T11=>by
  refine Bt (Bp ?_);have hlt:decide ((j:Int)<(es.length:Int))=false:=by rw[decide_eq_false];omega
  simp(disch:=omega)only[go_sem,reduceEqDiff,lR,flLB,Tryz.f23,T9,T10,T11,hlt];have h1:kids.drop j=[]:=List.drop_of_length_le (by rw[G9 hrep];omega)
  refine⟨_,_,tk3,acc,rfl,?_,?_⟩
  ·simp only[A0,reduceEqDiff,Ab,T3]
  ·rw[h1,flL,List.append_nil];exact hacc
 |n+1,j,tk3,acc,l,t,S,hj,hacc,hb,RO,hnx,T3,T9,T10,T11=>by
  refine Bt (Bp ?_);have hje:j<es.length:=by omega
  have hjk:j<kids.length:=by rw[G9 hrep];exact hje
  have hlt:decide ((j:Int)<(es.length:Int))=true:=by rw[decide_eq_true_eq];omega
  obtain⟨fn1,hf1⟩:=fn6_23;have hx:=yx60 tok off es j hje;have hel:es.length≤999999:=by have:=Pp kids;rw[G9 hrep]at this;omega
  have hw:=Fl j (by omega)
  have hre:=Pf hrep j hje hjk;have hdj:=Po hjk;have hkj:=hK j hje;have hdr:kids.drop j=kids[j] :: kids.drop (j+1):=Ja6 hjk;rw[hdr,Ch]at hb;rw[hdr,flL];generalize es[j]=v at hx hre hkj;generalize kids[j]=x at hre hdj hb hdr ⊢;obtain⟨xs,rfl,hx6⟩:=RepE.agg hre
  match xs,hx6 with
  | [x0,x1,x2,x3,x4,x5],_ =>
  simp only[L7]at hx;simp(disch:=omega)only[go_sem,reduceAdd,reduceEqDiff,reduceLeDiff,lR,flLB,A2,Tryz.f23,T3,T9,T10,T11,hlt,hx,hf1];refine use_flat hre (by omega) hkj fun ds hds=>?_
  generalize hS1:((S.newBox [.v (.int .i64 0),.v (.int .i64 0),.v (.int .i64 0),.v (.string ⟨⟨[]⟩⟩),.v (.bool false),.nils]).to S.next [x0,x1,x2,x3,x4,x5])=S1;have n1:S1.next=S.next+1:=by rw[← hS1];rfl
  have ro1:Ka 6 S1 tk3 acc:=RO.keep (by omega) (fun h6 hlt=>by
   have q1:¬ tk3=S.next:=by omega
   rw[← hS1]
   simp only[A5,Bj,if_neg q1])
  obtain⟨bytes,hrt⟩:=yt60;have hdl:=G9 hds;rw[P6]at hdl;have hal:=G9 hacc
  cases ds with
  |nil=>exfalso;cases x;rw[Cp]at hdl;have:1+_=0:=hdl;omega
  |cons d0 dr =>
   obtain⟨S2,happ,ro2,n2,k2⟩:=push_rows (E:=E66) hrt rfl rfl ro1 (by omega) d0 dr 0 0 (by omega)
   simp(disch:=omega)only[go_sem,reduceEqDiff,lR,T11,hw,happ];refine WX.mono (fl_lp (tok:=tok) (off:=off) hrep hd hK n (j+1) S1.next (acc ++ d0 :: dr) (l ++ flE x) _ S2 (by omega) (sH hacc hds) (by rw[Ja3,P6];omega) ro2 (by omega) ?_ ?_ ?_ ?_) ?_
   ·simp only[A0,reduceEqDiff,Aa,Ab]
   ·simp only[A0,reduceEqDiff,Ab,T9]
   ·simp only[A0,reduceEqDiff,Ab,T10]
   ·simp only[A0,reduceEqDiff,Aa,Ab]
   rintro _ ⟨t',S',tk4,acc4,rfl,h3,h4⟩;rw[List.append_assoc]at h4;exact⟨_,_,_,_,rfl,h3,h4⟩
theorem uY{a:AV}{x:PE}(hr:RepE a x)(tok:Nat)(es:List AV)(S':St)(hF:RepF es (flE x)):∃a' S'',R.ret (.sl tok 0 6 es) S' = R.ret a' S''∧Bw a' = true∧X9 23 [a] (clean a'):=by
 refine⟨_,_,rfl,(nS hF).1,?_⟩;intro xs y h hy hd;have:=(Cy h).1;subst this;have:=Sz hr hy;subst this;exact⟨Be es,rfl,(nS hF).2⟩
theorem flat_k(x:PE):∀(a:AV),RepE a x→Cp x≤1000000→Kn6 23 [a]:=fun a hr hd=>by
 match x,hr with
 |.mk kind pos n name off kids,.mk _ _ _ _ _ kv _ hkv =>
 have ih:∀e∈kids,∀a,RepE a e→Cp e≤1000000→Kn6 23 [a]:=fun e he a=>flat_k e a
 have hr:RepE (.agg (exC kind pos n name off kv)) (.mk kind pos n name off kids):=.mk _ _ _ _ _ _ _ hkv;have hdk:Ch kids≤999999:=by rw[Cp]at hd;omega
 refine body6 Tryz.f23 (by kernel_rfl) (by kernel_rfl) (by show(_:Nat)≤_;simp[Tryz.f23]) ?_
 cases hkv with
 |nil =>
  have hlt:decide ((0:Int)<((0:Nat):Int))=false:=rfl;simp(disch:=omega)only[go_sem,reduceAdd,reduceEqDiff,reduceLeDiff,lR,Tryz.f23,A2,exC,Bk];refine Bt (Bp ?_);simp(disch:=omega)only[go_sem,Nat.reduceLT,reduceEqDiff,lR,hlt];refine uY hr 1 _ _ ?_;rw[flE,flL];exact .cons _ _ _ _ hr .nil
 |row tok o es _ hF =>
  have hlen:=G9 hF;have key:=fun t S=>fl_lp (tok:=tok) (off:=o) hF hdk (fun i h=>ih _ (List.getElem_mem (by rw[hlen];exact h)) _ (Ln (Pf hF i h (by rw[hlen];exact h))) (by have:=Po (l:=kids) (j:=i) (by rw[hlen];exact h);omega)) es.length 0 1 [.agg (exC kind pos n name off (.sl tok o 6 es))] [.mk kind pos n name off kids] t S (by omega) (.cons _ _ _ _ hr .nil) (by rw[Jd1];show 1+_≤_;omega) (.inl rfl)
  unfold flLB at key;simp only[Tryz.f23]at key;simp(disch:=omega)only[go_sem,reduceAdd,reduceEqDiff,reduceLeDiff,lR,Tryz.f23,A2,exC,Bk];refine WX.mono (key _ _ ?_ ?_ ?_ ?_ ?_) ?_
  ·simp only[Ei,B6,Br];omega
  ·simp only[A0,reduceEqDiff,Aa,Ab] <;> rfl
  ·simp only[A0,reduceEqDiff,Aa,Ab] <;> rfl
  ·simp only[A0,reduceEqDiff,Aa,Ab] <;> rfl
  ·simp only[A0,reduceEqDiff,Aa,Ab] <;> rfl
  rintro _ ⟨t',S',tk4,acc4,rfl,T3,h4⟩;simp(disch:=omega)only[go_sem,Nat.reduceLT,reduceEqDiff,T3];refine uY hr tk4 _ _ ?_;rw[flE];exact h4
termination_by x
end Go.Ax
noncomputable section
namespace Go.Ax
open Go.RowKit Go.Proofs
set_option maxRecDepth 100000
def nameE:PE→List UInt8
 |.mk _ _ _ name _ _=>name
def Pv(acc:List (List UInt8))(x:PE):List (List UInt8):=if N6 x=13∧nameE x ∉ acc then acc ++ [nameE x]else acc
def Ps(acc:List (List UInt8))(q:PQ):List (List UInt8):=(flE q.e).foldl Pv acc
def Hi(nd:PN):List (List UInt8):=nd.eqs.foldl Ps []
def U3:List PQ→Nat
 | []=>0
 |q :: r=>Cp q.e+U3 r
theorem addC_len(acc:List (List UInt8))(x:PE):(Pv acc x).length≤acc.length+1:=by
 unfold Pv
 split
 ·rw[Ja3];exact Ja1 _
 ·omega
def SpCalls(args:List AV)(a:AV):Prop:=∀xs nd,args=[.agg xs]→Hg (.agg xs) nd→U3 nd.eqs≤100000→a=.sl 0 0 1 ((Hi nd).map A2)
def Od(k:FuncId)(args:List AV)(a:AV):Prop:=match k with
 |16=>SpCalls args a
 |23=>SpFlat args a
 |_=>False
def kn7(k:Nat):Bool:=[16,23].any (Nat.beq k)
def E77:Env:={ P:=Tryz.prog,G:=G0,F:=E1.F,I:=fun k=>Bool.rec none (some (Ho Tryz.prog Od k)) (kn7 k),M:=fun _=>0 }
theorem vJ:E77.P=Tryz.prog:=_root_.id rfl
theorem e77_G:E77.G=G0:=_root_.id rfl
theorem e77_ok:E77.Ok:=⟨fun k fn h=>Kr.fn k fn h⟩
theorem e77_mix:E77.P.follows .mixedOrders=true:=Ks
theorem e77_I{k:Nat}(h:kn7 k=true):E77.I k=some (Ho Tryz.prog Od k):=by
 show(Bool.rec none (some (Ho Tryz.prog Od k)) (kn7 k):Option (List AV→St→R))=_
 rw[h]
theorem e77_intr:G8 E77:=fun k g hk base w0 args S hne γ w vs hS hg hv=>by
 have hk2:(Bool.rec none (some (Ho Tryz.prog Od k)) (kn7 k):Option (List AV→St→R))=some g:=hk
 cases hb:kn7 k with
 |false=>rw[hb]at hk2;cases hk2
 |true =>
  rw[hb]at hk2;injection hk2 with hk2;subst hk2
  exact Ny base w0 args S hne γ w vs hS hv
abbrev Kn7(k:FuncId)(args:List AV):Prop:=∃a,Kn Tryz.prog Od k args a
theorem body7{k:FuncId}{args:List AV}(fn:Func)(hF:E1.F k=some fn)(hb:fn.body.isSome=true)(hl:args.length≤fn.ntmps)
  (h:W E77 fn.ntmps (fn.body.getD .skip) ⟨Cx args 0,[]⟩ St0 (U6 E77 fn.results.toList (fun r=>∃a S',r=.ret a S'∧Bw a=true∧Od k args (clean a)))):Kn7 k args :=
 Ul e77_ok e77_intr e77_mix rfl fn hF hb hl h
theorem call7{k:FuncId}{args args':List AV}{S:St}{Q:R→Prop}(hk:Kn7 k args')(hkn:kn7 k=true)(hf:C5 args=true)(hc:Be args=args')(h:∀a,Bw a=true→clean a=a→Od k args' a→Q (.ret a S)):WC E77 k args S Q:=by
 subst hc;obtain⟨a,ha,hka⟩:=Me (P:=Tryz.prog) (Spec:=Od) hf hk;refine Gu (e77_I hkn) ?_;rw[ha S];exact h a hka.free hka.cln hka.spec
theorem fn7_23:∃fn,E77.F 23=some fn:=Jc0.1 (by kernel_rfl)
theorem use_flat7{S:St}{Q:R→Prop}{xs:List AV}{x:PE}(hr:RepE (.agg xs) x)(hd:Cp x≤1000000)(h:∀es,RepF es (flE x)→Q (.ret (.sl 0 0 6 es) S)):WC E77 23 [.agg xs] S Q:=by
 obtain⟨a0,hk0⟩:=flat_k x (clean (.agg xs)) (Iz hr).2 hd;refine call7 (args':=[clean (.agg xs)]) ⟨a0,hk0.free,hk0.cln,hk0.pure,hk0.spec⟩ (by kernel_rfl) (by show(Bw _ && true)=true;rw[(Iz hr).1];rfl) rfl fun a _ _ hs=>?_
 have hc:clean (.agg xs)=.agg (Be xs):=rfl;rw[hc]at hs;obtain⟨es,rfl,hF⟩:=hs (Be xs) x rfl (Iz hr).2 hd;exact h es hF
theorem yuS:Tryz.prog.underlying 39=some (.slice 9):=by kernel_rfl
theorem yeS:Fs Tryz.prog 39=some (none,9):=by kernel_rfl
theorem yiS:(Tryz.prog.info? 9).map (fun i=>(i.zero.map fun z=>z.cells.size,i.size,decide (i.bytes≤1000)))=some (some 1,1,true):=by kernel_rfl
theorem ytS:∃bytes,RowT Tryz.prog 39 9 1 bytes:=K2 yeS yuS yiS (by decide)
theorem yrS_0:Bd Tryz.prog 39 0 []=some (.sl 1 0 1 []):=by kernel_rfl
def cl0:Code:=match Tryz.f16.body with
 |some (.seq _ (.seq _ (.seq (.seq _ (.block _ (.loop c))) _)))=>c
 |_=>.skip
def cl2:Code:=match cl0 with
 |.seq _ (.seq _ (.seq (.block _ (.seq _ (.seq _ (.block _ (.loop c))))) _))=>c
 |_=>.skip
def cl4:Code:=match cl2 with
 |.seq _ (.seq _ (.seq (.block _ (.seq _ (.seq _ (.seq (.seq _ (.block _ (.loop c))) _)))) _))=>c
 |_=>.skip
def FrC(l:List Nat)(t t':T AV):Prop:=∀k∈l,t'.get k=t.get k
theorem ct_lp{ws:List (List UInt8)}{tok p:Nat}{nm:List UInt8}{x0 x1 x2 x4 x5:AV}{S:St}(hwl:ws.length≤1000000)(M2:S.mem.get p=some (.box [x0,x1,x2,.v (.string ⟨⟨nm⟩⟩),x4,x5])):∀(d q:Nat) (bb:Bool) (t:T AV),ws.length - q<d→q≤ws.length→t.get 7=some (.ptr p 0)→t.get 8=some (.v (.bool bb))→t.get 30=some (.sl tok 0 1 (ws.map A2))→t.get 31=some (.v (.int .i64 (ws.length:Int)))→t.get 32=some (.v (.int .i64 (q:Int))) →
  WX E77 54 (.loop cl4) ⟨t,[]⟩ S (fun r=>∃t',r=.out (.exit 4) ⟨t',[]⟩ S∧t'.get 8=some (.v (.bool (bb || decide (nm∈ws.drop q))))∧FrC [3,7,13,14,15,21,22,23] t t')
 |0,q,bb,t,hd,_,_,_,_,_,_=>absurd hd (by omega)
 |d+1,q,bb,t,hd,hq,T7,T8,T30,T31,T32=>by
  refine Bt (Bp ?_)
  by_cases hlt:q<ws.length
  ·have hc:=ltT hlt
   have hx:=yx39 tok 0 ws q hlt;have hw:=Fl q (by omega)
   have next:∀(b2:Bool) (t2:T AV),(b2 || decide (nm∈ws.drop (q+1)))=(bb || decide (nm∈ws.drop q))→t2.get 7=some (.ptr p 0)→t2.get 8=some (.v (.bool b2))→t2.get 30=some (.sl tok 0 1 (ws.map A2))→t2.get 31=some (.v (.int .i64 (ws.length:Int)))→t2.get 32=some (.v (.int .i64 ((q+1:Nat):Int)))→FrC [3,7,13,14,15,21,22,23] t t2→WX E77 54 (.loop cl4) ⟨t2,[]⟩ S (fun r=>∃t',r=.out (.exit 4) ⟨t',[]⟩ S∧t'.get 8=some (.v (.bool (bb || decide (nm∈ws.drop q))))∧FrC [3,7,13,14,15,21,22,23] t t'):=fun b2 t2 he h7 h8 h30 h31 h32 hf=>by
    refine WX.mono (ct_lp hwl M2 d (q+1) b2 t2 (by omega) (by omega) h7 h8 h30 h31 h32) ?_
    rintro _ ⟨t',rfl,q1,q2⟩;rw[he]at q1;exact⟨t',rfl,q1,fun k hk=>(q2 k hk).trans (hf k hk)⟩
   have hdr:=Ja6 hlt
   cases bb with
   |true =>
    simp(disch:=omega)only[go_sem,reduceEqDiff,vJ,e77_G,cl0,cl2,cl4,Tryz.f16,T7,T8,T30,T31,T32,hc,hx,hw,A2];exact next true _ (by simp only[Bool.true_or]) (by simp only[A0,reduceEqDiff,Ab,T7] <;> rfl) (by simp only[A0,reduceEqDiff,Aa,Ab] <;> rfl) (by simp only[A0,reduceEqDiff,Ab,T30] <;> rfl) (by simp only[A0,reduceEqDiff,Ab,T31] <;> rfl) (by simp only[A0,reduceEqDiff,Aa,Ab] <;> rfl) (fun k hk=>by simp only[Jb8,Ja7,or_false]at hk;rcases hk with rfl |rfl |rfl |rfl |rfl |rfl |rfl |rfl <;> simp only[A0,reduceEqDiff,Ab])
   |false =>
    cases hst:decide (ws[q]=nm)with
    |true =>
     simp(disch:=omega)only[go_sem,reduceEqDiff,vJ,cl0,cl2,cl4,Tryz.f16,T7,T8,T30,T31,T32,M2,hc,hx,hw,hst,G7,A2];exact next true _ (by rw[hdr];have:=of_decide_eq_true hst;simp[this]) (by simp only[A0,reduceEqDiff,Ab,T7] <;> rfl) (by simp only[A0,reduceEqDiff,Aa,Ab] <;> rfl) (by simp only[A0,reduceEqDiff,Ab,T30] <;> rfl) (by simp only[A0,reduceEqDiff,Ab,T31] <;> rfl) (by simp only[A0,reduceEqDiff,Aa,Ab] <;> rfl) (fun k hk=>by simp only[Jb8,Ja7,or_false]at hk;rcases hk with rfl |rfl |rfl |rfl |rfl |rfl |rfl |rfl <;> simp only[A0,reduceEqDiff,Ab])
    |false =>
     simp(disch:=omega)only[go_sem,reduceEqDiff,vJ,cl0,cl2,cl4,Tryz.f16,T7,T8,T30,T31,T32,M2,hc,hx,hw,hst,G7,A2]
     exact next false _ (by
      rw[hdr];have hh:=of_decide_eq_false hst;rw[Bool.false_or,Bool.false_or,decide_eq_decide];refine⟨Ja8 _,fun h=>?_⟩
      rcases Jb8.1 h with h |h
      ·exact absurd h.symm hh
      ·exact h) (by simp only[A0,reduceEqDiff,Ab,T7] <;> rfl) (by simp only[A0,reduceEqDiff,Aa,Ab] <;> rfl) (by simp only[A0,reduceEqDiff,Ab,T30] <;> rfl) (by simp only[A0,reduceEqDiff,Ab,T31] <;> rfl) (by simp only[A0,reduceEqDiff,Aa,Ab] <;> rfl) (fun k hk=>by simp only[Jb8,Ja7,or_false]at hk;rcases hk with rfl |rfl |rfl |rfl |rfl |rfl |rfl |rfl <;> simp only[A0,reduceEqDiff,Ab])
  ·have hc:=ltF hlt
   simp(disch:=omega)only[go_sem,reduceEqDiff,vJ,cl0,cl2,cl4,Tryz.f16,T30,T31,T32,hc];refine⟨_,rfl,?_,(fun k hk=>by simp only[Jb8,Ja7,or_false]at hk;rcases hk with rfl |rfl |rfl |rfl |rfl |rfl |rfl |rfl <;> simp only[A0,reduceEqDiff,Ab])⟩
   rw[Jc3 (by omega)]
   simp only[A0,reduceEqDiff,Ab,T8,Ja7,Aq,Bool.or_false]
attribute [go_sem] e77_G vJ yrS_0
end Go.Ax
