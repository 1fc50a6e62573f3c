/- ZzR -/
import Derived.Test.YtimbgdjbggdgmaaGreatDoorNcG28
import Derived.Test.YtimbgdjbggdgmaaGreatDoorNcG19
import Derived.Test.YtimbgdjbggdgmaaGreatDoorNcG18
import Derived.Test.YtimbgdjbggdgmaaGreatDoorNcG17
import Derived.Test.YtimbgdjbggdgmaaGreatDoorNcG27
set_option linter.unusedVariables false
set_option linter.unusedSimpArgs false
set_option maxHeartbeats 16000000
noncomputable section
open Nat (reduceEqDiff)
namespace Go.Ax
open Go.RowKit Go.Proofs
set_option maxRecDepth 100000
theorem pU(S:St)(a c:List AV):((S.newBox a).to S.next c).mem.get S.next=some (.box c):=by rw[A5,if_pos rfl]
theorem oO{ds:List AV}{xs:List PE}(hrep:RepF ds xs)(hdl:ds.length≤1000000):∀(n j tok:Nat) (acc:List (List UInt8)) (t:T AV) (S:St),j+n=ds.length→acc.length+n≤1000000→Ka 1 S tok (acc.map A2)→2≤S.next→t.get 3=some (.sl tok 0 1 (acc.map A2))→t.get 21=some (.sl 0 0 6 ds)→t.get 22=some (.v (.int .i64 (ds.length:Int)))→t.get 23=some (.v (.int .i64 (j:Int))) →
  WX E77 54 (.loop cl2) ⟨t,[]⟩ S (fun r=>∃t' S' tok',r=.out (.exit 2) ⟨t',[]⟩ S'∧t'.get 3=some (.sl tok' 0 1 (((xs.drop j).foldl Pv acc).map A2))∧Ka 1 S' tok' (((xs.drop j).foldl Pv acc).map A2)∧2≤S'.next∧FrC [13,14,15] t t')
 |0,j,tok,acc,t,S,hj,ha,RO,hnx,T3,T21,T22,T23=>by
  refine Bt (Bp ?_);have hc:=ltF (i:=j) (n:=ds.length) (by omega)
  simp(disch:=omega)only[go_sem,reduceEqDiff,cl0,cl2,Tryz.f16,T21,T22,T23,hc];have h1:xs.drop j=[]:=List.drop_of_length_le (by rw[G9 hrep];omega)
  rw[h1];exact⟨_,_,tok,rfl,by simp only[A0,reduceEqDiff,Ab,T3] <;> rfl,RO,hnx,(fun k hk=>by simp only[Jb8,Ja7,or_false]at hk;rcases hk with rfl |rfl |rfl <;> simp only[A0,reduceEqDiff,Ab])⟩
 |n+1,j,tok,acc,t,S,hj,ha,RO,hnx,T3,T21,T22,T23=>by
  refine Bt (Bp ?_);have hje:j<ds.length:=by omega
  have hjk:j<xs.length:=by rw[G9 hrep];exact hje
  have hc:=ltT hje;have hx:=yx60 0 0 ds j hje;have hw:=Fl j (by omega)
  have hre:=Pf hrep j hje hjk;have key:=fun(p:Nat) (x0 x1 x2 x4 x5:AV) (nm:List UInt8) (bb:Bool) (S:St) M2 t=>ct_lp (ws:=acc) (tok:=tok) (p:=p) (nm:=nm) (x0:=x0) (x1:=x1) (x2:=x2) (x4:=x4) (x5:=x5) (S:=S) (by omega) M2 (acc.length+1) 0 bb t
  unfold cl4 cl2 cl0 at key;simp only[Tryz.f16]at key;rw[Ja6 hjk,List.foldl_cons];generalize ds[j]=v at hx hre;generalize xs[j]=x at hre ⊢
  match x,hre with
  |.mk kind pos nn name off kids,.mk _ _ _ _ _ kv _ hkv =>
  simp only[L7,exC,Bk,A2]at hx;have hlen:=yn39
  cases hk:(((kind:Nat):Int) != 13)with
  |true =>
   simp(disch:=omega)only[go_sem,Nat.reduceAdd,reduceEqDiff,Nat.reduceLeDiff,cl0,cl2,Tryz.f16,T3,T21,T22,T23,hc,hx,hk,Ja9,A2];refine WX.mono (key S.next _ _ _ _ _ name true _ (pU _ _ _) _ (by omega) (by omega) (by simp only[A0,reduceEqDiff,Aa,Ab] <;> rfl) (by simp only[A0,reduceEqDiff,Aa,Ab] <;> rfl) (by simp only[A0,reduceEqDiff,Aa,Ab] <;> rfl) (by simp only[A0,reduceEqDiff,Aa,Ab] <;> rfl) (by simp only[A0,reduceEqDiff,Aa,Ab] <;> rfl)) ?_
   rintro _ ⟨t',rfl,T8,fr⟩;rw[Bool.true_or]at T8;have g3:=fr 3 (by simp)
   have g21:=fr 21 (by simp)
   have g22:=fr 22 (by simp)
   have g23:=fr 23 (by simp)
   have g13:=fr 13 (by simp)
   have g14:=fr 14 (by simp)
   have g15:=fr 15 (by simp)
   simp only[A0,reduceEqDiff,Ab,T3,T21,T22,T23]at g3 g21 g22 g23 g13 g14 g15;simp(disch:=omega)only[go_sem,reduceEqDiff,T8,hw,g3,g23]
   have e:Pv acc (.mk kind pos nn name off kids)=acc:=by
    unfold Pv
    rw[if_neg (fun h=>by
     have h1:kind=13:=h.1;rw[h1]at hk
     cases hk)]
   rw[e]
   have RO2:Ka 1 ((S.newBox [.v (.int .i64 0),.v (.int .i64 0),.v (.int .i64 0),.v (.string ⟨⟨[]⟩⟩),.v (.bool false),.nils]).to S.next [.v (.int .i64 (kind:Int)),.v (.int .i64 (pos:Int)),.v (.int .i64 nn),.v (.string ⟨⟨name⟩⟩),.v (.bool off),kv]) tok (acc.map A2):=RO.keep (by show S.next≤S.next+1;omega) (fun h6 hlt=>by
    have q1:¬ tok=S.next:=by omega
    simp only[A5,Bj,if_neg q1])
   refine WX.mono (oO hrep hdl n (j+1) tok acc _ _ (by omega) (by omega) RO2 (by show 2≤S.next+1;omega) (by simp only[A0,reduceEqDiff,Ab,g3] <;> rfl) (by simp only[A0,reduceEqDiff,Ab,g21] <;> rfl) (by simp only[A0,reduceEqDiff,Ab,g22] <;> rfl) (by simp only[A0,reduceEqDiff,Aa,Ab] <;> rfl)) ?_
   rintro _ ⟨t2,S2,tok2,rfl,q1,q2,q3,q4⟩;refine⟨t2,S2,tok2,rfl,q1,q2,q3,fun k hk=>(q4 k hk).trans ?_⟩
   simp only[Jb8,Ja7,or_false]at hk;rcases hk with rfl |rfl |rfl <;> simp only[A0,reduceEqDiff,Ab,g13,g14,g15]
  |false =>
   have hk13:kind=13:=by rw[bne_eq_false_iff_eq]at hk;omega
   simp(disch:=omega)only[go_sem,Nat.reduceAdd,reduceEqDiff,Nat.reduceLeDiff,cl0,cl2,Tryz.f16,T3,T21,T22,T23,hc,hx,hk,Ja9,A2];refine WX.mono (key S.next _ _ _ _ _ name false _ (pU _ _ _) _ (by omega) (by omega) (by simp only[A0,reduceEqDiff,Aa,Ab] <;> rfl) (by simp only[A0,reduceEqDiff,Aa,Ab] <;> rfl) (by simp only[A0,reduceEqDiff,Aa,Ab] <;> rfl) (by simp only[A0,reduceEqDiff,Aa,Ab] <;> rfl) (by simp only[A0,reduceEqDiff,Aa,Ab] <;> rfl)) ?_
   rintro _ ⟨t',rfl,T8,fr⟩;rw[Bool.false_or,Jd1]at T8;have g3:=fr 3 (by simp)
   have g7:=fr 7 (by simp)
   have g21:=fr 21 (by simp)
   have g22:=fr 22 (by simp)
   have g23:=fr 23 (by simp)
   have g13:=fr 13 (by simp)
   have g14:=fr 14 (by simp)
   have g15:=fr 15 (by simp)
   simp only[A0,reduceEqDiff,Aa,Ab,T3,T21,T22,T23]at g3 g7 g21 g22 g23 g13 g14 g15
   have RO2:Ka 1 ((S.newBox [.v (.int .i64 0),.v (.int .i64 0),.v (.int .i64 0),.v (.string ⟨⟨[]⟩⟩),.v (.bool false),.nils]).to S.next [.v (.int .i64 (kind:Int)),.v (.int .i64 (pos:Int)),.v (.int .i64 nn),.v (.string ⟨⟨name⟩⟩),.v (.bool off),kv]) tok (acc.map A2):=RO.keep (by show S.next≤S.next+1;omega) (fun h6 hlt=>by
    have q1:¬ tok=S.next:=by omega
    simp only[A5,Bj,if_neg q1])
   by_cases hin:name∈acc
   ·have h0:decide (name∈acc)=true:=decide_eq_true hin
    rw[h0]at T8;simp(disch:=omega)only[go_sem,reduceEqDiff,T8,hw,g3,g7,g23]
    have e:Pv acc (.mk kind pos nn name off kids)=acc:=by
     unfold Pv;rw[if_neg (fun h=>h.2 hin)]
    rw[e];refine WX.mono (oO hrep hdl n (j+1) tok acc _ _ (by omega) (by omega) RO2 (by show 2≤S.next+1;omega) (by simp only[A0,reduceEqDiff,Ab,g3] <;> rfl) (by simp only[A0,reduceEqDiff,Ab,g21] <;> rfl) (by simp only[A0,reduceEqDiff,Ab,g22] <;> rfl) (by simp only[A0,reduceEqDiff,Aa,Ab] <;> rfl)) ?_
    rintro _ ⟨t2,S2,tok2,rfl,q1,q2,q3,q4⟩;refine⟨t2,S2,tok2,rfl,q1,q2,q3,fun k hk=>(q4 k hk).trans ?_⟩
    simp only[Jb8,Ja7,or_false]at hk;rcases hk with rfl |rfl |rfl <;> simp only[A0,reduceEqDiff,Ab,g13,g14,g15]
   ·have h0:decide (name∈acc)=false:=decide_eq_false hin
    rw[h0]at T8;have M2:=pU S [.v (.int .i64 0),.v (.int .i64 0),.v (.int .i64 0),.v (.string ⟨⟨[]⟩⟩),.v (.bool false),.nils] [.v (.int .i64 (kind:Int)),.v (.int .i64 (pos:Int)),.v (.int .i64 nn),.v (.string ⟨⟨name⟩⟩),.v (.bool off),kv];have n1:((S.newBox [.v (.int .i64 0),.v (.int .i64 0),.v (.int .i64 0),.v (.string ⟨⟨[]⟩⟩),.v (.bool false),.nils]).to S.next [.v (.int .i64 (kind:Int)),.v (.int .i64 (pos:Int)),.v (.int .i64 nn),.v (.string ⟨⟨name⟩⟩),.v (.bool off),kv]).next=S.next+1:=rfl;generalize ((S.newBox [.v (.int .i64 0),.v (.int .i64 0),.v (.int .i64 0),.v (.string ⟨⟨[]⟩⟩),.v (.bool false),.nils]).to S.next [.v (.int .i64 (kind:Int)),.v (.int .i64 (pos:Int)),.v (.int .i64 nn),.v (.string ⟨⟨name⟩⟩),.v (.bool off),kv])=S1 at RO2 M2 n1 ⊢;obtain⟨bytes,hrt⟩:=ytS;obtain⟨S2,happ,ro2,n2,k2⟩:=J3 (E:=E77) hrt rfl rfl RO2 (by omega) (.v (.string ⟨⟨name⟩⟩)) rfl (by rw[Ja9];omega)
    simp(disch:=omega)only[go_sem,reduceEqDiff,T8,M2,hw,happ,g3,g7,g23]
    have e:Pv acc (.mk kind pos nn name off kids)=acc ++ [name]:=by
     unfold Pv;rw[if_pos ⟨hk13,hin⟩];rfl
    rw[e];have em:acc.map A2 ++ [.v (.string ⟨⟨name⟩⟩)]=(acc ++ [name]).map A2:=by rw[Jd4];rfl
    rw[em]at ro2 ⊢;refine WX.mono (oO hrep hdl n (j+1) S1.next (acc ++ [name]) _ S2 (by omega) (by rw[Ja3];show acc.length+1+n≤_;omega) ro2 (by omega) (by simp only[A0,reduceEqDiff,Aa,Ab] <;> rfl) (by simp only[A0,reduceEqDiff,Ab,g21] <;> rfl) (by simp only[A0,reduceEqDiff,Ab,g22] <;> rfl) (by simp only[A0,reduceEqDiff,Aa,Ab] <;> rfl)) ?_
    rintro _ ⟨t2,S3,tok2,rfl,q1,q2,q3,q4⟩;refine⟨t2,S3,tok2,rfl,q1,q2,q3,fun k hk=>(q4 k hk).trans ?_⟩
    simp only[Jb8,Ja7,or_false]at hk;rcases hk with rfl |rfl |rfl <;> simp only[A0,reduceEqDiff,Ab,g13,g14,g15]
theorem lQ:∀{es:List AV} {l:List PQ},EqRows es l→∀(i:Nat) (h:i<es.length) (h2:i<l.length),U5 es[i] l[i]
 |_,_,.nil,i,h,_=>by cases h
 |_,_,.cons a e r l h h2,0,_,_=>h
 |_,_,.cons a e r l h h2,i+1,h3,h4=>lQ h2 i (Nat.lt_of_succ_lt_succ h3) (Nat.lt_of_succ_lt_succ h4)
theorem Lu:∀{es:List AV} {l:List PQ},EqRows es l→l.length=es.length
 |_,_,.nil=>rfl
 |_,_,.cons a e r l h h2=>by rw[Jb7,Jb7,Lu h2]
theorem cH:∀l:List PQ,l.length≤U3 l
 | []=>Nat.zero_le _
 |q :: r=>by
  have:=cH r;have h1:1≤Cp q.e:=by cases q.e;rw[Cp];omega
  rw[U3,Jb7];omega
theorem Q5:∀(xs:List PE) (acc:List (List UInt8)),(xs.foldl Pv acc).length≤acc.length+xs.length
 | [],acc=>Ja1 _
 |x :: r,acc=>by
  have h1:=Q5 r (Pv acc x);have h2:=addC_len acc x;rw[List.foldl_cons,Jb7];omega
theorem out_lp{es:List AV}{l:List PQ}{tk1:Nat}(hrep:EqRows es l)(hel:es.length≤1000000):∀(n j tok:Nat) (acc:List (List UInt8)) (t:T AV) (S:St),j+n=es.length→acc.length+U3 (l.drop j)≤1000000→Ka 1 S tok (acc.map A2)→2≤S.next→t.get 3=some (.sl tok 0 1 (acc.map A2))→t.get 13=some (.sl tk1 0 8 es)→t.get 14=some (.v (.int .i64 (es.length:Int)))→t.get 15=some (.v (.int .i64 (j:Int))) →
  WX E77 54 (.loop cl0) ⟨t,[]⟩ S (fun r=>∃t' S' tok',r=.out (.exit 0) ⟨t',[]⟩ S'∧t'.get 3=some (.sl tok' 0 1 (((l.drop j).foldl Ps acc).map A2)))
 |0,j,tok,acc,t,S,hj,ha,RO,hnx,T3,T13,T14,T15=>by
  refine Bt (Bp ?_);have hc:=ltF (i:=j) (n:=es.length) (by omega)
  simp(disch:=omega)only[go_sem,reduceEqDiff,cl0,Tryz.f16,T13,T14,T15,hc];have h1:l.drop j=[]:=List.drop_of_length_le (by rw[Lu hrep];omega)
  rw[h1];exact⟨_,_,tok,rfl,by simp only[A0,reduceEqDiff,Ab,T3] <;> rfl⟩
 |n+1,j,tok,acc,t,S,hj,ha,RO,hnx,T3,T13,T14,T15=>by
  refine Bt (Bp ?_);have hje:j<es.length:=by omega
  have hjk:j<l.length:=by rw[Lu hrep];exact hje
  have hc:=ltT hje;have hx:=yx43 tk1 0 es j hje;have hsl:=cH (l.drop j);rw[Jb4,Lu hrep]at hsl;obtain⟨fn1,hf1⟩:=fn7_23;have hre:=lQ hrep j hje hjk;have hdr:l.drop j=l[j] :: l.drop (j+1):=Ja6 hjk;rw[hdr,U3]at ha;rw[hdr,List.foldl_cons];generalize es[j]=v at hx hre;generalize l[j]=q at hre ha hdr ⊢;have hw:=Fl j (by omega)
  obtain⟨lv,xs,rfl,hlv,hx6,hE⟩:=hre
  match xs,hx6 with
  | [y0,y1,y2,y3,y4,y5],_ =>
  generalize q.async=aq at hx;simp only[L7,eqC]at hx;simp(disch:=omega)only[go_sem,Nat.reduceAdd,reduceEqDiff,Nat.reduceLeDiff,cl0,Tryz.f16,T13,T14,T15,hc,hx,hf1,A2];refine use_flat7 hE (by omega) fun ds hds=>?_
  have hdl:=G9 hds;rw[P6]at hdl
  have RO2:Ka 1 ((S.newBox [.nils,.v (.bool false),.v (.int .i64 0),.v (.int .i64 0),.v (.int .i64 0),.v (.string ⟨⟨[]⟩⟩),.v (.bool false),.nils]).to S.next [lv,.v (.bool aq),y0,y1,y2,y3,y4,y5]) tok (acc.map A2):=RO.keep (by show S.next≤S.next+1;omega) (fun h6 hlt=>by
   have q1:¬ tok=S.next:=by omega
   simp only[A5,Bj,if_neg q1])
  have n1:((S.newBox [.nils,.v (.bool false),.v (.int .i64 0),.v (.int .i64 0),.v (.int .i64 0),.v (.string ⟨⟨[]⟩⟩),.v (.bool false),.nils]).to S.next [lv,.v (.bool aq),y0,y1,y2,y3,y4,y5]).next=S.next+1:=rfl;generalize ((S.newBox [.nils,.v (.bool false),.v (.int .i64 0),.v (.int .i64 0),.v (.int .i64 0),.v (.string ⟨⟨[]⟩⟩),.v (.bool false),.nils]).to S.next [lv,.v (.bool aq),y0,y1,y2,y3,y4,y5])=S1 at RO2 n1 ⊢;have hlen:=yn60;have key:=fun t=>oO hds (by omega) ds.length 0 tok acc t S1 (by omega) (by omega) RO2 (by omega)
  unfold cl2 cl0 at key;simp only[Tryz.f16]at key;simp(disch:=omega)only[go_sem,reduceEqDiff];refine WX.mono (key _ (by simp only[A0,reduceEqDiff,Ab,T3] <;> rfl) (by simp only[A0,reduceEqDiff,Aa,Ab] <;> rfl) (by simp only[A0,reduceEqDiff,Aa,Ab] <;> rfl) (by simp only[A0,reduceEqDiff,Aa,Ab] <;> rfl)) ?_
  rintro _ ⟨t',S',tok',rfl,q1,q2,q3,fr⟩;have g13:=fr 13 (by simp)
  have g14:=fr 14 (by simp)
  have g15:=fr 15 (by simp)
  simp only[A0,reduceEqDiff,Ab,T13,T14,T15]at g13 g14 g15;rw[Jd1]at q1 q2;have hfl:=Q5 (flE q.e) acc;rw[P6]at hfl;simp(disch:=omega)only[go_sem,reduceEqDiff,hw,g15];exact out_lp hrep hel n (j+1) tok' (Ps acc q) _ S' (by omega) (by show((flE q.e).foldl Pv acc).length+_≤_;omega) q2 q3 (by simp only[A0,reduceEqDiff,Ab];exact q1) (by simp only[A0,reduceEqDiff,Ab,g13] <;> rfl) (by simp only[A0,reduceEqDiff,Ab,g14] <;> rfl) (by simp only[A0,reduceEqDiff,Aa,Ab] <;> rfl)
theorem fQ:∀{es:List AV} {l m:List PQ},EqRows es l→EqRows es m→l.map (fun q=>q.e)=m.map (fun q=>q.e)
 |_,_,_,.nil,.nil=>rfl
 |_,_,_,.cons a e r l h h2,.cons _ e' _ l' h' h2'=>by
  obtain⟨lv,xs,e1,_,_,hE⟩:=h;obtain⟨lv',xs',e2,_,_,hE'⟩:=h';rw[e1]at e2;injection e2 with e2
  unfold eqC at e2;injection e2 with _ e2
  injection e2 with _ e2
  subst e2;rw[Jc2,Jc2,Sz hE hE',fQ h2 h2']
theorem We:∀(l:List PQ) (acc:List (List UInt8)),l.foldl Ps acc=(l.map (fun q=>q.e)).foldl (fun acc x=>(flE x).foldl Pv acc) acc
 | [],acc=>rfl
 |q :: r,acc=>by rw[List.foldl_cons,Jc2,List.foldl_cons,We r];rfl
theorem calls_one{a:AV}{nd nd':PN}(h:Hg a nd)(h':Hg a nd'):Hi nd=Hi nd':=by
 obtain⟨a1,b1,c1,d1,es,rfl,_,_,_,hd,he⟩:=h;obtain⟨a2,b2,c2,d2,es2,e2,_,_,_,hd',he'⟩:=h';unfold H7 at e2;injection e2 with e2
 simp only[List.cons.injEq,Ad]at e2;obtain⟨_,_,_,_,_,e6⟩:=e2;subst e6
 have hes:es=es2:=by
  rcases hd with⟨rfl,rfl⟩ | ⟨tok,rfl⟩ <;> rcases hd' with⟨h1,h2⟩ | ⟨tok',h1⟩
  ·exact h2.symm
  ·cases h1
  ·cases h1
  ·injection h1
 subst hes;unfold Hi;rw[We,We,fQ he he']
theorem fK{xs:List AV}{nd:PN}(hr:Hg (.agg xs) nd)(tok:Nat)(ws:List (List UInt8))(hw:ws=Hi nd)(S':St):∃a' S'',R.ret (.sl tok 0 1 (ws.map A2)) S' = R.ret a' S''∧Bw a' = true∧Od 16 [.agg xs] (clean a'):=by
 refine⟨_,_,rfl,(Ic _).1,?_⟩;intro xs' nd' h hn _;have h:=(Cy h).1;injection h with h
 subst h
 show AV.sl 0 0 1 (Be _)=_
 rw[(Ic _).2,hw,calls_one hr hn]
theorem calls_k(xs:List AV)(nd:PN)(hr:Hg (.agg xs) nd)(hs:U3 nd.eqs≤100000):Kn7 16 [.agg xs]:=by
 have hr0:=hr;obtain⟨a,b,c,d,es,e0,_,_,_,hd,hes⟩:=hr;injection e0 with e0
 subst e0;have hsl:=cH nd.eqs;rw[Lu hes]at hsl;refine body7 Tryz.f16 (by kernel_rfl) (by kernel_rfl) (by show(_:Nat)≤_;simp[Tryz.f16]) ?_
 rcases hd with⟨rfl,rfl⟩ | ⟨tok,rfl⟩
 ·have hc:decide ((0:Int)<((0:Nat):Int))=false:=rfl
  have hq:nd.eqs=[]:=by
   generalize nd.eqs=q at hes;cases hes;rfl
  simp(disch:=omega)only[go_sem,reduceEqDiff,Tryz.f16,H7,Bk,A2];refine Bt (Bp ?_);simp(disch:=omega)only[go_sem,Nat.reduceLT,reduceEqDiff,hc];exact fK hr0 1 [] (by unfold Hi;rw[hq];rfl) _
 ·have key:=fun t S=>out_lp (tk1:=tok) hes (by omega) es.length 0 1 [] t S (by omega) (by show 0+_≤_;rw[Jd1];omega) (.inl rfl)
  unfold cl0 at key;simp only[Tryz.f16]at key;have hlen:=yn43;simp(disch:=omega)only[go_sem,reduceEqDiff,Tryz.f16,H7,Bk,A2];refine WX.mono (key _ _ ?_ ?_ ?_ ?_ ?_) ?_
  ·simp only[Ei,B6,Br];omega
  ·simp only[A0,reduceEqDiff,Aa,Ab] <;> rfl
  ·simp only[A0,reduceEqDiff,Aa,Ab] <;> rfl
  ·simp only[A0,reduceEqDiff,Aa,Ab] <;> rfl
  ·simp only[A0,reduceEqDiff,Aa,Ab] <;> rfl
  rintro _ ⟨t',S',tok',rfl,T3⟩;rw[Jd1]at T3;simp(disch:=omega)only[go_sem,Nat.reduceLT,reduceEqDiff,T3];exact fK hr0 tok' _ rfl _
end Go.Ax
noncomputable section
namespace Go.Ax
open Go.RowKit Go.Proofs
open Classical
set_option maxRecDepth 100000
section
variable {α:Type} (f:α → AV)
def uO:List (List UInt8 × α)→List UInt8→Option α
 | [],_=>none
 | (n,x) :: r,k=>if k=n then some x else uO r k
end
abbrev NM:=List (List UInt8 × PN)
def callsL(L:NM)(m:List UInt8):List (List UInt8):=match uO L m with
 |none=>[]
 |some x=>Hi x
inductive Rch(L:NM)(nd:PN):List UInt8→Prop where
 |one (n:List UInt8) (h:n∈Hi nd):Rch L nd n
 |more (m n:List UInt8) (h:Rch L nd m) (h2:n∈callsL L m):Rch L nd n
def szQ(q:PQ):Nat:=1+q.left.length+Cp q.e
def Og:List PQ→Nat
 | []=>0
 |q :: r=>szQ q+Og r
def szN(nd:PN):Nat:=1+nd.ins.length+nd.outs.length+nd.vars.length+Og nd.eqs
def szP:List PN→Nat
 | []=>0
 |nd :: r=>szN nd+szP r
theorem rB:∀{l:List PQ} {q:PQ},q∈l→szQ q≤Og l
 |a :: r,q,h=>by
  rw[Og];rcases Jb8.1 h with rfl |h
  ·omega
  ·have:=rB h;omega
theorem rC:∀l:List PQ,l.length≤Og l
 | []=>Ja1 _
 |a :: r=>by rw[Og,Jb7];have:=rC r;unfold szQ;omega
theorem szP_mem:∀{l:List PN} {q:PN},q∈l→szN q≤szP l
 |a :: r,q,h=>by
  rw[szP];rcases Jb8.1 h with rfl |h
  ·omega
  ·have:=szP_mem h;omega
theorem szP_len:∀l:List PN,l.length≤szP l
 | []=>Ja1 _
 |a :: r=>by rw[szP,Jb7];have:=szP_len r;unfold szN;omega
theorem aP:∀l:List PQ,U3 l≤Og l
 | []=>Ja1 _
 |q :: r=>by rw[U3,Og];have:=aP r;unfold szQ;omega
def iG(ws:List (List UInt8)):AV:=match ws with
 | []=>.nils
 |w :: r=>.sl 0 0 1 ((w :: r).map A2)
end Go.Ax
noncomputable section
namespace Go.Ax
open Go.RowKit Go.Proofs
open Classical
set_option maxRecDepth 100000
theorem gnotR(f:T AV)(S:St)(dst:Option Tmp)(k:Tmp)(ty:TypeId)(pos:String)(af:Array Edge)(gd:Option (Nat × Bool)):
  ground Tryz.prog gR f S { dst:=dst,op:=.unOp .not 4 (.tmp k),type:=ty,pos:=pos,after:=af,guard:=gd }=xY (oS Tryz.prog gR f S { dst:=dst,op:=.unOp .not 4 (.tmp k),type:=ty,pos:=pos,after:=af,guard:=gd }) S (f.get k):=by
 unfold xY
 split
 ·rename_i b h
  have hg:B8 gR f (.tmp k)=some (.bool b):=by unfold B8;simp only[A6,h];rfl
  unfold ground;simp only[Op.operands,List.all_cons,List.all_nil,hg,Option.isSome_some,Bool.and_self,Aa]
  have e:execOp (fun x=>(B8 gR f x).getD undef) { dst:=dst,op:=.unOp .not 4 (.tmp k),type:=ty,pos:=pos,after:=af,guard:=gd }=execOp (fun _=>.bool b) { dst:=dst,op:=.unOp .not 4 (.tmp k),type:=ty,pos:=pos,after:=af,guard:=gd }:=by
   simp only[execOp,hg,Ae]
  rw[e];cases b <;> rfl
 ·rfl
theorem xz3:Cl Tryz.prog 3=some 1:=by kernel_rfl
theorem xs3(S:St)(p k:Nat)(v:AV):Bl Tryz.prog S 3 (.ptr p k) v=Ia S (S.mem.get p) p k v 1:=Jr xz3 S p k v
theorem xz4:Cl Tryz.prog 4=some 1:=by kernel_rfl
theorem xs4(S:St)(p k:Nat)(v:AV):Bl Tryz.prog S 4 (.ptr p k) v=Ia S (S.mem.get p) p k v 1:=Jr xz4 S p k v
theorem xz9:Cl Tryz.prog 9=some 1:=by kernel_rfl
theorem xs9(S:St)(p k:Nat)(v:AV):Bl Tryz.prog S 9 (.ptr p k) v=Ia S (S.mem.get p) p k v 1:=Jr xz9 S p k v
theorem xz2:Cl Tryz.prog 2=some 1:=by kernel_rfl
theorem xs2(S:St)(p k:Nat)(v:AV):Bl Tryz.prog S 2 (.ptr p k) v=Ia S (S.mem.get p) p k v 1:=Jr xz2 S p k v
theorem xg36:B9 Tryz.prog 36=some false:=by kernel_rfl
theorem xl36(S:St)(p k:Nat):A8 Tryz.prog S 36 (.ptr p k)=cl1 (S.mem.get p) k:=Nr xg36 S p k
theorem xg55:B9 Tryz.prog 55=some false:=by kernel_rfl
theorem xl55(S:St)(p k:Nat):A8 Tryz.prog S 55 (.ptr p k)=cl1 (S.mem.get p) k:=Nr xg55 S p k
theorem xz39:Cl Tryz.prog 39=some 1:=by kernel_rfl
theorem xs39(S:St)(p k:Nat)(v:AV):Bl Tryz.prog S 39 (.ptr p k) v=Ia S (S.mem.get p) p k v 1:=Jr xz39 S p k v
theorem xg38:B9 Tryz.prog 38=some true:=by kernel_rfl
theorem xz38:Cl Tryz.prog 38=some 6:=by kernel_rfl
theorem xl38(S:St)(p k:Nat):A8 Tryz.prog S 38 (.ptr p k)=clN (S.mem.get p) k 6:=Wl xg38 xz38 S p k
theorem xle38(S:St)(cs:List AV):A8 Tryz.prog S 38 (.ep cs)=if 6≤cs.length then some (.agg (cs.take 6))else none:=Pz xg38 xz38 S cs
theorem xs38(S:St)(p k:Nat)(v:AV):Bl Tryz.prog S 38 (.ptr p k) v=Ia S (S.mem.get p) p k v 6:=Jr xz38 S p k v
theorem xa38(S:St):Ga Tryz.prog S 38=some (.ptr S.next 0,S.newBox [.v (.string ⟨⟨[]⟩⟩),.v (.int .i64 0),.nils,.nils,.nils,.nils]):=by kernel_rfl
theorem xf38_5(p k:Nat):A3 Tryz.prog 38 (.ptr p k) 5=some (.ptr p (k+5)):=by kernel_rfl
theorem xg59:B9 Tryz.prog 59=some true:=by kernel_rfl
theorem xz59:Cl Tryz.prog 59=some 8:=by kernel_rfl
theorem xle59(S:St)(cs:List AV):A8 Tryz.prog S 59 (.ep cs)=if 8≤cs.length then some (.agg (cs.take 8))else none:=Pz xg59 xz59 S cs
theorem xs59(S:St)(p k:Nat)(v:AV):Bl Tryz.prog S 59 (.ptr p k) v=Ia S (S.mem.get p) p k v 8:=Jr xz59 S p k v
theorem xa59(S:St):Ga Tryz.prog S 59=some (.ptr S.next 0,S.newBox [.nils,.v (.bool false),.v (.int .i64 0),.v (.int .i64 0),.v (.int .i64 0),.v (.string ⟨⟨[]⟩⟩),.v (.bool false),.nils]):=by kernel_rfl
theorem xf59_2(p k:Nat):A3 Tryz.prog 59 (.ptr p k) 2=some (.ptr p (k+2)):=by kernel_rfl
theorem xg57:B9 Tryz.prog 57=some true:=by kernel_rfl
theorem xz57:Cl Tryz.prog 57=some 6:=by kernel_rfl
theorem xl57(S:St)(p k:Nat):A8 Tryz.prog S 57 (.ptr p k)=clN (S.mem.get p) k 6:=Wl xg57 xz57 S p k
theorem xle57(S:St)(cs:List AV):A8 Tryz.prog S 57 (.ep cs)=if 6≤cs.length then some (.agg (cs.take 6))else none:=Pz xg57 xz57 S cs
theorem xs57(S:St)(p k:Nat)(v:AV):Bl Tryz.prog S 57 (.ptr p k) v=Ia S (S.mem.get p) p k v 6:=Jr xz57 S p k v
theorem xa57(S:St):Ga Tryz.prog S 57=some (.ptr S.next 0,S.newBox [.v (.int .i64 0),.v (.int .i64 0),.v (.int .i64 0),.v (.string ⟨⟨[]⟩⟩),.v (.bool false),.nils]):=by kernel_rfl
theorem xf57_0(p k:Nat):A3 Tryz.prog 57 (.ptr p k) 0=some (.ptr p (k+0)):=by kernel_rfl
theorem xf57_3(p k:Nat):A3 Tryz.prog 57 (.ptr p k) 3=some (.ptr p (k+3)):=by kernel_rfl
theorem xf57_5(p k:Nat):A3 Tryz.prog 57 (.ptr p k) 5=some (.ptr p (k+5)):=by kernel_rfl
theorem xu55:Tryz.prog.underlying 55=some (.slice 57):=by kernel_rfl
theorem xe55:Fs Tryz.prog 55=some (none,57):=by kernel_rfl
theorem xx55(tok off:Nat)(es:List AV)(i:Nat)(h:i<es.length):Bh Tryz.prog 55 (.sl tok off 6 es) (.v (.int .i64 (i:Int)))=some (.ep es[i].cells):=by
 have h0:(0:Int)≤(i:Int):=by omega
 simp[Bh,h0,xe55,xz57,h]
theorem xn55(S:St)(tok off:Nat)(es:List AV):Eo Tryz.prog S 55 (.sl tok off 6 es)=some es.length:=by simp[Eo,xu55]
theorem xnn55(S:St):Eo Tryz.prog S 55 .nils=some 0:=by simp[Eo,xu55]
theorem xu36:Tryz.prog.underlying 36=some (.slice 59):=by kernel_rfl
theorem xe36:Fs Tryz.prog 36=some (none,59):=by kernel_rfl
theorem xx36(tok off:Nat)(es:List AV)(i:Nat)(h:i<es.length):Bh Tryz.prog 36 (.sl tok off 8 es) (.v (.int .i64 (i:Int)))=some (.ep es[i].cells):=by
 have h0:(0:Int)≤(i:Int):=by omega
 simp[Bh,h0,xe36,xz59,h]
theorem xn36(S:St)(tok off:Nat)(es:List AV):Eo Tryz.prog S 36 (.sl tok off 8 es)=some es.length:=by simp[Eo,xu36]
theorem xnn36(S:St):Eo Tryz.prog S 36 .nils=some 0:=by simp[Eo,xu36]
theorem xu23:Tryz.prog.underlying 23=some (.slice 38):=by kernel_rfl
theorem xe23:Fs Tryz.prog 23=some (none,38):=by kernel_rfl
theorem xx23(tok off:Nat)(es:List AV)(i:Nat)(h:i<es.length):Bh Tryz.prog 23 (.sl tok off 6 es) (.v (.int .i64 (i:Int)))=some (.ep es[i].cells):=by
 have h0:(0:Int)≤(i:Int):=by omega
 simp[Bh,h0,xe23,xz38,h]
theorem xn23(S:St)(tok off:Nat)(es:List AV):Eo Tryz.prog S 23 (.sl tok off 6 es)=some es.length:=by simp[Eo,xu23]
attribute [go_sem] gnotR xa38 xa57 xa59 xf38_5 xf57_0 xf57_3 xf57_5 xf59_2 xl36 xl38 xl55 xl57 xle38 xle57 xle59 xn23 xn55 xnn55 xs38 xs57 xs59
end Go.Ax
noncomputable section
namespace Go.Ax
open Go.RowKit Go.Proofs
open Classical
set_option maxRecDepth 100000
theorem CT.one{E:Env}{k:FuncId}{args:List AV}{S:St}{r r':R}(h:CT E k args S r)(h':CT E k args S r'):r=r':=by
 obtain⟨m,hm⟩:=h;obtain⟨m',hm'⟩:=h';rw[← hm (max m m') (by omega),← hm' (max m m') (by omega)]
theorem bI{γ:Gh}{w:World}(hg:GR γ w gR):GR ⟨fun _=>none,γ.im⟩ w gR:=by
 intro g cs h;have h0:=h;unfold gR at h
 cases hb:Nat.beq g 5 with
 |false=>rw[hb]at h;cases h
 |true =>
  have:g=5:=Jc1 hb;subst this;injection h with h;subst h
  refine⟨?_,fun h2=>absurd h2 (by simp)⟩
  have:=(hg 5 _ rfl).1
  cases this with
  |ep _ b o c h1 h2 hr =>
   refine .ep _ _ _ c h1 h2 (fun k hk=>?_)
   have hr:=hr k hk;have hk0:k=0:=by simp at hk;exact hk
   subst hk0;simp only[List.getElem_cons_zero]at hr ⊢;generalize c 0=z at hr
   cases hr with
   |iface t a x hx =>
    cases hx with
    |ep cs b o c h1 h2 hr=>exact .iface _ _ _ (.ep [] b o c (fun k h=>absurd h (Jb3 k)) (fun _ h=>absurd h Ja7) (fun k h=>absurd h (Jb3 k)))
theorem memoCT{k:FuncId}{args:List AV}{r:R}{a:AV}(hct:CT E1 k args St0 r)(hc:Pr r=some a)(hF:(E1.F k).isSome=true){base:Nat}{w0:World}{γ:Gh}{S:St}{w:World}{vs:List Value}
  (hS:SR base w0 γ S w) (hg:GR γ w gR) (hv:∀γ:Gh,VRL γ w args vs):Calls Tryz.prog k vs.toArray w (Kc base w0 γ S w (.ret a S)):=by
 cases hr:r with
 |fail=>rw[hr]at hc;cases hc
 |pan a S=>rw[hr]at hc;cases hc
 |ret a1 S1 =>
  rw[hr]at hc;obtain⟨m0,hm⟩:=hct;have hm:=hm m0 (Ja1 _);have hS0:SR w.heap.size w ⟨fun _=>none,γ.im⟩ St0 w:=⟨.refl _ _,Ja1 _,fun b o h=>hS.imc b o h,fun _ _=>⟨rfl,rfl⟩,Ja1 _,fun _ _ _ h=>(by cases h),fun _ _ h=>(by cases h),fun _ _ _ _ _ _ _ h=>(by cases h)⟩
  have:=Kx Kr P7 (Gk Kr Ks) m0 w.heap.size w k args St0 (by show ckN E1 m0 k args St0≠_;rw[hm,hr];intro e;cases e) _ w vs hS0 (bI hg) (hv _) hF
  rw[show Rd E1 (Bb E1) m0 k args St0=.ret a1 S1 from hm.trans hr]at this
  refine this.mono fun e w' he=>?_
  obtain⟨γ',v,h1,h2,h3,rfl⟩:=he
  cases hf:Bw a1 with
  |false=>simp only[Pr,hf]at hc;cases hc
  |true =>
   simp only[Pr,hf]at hc;injection hc with hc;subst hc
   have hi:∀b o,(⟨fun _=>none,fun b o=>γ'.im b o∧w.heap.size≤b⟩:Gh).im b o→w.heap.size≤b∧∃v,w'.cell? ⟨b,o,none⟩=some v:=fun b o ho=>⟨ho.2,h1.imc b o ho.1⟩
   obtain⟨q1,q2⟩:=hS.more h1.below hi;refine⟨_,v,q1,q2,h3.clean (fun b o ho=>?_) hf,rfl⟩
   by_cases hlt:b<w.heap.size
   ·exact .inl ((h2.frame b hlt (fun id c s hm hl=>by cases hl)).2 o ho)
   ·exact .inr ⟨ho,Nat.le_of_not_lt hlt⟩
def sU(l:List UInt8):R:=if h:∃r,CT E1 18 [A2 l] St0 r then Classical.choose h else .fail
theorem sT{l:List UInt8}{r:R}(h:CT E1 18 [A2 l] St0 r):sU l=r:=by
 have he:∃r,CT E1 18 [A2 l] St0 r:=⟨r,h⟩;unfold sU;rw[dif_pos he];exact(Classical.choose_spec he).one h
def Ou(args:List AV)(S:St):R:=match args with
 | [.v (.string s)]=>match Pr (sU s.data.toList)with
  |some a=>.ret a S
  |none=>.fail
 |_=>.fail
theorem prog_I7(base:Nat)(w0:World)(args:List AV)(S:St)(hne:Ou args S≠.fail)(γ:Gh)(w:World)(vs:List Value)(hS:SR base w0 γ S w)(hg:GR γ w gR)(hv:VRL γ w args vs):Calls Tryz.prog 18 vs.toArray w (Kc base w0 γ S w (Ou args S)):=by
 generalize hr:Ou args S=r at hne ⊢;unfold Ou at hr
 split at hr
 case h_2=>exact absurd hr.symm hne
 rename_i s
 split at hr
 case h_2=>exact absurd hr.symm hne
 rename_i a ha;subst hr
 by_cases h:∃r,CT E1 18 [A2 s.data.toList] St0 r
 ·obtain⟨r,h⟩:=h
  rw[sT h]at ha;refine memoCT h ha (by kernel_rfl) hS hg (fun γ'=>?_)
  refine⟨hv.1,fun k h1 h2=>?_⟩
  match k,h1 with
  |0,_ =>
   have:=hv.2 0 (by simp) h2
   generalize vs[0]=z at this;cases this;exact .v _ rfl
 ·unfold sU at ha
  rw[dif_neg h]at ha;cases ha
theorem prog_is{l:List UInt8}{out:(Nat × Nat) ⊕ List Tk}(hsz:l.length≤1000000)(hlx:Iw l=some out)(S:St):
  (∃ns v,Lf 70000 out=some (.inl ns)∧Ou [A2 l] S=.ret (.tup [v,.agg (D0 0 0)]) S∧Lr v ns)∨(∃y:Nat × Nat,Lf 70000 out=some (.inr y)∧Ou [A2 l] S=.ret (.tup [.nils,.agg (D0 y.1 y.2)]) S):=by
 obtain⟨hok,_⟩:=read_s hlx;obtain⟨r,hct,hpost⟩:=dR l St0 (Ja1 _) hsz out hlx 70000 (by omega) hok
 have hp:Ou [A2 l] S=match Pr (sU l)with |some a=>.ret a S |none=>.fail:=rfl
 rw[sT hct]at hp
 cases hx:Lf 70000 out with
 |none=>exact absurd hx hok
 |some x =>
  rw[hx]at hpost
  cases x with
  |inl ns =>
   obtain⟨v,S',rfl,hi,hk⟩:=hpost;obtain⟨h1,h2⟩:=tZ hi;refine .inl ⟨ns,clean v,rfl,?_,h2⟩;rw[hp]
   have e:Pr (.ret (.tup [v,.agg (D0 0 0)]) S')=some (.tup [clean v,.agg (D0 0 0)]):=by
    have hf:Bw (.tup [v,.agg (D0 0 0)])=true:=by
     show(Bw v && (C5 (D0 0 0) && true))=true
     rw[h1];rfl
    simp only[Pr,hf];rfl
   rw[e]
  |inr y =>
   obtain⟨S',rfl,hk⟩:=hpost;refine .inr ⟨y,rfl,?_⟩;rw[hp];have e:Pr (.ret (.tup [.nils,.agg (D0 y.1 y.2)]) S')=some (.tup [.nils,.agg (D0 y.1 y.2)]):=rfl;rw[e]
theorem sL{ts:List Tk}{n m:Nat}{y:List PN ⊕ (Nat × Nat)}(h:Lf n (.inr ts)=some y)(hm:n≤m):Lf m (.inr ts)=some y:=by
 unfold Lf at h ⊢;have hle:=iI (ts:=ts) hm 0
 cases hp:Do ts n 0 with
 |out=>simp only[hp]at h;cases h
 |ok l j =>
  rw[hp]at hle;have:Do ts m 0=.ok l j:=hle (fun h=>by cases h)
  simp only[hp]at h;simp only[this];exact h
 |bad a e =>
  rw[hp]at hle;have:Do ts m 0=.bad a e:=hle (fun h=>by cases h)
  simp only[hp]at h;simp only[this];exact h
theorem jV{l:List UInt8}{ts:List Tk}{nodes:List PN}(hl:Iw l=some (.inr ts))(hr:aG ts nodes)(hsz:l.length≤1000000)(S:St):(∃v,Ou [A2 l] S=.ret (.tup [v,.agg (D0 0 0)]) S∧Lr v nodes):=by
 obtain⟨n,hn⟩:=hr;have h1:=hn (n+70000) (by omega)
 rcases prog_is hsz hl S with⟨ns,v,h2,h3,h4⟩ | ⟨y,h2,h3⟩
 ·refine⟨v,h3,?_⟩
  have:=sL h2 (show 70000≤n+70000 by omega)
  rw[h1]at this;injection this with this
  injection this with this
  subst this;exact h4
 ·have:=sL h2 (show 70000≤n+70000 by omega)
  rw[h1]at this;cases this
end Go.Ax
noncomputable section
namespace Go.Ax
open Go.RowKit Go.Proofs
open Classical
set_option maxRecDepth 100000
def PureV2(P:Program)(k:FuncId)(args:List AV)(a:AV):Prop :=
 ∀(w:World) (im:Nat→Nat→Prop),(∀b o,im b o→∃v,w.cell? ⟨b,o,none⟩=some v)→GR ⟨fun _=>none,im⟩ w gR→∀vs:List Value,VRL ⟨fun _=>none,im⟩ w args vs→Calls P k vs.toArray w (PureQ w im a)
structure Kn2(P:Program)(Spec:FuncId→List AV→AV→Prop)(k:FuncId)(args:List AV)(a:AV):Prop where
 free:Bw a=true
 cln:clean a=a
 pure:PureV2 P k args a
 spec:Spec k args a
def Zu(P:Program)(Spec:FuncId→List AV→AV→Prop)(k:FuncId)(args:List AV)(S:St):R :=
 if h:C5 args=true∧∃a,Kn2 P Spec k (Be args) a then .ret (Classical.choose h.2) S else .fail
theorem sP{P:Program}{Spec:FuncId→List AV→AV→Prop}{k:FuncId}{args:List AV}(hf:C5 args=true)(h:∃a,Kn2 P Spec k (Be args) a):∃a,(∀S,Zu P Spec k args S=.ret a S)∧Kn2 P Spec k (Be args) a:=by
 have hh:C5 args=true∧∃a,Kn2 P Spec k (Be args) a:=⟨hf,h⟩;refine⟨Classical.choose hh.2,fun S=>?_,Classical.choose_spec hh.2⟩
 unfold Zu;rw[dif_pos hh]
theorem pureJ_ok{P:Program}{Spec:FuncId→List AV→AV→Prop}{k:FuncId}(base:Nat)(w0:World)(args:List AV)(S:St)(hne:Zu P Spec k args S≠.fail)(γ:Gh)(w:World)(vs:List Value)(hS:SR base w0 γ S w)(hg:GR γ w gR)(hv:VRL γ w args vs):
  Calls P k vs.toArray w (Kc base w0 γ S w (Zu P Spec k args S)):=by
 by_cases hh:C5 args=true∧∃a,Kn2 P Spec k (Be args) a
 ·obtain⟨a,ha,hk⟩:=sP hh.1 hh.2
  rw[ha S];refine(hk.pure w γ.im hS.imc (bI hg) vs (Yd (γ:=γ) (γ':=⟨fun _=>none,γ.im⟩) (fun _ _ h=>h) hv hh.1)).mono fun e w' he=>?_
  obtain⟨v,γ',rfl,hb,hc,hl,hr⟩:=he;have hi:∀b o,(⟨fun _=>none,fun b o=>γ'.im b o∧w.heap.size≤b⟩:Gh).im b o→w.heap.size≤b∧∃v,w'.cell? ⟨b,o,none⟩=some v:=fun b o ho=>⟨ho.2,hc b o ho.1⟩
  obtain⟨q1,q2⟩:=hS.more hb hi;refine⟨_,v,q1,q2,hr _ (fun b o ho=>?_),rfl⟩
  by_cases hlt:b<w.heap.size
  ·exact .inl (hl b hlt o ho)
  ·exact .inr ⟨ho,Nat.le_of_not_lt hlt⟩
 ·exfalso
  apply hne;unfold Zu;rw[dif_neg hh]
theorem pureOf{E:Env}(hE:E.Ok)(hI:G8 E)(hmix:E.P.follows .mixedOrders=true)(hG:E.G=gR){Spec:FuncId→List AV→AV→Prop}{k:FuncId}{args:List AV}(fn:Func)(hF:E.F k=some fn)(hb:fn.body.isSome=true)(hl:args.length≤fn.ntmps)
  (h:W E fn.ntmps (fn.body.getD .skip) ⟨Cx args 0,[]⟩ St0 (U6 E fn.results.toList (fun r=>∃a S',r=.ret a S'∧Bw a=true∧Spec k args (clean a)))):∃a,Kn2 E.P Spec k args a:=by
 obtain⟨r,⟨m0,hm⟩,hq⟩:=Bp h;have hm:=hm m0 (Ja1 _);obtain⟨c,hc⟩:=Jc0.1 hb;rw[hc]at hm
 have give:∀(Q:R→Prop) (f:Fr) (S':St),Cm E fn.results.toList f S' Q→∃l,f.dfr=[]∧Ba E f.tmps S' fn.results.toList=some l∧Q (.ret (D8 l) S'):=fun Q f S' hg=>by
  unfold Cm at hg
  split at hg
  ·rename_i l h1 h2;exact⟨l,h1,h2,hg⟩
  ·exact hg.elim
 have key:∃a S',Jc (N5 E k) (run E (Bb E) m0) k args St0=.ret a S'∧Bw a=true∧Spec k args (clean a):=by
  have e:Jc (N5 E k) (run E (Bb E) m0) k args St0=Q7 (N5 E k) (run E (Bb E) m0) fn r:=by
   unfold Jc;have h1:(N5 E k).I k=none:=by show(if k=k then none else E.I k)=none;rw[if_pos rfl]
   have h2:(N5 E k).F k=some fn:=hF;rw[h1,h2];simp only[hc,if_pos hl];rw[show run E (Bb E) m0 fn.ntmps c ⟨Cx args 0,[]⟩ St0=r from hm]
  rw[e]
  cases r with
  |fail=>exact hq.elim
  |out ee f' S' =>
   cases ee with
   |normal =>
    obtain⟨l,h1,h2,a,S2,h3,h4⟩:=give (fun r=>∃a S',r=.ret a S'∧Bw a=true∧Spec k args (clean a)) f' S' hq
    have h2':Ba (N5 E k) f'.tmps S' fn.results.toList=some l:=(L3 E k _ _ _).trans h2;exact⟨a,S2,by simp only[Q7,h1,Kl,h2'];exact h3,h4⟩
   |ret =>
    obtain⟨l,h1,h2,a,S2,h3,h4⟩:=give (fun r=>∃a S',r=.ret a S'∧Bw a=true∧Spec k args (clean a)) f' S' hq
    have h2':Ba (N5 E k) f'.tmps S' fn.results.toList=some l:=(L3 E k _ _ _).trans h2;exact⟨a,S2,by simp only[Q7,h1,Kl,h2'];exact h3,h4⟩
   |pan a =>
    obtain⟨_,_,_,hp,_⟩:=hq;cases hp
   |exit id=>exact hq.elim
 obtain⟨a,S',hst,hfr,hsp⟩:=key;refine⟨clean a,(Ku a hfr).1,(Ku a hfr).2,fun w im him hgr vs hv=>?_,hsp⟩
 have hS0:SR w.heap.size w ⟨fun _=>none,im⟩ St0 w:=⟨.refl _ _,Ja1 _,him,fun _ _=>⟨rfl,rfl⟩,Ja1 _,fun _ _ _ h=>(by cases h),fun _ _ h=>(by cases h),fun _ _ _ _ _ _ _ h=>(by cases h)⟩
 have hR:CodeOk E (run E (Bb E) m0):=M7 hE hI (Gk hE hmix) m0;have hR':CodeOk (N5 E k) (run E (Bb E) m0):=⟨hR.code,hR.loop⟩;have hE':(N5 E k).Ok:=⟨fun j fn h=>hE.fn j fn h⟩
 have hg:GR ⟨fun _=>none,im⟩ w (N5 E k).G:=by
  have:(N5 E k).G=gR:=hG;rw[this];exact hgr
 have:=Lz hE' (kL hI k) hR' w.heap.size w k args St0 (by rw[hst];intro e;cases e) ⟨fun _=>none,im⟩ w vs hS0 hg hv (by show(E.F k).isSome=true;rw[hF];rfl)
 rw[hst]at this;refine this.mono fun e w' he=>?_
 obtain⟨γ',v,h1,h2,h3,rfl⟩:=he;refine⟨v,γ',rfl,h1.below,h1.imc,fun b hlt o ho=>(h2.frame b hlt (fun id c s hm hl=>by cases hl)).2 o ho,fun γ2 h=>h3.clean h hfr⟩
def SpNCalls(args:List AV)(a:AV):Prop:=∀v nd,args=[v]→Hg v nd→szN nd≤3000→a=iG (Hi nd)
def SpN(k:FuncId)(args:List AV)(a:AV):Prop:=match k with
 |15=>SpNCalls args a
 |_=>False
def aA(args:List AV)(S:St):R:=match args with
 | [a]=>if Bw a=true∧∃xs x,clean a=.agg xs∧RepE (.agg xs) x∧Wide x then .ret (clean a) S else .fail
 |_=>.fail
theorem copy_I(base:Nat)(w0:World)(args:List AV)(S:St)(hne:aA args S≠.fail)(γ:Gh)(w:World)(vs:List Value)(hS:SR base w0 γ S w)(hg:GR γ w gR)(hv:VRL γ w args vs):Calls Tryz.prog 69 vs.toArray w (Kc base w0 γ S w (aA args S)):=by
 unfold aA at hne ⊢
 split at hne
 case h_2=>exact absurd rfl hne
 rename_i a
 split at hne
 case isFalse=>exact absurd rfl hne
 rename_i h;simp only[if_pos h];obtain⟨hfr,xs,x,hcl,hrep,hw⟩:=h;have hc0:clean (.agg xs)=.agg xs:=by rw[← hcl];exact(Ku a hfr).2
 obtain⟨r,⟨m0,hm⟩,a1,S1,rfl,hcop,_⟩:=copy_w2 hw xs hrep St0 (Ja1 _);have hm:=hm m0 (Ja1 _);rw[hc0]at hcop;have hS0:SR w.heap.size w ⟨fun _=>none,γ.im⟩ St0 w:=⟨.refl _ _,Ja1 _,fun b o h=>hS.imc b o h,fun _ _=>⟨rfl,rfl⟩,Ja1 _,fun _ _ _ h=>(by cases h),fun _ _ h=>(by cases h),fun _ _ _ _ _ _ _ h=>(by cases h)⟩
 have hv2:VRL ⟨fun _=>none,γ.im⟩ w [AV.agg xs] vs:=by
  have:=Yd (γ:=γ) (γ':=⟨fun _=>none,γ.im⟩) (fun _ _ h=>h) hv (by show(Bw a && true)=true;rw[hfr];rfl)
  rwa [show Be [a]=[AV.agg xs] from by rw[← hcl];rfl]at this
 have:=Kx Kr P7 (Gk Kr Ks) m0 w.heap.size w 69 [.agg xs] St0 (by show ckN E1 m0 69 _ St0≠_;rw[hm];intro e;cases e) _ w vs hS0 (bI hg) hv2 (by kernel_rfl)
 rw[show Rd E1 (Bb E1) m0 69 [.agg xs] St0=.ret a1 S1 from hm]at this
 refine this.mono fun e w' he=>?_
 obtain⟨γ',v,h1,h2,h3,rfl⟩:=he
 have hi:∀b o,(⟨fun _=>none,fun b o=>(γ'.im b o∨∃id cs s,S1.mem.get id=some (.box cs)∧γ'.loc id=some (b,s)∧o<cs.length)∧w.heap.size≤b⟩:Gh).im b o→w.heap.size≤b∧∃v,w'.cell? ⟨b,o,none⟩=some v:=fun b o ho=>⟨ho.2,by
  rcases ho.1 with ho | ⟨id,cs,s,hb,hl,hlt⟩
  ·exact h1.imc b o ho
  ·obtain⟨b',s',l1,l2,hs0,hni,hone,arr,T,x,y,ha,hx,hr⟩:=h1.live id _ hb
   rw[hl]at l1;injection l1 with l1;injection l1 with e1 e2
   subst e1;have hlt2:o<x.length:=by rw[hr.1];exact hlt
   exact⟨x[o],by rw[gL ha,← Array.getElem?_toList,hx,List.getElem?_append_left hlt2,Ja4 hlt2]⟩⟩
 obtain⟨q1,q2⟩:=hS.more h1.below hi
 have H:FzOk w.heap.size w γ' S1 w' (γ.more ⟨fun _=>none,fun b o=>(γ'.im b o∨∃id cs s,S1.mem.get id=some (.box cs)∧γ'.loc id=some (b,s)∧o<cs.length)∧w.heap.size≤b⟩):=⟨h1,fun b o ho=>by
  by_cases hlt:b<w.heap.size
  ·exact .inl ((h2.frame b hlt (fun id c s hm hl=>by cases hl)).2 o ho)
  ·exact .inr ⟨.inl ho,Nat.le_of_not_lt hlt⟩,fun id cs b s hb hl o ho=>.inr ⟨.inr ⟨id,cs,s,hb,hl,ho⟩,by
  obtain⟨b',s',l1,l2,_⟩:=h1.live id _ hb;rw[hl]at l1;injection l1 with l1;injection l1 with e1 e2
  subst e1;exact l2⟩⟩
 rw[hcl];exact⟨_,v,q1,q2,cop_deep H hcop h3,rfl⟩
def Nf(args:List AV)(S:St):R:=match args with
 | [.nils,.v (.string s)]=>.ret (.v (.bool false)) S
 |_=>Jm args S
theorem pP(s:ByteArray)(S:St):WC E1 55 [.nils,.v (.string s)] S (fun r=>r=.ret (.v (.bool false)) S):=by
 refine WCk Tryz.f55 ?_;obtain⟨fn1,hf1⟩:∃fn,E1.F 101=some fn:=Jc0.1 (by kernel_rfl)
 have xu39:Tryz.prog.underlying 39=some (.slice 9):=by kernel_rfl
 have xnn39:∀S,Eo Tryz.prog S 39 .nils=some 0:=fun S=>by simp[Eo,xu39]
 have h00:decide ((0:Int)<((0:Nat):Int))=false:=rfl;have h01:decide ((-1:Int) ≥ (0:Int))=false:=rfl;have h02:decide ((0:Int)≤(-1:Int))=false:=rfl;simp(disch:=omega)only[go_sem,reduceEqDiff,Tryz.f55,hf1];refine WCk Tryz.f101 ?_;simp(disch:=omega)only[go_sem,reduceEqDiff,Ff,Tryz.f101,xnn39];refine Bt (Bp ?_);simp(disch:=omega)only[go_sem,Nat.reduceLT,reduceEqDiff,Ff,h00,h01,ge_iff_le]
theorem zO(base:Nat)(w0:World)(args:List AV)(S:St)(hne:Nf args S≠.fail)(γ:Gh)(w:World)(vs:List Value)(hS:SR base w0 γ S w)(hg:GR γ w gR)(hv:VRL γ w args vs):Calls Tryz.prog 55 vs.toArray w (Kc base w0 γ S w (Nf args S)):=by
 unfold Nf at hne ⊢
 split at hne
 ·rename_i s
  obtain⟨r2,⟨m0,hm⟩,rfl⟩:=pP s S;have hc:=hm m0 (Ja1 _);have:=Kx Kr P7 (Gk Kr Ks) m0 base w0 55 [.nils,.v (.string s)] S (by show ckN E1 m0 55 _ S≠_;rw[hc];intro e;cases e) γ w vs hS hg hv (by kernel_rfl)
  rw[show Rd E1 (Bb E1) m0 55 [.nils,.v (.string s)] S=.ret (.v (.bool false)) S from hc]at this
  exact this
 ·exact Wc base w0 args S hne γ w vs hS hg hv
def rowMN(t:Nat):Nat:=Bool.rec (rowM t) 2 (Nat.beq t 55)
def knownN(k:Nat):Option (List AV→St→R):=Bool.rec (Bool.rec none (some aA) (Nat.beq k 69)) (some Nf) (Nat.beq k 55)
def EN:Env:={ P:=Tryz.prog,G:=gR,F:=E1.F,I:=knownN,M:=rowMN }
theorem en_ok:EN.Ok:=⟨fun k fn h=>Kr.fn k fn h⟩
theorem en_mix:EN.P.follows .mixedOrders=true:=Ks
theorem en_P:EN.P=Tryz.prog:=_root_.id rfl
theorem en_G:EN.G=gR:=_root_.id rfl
theorem en_F:EN.F=E1.F:=_root_.id rfl
theorem en_intr:G8 EN:=fun k g hk base w0 args S hne γ w vs hS hg hv=>by
 have hk2:(Bool.rec (Bool.rec none (some aA) (Nat.beq k 69)) (some Nf) (Nat.beq k 55):Option (List AV→St→R))=some g:=hk
 cases h55:Nat.beq k 55 with
 |true =>
  rw[h55]at hk2;injection hk2 with hk2;subst hk2
  have:k=55:=Jc1 h55;subst this;exact zO base w0 args S hne γ w vs hS hg hv
 |false =>
 rw[h55]at hk2
 cases h69:Nat.beq k 69 with
 |true =>
  rw[h69]at hk2;injection hk2 with hk2;subst hk2
  have:k=69:=Jc1 h69;subst this;exact copy_I base w0 args S hne γ w vs hS hg hv
 |false=>rw[h69]at hk2;cases hk2
abbrev KnN(k:FuncId)(args:List AV):Prop:=∃a,Kn2 Tryz.prog SpN k args a
theorem bodyN{k:FuncId}{args:List AV}(fn:Func)(hF:E1.F k=some fn)(hb:fn.body.isSome=true)(hl:args.length≤fn.ntmps)
  (h:W EN fn.ntmps (fn.body.getD .skip) ⟨Cx args 0,[]⟩ St0 (U6 EN fn.results.toList (fun r=>∃a S',r=.ret a S'∧Bw a=true∧SpN k args (clean a)))):KnN k args :=
 pureOf en_ok en_intr en_mix rfl fn hF hb hl h
attribute [go_sem] en_F en_G en_P
end Go.Ax
noncomputable section
namespace Go.Ax
open Go.RowKit Go.Proofs
open Classical
set_option maxRecDepth 100000
def EW:Env:={ P:=Tryz.prog,G:=gR,F:=E1.F,I:=E1.I,M:=rowMN }
theorem ew_ok:EW.Ok:=⟨fun k fn h=>Kr.fn k fn h⟩
theorem ew_mix:EW.P.follows .mixedOrders=true:=Ks
theorem ew_intr:G8 EW:=fun k g hk base w0 args S hne γ w vs hS hg hv=>P7 k g hk base w0 args S hne γ w vs hS hg hv
theorem memoX{m:Nat}{k:FuncId}{args:List AV}{a1:AV}{S1:St}(hst:Mn EW m k args St0=.ret a1 S1)(hf:Bw a1=true)(hF:(EW.F k).isSome=true){base:Nat}{w0:World}{γ:Gh}{S:St}{w:World}{vs:List Value}
  (hS:SR base w0 γ S w) (hg:GR γ w gR) (hv:∀γ:Gh,VRL γ w args vs):Calls Tryz.prog k vs.toArray w (Kc base w0 γ S w (.ret (clean a1) S)):=by
 have hS0:SR w.heap.size w ⟨fun _=>none,γ.im⟩ St0 w:=⟨.refl _ _,Ja1 _,fun b o h=>hS.imc b o h,fun _ _=>⟨rfl,rfl⟩,Ja1 _,fun _ _ _ h=>(by cases h),fun _ _ h=>(by cases h),fun _ _ _ _ _ _ _ h=>(by cases h)⟩
 have:=Rc ew_ok ew_intr ew_mix m w.heap.size w k args St0 (by rw[hst];intro e;cases e) _ w vs hS0 (bI hg) (hv _) hF
 rw[hst]at this;refine this.mono fun e w' he=>?_
 obtain⟨γ',v,h1,h2,h3,rfl⟩:=he;have hi:∀b o,(⟨fun _=>none,fun b o=>γ'.im b o∧w.heap.size≤b⟩:Gh).im b o→w.heap.size≤b∧∃v,w'.cell? ⟨b,o,none⟩=some v:=fun b o ho=>⟨ho.2,h1.imc b o ho.1⟩
 obtain⟨q1,q2⟩:=hS.more h1.below hi;refine⟨_,v,q1,q2,h3.clean (fun b o ho=>?_) hf,rfl⟩
 by_cases hlt:b<w.heap.size
 ·exact .inl ((h2.frame b hlt (fun id c s hm hl=>by cases hl)).2 o ho)
 ·exact .inr ⟨ho,Nat.le_of_not_lt hlt⟩
def isTrR(r:R):Bool:=match r with
 |.ret (.v (.bool b)) _=>b
 |_=>false
theorem isTrR_ok{r:R}(h:isTrR r=true):∃S',r=.ret (.v (.bool true)) S':=by
 unfold isTrR at h
 split at h
 ·rename_i b S'
  exact⟨S',by rw[h]⟩
 ·cases h
def awI(args:List AV)(S:St):R:=match args with
 | []=>.ret (.v (.bool true)) S
 |_=>.fail
theorem haw:isTrR (Mn EW 2000 11 [] St0)=true:=by kernel_rfl
theorem aw_I(base:Nat)(w0:World)(args:List AV)(S:St)(hne:awI args S≠.fail)(γ:Gh)(w:World)(vs:List Value)(hS:SR base w0 γ S w)(hg:GR γ w gR)(hv:VRL γ w args vs):Calls Tryz.prog 11 vs.toArray w (Kc base w0 γ S w (awI args S)):=by
 cases args with
 |cons a r=>exact absurd rfl hne
 |nil =>
  obtain⟨S',hst⟩:=isTrR_ok haw;have hvs:vs=[]:=by cases vs with |nil=>rfl |cons _ _=>exact absurd hv.1 (by simp)
  subst hvs;exact memoX hst rfl (by kernel_rfl) hS hg (fun γ=>⟨rfl,fun k h=>absurd h (Jb3 _)⟩)
end Go.Ax
noncomputable section
namespace Go.Ax
open Go.RowKit Go.Proofs
open Classical
set_option maxRecDepth 100000
theorem Dm.to{S S1:St}(h:Dm S S1){b:Nat}(hb:S.next≤b)(cs:List AV):Dm S (S1.to b cs):=Dj h hb cs
theorem Dm.nb{S S1:St}(h:Dm S S1)(cs:List AV):Dm S (S1.newBox cs):=h.trans (Ce _ _)
theorem Dm.rfl'(S:St):Dm S S:=⟨Ja1 _,fun _ _=>rfl⟩
theorem Te:∀{es:List AV} {l:List PN},NodeRows es l→∀(i:Nat) (h:i<es.length) (h2:i<l.length),Hg es[i] l[i]
 |_,_,.nil,i,h,_=>by cases h
 |_,_,.cons a q r l h h2,0,_,_=>h
 |_,_,.cons a q r l h h2,i+1,h3,h4=>Te h2 i (Nat.lt_of_succ_lt_succ h3) (Nat.lt_of_succ_lt_succ h4)
theorem Xd{v:AV}{nd:PN}(h:Hg v nd):∃a b c d,v=.agg [.v (.string ⟨⟨nd.name⟩⟩),.v (.int .i64 (nd.pos:Int)),a,b,c,d]:=by
 obtain⟨a,b,c,d,es,rfl,_⟩:=h;exact⟨a,b,c,d,rfl⟩
theorem len_eqs{d:AV}{es:List AV}(hd:(d=.nils∧es=[])∨∃tok,d=.sl tok 0 8 es)(S:St):Eo Tryz.prog S 36 d=some es.length:=by
 rcases hd with⟨rfl,rfl⟩ | ⟨tok,rfl⟩
 ·exact xnn36 S
 ·exact xn36 S _ _ _
theorem fR:∀{es:List AV} {l:List PQ},EqRows es l→∀(i:Nat) (h:i<es.length) (h2:i<l.length),U5 es[i] l[i]
 |_,_,.nil,i,h,_=>by cases h
 |_,_,.cons a q r l h h2,0,_,_=>h
 |_,_,.cons a q r l h h2,i+1,h3,h4=>fR h2 i (Nat.lt_of_succ_lt_succ h3) (Nat.lt_of_succ_lt_succ h4)
theorem yO{v:AV}{q:PQ}(h:U5 v q):∃lv x0 x1 x2 x3 x4 x5,v=.agg [lv,.v (.bool q.async),x0,x1,x2,x3,x4,x5]∧H8 2 Fg lv q.left∧RepE (.agg [x0,x1,x2,x3,x4,x5]) q.e:=by
 obtain⟨lv,xs,rfl,h1,h2,h3⟩:=h
 match xs,h2 with
 | [x0,x1,x2,x3,x4,x5],_=>exact⟨lv,x0,x1,x2,x3,x4,x5,rfl,h1,h3⟩
mutual
def scV:AV→Bool
 |.v x=>Yg x
 |.sl _ _ _ es=>scL es
 |.agg cs=>scL cs
 |.tup cs=>scL cs
 |.nils=>true
 |.nilp=>true
 |.nilm=>true
 |.map _=>true
 |.ptr _ _=>true
 |.bs _ _ _ _=>true
 |_=>false
def scL:List AV→Bool
 | []=>true
 |a :: r=>scV a && scL r
end
mutual
theorem X4:∀(a:AV),scV a=true→D1 a a=true
 |.v x,h=>by rw[scV]at h;rw[D1];exact eqS_refl h
 |.sl a b c es,h=>by rw[scV]at h;rw[D1,bP es h];simp
 |.agg cs,h=>by rw[scV]at h;rw[D1];exact bP cs h
 |.tup cs,h=>by rw[scV]at h;rw[D1];exact bP cs h
 |.nils,h=>by rw[D1]
 |.nilp,h=>by rw[D1]
 |.nilm,h=>by rw[D1]
 |.map _,h=>by rw[D1];simp
 |.ptr _ _,h=>by rw[D1];simp
 |.bs _ _ _ _,h=>by rw[D1];simp
 |.ep _,h=>by simp[scV]at h
 |.fn _ _ _,h=>by simp[scV]at h
 |.iface _ _,h=>by simp[scV]at h
theorem bP:∀(l:List AV),scL l=true→Gm l l=true
 | [],h=>by rw[Gm]
 |a :: r,h=>by
  rw[scL,Ja2]at h;rw[Gm,X4 a h.1,bP r h.2];rfl
end
mutual
theorem repE_sc:∀{a:AV} {e:PE},RepE a e→scV a=true
 |_,_,.mk k p n s o kv kids h=>by
  show(true && (true && (true && (true && (true && (scV kv && true))))))=true
  rw[repK_sc h];rfl
theorem repK_sc:∀{a:AV} {e:List PE},RepK a e→scV a=true
 |_,_,.nil=>rfl
 |_,_,.row tok off es kids h=>by rw[scV];exact repF_sc h
theorem repF_sc:∀{a:List AV} {e:List PE},RepF a e→scL a=true
 |_,_,.nil=>rfl
 |_,_,.cons a e r l h h2=>by rw[scL,repE_sc h,repF_sc h2];rfl
end
theorem map_sc{α:Type}{A:α→AV}(hA:∀x,scV (A x)=true):∀l:List α,scL (l.map A)=true
 | []=>rfl
 |x :: r=>by rw[Jc2,scL,hA x,map_sc hA r];rfl
theorem nN{α:Type}{sz:Nat}{A:α→AV}(hA:∀x,scV (A x)=true){v:AV}{l:List α}(h:H8 sz A v l):scV v=true:=by
 rcases h with⟨rfl,_⟩ | ⟨tok,off,rfl⟩
 ·rfl
 ·rw[scV];exact map_sc hA l
theorem isEq_sc{v:AV}{q:PQ}(h:U5 v q):scV v=true:=by
 obtain⟨lv,xs,rfl,h1,h2,h3⟩:=h;have:=repE_sc h3;rw[scV]at this
 show(scV lv && (true && scL xs))=true
 rw[nN (fun _=>rfl) h1,this];rfl
theorem lP:∀{es:List AV} {l:List PQ},EqRows es l→scL es=true
 |_,_,.nil=>rfl
 |_,_,.cons a q r l h h2=>by rw[scL,isEq_sc h,lP h2];rfl
theorem kZ{v:AV}{nd:PN}(h:Hg v nd):scV v=true:=by
 obtain⟨a,b,c,d,es,rfl,h1,h2,h3,h4,h5⟩:=h
 have hd:scV d=true:=by
  rcases h4 with⟨rfl,_⟩ | ⟨tok,rfl⟩
  ·rfl
  ·rw[scV];exact lP h5
 show(true && (true && (scV a && (scV b && (scV c && (scV d && true))))))=true
 rw[nN (fun _=>rfl) h1,nN (fun _=>rfl) h2,nN (fun _=>rfl) h3,hd];rfl
theorem row39_ln(ws:List (List UInt8))(S:St):Eo Tryz.prog S 39 (iG ws)=some ws.length:=by
 cases ws with
 |nil=>simp[iG,Eo,yuS]
 |cons w r=>simp[iG,Eo,yuS]
theorem row39_ix(ws:List (List UInt8))(i:Nat)(h:i<ws.length):Bh Tryz.prog 39 (iG ws) (.v (.int .i64 (i:Int)))=some (.ep [.v (.string ⟨⟨ws[i]⟩⟩)]):=by
 have h0:(0:Int)≤(i:Int):=by omega
 cases ws with
 |nil=>cases h
 |cons w r =>
  have hl:i<((w :: r).map A2).length:=by rw[Ja9];exact h
  have e:((w :: r).map A2)[i]=.v (.string ⟨⟨(w :: r)[i]⟩⟩):=by rw[List.getElem_map];rfl
  have e2:((w :: r).map A2)[i]? = some (.v (.string ⟨⟨(w :: r)[i]⟩⟩)):=by rw[Ja4 hl,e]
  have e3:(A2 w :: r.map A2)[i]? = some (.v (.string ⟨⟨(w :: r)[i]⟩⟩)):=e2;unfold iG;simp[Bh,h0,yeS,xz9,e3,AV.cells]
end Go.Ax
noncomputable section
namespace Go.Ax
open Go.RowKit Go.Proofs
open Classical
set_option maxRecDepth 100000
end Go.Ax
