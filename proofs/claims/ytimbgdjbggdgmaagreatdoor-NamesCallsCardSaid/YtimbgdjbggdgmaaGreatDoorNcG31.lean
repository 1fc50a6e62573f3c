/- ZeN -/
import Derived.Test.YtimbgdjbggdgmaaGreatDoorNcG30
import Derived.Test.YtimbgdjbggdgmaaGreatDoorNcG19
import Derived.Test.YtimbgdjbggdgmaaGreatDoorNcG27
set_option linter.unusedVariables false
set_option linter.unusedSimpArgs false
set_option maxHeartbeats 16000000
noncomputable section
open Nat (reduceEqDiff)
namespace Go.Ax
open Go.RowKit Go.Proofs
open Classical
set_option maxRecDepth 100000
theorem xg45:B9 Tryz.prog 45=some true:=by kernel_rfl
theorem xz45:Cl Tryz.prog 45=some 6:=by kernel_rfl
theorem xle45(S:St)(cs:List AV):A8 Tryz.prog S 45 (.ep cs)=if 6≤cs.length then some (.agg (cs.take 6))else none:=Pz xg45 xz45 S cs
theorem xe24:Fs Tryz.prog 24=some (none,45):=by kernel_rfl
theorem xx24(tok off:Nat)(es:List AV)(i:Nat)(h:i<es.length):Bh Tryz.prog 24 (.sl tok off 6 es) (.v (.int .i64 (i:Int)))=some (.ep es[i].cells):=by
 have h0:(0:Int)≤(i:Int):=by omega
 simp[Bh,h0,xe24,xz45,h]
theorem row39b_ln(ws:List (List UInt8))(S:St):Eo Tryz.prog S 39 (.sl 0 0 1 (ws.map A2))=some ws.length:=by simp[Eo,yuS]
theorem row39b_ix(ws:List (List UInt8))(i:Nat)(h:i<ws.length):Bh Tryz.prog 39 (.sl 0 0 1 (ws.map A2)) (.v (.int .i64 (i:Int)))=some (.ep [.v (.string ⟨⟨ws[i]⟩⟩)]):=by
 have h0:(0:Int)≤(i:Int):=by omega
 have hl:i<(ws.map A2).length:=by rw[Ja9];exact h
 have e:(ws.map A2)[i]=.v (.string ⟨⟨ws[i]⟩⟩):=by rw[List.getElem_map];rfl
 have e2:(ws.map A2)[i]? = some (.v (.string ⟨⟨ws[i]⟩⟩)):=by rw[Ja4 hl,e]
 simp[Bh,h0,yeS,xz9,e2,AV.cells]
def ncB:Code:=match Tryz.f4.body with
 |some (.seq _ (.seq _ (.seq _ (.seq _ (.seq (.seq _ (.block _ (.loop b))) _)))))=>b
 |_=>.skip
def ncC:Code:=match ncB with
 |.seq _ (.seq _ (.seq (.block _ (.seq _ (.seq _ (.seq _ (.seq _ (.block _ (.loop c))))))) _))=>c
 |_=>.skip
theorem ncC_lp{A B:AV}{ws:List (List UInt8)}(hws:ws.length≤2000000)(hA:∀i (h:i<ws.length),Bh Tryz.prog 39 A (.v (.int .i64 (i:Int)))=some (.ep [.v (.string ⟨⟨ws[i]⟩⟩)]))(hB:∀i (h:i<ws.length),Bh Tryz.prog 39 B (.v (.int .i64 (i:Int)))=some (.ep [.v (.string ⟨⟨ws[i]⟩⟩)]))(S:St)(v4 v21 v22 v23:AV):∀(n j:Nat) (t:T AV),j+n=ws.length→t.get 8=some A→t.get 9=some B→t.get 41=some (.v (.int .i64 (ws.length:Int)))→t.get 42=some (.v (.int .i64 (j:Int)))→t.get 4=some v4→t.get 21=some v21→t.get 22=some v22→t.get 23=some v23 →
  WX EL 56 (.loop ncC) ⟨t,[]⟩ S (fun r=>∃t',r=.out (.exit 2) ⟨t',[]⟩ S∧t'.get 4=some v4∧t'.get 21=some v21∧t'.get 22=some v22∧t'.get 23=some v23)
 |0,j,t,hj,T8,T9,T41,T42,T4,T21,T22,T23=>by
  refine Bt (Bp ?_);have hlt:decide ((j:Int)<(ws.length:Int))=false:=by rw[decide_eq_false];omega
  simp(disch:=omega)only[go_sem,reduceEqDiff,ncC,ncB,Tryz.f4,T41,T42,hlt];refine⟨_,rfl,?_,?_,?_,?_⟩
  ·simp only[A0,reduceEqDiff,Ab,T4]
  ·simp only[A0,reduceEqDiff,Ab,T21]
  ·simp only[A0,reduceEqDiff,Ab,T22]
  ·simp only[A0,reduceEqDiff,Ab,T23]
 |n+1,j,t,hj,T8,T9,T41,T42,T4,T21,T22,T23=>by
  refine Bt (Bp ?_);have hlt:decide ((j:Int)<(ws.length:Int))=true:=by rw[decide_eq_true_eq];omega
  have hw:=Fl j (by omega)
  have hA1:=hA j (by omega)
  have hB1:=hB j (by omega)
  simp(disch:=omega)only[go_sem,reduceEqDiff,ncC,ncB,Tryz.f4,T41,T42,hlt];refine Dd [(0,true),(1,true),(2,true),(3,true),(4,true),(5,true),(6,true),(7,true),(8,true)] (by kernel_rfl) (by kernel_rfl) ?_
  simp(disch:=omega)only[go_sem,reduceEqDiff,T8,T9,T42,hA1,hB1,hw];refine ncC_lp hws hA hB S v4 v21 v22 v23 n (j+1) _ (by omega) ?_ ?_ ?_ ?_ ?_ ?_ ?_ ?_
  ·simp only[A0,reduceEqDiff,Ab,T8]
  ·simp only[A0,reduceEqDiff,Ab,T9]
  ·simp only[A0,reduceEqDiff,Ab,T41]
  ·simp only[A0,reduceEqDiff,Aa,Ab]
  ·simp only[A0,reduceEqDiff,Ab,T4]
  ·simp only[A0,reduceEqDiff,Ab,T21]
  ·simp only[A0,reduceEqDiff,Ab,T22]
  ·simp only[A0,reduceEqDiff,Ab,T23]
theorem lG:∀(l:List PQ) (acc:List (List UInt8)),(l.foldl Ps acc).length≤acc.length+U3 l
 | [],acc=>Ja1 _
 |q :: r,acc=>by
  have:=lG r (Ps acc q);have h2:=Q5 (flE q.e) acc;rw[P6]at h2;have h2:(Ps acc q).length≤acc.length+Cp q.e:=h2;rw[List.foldl_cons,U3];omega
theorem zQ(nd:PN):(Hi nd).length≤Og nd.eqs:=by
 have h2:(Hi nd).length≤0+U3 nd.eqs:=lG nd.eqs [];have:=aP nd.eqs;omega
theorem nF:∀ws:List (List UInt8),scL (ws.map A2)=true
 | []=>rfl
 |w :: r=>by rw[Jc2,scL,nF r];rfl
theorem rowS_sc(ws:List (List UInt8)):scV (iG ws)=true:=by
 cases ws with
 |nil=>rfl
 |cons w r=>exact nF (w :: r)
theorem ncB_lp{tok1 tok2 off1 off2:Nat}{es1 es2:List AV}{l:List PN}(h1:NodeRows es1 l)(h2:NodeRows es2 l)(hz:szP l≤3000):∀(n j:Nat) (t:T AV) (S:St),j+n=l.length→t.get 4=some (.sl tok2 off2 6 es2)→t.get 21=some (.sl tok1 off1 6 es1)→t.get 22=some (.v (.int .i64 (l.length:Int)))→t.get 23=some (.v (.int .i64 (j:Int))) →
  WX EL 56 (.loop ncB) ⟨t,[]⟩ S (fun r=>∃t' S',r=.out (.exit 0) ⟨t',[]⟩ S')
 |0,j,t,S,hj,T4,T21,T22,T23=>by
  refine Bt (Bp ?_);have hlt:decide ((j:Int)<(l.length:Int))=false:=by rw[decide_eq_false];omega
  simp(disch:=omega)only[go_sem,reduceEqDiff,ncB,Tryz.f4,T21,T22,T23,hlt];exact⟨_,_,rfl⟩
 |n+1,j,t,S,hj,T4,T21,T22,T23=>by
  refine Bt (Bp ?_);have e1:=h1.len;have e2:=h2.len;have hlp:=szP_len l;have hlt:decide ((j:Int)<(l.length:Int))=true:=by rw[decide_eq_true_eq];omega
  have hw:=Fl j (by omega)
  have hj1:j<es1.length:=by omega
  have hj2:j<es2.length:=by omega
  have hjl:j<l.length:=by omega
  have hx1:=xx23 tok1 off1 es1 j hj1;have hx2:=xx24 tok2 off2 es2 j hj2;have n1:=Te h1 j hj1 hjl;have n2:=Te h2 j hj2 hjl;have hzn:=szP_mem (List.getElem_mem hjl);generalize es1[j]=x at hx1 n1;generalize es2[j]=y at hx2 n2;generalize l[j]=nd at n1 n2 hzn;have m1:=n1;have m2:=n2;obtain⟨a1,a2,a3,a4,rfl⟩:=Xd n1;obtain⟨b1,b2,b3,b4,rfl⟩:=Xd n2;have q1:=X4 _ (kZ m1);have q2:=X4 _ (kZ m2);simp only[L7]at hx1 hx2;obtain⟨fn1,hf1⟩:=fX 15;obtain⟨fn2,hf2⟩:=fX 16;have hsq:=aP nd.eqs;have hsz:Og nd.eqs≤3000:=by unfold szN at hzn;omega
  have hwl:(Hi nd).length≤2000000:=by
   have:=zQ nd;omega
  simp(disch:=omega)only[go_sem,Nat.reduceAdd,reduceEqDiff,Nat.reduceLeDiff,ncB,Tryz.f4,T21,T22,T23,hlt,hx1];refine Dd [(0,true),(2,true),(3,true),(4,true),(5,true),(1,true),(5,false),(6,true),(7,true),(8,true)] (by kernel_rfl) (by kernel_rfl) ?_
  simp(disch:=omega)only[go_sem,Nat.reduceAdd,reduceEqDiff,Nat.reduceLeDiff,T4,hx2,hf1,xle45];refine L_calls m1 (by omega) _ _ ?_
  simp(disch:=omega)only[go_sem,Nat.reduceAdd,reduceEqDiff,Nat.reduceLeDiff,hf2,xle45,q2];refine il_calls _ nd m2 (by omega) _ _ ?_
  generalize hws:Hi nd=ws at hwl;have hA:=row39_ix ws;have hB:=row39b_ix ws;have lA:=row39_ln ws;have lB:=row39b_ln ws;have sA:=rowS_sc ws;have sB:scV (.sl 0 0 1 (ws.map A2))=true:=nF ws;generalize iG ws=A at hA lA sA;generalize AV.sl 0 0 1 (ws.map A2)=B at hB lB sB ⊢;have hne:((ws.length:Int) != (ws.length:Int))=false:=by simp
  have qA:D1 A A=true:=X4 _ sA;have qB:D1 B B=true:=X4 _ sB;have key:=fun v4 v21 v22 v23 t S=>ncC_lp hwl hA hB S v4 v21 v22 v23 ws.length 0 t (by omega)
  unfold ncC ncB at key;simp only[Tryz.f4]at key;simp(disch:=omega)only[go_sem,reduceEqDiff,lA,lB,hne];refine WX.mono (key (.sl tok2 off2 6 es2) (.sl tok1 off1 6 es1) (.v (.int .i64 (l.length:Int))) (.v (.int .i64 (j:Int))) _ _ ?_ ?_ ?_ ?_ ?_ ?_ ?_ ?_) ?_
  ·simp only[A0,reduceEqDiff,Aa,Ab]
  ·simp only[A0,reduceEqDiff,Aa,Ab]
  ·simp only[A0,reduceEqDiff,Aa,Ab]
  ·simp only[A0,reduceEqDiff,Aa,Ab];rfl
  ·simp only[A0,reduceEqDiff,Ab,T4]
  ·simp only[A0,reduceEqDiff,Ab,T21]
  ·simp only[A0,reduceEqDiff,Ab,T22]
  ·simp only[A0,reduceEqDiff,Ab,T23]
  rintro _ ⟨t',rfl,T4',T21',T22',T23'⟩;simp(disch:=omega)only[go_sem,Nat.reduceLT,reduceEqDiff,T23',hw];refine ncB_lp (tok1:=tok1) (tok2:=tok2) (off1:=off1) (off2:=off2) h1 h2 hz n (j+1) _ _ (by omega) ?_ ?_ ?_ ?_
  ·simp only[A0,reduceEqDiff,Ab,T4']
  ·simp only[A0,reduceEqDiff,Ab,T21']
  ·simp only[A0,reduceEqDiff,Ab,T22']
  ·simp only[A0,reduceEqDiff,Aa,Ab]
end Go.Ax
noncomputable section
namespace Go.Ax
open Go.RowKit Go.Proofs
open Classical
set_option maxRecDepth 100000
theorem calls_law(l:List UInt8)(S:St):WC EL 4 [.v (.string ⟨⟨l⟩⟩)] S (fun r=>∃S',r=.ret (.v (.bool true)) S'):=by
 refine WCk Tryz.f4 ?_;obtain⟨fn1,hf1⟩:=fX 11;obtain⟨fn2,hf2⟩:=fX 12;simp(disch:=omega)only[go_sem,Tryz.f4,hf1];refine WC.mono (awake_w S) ?_;rintro _ rfl;generalize S=S1;simp(disch:=omega)only[go_sem,reduceEqDiff,hf2];refine WC.mono (read_w l 3000 (by omega) S1) ?_
 rintro _ ⟨v1,v2,ok,S2,rfl,hn,hm,hok⟩
 cases ok with
 |false =>
  simp(disch:=omega)only[go_sem,reduceEqDiff];exact⟨_,rfl⟩
 |true =>
  obtain⟨ts,nodes,hlx,hv1,hv2,hz⟩:=hok rfl;have hz:szP nodes≤3000:=by rw[Jd0]at hz;omega
  obtain⟨tok1,off1,es1,rfl,h1⟩:=hv1;obtain⟨tok2,off2,es2,rfl,h2⟩:=hv2;have hl:=h1.len;have key:=fun t S=>ncB_lp (tok1:=tok1) (tok2:=tok2) (off1:=off1) (off2:=off2) h1 h2 hz nodes.length 0 t S (by omega)
  unfold ncB at key;simp only[Tryz.f4]at key;rw[← hl]at key;simp(disch:=omega)only[go_sem,reduceEqDiff];refine WX.mono (key _ _ ?_ ?_ ?_ ?_) ?_
  ·simp only[A0,reduceEqDiff,Aa,Ab]
  ·simp only[A0,reduceEqDiff,Aa,Ab]
  ·simp only[A0,reduceEqDiff,Aa,Ab]
  ·simp only[A0,reduceEqDiff,Aa,Ab];rfl
  rintro _ ⟨t',S',rfl⟩;simp(disch:=omega)only[go_sem];exact⟨_,rfl⟩
end Go.Ax
noncomputable section
namespace Go.Ax
open Go.RowKit Go.Proofs
open Classical
set_option maxRecDepth 100000
theorem u9p:Tryz.prog.underlying 9=some .string:=by kernel_rfl
theorem calls_any(s0:ByteArray)(w:World)(hs0:s0.size≤9223372036854775807)(hr:RngIn w):Calls Tryz.prog 4 #[.string s0] w fun x w'=>x=.returned (.bool true)∧Below w.heap.size w w':=by
 obtain⟨r,⟨m0,hm⟩,S1,rfl⟩:=calls_law s0.data.toList St0;have hm:=hm m0 (Ja1 _)
 have:=Kx el_ok el_intr (Gk el_ok el_mix) m0 w.heap.size w 4 [.v (.string ⟨⟨s0.data.toList⟩⟩)] St0 (by show ckN EL m0 4 _ St0≠_;rw[hm];intro e;cases e) (GhW w) w [.string s0] (SR.whole w) hr.gr ⟨rfl,fun k h1 h2=>by
  match k,h1 with
  |0,_=>exact .v _ rfl⟩ (by kernel_rfl)
 rw[show Rd EL (Bb EL) m0 4 [.v (.string ⟨⟨s0.data.toList⟩⟩)] St0=.ret (.v (.bool true)) S1 from hm]at this
 refine this.mono fun e w' he=>?_
 obtain⟨γ',v,h1,h2,h3,rfl⟩:=he;cases h3;exact⟨rfl,h1.below⟩
end Go.Ax
