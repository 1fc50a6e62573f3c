/- ZyT -/
import Derived.Test.YtimbgdjbggdgmaaGreatDoorNcG20
import Derived.Test.YtimbgdjbggdgmaaGreatDoorNcG19
import Derived.Test.YtimbgdjbggdgmaaGreatDoorNcG18
set_option linter.unusedVariables false
set_option linter.unusedSimpArgs false
set_option maxHeartbeats 16000000
noncomputable section
open Nat (reduceAdd reduceEqDiff reduceLeDiff)
namespace Go.Ax
open Go.RowKit Go.Proofs
set_option maxRecDepth 100000
theorem Xi(n c:List UInt8)(p:Int)(b f o:Bool):Gd [A2 n,.v (.int .i64 p),.v (.bool b),.v (.bool f),A2 c,.v (.bool o)]:=⟨rfl,by simp only[Jn,Nk,Pt,Oo,A2,Nj,Bool.and_self],by simp only[Be,clean,Jn,Nk,Pt,Oo,A2,Nj,Bool.and_self]⟩
theorem Xm{ts:List Tk}{i:Nat}{e p:Int}(S':St)(j:Nat)(e1 p1:Int)(nm cl:List UInt8)(at_:Nat)(bl fu of_:Bool)(hj:j<ts.length)(hij:i≤j)(hh:e1=0→e=0∧El ts i=.ok ⟨nm,at_,bl,fu,cl,of_⟩ j∧i<j):
  ∃a S'',R.ret (.tup [stA ts j e1 p1,.agg [A2 nm,.v (.int .i64 (at_:Int)),.v (.bool bl),.v (.bool fu),A2 cl,.v (.bool of_)]]) S' = R.ret a S''∧Bw a=true∧Fv ts 119 [stA ts i e p] (clean a):=by
 have g:=Xi nm cl (at_:Int) bl fu of_
 obtain⟨q1,q2⟩:=Y5 (i:=i) (e:=e) (p:=p) (ok:=fun v j=>∃d,v=D7 d∧El ts i=.ok d j∧i<j) j e1 p1 _ _ _ _ _ _ rfl hj hij g.1 g.2.2 (fun h=>by
  obtain⟨h1,h2,h3⟩:=hh h
  exact⟨h1,_,rfl,h2,h3⟩)
 refine⟨_,_,rfl,q1,?_⟩;intro i' e' p' h hi;obtain⟨rfl,rfl,rfl⟩:=Mb (Cy h).1;exact q2
theorem vP{ts:List Tk}{i:Nat}(h1:(tk ts i).kind=1)(h2:(tk ts (i+1)).text∈[[58]])(hf:(tk ts (i+2)).text ∉ [[102,117,116,117,114,101]])(h3:(tk ts (i+2)).text=[105,110,116]∨(tk ts (i+2)).text=[98,111,111,108]):El ts i=.ok ⟨(tk ts i).text,(tk ts i).pos,decide ((tk ts (i+2)).text=[98,111,111,108]),false,[],false⟩ (i+3):=by
 unfold El;rw[Ji h1,Cj,Ek h2,Cj,if_neg hf,Ek (by rcases h3 with h |h <;> rw[h] <;> simp),Cj]
theorem vQ{ts:List Tk}{i:Nat}(h1:(tk ts i).kind=1)(h2:(tk ts (i+1)).text∈[[58]])(hf:(tk ts (i+2)).text∈[[102,117,116,117,114,101]])(h3:(tk ts (i+3)).text=[105,110,116]∨(tk ts (i+3)).text=[98,111,111,108]):El ts i=.ok ⟨(tk ts i).text,(tk ts i).pos,decide ((tk ts (i+3)).text=[98,111,111,108]),true,[],false⟩ (i+4):=by
 unfold El;rw[Ji h1,Cj,Ek h2,Cj,if_pos hf,Ek (by rcases h3 with h |h <;> rw[h] <;> simp),Cj]
theorem decl_k{ts:List Tk}(ht:Tok3 ts)(i:Nat)(e p:Int)(hi:i<ts.length):Kn3 ts 119 [stA ts i e p]:=by
 refine Jq Tryz.f119 (by kernel_rfl) (by kernel_rfl) (by show(_:Nat)≤_;simp[Tryz.f119]) ?_
 have hsz:=ht.size;obtain⟨fn1,hf1⟩:=fX 118;obtain⟨fn2,hf2⟩:=fX 115;obtain⟨fn3,hf3⟩:=fX 116;simp(disch:=omega)only[go_sem,reduceAdd,reduceEqDiff,reduceLeDiff,Tryz.f119,stA,stL,A2,hf3,Bool.and_self];refine J0 ht hi fun j e1 p1 nm at_ hj hij h1=>?_
 simp(disch:=omega)only[go_sem,reduceAdd,reduceEqDiff,reduceLeDiff,stA,stL,A2,hf2,Bool.and_self];refine Di (w:=[58]) ht hj fun m e2 p2 hm hjm h2=>?_
 simp(disch:=omega)only[go_sem,reduceAdd,reduceEqDiff,reduceLeDiff,stA,stL,hf1,Bool.and_self];refine Ey (w:=[102,117,116,117,114,101]) hm ?_
 cases hb:isB ts m e2 [102,117,116,117,114,101]with
 |true =>
  obtain⟨rfl,hwf⟩:=Dy hb;obtain⟨z1,hwc,rfl⟩:=h2 rfl;obtain⟨rfl,hk1,rfl,rfl,rfl⟩:=h1 z1;have hn2:=hwf.next ht hm;have hw2:=Fl (i+1+1) (by omega)
  simp(disch:=omega)only[go_sem,reduceAdd,reduceEqDiff,reduceLeDiff,hf1,hw2];refine Ey (w:=[98,111,111,108]) hn2 ?_
  cases hb2:isB ts (i+1+1+1) 0 [98,111,111,108]with
  |true =>
   have hzz:True:=trivial;have hwb:=(Dy hb2).2;have hn3:=hwb.next ht hn2;have hw3:=Fl ((i+1+1+1)) (by omega)
   simp(disch:=omega)only[go_sem,reduceAdd,reduceEqDiff,reduceLeDiff,hw3];refine Dd [(0,true),(1,true),(2,true),(1,false),(3,true)] (by kernel_rfl) (by kernel_rfl) ?_
   simp(disch:=omega)only[go_sem,reduceAdd,reduceEqDiff,reduceLeDiff,Bool.and_self];refine Xm _ ((i+1+1+1)+1) 0 p2 (tk ts i).text [] (tk ts i).pos true true false hn3 (by omega) (fun _=>?_)
   have hzz:True:=trivial;have:=vQ hk1 (by rw[hwc.2];simp) (by rw[hwf.2];simp) (.inr hwb.2)
   rw[hwb.2]at this;exact⟨rfl,this,by omega⟩
  |false =>
   simp(disch:=omega)only[go_sem,reduceAdd,reduceEqDiff,reduceLeDiff];refine Dd [(0,true),(2,true),(1,true),(2,false),(3,true),(2,false),(4,true)] (by kernel_rfl) (by kernel_rfl) ?_
   simp(disch:=omega)only[go_sem,Nat.reduceLT,reduceAdd,reduceEqDiff,reduceLeDiff,hf2];refine Di (w:=[105,110,116]) ht hn2 fun q e3 p3 hq hjq h3=>?_
   simp(disch:=omega)only[go_sem,reduceAdd,reduceEqDiff,reduceLeDiff,stA,stL,Bool.and_self];refine Xm _ q e3 p3 (tk ts i).text [] (tk ts i).pos false true false hq (by omega) (fun h=>?_)
   obtain⟨z,hwi,rfl⟩:=h3 h;have hzz:True:=trivial;have:=vQ hk1 (by rw[hwc.2];simp) (by rw[hwf.2];simp) (.inl hwi.2)
   rw[hwi.2]at this;exact⟨rfl,this,by omega⟩
 |false =>
  simp(disch:=omega)only[go_sem,reduceAdd,reduceEqDiff,reduceLeDiff,hf1];refine Ey (w:=[98,111,111,108]) hm ?_
  cases hb2:isB ts m e2 [98,111,111,108]with
  |true =>
   obtain⟨rfl,_⟩:=Dy hb2;have hwb:=(Dy hb2).2;have hn3:=hwb.next ht hm;have hw3:=Fl (m) (by omega)
   simp(disch:=omega)only[go_sem,reduceAdd,reduceEqDiff,reduceLeDiff,hw3];refine Dd [(0,true),(1,true),(2,true),(1,false),(3,true)] (by kernel_rfl) (by kernel_rfl) ?_
   simp(disch:=omega)only[go_sem,reduceAdd,reduceEqDiff,reduceLeDiff,Bool.and_self];refine Xm _ (m+1) 0 p2 nm [] at_ true false false hn3 (by omega) (fun _=>?_)
   obtain⟨z1,hwc,rfl⟩:=h2 rfl;obtain⟨rfl,hk1,rfl,rfl,rfl⟩:=h1 z1;have hno:=G6 ht hm hb (by decide)
   have:=vP hk1 (by rw[hwc.2];simp) (fun h=>hno (Jb5.1 h)) (.inr hwb.2)
   rw[hwb.2]at this;exact⟨rfl,this,by omega⟩
  |false =>
   simp(disch:=omega)only[go_sem,reduceAdd,reduceEqDiff,reduceLeDiff];refine Dd [(0,true),(2,true),(1,true),(2,false),(3,true),(2,false),(4,true)] (by kernel_rfl) (by kernel_rfl) ?_
   simp(disch:=omega)only[go_sem,Nat.reduceLT,reduceAdd,reduceEqDiff,reduceLeDiff,hf2];refine Di (w:=[105,110,116]) ht hm fun q e3 p3 hq hjq h3=>?_
   simp(disch:=omega)only[go_sem,reduceAdd,reduceEqDiff,reduceLeDiff,stA,stL,Bool.and_self];refine Xm _ q e3 p3 nm [] at_ false false false hq (by omega) (fun h=>?_)
   obtain⟨z,hwi,rfl⟩:=h3 h;subst z;obtain⟨z1,hwc,rfl⟩:=h2 rfl;obtain⟨rfl,hk1,rfl,rfl,rfl⟩:=h1 z1;have hno:=G6 ht hm hb (by decide)
   have:=vP hk1 (by rw[hwc.2];simp) (fun h=>hno (Jb5.1 h)) (.inl hwi.2)
   rw[hwi.2]at this;exact⟨rfl,this,by omega⟩
theorem cA{ts:List Tk}(ht:Tok3 ts){S:St}{Q:R→Prop}{i:Nat}{e p:Int}(hi:i<ts.length)
  (h:∀(j:Nat) (e' p':Int) (x0 x1 x2 x3 x4 x5:AV),j<ts.length→i≤j→Gd [x0,x1,x2,x3,x4,x5]→(e' = 0→e=0∧∃d,.agg [x0,x1,x2,x3,x4,x5]=D7 d∧El ts i=.ok d j∧i<j)→Q (.ret (.tup [stA ts j e' p',.agg [x0,x1,x2,x3,x4,x5]]) S)):WC (E3 ts) 119 [stA ts i e p] S Q :=
 aO (i:=i) (e:=e) (ok:=fun v j=>∃d,v=D7 d∧El ts i=.ok d j∧i<j) (decl_k ht i e p hi) (by kernel_rfl) (fD _ _ _ _) (Wd _ _ _ _) (fun a ha=>ha i e p rfl hi) fun j e' p' x0 x1 x2 x3 x4 x5 q1 q2 q3 q4 q5 q6=>h j e' p' x0 x1 x2 x3 x4 x5 q1 q2 (Vk q3 q4 q5) q6
def dsLB:Code:=match Tryz.f117.body with
 |some (.seq _ (.seq _ (.seq _ (.seq _ (.seq (.block _ (.loop c)) _)))))=>c
 |_=>.skip
def mN(ts:List Tk)(l:List PD)(i:Nat)(r:List PD)(j:Nat):Prop:=(∃n,∀m,n≤m→Ft ts (El ts) m l i=.ok r j)∧i<j
theorem xM{ts:List Tk}{l:List PD}{i:Nat}(hn:(tk ts i).text ∉ [[44]])(h0:(tk ts i).text∈[[41]]):mN ts l i l (i+1):=by
 refine⟨⟨1,fun m hm=>?_⟩,Ja5 _⟩
 obtain⟨q,rfl,hq⟩:=Fw (n:=0) hm;simp only[Ft,if_neg hn,Ek h0,Cj]
theorem restD_go{ts:List Tk}{l r:List PD}{y:PD}{i j m:Nat}(h0:(tk ts i).text∈[[44]])(h1:El ts (i+1)=.ok y j)(hij:i+1<j)(h2:mN ts (l ++ [y]) j r m):mN ts l i r m:=by
 obtain⟨⟨n,hn⟩,hl⟩:=h2;refine⟨⟨n+1,fun m hm=>?_⟩,by omega⟩
 obtain⟨q,rfl,hq⟩:=Fw hm;simp only[Ft,if_pos h0,h1,Cj,hn q hq]
structure AtD(ts:List Tk)(j:Nat)(e1 p1:Int)(tok:Nat)(es:List AV)(t:T AV)(S:St):Prop where
 t1:t.get 1=some (.ptr 2 0)
 t2:t.get 2=some (.ptr 3 0)
 t4:t.get 4=some (.sl tok 0 6 es)
 m2:S.mem.get 2=some (.box (stL ts j e1 p1))
 m3:S.mem.get 3=some (.box [.nils,.v (.int .i64 0),.v (.int .i64 0),.v (.int .i64 0)])
 nx:4≤S.next
 ro:Ka 6 S tok es
 nt:tok≠2∧tok≠3
def DsEnd(ts:List Tk)(i:Nat)(r:O):Prop:=∃t' S',r=.out (.exit 0) ⟨t',[]⟩ S'∧∃(m:Nat) (e2 p2:Int) (tok:Nat) (es:List AV),AtD ts m e2 p2 tok es t' S'∧m<ts.length∧i≤m∧Gd es∧(e2=0→∃l:List PD,es=l.map D7∧((tk ts m).text∈[[41]]→∃x q,El ts i=.ok x q∧i<q∧mN ts [x] q l (m+1)))
theorem ds_lp{ts:List Tk}(ht:Tok3 ts){i:Nat}:∀(d j:Nat) (p1:Int) (tok:Nat) (es:List AV) (t:T AV) (S:St),ts.length - j<d→j<ts.length→i≤j→Gd es→es.length≤j→AtD ts j 0 p1 tok es t S →
  (∃l:List PD,es=l.map D7∧∀y q l' m',El ts j=.ok y q→j<q→mN ts (l ++ [y]) q l' m'→∃x q0,El ts i=.ok x q0∧i<q0∧mN ts [x] q0 l' m')→WX (E3 ts) 45 (.loop dsLB) ⟨t,[]⟩ S (DsEnd ts i)
 |0,j,p1,tok,es,t,S,hd,_,_,_,_,_,_=>absurd hd (by omega)
 |d+1,j,p1,tok,es,t,S,hd,hj,hij,g,hel,⟨T1,T2,T4,M2,M3,hnx,RO,NT2⟩,hR=>by
  refine Bt (Bp ?_);have hsz:=ht.size;obtain⟨fn1,hf1⟩:=fX 118;obtain⟨fn2,hf2⟩:=fX 119;have hlen:es.length≤2000000:=by omega
  have h0:((0:Int) == 0)=true:=rfl;unfold stL at M2;have i2:(2:Nat)=S.next↔False:=⟨fun h=>by omega,fun h=>h.elim⟩
  have i3:(3:Nat)=S.next↔False:=⟨fun h=>by omega,fun h=>h.elim⟩
  have j2:S.next=(2:Nat)↔False:=⟨fun h=>by omega,fun h=>h.elim⟩
  obtain⟨l,hrep,hcont⟩:=hR;simp(disch:=omega)only[go_sem,reduceAdd,reduceEqDiff,reduceLeDiff,dsLB,Tryz.f117,A2,T1,M2,hf2,h0,i2,Bool.and_self];refine cA ht hj fun m e2 p2 y0 y1 y2 y3 y4 y5 hm hjm g2 h2=>?_
  have hx6:(AV.agg [y0,y1,y2,y3,y4,y5]).cells.length=6:=rfl;simp(disch:=omega)only[go_sem,reduceAdd,reduceEqDiff,reduceLeDiff,stA,stL,T1,T4,M2,i2,j2,Bool.and_self];generalize hS1:(((S.newBox [.v (.string ⟨⟨[]⟩⟩),.v (.int .i64 0),.v (.bool false),.v (.bool false),.v (.string ⟨⟨[]⟩⟩),.v (.bool false)]).to S.next [.v (.string ⟨⟨[]⟩⟩),.v (.int .i64 0),.v (.bool false),.v (.bool false),.v (.string ⟨⟨[]⟩⟩),.v (.bool false)]).to 2 [lvA ts,.v (.int .i64 (m:Int)),.v (.int .i64 e2),.v (.int .i64 p2)]).to S.next [y0,y1,y2,y3,y4,y5]=S1;have n1:S1.next=S.next+1:=by rw[← hS1];rfl
  have m12:S1.mem.get 2=some (.box (stL ts m e2 p2)):=by
   rw[← hS1];simp only[A5,Bj,Aa,Ab,i2];rfl
  have m13:S1.mem.get 3=some (.box [.nils,.v (.int .i64 0),.v (.int .i64 0),.v (.int .i64 0)]):=by
   rw[← hS1];simp only[A5,Bj,reduceEqDiff,Ab,i3,M3]
  have ro1:Ka 6 S1 tok es:=by
   refine RO.keep (by omega) (fun h2 h3=>?_)
   have q1:¬ tok=S.next:=by omega
   rw[← hS1];simp only[A5,Bj,if_neg q1,if_neg NT2.1]
  obtain⟨bytes,hrt⟩:=wL;obtain⟨S2,happ,ro2,n2,k2⟩:=J3 (E:=E3 ts) hrt rfl rfl ro1 (by omega) (.agg [y0,y1,y2,y3,y4,y5]) hx6 hlen
  have m22:S2.mem.get 2=some (.box (stL ts m e2 p2)):=(k2 2 (fun h=>NT2.1 h.symm) (by omega)).trans m12
  have m23:S2.mem.get 3=some (.box [.nils,.v (.int .i64 0),.v (.int .i64 0),.v (.int .i64 0)]):=(k2 3 (fun h=>NT2.2 h.symm) (by omega)).trans m13
  unfold stL at m22;have g3:Gd (es ++ [.agg [y0,y1,y2,y3,y4,y5]]):=J9 g (Ed g2 En)
  by_cases he2:e2=0
  ·subst he2
   obtain⟨_,y,hyA,hy,hjy⟩:=h2 rfl;have h0n:((0:Int) != 0)=false:=rfl;have hrep2:es ++ [.agg [y0,y1,y2,y3,y4,y5]]=(l ++ [y]).map D7:=by rw[Jd4,← hrep,hyA];rfl
   simp(disch:=omega)only[go_sem,reduceAdd,reduceEqDiff,reduceLeDiff,T1,hf1,h0n,happ,m22];refine Ey (w:=[44]) hm ?_
   cases hb:isB ts m 0 [44]with
   |true =>
    have hw:=(Dy hb).2;have hn:=hw.next ht hm;have hw2:=Fl m (by omega)
    simp(disch:=omega)only[go_sem,reduceAdd,reduceEqDiff,reduceLeDiff,T1,hw2,m22];refine ds_lp ht d (m+1) p2 S1.next (es ++ [.agg [y0,y1,y2,y3,y4,y5]]) _ _ (by omega) hn (by omega) g3 (by rw[Ja3];show es.length+1≤_;omega) ⟨by simp only[A0,reduceEqDiff,Ab,T1],by simp only[A0,reduceEqDiff,Ab,T2],by simp only[A0,reduceEqDiff,Aa,Ab],?_,?_,?_,?_,?_⟩ ⟨l ++ [y],hrep2,fun y' q' l' m' hy' hq' hr'=>hcont y m l' m' hy hjy (restD_go (by rw[hw.2];simp) hy' hq' hr')⟩
    ·simp only[A5,Aa];rfl
    ·simp only[A5,reduceEqDiff,Ab];exact m23
    ·show 4≤S2.next
     omega
    ·refine ro2.keep (Ja1 _) (fun h2 h3=>?_)
     have q1:¬ S1.next=2:=by omega
     rw[A5,if_neg q1]
    ·exact⟨by omega,by omega⟩
   |false =>
    have hn1:=G6 ht hm hb (by decide)
    simp(disch:=omega)only[go_sem,reduceAdd,reduceEqDiff,reduceLeDiff,T1,m22];refine⟨_,_,rfl,m,0,p2,S1.next,es ++ [.agg [y0,y1,y2,y3,y4,y5]],⟨by simp only[A0,reduceEqDiff,Ab,T1],by simp only[A0,reduceEqDiff,Ab,T2],by simp only[A0,reduceEqDiff,Aa,Ab],?_,?_,?_,?_,?_⟩,hm,by omega,g3,fun _=>⟨l ++ [y],hrep2,fun hc=>hcont y m (l ++ [y]) (m+1) hy hjy (xM (fun h=>hn1 (Jb5.1 h)) hc)⟩⟩
    ·exact m22
    ·exact m23
    ·omega
    ·exact ro2
    ·exact⟨by omega,by omega⟩
  ·have h0n:(e2 != 0)=true:=by rw[bne_iff_ne];exact he2
   simp(disch:=omega)only[go_sem,reduceAdd,reduceEqDiff,reduceLeDiff,T1,hf1,h0n,happ,m22];refine⟨_,_,rfl,m,e2,p2,S1.next,es ++ [.agg [y0,y1,y2,y3,y4,y5]],⟨by simp only[A0,reduceEqDiff,Ab,T1],by simp only[A0,reduceEqDiff,Ab,T2],by simp only[A0,reduceEqDiff,Aa,Ab],?_,?_,?_,?_,?_⟩,hm,by omega,g3,fun h=>absurd h he2⟩
   ·exact m22
   ·exact m23
   ·omega
   ·exact ro2
   ·exact⟨by omega,by omega⟩
theorem Z9:∀l:List PD,Be (l.map D7)=l.map D7
 | []=>rfl
 |d :: l=>by rw[Jc2,Be,Z9 l];rfl
theorem Y6{ts:List Tk}{i:Nat}{e p:Int}(S':St)(j:Nat)(e1 p1:Int)(tok o:Nat)(es:List AV)(hj:j<ts.length)(hij:i≤j)(g:Gd es)(hh:e1=0→e=0∧∃l:List PD,es=l.map D7∧(∃n,∀m,n≤m→Hz ts (El ts) m i=.ok l j)∧i<j):
  ∃a S'',R.ret (.tup [stA ts j e1 p1,.sl tok o 6 es]) S' = R.ret a S''∧Bw a=true∧Fv ts 117 [stA ts i e p] (clean a):=by
 refine⟨_,_,rfl,?_,?_⟩
 ·show(Bw _ && (C5 es && true))=true
  rw[K1,g.1];rfl
 intro i' e' p' h hi;obtain⟨rfl,rfl,rfl⟩:=Mb (Cy h).1;refine⟨j,e1,p1,.sl 0 0 6 (Be es),?_,hj,hij,.inr ⟨_,rfl⟩,?_,fun h0=>?_⟩
 ·show AV.tup [clean _,.sl 0 0 6 (Be es)]=_
  rw[Jf]
 ·rw[Qc];exact g.2.2
 ·obtain⟨q1,l,rfl,q3,q4⟩:=hh h0
  exact⟨q1,l,.inr ⟨0,0,by rw[Z9]⟩,q3,q4⟩
theorem iZ{ts:List Tk}{S:St}{Q:R→Prop}{i:Nat}{e p:Int}(hi:i<ts.length)(hk:Kn3 ts 117 [stA ts i e p])(h:∀j e' p' v,j<ts.length→i≤j→(v=.nils∨∃es,v=.sl 0 0 6 es)→Bw v=true→clean v=v→D1 v v=true→(e' = 0→e=0∧∃l,H8 6 D7 v l∧(∃n,∀m,n≤m→Hz ts (El ts) m i=.ok l j)∧i<j)→Q (.ret (.tup [stA ts j e' p',v]) S)):WC (E3 ts) 117 [stA ts i e p] S Q :=
 P9 hk (by kernel_rfl) (fD _ _ _ _) (Wd _ _ _ _) fun a hf hc hs=>by
  obtain⟨j,e',p',v,rfl,q1,q2,q3,q4,q5⟩:=hs i e p rfl hi;refine h j e' p' v q1 q2 q3 ?_ ?_ q4 q5
  ·have hf:(Bw _ && (Bw v && true))=true:=hf
   simp only[Bool.and_true,Ja2]at hf;exact hf.2
  ·have hc:AV.tup [clean _,clean v]=_:=hc
   injection hc with hc
   injection hc with _ hc
   injection hc with hc _
theorem decls_k{ts:List Tk}(ht:Tok3 ts)(i:Nat)(e p:Int)(hi:i<ts.length):Kn3 ts 117 [stA ts i e p]:=by
 refine Jq Tryz.f117 (by kernel_rfl) (by kernel_rfl) (by show(_:Nat)≤_;simp[Tryz.f117]) ?_
 have hsz:=ht.size;obtain⟨fn1,hf1⟩:=fX 115;obtain⟨fn2,hf2⟩:=fX 118;simp(disch:=omega)only[go_sem,reduceAdd,reduceEqDiff,reduceLeDiff,Tryz.f117,stA,stL,hf1];refine Di (w:=[40]) ht hi fun j e1 p1 hj hij h1=>?_
 simp(disch:=omega)only[go_sem,reduceAdd,reduceEqDiff,reduceLeDiff,stA,stL,hf2,Bool.and_self];refine Ey (w:=[41]) hj ?_
 cases hb:isB ts j e1 [41]with
 |true =>
  obtain⟨rfl,hw⟩:=Dy hb;obtain⟨rfl,hw1,rfl⟩:=h1 rfl;have hn:=hw.next ht hj;have hw2:=Fl (i+1) (by omega)
  simp(disch:=omega)only[go_sem,reduceAdd,reduceEqDiff,reduceLeDiff,hw2,Bool.and_self];refine Y6 _ (i+1+1) 0 p1 1 0 [] hn (by omega) En (fun _=>⟨rfl,[],rfl,⟨0,fun m _=>?_⟩,by omega⟩)
  unfold Hz;rw[Ek (by rw[hw1.2];simp),Cj,if_pos (by rw[hw.2];simp)]
 |false =>
  by_cases he:e1=0
  ·subst he
   obtain⟨rfl,hw1,rfl⟩:=h1 rfl;have hno:=G6 ht hj hb (by decide)
   have key:=fun t S=>ds_lp ht (i:=i+1) (ts.length+1) (i+1) p1 1 [] t S
   unfold dsLB at key;simp only[Tryz.f117]at key;simp(disch:=omega)only[go_sem,reduceAdd,reduceEqDiff,reduceLeDiff,Bool.and_self];refine WX.mono (key _ _ (by omega) hj (Ja1 _) En (Nat.zero_le _) ⟨?_,?_,?_,?_,?_,?_,.one _ _ _,⟨by omega,by omega⟩⟩ ⟨[],rfl,fun y q l' m' hy hq hr=>⟨y,q,hy,hq,hr⟩⟩) ?_
   ·simp only[A0,reduceEqDiff,Aa,Ab]
   ·simp only[A0,reduceEqDiff,Aa,Ab]
   ·simp only[A0,reduceEqDiff,Aa,Ab]
   ·simp only[A5,Bj,B6,Br,reduceAdd,reduceEqDiff,Aa,Ab];rfl
   ·simp only[A5,Bj,B6,Br,reduceAdd,reduceEqDiff,Aa,Ab]
   ·simp only[Ei,B6,Br];omega
   rintro _ ⟨t',S',rfl,m,e2,p2,tok,es,⟨T1,T2,T4,M2,M3,hnx,RO,NT2⟩,hm,him,g,hh⟩;unfold stL at M2;simp(disch:=omega)only[go_sem,reduceAdd,reduceLeDiff,hf1,T1,M2];refine Di (w:=[41]) ht hm fun j3 e3 p3 hj3 hmj h3=>?_
   simp(disch:=omega)only[go_sem,Nat.reduceLT,reduceAdd,reduceEqDiff,reduceLeDiff,stA,stL,T2,T4,M3,Bool.and_self];refine Y6 _ j3 e3 p3 tok 0 es hj3 (by omega) g (fun h=>?_)
   obtain⟨h4,hw,rfl⟩:=h3 h;obtain⟨l,hl,hc⟩:=hh h4;obtain⟨x,q,hx,hq,⟨n,hn⟩,hqm⟩:=hc (by rw[hw.2];simp)
   refine⟨rfl,l,hl,⟨n,fun m' hm'=>?_⟩,by omega⟩
   unfold Hz;rw[Ek (by rw[hw1.2];simp),Cj,if_neg (fun h=>hno (Jb5.1 h)),hx,Cj,hn m' hm']
  ·have h0:(e1 == 0)=false:=by rw[beq_eq_false_iff_ne];exact he
   simp(disch:=omega)only[go_sem,reduceAdd,reduceEqDiff,reduceLeDiff,Bool.and_self];refine Bt (Bp ?_);simp(disch:=omega)only[go_sem,reduceAdd,reduceEqDiff,reduceLeDiff,A2,hf1,h0,Bool.and_self];refine Di (w:=[41]) ht hj fun j3 e3 p3 hj3 hmj h3=>?_
   simp(disch:=omega)only[go_sem,Nat.reduceLT,reduceAdd,reduceEqDiff,reduceLeDiff,stA,stL,Bool.and_self];exact Y6 _ j3 e3 p3 1 0 [] hj3 (by omega) En (fun h=>absurd (h3 h).1 he)
end Go.Ax
noncomputable section
namespace Go.Ax
open Go.RowKit Go.Proofs
set_option maxRecDepth 100000
theorem fb_subq(k:IntKind)(x y:Int):Cv .sub (.v (.int k x)) (.v (.int k y))=some (.v (.int k (k.wrap (x - y)))):=by simp[Cv]
def bX:Code:=match Tryz.f271.body with
 |some (.seq _ (.seq _ (.seq _ (.seq _ (.seq _ (.seq _ (.seq _ (.seq _ (.seq (.block _ (.loop c)) _)))))))))=>c
 |_=>.skip
theorem Pa(ts:List Tk):∀args a,Fv ts 271 args a=Sm ts .unary args a:=fun _ _=>rfl
theorem Hv(ts:List Tk):∀args a,Fv ts 286 args a=Sm ts .primary args a:=fun _ _=>rfl
structure AtU(ts:List Tk)(j:Nat)(e1 p1:Int)(x0 x1 x2 x3 x4 x5:AV)(t:T AV)(S:St):Prop where
 t1:t.get 1=some (.ptr 2 0)
 t2:t.get 2=some (.ptr 3 0)
 t3:t.get 3=some (.ptr 4 0)
 t8:t.get 8=some (.ptr 5 0)
 m2:S.mem.get 2=some (.box (stL ts j e1 p1))
 m3:S.mem.get 3=some (.box [.nils,.v (.int .i64 0),.v (.int .i64 0),.v (.int .i64 0)])
 m4:S.mem.get 4=some (.box [.v (.int .i64 0),.v (.int .i64 0),.v (.int .i64 0),A2 [],.v (.bool false),.nils])
 m5:S.mem.get 5=some (.box [x0,x1,x2,x3,x4,x5])
def WhenEnd(ts:List Tk)(i:Nat)(r:O):Prop:=∃t' S',r=.out (.exit 0) ⟨t',[]⟩ S'∧∃(m:Nat) (e2 p2:Int) (y0 y1 y2 y3 y4 y5:AV),AtU ts m e2 p2 y0 y1 y2 y3 y4 y5 t' S'∧m<ts.length∧i≤m∧Gd [y0,y1,y2,y3,y4,y5]∧(e2=0→∃y,RdX ts .unary i y m∧RepE (.agg [y0,y1,y2,y3,y4,y5]) y)
theorem mV{ts:List Tk}(ht:Tok3 ts){i:Nat}:∀(d j:Nat) (e1 p1:Int) (x0 x1 x2 x3 x4 x5:AV) (t:T AV) (S:St),ts.length - j<d→j<ts.length→i≤j→Gd [x0,x1,x2,x3,x4,x5]→AtU ts j e1 p1 x0 x1 x2 x3 x4 x5 t S →
  (e1=0→∃x,RepE (.agg [x0,x1,x2,x3,x4,x5]) x∧∀y m,WhenX ts x j y m→RdX ts .unary i y m)→WX (E3 ts) 135 (.loop bX) ⟨t,[]⟩ S (WhenEnd ts i)
 |0,j,e1,p1,x0,x1,x2,x3,x4,x5,t,S,hd,_,_,_,_,_=>absurd hd (by omega)
 |d+1,j,e1,p1,x0,x1,x2,x3,x4,x5,t,S,hd,hj,hij,g,⟨T1,T2,T3,T8,M2,M3,M4,M5⟩,hR=>by
  refine Bt (Bp ?_);have hsz:=ht.size;obtain⟨fn1,hf1⟩:=fX 118;obtain⟨fn2,hf2⟩:=fX 116;have hxj:=Ld ts j hj;unfold stL at M2
  by_cases he:e1=0
  ·subst he
   have h0:((0:Int) == 0)=true:=rfl;obtain⟨x,hrep,hcont⟩:=hR rfl;simp(disch:=omega)only[go_sem,reduceAdd,reduceEqDiff,reduceLeDiff,bX,Tryz.f271,T1,M2,hf1,h0];refine Ey (w:=[119,104,101,110]) hj ?_
   cases hb:isB ts j 0 [119,104,101,110]with
   |false =>
    have hn1:=G6 ht hj hb (by decide)
    simp(disch:=omega)only[go_sem,reduceAdd,reduceEqDiff,reduceLeDiff,tkL,A2,T1,M2,hf1,hxj];exact⟨_,_,rfl,j,0,p1,x0,x1,x2,x3,x4,x5,⟨by simp only[A0,reduceEqDiff,Ab,T1],by simp only[A0,reduceEqDiff,Ab,T2],by simp only[A0,reduceEqDiff,Ab,T3],by simp only[A0,reduceEqDiff,Ab,T8],by first |exact M2 | (simp only[A5,reduceEqDiff,Aa,Ab];rfl),by simp only[M3],by simp only[M4],by first |exact M5 | (simp only[A5,reduceEqDiff,Aa,Ab];rfl)⟩,hj,hij,g,fun _=>⟨x,hcont _ _ (when_stop (fun h=>hn1 (Jb5.1 h))),hrep⟩⟩
   |true =>
    have hw:=(Dy hb).2;have hn:=hw.next ht hj;have hw2:=Fl j (by omega)
    simp(disch:=omega)only[go_sem,reduceAdd,reduceEqDiff,reduceLeDiff,tkL,A2,T1,M2,hf1,hxj,hw2];refine Ey (w:=[110,111,116]) hn ?_
    cases hb2:isB ts (j+1) 0 [110,111,116]with
    |true =>
     have hwn:=(Dy hb2).2;have hn2:=hwn.next ht hn;have hw3:=Fl (j+1) (by omega)
     simp(disch:=omega)only[go_sem,reduceAdd,reduceEqDiff,reduceLeDiff,T1,M2,hf2,hw3];refine J0 ht hn2 fun m e2 p2 nm at_ hm hjm h2=>?_
     simp(disch:=omega)only[go_sem,reduceAdd,reduceEqDiff,reduceLeDiff,stA,stL,A2,T1,T8,M2,M5,Bool.and_self];refine mV ht d m e2 p2 _ _ _ _ _ _ _ _ (by omega) hm (by omega) (Vl 11 (tk ts j).pos 0 nm true 1 0 (Ed g En)) ⟨by simp only[A0,reduceEqDiff,Ab,T1],by simp only[A0,reduceEqDiff,Ab,T2],by simp only[A0,reduceEqDiff,Ab,T3],by simp only[A0,reduceEqDiff,Ab,T8],by first |exact M2 | (simp only[A5,reduceEqDiff,Aa,Ab];rfl),by simp only[A5,reduceEqDiff,Ab,M3],by simp only[A5,reduceEqDiff,Ab,M4],by first |exact M5 | (simp only[A5,reduceEqDiff,Aa,Ab];rfl)⟩ (fun h=>?_)
     obtain⟨_,hk1,rfl,rfl,rfl⟩:=h2 h;refine⟨_,.mk 11 (tk ts j).pos 0 (tk ts (j+2)).text true _ [x] (.row _ _ _ _ (.cons _ _ _ _ hrep .nil)),fun z m' hr=>hcont _ _ (when_go (by rw[hw.2];simp) (Zg (by rw[hwn.2];simp) hk1) (by omega) hr)⟩
    |false =>
     have hn1:=G6 ht hn hb2 (by decide)
     simp(disch:=omega)only[go_sem,reduceAdd,reduceEqDiff,reduceLeDiff,T1,M2,hf2];refine J0 ht hn fun m e2 p2 nm at_ hm hjm h2=>?_
     simp(disch:=omega)only[go_sem,reduceAdd,reduceEqDiff,reduceLeDiff,stA,stL,A2,T1,T8,M2,M5,Bool.and_self];refine mV ht d m e2 p2 _ _ _ _ _ _ _ _ (by omega) hm (by omega) (Vl 11 (tk ts j).pos 0 nm false 1 0 (Ed g En)) ⟨by simp only[A0,reduceEqDiff,Ab,T1],by simp only[A0,reduceEqDiff,Ab,T2],by simp only[A0,reduceEqDiff,Ab,T3],by simp only[A0,reduceEqDiff,Ab,T8],by first |exact M2 | (simp only[A5,reduceEqDiff,Aa,Ab];rfl),by simp only[A5,reduceEqDiff,Ab,M3],by simp only[A5,reduceEqDiff,Ab,M4],by first |exact M5 | (simp only[A5,reduceEqDiff,Aa,Ab];rfl)⟩ (fun h=>?_)
     obtain⟨_,hk1,rfl,rfl,rfl⟩:=h2 h;refine⟨_,.mk 11 (tk ts j).pos 0 (tk ts (j+1)).text false _ [x] (.row _ _ _ _ (.cons _ _ _ _ hrep .nil)),fun z m' hr=>hcont _ _ (when_go (by rw[hw.2];simp) (gI (fun h=>hn1 (Jb5.1 h)) hk1) (by omega) hr)⟩
  ·have h0:(e1 == 0)=false:=by rw[beq_eq_false_iff_ne];exact he
   simp(disch:=omega)only[go_sem,reduceAdd,reduceEqDiff,reduceLeDiff,bX,Tryz.f271,tkL,A2,T1,M2,hf1,h0,hxj];exact⟨_,_,rfl,j,e1,p1,x0,x1,x2,x3,x4,x5,⟨by simp only[A0,reduceEqDiff,Ab,T1],by simp only[A0,reduceEqDiff,Ab,T2],by simp only[A0,reduceEqDiff,Ab,T3],by simp only[A0,reduceEqDiff,Ab,T8],by first |exact M2 | (simp only[A5,reduceEqDiff,Aa,Ab];rfl),by simp only[M3],by simp only[M4],by first |exact M5 | (simp only[A5,reduceEqDiff,Aa,Ab];rfl)⟩,hj,hij,g,fun h=>absurd h he⟩
attribute [go_sem] fb_subq
end Go.Ax
noncomputable section
namespace Go.Ax
open Go.RowKit Go.Proofs
set_option maxRecDepth 100000
def nvLB:Code:=match Tryz.f64.body with
 |some (.seq _ (.seq _ (.seq _ (.seq _ (.seq _ (.seq _ (.seq _ (.seq (.seq _ (.cond _ (.seq _ (.block _ (.loop c))) _)) _))))))))=>c
 |_=>.skip
def VarsX(ts:List Tk)(l:List PD)(i:Nat)(r:List PD)(j:Nat):Prop:=∃n,∀m,n≤m→Ix ts m l i=.ok r j
theorem vars_stop{ts:List Tk}{l:List PD}{i:Nat}(h:¬ (tk ts i).kind=1):VarsX ts l i l i:=by
 refine⟨1,fun m hm=>?_⟩
 obtain⟨q,rfl,hq⟩:=Fw (n:=0) hm;simp only[Ix,if_neg h]
theorem vars_go{ts:List Tk}{l r:List PD}{d:PD}{i j m:Nat}(h:(tk ts i).kind=1)(hc:D5 ts i=.ok d j)(h2:VarsX ts (l ++ [d]) j r m):VarsX ts l i r m:=by
 obtain⟨n,hn⟩:=h2;refine⟨n+1,fun m hm=>?_⟩
 obtain⟨q,rfl,hq⟩:=Fw hm;simp only[Ix,if_pos h,hc,Cj,hn q hq]
def VQ(ts:List Tk)(v0:Nat)(r:List PD)(j:Nat):Prop:=∃n,∀m,n≤m→((D5 ts v0).bind fun x q=>Ix ts m [x] q)=.ok r j
def HeadV(ts:List Tk)(v0 j:Nat)(l:List PD):Prop:=(l=[]∧j=v0)∨(l≠[]∧∀r m,VarsX ts l j r m→VQ ts v0 r m)
theorem Q2{ts:List Tk}{v0 j m:Nat}{l:List PD}{d:PD}(hk:(tk ts j).kind=1)(hc:D5 ts j=.ok d m)(h:HeadV ts v0 j l):HeadV ts v0 m (l ++ [d]):=by
 rcases h with⟨rfl,rfl⟩ | ⟨hne,h⟩
 ·refine .inr ⟨by simp,fun r q hv=>?_⟩
  obtain⟨n,hn⟩:=hv;exact⟨n,fun x hx=>by rw[hc,Cj];exact hn x hx⟩
 ·exact .inr ⟨by simp,fun r q hv=>h r q (vars_go hk hc hv)⟩
theorem headV_end{ts:List Tk}{v0 m:Nat}{l:List PD}(hk:¬ (tk ts m).kind=1)(hl:l≠[])(h:HeadV ts v0 m l):VQ ts v0 l m:=by
 rcases h with⟨rfl,_⟩ | ⟨_,h⟩
 ·exact absurd rfl hl
 ·exact h _ _ (vars_stop hk)
theorem Vp{ts:List Tk}{i j:Nat}{d:PD}(h1:El ts i=.ok d j)(h2:(tk ts j).text ∉ [[119,104,101,110]])(h3:(tk ts j).text∈[[59]]):D5 ts i=.ok d (j+1):=by
 unfold D5;rw[h1,Cj,if_neg h2,Ek h3,Cj]
theorem O0{ts:List Tk}{i j m:Nat}{d:PD}{c:List UInt8 × Bool}(h1:El ts i=.ok d j)(h2:(tk ts j).text∈[[119,104,101,110]])(hc:Gg ts (j+1)=.ok c m)(h3:(tk ts m).text∈[[59]]):D5 ts i=.ok { d with clock:=c.1,off:=c.2 } (m+1):=by
 unfold D5;rw[h1,Cj,if_pos h2,hc,Cj,Ek h3,Cj]
theorem Sa{ts:List Tk}{i j:Nat}{d:PD}(h:El ts i=.ok d j):(tk ts i).kind=1∧d.off=false∧d.clock=[]:=by
 unfold El at h
 by_cases hk:(tk ts i).kind=1
 ·refine⟨hk,?_⟩
  rw[Ji hk,Cj]at h;unfold B2 at h
  repeat' (first | (split at h) | (rw[Cj]at h) | (injection h with h1 h2;subst h1;exact⟨rfl,rfl⟩) | (cases h;done) | (exfalso;cases h;done))
  all_goals (first | (simp only[PR.bind]at h;injection h with h1 h2;subst h1;exact⟨rfl,rfl⟩) | (simp only[PR.bind]at h;cases h;done))
 ·exfalso
  unfold Eu at h;rw[if_neg hk]at h;cases h
def DvO(sz:Nat)(S:St)(v:AV)(es:List AV):Prop:=(v=.nils∧es=[])∨∃tok,v=.sl tok 0 sz es∧Ka sz S tok es∧tok≠2∧tok≠3∧tok≠4∧tok≠5
theorem H0{sz:Nat}{S S':St}{v:AV}{es:List AV}(h:DvO sz S v es)(hn:S.next≤S'.next)(hk:∀id,6≤id→id<S.next→S'.mem.get id=S.mem.get id):DvO sz S' v es:=by
 rcases h with h | ⟨tok,h1,h2,h3,h4,h5,h6⟩
 ·exact .inl h
 ·exact .inr ⟨tok,h1,h2.keep hn (fun h7 h8=>hk tok (by omega) h8),h3,h4,h5,h6⟩
theorem Pm{ts:List Tk}{t e sz bytes:Nat}(hrt:RowT Tryz.prog t e sz bytes){S:St}{v:AV}{es:List AV}(h:DvO sz S v es)(hn:6≤S.next)(x:AV)(hx:x.cells.length=sz)(hl:es.length≤2000000):∃S2,Ej (E3 ts) S t t v (.sl 1 0 sz [x])=some (.sl S.next 0 sz (es ++ [x]),S2)∧DvO sz S2 (.sl S.next 0 sz (es ++ [x])) (es ++ [x])∧S2.next=S.next+1∧∀id,2≤id→id≤5→S2.mem.get id=S.mem.get id:=by
 rcases h with⟨rfl,rfl⟩ | ⟨tok,rfl,RO,q2,q3,q4,q5⟩
 ·obtain⟨S2,happ,ro2,n2,k2⟩:=Wy (E:=E3 ts) (S:=S) hrt rfl rfl (by omega) x hx
  exact⟨S2,happ,.inr ⟨_,rfl,ro2,by omega,by omega,by omega,by omega⟩,n2,fun id h1 h3=>k2 id h1 (by omega)⟩
 ·obtain⟨S2,happ,ro2,n2,k2⟩:=J3 (E:=E3 ts) hrt rfl rfl RO (by omega) x hx hl
  exact⟨S2,happ,.inr ⟨_,rfl,ro2,by omega,by omega,by omega,by omega⟩,n2,fun id h1 h3=>k2 id (by omega) (by omega)⟩
structure AtN(ts:List Tk)(j:Nat)(e1 p1:Int)(nm:List UInt8)(at_:Int)(v1 v2 v3 v4:AV)(t:T AV)(S:St):Prop where
 t1:t.get 1=some (.ptr 2 0)
 t2:t.get 2=some (.ptr 3 0)
 t3:t.get 3=some (.ptr 4 0)
 t4:t.get 4=some (.ptr 5 0)
 m2:S.mem.get 2=some (.box (stL ts j e1 p1))
 m3:S.mem.get 3=some (.box [.nils,.v (.int .i64 0),.v (.int .i64 0),.v (.int .i64 0)])
 m4:S.mem.get 4=some (.box [.v (.string ⟨⟨[]⟩⟩),.v (.int .i64 0),.nils,.nils,.nils,.nils])
 m5:S.mem.get 5=some (.box [A2 nm,.v (.int .i64 at_),v1,v2,v3,v4])
 nx:6≤S.next
def NvEnd(ts:List Tk)(v0:Nat)(nm:List UInt8)(at_:Int)(v1 v2:AV)(r:O):Prop:=∃t' S',r=.out (.exit 0) ⟨t',[]⟩ S'∧∃(m:Nat) (e2 p2:Int) (vv:AV) (es:List AV),AtN ts m e2 p2 nm at_ v1 v2 vv .nils t' S'∧DvO 6 S' vv es∧m<ts.length∧v0≤m∧Gd es∧(e2=0→∃l:List PD,es=l.map D7∧VQ ts v0 l m)
def lsLB:Code:=match Tryz.f120.body with
 |some (.seq _ (.seq _ (.seq _ (.seq _ (.seq (.block _ (.loop c)) _)))))=>c
 |_=>.skip
def wD(ts:List Tk)(l:List (List UInt8 × Nat))(i:Nat)(r:List (List UInt8 × Nat))(j:Nat):Prop:=∃n,∀m,n≤m→Ft ts (Hb ts) m l i=.ok r j
theorem bE{ts:List Tk}{i:Nat}(h:(tk ts i).kind=1):Hb ts i=.ok ((tk ts i).text,(tk ts i).pos) (i+1):=by unfold Hb;rw[Ji h];rfl
theorem xL{ts:List Tk}{l:List (List UInt8 × Nat)}{i:Nat}(hn:(tk ts i).text ∉ [[44]])(h0:(tk ts i).text∈[[41]]):wD ts l i l (i+1):=by
 refine⟨1,fun m hm=>?_⟩
 obtain⟨q,rfl,hq⟩:=Fw (n:=0) hm;simp only[Ft,if_neg hn,Ek h0,Cj]
theorem restL_go{ts:List Tk}{l r:List (List UInt8 × Nat)}{i m:Nat}(h0:(tk ts i).text∈[[44]])(h1:(tk ts (i+1)).kind=1)(h2:wD ts (l ++ [((tk ts (i+1)).text,(tk ts (i+1)).pos)]) (i+2) r m):wD ts l i r m:=by
 obtain⟨n,hn⟩:=h2;refine⟨n+1,fun m hm=>?_⟩
 obtain⟨q,rfl,hq⟩:=Fw hm;simp only[Ft,if_pos h0,bE h1,Cj,hn q hq]
def Px(ts:List Tk)(i:Nat)(l:List (List UInt8 × Nat))(j:Nat):Prop:=∃n,∀m,n≤m→H3 ts m i=.ok l j
theorem lefts_one{ts:List Tk}{i:Nat}(h:(tk ts i).kind=1):Px ts i [((tk ts i).text,(tk ts i).pos)] (i+1):=by
 refine⟨0,fun m _=>?_⟩
 unfold H3;rw[if_pos h,bE h,Cj]
theorem yE{ts:List Tk}{i m:Nat}{r:List (List UInt8 × Nat)}(h0:¬ (tk ts i).kind=1)(h1:(tk ts i).text∈[[40]])(h2:(tk ts (i+1)).kind=1)(h3:(tk ts (i+2)).text∈[[44]])(h4:(tk ts (i+3)).kind=1)(h5:wD ts [((tk ts (i+3)).text,(tk ts (i+3)).pos)] (i+4) r m):Px ts i (((tk ts (i+1)).text,(tk ts (i+1)).pos) :: r) m:=by
 obtain⟨n,hn⟩:=h5;refine⟨n,fun q hq=>?_⟩
 unfold H3;rw[if_neg h0,Ek h1,Cj,bE h2,Cj,Ek h3,Cj,bE h4,Cj,hn q hq,Cj]
def LvO(S:St)(lv:AV)(es:List AV):Prop:=(lv=.nils∧es=[])∨∃tok,lv=.sl tok 0 2 es∧Ka 2 S tok es∧tok≠2∧tok≠3∧tok≠4∧tok≠5
structure AtL(ts:List Tk)(bl:Bool)(j:Nat)(e1 p1:Int)(lv:AV)(es:List AV)(t:T AV)(S:St):Prop where
 t1:t.get 1=some (.ptr 2 0)
 t2:t.get 2=some (.ptr 3 0)
 t3:t.get 3=some (.ptr 4 0)
 t4:t.get 4=some (.ptr 5 0)
 t5:t.get 5=some (.v (.bool bl))
 m2:S.mem.get 2=some (.box (stL ts j e1 p1))
 m3:S.mem.get 3=some (.box [.nils,.v (.int .i64 0),.v (.int .i64 0),.v (.int .i64 0)])
 m4:S.mem.get 4=some (.box [.nils,.v (.bool false),.v (.int .i64 0),.v (.int .i64 0),.v (.int .i64 0),.v (.string ⟨⟨[]⟩⟩),.v (.bool false),.nils])
 m5:S.mem.get 5=some (.box [lv,.v (.bool false),.v (.int .i64 0),.v (.int .i64 0),.v (.int .i64 0),.v (.string ⟨⟨[]⟩⟩),.v (.bool false),.nils])
 nx:6≤S.next
 lv:LvO S lv es
def LsEnd(ts:List Tk)(bl:Bool)(i:Nat)(r:O):Prop:=∃t' S',r=.out (.exit 0) ⟨t',[]⟩ S'∧∃(m:Nat) (e2 p2:Int) (lv:AV) (es:List AV),AtL ts bl m e2 p2 lv es t' S'∧m<ts.length∧i≤m∧Gd es∧(e2=0→∃l:List (List UInt8 × Nat),es=l.map Fg∧l≠[]∧(if bl then(tk ts m).text∈[[41]]→Px ts i l (m+1)else Px ts i l m))
def wH(ts:List Tk)(i j:Nat)(l:List (List UInt8 × Nat)):Prop:=(l=[]∧j=i+1)∨∃x l0,l=x :: l0∧∀r m',(tk ts j).kind=1→wD ts (l0 ++ [((tk ts j).text,(tk ts j).pos)]) (j+1) r m'→Px ts i (x :: r) m'
theorem uF{ts:List Tk}{i j:Nat}{l:List (List UInt8 × Nat)}(h0:¬ (tk ts i).kind=1)(h1:(tk ts i).text∈[[40]])(hk:(tk ts j).kind=1)(hc:(tk ts (j+1)).text∈[[44]])(h:wH ts i j l):wH ts i (j+2) (l ++ [((tk ts j).text,(tk ts j).pos)]):=by
 rcases h with⟨rfl,rfl⟩ | ⟨x,l0,rfl,h⟩
 ·exact .inr ⟨_,[],rfl,fun r m' hk2 hr=>yE h0 h1 hk hc hk2 hr⟩
 ·exact .inr ⟨x,l0 ++ [((tk ts j).text,(tk ts j).pos)],rfl,fun r m' hk2 hr=>h r m' hk (restL_go hc hk2 hr)⟩
theorem headL_end{ts:List Tk}{i j:Nat}{l:List (List UInt8 × Nat)}(hk:(tk ts j).kind=1)(hn:(tk ts (j+1)).text ∉ [[44]])(hl:1≤l.length)(h:wH ts i j l)(hc:(tk ts (j+1)).text∈[[41]]):Px ts i (l ++ [((tk ts j).text,(tk ts j).pos)]) (j+1+1):=by
 rcases h with⟨rfl,_⟩ | ⟨x,l0,rfl,h⟩
 ·simp at hl
 ·exact h _ _ hk (xL hn hc)
theorem gd_left(n:List UInt8)(p:Int):Gd [A2 n,.v (.int .i64 p)]:=⟨rfl,by simp only[Jn,Nk,Oo,A2,Nj,Bool.and_self],by simp only[Be,clean,Jn,Nk,Oo,A2,Nj,Bool.and_self]⟩
theorem ls_lp{ts:List Tk}(ht:Tok3 ts){i:Nat}{bl:Bool}(hb0:bl=true→¬ (tk ts i).kind=1∧(tk ts i).text∈[[40]]):∀(d j:Nat) (e1 p1:Int) (lv:AV) (es:List AV) (t:T AV) (S:St),ts.length - j<d→j<ts.length→i≤j→Gd es→es.length≤j→AtL ts bl j e1 p1 lv es t S →
  (e1=0→∃l:List (List UInt8 × Nat),es=l.map Fg∧(if bl then wH ts i j l else l=[]∧j=i))→WX (E3 ts) 107 (.loop lsLB) ⟨t,[]⟩ S (LsEnd ts bl i)
 |0,j,e1,p1,lv,es,t,S,hd,_,_,_,_,_,_=>absurd hd (by omega)
 |d+1,j,e1,p1,lv,es,t,S,hd,hj,hij,g,hel,⟨T1,T2,T3,T4,T5,M2,M3,M4,M5,hnx,LV⟩,hR=>by
  refine Bt (Bp ?_);have hsz:=ht.size;obtain⟨fn1,hf1⟩:=fX 118;obtain⟨fn2,hf2⟩:=fX 115;obtain⟨fn3,hf3⟩:=fX 116;have hlen:es.length≤2000000:=by omega
  unfold stL at M2;have i2:(2:Nat)=S.next↔False:=⟨fun h=>by omega,fun h=>h.elim⟩
  have i3:(3:Nat)=S.next↔False:=⟨fun h=>by omega,fun h=>h.elim⟩
  have i4:(4:Nat)=S.next↔False:=⟨fun h=>by omega,fun h=>h.elim⟩
  have i5:(5:Nat)=S.next↔False:=⟨fun h=>by omega,fun h=>h.elim⟩
  have j2:S.next=(2:Nat)↔False:=⟨fun h=>by omega,fun h=>h.elim⟩
  have j5:S.next=(5:Nat)↔False:=⟨fun h=>by omega,fun h=>h.elim⟩
  by_cases he:e1=0
  ·subst he
   have h0:((0:Int) == 0)=true:=rfl;obtain⟨l,hes,hhead⟩:=hR rfl;simp(maxSteps:=9^7) (disch:=omega)only[go_sem,reduceAdd,reduceEqDiff,reduceLeDiff,lsLB,Tryz.f120,A2,T1,M2,hf3,h0,i2,Bool.and_self];refine J0 ht hj fun m e2 p2 nm at_ hm hjm h2=>?_
   simp(maxSteps:=9^7) (disch:=omega)only[go_sem,reduceAdd,reduceEqDiff,reduceLeDiff,stA,stL,A2,T1,T4,M2,M5,i2,i5,j2,Bool.and_self];generalize hS1:((((S.newBox [.v (.string ⟨⟨[]⟩⟩),.v (.int .i64 0)]).to S.next [.v (.string ⟨⟨[]⟩⟩),.v (.int .i64 0)]).to 2 [lvA ts,.v (.int .i64 (m:Int)),.v (.int .i64 e2),.v (.int .i64 p2)]).to S.next [.v (.string ⟨⟨nm⟩⟩),.v (.int .i64 0)]).to S.next [.v (.string ⟨⟨nm⟩⟩),.v (.int .i64 (at_:Int))]=S1;have n1:S1.next=S.next+1:=by rw[← hS1];rfl
   have m12:S1.mem.get 2=some (.box (stL ts m e2 p2)):=by
    rw[← hS1];simp only[A5,Bj,Aa,Ab,i2];rfl
   have m13:S1.mem.get 3=some (.box [.nils,.v (.int .i64 0),.v (.int .i64 0),.v (.int .i64 0)]):=by
    rw[← hS1];simp only[A5,Bj,reduceEqDiff,Ab,i3,M3]
   have m14:S1.mem.get 4=some (.box [.nils,.v (.bool false),.v (.int .i64 0),.v (.int .i64 0),.v (.int .i64 0),.v (.string ⟨⟨[]⟩⟩),.v (.bool false),.nils]):=by
    rw[← hS1];simp only[A5,Bj,reduceEqDiff,Ab,i4,M4]
   have m15:S1.mem.get 5=some (.box [lv,.v (.bool false),.v (.int .i64 0),.v (.int .i64 0),.v (.int .i64 0),.v (.string ⟨⟨[]⟩⟩),.v (.bool false),.nils]):=by
    rw[← hS1];simp only[A5,Bj,reduceEqDiff,Ab,i5,M5]
   have hap:∃S2,Ej (E3 ts) S1 62 62 lv (.sl 1 0 2 [.agg [A2 nm,.v (.int .i64 (at_:Int))]])=some (.sl S1.next 0 2 (es ++ [.agg [A2 nm,.v (.int .i64 (at_:Int))]]),S2)∧Ka 2 S2 S1.next (es ++ [.agg [A2 nm,.v (.int .i64 (at_:Int))]])∧S2.next=S1.next+1∧∀id,2≤id→id≤5→S2.mem.get id=S1.mem.get id:=by
    obtain⟨bytes,hrt⟩:=yt62;rcases LV with⟨rfl,rfl⟩ | ⟨tok,rfl,RO,q2,q3,q4,q5⟩
    ·obtain⟨S2,happ,ro2,n2,k2⟩:=Wy (E:=E3 ts) (S:=S1) hrt rfl rfl (by omega) (.agg [A2 nm,.v (.int .i64 (at_:Int))]) rfl
     exact⟨S2,happ,ro2,n2,fun id h1 h3=>k2 id h1 (by omega)⟩
    ·have ro1:Ka 2 S1 tok es:=by
      refine RO.keep (by omega) (fun h2 h3=>?_)
      have q1:¬ tok=S.next:=by omega
      rw[← hS1];simp only[A5,Bj,if_neg q1,if_neg q2]
     obtain⟨S2,happ,ro2,n2,k2⟩:=J3 (E:=E3 ts) hrt rfl rfl ro1 (by omega) (.agg [A2 nm,.v (.int .i64 (at_:Int))]) rfl hlen
     exact⟨S2,happ,ro2,n2,fun id h1 h3=>k2 id (by omega) (by omega)⟩
   obtain⟨S2,happ,ro2,n2,k2⟩:=hap;unfold A2 at happ;have m22:=(k2 2 (by omega) (by omega)).trans m12
   have m23:=(k2 3 (by omega) (by omega)).trans m13
   have m24:=(k2 4 (by omega) (by omega)).trans m14
   have m25:=(k2 5 (by omega) (by omega)).trans m15
   unfold stL at m22;have g3:Gd (es ++ [.agg [A2 nm,.v (.int .i64 (at_:Int))]]):=J9 g (Ed (gd_left nm _) En);have hlvo:∀S3,S3.next=S2.next→(∀id,6≤id→S3.mem.get id=S2.mem.get id)→LvO S3 (.sl S1.next 0 2 (es ++ [.agg [A2 nm,.v (.int .i64 (at_:Int))]])) (es ++ [.agg [A2 nm,.v (.int .i64 (at_:Int))]]):=fun S3 h3 h4=>.inr ⟨S1.next,rfl,ro2.keep (by omega) (fun _ h6=>h4 _ (by omega)),by omega,by omega,by omega,by omega⟩
   have hyn:=fun S=>yn62 S S1.next 0 (es ++ [.agg [.v (.string ⟨⟨nm⟩⟩),.v (.int .i64 (at_:Int))]])
   by_cases he2:e2=0
   ·subst he2
    have h0n:((0:Int) != 0)=false:=rfl;obtain⟨_,hk1,rfl,rfl,rfl⟩:=h2 rfl;have hes2:es ++ [.agg [A2 (tk ts j).text,.v (.int .i64 ((tk ts j).pos:Int))]]=(l ++ [((tk ts j).text,(tk ts j).pos)]).map Fg:=by rw[Jd4,← hes];rfl
    have hlen2:es.length=l.length:=by rw[hes,Ja9]
    cases bl with
    |false =>
     obtain⟨hl0,hji⟩:=hhead;subst hl0;subst hji;simp(maxSteps:=9^7) (disch:=omega)only[go_sem,reduceAdd,reduceEqDiff,reduceLeDiff,T1,T4,T5,hf1,hf2,h0n,happ,m22,m25];refine⟨_,_,rfl,j+1,0,p2,.sl S1.next 0 2 (es ++ [.agg [A2 (tk ts j).text,.v (.int .i64 ((tk ts j).pos:Int))]]),es ++ [.agg [A2 (tk ts j).text,.v (.int .i64 ((tk ts j).pos:Int))]],⟨by simp only[A0,reduceEqDiff,Ab,T1],by simp only[A0,reduceEqDiff,Ab,T2],by simp only[A0,reduceEqDiff,Ab,T3],by simp only[A0,reduceEqDiff,Ab,T4],by simp only[A0,reduceEqDiff,Ab,T5],?_,?_,?_,?_,?_,?_⟩,hm,by omega,g3,fun _=>⟨_,hes2,by simp,lefts_one hk1⟩⟩
     ·simp only[A5,reduceEqDiff,Ab];exact m22
     ·simp only[A5,reduceEqDiff,Ab];exact m23
     ·simp only[A5,reduceEqDiff,Ab];exact m24
     ·simp only[A5,Aa];rfl
     ·show 6≤S2.next
      omega
     ·exact hlvo _ rfl (fun id h=>by rw[A5,if_neg (by omega)])
    |true =>
     obtain⟨hb1,hb2⟩:=hb0 rfl;have hhead:wH ts i j l:=hhead
     by_cases hc0:l.length=0
     ·have hlg:decide ((((es ++ [AV.agg [AV.v (.string ⟨⟨(tk ts j).text⟩⟩),AV.v (.int .i64 ((tk ts j).pos:Int))]]).length:Nat):Int) > 1)=false:=by
       rw[Ja3,decide_eq_false]
       show ¬ (((es.length+1:Nat):Int) > 1)
       omega
      simp(maxSteps:=9^7) (disch:=omega)only[go_sem,reduceAdd,reduceEqDiff,reduceLeDiff,T1,T4,T5,hf1,hf2,h0n,hlg,happ,m22,m25,hyn];refine Di (w:=[44]) ht hm fun q e3 p3 hq hmq h3=>?_
      simp(maxSteps:=9^7) (disch:=omega)only[go_sem,reduceAdd,reduceEqDiff,reduceLeDiff,stA,stL,T1,m22,Bool.and_self];refine ls_lp ht hb0 d q e3 p3 (.sl S1.next 0 2 (es ++ [.agg [A2 (tk ts j).text,.v (.int .i64 ((tk ts j).pos:Int))]])) (es ++ [.agg [A2 (tk ts j).text,.v (.int .i64 ((tk ts j).pos:Int))]]) _ _ (by omega) hq (by omega) g3 (by rw[Ja3];show es.length+1≤_;omega) ⟨by simp only[A0,reduceEqDiff,Ab,T1],by simp only[A0,reduceEqDiff,Ab,T2],by simp only[A0,reduceEqDiff,Ab,T3],by simp only[A0,reduceEqDiff,Ab,T4],by simp only[A0,reduceEqDiff,Ab,T5],?_,?_,?_,?_,?_,?_⟩ (fun h=>?_)
      ·simp only[A5,Aa,reduceEqDiff,Ab] <;> rfl
      ·simp only[A5,reduceEqDiff,Ab];exact m23
      ·simp only[A5,reduceEqDiff,Ab];exact m24
      ·simp only[A5,Aa,reduceEqDiff,Ab] <;> rfl
      ·show 6≤S2.next
       omega
      ·exact hlvo _ rfl (fun id h=>by rw[A5,if_neg (by omega),A5,if_neg (by omega)])
      ·obtain⟨_,hwc,rfl⟩:=h3 h
       exact⟨_,hes2,uF hb1 hb2 hk1 (by rw[hwc.2];simp) hhead⟩
     ·have hlg:decide ((((es ++ [AV.agg [AV.v (.string ⟨⟨(tk ts j).text⟩⟩),AV.v (.int .i64 ((tk ts j).pos:Int))]]).length:Nat):Int) > 1)=true:=by
       rw[Ja3,decide_eq_true_eq]
       show(((es.length+1:Nat):Int) > 1)
       omega
      simp(maxSteps:=9^7) (disch:=omega)only[go_sem,reduceAdd,reduceEqDiff,reduceLeDiff,T1,T4,T5,hf1,h0n,hlg,happ,m22,m25,hyn];refine Ey (w:=[44]) hm ?_
      cases hb:isB ts (j+1) 0 [44]with
      |true =>
       simp(maxSteps:=9^7) (disch:=omega)only[go_sem,reduceAdd,reduceEqDiff,reduceLeDiff,T1,hf2,m22];refine Di (w:=[44]) ht hm fun q e3 p3 hq hmq h3=>?_
       simp(maxSteps:=9^7) (disch:=omega)only[go_sem,reduceAdd,reduceEqDiff,reduceLeDiff,stA,stL,T1,m22,Bool.and_self];refine ls_lp ht hb0 d q e3 p3 (.sl S1.next 0 2 (es ++ [.agg [A2 (tk ts j).text,.v (.int .i64 ((tk ts j).pos:Int))]])) (es ++ [.agg [A2 (tk ts j).text,.v (.int .i64 ((tk ts j).pos:Int))]]) _ _ (by omega) hq (by omega) g3 (by rw[Ja3];show es.length+1≤_;omega) ⟨by simp only[A0,reduceEqDiff,Ab,T1],by simp only[A0,reduceEqDiff,Ab,T2],by simp only[A0,reduceEqDiff,Ab,T3],by simp only[A0,reduceEqDiff,Ab,T4],by simp only[A0,reduceEqDiff,Ab,T5],?_,?_,?_,?_,?_,?_⟩ (fun h=>?_)
       ·simp only[A5,Aa,reduceEqDiff,Ab] <;> rfl
       ·simp only[A5,reduceEqDiff,Ab];exact m23
       ·simp only[A5,reduceEqDiff,Ab];exact m24
       ·simp only[A5,Aa,reduceEqDiff,Ab] <;> rfl
       ·show 6≤S2.next
        omega
       ·exact hlvo _ rfl (fun id h=>by rw[A5,if_neg (by omega),A5,if_neg (by omega)])
       ·obtain⟨_,hwc,rfl⟩:=h3 h
        exact⟨_,hes2,uF hb1 hb2 hk1 (by rw[hwc.2];simp) hhead⟩
      |false =>
       have hno:=G6 ht hm hb (by decide)
       simp(maxSteps:=9^7) (disch:=omega)only[go_sem,reduceAdd,reduceEqDiff,reduceLeDiff,T1,hf2,m22];refine⟨_,_,rfl,j+1,0,p2,.sl S1.next 0 2 (es ++ [.agg [A2 (tk ts j).text,.v (.int .i64 ((tk ts j).pos:Int))]]),es ++ [.agg [A2 (tk ts j).text,.v (.int .i64 ((tk ts j).pos:Int))]],⟨by simp only[A0,reduceEqDiff,Ab,T1],by simp only[A0,reduceEqDiff,Ab,T2],by simp only[A0,reduceEqDiff,Ab,T3],by simp only[A0,reduceEqDiff,Ab,T4],by simp only[A0,reduceEqDiff,Ab,T5],?_,?_,?_,?_,?_,?_⟩,hm,by omega,g3,fun _=>⟨_,hes2,by simp,fun hc=>headL_end hk1 (fun h=>hno (Jb5.1 h)) (by omega) hhead hc⟩⟩
       ·simp only[A5,reduceEqDiff,Ab];exact m22
       ·simp only[A5,reduceEqDiff,Ab];exact m23
       ·simp only[A5,reduceEqDiff,Ab];exact m24
       ·simp only[A5,Aa];rfl
       ·show 6≤S2.next
        omega
       ·exact hlvo _ rfl (fun id h=>by rw[A5,if_neg (by omega)])
   ·have h0n:(e2 != 0)=true:=by rw[bne_iff_ne];exact he2
    simp(maxSteps:=9^7) (disch:=omega)only[go_sem,reduceAdd,reduceEqDiff,reduceLeDiff,T1,T4,T5,hf1,hf2,h0n,happ,m22,m25];refine⟨_,_,rfl,m,e2,p2,.sl S1.next 0 2 (es ++ [.agg [A2 nm,.v (.int .i64 (at_:Int))]]),es ++ [.agg [A2 nm,.v (.int .i64 (at_:Int))]],⟨by simp only[A0,reduceEqDiff,Ab,T1],by simp only[A0,reduceEqDiff,Ab,T2],by simp only[A0,reduceEqDiff,Ab,T3],by simp only[A0,reduceEqDiff,Ab,T4],by simp only[A0,reduceEqDiff,Ab,T5],?_,?_,?_,?_,?_,?_⟩,hm,by omega,g3,fun h=>absurd h he2⟩
    ·simp only[A5,reduceEqDiff,Ab];exact m22
    ·simp only[A5,reduceEqDiff,Ab];exact m23
    ·simp only[A5,reduceEqDiff,Ab];exact m24
    ·simp only[A5,Aa];rfl
    ·show 6≤S2.next
     omega
    ·exact hlvo _ rfl (fun id h=>by rw[A5,if_neg (by omega)])
  ·have h0:(e1 == 0)=false:=by rw[beq_eq_false_iff_ne];exact he
   simp(maxSteps:=9^7) (disch:=omega)only[go_sem,reduceAdd,reduceEqDiff,reduceLeDiff,lsLB,Tryz.f120,A2,T1,M2,hf3,h0,i2,Bool.and_self];refine⟨_,_,rfl,j,e1,p1,lv,es,⟨by simp only[A0,reduceEqDiff,Ab,T1],by simp only[A0,reduceEqDiff,Ab,T2],by simp only[A0,reduceEqDiff,Ab,T3],by simp only[A0,reduceEqDiff,Ab,T4],by simp only[A0,reduceEqDiff,Ab,T5],?_,?_,?_,?_,?_,?_⟩,hj,hij,g,fun h=>absurd h he⟩
   ·exact M2
   ·exact M3
   ·exact M4
   ·exact M5
   ·exact hnx
   ·exact LV
end Go.Ax
