/- ZyM -/
import Derived.Test.YtimbgdjbggdgmaaGreatDoorNcG20
import Derived.Test.YtimbgdjbggdgmaaGreatDoorNcG19
set_option linter.unusedVariables false
set_option linter.unusedSimpArgs false
set_option maxHeartbeats 16000000
noncomputable section
open Nat (reduceAdd reduceEqDiff reduceLeDiff)
namespace Go.Ax
open Go.RowKit Go.Proofs
set_option maxRecDepth 100000
def eW:Code:=match Tryz.f222.body with
 |some (.seq _ (.seq _ (.seq (.block _ (.loop c)) _)))=>c
 |_=>.skip
def kNT(b:Bool):NT:=if b then .lit else .expr
theorem sp_lit(ts:List Tk):∀args a,Fv ts 249 args a=Sm ts .lit args a:=fun _ _=>rfl
theorem Wr(ts:List Tk):∀args a,Fv ts 182 args a=Sm ts .expr args a:=fun _ _=>rfl
structure AtK(ts:List Tk)(b:Bool)(j:Nat)(e1 p1:Int)(tok:Nat)(es:List AV)(t:T AV)(S:St):Prop where
 t1:t.get 1=some (.v (.bool b))
 t2:t.get 2=some (.ptr 2 0)
 t4:t.get 4=some (.ptr 3 0)
 t6:t.get 6=some (.sl tok 0 6 es)
 m2:S.mem.get 2=some (.box (stL ts j e1 p1))
 m3:S.mem.get 3=some (.box [.nils,.v (.int .i64 0),.v (.int .i64 0),.v (.int .i64 0)])
 nx:4≤S.next
 ro:Ka 6 S tok es
 nt:tok≠2∧tok≠3
def KidsEnd(ts:List Tk)(b:Bool)(i:Nat)(r:O):Prop:=∃t' S',r=.out (.exit 0) ⟨t',[]⟩ S'∧∃(m:Nat) (e2 p2:Int) (tok:Nat) (es:List AV),AtK ts b m e2 p2 tok es t' S'∧m<ts.length∧i≤m∧Gd es∧(e2=0→∃l,RepF es l∧((tk ts m).text∈[[41]]→∃x q,RdX ts (kNT b) i x q∧RestX ts (kNT b) [x] q l (m+1)))
theorem oL{ts:List Tk}(ht:Tok3 ts){bl:Bool}{i:Nat}(hE:∀i' p,i'<ts.length→i≤i'→Kn3 ts 182 [stA ts i' 0 p]):∀(d j:Nat) (e1 p1:Int) (tok:Nat) (es:List AV) (t:T AV) (S:St),ts.length - j<d→j<ts.length→i≤j→Gd es→es.length≤j→AtK ts bl j e1 p1 tok es t S →
  (e1=0→∃l,RepF es l∧∀y q l' m',RdX ts (kNT bl) j y q→RestX ts (kNT bl) (l ++ [y]) q l' m'→∃x q0,RdX ts (kNT bl) i x q0∧RestX ts (kNT bl) [x] q0 l' m')→e1=0→WX (E3 ts) 43 (.loop eW) ⟨t,[]⟩ S (KidsEnd ts bl i)
 |0,j,e1,p1,tok,es,t,S,hd,_,_,_,_,_,_,_=>absurd hd (by omega)
 |d+1,j,e1,p1,tok,es,t,S,hd,hj,hij,g,hel,⟨T1,T2,T4,T6,M2,M3,hnx,RO,NT2⟩,hR,he=>by
  refine Bt (Bp ?_);subst he;have hsz:=ht.size;obtain⟨fn1,hf1⟩:=fX 118;obtain⟨fn2,hf2⟩:=fX 249;obtain⟨fn3,hf3⟩:=fX 182;have hlen:es.length≤2000000:=by omega
  have h0:((0:Int) == 0)=true:=rfl;unfold stL at M2;have i2:(2:Nat)=S.next↔False:=⟨fun h=>by omega,fun h=>h.elim⟩
  have i3:(3:Nat)=S.next↔False:=⟨fun h=>by omega,fun h=>h.elim⟩
  have j2:S.next=(2:Nat)↔False:=⟨fun h=>by omega,fun h=>h.elim⟩
  obtain⟨l,hrep,hcont⟩:=hR rfl
  cases bl with
  |true =>
   simp(disch:=omega)only[go_sem,reduceAdd,reduceEqDiff,reduceLeDiff,eW,Tryz.f222,A2,T1,T2,M2,hf2,hf3,h0,i2,Bool.and_self];refine Ma (sp_lit ts) (by kernel_rfl) hj (literal_k ht j 0 p1 hj) fun m e2 p2 y0 y1 y2 y3 y4 y5 hm hjm g2 h2=>?_
   have hx6:(AV.agg [y0,y1,y2,y3,y4,y5]).cells.length=6:=rfl;simp(disch:=omega)only[go_sem,reduceAdd,reduceEqDiff,reduceLeDiff,stA,stL,T2,T6,M2,i2,j2,Bool.and_self];generalize hS1:(((S.newBox [.v (.int .i64 0),.v (.int .i64 0),.v (.int .i64 0),.v (.string ⟨⟨[]⟩⟩),.v (.bool false),.nils]).to S.next [.v (.int .i64 0),.v (.int .i64 0),.v (.int .i64 0),.v (.string ⟨⟨[]⟩⟩),.v (.bool false),.nils]).to 2 [lvA ts,.v (.int .i64 (m:Int)),.v (.int .i64 e2),.v (.int .i64 p2)]).to S.next [y0,y1,y2,y3,y4,y5]=S1;have n1:S1.next=S.next+1:=by rw[← hS1];rfl
   have m12:S1.mem.get 2=some (.box (stL ts m e2 p2)):=by
    rw[← hS1];simp only[A5,Bj,Aa,Ab,i2];rfl
   have m13:S1.mem.get 3=some (.box [.nils,.v (.int .i64 0),.v (.int .i64 0),.v (.int .i64 0)]):=by
    rw[← hS1];simp only[A5,Bj,reduceEqDiff,Ab,i3,M3]
   have ro1:Ka 6 S1 tok es:=by
    refine RO.keep (by omega) (fun h2 h3=>?_)
    have q1:¬ tok=S.next:=by omega
    rw[← hS1];simp only[A5,Bj,if_neg q1,if_neg NT2.1]
   obtain⟨bytes,hrt⟩:=yt60;obtain⟨S2,happ,ro2,n2,k2⟩:=J3 (E:=E3 ts) hrt rfl rfl ro1 (by omega) (.agg [y0,y1,y2,y3,y4,y5]) hx6 hlen
   have m22:S2.mem.get 2=some (.box (stL ts m e2 p2)):=(k2 2 (fun h=>NT2.1 h.symm) (by omega)).trans m12
   have m23:S2.mem.get 3=some (.box [.nils,.v (.int .i64 0),.v (.int .i64 0),.v (.int .i64 0)]):=(k2 3 (fun h=>NT2.2 h.symm) (by omega)).trans m13
   unfold stL at m22;have g3:Gd (es ++ [.agg [y0,y1,y2,y3,y4,y5]]):=J9 g (Ed g2 En)
   by_cases he2:e2=0
   ·subst he2
    obtain⟨_,y,hy,hry⟩:=h2 rfl;have h0n:((0:Int) != 0)=false:=rfl;simp(disch:=omega)only[go_sem,reduceAdd,reduceEqDiff,reduceLeDiff,T2,hf1,h0n,happ,m22];refine Ey (w:=[44]) hm ?_
    cases hb:isB ts m 0 [44]with
    |true =>
     have hw:=(Dy hb).2;have hn:=hw.next ht hm;have hw2:=Fl m (by omega)
     simp(disch:=omega)only[go_sem,reduceAdd,reduceEqDiff,reduceLeDiff,T2,hw2,m22];refine oL ht hE d (m+1) 0 p2 S1.next (es ++ [.agg [y0,y1,y2,y3,y4,y5]]) _ _ (by omega) hn (by omega) g3 (by rw[Ja3];show es.length+1≤_;omega) ⟨by simp only[A0,reduceEqDiff,Ab,T1],by simp only[A0,reduceEqDiff,Ab,T2],by simp only[A0,reduceEqDiff,Ab,T4],by simp only[A0,reduceEqDiff,Aa,Ab],?_,?_,?_,?_,?_⟩ (fun _=>⟨l ++ [y],Pg hrep hry,fun y' q' l' m' hy' hr'=>hcont y m l' m' hy (rest_go (by rw[hw.2];simp) hy' hr')⟩) rfl
     ·simp only[A5,Aa];rfl
     ·simp only[A5,reduceEqDiff,Ab];exact m23
     ·show 4≤S2.next
      omega
     ·refine ro2.keep (Ja1 _) (fun h2 h3=>?_)
      have q1:¬ S1.next=2:=by omega
      rw[A5,if_neg q1]
     ·exact⟨by omega,by omega⟩
    |false =>
     have hn1:=G6 ht hm hb (by decide)
     simp(disch:=omega)only[go_sem,reduceAdd,reduceEqDiff,reduceLeDiff,T2,m22];refine⟨_,_,rfl,m,0,p2,S1.next,es ++ [.agg [y0,y1,y2,y3,y4,y5]],⟨by simp only[A0,reduceEqDiff,Ab,T1],by simp only[A0,reduceEqDiff,Ab,T2],by simp only[A0,reduceEqDiff,Ab,T4],by simp only[A0,reduceEqDiff,Aa,Ab],?_,?_,?_,?_,?_⟩,hm,by omega,g3,fun _=>⟨l ++ [y],Pg hrep hry,fun hc=>hcont y m (l ++ [y]) (m+1) hy (jQ (fun h=>hn1 (Jb5.1 h)) hc)⟩⟩
     ·exact m22
     ·exact m23
     ·omega
     ·exact ro2
     ·exact⟨by omega,by omega⟩
   ·have h0n:(e2 != 0)=true:=by rw[bne_iff_ne];exact he2
    simp(disch:=omega)only[go_sem,reduceAdd,reduceEqDiff,reduceLeDiff,T2,hf1,h0n,happ,m22];refine⟨_,_,rfl,m,e2,p2,S1.next,es ++ [.agg [y0,y1,y2,y3,y4,y5]],⟨by simp only[A0,reduceEqDiff,Ab,T1],by simp only[A0,reduceEqDiff,Ab,T2],by simp only[A0,reduceEqDiff,Ab,T4],by simp only[A0,reduceEqDiff,Aa,Ab],?_,?_,?_,?_,?_⟩,hm,by omega,g3,fun h=>absurd h he2⟩
    ·exact m22
    ·exact m23
    ·omega
    ·exact ro2
    ·exact⟨by omega,by omega⟩
  |false =>
   simp(disch:=omega)only[go_sem,reduceAdd,reduceEqDiff,reduceLeDiff,eW,Tryz.f222,A2,T1,T2,M2,hf2,hf3,h0,i2,Bool.and_self];refine Ma (Wr ts) (by kernel_rfl) hj (hE j p1 hj hij) fun m e2 p2 y0 y1 y2 y3 y4 y5 hm hjm g2 h2=>?_
   have hx6:(AV.agg [y0,y1,y2,y3,y4,y5]).cells.length=6:=rfl;simp(disch:=omega)only[go_sem,reduceAdd,reduceEqDiff,reduceLeDiff,stA,stL,T2,T6,M2,i2,j2,Bool.and_self];generalize hS1:(((S.newBox [.v (.int .i64 0),.v (.int .i64 0),.v (.int .i64 0),.v (.string ⟨⟨[]⟩⟩),.v (.bool false),.nils]).to S.next [.v (.int .i64 0),.v (.int .i64 0),.v (.int .i64 0),.v (.string ⟨⟨[]⟩⟩),.v (.bool false),.nils]).to 2 [lvA ts,.v (.int .i64 (m:Int)),.v (.int .i64 e2),.v (.int .i64 p2)]).to S.next [y0,y1,y2,y3,y4,y5]=S1;have n1:S1.next=S.next+1:=by rw[← hS1];rfl
   have m12:S1.mem.get 2=some (.box (stL ts m e2 p2)):=by
    rw[← hS1];simp only[A5,Bj,Aa,Ab,i2];rfl
   have m13:S1.mem.get 3=some (.box [.nils,.v (.int .i64 0),.v (.int .i64 0),.v (.int .i64 0)]):=by
    rw[← hS1];simp only[A5,Bj,reduceEqDiff,Ab,i3,M3]
   have ro1:Ka 6 S1 tok es:=by
    refine RO.keep (by omega) (fun h2 h3=>?_)
    have q1:¬ tok=S.next:=by omega
    rw[← hS1];simp only[A5,Bj,if_neg q1,if_neg NT2.1]
   obtain⟨bytes,hrt⟩:=yt60;obtain⟨S2,happ,ro2,n2,k2⟩:=J3 (E:=E3 ts) hrt rfl rfl ro1 (by omega) (.agg [y0,y1,y2,y3,y4,y5]) hx6 hlen
   have m22:S2.mem.get 2=some (.box (stL ts m e2 p2)):=(k2 2 (fun h=>NT2.1 h.symm) (by omega)).trans m12
   have m23:S2.mem.get 3=some (.box [.nils,.v (.int .i64 0),.v (.int .i64 0),.v (.int .i64 0)]):=(k2 3 (fun h=>NT2.2 h.symm) (by omega)).trans m13
   unfold stL at m22;have g3:Gd (es ++ [.agg [y0,y1,y2,y3,y4,y5]]):=J9 g (Ed g2 En)
   by_cases he2:e2=0
   ·subst he2
    obtain⟨_,y,hy,hry⟩:=h2 rfl;have h0n:((0:Int) != 0)=false:=rfl;simp(disch:=omega)only[go_sem,reduceAdd,reduceEqDiff,reduceLeDiff,T2,hf1,h0n,happ,m22];refine Ey (w:=[44]) hm ?_
    cases hb:isB ts m 0 [44]with
    |true =>
     have hw:=(Dy hb).2;have hn:=hw.next ht hm;have hw2:=Fl m (by omega)
     simp(disch:=omega)only[go_sem,reduceAdd,reduceEqDiff,reduceLeDiff,T2,hw2,m22];refine oL ht hE d (m+1) 0 p2 S1.next (es ++ [.agg [y0,y1,y2,y3,y4,y5]]) _ _ (by omega) hn (by omega) g3 (by rw[Ja3];show es.length+1≤_;omega) ⟨by simp only[A0,reduceEqDiff,Ab,T1],by simp only[A0,reduceEqDiff,Ab,T2],by simp only[A0,reduceEqDiff,Ab,T4],by simp only[A0,reduceEqDiff,Aa,Ab],?_,?_,?_,?_,?_⟩ (fun _=>⟨l ++ [y],Pg hrep hry,fun y' q' l' m' hy' hr'=>hcont y m l' m' hy (rest_go (by rw[hw.2];simp) hy' hr')⟩) rfl
     ·simp only[A5,Aa];rfl
     ·simp only[A5,reduceEqDiff,Ab];exact m23
     ·show 4≤S2.next
      omega
     ·refine ro2.keep (Ja1 _) (fun h2 h3=>?_)
      have q1:¬ S1.next=2:=by omega
      rw[A5,if_neg q1]
     ·exact⟨by omega,by omega⟩
    |false =>
     have hn1:=G6 ht hm hb (by decide)
     simp(disch:=omega)only[go_sem,reduceAdd,reduceEqDiff,reduceLeDiff,T2,m22];refine⟨_,_,rfl,m,0,p2,S1.next,es ++ [.agg [y0,y1,y2,y3,y4,y5]],⟨by simp only[A0,reduceEqDiff,Ab,T1],by simp only[A0,reduceEqDiff,Ab,T2],by simp only[A0,reduceEqDiff,Ab,T4],by simp only[A0,reduceEqDiff,Aa,Ab],?_,?_,?_,?_,?_⟩,hm,by omega,g3,fun _=>⟨l ++ [y],Pg hrep hry,fun hc=>hcont y m (l ++ [y]) (m+1) hy (jQ (fun h=>hn1 (Jb5.1 h)) hc)⟩⟩
     ·exact m22
     ·exact m23
     ·omega
     ·exact ro2
     ·exact⟨by omega,by omega⟩
   ·have h0n:(e2 != 0)=true:=by rw[bne_iff_ne];exact he2
    simp(disch:=omega)only[go_sem,reduceAdd,reduceEqDiff,reduceLeDiff,T2,hf1,h0n,happ,m22];refine⟨_,_,rfl,m,e2,p2,S1.next,es ++ [.agg [y0,y1,y2,y3,y4,y5]],⟨by simp only[A0,reduceEqDiff,Ab,T1],by simp only[A0,reduceEqDiff,Ab,T2],by simp only[A0,reduceEqDiff,Ab,T4],by simp only[A0,reduceEqDiff,Aa,Ab],?_,?_,?_,?_,?_⟩,hm,by omega,g3,fun h=>absurd h he2⟩
    ·exact m22
    ·exact m23
    ·omega
    ·exact ro2
    ·exact⟨by omega,by omega⟩
theorem uX{ts:List Tk}{i:Nat}{e p:Int}{bl:Bool}(S':St)(j:Nat)(e1 p1:Int)(tok o:Nat)(es:List AV)(hj:j<ts.length)(hij:i≤j)(g:Gd es)(hh:e1=0→e=0∧∃l x m,RepF es l∧RdX ts (if bl then .lit else .expr) i x m∧RestX ts (if bl then .lit else .expr) [x] m l j):
  ∃a S'',R.ret (.tup [stA ts j e1 p1,.sl tok o 6 es]) S' = R.ret a S''∧Bw a=true∧Fv ts 222 [stA ts i e p,.v (.bool bl)] (clean a):=by
 refine⟨_,_,rfl,?_,?_⟩
 ·show(Bw _ && (C5 es && true))=true
  rw[K1,g.1];rfl
 intro i' e' p' b' h hi;obtain⟨h1,h2⟩:=Cy h;obtain⟨rfl,rfl,rfl⟩:=Mb h1;have:=vb_inj (Cy h2).1;subst this;refine⟨j,e1,p1,Be es,?_,hj,hij,g.2.2,fun h0=>?_⟩
 ·show AV.tup [clean _,.sl 0 0 6 (Be es)]=_
  rw[Jf]
 ·obtain⟨q1,l,x,m,q2,q3,q4⟩:=hh h0
  exact⟨q1,l,x,m,(Ym q2).2,q3,q4⟩
theorem qT{ts:List Tk}{S:St}{Q:R→Prop}{i:Nat}{e p:Int}{bl:Bool}(hi:i<ts.length)(hk:Kn3 ts 222 [stA ts i e p,.v (.bool bl)])(h:∀j e' p' es,j<ts.length→i≤j→Gd es→(e' = 0→e=0∧∃l x m,RepF es l∧RdX ts (if bl then .lit else .expr) i x m∧RestX ts (if bl then .lit else .expr) [x] m l j)→Q (.ret (.tup [stA ts j e' p',.sl 0 0 6 es]) S)):WC (E3 ts) 222 [stA ts i e p,.v (.bool bl)] S Q :=
 P9 hk (by kernel_rfl) (free2 _ _ _ _ _) (pS _ _ _ _ _) fun a hf hc hs=>by
  obtain⟨j,e',p',es,rfl,q1,q2,q3,q4⟩:=hs i e p bl rfl hi;refine h j e' p' es q1 q2 ?_ q4;have hf:(Bw _ && (C5 es && true))=true:=hf;simp only[Bool.and_true,Ja2]at hf;have hc:AV.tup [clean _,.sl 0 0 6 (Be es)]=_:=hc;injection hc with hc
  injection hc with _ hc
  injection hc with hc _
  injection hc with _ _ _ hc
  exact Vk hf.2 hc q3
theorem kids_k{ts:List Tk}(ht:Tok3 ts)(i:Nat)(e p:Int)(bl:Bool)(hi:i<ts.length)(hE:e=0→∀i' p,i'<ts.length→i≤i'→Kn3 ts 182 [stA ts i' 0 p]):Kn3 ts 222 [stA ts i e p,.v (.bool bl)]:=by
 refine Jq Tryz.f222 (by kernel_rfl) (by kernel_rfl) (by show(_:Nat)≤_;simp[Tryz.f222]) ?_
 have hsz:=ht.size;obtain⟨fn1,hf1⟩:=fX 115
 by_cases he:e=0
 ·subst he
  have key:=fun t S=>oL ht (bl:=bl) (i:=i) (hE rfl) (ts.length+1) i 0 p 1 [] t S
  unfold eW at key;simp only[Tryz.f222]at key;simp(disch:=omega)only[go_sem,reduceAdd,reduceEqDiff,Tryz.f222,stA,stL];refine WX.mono (key _ _ (by omega) hi (Ja1 _) En (Nat.zero_le _) ⟨?_,?_,?_,?_,?_,?_,?_,.one _ _ _,⟨by omega,by omega⟩⟩ (fun _=>⟨[],.nil,fun y q l' m' hy hr=>⟨y,q,hy,hr⟩⟩) trivial) ?_
  ·simp only[A0,reduceEqDiff,Aa,Ab]
  ·simp only[A0,reduceEqDiff,Aa,Ab]
  ·simp only[A0,reduceEqDiff,Aa,Ab]
  ·simp only[A0,reduceEqDiff,Aa,Ab]
  ·simp only[Bj,B6,Br,reduceAdd,reduceEqDiff,Aa,Ab];rfl
  ·simp only[Bj,B6,Br,reduceAdd,reduceEqDiff,Aa,Ab]
  ·simp only[Ei,B6,Br];omega
  rintro _ ⟨t',S',rfl,m,e2,p2,tok,es,⟨T1,T2,T4,T6,M2,M3,hnx,RO,NT2⟩,hm,him,g,hh⟩;unfold stL at M2;simp(disch:=omega)only[go_sem,reduceAdd,reduceLeDiff,hf1,T2,M2];refine Di (w:=[41]) ht hm fun j3 e3 p3 hj3 hmj h3=>?_
  simp(disch:=omega)only[go_sem,Nat.reduceLT,reduceAdd,reduceEqDiff,reduceLeDiff,stA,stL,T4,T6,M3,Bool.and_self];refine uX _ j3 e3 p3 tok 0 es hj3 (by omega) g (fun h=>?_)
  obtain⟨h4,hw,rfl⟩:=h3 h;obtain⟨l,hl,hc⟩:=hh h4;obtain⟨x,q,hx,hr⟩:=hc (by rw[hw.2];simp)
  exact⟨rfl,l,x,q,hl,hx,hr⟩
 ·have h0:(e == 0)=false:=by rw[beq_eq_false_iff_ne];exact he
  simp(disch:=omega)only[go_sem,reduceAdd,reduceEqDiff,Tryz.f222,stA,stL];refine Bt (Bp ?_);simp(disch:=omega)only[go_sem,reduceAdd,reduceEqDiff,reduceLeDiff,A2,hf1,h0,Bool.and_self];refine Di (w:=[41]) ht hi fun j3 e3 p3 hj3 hmj h3=>?_
  simp(disch:=omega)only[go_sem,Nat.reduceLT,reduceAdd,reduceEqDiff,reduceLeDiff,stA,stL,Bool.and_self];exact uX _ j3 e3 p3 1 0 [] hj3 (by omega) En (fun h=>absurd (h3 h).1 he)
theorem ybc(p:Int)(s:ByteArray):Du Tryz.prog 64 [(0,.v (.int .i64 13)),(1,.v (.int .i64 p)),(3,.v (.string s))]=some (.agg [.v (.int .i64 13),.v (.int .i64 p),.v (.int .i64 0),.v (.string s),.v (.bool false),.nils]):=by kernel_rfl
theorem vA{ts:List Tk}{i:Nat}{e p:Int}{n:List UInt8}{at_:Nat}(S':St)(j:Nat)(e1 p1:Int){x0 x1 x2 x3 x4 x5:AV}(hj:j<ts.length)(hij:i≤j)(g:Gd [x0,x1,x2,x3,x4,x5])(hh:e1=0→e=0∧∃l,RepE (.agg [x0,x1,x2,x3,x4,x5]) (.mk 13 at_ 0 n false l)∧mQ ts i l j):
  ∃a S'',R.ret (.tup [stA ts j e1 p1,.agg [x0,x1,x2,x3,x4,x5]]) S' = R.ret a S''∧Bw a=true∧Fv ts 181 [stA ts i e p,A2 n,.v (.int .i64 (at_:Int))] (clean a):=by
 obtain⟨q1,q2⟩:=Y5 (i:=i) (e:=e) (p:=p) (ok:=fun v j=>∃l,RepE v (.mk 13 at_ 0 n false l)∧mQ ts i l j) j e1 p1 x0 x1 x2 x3 x4 x5 rfl hj hij g.1 g.2.2 (fun h=>by
  obtain⟨h1,l,h2,h3⟩:=hh h
  exact⟨h1,l,Ln h2,h3⟩)
 refine⟨_,_,rfl,q1,?_⟩;intro i' e' p' n' a' h hi;obtain⟨h1,h2⟩:=Cy h;obtain⟨rfl,rfl,rfl⟩:=Mb h1;obtain⟨h3,h4⟩:=Cy h2;have:=J6 h3;subst this;have h4:=v_inj (Cy h4).1;have:at_=a':=by omega
 subst this;exact q2
theorem qU{ts:List Tk}{S:St}{Q:R→Prop}{i:Nat}{e p:Int}{n:List UInt8}{at_:Nat}(hi:i<ts.length)(hk:Kn3 ts 181 [stA ts i e p,A2 n,.v (.int .i64 (at_:Int))])
  (h:∀(j:Nat) (e' p':Int) (x0 x1 x2 x3 x4 x5:AV),j<ts.length→i≤j→Gd [x0,x1,x2,x3,x4,x5]→(e' = 0→e=0∧∃l,RepE (.agg [x0,x1,x2,x3,x4,x5]) (.mk 13 at_ 0 n false l)∧mQ ts i l j)→Q (.ret (.tup [stA ts j e' p',.agg [x0,x1,x2,x3,x4,x5]]) S)):WC (E3 ts) 181 [stA ts i e p,A2 n,.v (.int .i64 (at_:Int))] S Q :=
 aO (i:=i) (e:=e) (ok:=fun v j=>∃l,RepE v (.mk 13 at_ 0 n false l)∧mQ ts i l j) hk (by kernel_rfl) (free3 _ _ _ _ _ _) (clean3 _ _ _ _ _ _) (fun a ha=>ha i e p n at_ rfl hi) fun j e' p' x0 x1 x2 x3 x4 x5 q1 q2 q3 q4 q5 q6=>h j e' p' x0 x1 x2 x3 x4 x5 q1 q2 (Vk q3 q4 q5) q6
theorem call_k{ts:List Tk}(ht:Tok3 ts)(i:Nat)(e p:Int)(n:List UInt8)(at_:Nat)(hi:i<ts.length)(hK:∀i' e p,i'<ts.length→(i<i'∨e≠0)→Kn3 ts 222 [stA ts i' e p,.v (.bool false)]):Kn3 ts 181 [stA ts i e p,A2 n,.v (.int .i64 (at_:Int))]:=by
 refine Jq Tryz.f181 (by kernel_rfl) (by kernel_rfl) (by show(_:Nat)≤_;simp[Tryz.f181]) ?_
 have hsz:=ht.size;obtain⟨fn1,hf1⟩:=fX 118;obtain⟨fn2,hf2⟩:=fX 115;obtain⟨fn3,hf3⟩:=fX 222;simp(disch:=omega)only[go_sem,reduceAdd,reduceEqDiff,reduceLeDiff,Tryz.f181,stA,stL,A2,hf2,ybc,Bool.and_self];refine Di (w:=[40]) ht hi fun j e1 p1 hj hij h1=>?_
 simp(disch:=omega)only[go_sem,reduceAdd,reduceEqDiff,reduceLeDiff,stA,stL,hf1,Bool.and_self];refine Ey (w:=[41]) hj ?_
 cases hb:isB ts j e1 [41]with
 |true =>
  obtain⟨rfl,hw⟩:=Dy hb;obtain⟨rfl,hw1,rfl⟩:=h1 rfl;have hn:=hw.next ht hj;have hw2:=Fl (i+1) (by omega)
  simp(disch:=omega)only[go_sem,reduceAdd,reduceEqDiff,reduceLeDiff,hf3,hw2];refine Dd [(0,true),(1,true),(2,true),(1,false),(3,true)] (by kernel_rfl) (by kernel_rfl) ?_
  simp(disch:=omega)only[go_sem,reduceAdd,reduceEqDiff,reduceLeDiff,Bool.and_self];exact vA _ (i+1+1) 0 p1 hn (by omega) (Z3 13 at_ 0 n false) (fun _=>⟨rfl,[],.mk 13 at_ 0 n false .nils [] .nil,hw1,.inl ⟨hw,rfl,rfl⟩⟩)
 |false =>
  simp(disch:=omega)only[go_sem,reduceAdd,reduceEqDiff,reduceLeDiff,hf3]
  have hki:Kn3 ts 222 [stA ts j e1 p1,.v (.bool false)]:=by
   refine hK j e1 p1 hj ?_
   by_cases he:e1=0
   ·obtain⟨_,_,rfl⟩:=h1 he
    exact .inl (by omega)
   ·exact .inr he
  refine qT (bl:=false) hj hki fun m e2 p2 es hm hjm g h2=>?_
  have b5:=g.2.1;simp(disch:=omega)only[go_sem,reduceAdd,reduceEqDiff,reduceLeDiff,stA,stL,Bool.and_self];refine Dd [(0,true),(1,true),(2,true),(1,false),(3,true)] (by kernel_rfl) (by kernel_rfl) ?_
  simp(disch:=omega)only[go_sem,Nat.reduceLT,reduceAdd,reduceEqDiff,reduceLeDiff,b5,Bool.and_self];refine vA _ m e2 p2 hm (by omega) (Vl 13 at_ 0 n false 0 0 g) (fun h=>?_)
  obtain⟨h3,l,x,q,hl,hx,hr⟩:=h2 h;subst h3;obtain⟨rfl,hw1,rfl⟩:=h1 rfl;exact⟨rfl,l,.mk 13 at_ 0 n false _ l (.row _ _ es l hl),hw1,.inr ⟨lD hb,x,q,hx,hr⟩⟩
def mgLB:Code:=match Tryz.f286.body with
 |some (.seq _ (.seq _ (.seq _ (.seq _ (.seq _ (.seq _ (.seq _ (.seq (.seq _ (.block _ (.seq _ (.cond _ (.seq _ (.seq _ (.seq (.seq _ (.block _ (.loop c))) _))) _)))) _))))))))=>c
 |_=>.skip
def BrkL(ts:List Tk)(i0:Nat)(l:List PE)(j:Nat):Prop:=(l=[]∧j=i0)∨(∃x,l=[x]∧RdX ts .brk i0 x j)∨(∃x y m,l=[x,y]∧RdX ts .brk i0 x m∧RdX ts .brk m y j)
theorem brk_go{ts:List Tk}{i0:Nat}{l:List PE}{j j':Nat}{x:PE}(h:BrkL ts i0 l j)(hl:l.length<2)(hx:RdX ts .brk j x j'):BrkL ts i0 (l ++ [x]) j':=by
 rcases h with⟨rfl,rfl⟩ | ⟨a,rfl,h⟩ | ⟨a,b,m,rfl,_,_⟩
 ·exact .inr (.inl ⟨x,rfl,hx⟩)
 ·exact .inr (.inr ⟨a,x,j,rfl,h,hx⟩)
 ·simp at hl
theorem G9:∀{es:List AV} {l:List PE},RepF es l→l.length=es.length
 |_,_,.nil=>rfl
 |_,_,.cons a e r l h h2=>by rw[Jb7,Jb7,G9 h2]
def KvO(S:St)(kv:AV)(es:List AV):Prop:=(kv=.nils∧es=[])∨∃tok,kv=.sl tok 0 6 es∧Ka 6 S tok es∧tok≠2∧tok≠3∧tok≠4∧tok≠6
structure AtM(ts:List Tk)(c:Nat)(at_:Int)(nm:List UInt8)(j:Nat)(e1 p1:Int)(kv:AV)(es:List AV)(t:T AV)(S:St):Prop where
 t1:t.get 1=some (.ptr 2 0)
 t2:t.get 2=some (.ptr 3 0)
 t3:t.get 3=some (.ptr 4 0)
 t5:t.get 5=some (.ptr 6 0)
 t6:t.get 6=some (.v (.int .i64 (c:Int)))
 m2:S.mem.get 2=some (.box (stL ts j e1 p1))
 m3:S.mem.get 3=some (.box [.nils,.v (.int .i64 0),.v (.int .i64 0),.v (.int .i64 0)])
 m4:S.mem.get 4=some (.box [.v (.int .i64 0),.v (.int .i64 0),.v (.int .i64 0),.v (.string ⟨⟨[]⟩⟩),.v (.bool false),.nils])
 m6:S.mem.get 6=some (.box [.v (.int .i64 12),.v (.int .i64 at_),.v (.int .i64 0),A2 nm,.v (.bool false),kv])
 nx:7≤S.next
 kv:KvO S kv es
def MgEnd(ts:List Tk)(i0:Nat)(at_:Int)(nm:List UInt8)(r:O):Prop:=∃t' S',r=.out (.exit 1) ⟨t',[]⟩ S'∧∃(c m:Nat) (e2 p2:Int) (kv:AV) (es:List AV),AtM ts c at_ nm m e2 p2 kv es t' S'∧m<ts.length∧i0≤m∧Gd es∧(e2=0→∃x y q,RepF es [x,y]∧RdX ts .brk i0 x q∧RdX ts .brk q y m)
theorem mg_lp{ts:List Tk}(ht:Tok3 ts){i i0:Nat}{at_:Int}{nm:List UInt8}(hE:∀i' e p,i'<ts.length→(i<i'∨e≠0)→Kn3 ts 182 [stA ts i' e p]):∀(d c j:Nat) (e1 p1:Int) (kv:AV) (es:List AV) (t:T AV) (S:St),2 - c<d→c≤2→es.length=c→j<ts.length→i<j→i0≤j→Gd es→AtM ts c at_ nm j e1 p1 kv es t S →
  (e1=0→∃l,RepF es l∧BrkL ts i0 l j)→WX (E3 ts) 143 (.loop mgLB) ⟨t,[]⟩ S (MgEnd ts i0 at_ nm)
 |0,c,j,e1,p1,kv,es,t,S,hd,_,_,_,_,_,_,_,_=>absurd hd (by omega)
 |d+1,c,j,e1,p1,kv,es,t,S,hd,hc2,hec,hj,hij,hi0,g,⟨T1,T2,T3,T5,T6,M2,M3,M4,M6,hnx,KV⟩,hR=>by
  refine Bt (Bp ?_);have hsz:=ht.size;obtain⟨fn2,hf2⟩:=fX 115;obtain⟨fn3,hf3⟩:=fX 182;have hlen:es.length≤2000000:=by omega
  unfold stL at M2;unfold A2 at M6;have i2:(2:Nat)=S.next↔False:=⟨fun h=>by omega,fun h=>h.elim⟩
  have i3:(3:Nat)=S.next↔False:=⟨fun h=>by omega,fun h=>h.elim⟩
  have i4:(4:Nat)=S.next↔False:=⟨fun h=>by omega,fun h=>h.elim⟩
  have i6:(6:Nat)=S.next↔False:=⟨fun h=>by omega,fun h=>h.elim⟩
  have j2:S.next=(2:Nat)↔False:=⟨fun h=>by omega,fun h=>h.elim⟩
  have j6:S.next=(6:Nat)↔False:=⟨fun h=>by omega,fun h=>h.elim⟩
  by_cases hcc:c<2
  ·have hc:decide ((c:Int)<2)=true:=by rw[decide_eq_true_eq];omega
   have hw2:=Fl c (by omega)
   by_cases he:e1=0
   ·subst he
    have h0:((0:Int) == 0)=true:=rfl;obtain⟨l,hrep,hbrk⟩:=hR rfl;simp(disch:=omega)only[go_sem,reduceAdd,reduceEqDiff,reduceLeDiff,mgLB,Tryz.f286,A2,T1,T6,M2,hf2,h0,hc,i2,Bool.and_self];refine Di (w:=[40]) ht hj fun jj2 e2 p2 hj2 hl2 h2=>?_
    simp(disch:=omega)only[go_sem,reduceAdd,reduceEqDiff,reduceLeDiff,stA,stL,T1,M2,hf3,i2,Bool.and_self];refine Ma (Wr ts) (by kernel_rfl) hj2 (hE jj2 e2 p2 hj2 (by omega)) fun jj3 e3 p3 y0 y1 y2 y3 y4 y5 hj3 hl3 g3 h3=>?_
    simp(disch:=omega)only[go_sem,reduceAdd,reduceEqDiff,reduceLeDiff,stA,stL,T1,M2,hf2,i2,j2,Bool.and_self];refine Di (w:=[41]) ht hj3 fun j4 e4 p4 hj4 hl4 h4=>?_
    have hx6:(AV.agg [y0,y1,y2,y3,y4,y5]).cells.length=6:=rfl;obtain⟨bytes,hrt⟩:=yt60;simp(disch:=omega)only[go_sem,reduceAdd,reduceEqDiff,reduceLeDiff,stA,stL,T1,T5,M2,M6,i2,i6,j2,Bool.and_self];generalize hS1:(((((S.newBox [.v (.int .i64 0),.v (.int .i64 0),.v (.int .i64 0),.v (.string ⟨⟨[]⟩⟩),.v (.bool false),.nils]).to S.next [.v (.int .i64 0),.v (.int .i64 0),.v (.int .i64 0),.v (.string ⟨⟨[]⟩⟩),.v (.bool false),.nils]).to 2 [lvA ts,.v (.int .i64 (jj2:Int)),.v (.int .i64 e2),.v (.int .i64 p2)]).to 2 [lvA ts,.v (.int .i64 (jj3:Int)),.v (.int .i64 e3),.v (.int .i64 p3)]).to S.next [y0,y1,y2,y3,y4,y5]).to 2 [lvA ts,.v (.int .i64 (j4:Int)),.v (.int .i64 e4),.v (.int .i64 p4)]=S1;have n1:S1.next=S.next+1:=by rw[← hS1];rfl
    have m12:S1.mem.get 2=some (.box (stL ts j4 e4 p4)):=by
     rw[← hS1];simp only[A5,Bj,Aa,Ab,i2];rfl
    have m13:S1.mem.get 3=some (.box [.nils,.v (.int .i64 0),.v (.int .i64 0),.v (.int .i64 0)]):=by
     rw[← hS1];simp only[A5,Bj,reduceEqDiff,Ab,i3,M3]
    have m14:S1.mem.get 4=some (.box [.v (.int .i64 0),.v (.int .i64 0),.v (.int .i64 0),.v (.string ⟨⟨[]⟩⟩),.v (.bool false),.nils]):=by
     rw[← hS1];simp only[A5,Bj,reduceEqDiff,Ab,i4,M4]
    have m16:S1.mem.get 6=some (.box [.v (.int .i64 12),.v (.int .i64 at_),.v (.int .i64 0),.v (.string ⟨⟨nm⟩⟩),.v (.bool false),kv]):=by
     rw[← hS1];simp only[A5,Bj,reduceEqDiff,Ab,i6,M6]
    rcases KV with⟨rfl,rfl⟩ | ⟨tok,rfl,RO,q2,q3,q4,q6⟩
    ·obtain⟨S2,happ,ro2,n2,k2⟩:=Wy (E:=E3 ts) (S:=S1) hrt rfl rfl (by omega) (.agg [y0,y1,y2,y3,y4,y5]) hx6
     have m22:S2.mem.get 2=some (.box (stL ts j4 e4 p4)):=(k2 2 (by omega) (by omega)).trans m12
     have m23:S2.mem.get 3=some (.box [.nils,.v (.int .i64 0),.v (.int .i64 0),.v (.int .i64 0)]):=(k2 3 (by omega) (by omega)).trans m13
     have m24:S2.mem.get 4=some (.box [.v (.int .i64 0),.v (.int .i64 0),.v (.int .i64 0),.v (.string ⟨⟨[]⟩⟩),.v (.bool false),.nils]):=(k2 4 (by omega) (by omega)).trans m14
     have m26:=(k2 6 (by omega) (by omega)).trans m16
     unfold stL at m22;simp(disch:=omega)only[go_sem,reduceAdd,reduceEqDiff,reduceLeDiff,T5,T6,happ,m26,hw2];have hg3:Gd ([] ++ [.agg [y0,y1,y2,y3,y4,y5]]):=J9 g (Ed g3 En);refine mg_lp ht hE d (c+1) j4 e4 p4 (.sl S1.next 0 6 ([] ++ [.agg [y0,y1,y2,y3,y4,y5]])) ([] ++ [.agg [y0,y1,y2,y3,y4,y5]]) _ _ (by omega) (by omega) (by rw[Ja3,hec];rfl) hj4 (by omega) (by omega) hg3 ⟨by simp only[A0,reduceEqDiff,Ab,T1],by simp only[A0,reduceEqDiff,Ab,T2],by simp only[A0,reduceEqDiff,Ab,T3],by simp only[A0,reduceEqDiff,Ab,T5],?_,?_,?_,?_,?_,?_,?_⟩ (fun h=>?_)
     ·simp only[A0,reduceEqDiff,Aa,Ab]
     ·simp only[A5,reduceEqDiff,Ab];exact m22
     ·simp only[A5,reduceEqDiff,Ab];exact m23
     ·simp only[A5,reduceEqDiff,Ab];exact m24
     ·simp only[A5,Aa] <;> rfl
     ·show 7≤S2.next
      omega
     ·refine .inr ⟨S1.next,rfl,ro2.keep (Ja1 _) (fun h2 h3=>?_),by omega,by omega,by omega,by omega⟩
      have q1:¬ S1.next=6:=by omega
      rw[A5,if_neg q1]
     ·obtain⟨z3,w4,rfl⟩:=h4 h
      obtain⟨z2,y,hy,hry⟩:=h3 z3;obtain⟨_,w2,rfl⟩:=h2 z2;exact⟨l ++ [y],Pg hrep hry,brk_go hbrk (by rw[G9 hrep,hec];omega) (xN (by rw[w2.2];simp) hy (by rw[w4.2];simp))⟩
    ·have ro1:Ka 6 S1 tok es:=by
      refine RO.keep (by omega) (fun h2 h3=>?_)
      have q1:¬ tok=S.next:=by omega
      rw[← hS1];simp only[A5,Bj,if_neg q1,if_neg q2]
     obtain⟨S2,happ,ro2,n2,k2⟩:=J3 (E:=E3 ts) hrt rfl rfl ro1 (by omega) (.agg [y0,y1,y2,y3,y4,y5]) hx6 hlen
     have m22:S2.mem.get 2=some (.box (stL ts j4 e4 p4)):=(k2 2 (fun h=>q2 h.symm) (by omega)).trans m12
     have m23:S2.mem.get 3=some (.box [.nils,.v (.int .i64 0),.v (.int .i64 0),.v (.int .i64 0)]):=(k2 3 (fun h=>q3 h.symm) (by omega)).trans m13
     have m24:S2.mem.get 4=some (.box [.v (.int .i64 0),.v (.int .i64 0),.v (.int .i64 0),.v (.string ⟨⟨[]⟩⟩),.v (.bool false),.nils]):=(k2 4 (fun h=>q4 h.symm) (by omega)).trans m14
     have m26:=(k2 6 (fun h=>q6 h.symm) (by omega)).trans m16
     unfold stL at m22;simp(disch:=omega)only[go_sem,reduceAdd,reduceEqDiff,reduceLeDiff,T5,T6,happ,m26,hw2];have hg3:Gd (es ++ [.agg [y0,y1,y2,y3,y4,y5]]):=J9 g (Ed g3 En);refine mg_lp ht hE d (c+1) j4 e4 p4 (.sl S1.next 0 6 (es ++ [.agg [y0,y1,y2,y3,y4,y5]])) (es ++ [.agg [y0,y1,y2,y3,y4,y5]]) _ _ (by omega) (by omega) (by rw[Ja3,hec];rfl) hj4 (by omega) (by omega) hg3 ⟨by simp only[A0,reduceEqDiff,Ab,T1],by simp only[A0,reduceEqDiff,Ab,T2],by simp only[A0,reduceEqDiff,Ab,T3],by simp only[A0,reduceEqDiff,Ab,T5],?_,?_,?_,?_,?_,?_,?_⟩ (fun h=>?_)
     ·simp only[A0,reduceEqDiff,Aa,Ab]
     ·simp only[A5,reduceEqDiff,Ab];exact m22
     ·simp only[A5,reduceEqDiff,Ab];exact m23
     ·simp only[A5,reduceEqDiff,Ab];exact m24
     ·simp only[A5,Aa] <;> rfl
     ·show 7≤S2.next
      omega
     ·refine .inr ⟨S1.next,rfl,ro2.keep (Ja1 _) (fun h2 h3=>?_),by omega,by omega,by omega,by omega⟩
      have q1:¬ S1.next=6:=by omega
      rw[A5,if_neg q1]
     ·obtain⟨z3,w4,rfl⟩:=h4 h
      obtain⟨z2,y,hy,hry⟩:=h3 z3;obtain⟨_,w2,rfl⟩:=h2 z2;exact⟨l ++ [y],Pg hrep hry,brk_go hbrk (by rw[G9 hrep,hec];omega) (xN (by rw[w2.2];simp) hy (by rw[w4.2];simp))⟩
   ·have h0:(e1 == 0)=false:=by rw[beq_eq_false_iff_ne];exact he
    simp(disch:=omega)only[go_sem,reduceAdd,reduceEqDiff,reduceLeDiff,mgLB,Tryz.f286,A2,T1,T6,M2,hf2,h0,hc,i2,Bool.and_self];refine⟨_,_,rfl,c,j,e1,p1,kv,es,⟨by simp only[A0,reduceEqDiff,Ab,T1],by simp only[A0,reduceEqDiff,Ab,T2],by simp only[A0,reduceEqDiff,Ab,T3],by simp only[A0,reduceEqDiff,Ab,T5],?_,?_,?_,?_,?_,?_,?_⟩,hj,hi0,g,fun h=>absurd h he⟩
    ·simp only[A0,reduceEqDiff,Ab,T6]
    ·exact M2
    ·exact M3
    ·exact M4
    ·exact M6
    ·exact hnx
    ·exact KV
  ·have hc:decide ((c:Int)<2)=false:=by rw[decide_eq_false];omega
   simp(disch:=omega)only[go_sem,reduceAdd,reduceEqDiff,reduceLeDiff,mgLB,Tryz.f286,A2,T1,T6,M2,hf2,hc,i2,Bool.and_self];refine⟨_,_,rfl,c,j,e1,p1,kv,es,⟨by simp only[A0,reduceEqDiff,Ab,T1],by simp only[A0,reduceEqDiff,Ab,T2],by simp only[A0,reduceEqDiff,Ab,T3],by simp only[A0,reduceEqDiff,Ab,T5],?_,?_,?_,?_,?_,?_,?_⟩,hj,hi0,g,fun h=>?_⟩
   ·simp only[A0,reduceEqDiff,Ab,T6]
   ·exact M2
   ·exact M3
   ·exact M4
   ·exact M6
   ·exact hnx
   ·exact KV
   ·obtain⟨l,hrep,hbrk⟩:=hR h
    have hl:=G9 hrep;rcases hbrk with⟨rfl,rfl⟩ | ⟨x,rfl,hx⟩ | ⟨x,y,q,rfl,hx,hy⟩
    ·simp at hl;omega
    ·simp at hl;omega
    ·exact⟨x,y,q,hrep,hx,hy⟩
theorem Uq{ts:List Tk}(ht:Tok3 ts){j:Nat}(hj:j<ts.length){ws:List (List UInt8)}(hws:(ws.all fun w=>decide (w∈E9∨w∈Cu) && decide (w≠[]))=true):(inS ts j 0 ws=[]∧(tk ts j).text ∉ ws)∨(inS ts j 0 ws=(tk ts j).text∧(tk ts j).text∈ws∧(tk ts j).text≠[]∧j+1<ts.length):=by
 unfold inS
 cases hf:ws.find? (fun w=>isB ts j 0 w)with
 |none =>
  refine .inl ⟨rfl,fun hm=>?_⟩
  have h1:=List.find?_eq_none.1 hf _ hm;have h2:=Jb6.1 hws _ hm;have h1:isB ts j 0 (tk ts j).text=false:=by simpa using h1
  exact G6 ht hj h1 h2 rfl
 |some w =>
  have h1:=List.find?_some hf;have h1:isB ts j 0 w=true:=h1;have hm:=List.mem_of_find?_eq_some hf;have hw:=(Dy h1).2;have h2:=Jb6.1 hws _ hm;rw[Ja2,decide_eq_true_eq,decide_eq_true_eq]at h2;refine .inr ⟨hw.2.symm,by rw[hw.2];exact hm,by rw[hw.2];exact h2.2,hw.next ht hj⟩
def Vc:Code:=match Tryz.f250.body with
 |some (.seq _ (.seq _ (.seq _ (.seq _ (.seq _ (.seq _ (.seq _ (.seq (.seq _ (.block _ (.loop c))) _))))))))=>c
 |_=>.skip
structure AtR(ts:List Tk)(lv:Nat)(ws:List (List UInt8))(n:Int)(j:Nat)(e1 p1:Int)(x0 x1 x2 x3 x4 x5:AV)(t:T AV)(S:St):Prop where
 t1:t.get 1=some (.v (.int .i64 (lv:Int)))
 t2:t.get 2=some (.ptr 2 0)
 t4:t.get 4=some (.ptr 3 0)
 t5:t.get 5=some (.ptr 4 0)
 t9:t.get 9=some (.sl 1 0 1 (ws.map A2))
 t10:t.get 10=some (.ptr 5 0)
 t11:t.get 11=some (.v (.int .i64 n))
 m2:S.mem.get 2=some (.box (stL ts j e1 p1))
 m3:S.mem.get 3=some (.box [.nils,.v (.int .i64 0),.v (.int .i64 0),.v (.int .i64 0)])
 m4:S.mem.get 4=some (.box [.v (.int .i64 0),.v (.int .i64 0),.v (.int .i64 0),A2 [],.v (.bool false),.nils])
 m5:S.mem.get 5=some (.box [x0,x1,x2,x3,x4,x5])
 nx:6≤S.next
def zY(ts:List Tk)(lv i:Nat)(e:Int)(r:O):Prop:=∃t' S',r=.out .ret ⟨t',[]⟩ S'∧t'.get 4=some (.ptr 3 0)∧t'.get 5=some (.ptr 4 0)∧∃(m:Nat) (e2 p2:Int) (y0 y1 y2 y3 y4 y5:AV),S'.mem.get 3=some (.box (stL ts m e2 p2))∧S'.mem.get 4=some (.box [y0,y1,y2,y3,y4,y5])∧m<ts.length∧i≤m∧Gd [y0,y1,y2,y3,y4,y5]∧(e2=0→e=0∧∃y,RdX ts (ntL lv) i y m∧RepE (.agg [y0,y1,y2,y3,y4,y5]) y)
theorem Yj{ts:List Tk}(ht:Tok3 ts){lv i:Nat}(hlv:lv≤4)(hl2:lv≠2){ws:List (List UInt8)}(hws:(ws.all fun w=>decide (w∈E9∨w∈Cu) && decide (w≠[]))=true)(hwl:ws.length≤1000)(hro:∀i' p,i'<ts.length→i<i'→Kn3 ts 250 [stA ts i' 0 p,.v (.int .i64 ((lv+1:Nat):Int))]):∀(d n j:Nat) (e1 p1:Int) (x0 x1 x2 x3 x4 x5:AV) (t:T AV) (S:St),ts.length - j<d→n≤j→j<ts.length→i≤j→Gd [x0,x1,x2,x3,x4,x5]→AtR ts lv ws n j e1 p1 x0 x1 x2 x3 x4 x5 t S →
  (e1=0→∃x,RepE (.agg [x0,x1,x2,x3,x4,x5]) x∧∀y m,RowX ts ws (ntL (lv+1)) x j y m→RdX ts (ntL lv) i y m)→WX (E3 ts) 115 (.loop Vc) ⟨t,[]⟩ S (zY ts lv i 0)
 |0,n,j,e1,p1,x0,x1,x2,x3,x4,x5,t,S,hd,_,_,_,_,_,_=>absurd hd (by omega)
 |d+1,n,j,e1,p1,x0,x1,x2,x3,x4,x5,t,S,hd,hnj,hj,hij,g,⟨T1,T2,T4,T5,T9,T10,T11,M2,M3,M4,M5,hnx⟩,hR=>by
  refine Bt (Bp ?_);have hsz:=ht.size;obtain⟨fn1,hf1⟩:=fX 272;obtain⟨fn2,hf2⟩:=fX 250;have hl3:((lv:Int) != 2)=true:=by rw[bne_iff_ne];omega
  have hxj:=Ld ts j hj;have a0:=(Dh g.2.1).1;have a1:=(Dh g.2.1).2.1;have a2:=(Dh g.2.1).2.2.1;have a3:=(Dh g.2.1).2.2.2.1;have a4:=(Dh g.2.1).2.2.2.2.1;have a5:=(Dh g.2.1).2.2.2.2.2;unfold stL at M2;have hw3:=Fl lv (by omega)
  have hcc:WX (E3 ts) 115 (.loop Vc) ⟨t,[]⟩ S (zY ts lv i 0)=WX (E3 ts) 115 (.loop Vc) ⟨t,[]⟩ S (zY ts lv i 0):=rfl
  cases hc:((n:Int) == 0)with
  |true =>
   simp(maxSteps:=9^7) (disch:=omega)only[go_sem,reduceAdd,reduceEqDiff,reduceLeDiff,Vc,Tryz.f250,T1,T2,T9,T11,M2,hf1,hc];refine mX (p:=p1) (ws:=ws) hj hwl ?_
   by_cases he:e1=0
   ·subst he
    have h0:((0:Int) != 0)=false:=rfl;obtain⟨x,hrep,hcont⟩:=hR rfl;rcases Uq ht hj hws with⟨hs,hno⟩ | ⟨hs,hyes,hne,hn⟩
    ·rw[hs]
     simp(maxSteps:=9^7) (disch:=omega)only[go_sem,reduceAdd,reduceEqDiff,reduceLeDiff,tkL,A2,T2,M2,h0,hxj,Bool.and_self,G7];refine Dd [(0,true),(1,true),(2,true),(1,false),(3,true)] (by kernel_rfl) (by kernel_rfl) ?_
     simp(maxSteps:=9^7) (disch:=omega)only[go_sem,reduceAdd,reduceEqDiff,reduceLeDiff,A2,T2,T4,T5,T10,M2,M3,M4,M5,a0,a1,a2,a3,a4,a5,Bool.and_self];refine⟨_,_,rfl,?_,?_,j,0,p1,x0,x1,x2,x3,x4,x5,?_,?_,hj,hij,g,fun _=>⟨rfl,x,hcont _ _ (rU hno),hrep⟩⟩
     ·simp only[A0,reduceEqDiff,Ab,T4]
     ·simp only[A0,reduceEqDiff,Ab,T5]
     ·simp only[A5,reduceEqDiff,Aa,Ab];rfl
     ·simp only[A5,reduceEqDiff,Aa,Ab]
    ·rw[hs]
     have hb:decide ((tk ts j).text=[])=false:=decide_eq_false hne;have hw2:=Fl j (by omega)
     have hw4:=Fl n (by omega)
     have i2:(2:Nat)=S.next↔False:=⟨fun h=>by omega,fun h=>h.elim⟩
     have i3:(3:Nat)=S.next↔False:=⟨fun h=>by omega,fun h=>h.elim⟩
     have i4:(4:Nat)=S.next↔False:=⟨fun h=>by omega,fun h=>h.elim⟩
     have i5:(5:Nat)=S.next↔False:=⟨fun h=>by omega,fun h=>h.elim⟩
     have j2:S.next=(2:Nat)↔False:=⟨fun h=>by omega,fun h=>h.elim⟩
     have j5:S.next=(5:Nat)↔False:=⟨fun h=>by omega,fun h=>h.elim⟩
     simp(maxSteps:=9^7) (disch:=omega)only[go_sem,reduceAdd,reduceEqDiff,reduceLeDiff,tkL,A2,T1,T2,M2,hf2,h0,hxj,hw2,hw3,hb,i2,j2,Bool.and_self,G7];refine K0 (lv:=lv+1) (by omega) hn (hro (j+1) p1 hn (by omega)) fun m e2 p2 y0 y1 y2 y3 y4 y5 hm hjm g2 h2=>?_
     have b0:=(Dh g2.2.1).1;have b1:=(Dh g2.2.1).2.1;have b2:=(Dh g2.2.1).2.2.1;have b3:=(Dh g2.2.1).2.2.2.1;have b4:=(Dh g2.2.1).2.2.2.2.1;have b5:=(Dh g2.2.1).2.2.2.2.2;simp(maxSteps:=9^7) (disch:=omega)only[go_sem,reduceAdd,reduceEqDiff,reduceLeDiff,stA,stL,T2,T10,T11,M2,M5,i2,i5,j2,hw4,Bool.and_self];have g3:=Vl 6 (tk ts j).pos 0 (tk ts j).text false 1 0 (Ed g (Ed g2 En));refine Yj ht hlv hl2 hws hwl hro d (n+1) m e2 p2 _ _ _ _ _ _ _ _ (by omega) (by omega) hm (by omega) g3 ⟨?_,?_,?_,?_,?_,?_,?_,?_,?_,?_,?_,?_⟩ (fun h=>?_)
     ·simp only[A0,reduceEqDiff,Ab,T1]
     ·simp only[A0,reduceEqDiff,Ab,T2]
     ·simp only[A0,reduceEqDiff,Ab,T4]
     ·simp only[A0,reduceEqDiff,Ab,T5]
     ·simp only[A0,reduceEqDiff,Ab,T9]
     ·simp only[A0,reduceEqDiff,Ab,T10]
     ·simp only[A0,reduceEqDiff,Aa,Ab]
     ·simp only[A5,Bj,Ei,reduceEqDiff,Aa,Ab,i2,M2];rfl
     ·simp only[A5,Bj,Ei,reduceEqDiff,Ab,i3,M3]
     ·simp only[A5,Bj,Ei,reduceEqDiff,Ab,i4,M4]
     ·simp only[A5,Bj,Ei,reduceEqDiff,Aa,Ab,i5,M5];rfl
     ·show 6≤S.next+1
      omega
     ·obtain⟨_,y,hy,hry⟩:=h2 h
      exact⟨_,.mk 6 (tk ts j).pos 0 (tk ts j).text false _ [x,y] (.row _ _ _ _ (.cons _ _ _ _ hrep (.cons _ _ _ _ hry .nil))),fun z m' hr=>hcont _ _ (row_go hyes hy hr)⟩
   ·have h0:(e1 != 0)=true:=by rw[bne_iff_ne];exact he
    simp(maxSteps:=9^7) (disch:=omega)only[go_sem,reduceAdd,reduceEqDiff,reduceLeDiff,tkL,A2,T2,M2,h0,hxj,Bool.and_self];refine Dd [(0,true),(1,true),(2,true),(1,false),(3,true)] (by kernel_rfl) (by kernel_rfl) ?_
    simp(maxSteps:=9^7) (disch:=omega)only[go_sem,reduceAdd,reduceEqDiff,reduceLeDiff,A2,T2,T4,T5,T10,M2,M3,M4,M5,a0,a1,a2,a3,a4,a5,Bool.and_self];refine⟨_,_,rfl,?_,?_,j,e1,p1,x0,x1,x2,x3,x4,x5,?_,?_,hj,hij,g,fun h=>absurd h he⟩
    ·simp only[A0,reduceEqDiff,Ab,T4]
    ·simp only[A0,reduceEqDiff,Ab,T5]
    ·simp only[A5,reduceEqDiff,Aa,Ab];rfl
    ·simp only[A5,reduceEqDiff,Aa,Ab]
  |false =>
   simp(maxSteps:=9^7) (disch:=omega)only[go_sem,reduceAdd,reduceEqDiff,reduceLeDiff,Vc,Tryz.f250,T1,T2,T9,T11,M2,hf1,hc,hl3];refine mX (p:=p1) (ws:=ws) hj hwl ?_
   by_cases he:e1=0
   ·subst he
    have h0:((0:Int) != 0)=false:=rfl;obtain⟨x,hrep,hcont⟩:=hR rfl;rcases Uq ht hj hws with⟨hs,hno⟩ | ⟨hs,hyes,hne,hn⟩
    ·rw[hs]
     simp(maxSteps:=9^7) (disch:=omega)only[go_sem,reduceAdd,reduceEqDiff,reduceLeDiff,tkL,A2,T2,M2,h0,hxj,Bool.and_self,G7];refine Dd [(0,true),(1,true),(2,true),(1,false),(3,true)] (by kernel_rfl) (by kernel_rfl) ?_
     simp(maxSteps:=9^7) (disch:=omega)only[go_sem,reduceAdd,reduceEqDiff,reduceLeDiff,A2,T2,T4,T5,T10,M2,M3,M4,M5,a0,a1,a2,a3,a4,a5,Bool.and_self];refine⟨_,_,rfl,?_,?_,j,0,p1,x0,x1,x2,x3,x4,x5,?_,?_,hj,hij,g,fun _=>⟨rfl,x,hcont _ _ (rU hno),hrep⟩⟩
     ·simp only[A0,reduceEqDiff,Ab,T4]
     ·simp only[A0,reduceEqDiff,Ab,T5]
     ·simp only[A5,reduceEqDiff,Aa,Ab];rfl
     ·simp only[A5,reduceEqDiff,Aa,Ab]
    ·rw[hs]
     have hb:decide ((tk ts j).text=[])=false:=decide_eq_false hne;have hw2:=Fl j (by omega)
     have hw4:=Fl n (by omega)
     have i2:(2:Nat)=S.next↔False:=⟨fun h=>by omega,fun h=>h.elim⟩
     have i3:(3:Nat)=S.next↔False:=⟨fun h=>by omega,fun h=>h.elim⟩
     have i4:(4:Nat)=S.next↔False:=⟨fun h=>by omega,fun h=>h.elim⟩
     have i5:(5:Nat)=S.next↔False:=⟨fun h=>by omega,fun h=>h.elim⟩
     have j2:S.next=(2:Nat)↔False:=⟨fun h=>by omega,fun h=>h.elim⟩
     have j5:S.next=(5:Nat)↔False:=⟨fun h=>by omega,fun h=>h.elim⟩
     simp(maxSteps:=9^7) (disch:=omega)only[go_sem,reduceAdd,reduceEqDiff,reduceLeDiff,tkL,A2,T1,T2,M2,hf2,h0,hxj,hw2,hw3,hb,i2,j2,Bool.and_self,G7];refine K0 (lv:=lv+1) (by omega) hn (hro (j+1) p1 hn (by omega)) fun m e2 p2 y0 y1 y2 y3 y4 y5 hm hjm g2 h2=>?_
     have b0:=(Dh g2.2.1).1;have b1:=(Dh g2.2.1).2.1;have b2:=(Dh g2.2.1).2.2.1;have b3:=(Dh g2.2.1).2.2.2.1;have b4:=(Dh g2.2.1).2.2.2.2.1;have b5:=(Dh g2.2.1).2.2.2.2.2;simp(maxSteps:=9^7) (disch:=omega)only[go_sem,reduceAdd,reduceEqDiff,reduceLeDiff,stA,stL,T2,T10,T11,M2,M5,i2,i5,j2,hw4,Bool.and_self];have g3:=Vl 6 (tk ts j).pos 0 (tk ts j).text false 1 0 (Ed g (Ed g2 En));refine Yj ht hlv hl2 hws hwl hro d (n+1) m e2 p2 _ _ _ _ _ _ _ _ (by omega) (by omega) hm (by omega) g3 ⟨?_,?_,?_,?_,?_,?_,?_,?_,?_,?_,?_,?_⟩ (fun h=>?_)
     ·simp only[A0,reduceEqDiff,Ab,T1]
     ·simp only[A0,reduceEqDiff,Ab,T2]
     ·simp only[A0,reduceEqDiff,Ab,T4]
     ·simp only[A0,reduceEqDiff,Ab,T5]
     ·simp only[A0,reduceEqDiff,Ab,T9]
     ·simp only[A0,reduceEqDiff,Ab,T10]
     ·simp only[A0,reduceEqDiff,Aa,Ab]
     ·simp only[A5,Bj,Ei,reduceEqDiff,Aa,Ab,i2,M2];rfl
     ·simp only[A5,Bj,Ei,reduceEqDiff,Ab,i3,M3]
     ·simp only[A5,Bj,Ei,reduceEqDiff,Ab,i4,M4]
     ·simp only[A5,Bj,Ei,reduceEqDiff,Aa,Ab,i5,M5];rfl
     ·show 6≤S.next+1
      omega
     ·obtain⟨_,y,hy,hry⟩:=h2 h
      exact⟨_,.mk 6 (tk ts j).pos 0 (tk ts j).text false _ [x,y] (.row _ _ _ _ (.cons _ _ _ _ hrep (.cons _ _ _ _ hry .nil))),fun z m' hr=>hcont _ _ (row_go hyes hy hr)⟩
   ·have h0:(e1 != 0)=true:=by rw[bne_iff_ne];exact he
    simp(maxSteps:=9^7) (disch:=omega)only[go_sem,reduceAdd,reduceEqDiff,reduceLeDiff,tkL,A2,T2,M2,h0,hxj,Bool.and_self];refine Dd [(0,true),(1,true),(2,true),(1,false),(3,true)] (by kernel_rfl) (by kernel_rfl) ?_
    simp(maxSteps:=9^7) (disch:=omega)only[go_sem,reduceAdd,reduceEqDiff,reduceLeDiff,A2,T2,T4,T5,T10,M2,M3,M4,M5,a0,a1,a2,a3,a4,a5,Bool.and_self];refine⟨_,_,rfl,?_,?_,j,e1,p1,x0,x1,x2,x3,x4,x5,?_,?_,hj,hij,g,fun h=>absurd h he⟩
    ·simp only[A0,reduceEqDiff,Ab,T4]
    ·simp only[A0,reduceEqDiff,Ab,T5]
    ·simp only[A5,reduceEqDiff,Aa,Ab];rfl
    ·simp only[A5,reduceEqDiff,Aa,Ab]
end Go.Ax
