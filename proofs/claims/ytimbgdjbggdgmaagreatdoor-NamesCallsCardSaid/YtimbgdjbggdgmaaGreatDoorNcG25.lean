/- ZyYa -/
import Derived.Test.YtimbgdjbggdgmaaGreatDoorNcG21
import Derived.Test.YtimbgdjbggdgmaaGreatDoorNcG19
import Derived.Test.YtimbgdjbggdgmaaGreatDoorNcG24
import Derived.Test.YtimbgdjbggdgmaaGreatDoorNcG17
set_option linter.unusedVariables false
set_option linter.unusedSimpArgs false
set_option maxHeartbeats 16000000
noncomputable section
open Nat (reduceAdd reduceEqDiff reduceLeDiff)
namespace Go.Ax
open Go.RowKit Go.Proofs
set_option maxRecDepth 100000
theorem dZ{ts:List Tk}(ht:Tok3 ts){v0:Nat}{nm:List UInt8}{at_:Int}{v1 v2:AV}:∀(d j:Nat) (e1 p1:Int) (vv:AV) (es:List AV) (t:T AV) (S:St),ts.length - j<d→j<ts.length→v0≤j→Gd es→es.length≤j→AtN ts j e1 p1 nm at_ v1 v2 vv .nils t S→DvO 6 S vv es →
  (e1=0→∃l:List PD,es=l.map D7∧HeadV ts v0 j l)→WX (E3 ts) 111 (.loop nvLB) ⟨t,[]⟩ S (NvEnd ts v0 nm at_ v1 v2)
 |0,j,e1,p1,vv,es,t,S,hd,_,_,_,_,_,_,_=>absurd hd (by omega)
 |d+1,j,e1,p1,vv,es,t,S,hd,hj,hij,g,hel,⟨T1,T2,T3,T4,M2,M3,M4,M5,hnx⟩,DV,hR=>by
  refine Bt (Bp ?_);have hsz:=ht.size;obtain⟨fn1,hf1⟩:=fX 118;obtain⟨fn2,hf2⟩:=fX 115;obtain⟨fn3,hf3⟩:=fX 116;obtain⟨fn4,hf4⟩:=fX 119;have hlen:es.length≤2000000:=by omega
  unfold stL at M2;unfold A2 at M5;have i2:(2:Nat)=S.next↔False:=⟨fun h=>by omega,fun h=>h.elim⟩
  have i3:(3:Nat)=S.next↔False:=⟨fun h=>by omega,fun h=>h.elim⟩
  have i4:(4:Nat)=S.next↔False:=⟨fun h=>by omega,fun h=>h.elim⟩
  have i5:(5:Nat)=S.next↔False:=⟨fun h=>by omega,fun h=>h.elim⟩
  have j2:S.next=(2:Nat)↔False:=⟨fun h=>by omega,fun h=>h.elim⟩
  have j5:S.next=(5:Nat)↔False:=⟨fun h=>by omega,fun h=>h.elim⟩
  have hyn:∀S,Eo Tryz.prog S 42 vv=some es.length:=fun S=>by
   rcases DV with⟨rfl,rfl⟩ | ⟨tok,rfl,_⟩
   ·exact ynn42 S
   ·exact yn42 S tok 0 es
  by_cases he:e1=0
  ·subst he
   have h0:((0:Int) == 0)=true:=rfl;obtain⟨l,hes,hhead⟩:=hR rfl
   cases hlg:(((es.length:Nat):Int) == 0)with
   |true =>
    simp(maxSteps:=9^7) (disch:=omega)only[go_sem,reduceAdd,reduceEqDiff,reduceLeDiff,nvLB,Tryz.f64,A2,T1,T4,M2,M5,hf1,hf4,h0,hlg,i2,hyn,Bool.and_self];refine cA ht hj fun m e2 p2 y0 y1 y2 y3 y4 y5 hm hjm g2 h2=>?_
    simp(maxSteps:=9^7) (disch:=omega)only[go_sem,reduceAdd,reduceEqDiff,reduceLeDiff,stA,stL,T1,M2,hf1,i2,j2,Bool.and_self];refine Ey (w:=[119,104,101,110]) hm ?_
    cases hb:isB ts m e2 [119,104,101,110]with
    |true =>
     obtain⟨rfl,hw⟩:=Dy hb;obtain⟨_,dd,hdA,hdP,hjd⟩:=h2 rfl;obtain⟨hk1,hdo,hdc⟩:=Sa hdP;obtain⟨dn,dp,db,df,dc,dof⟩:=dd;simp only at hdo hdc;subst hdo;subst hdc;unfold D7 Fy Bk A2 at hdA;injection hdA with hdA
     injection hdA with q0 hdA;injection hdA with q1 hdA;injection hdA with q2 hdA;injection hdA with q3 hdA;injection hdA with q4 hdA;injection hdA with q5 hdA
     subst q0;subst q1;subst q2;subst q3;subst q4;subst q5;have hn:=hw.next ht hm;have hw2:=Fl m (by omega)
     simp(maxSteps:=9^7) (disch:=omega)only[go_sem,reduceAdd,reduceEqDiff,reduceLeDiff,T1,M2,hf1,hf2,hw2,i2];refine Ey (w:=[110,111,116]) hn ?_
     cases hb2:isB ts (m+1) 0 [110,111,116]with
     |true =>
      have hwn:=(Dy hb2).2;have hn2:=hwn.next ht hn;have hw3:=Fl (m+1) (by omega)
      simp(maxSteps:=9^7) (disch:=omega)only[go_sem,reduceAdd,reduceEqDiff,reduceLeDiff,T1,M2,hf3,hw3,i2,j2];refine J0 ht hn2 fun q e3 p3 cn ca hq hmq h3=>?_
      simp(maxSteps:=9^7) (disch:=omega)only[go_sem,reduceAdd,reduceEqDiff,reduceLeDiff,stA,stL,A2,T1,M2,hf2,i2,j2,Bool.and_self];refine Di (w:=[59]) ht hq fun r e4 p4 hr hqr h4=>?_
      simp(maxSteps:=9^7) (disch:=omega)only[go_sem,reduceAdd,reduceEqDiff,reduceLeDiff,stA,stL,T1,T4,M2,M5,i2,i5,j2,Bool.and_self];generalize hS1:((((((((((S.newBox [.v (.string ⟨⟨[]⟩⟩),.v (.int .i64 0),.v (.bool false),.v (.bool false),.v (.string ⟨⟨[]⟩⟩),.v (.bool false)]).to S.next [.v (.string ⟨⟨[]⟩⟩),.v (.int .i64 0),.v (.bool false),.v (.bool false),.v (.string ⟨⟨[]⟩⟩),.v (.bool false)]).to 2 [lvA ts,.v (.int .i64 ((m:Nat):Int)),.v (.int .i64 0),.v (.int .i64 p2)]).to S.next [.v (.string ⟨⟨dn⟩⟩),.v (.int .i64 (dp:Int)),.v (.bool db),.v (.bool df),.v (.string ⟨⟨[]⟩⟩),.v (.bool false)]).to 2 [lvA ts,.v (.int .i64 (((m+1:Nat)):Int)),.v (.int .i64 0),.v (.int .i64 p2)]).to S.next [.v (.string ⟨⟨dn⟩⟩),.v (.int .i64 (dp:Int)),.v (.bool db),.v (.bool df),.v (.string ⟨⟨[]⟩⟩),.v (.bool true)]).to 2 [lvA ts,.v (.int .i64 (((m+1+1:Nat)):Int)),.v (.int .i64 0),.v (.int .i64 p2)]).to 2 [lvA ts,.v (.int .i64 ((q:Nat):Int)),.v (.int .i64 e3),.v (.int .i64 p3)]).to S.next [.v (.string ⟨⟨dn⟩⟩),.v (.int .i64 (dp:Int)),.v (.bool db),.v (.bool df),.v (.string ⟨⟨cn⟩⟩),.v (.bool true)]).to 2 [lvA ts,.v (.int .i64 ((r:Nat):Int)),.v (.int .i64 e4),.v (.int .i64 p4)])=S1;have n1:S1.next=S.next+1:=by rw[← hS1];rfl
      have m12:S1.mem.get 2=some (.box (stL ts r e4 p4)):=by
       rw[← hS1];simp only[A5,Bj,Aa,Ab,i2];rfl
      have m13:S1.mem.get 3=some (.box [.nils,.v (.int .i64 0),.v (.int .i64 0),.v (.int .i64 0)]):=by
       rw[← hS1];simp only[A5,Bj,reduceEqDiff,Ab,i3,M3]
      have m14:S1.mem.get 4=some (.box [.v (.string ⟨⟨[]⟩⟩),.v (.int .i64 0),.nils,.nils,.nils,.nils]):=by
       rw[← hS1];simp only[A5,Bj,reduceEqDiff,Ab,i4,M4]
      have m15:S1.mem.get 5=some (.box [.v (.string ⟨⟨nm⟩⟩),.v (.int .i64 at_),v1,v2,vv,.nils]):=by
       rw[← hS1];simp only[A5,Bj,reduceEqDiff,Ab,i5,M5]
      have dv1:DvO 6 S1 vv es:=H0 DV (by omega) (fun id h6 hlt=>by
       have q1:¬ id=S.next:=by omega
       have q2:¬ id=2:=by omega
       rw[← hS1]
       simp only[A5,Bj,if_neg q1,if_neg q2])
      obtain⟨bytes,hrt⟩:=wL;obtain⟨S2,happ,dv2,n2,k2⟩:=Pm (ts:=ts) hrt dv1 (by omega) (.agg [.v (.string ⟨⟨dn⟩⟩),.v (.int .i64 (dp:Int)),.v (.bool db),.v (.bool df),.v (.string ⟨⟨cn⟩⟩),.v (.bool true)]) rfl hlen
      have m22:=(k2 2 (by omega) (by omega)).trans m12
      have m23:=(k2 3 (by omega) (by omega)).trans m13
      have m24:=(k2 4 (by omega) (by omega)).trans m14
      have m25:=(k2 5 (by omega) (by omega)).trans m15
      unfold stL at m22;simp(maxSteps:=9^7) (disch:=omega)only[go_sem,reduceAdd,reduceEqDiff,reduceLeDiff,T4,happ,m25];refine dZ ht d r e4 p4 (.sl S1.next 0 6 (es ++ [.agg [.v (.string ⟨⟨dn⟩⟩),.v (.int .i64 (dp:Int)),.v (.bool db),.v (.bool df),.v (.string ⟨⟨cn⟩⟩),.v (.bool true)]])) (es ++ [.agg [.v (.string ⟨⟨dn⟩⟩),.v (.int .i64 (dp:Int)),.v (.bool db),.v (.bool df),.v (.string ⟨⟨cn⟩⟩),.v (.bool true)]]) _ _ (by omega) hr (by omega) (J9 g (Ed (Xi dn cn _ _ _ _) En)) (by rw[Ja3];show es.length+1≤_;omega) ⟨by simp only[A0,reduceEqDiff,Ab,T1],by simp only[A0,reduceEqDiff,Ab,T2],by simp only[A0,reduceEqDiff,Ab,T3],by simp only[A0,reduceEqDiff,Ab,T4],?_,?_,?_,?_,?_⟩ (H0 (S:=S2) dv2 (Ja1 S2.next) (fun id h6 _=>by rw[A5,if_neg (by omega)])) (fun h=>?_)
      ·simp only[A5,reduceEqDiff,Ab];exact m22
      ·simp only[A5,reduceEqDiff,Ab];exact m23
      ·simp only[A5,reduceEqDiff,Ab];exact m24
      ·simp only[A5,Aa] <;> rfl
      ·show 6≤S2.next
       omega
      ·obtain⟨z3,w4,rfl⟩:=h4 h
       obtain⟨_,hkc,rfl,rfl,rfl⟩:=h3 z3;refine⟨l ++ [⟨dn,dp,db,df,(tk ts (m+2)).text,true⟩],by rw[Jd4,← hes];rfl,Q2 hk1 (O0 (c:=((tk ts (m+2)).text,true)) hdP (by rw[hw.2];simp) (Zg (by rw[hwn.2];simp) hkc) (by rw[w4.2];simp)) hhead⟩
     |false =>
      have hno:=G6 ht hn hb2 (by decide)
      simp(maxSteps:=9^7) (disch:=omega)only[go_sem,reduceAdd,reduceEqDiff,reduceLeDiff,T1,M2,hf3,i2,j2];refine J0 ht hn fun q e3 p3 cn ca hq hmq h3=>?_
      simp(maxSteps:=9^7) (disch:=omega)only[go_sem,reduceAdd,reduceEqDiff,reduceLeDiff,stA,stL,A2,T1,M2,hf2,i2,j2,Bool.and_self];refine Di (w:=[59]) ht hq fun r e4 p4 hr hqr h4=>?_
      simp(maxSteps:=9^7) (disch:=omega)only[go_sem,reduceAdd,reduceEqDiff,reduceLeDiff,stA,stL,T1,T4,M2,M5,i2,i5,j2,Bool.and_self];generalize hS1:((((((((S.newBox [.v (.string ⟨⟨[]⟩⟩),.v (.int .i64 0),.v (.bool false),.v (.bool false),.v (.string ⟨⟨[]⟩⟩),.v (.bool false)]).to S.next [.v (.string ⟨⟨[]⟩⟩),.v (.int .i64 0),.v (.bool false),.v (.bool false),.v (.string ⟨⟨[]⟩⟩),.v (.bool false)]).to 2 [lvA ts,.v (.int .i64 ((m:Nat):Int)),.v (.int .i64 0),.v (.int .i64 p2)]).to S.next [.v (.string ⟨⟨dn⟩⟩),.v (.int .i64 (dp:Int)),.v (.bool db),.v (.bool df),.v (.string ⟨⟨[]⟩⟩),.v (.bool false)]).to 2 [lvA ts,.v (.int .i64 (((m+1:Nat)):Int)),.v (.int .i64 0),.v (.int .i64 p2)]).to 2 [lvA ts,.v (.int .i64 ((q:Nat):Int)),.v (.int .i64 e3),.v (.int .i64 p3)]).to S.next [.v (.string ⟨⟨dn⟩⟩),.v (.int .i64 (dp:Int)),.v (.bool db),.v (.bool df),.v (.string ⟨⟨cn⟩⟩),.v (.bool false)]).to 2 [lvA ts,.v (.int .i64 ((r:Nat):Int)),.v (.int .i64 e4),.v (.int .i64 p4)])=S1;have n1:S1.next=S.next+1:=by rw[← hS1];rfl
      have m12:S1.mem.get 2=some (.box (stL ts r e4 p4)):=by
       rw[← hS1];simp only[A5,Bj,Aa,Ab,i2];rfl
      have m13:S1.mem.get 3=some (.box [.nils,.v (.int .i64 0),.v (.int .i64 0),.v (.int .i64 0)]):=by
       rw[← hS1];simp only[A5,Bj,reduceEqDiff,Ab,i3,M3]
      have m14:S1.mem.get 4=some (.box [.v (.string ⟨⟨[]⟩⟩),.v (.int .i64 0),.nils,.nils,.nils,.nils]):=by
       rw[← hS1];simp only[A5,Bj,reduceEqDiff,Ab,i4,M4]
      have m15:S1.mem.get 5=some (.box [.v (.string ⟨⟨nm⟩⟩),.v (.int .i64 at_),v1,v2,vv,.nils]):=by
       rw[← hS1];simp only[A5,Bj,reduceEqDiff,Ab,i5,M5]
      have dv1:DvO 6 S1 vv es:=H0 DV (by omega) (fun id h6 hlt=>by
       have q1:¬ id=S.next:=by omega
       have q2:¬ id=2:=by omega
       rw[← hS1]
       simp only[A5,Bj,if_neg q1,if_neg q2])
      obtain⟨bytes,hrt⟩:=wL;obtain⟨S2,happ,dv2,n2,k2⟩:=Pm (ts:=ts) hrt dv1 (by omega) (.agg [.v (.string ⟨⟨dn⟩⟩),.v (.int .i64 (dp:Int)),.v (.bool db),.v (.bool df),.v (.string ⟨⟨cn⟩⟩),.v (.bool false)]) rfl hlen
      have m22:=(k2 2 (by omega) (by omega)).trans m12
      have m23:=(k2 3 (by omega) (by omega)).trans m13
      have m24:=(k2 4 (by omega) (by omega)).trans m14
      have m25:=(k2 5 (by omega) (by omega)).trans m15
      unfold stL at m22;simp(maxSteps:=9^7) (disch:=omega)only[go_sem,reduceAdd,reduceEqDiff,reduceLeDiff,T4,happ,m25];refine dZ ht d r e4 p4 (.sl S1.next 0 6 (es ++ [.agg [.v (.string ⟨⟨dn⟩⟩),.v (.int .i64 (dp:Int)),.v (.bool db),.v (.bool df),.v (.string ⟨⟨cn⟩⟩),.v (.bool false)]])) (es ++ [.agg [.v (.string ⟨⟨dn⟩⟩),.v (.int .i64 (dp:Int)),.v (.bool db),.v (.bool df),.v (.string ⟨⟨cn⟩⟩),.v (.bool false)]]) _ _ (by omega) hr (by omega) (J9 g (Ed (Xi dn cn _ _ _ _) En)) (by rw[Ja3];show es.length+1≤_;omega) ⟨by simp only[A0,reduceEqDiff,Ab,T1],by simp only[A0,reduceEqDiff,Ab,T2],by simp only[A0,reduceEqDiff,Ab,T3],by simp only[A0,reduceEqDiff,Ab,T4],?_,?_,?_,?_,?_⟩ (H0 (S:=S2) dv2 (Ja1 S2.next) (fun id h6 _=>by rw[A5,if_neg (by omega)])) (fun h=>?_)
      ·simp only[A5,reduceEqDiff,Ab];exact m22
      ·simp only[A5,reduceEqDiff,Ab];exact m23
      ·simp only[A5,reduceEqDiff,Ab];exact m24
      ·simp only[A5,Aa] <;> rfl
      ·show 6≤S2.next
       omega
      ·obtain⟨z3,w4,rfl⟩:=h4 h
       obtain⟨_,hkc,rfl,rfl,rfl⟩:=h3 z3;refine⟨l ++ [⟨dn,dp,db,df,(tk ts (m+1)).text,false⟩],by rw[Jd4,← hes];rfl,Q2 hk1 (O0 (c:=((tk ts (m+1)).text,false)) hdP (by rw[hw.2];simp) (gI (fun h=>hno (Jb5.1 h)) hkc) (by rw[w4.2];simp)) hhead⟩
    |false =>
     simp(maxSteps:=9^7) (disch:=omega)only[go_sem,reduceAdd,reduceEqDiff,reduceLeDiff,T1,M2,hf1,hf2,i2];refine Di (w:=[59]) ht hm fun r e4 p4 hr hqr h4=>?_
     simp(maxSteps:=9^7) (disch:=omega)only[go_sem,reduceAdd,reduceEqDiff,reduceLeDiff,stA,stL,T1,T4,M2,M5,i2,i5,j2,Bool.and_self];generalize hS1:(((((S.newBox [.v (.string ⟨⟨[]⟩⟩),.v (.int .i64 0),.v (.bool false),.v (.bool false),.v (.string ⟨⟨[]⟩⟩),.v (.bool false)]).to S.next [.v (.string ⟨⟨[]⟩⟩),.v (.int .i64 0),.v (.bool false),.v (.bool false),.v (.string ⟨⟨[]⟩⟩),.v (.bool false)]).to 2 [lvA ts,.v (.int .i64 ((m:Nat):Int)),.v (.int .i64 e2),.v (.int .i64 p2)]).to S.next [y0,y1,y2,y3,y4,y5]).to 2 [lvA ts,.v (.int .i64 ((r:Nat):Int)),.v (.int .i64 e4),.v (.int .i64 p4)])=S1;have n1:S1.next=S.next+1:=by rw[← hS1];rfl
     have m12:S1.mem.get 2=some (.box (stL ts r e4 p4)):=by
      rw[← hS1];simp only[A5,Bj,Aa,Ab,i2];rfl
     have m13:S1.mem.get 3=some (.box [.nils,.v (.int .i64 0),.v (.int .i64 0),.v (.int .i64 0)]):=by
      rw[← hS1];simp only[A5,Bj,reduceEqDiff,Ab,i3,M3]
     have m14:S1.mem.get 4=some (.box [.v (.string ⟨⟨[]⟩⟩),.v (.int .i64 0),.nils,.nils,.nils,.nils]):=by
      rw[← hS1];simp only[A5,Bj,reduceEqDiff,Ab,i4,M4]
     have m15:S1.mem.get 5=some (.box [.v (.string ⟨⟨nm⟩⟩),.v (.int .i64 at_),v1,v2,vv,.nils]):=by
      rw[← hS1];simp only[A5,Bj,reduceEqDiff,Ab,i5,M5]
     have dv1:DvO 6 S1 vv es:=H0 DV (by omega) (fun id h6 hlt=>by
      have q1:¬ id=S.next:=by omega
      have q2:¬ id=2:=by omega
      rw[← hS1]
      simp only[A5,Bj,if_neg q1,if_neg q2])
     obtain⟨bytes,hrt⟩:=wL;obtain⟨S2,happ,dv2,n2,k2⟩:=Pm (ts:=ts) hrt dv1 (by omega) (.agg [y0,y1,y2,y3,y4,y5]) rfl hlen
     have m22:=(k2 2 (by omega) (by omega)).trans m12
     have m23:=(k2 3 (by omega) (by omega)).trans m13
     have m24:=(k2 4 (by omega) (by omega)).trans m14
     have m25:=(k2 5 (by omega) (by omega)).trans m15
     unfold stL at m22;simp(maxSteps:=9^7) (disch:=omega)only[go_sem,reduceAdd,reduceEqDiff,reduceLeDiff,T4,happ,m25]
     by_cases he4:e4=0
     ·have hjm2:j<m:=by
       obtain⟨_,dd,_,_,hjd⟩:=h2 (h4 he4).1;exact hjd
      refine dZ ht d r e4 p4 (.sl S1.next 0 6 (es ++ [.agg [y0,y1,y2,y3,y4,y5]])) (es ++ [.agg [y0,y1,y2,y3,y4,y5]]) _ _ (by omega) hr (by omega) (J9 g (Ed g2 En)) (by rw[Ja3];show es.length+1≤_;omega) ⟨by simp only[A0,reduceEqDiff,Ab,T1],by simp only[A0,reduceEqDiff,Ab,T2],by simp only[A0,reduceEqDiff,Ab,T3],by simp only[A0,reduceEqDiff,Ab,T4],?_,?_,?_,?_,?_⟩ (H0 (S:=S2) dv2 (Ja1 S2.next) (fun id h6 _=>by rw[A5,if_neg (by omega)])) (fun h=>?_)
      ·simp only[A5,reduceEqDiff,Ab];exact m22
      ·simp only[A5,reduceEqDiff,Ab];exact m23
      ·simp only[A5,reduceEqDiff,Ab];exact m24
      ·simp only[A5,Aa] <;> rfl
      ·show 6≤S2.next
       omega
      ·obtain⟨z2,w4,rfl⟩:=h4 h
       subst z2;obtain⟨_,dd,hdA,hdP,hjd⟩:=h2 rfl;obtain⟨hk1,_⟩:=Sa hdP;have hno:=G6 ht hm hb (by decide)
       refine⟨l ++ [dd],by rw[Jd4,← hes,hdA];rfl,Q2 hk1 (Vp hdP (fun h=>hno (Jb5.1 h)) (by rw[w4.2];simp)) hhead⟩
     ·have h0:(e4 == 0)=false:=by rw[beq_eq_false_iff_ne];exact he4
      refine Bt (Bp ?_);simp(maxSteps:=9^7) (disch:=omega)only[go_sem,reduceAdd,reduceEqDiff,reduceLeDiff,A2,T1,T4,hf1,h0,m22,Bool.and_self];refine⟨_,_,rfl,r,e4,p4,.sl S1.next 0 6 (es ++ [.agg [y0,y1,y2,y3,y4,y5]]),es ++ [.agg [y0,y1,y2,y3,y4,y5]],⟨by simp only[A0,reduceEqDiff,Ab,T1],by simp only[A0,reduceEqDiff,Ab,T2],by simp only[A0,reduceEqDiff,Ab,T3],by simp only[A0,reduceEqDiff,Ab,T4],?_,?_,?_,?_,?_⟩,H0 (S:=S2) dv2 (Ja1 S2.next) (fun id h6 _=>by rw[A5,if_neg (by omega)]),hr,by omega,J9 g (Ed g2 En),fun h=>absurd h he4⟩
      ·simp only[A5,reduceEqDiff,Ab];exact m22
      ·simp only[A5,reduceEqDiff,Ab];exact m23
      ·simp only[A5,reduceEqDiff,Ab];exact m24
      ·simp only[A5,Aa] <;> rfl
      ·show 6≤S2.next
       omega
   |false =>
    simp(maxSteps:=9^7) (disch:=omega)only[go_sem,reduceAdd,reduceEqDiff,reduceLeDiff,nvLB,Tryz.f64,T1,T4,M2,M5,hf1,h0,hlg,hyn];refine Ey (w:=[108,101,116]) hj ?_
    cases hb3:isB ts j 0 [108,101,116]with
    |true =>
     have hw:=(Dy hb3).2;simp(maxSteps:=9^7) (disch:=omega)only[go_sem,reduceAdd,reduceEqDiff,reduceLeDiff,A2,T1,M2,hf4,i2,Bool.and_self];have hne:l≠[]:=fun h=>by rw[hes,h]at hlg;cases hlg
     refine⟨_,_,rfl,j,0,p1,vv,es,⟨by simp only[A0,reduceEqDiff,Ab,T1],by simp only[A0,reduceEqDiff,Ab,T2],by simp only[A0,reduceEqDiff,Ab,T3],by simp only[A0,reduceEqDiff,Ab,T4],?_,?_,?_,?_,?_⟩,DV,hj,hij,g,fun _=>⟨l,hes,headV_end (fun hk=>?_) hne hhead⟩⟩
     ·exact M2
     ·exact M3
     ·exact M4
     ·exact M5
     ·exact hnx
     ·have:=ht.k3 j hj (by rw[hw.2];decide)
      omega
    |false =>
     simp(maxSteps:=9^7) (disch:=omega)only[go_sem,reduceAdd,reduceEqDiff,reduceLeDiff,A2,T1,M2,hf4,i2,Bool.and_self];refine cA ht hj fun m e2 p2 y0 y1 y2 y3 y4 y5 hm hjm g2 h2=>?_
     simp(maxSteps:=9^7) (disch:=omega)only[go_sem,reduceAdd,reduceEqDiff,reduceLeDiff,stA,stL,T1,M2,hf1,i2,j2,Bool.and_self];refine Ey (w:=[119,104,101,110]) hm ?_
     cases hb:isB ts m e2 [119,104,101,110]with
     |true =>
      obtain⟨rfl,hw⟩:=Dy hb;obtain⟨_,dd,hdA,hdP,hjd⟩:=h2 rfl;obtain⟨hk1,hdo,hdc⟩:=Sa hdP;obtain⟨dn,dp,db,df,dc,dof⟩:=dd;simp only at hdo hdc;subst hdo;subst hdc;unfold D7 Fy Bk A2 at hdA;injection hdA with hdA
      injection hdA with q0 hdA;injection hdA with q1 hdA;injection hdA with q2 hdA;injection hdA with q3 hdA;injection hdA with q4 hdA;injection hdA with q5 hdA
      subst q0;subst q1;subst q2;subst q3;subst q4;subst q5;have hn:=hw.next ht hm;have hw2:=Fl m (by omega)
      simp(maxSteps:=9^7) (disch:=omega)only[go_sem,reduceAdd,reduceEqDiff,reduceLeDiff,T1,M2,hf1,hf2,hw2,i2];refine Ey (w:=[110,111,116]) hn ?_
      cases hb2:isB ts (m+1) 0 [110,111,116]with
      |true =>
       have hwn:=(Dy hb2).2;have hn2:=hwn.next ht hn;have hw3:=Fl (m+1) (by omega)
       simp(maxSteps:=9^7) (disch:=omega)only[go_sem,reduceAdd,reduceEqDiff,reduceLeDiff,T1,M2,hf3,hw3,i2,j2];refine J0 ht hn2 fun q e3 p3 cn ca hq hmq h3=>?_
       simp(maxSteps:=9^7) (disch:=omega)only[go_sem,reduceAdd,reduceEqDiff,reduceLeDiff,stA,stL,A2,T1,M2,hf2,i2,j2,Bool.and_self];refine Di (w:=[59]) ht hq fun r e4 p4 hr hqr h4=>?_
       simp(maxSteps:=9^7) (disch:=omega)only[go_sem,reduceAdd,reduceEqDiff,reduceLeDiff,stA,stL,T1,T4,M2,M5,i2,i5,j2,Bool.and_self];generalize hS1:((((((((((S.newBox [.v (.string ⟨⟨[]⟩⟩),.v (.int .i64 0),.v (.bool false),.v (.bool false),.v (.string ⟨⟨[]⟩⟩),.v (.bool false)]).to S.next [.v (.string ⟨⟨[]⟩⟩),.v (.int .i64 0),.v (.bool false),.v (.bool false),.v (.string ⟨⟨[]⟩⟩),.v (.bool false)]).to 2 [lvA ts,.v (.int .i64 ((m:Nat):Int)),.v (.int .i64 0),.v (.int .i64 p2)]).to S.next [.v (.string ⟨⟨dn⟩⟩),.v (.int .i64 (dp:Int)),.v (.bool db),.v (.bool df),.v (.string ⟨⟨[]⟩⟩),.v (.bool false)]).to 2 [lvA ts,.v (.int .i64 (((m+1:Nat)):Int)),.v (.int .i64 0),.v (.int .i64 p2)]).to S.next [.v (.string ⟨⟨dn⟩⟩),.v (.int .i64 (dp:Int)),.v (.bool db),.v (.bool df),.v (.string ⟨⟨[]⟩⟩),.v (.bool true)]).to 2 [lvA ts,.v (.int .i64 (((m+1+1:Nat)):Int)),.v (.int .i64 0),.v (.int .i64 p2)]).to 2 [lvA ts,.v (.int .i64 ((q:Nat):Int)),.v (.int .i64 e3),.v (.int .i64 p3)]).to S.next [.v (.string ⟨⟨dn⟩⟩),.v (.int .i64 (dp:Int)),.v (.bool db),.v (.bool df),.v (.string ⟨⟨cn⟩⟩),.v (.bool true)]).to 2 [lvA ts,.v (.int .i64 ((r:Nat):Int)),.v (.int .i64 e4),.v (.int .i64 p4)])=S1;have n1:S1.next=S.next+1:=by rw[← hS1];rfl
       have m12:S1.mem.get 2=some (.box (stL ts r e4 p4)):=by
        rw[← hS1];simp only[A5,Bj,Aa,Ab,i2];rfl
       have m13:S1.mem.get 3=some (.box [.nils,.v (.int .i64 0),.v (.int .i64 0),.v (.int .i64 0)]):=by
        rw[← hS1];simp only[A5,Bj,reduceEqDiff,Ab,i3,M3]
       have m14:S1.mem.get 4=some (.box [.v (.string ⟨⟨[]⟩⟩),.v (.int .i64 0),.nils,.nils,.nils,.nils]):=by
        rw[← hS1];simp only[A5,Bj,reduceEqDiff,Ab,i4,M4]
       have m15:S1.mem.get 5=some (.box [.v (.string ⟨⟨nm⟩⟩),.v (.int .i64 at_),v1,v2,vv,.nils]):=by
        rw[← hS1];simp only[A5,Bj,reduceEqDiff,Ab,i5,M5]
       have dv1:DvO 6 S1 vv es:=H0 DV (by omega) (fun id h6 hlt=>by
        have q1:¬ id=S.next:=by omega
        have q2:¬ id=2:=by omega
        rw[← hS1]
        simp only[A5,Bj,if_neg q1,if_neg q2])
       obtain⟨bytes,hrt⟩:=wL;obtain⟨S2,happ,dv2,n2,k2⟩:=Pm (ts:=ts) hrt dv1 (by omega) (.agg [.v (.string ⟨⟨dn⟩⟩),.v (.int .i64 (dp:Int)),.v (.bool db),.v (.bool df),.v (.string ⟨⟨cn⟩⟩),.v (.bool true)]) rfl hlen
       have m22:=(k2 2 (by omega) (by omega)).trans m12
       have m23:=(k2 3 (by omega) (by omega)).trans m13
       have m24:=(k2 4 (by omega) (by omega)).trans m14
       have m25:=(k2 5 (by omega) (by omega)).trans m15
       unfold stL at m22;simp(maxSteps:=9^7) (disch:=omega)only[go_sem,reduceAdd,reduceEqDiff,reduceLeDiff,T4,happ,m25];refine dZ ht d r e4 p4 (.sl S1.next 0 6 (es ++ [.agg [.v (.string ⟨⟨dn⟩⟩),.v (.int .i64 (dp:Int)),.v (.bool db),.v (.bool df),.v (.string ⟨⟨cn⟩⟩),.v (.bool true)]])) (es ++ [.agg [.v (.string ⟨⟨dn⟩⟩),.v (.int .i64 (dp:Int)),.v (.bool db),.v (.bool df),.v (.string ⟨⟨cn⟩⟩),.v (.bool true)]]) _ _ (by omega) hr (by omega) (J9 g (Ed (Xi dn cn _ _ _ _) En)) (by rw[Ja3];show es.length+1≤_;omega) ⟨by simp only[A0,reduceEqDiff,Ab,T1],by simp only[A0,reduceEqDiff,Ab,T2],by simp only[A0,reduceEqDiff,Ab,T3],by simp only[A0,reduceEqDiff,Ab,T4],?_,?_,?_,?_,?_⟩ (H0 (S:=S2) dv2 (Ja1 S2.next) (fun id h6 _=>by rw[A5,if_neg (by omega)])) (fun h=>?_)
       ·simp only[A5,reduceEqDiff,Ab];exact m22
       ·simp only[A5,reduceEqDiff,Ab];exact m23
       ·simp only[A5,reduceEqDiff,Ab];exact m24
       ·simp only[A5,Aa] <;> rfl
       ·show 6≤S2.next
        omega
       ·obtain⟨z3,w4,rfl⟩:=h4 h
        obtain⟨_,hkc,rfl,rfl,rfl⟩:=h3 z3;refine⟨l ++ [⟨dn,dp,db,df,(tk ts (m+2)).text,true⟩],by rw[Jd4,← hes];rfl,Q2 hk1 (O0 (c:=((tk ts (m+2)).text,true)) hdP (by rw[hw.2];simp) (Zg (by rw[hwn.2];simp) hkc) (by rw[w4.2];simp)) hhead⟩
      |false =>
       have hno:=G6 ht hn hb2 (by decide)
       simp(maxSteps:=9^7) (disch:=omega)only[go_sem,reduceAdd,reduceEqDiff,reduceLeDiff,T1,M2,hf3,i2,j2];refine J0 ht hn fun q e3 p3 cn ca hq hmq h3=>?_
       simp(maxSteps:=9^7) (disch:=omega)only[go_sem,reduceAdd,reduceEqDiff,reduceLeDiff,stA,stL,A2,T1,M2,hf2,i2,j2,Bool.and_self];refine Di (w:=[59]) ht hq fun r e4 p4 hr hqr h4=>?_
       simp(maxSteps:=9^7) (disch:=omega)only[go_sem,reduceAdd,reduceEqDiff,reduceLeDiff,stA,stL,T1,T4,M2,M5,i2,i5,j2,Bool.and_self];generalize hS1:((((((((S.newBox [.v (.string ⟨⟨[]⟩⟩),.v (.int .i64 0),.v (.bool false),.v (.bool false),.v (.string ⟨⟨[]⟩⟩),.v (.bool false)]).to S.next [.v (.string ⟨⟨[]⟩⟩),.v (.int .i64 0),.v (.bool false),.v (.bool false),.v (.string ⟨⟨[]⟩⟩),.v (.bool false)]).to 2 [lvA ts,.v (.int .i64 ((m:Nat):Int)),.v (.int .i64 0),.v (.int .i64 p2)]).to S.next [.v (.string ⟨⟨dn⟩⟩),.v (.int .i64 (dp:Int)),.v (.bool db),.v (.bool df),.v (.string ⟨⟨[]⟩⟩),.v (.bool false)]).to 2 [lvA ts,.v (.int .i64 (((m+1:Nat)):Int)),.v (.int .i64 0),.v (.int .i64 p2)]).to 2 [lvA ts,.v (.int .i64 ((q:Nat):Int)),.v (.int .i64 e3),.v (.int .i64 p3)]).to S.next [.v (.string ⟨⟨dn⟩⟩),.v (.int .i64 (dp:Int)),.v (.bool db),.v (.bool df),.v (.string ⟨⟨cn⟩⟩),.v (.bool false)]).to 2 [lvA ts,.v (.int .i64 ((r:Nat):Int)),.v (.int .i64 e4),.v (.int .i64 p4)])=S1;have n1:S1.next=S.next+1:=by rw[← hS1];rfl
       have m12:S1.mem.get 2=some (.box (stL ts r e4 p4)):=by
        rw[← hS1];simp only[A5,Bj,Aa,Ab,i2];rfl
       have m13:S1.mem.get 3=some (.box [.nils,.v (.int .i64 0),.v (.int .i64 0),.v (.int .i64 0)]):=by
        rw[← hS1];simp only[A5,Bj,reduceEqDiff,Ab,i3,M3]
       have m14:S1.mem.get 4=some (.box [.v (.string ⟨⟨[]⟩⟩),.v (.int .i64 0),.nils,.nils,.nils,.nils]):=by
        rw[← hS1];simp only[A5,Bj,reduceEqDiff,Ab,i4,M4]
       have m15:S1.mem.get 5=some (.box [.v (.string ⟨⟨nm⟩⟩),.v (.int .i64 at_),v1,v2,vv,.nils]):=by
        rw[← hS1];simp only[A5,Bj,reduceEqDiff,Ab,i5,M5]
       have dv1:DvO 6 S1 vv es:=H0 DV (by omega) (fun id h6 hlt=>by
        have q1:¬ id=S.next:=by omega
        have q2:¬ id=2:=by omega
        rw[← hS1]
        simp only[A5,Bj,if_neg q1,if_neg q2])
       obtain⟨bytes,hrt⟩:=wL;obtain⟨S2,happ,dv2,n2,k2⟩:=Pm (ts:=ts) hrt dv1 (by omega) (.agg [.v (.string ⟨⟨dn⟩⟩),.v (.int .i64 (dp:Int)),.v (.bool db),.v (.bool df),.v (.string ⟨⟨cn⟩⟩),.v (.bool false)]) rfl hlen
       have m22:=(k2 2 (by omega) (by omega)).trans m12
       have m23:=(k2 3 (by omega) (by omega)).trans m13
       have m24:=(k2 4 (by omega) (by omega)).trans m14
       have m25:=(k2 5 (by omega) (by omega)).trans m15
       unfold stL at m22;simp(maxSteps:=9^7) (disch:=omega)only[go_sem,reduceAdd,reduceEqDiff,reduceLeDiff,T4,happ,m25];refine dZ ht d r e4 p4 (.sl S1.next 0 6 (es ++ [.agg [.v (.string ⟨⟨dn⟩⟩),.v (.int .i64 (dp:Int)),.v (.bool db),.v (.bool df),.v (.string ⟨⟨cn⟩⟩),.v (.bool false)]])) (es ++ [.agg [.v (.string ⟨⟨dn⟩⟩),.v (.int .i64 (dp:Int)),.v (.bool db),.v (.bool df),.v (.string ⟨⟨cn⟩⟩),.v (.bool false)]]) _ _ (by omega) hr (by omega) (J9 g (Ed (Xi dn cn _ _ _ _) En)) (by rw[Ja3];show es.length+1≤_;omega) ⟨by simp only[A0,reduceEqDiff,Ab,T1],by simp only[A0,reduceEqDiff,Ab,T2],by simp only[A0,reduceEqDiff,Ab,T3],by simp only[A0,reduceEqDiff,Ab,T4],?_,?_,?_,?_,?_⟩ (H0 (S:=S2) dv2 (Ja1 S2.next) (fun id h6 _=>by rw[A5,if_neg (by omega)])) (fun h=>?_)
       ·simp only[A5,reduceEqDiff,Ab];exact m22
       ·simp only[A5,reduceEqDiff,Ab];exact m23
       ·simp only[A5,reduceEqDiff,Ab];exact m24
       ·simp only[A5,Aa] <;> rfl
       ·show 6≤S2.next
        omega
       ·obtain⟨z3,w4,rfl⟩:=h4 h
        obtain⟨_,hkc,rfl,rfl,rfl⟩:=h3 z3;refine⟨l ++ [⟨dn,dp,db,df,(tk ts (m+1)).text,false⟩],by rw[Jd4,← hes];rfl,Q2 hk1 (O0 (c:=((tk ts (m+1)).text,false)) hdP (by rw[hw.2];simp) (gI (fun h=>hno (Jb5.1 h)) hkc) (by rw[w4.2];simp)) hhead⟩
     |false =>
      simp(maxSteps:=9^7) (disch:=omega)only[go_sem,reduceAdd,reduceEqDiff,reduceLeDiff,T1,M2,hf1,hf2,i2];refine Di (w:=[59]) ht hm fun r e4 p4 hr hqr h4=>?_
      simp(maxSteps:=9^7) (disch:=omega)only[go_sem,reduceAdd,reduceEqDiff,reduceLeDiff,stA,stL,T1,T4,M2,M5,i2,i5,j2,Bool.and_self];generalize hS1:(((((S.newBox [.v (.string ⟨⟨[]⟩⟩),.v (.int .i64 0),.v (.bool false),.v (.bool false),.v (.string ⟨⟨[]⟩⟩),.v (.bool false)]).to S.next [.v (.string ⟨⟨[]⟩⟩),.v (.int .i64 0),.v (.bool false),.v (.bool false),.v (.string ⟨⟨[]⟩⟩),.v (.bool false)]).to 2 [lvA ts,.v (.int .i64 ((m:Nat):Int)),.v (.int .i64 e2),.v (.int .i64 p2)]).to S.next [y0,y1,y2,y3,y4,y5]).to 2 [lvA ts,.v (.int .i64 ((r:Nat):Int)),.v (.int .i64 e4),.v (.int .i64 p4)])=S1;have n1:S1.next=S.next+1:=by rw[← hS1];rfl
      have m12:S1.mem.get 2=some (.box (stL ts r e4 p4)):=by
       rw[← hS1];simp only[A5,Bj,Aa,Ab,i2];rfl
      have m13:S1.mem.get 3=some (.box [.nils,.v (.int .i64 0),.v (.int .i64 0),.v (.int .i64 0)]):=by
       rw[← hS1];simp only[A5,Bj,reduceEqDiff,Ab,i3,M3]
      have m14:S1.mem.get 4=some (.box [.v (.string ⟨⟨[]⟩⟩),.v (.int .i64 0),.nils,.nils,.nils,.nils]):=by
       rw[← hS1];simp only[A5,Bj,reduceEqDiff,Ab,i4,M4]
      have m15:S1.mem.get 5=some (.box [.v (.string ⟨⟨nm⟩⟩),.v (.int .i64 at_),v1,v2,vv,.nils]):=by
       rw[← hS1];simp only[A5,Bj,reduceEqDiff,Ab,i5,M5]
      have dv1:DvO 6 S1 vv es:=H0 DV (by omega) (fun id h6 hlt=>by
       have q1:¬ id=S.next:=by omega
       have q2:¬ id=2:=by omega
       rw[← hS1]
       simp only[A5,Bj,if_neg q1,if_neg q2])
      obtain⟨bytes,hrt⟩:=wL;obtain⟨S2,happ,dv2,n2,k2⟩:=Pm (ts:=ts) hrt dv1 (by omega) (.agg [y0,y1,y2,y3,y4,y5]) rfl hlen
      have m22:=(k2 2 (by omega) (by omega)).trans m12
      have m23:=(k2 3 (by omega) (by omega)).trans m13
      have m24:=(k2 4 (by omega) (by omega)).trans m14
      have m25:=(k2 5 (by omega) (by omega)).trans m15
      unfold stL at m22;simp(maxSteps:=9^7) (disch:=omega)only[go_sem,reduceAdd,reduceEqDiff,reduceLeDiff,T4,happ,m25]
      by_cases he4:e4=0
      ·have hjm2:j<m:=by
        obtain⟨_,dd,_,_,hjd⟩:=h2 (h4 he4).1;exact hjd
       refine dZ ht d r e4 p4 (.sl S1.next 0 6 (es ++ [.agg [y0,y1,y2,y3,y4,y5]])) (es ++ [.agg [y0,y1,y2,y3,y4,y5]]) _ _ (by omega) hr (by omega) (J9 g (Ed g2 En)) (by rw[Ja3];show es.length+1≤_;omega) ⟨by simp only[A0,reduceEqDiff,Ab,T1],by simp only[A0,reduceEqDiff,Ab,T2],by simp only[A0,reduceEqDiff,Ab,T3],by simp only[A0,reduceEqDiff,Ab,T4],?_,?_,?_,?_,?_⟩ (H0 (S:=S2) dv2 (Ja1 S2.next) (fun id h6 _=>by rw[A5,if_neg (by omega)])) (fun h=>?_)
       ·simp only[A5,reduceEqDiff,Ab];exact m22
       ·simp only[A5,reduceEqDiff,Ab];exact m23
       ·simp only[A5,reduceEqDiff,Ab];exact m24
       ·simp only[A5,Aa] <;> rfl
       ·show 6≤S2.next
        omega
       ·obtain⟨z2,w4,rfl⟩:=h4 h
        subst z2;obtain⟨_,dd,hdA,hdP,hjd⟩:=h2 rfl;obtain⟨hk1,_⟩:=Sa hdP;have hno:=G6 ht hm hb (by decide)
        refine⟨l ++ [dd],by rw[Jd4,← hes,hdA];rfl,Q2 hk1 (Vp hdP (fun h=>hno (Jb5.1 h)) (by rw[w4.2];simp)) hhead⟩
      ·have h0:(e4 == 0)=false:=by rw[beq_eq_false_iff_ne];exact he4
       refine Bt (Bp ?_);simp(maxSteps:=9^7) (disch:=omega)only[go_sem,reduceAdd,reduceEqDiff,reduceLeDiff,A2,T1,T4,hf1,h0,m22,Bool.and_self];refine⟨_,_,rfl,r,e4,p4,.sl S1.next 0 6 (es ++ [.agg [y0,y1,y2,y3,y4,y5]]),es ++ [.agg [y0,y1,y2,y3,y4,y5]],⟨by simp only[A0,reduceEqDiff,Ab,T1],by simp only[A0,reduceEqDiff,Ab,T2],by simp only[A0,reduceEqDiff,Ab,T3],by simp only[A0,reduceEqDiff,Ab,T4],?_,?_,?_,?_,?_⟩,H0 (S:=S2) dv2 (Ja1 S2.next) (fun id h6 _=>by rw[A5,if_neg (by omega)]),hr,by omega,J9 g (Ed g2 En),fun h=>absurd h he4⟩
       ·simp only[A5,reduceEqDiff,Ab];exact m22
       ·simp only[A5,reduceEqDiff,Ab];exact m23
       ·simp only[A5,reduceEqDiff,Ab];exact m24
       ·simp only[A5,Aa] <;> rfl
       ·show 6≤S2.next
        omega
  ·have h0:(e1 == 0)=false:=by rw[beq_eq_false_iff_ne];exact he
   simp(maxSteps:=9^7) (disch:=omega)only[go_sem,reduceAdd,reduceEqDiff,reduceLeDiff,nvLB,Tryz.f64,A2,T1,T4,M2,hf1,hf4,h0,i2,Bool.and_self];refine⟨_,_,rfl,j,e1,p1,vv,es,⟨by simp only[A0,reduceEqDiff,Ab,T1],by simp only[A0,reduceEqDiff,Ab,T2],by simp only[A0,reduceEqDiff,Ab,T3],by simp only[A0,reduceEqDiff,Ab,T4],?_,?_,?_,?_,?_⟩,DV,hj,hij,g,fun h=>absurd h he⟩
   ·exact M2
   ·exact M3
   ·exact M4
   ·exact M5
   ·exact hnx
def ndP0:Code:=match Tryz.f64.body with
 |some (.seq c _)=>c
 |_=>.skip
def ndP1:Code:=match Tryz.f64.body with
 |some (.seq _ (.seq c _))=>c
 |_=>.skip
def ndP2:Code:=match Tryz.f64.body with
 |some (.seq _ (.seq _ (.seq c _)))=>c
 |_=>.skip
def ndP3:Code:=match Tryz.f64.body with
 |some (.seq _ (.seq _ (.seq _ (.seq c _))))=>c
 |_=>.skip
def ndP4:Code:=match Tryz.f64.body with
 |some (.seq _ (.seq _ (.seq _ (.seq _ (.seq c _)))))=>c
 |_=>.skip
def ndP5:Code:=match Tryz.f64.body with
 |some (.seq _ (.seq _ (.seq _ (.seq _ (.seq _ (.seq c _))))))=>c
 |_=>.skip
def ndP6:Code:=match Tryz.f64.body with
 |some (.seq _ (.seq _ (.seq _ (.seq _ (.seq _ (.seq _ (.seq c _)))))))=>c
 |_=>.skip
def ndP7:Code:=match Tryz.f64.body with
 |some (.seq _ (.seq _ (.seq _ (.seq _ (.seq _ (.seq _ (.seq _ (.seq c _))))))))=>c
 |_=>.skip
def ndTB:Code:=match Tryz.f64.body with
 |some (.seq _ (.seq _ (.seq _ (.seq _ (.seq _ (.seq _ (.seq _ (.seq _ c))))))))=>c
 |_=>.skip
theorem nd_body:Tryz.f64.body.getD .skip=.seq ndP0 (.seq ndP1 (.seq ndP2 (.seq ndP3 (.seq ndP4 (.seq ndP5 (.seq ndP6 (.seq ndP7 ndTB))))))):=by kernel_rfl
theorem nd_nt:Tryz.f64.ntmps=111:=by kernel_rfl
structure RowV(v:AV):Prop where
 free:Bw v=true
 beq:D1 v v=true
 beqc:D1 (clean v) (clean v)=true
 one:v.single=true
theorem dvo_ok{sz:Nat}{S:St}{v:AV}{es:List AV}(h:DvO sz S v es)(g:Gd es):RowV v:=by
 rcases h with⟨rfl,rfl⟩ | ⟨tok,rfl,_⟩
 ·exact⟨rfl,rfl,rfl,rfl⟩
 ·refine⟨g.1,by rw[Qc];exact g.2.1,?_,rfl⟩
  show D1 (.sl 0 0 sz (Be es)) (.sl 0 0 sz (Be es))=true
  rw[Qc];exact g.2.2
theorem gd_node{nm:List UInt8}{at_:Int}{v1 v2 v3 v4:AV}(h1:RowV v1)(h2:RowV v2)(h3:RowV v3)(h4:RowV v4):Gd [A2 nm,.v (.int .i64 at_),v1,v2,v3,v4]:=by
 refine⟨?_,?_,?_⟩
 ·show(Bw v1 && (Bw v2 && (Bw v3 && (Bw v4 && true))))=true
  rw[h1.free,h2.free,h3.free,h4.free];rfl
 ·simp only[Jn,Oo,A2,Nj,Nk,h1.beq,h2.beq,h3.beq,h4.beq,Bool.and_self]
 ·show Gm [_,_,clean v1,clean v2,clean v3,clean v4] [_,_,clean v1,clean v2,clean v3,clean v4]=true
  simp only[clean,Jn,Oo,A2,Nj,Nk,h1.beqc,h2.beqc,h3.beqc,h4.beqc,Bool.and_self]
theorem fin_node{ts:List Tk}{i:Nat}{e p:Int}(S':St)(j:Nat)(e1 p1:Int){x0 x1 x2 x3 x4 x5:AV}(hj:j<ts.length)(hij:i≤j)(g:Gd [x0,x1,x2,x3,x4,x5])(hh:e1=0→e=0∧∃nd,Hg (.agg [x0,x1,x2,x3,x4,x5]) nd∧(∃n,∀m,n≤m→Hk ts m i=.ok nd j)∧i<j):
  ∃a S'',R.ret (.tup [stA ts j e1 p1,.agg [x0,x1,x2,x3,x4,x5]]) S' = R.ret a S''∧Bw a=true∧Fv ts 64 [stA ts i e p] (clean a):=by
 obtain⟨q1,q2⟩:=Y5 (i:=i) (e:=e) (p:=p) (ok:=fun v j=>∃nd,Hg v nd∧(∃n,∀m,n≤m→Hk ts m i=.ok nd j)∧i<j) j e1 p1 x0 x1 x2 x3 x4 x5 rfl hj hij g.1 g.2.2 (fun h=>by
  obtain⟨h1,nd,h2,h3⟩:=hh h
  exact⟨h1,nd,(L5 h2).2,h3⟩)
 refine⟨_,_,rfl,q1,?_⟩;intro i' e' p' h hi;obtain⟨rfl,rfl,rfl⟩:=Mb (Cy h).1;exact q2
theorem dvo_eqs{S:St}{v:AV}{es:List AV}(h:DvO 8 S v es):(v=.nils∧es=[])∨∃tok,v=.sl tok 0 8 es:=by
 rcases h with h | ⟨tok,h,_⟩
 ·exact .inl h
 ·exact .inr ⟨tok,h⟩
theorem dvo_decls{S:St}{v:AV}{l:List PD}(h:DvO 6 S v (l.map D7)):H8 6 D7 v l:=by
 rcases h with⟨rfl,h⟩ | ⟨tok,rfl,_⟩
 ·exact .inl ⟨rfl,List.map_eq_nil_iff.1 h⟩
 ·exact .inr ⟨tok,0,rfl⟩
theorem node_rule{ts:List Tk}{i j1 j2 j3 j4:Nat}{ins outs vars:List PD}{qs:List PQ}(h0:(tk ts i).text∈[[110,111,100,101]])(h1:(tk ts (i+1)).kind=1)(h2:∃n,∀m,n≤m→Hz ts (El ts) m (i+2)=.ok ins j1)(h3:(tk ts j1).text∈[[114,101,116,117,114,110,115]])(h4:∃n,∀m,n≤m→Hz ts (El ts) m (j1+1)=.ok outs j2)(h5:∃n,∀m,n≤m→Ke ts m j2=.ok vars j3)(h6:(tk ts j3).text∈[[108,101,116]])(h7:qF ts [] (j3+1) qs j4)(h8:(tk ts j4).text∈[[116,101,108]]):∃n,∀m,n≤m→Hk ts m i=.ok ⟨(tk ts (i+1)).text,(tk ts (i+1)).pos,ins,outs,vars,qs⟩ (j4+1):=by
 obtain⟨n2,e2⟩:=h2;obtain⟨n4,e4⟩:=h4;obtain⟨n5,e5⟩:=h5;obtain⟨n7,e7⟩:=h7;refine⟨n2+n4+n5+n7,fun m hm=>?_⟩
 unfold Hk;rw[Ek h0,Cj,Ji h1,Cj,e2 m (by omega),Cj,Ek h3,Cj,e4 m (by omega),Cj,e5 m (by omega),Cj,Ek h6,Cj,e7 m m (by omega) (by omega),Cj,Ek h8,Cj]
theorem vars_none{ts:List Tk}{j:Nat}(h:(tk ts j).text ∉ [[118,97,114]]):∃n,∀m,n≤m→Ke ts m j=.ok [] j:=⟨0,fun m _=>by unfold Ke;rw[if_neg h]⟩
theorem vars_some{ts:List Tk}{j m:Nat}{l:List PD}(h:(tk ts j).text∈[[118,97,114]])(hv:VQ ts (j+1) l m):∃n,∀q,n≤q→Ke ts q j=.ok l m:=by
 obtain⟨n,hn⟩:=hv;exact⟨n,fun q hq=>by unfold Ke;rw[if_pos h];exact hn q hq⟩
theorem nd_tail{ts:List Tk}(ht:Tok3 ts)(i:Nat)(e p:Int)(m:Nat)(e6 p6:Int)(nm:List UInt8)(at_:Nat)(v1 v2 vv:AV)(es:List AV)(t:T AV)(S:St)(hi:i<ts.length)(hm:m<ts.length)(him:i≤m)(A:AtN ts m e6 p6 nm (at_:Int) v1 v2 vv .nils t S)(DV:DvO 6 S vv es)(g:Gd es)(r1:RowV v1)(r2:RowV v2)(hF:e6=0→e=0∧∃ins outs vars,H8 6 D7 v1 ins∧H8 6 D7 v2 outs∧es=vars.map D7∧i<m∧∀qs j',(tk ts m).text∈[[108,101,116]]→qF ts [] (m+1) qs j'→(tk ts j').text∈[[116,101,108]]→∃n,∀q,n≤q→Hk ts q i=.ok ⟨nm,at_,ins,outs,vars,qs⟩ (j'+1)):
  W (E3 ts) 111 ndTB ⟨t,[]⟩ S (U6 (E3 ts) Tryz.f64.results.toList (fun r=>∃a S',r=.ret a S'∧Bw a=true∧Fv ts 64 [stA ts i e p] (clean a))):=by
 obtain⟨T1,T2,T3,T4,M2,M3,M4,M5,hnx⟩:=A;have hsz:=ht.size;obtain⟨fn2,hf2⟩:=fX 115;unfold stL at M2;unfold A2 at M5;simp(disch:=omega)only[go_sem,reduceAdd,reduceLeDiff,ndTB,Tryz.f64,stA,stL,T1,M2,hf2];refine Di (w:=[108,101,116]) ht hm fun j e7 p7 hj hmj h7=>?_
 have key:=fun t S=>ne_lp ht (E0:=e7=0) (v0:=j) (nm:=nm) (at_:=(at_:Int)) (v1:=v1) (v2:=v2) (v3:=vv) (ts.length+1) j e7 p7 .nils [] t S
 unfold neLB at key;simp only[Tryz.f64]at key;simp(disch:=omega)only[go_sem,reduceAdd,reduceEqDiff,reduceLeDiff,stA,stL,T1,M2,Bool.and_self];refine WX.mono (key _ _ (fun _=>by omega) (by omega) hj (Ja1 _) En (Nat.zero_le _) (fun _=>Nat.zero_le _) ⟨by simp only[A0,reduceEqDiff,Ab,T1],by simp only[A0,reduceEqDiff,Ab,T2],by simp only[A0,reduceEqDiff,Ab,T3],by simp only[A0,reduceEqDiff,Ab,T4],?_,?_,?_,?_,?_⟩ (.inl ⟨rfl,rfl⟩) (fun h=>⟨h,[],.nil,fun _ _ h=>h⟩)) ?_
 ·simp only[A5,Aa] <;> rfl
 ·simp only[A5,reduceEqDiff,Ab];exact M3
 ·simp only[A5,reduceEqDiff,Ab];exact M4
 ·simp only[A5,reduceEqDiff,Ab];exact M5
 ·exact hnx
 rintro _ ⟨t',S',rfl,q,e8,p8,v4,es4,⟨T1,T2,T3,T4,M2,M3,M4,M5,hnx⟩,DV4,hq,hjq,g4,hh⟩;unfold stL at M2;unfold A2 at M5;have r3:=dvo_ok DV g;have r4:=dvo_ok DV4 g4;have a2:=r1.beq;have a3:=r2.beq;have a4:=r3.beq;have a5:=r4.beq;simp(disch:=omega)only[go_sem];refine Dd [(0,true),(2,true),(1,true),(2,false),(3,true),(2,false),(4,true)] (by kernel_rfl) (by kernel_rfl) ?_
 simp(disch:=omega)only[go_sem,Nat.reduceLT,reduceAdd,reduceEqDiff,reduceLeDiff,T1,T4,M2,M5,hf2];refine Di (w:=[116,101,108]) ht hq fun u e9 p9 hu hqu h9=>?_
 simp(disch:=omega)only[go_sem,reduceAdd,reduceEqDiff,reduceLeDiff,stA,stL,T2,T3,T4,M3,M4,M5,a2,a3,a4,a5,Bool.and_self];refine fin_node _ u e9 p9 hu (by omega) (gd_node r1 r2 r3 r4) (fun h=>?_)
 obtain⟨z8,w9,rfl⟩:=h9 h;obtain⟨z7,l,hl,hX⟩:=hh z8;obtain⟨z6,w7,rfl⟩:=h7 z7;obtain⟨rfl,ins,outs,vars,hi1,hi2,hi3,him2,hN⟩:=hF z6;refine⟨rfl,⟨nm,at_,ins,outs,vars,l⟩,⟨v1,v2,vv,v4,es4,rfl,hi1,hi2,?_,dvo_eqs DV4,hl⟩,hN l q (by rw[w7.2];simp) hX (by rw[w9.2];simp),by omega⟩
 rw[hi3]at DV;exact dvo_decls DV
theorem node_k{ts:List Tk}(ht:Tok3 ts)(i:Nat)(e p:Int)(hi:i<ts.length):Kn3 ts 64 [stA ts i e p]:=by
 refine Jq Tryz.f64 (by kernel_rfl) (by kernel_rfl) (by show(_:Nat)≤_;simp[Tryz.f64]) ?_
 rw[nd_body,nd_nt];have hsz:=ht.size;obtain⟨fn1,hf1⟩:=fX 118;obtain⟨fn2,hf2⟩:=fX 115;obtain⟨fn3,hf3⟩:=fX 116;obtain⟨fn4,hf4⟩:=fX 117;simp(disch:=omega)only[go_sem,reduceAdd,reduceEqDiff,reduceLeDiff,ndP0,ndP1,ndP2,ndP3,ndP4,ndP5,ndP6,ndP7,Tryz.f64,stA,stL,A2,hf2,Bool.and_self];refine Di (w:=[110,111,100,101]) ht hi fun j1 e1 p1 hj1 hl1 h1=>?_
 simp(disch:=omega)only[go_sem,reduceAdd,reduceEqDiff,reduceLeDiff,stA,stL,hf3,Bool.and_self];refine J0 ht hj1 fun j2 e2 p2 nm at_ hj2 hl2 h2=>?_
 simp(disch:=omega)only[go_sem,reduceAdd,reduceEqDiff,reduceLeDiff,stA,stL,A2,hf4,Bool.and_self];refine iZ hj2 (decls_k ht j2 e2 p2 hj2) fun j3 e3 p3 v1 hj3 hl3 hv1 f1 c1 b1 h3=>?_
 have r1:RowV v1:=⟨f1,b1,by rw[c1];exact b1,by rcases hv1 with rfl | ⟨es,rfl⟩ <;> rfl⟩
 have s1:=fun S cs b k=>Ql r1.one S cs b k
 simp(disch:=omega)only[go_sem,reduceAdd,reduceEqDiff,reduceLeDiff,stA,stL,hf2,s1,Bool.and_self];refine Di (w:=[114,101,116,117,114,110,115]) ht hj3 fun j4 e4 p4 hj4 hl4 h4=>?_
 simp(disch:=omega)only[go_sem,reduceAdd,reduceEqDiff,reduceLeDiff,stA,stL,hf4,Bool.and_self];refine iZ hj4 (decls_k ht j4 e4 p4 hj4) fun j5 e5 p5 v2 hj5 hl5 hv2 f2 c2 b2 h5=>?_
 have r2:RowV v2:=⟨f2,b2,by rw[c2];exact b2,by rcases hv2 with rfl | ⟨es,rfl⟩ <;> rfl⟩
 have s2:=fun S cs b k=>Ql r2.one S cs b k
 simp(disch:=omega)only[go_sem,reduceAdd,reduceEqDiff,reduceLeDiff,stA,stL,hf1,s2,Bool.and_self];refine Ey (w:=[118,97,114]) hj5 ?_
 have head:e5=0→e=0∧(∃j0,i<j5∧j0=j5)∧∃ins outs,H8 6 D7 v1 ins∧H8 6 D7 v2 outs∧∀vars j3' qs j4',(∃n,∀m,n≤m→Ke ts m j5=.ok vars j3')→(tk ts j3').text∈[[108,101,116]]→qF ts [] (j3'+1) qs j4'→(tk ts j4').text∈[[116,101,108]]→∃n,∀q,n≤q→Hk ts q i=.ok ⟨nm,at_,ins,outs,vars,qs⟩ (j4'+1):=fun z5=>by
  obtain⟨z4,outs,ho,hO,hl⟩:=h5 z5;obtain⟨z3,w4,rfl⟩:=h4 z4;obtain⟨z2,ins,hi1,hI,hl'⟩:=h3 z3;obtain⟨z1,hk1,rfl,rfl,rfl⟩:=h2 z2;obtain⟨z0,w1,rfl⟩:=h1 z1;exact⟨z0,⟨j5,by omega,rfl⟩,ins,outs,hi1,ho,fun vars j3' qs j4' hV hL hE hT=>node_rule (by rw[w1.2];simp) hk1 hI (by rw[w4.2];simp) hO hV hL hE hT⟩
 cases hb:isB ts j5 e5 [118,97,114]with
 |true =>
  obtain⟨rfl,hw⟩:=Dy hb;have hn:=hw.next ht hj5;have hw2:=Fl j5 (by omega)
  have key:=fun t S=>dZ ht (v0:=j5+1) (nm:=nm) (at_:=(at_:Int)) (v1:=v1) (v2:=v2) (ts.length+1) (j5+1) 0 p5 .nils [] t S
  unfold nvLB at key;simp only[Tryz.f64]at key;simp(disch:=omega)only[go_sem,reduceAdd,reduceEqDiff,reduceLeDiff,hw2];refine WX.mono (key _ _ (by omega) hn (Ja1 _) En (Nat.zero_le _) ⟨?_,?_,?_,?_,?_,?_,?_,?_,?_⟩ (.inl ⟨rfl,rfl⟩) (fun _=>⟨[],rfl,.inl ⟨rfl,rfl⟩⟩)) ?_
  ·simp only[A0,reduceEqDiff,Aa,Ab]
  ·simp only[A0,reduceEqDiff,Aa,Ab]
  ·simp only[A0,reduceEqDiff,Aa,Ab]
  ·simp only[A0,reduceEqDiff,Aa,Ab]
  ·simp only[A5,Bj,B6,Br,reduceAdd,reduceEqDiff,Aa,Ab] <;> rfl
  ·simp only[A5,Bj,B6,Br,reduceAdd,reduceEqDiff,Aa,Ab] <;> rfl
  ·simp only[A5,Bj,B6,Br,reduceAdd,reduceEqDiff,Aa,Ab] <;> rfl
  ·simp only[A5,Bj,B6,Br,reduceAdd,reduceEqDiff,Aa,Ab] <;> rfl
  ·simp only[Ei,B6,Br];omega
  rintro _ ⟨t',S',rfl,m,e6,p6,vv,es,⟨T1,T2,T3,T4,M2,M3,M4,M5,hnx⟩,DV,hm,him,g,hh⟩;simp(disch:=omega)only[go_sem];refine nd_tail ht i e p m e6 p6 nm at_ v1 v2 vv es _ _ hi hm (by omega) ⟨by simp only[T1],by simp only[T2],by simp only[T3],by simp only[T4],M2,M3,M4,M5,hnx⟩ DV g r1 r2 (fun z6=>?_)
  obtain⟨z0,⟨_,hlt,_⟩,ins,outs,hi1,hi2,hN⟩:=head rfl;obtain⟨l,hl,hV⟩:=hh z6;exact⟨z0,ins,outs,l,hi1,hi2,hl,by omega,fun qs j' hL hE hT=>hN l m qs j' (vars_some (by rw[hw.2];simp) hV) hL hE hT⟩
 |false =>
  simp(disch:=omega)only[go_sem,reduceAdd,reduceEqDiff,reduceLeDiff];refine nd_tail ht i e p j5 e5 p5 nm at_ v1 v2 .nils [] _ _ hi hj5 (by omega) ⟨?_,?_,?_,?_,?_,?_,?_,?_,?_⟩ (.inl ⟨rfl,rfl⟩) En r1 r2 (fun z5=>?_)
  ·simp only[A0,reduceEqDiff,Aa,Ab]
  ·simp only[A0,reduceEqDiff,Aa,Ab]
  ·simp only[A0,reduceEqDiff,Aa,Ab]
  ·simp only[A0,reduceEqDiff,Aa,Ab]
  ·simp only[A5,Bj,B6,Br,reduceAdd,reduceEqDiff,Aa,Ab] <;> rfl
  ·simp only[A5,Bj,B6,Br,reduceAdd,reduceEqDiff,Aa,Ab] <;> rfl
  ·simp only[A5,Bj,B6,Br,reduceAdd,reduceEqDiff,Aa,Ab] <;> rfl
  ·simp only[A5,Bj,B6,Br,reduceAdd,reduceEqDiff,Aa,Ab] <;> rfl
  ·simp only[Ei,B6,Br];omega
  ·subst z5
   obtain⟨z0,⟨_,hlt,_⟩,ins,outs,hi1,hi2,hN⟩:=head rfl;have hno:=G6 ht hj5 hb (by decide)
   exact⟨z0,ins,outs,[],hi1,hi2,rfl,hlt,fun qs j' hL hE hT=>hN [] j5 qs j' (vars_none (fun h=>hno (Jb5.1 h))) hL hE hT⟩
theorem oN:∀{es:List AV} {l:List PN},NodeRows es l→NodeRows (Be es) l:=fun {es l} h=>by
 induction h with
 |nil=>exact .nil
 |cons a q r l h1 _ ih=>rw[Be];exact .cons _ _ _ _ (L5 h1).2 ih
def ProgX(ts:List Tk)(l:List PN)(i:Nat)(r:List PN)(j:Nat):Prop:=∃n,∀N m,n≤N→n≤m→Jo ts N m l i=.ok r j
theorem prog_stop{ts:List Tk}{l:List PN}{i:Nat}(h:(tk ts i).text ∉ [[110,111,100,101]]):ProgX ts l i l i:=by
 refine⟨1,fun N m _ hm=>?_⟩
 obtain⟨q,rfl,hq⟩:=Fw (n:=0) hm;simp only[Jo,if_neg h]
theorem prog_go{ts:List Tk}{l r:List PN}{q:PN}{i j m:Nat}(h:(tk ts i).text∈[[110,111,100,101]])(hq:∃n,∀m,n≤m→Hk ts m i=.ok q j)(h2:ProgX ts (l ++ [q]) j r m):ProgX ts l i r m:=by
 obtain⟨n1,e1⟩:=hq;obtain⟨n,hn⟩:=h2;refine⟨n1+n+1,fun N m hN hm=>?_⟩
 obtain⟨q',rfl,hq'⟩:=Fw hm;simp only[Jo,if_pos h,e1 N (by omega),Cj,hn N q' (by omega) (by omega)]
theorem node_text{ts:List Tk}{m i j:Nat}{nd:PN}(h:Hk ts m i=.ok nd j):(tk ts i).text∈[[110,111,100,101]]:=by
 by_cases hno:(tk ts i).text∈[[110,111,100,101]]
 ·exact hno
 ·exfalso
  unfold Hk B2 at h;rw[if_neg hno]at h;cases h
def PQt(ts:List Tk)(r:List PN)(j:Nat):Prop:=∃n,∀q,n≤q→Do ts q 0=.ok r j
def HeadP(ts:List Tk)(j:Nat)(l:List PN):Prop:=(l=[]∧j=0)∨(l≠[]∧∀r m,ProgX ts l j r m→PQt ts r m)
theorem uE{ts:List Tk}{j m:Nat}{l:List PN}{d:PN}(hc:∃n,∀m',n≤m'→Hk ts m' j=.ok d m)(h:HeadP ts j l):HeadP ts m (l ++ [d]):=by
 have hc0:=hc;obtain⟨n1,e1⟩:=hc;rcases h with⟨rfl,rfl⟩ | ⟨hne,h⟩
 ·refine .inr ⟨by simp,fun r q hv=>?_⟩
  obtain⟨n,hn⟩:=hv;refine⟨n+n1,fun x hx=>?_⟩
  unfold Do;rw[e1 x (by omega),Cj]
  exact hn x x (by omega) (by omega)
 ·exact .inr ⟨by simp,fun r q hv=>h r q (prog_go (node_text (e1 n1 (Ja1 _))) hc0 hv)⟩
def aG(ts:List Tk)(l:List PN):Prop:=∃n,∀q,n≤q→Lf q (.inr ts)=some (.inl l)
theorem headP_end{ts:List Tk}(ht:Tok3 ts){m:Nat}{l:List PN}(hm:m<ts.length)(hk:(tk ts m).kind=5)(hl:l≠[])(h:HeadP ts m l):aG ts l:=by
 have htx:(tk ts m).text=[]:=by
  rw[Gy hm]at hk ⊢;exact ht.fin m hm hk
 rcases h with⟨rfl,_⟩ | ⟨_,h⟩
 ·exact absurd rfl hl
 ·obtain⟨n,hn⟩:=h l m (prog_stop (by rw[htx];decide))
  refine⟨n,fun q hq=>?_⟩
  unfold Lf;simp only[hn q hq,if_pos hk]
theorem qS{ts:List Tk}(ht:Tok3 ts){S:St}{Q:R→Prop}{i:Nat}{e p:Int}(hi:i<ts.length)
  (h:∀(j:Nat) (e' p':Int) (y0 y1 y2 y3 y4 y5:AV),j<ts.length→i≤j→Gd [y0,y1,y2,y3,y4,y5]→(e' = 0→e=0∧∃q,Hg (.agg [y0,y1,y2,y3,y4,y5]) q∧(∃n,∀m,n≤m→Hk ts m i=.ok q j)∧i<j)→Q (.ret (.tup [stA ts j e' p',.agg [y0,y1,y2,y3,y4,y5]]) S)):WC (E3 ts) 64 [stA ts i e p] S Q :=
 P9 (node_k ht i e p hi) (by kernel_rfl) (fD _ _ _ _) (Wd _ _ _ _) fun a hf hc hs=>by
  obtain⟨j,e',p',y0,y1,y2,y3,y4,y5,rfl,q1,q2,qb,q3⟩:=hs i e p rfl hi;refine h j e' p' y0 y1 y2 y3 y4 y5 q1 q2 (Vk ?_ ?_ qb) q3
  ·have hf:(Bw _ && (C5 _ && true))=true:=hf
   simp only[Bool.and_true,Ja2]at hf;exact hf.2
  ·have hc:AV.tup [clean _,.agg (Be _)]=_:=hc
   injection hc with hc
   injection hc with _ hc
   injection hc with hc _
   injection hc
def xT:Code:=match Tryz.f20.body with
 |some (.seq _ (.seq _ (.seq _ (.seq _ (.seq _ (.seq (.block _ (.loop c)) _))))))=>c
 |_=>.skip
structure AtG(ts:List Tk)(j:Nat)(e1 p1:Int)(tok:Nat)(es:List AV)(t:T AV)(S:St):Prop where
 t8:t.get 8=some (.ptr 2 0)
 t9:t.get 9=some (.sl tok 0 6 es)
 m2:S.mem.get 2=some (.box (stL ts j e1 p1))
 ro:Ka 6 S tok es
 ne:tok≠2
 nx:3≤S.next
def PgEnd(ts:List Tk)(r:O):Prop:=∃t' S',r=.out (.exit 0) ⟨t',[]⟩ S'∧∃(m:Nat) (e2 p2:Int) (tok:Nat) (es:List AV),AtG ts m e2 p2 tok es t' S'∧Gd es∧(e2=0→∃l,NodeRows es l∧aG ts l)
theorem pg_lp{ts:List Tk}(ht:Tok3 ts):∀(d j:Nat) (e1 p1:Int) (tok:Nat) (es:List AV) (t:T AV) (S:St),(e1=0→ts.length - j<d)→1≤d→j<ts.length→Gd es→(e1=0→es.length≤j)→AtG ts j e1 p1 tok es t S →
  (e1=0→∃l:List PN,NodeRows es l∧HeadP ts j l)→WX (E3 ts) 60 (.loop xT) ⟨t,[]⟩ S (PgEnd ts)
 |0,j,e1,p1,tok,es,t,S,hd,h1d,_,_,_,_,_=>absurd h1d (by omega)
 |d+1,j,e1,p1,tok,es,t,S,hd,_,hj,g,hel,⟨T8,T9,M2,RO,hne,hnx⟩,hR=>by
  refine Bt (Bp ?_);have hsz:=ht.size;have hx:=Ld ts j hj;obtain⟨fn2,hf2⟩:=fX 64;unfold stL at M2;have i2:(2:Nat)=S.next↔False:=⟨fun h=>by omega,fun h=>h.elim⟩
  have j2:S.next=(2:Nat)↔False:=⟨fun h=>by omega,fun h=>h.elim⟩
  by_cases he:e1=0
  ·subst he
   have h0:((0:Int) == 0)=true:=rfl;have hd:=hd rfl;have hel:=hel rfl;have hlen:es.length≤2000000:=by omega
   obtain⟨l,hes,hhead⟩:=hR rfl
   cases hlg:(((es.length:Nat):Int) == 0)with
   |true =>
    simp(disch:=omega)only[go_sem,reduceAdd,reduceEqDiff,reduceLeDiff,xT,Tryz.f20,A2,T8,T9,M2,hf2,h0,hlg,i2,Bool.and_self];refine qS ht hj fun m e2 p2 y0 y1 y2 y3 y4 y5 hm hjm g2 h2=>?_
    simp(disch:=omega)only[go_sem,reduceAdd,reduceEqDiff,reduceLeDiff,stA,stL,T8,T9,M2,i2,j2,Bool.and_self];generalize hS1:((((S.newBox [.v (.string ⟨⟨[]⟩⟩),.v (.int .i64 0),.nils,.nils,.nils,.nils]).to S.next [.v (.string ⟨⟨[]⟩⟩),.v (.int .i64 0),.nils,.nils,.nils,.nils]).to 2 [lvA ts,.v (.int .i64 (m:Int)),.v (.int .i64 e2),.v (.int .i64 p2)]).to S.next [y0,y1,y2,y3,y4,y5])=S1;have n1:S1.next=S.next+1:=by rw[← hS1];rfl
    have m12:S1.mem.get 2=some (.box (stL ts m e2 p2)):=by
     rw[← hS1];simp only[A5,Bj,Aa,Ab,i2];rfl
    have ro1:Ka 6 S1 tok es:=RO.keep (by omega) (fun h6 hlt=>by
     have q1:¬ tok=S.next:=by omega
     rw[← hS1]
     simp only[A5,Bj,if_neg q1,if_neg hne])
    obtain⟨bytes,hrt⟩:=yt24;obtain⟨S2,happ,ro2,n2,k2⟩:=J3 (E:=E3 ts) hrt rfl rfl ro1 (by omega) (.agg [y0,y1,y2,y3,y4,y5]) rfl hlen
    have m22:=(k2 2 (fun h=>hne h.symm) (by omega)).trans m12
    unfold stL at m22;simp(disch:=omega)only[go_sem,reduceEqDiff,happ]
    refine pg_lp ht d m e2 p2 S1.next (es ++ [.agg [y0,y1,y2,y3,y4,y5]]) _ _ (fun h=>?_) (by omega) hm (J9 g (Ed g2 En)) (fun h=>by
     obtain⟨q,_,_,hq⟩:=(h2 h).2
     rw[Ja3];show es.length+1≤_;omega) ⟨by simp only[A0,reduceEqDiff,Ab,T8],by simp only[A0,reduceEqDiff,Aa,Ab,T9],?_,?_,(by omega),?_⟩ (fun h=>?_)
    ·obtain⟨q,_,_,hq⟩:=(h2 h).2
     omega
    ·first |exact m22 | (simp only[A5,reduceEqDiff,Aa,Ab];exact m22)
    ·exact ro2
    ·show 3≤S2.next
     omega
    ·obtain⟨_,q,hq,hqP,hlt⟩:=h2 h
     exact⟨l ++ [q],hes.app hq,uE hqP hhead⟩
   |false =>
    by_cases hk:(tk ts j).kind=5
    ·have hk5:(((tk ts j).kind:Int) != 5)=false:=by rw[hk];rfl
     simp(disch:=omega)only[go_sem,reduceAdd,reduceEqDiff,reduceLeDiff,xT,Tryz.f20,tkL,A2,T8,T9,M2,hf2,h0,hk5,hx,hlg,i2,Bool.and_self];refine⟨_,_,rfl,j,0,p1,tok,es,⟨by simp only[A0,reduceEqDiff,Ab,T8],by simp only[A0,reduceEqDiff,Ab,T9],?_,?_,hne,?_⟩,g,fun _=>⟨l,hes,headP_end ht hj hk (fun h=>?_) hhead⟩⟩
     ·exact M2
     ·exact RO
     ·exact hnx
     ·have:=hes.len
      rw[this,h]at hlg;cases hlg
    ·have hk5:(((tk ts j).kind:Int) != 5)=true:=by rw[bne_iff_ne];omega
     simp(disch:=omega)only[go_sem,reduceAdd,reduceEqDiff,reduceLeDiff,xT,Tryz.f20,tkL,A2,T8,T9,M2,hf2,h0,hk5,hx,hlg,i2,Bool.and_self];refine qS ht hj fun m e2 p2 y0 y1 y2 y3 y4 y5 hm hjm g2 h2=>?_
     simp(disch:=omega)only[go_sem,reduceAdd,reduceEqDiff,reduceLeDiff,stA,stL,T8,T9,M2,i2,j2,Bool.and_self];generalize hS1:((((S.newBox [.v (.string ⟨⟨[]⟩⟩),.v (.int .i64 0),.nils,.nils,.nils,.nils]).to S.next [.v (.string ⟨⟨[]⟩⟩),.v (.int .i64 0),.nils,.nils,.nils,.nils]).to 2 [lvA ts,.v (.int .i64 (m:Int)),.v (.int .i64 e2),.v (.int .i64 p2)]).to S.next [y0,y1,y2,y3,y4,y5])=S1;have n1:S1.next=S.next+1:=by rw[← hS1];rfl
     have m12:S1.mem.get 2=some (.box (stL ts m e2 p2)):=by
      rw[← hS1];simp only[A5,Bj,Aa,Ab,i2];rfl
     have ro1:Ka 6 S1 tok es:=RO.keep (by omega) (fun h6 hlt=>by
      have q1:¬ tok=S.next:=by omega
      rw[← hS1]
      simp only[A5,Bj,if_neg q1,if_neg hne])
     obtain⟨bytes,hrt⟩:=yt24;obtain⟨S2,happ,ro2,n2,k2⟩:=J3 (E:=E3 ts) hrt rfl rfl ro1 (by omega) (.agg [y0,y1,y2,y3,y4,y5]) rfl hlen
     have m22:=(k2 2 (fun h=>hne h.symm) (by omega)).trans m12
     unfold stL at m22;simp(disch:=omega)only[go_sem,reduceEqDiff,happ]
     refine pg_lp ht d m e2 p2 S1.next (es ++ [.agg [y0,y1,y2,y3,y4,y5]]) _ _ (fun h=>?_) (by omega) hm (J9 g (Ed g2 En)) (fun h=>by
      obtain⟨q,_,_,hq⟩:=(h2 h).2
      rw[Ja3];show es.length+1≤_;omega) ⟨by simp only[A0,reduceEqDiff,Ab,T8],by simp only[A0,reduceEqDiff,Aa,Ab,T9],?_,?_,(by omega),?_⟩ (fun h=>?_)
     ·obtain⟨q,_,_,hq⟩:=(h2 h).2
      omega
     ·first |exact m22 | (simp only[A5,reduceEqDiff,Aa,Ab];exact m22)
     ·exact ro2
     ·show 3≤S2.next
      omega
     ·obtain⟨_,q,hq,hqP,hlt⟩:=h2 h
      exact⟨l ++ [q],hes.app hq,uE hqP hhead⟩
  ·have h0:(e1 == 0)=false:=by rw[beq_eq_false_iff_ne];exact he
   simp(disch:=omega)only[go_sem,reduceAdd,reduceEqDiff,reduceLeDiff,xT,Tryz.f20,A2,T8,T9,M2,hf2,h0,i2,Bool.and_self];refine⟨_,_,rfl,j,e1,p1,tok,es,⟨by simp only[A0,reduceEqDiff,Ab,T8],by simp only[A0,reduceEqDiff,Ab,T9],?_,?_,hne,?_⟩,g,fun h=>absurd h he⟩
   ·exact M2
   ·exact RO
   ·exact hnx
end Go.Ax
