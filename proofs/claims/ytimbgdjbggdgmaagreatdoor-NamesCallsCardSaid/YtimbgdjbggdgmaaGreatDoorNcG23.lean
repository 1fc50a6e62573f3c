/- ZyQ -/
import Derived.Test.YtimbgdjbggdgmaaGreatDoorNcG22
import Derived.Test.YtimbgdjbggdgmaaGreatDoorNcG21
import Derived.Test.YtimbgdjbggdgmaaGreatDoorNcG19
import Derived.Test.YtimbgdjbggdgmaaGreatDoorNcG18
import Derived.Test.YtimbgdjbggdgmaaGreatDoorNcG20
set_option linter.unusedVariables false
set_option linter.unusedSimpArgs false
set_option maxHeartbeats 16000000
noncomputable section
open Nat (reduceLT reduceAdd reduceEqDiff reduceLeDiff)
namespace Go.Ax
open Go.RowKit Go.Proofs
set_option maxRecDepth 100000
theorem ybs5(s0 s1 s2 s3 s4:ByteArray):Bd Tryz.prog 39 5 [(0,.v (.string s0)),(1,.v (.string s1)),(2,.v (.string s2)),(3,.v (.string s3)),(4,.v (.string s4))]=some (.sl 1 0 1 [.v (.string s0),.v (.string s1),.v (.string s2),.v (.string s3),.v (.string s4)]):=by kernel_rfl
theorem ybv3(p:Int)(s:ByteArray):Du Tryz.prog 64 [(0,.v (.int .i64 3)),(1,.v (.int .i64 p)),(3,.v (.string s))]=some (.agg [.v (.int .i64 3),.v (.int .i64 p),.v (.int .i64 0),.v (.string s),.v (.bool false),.nils]):=by kernel_rfl
theorem rd_in2{ts:List Tk}{i j:Nat}{x:PE}(k1:¬ (tk ts i).kind=1)(k2:¬ (tk ts i).kind=2)(h0:(tk ts i).text=[40])(h1:RdX ts .brk i x j):RdX ts .primary i x j:=by
 have k3:¬ ((tk ts i).text=[116,114,117,101]∨(tk ts i).text=[102,97,108,115,101]):=by rw[h0];decide
 have k4:¬ (tk ts i).text=[109,101,114,103,101]:=by rw[h0];decide
 have k5:¬ (tk ts i).text=[97,119,97,105,116]:=by rw[h0];decide
 obtain⟨⟨n1,e1⟩,l1,d1⟩:=h1;refine⟨⟨n1+1,fun m hm=>?_⟩,l1,d1⟩
 obtain⟨k,rfl,hk⟩:=Fw hm;simp only[P,if_neg k1,if_neg k2,if_neg k3,if_neg k4,if_neg k5,e1 k hk]
theorem vT{ts:List Tk}{i j:Nat}{l:List PE}(h0:(tk ts i).kind=1)(hno:¬ IsW ts (i+2) [41]→(tk ts (i+2)).text ∉ [[41]])(h:mQ ts (i+1) l j):RdX ts .call i (.mk 13 (tk ts i).pos 0 (tk ts i).text false l) j:=by
 obtain⟨hw,h⟩:=h;rcases h with⟨hc,rfl,rfl⟩ | ⟨hc,x,m,hx,hr⟩
 ·exact rd_call0 h0 (by rw[hw.2];simp) (by rw[hc.2];simp)
 ·exact rd_callN h0 (by rw[hw.2];simp) (hno hc) hx hr
theorem primary_k{ts:List Tk}(ht:Tok3 ts)(i:Nat)(p:Int)(hi:i<ts.length)(hE:∀i' e p,i'<ts.length→(i<i'∨e≠0)→Kn3 ts 182 [stA ts i' e p])(hK:∀i' e p b,i'<ts.length→(i<i'∨e≠0)→Kn3 ts 222 [stA ts i' e p,.v (.bool b)]):Kn3 ts 286 [stA ts i 0 p]:=by
 refine Jq Tryz.f286 (by kernel_rfl) (by kernel_rfl) (by show(_:Nat)≤_;simp[Tryz.f286]) ?_
 have hsz:=ht.size;have hx:=Ld ts i hi;obtain⟨fn1,hf1⟩:=fX 118;obtain⟨fn2,hf2⟩:=fX 115;obtain⟨fn3,hf3⟩:=fX 182;obtain⟨fn4,hf4⟩:=fX 270;obtain⟨fn5,hf5⟩:=fX 181;obtain⟨fn6,hf6⟩:=fX 272;obtain⟨fn7,hf7⟩:=fX 116;obtain⟨fn8,hf8⟩:=fX 222;obtain⟨fn9,hf9⟩:=fX 269;obtain⟨fnA,hfA⟩:=fX 180;have hw2:=Fl i (by omega)
 have h0:((0:Int) == 0)=true:=rfl
 by_cases hk2:(tk ts i).kind=2
 ·have hk2n:(((tk ts i).kind:Int) == 2)=true:=by rw[hk2];rfl
  have hn:=O2 ht hi (by omega)
  simp(maxSteps:=9^7) (disch:=omega)only[go_sem,reduceAdd,reduceEqDiff,reduceLeDiff,Tryz.f286,stA,stL,tkL,A2,hx,hf1,hf4,hf6,hk2n,hw2,ybs5,Bool.and_self];refine Wm (at_:=(tk ts i).pos) (bl:=false) hn fun e' p' x0 x1 x2 x3 x4 x5 f1 c1 b1 h1=>?_
  simp(maxSteps:=9^7) (disch:=omega)only[go_sem,reduceAdd,reduceEqDiff,reduceLeDiff,stA,stL,Bool.and_self];refine Ju (Hv ts) _ (i+1) e' p' hn (by omega) (Vk f1 c1 b1) (fun h=>⟨rfl,_,rd_num hk2 (tJ hi ?_ hk2 (ht.num i hi) ((h1 h).2.1 rfl)) (by omega) (Qx _ _ _),(h1 h).2.2⟩)
  intro hz;have:=(ht.word i hi (by omega)).2
  rw[hz]at this;exact this (by decide)
 ·have hk2n:(((tk ts i).kind:Int) == 2)=false:=by rw[beq_eq_false_iff_ne];omega
  by_cases hk1:(tk ts i).kind=1
  ·have hk1n:(((tk ts i).kind:Int) == 1)=true:=by rw[hk1];rfl
   have hn:=O2 ht hi (by omega)
   simp(maxSteps:=9^7) (disch:=omega)only[go_sem,reduceAdd,reduceEqDiff,reduceLeDiff,Tryz.f286,stA,stL,tkL,A2,hx,hf1,hf4,hf6,hk1n,hk2n,hw2,ybs5,Bool.and_self];refine Ey (w:=[40]) hn ?_
   cases hb:isB ts (i+1) 0 [40]with
   |true =>
    have hw:=(Dy hb).2;simp(maxSteps:=9^7) (disch:=omega)only[go_sem,reduceAdd,reduceEqDiff,reduceLeDiff,hf5];refine qU (at_:=(tk ts i).pos) hn (call_k ht (i+1) 0 p _ _ hn (fun i' e p hi' ho=>hK i' e p false hi' (by omega))) fun j e' p' x0 x1 x2 x3 x4 x5 hj hij g h1=>?_
    simp(maxSteps:=9^7) (disch:=omega)only[go_sem,reduceAdd,reduceEqDiff,reduceLeDiff,stA,stL,Bool.and_self];refine Ju (Hv ts) _ j e' p' hj (by omega) g (fun h=>?_)
    obtain⟨_,l,hrep,hc⟩:=h1 h;refine⟨rfl,_,rd_call hk1 hw.2 (vT hk1 (fun hno=>?_) hc),hrep⟩
    have hn2:=hw.next ht hn;exact fun hz=>hno ((eY ht hn2 (by decide) (by decide)).1 hz)
   |false =>
    have hno:=G6 ht hn hb (by decide)
    simp(maxSteps:=9^7) (disch:=omega)only[go_sem,reduceAdd,reduceEqDiff,reduceLeDiff,hf5];refine Dd [(0,true),(1,true),(2,true),(3,true),(4,true),(5,true),(6,true),(4,false),(2,false),(7,true)] (by kernel_rfl) (by kernel_rfl) ?_
    simp(maxSteps:=9^7) (disch:=omega)only[go_sem,reduceAdd,reduceEqDiff,reduceLeDiff,ybv3,Bool.and_self];exact Ju (Hv ts) _ (i+1) 0 p hn (by omega) (Z3 3 (tk ts i).pos 0 (tk ts i).text false) (fun _=>⟨rfl,_,rd_var hk1 hno,.mk 3 (tk ts i).pos 0 (tk ts i).text false .nils [] .nil⟩)
  ·have hk1n:(((tk ts i).kind:Int) == 1)=false:=by rw[beq_eq_false_iff_ne];omega
   simp(maxSteps:=9^7) (disch:=omega)only[go_sem,reduceAdd,reduceEqDiff,reduceLeDiff,Tryz.f286,stA,stL,tkL,A2,hx,hf1,hf4,hf6,hk1n,hk2n,hw2,ybs5,Bool.and_self];refine mX (p:=p) (ws:=[[116,114,117,101],[102,97,108,115,101],[109,101,114,103,101],[97,119,97,105,116],[40]]) hi (by decide) ?_
   rcases Uq ht hi (ws:=[[116,114,117,101],[102,97,108,115,101],[109,101,114,103,101],[97,119,97,105,116],[40]]) (by decide)with⟨hs0,hno⟩ | ⟨hs0,hyes,hne,hn⟩
   ·rw[hs0]
    simp(maxSteps:=9^7) (disch:=omega)only[go_sem,reduceAdd,reduceEqDiff,reduceLeDiff,A2,hf3,hf7,hw2,hfA,G7,Bool.and_self];refine O7 hi fun e' p' he'=>?_
    simp(maxSteps:=9^7) (disch:=omega)only[go_sem,reduceAdd,reduceEqDiff,reduceLeDiff,stA,stL,A2,Bool.and_self];exact Oy (Hv ts) _ i e' p' _ _ _ _ _ _ hi (by omega) rfl Tv (fun h=>absurd h he')
   ·rw[hs0]
    have hdt:decide ((tk ts i).text=[])=false:=decide_eq_false hne;simp only[Jb8,Ja7,or_false]at hyes;rcases hyes with hT |hT |hT |hT |hT
    ·have hm1:decide ((tk ts i).text=[109,101,114,103,101])=false:=by rw[hT];rfl
     have hm2:decide ((tk ts i).text=[97,119,97,105,116])=false:=by rw[hT];rfl
     have hm3:decide ((tk ts i).text=[40])=false:=by rw[hT];rfl
     have hk3:=ht.k3 i hi (by rw[hT];decide)
     simp(maxSteps:=9^7) (disch:=omega)only[go_sem,reduceAdd,reduceEqDiff,reduceLeDiff,A2,hf3,hf7,hw2,hdt,hm1,hm2,hm3,G7,Bool.and_self];refine Dd [(0,true),(1,true),(2,true),(0,false),(3,true),(4,true)] (by kernel_rfl) (by kernel_rfl) ?_
     simp(maxSteps:=9^7) (disch:=omega)only[go_sem,reduceAdd,reduceEqDiff,reduceLeDiff,hf9];refine Uc ?_;simp(maxSteps:=9^7) (disch:=omega)only[go_sem,reduceLT,reduceAdd,reduceEqDiff,reduceLeDiff,A2,Bool.and_self];exact Ju (Hv ts) _ (i+1) 0 p hn (by omega) (Z3 2 (tk ts i).pos _ [] false) (fun _=>⟨rfl,_,sN hk3 (.inl hT),Uk _⟩)
    ·have hm1:decide ((tk ts i).text=[109,101,114,103,101])=false:=by rw[hT];rfl
     have hm2:decide ((tk ts i).text=[97,119,97,105,116])=false:=by rw[hT];rfl
     have hm3:decide ((tk ts i).text=[40])=false:=by rw[hT];rfl
     have hk3:=ht.k3 i hi (by rw[hT];decide)
     simp(maxSteps:=9^7) (disch:=omega)only[go_sem,reduceAdd,reduceEqDiff,reduceLeDiff,A2,hf3,hf7,hw2,hdt,hm1,hm2,hm3,G7,Bool.and_self];refine Dd [(0,true),(1,true),(2,true),(0,false),(3,true),(4,true)] (by kernel_rfl) (by kernel_rfl) ?_
     simp(maxSteps:=9^7) (disch:=omega)only[go_sem,reduceAdd,reduceEqDiff,reduceLeDiff,hf9];refine Uc ?_;simp(maxSteps:=9^7) (disch:=omega)only[go_sem,reduceLT,reduceAdd,reduceEqDiff,reduceLeDiff,A2,Bool.and_self];exact Ju (Hv ts) _ (i+1) 0 p hn (by omega) (Z3 2 (tk ts i).pos _ [] false) (fun _=>⟨rfl,_,sN hk3 (.inr hT),Uk _⟩)
    ·have hm1:decide ((tk ts i).text=[109,101,114,103,101])=true:=by rw[hT];rfl
     have hm2:decide ((tk ts i).text=[97,119,97,105,116])=false:=by rw[hT];rfl
     have hm3:decide ((tk ts i).text=[40])=false:=by rw[hT];rfl
     have hk3:=ht.k3 i hi (by rw[hT];decide)
     simp(maxSteps:=9^7) (disch:=omega)only[go_sem,reduceAdd,reduceEqDiff,reduceLeDiff,A2,hf3,hf7,hw2,hdt,hm1,hm2,hm3,G7,Bool.and_self];refine J0 ht hn fun j e1 p1 nm at2 hj hij h1=>?_
     have key:=fun t S=>mg_lp ht (i:=i) (i0:=j) (at_:=((tk ts i).pos:Int)) (nm:=nm) hE 3 0 j e1 p1 .nils [] t S
     unfold mgLB at key;simp only[Tryz.f286]at key;simp(maxSteps:=9^7) (disch:=omega)only[go_sem,reduceAdd,reduceEqDiff,reduceLeDiff,stA,stL,A2,Bool.and_self]
     by_cases he1:e1=0
     ·refine WX.mono (key _ _ (by omega) (by omega) rfl hj (by omega) (Ja1 _) En ⟨?_,?_,?_,?_,?_,?_,?_,?_,?_,?_,.inl ⟨rfl,rfl⟩⟩ (fun _=>⟨[],.nil,.inl ⟨rfl,rfl⟩⟩)) ?_
      ·simp only[A0,reduceEqDiff,Aa,Ab]
      ·simp only[A0,reduceEqDiff,Aa,Ab]
      ·simp only[A0,reduceEqDiff,Aa,Ab]
      ·simp only[A0,reduceEqDiff,Aa,Ab]
      ·simp only[A0,reduceEqDiff,Aa,Ab] <;> rfl
      ·simp only[A5,Bj,Ei,B6,Br,reduceAdd,reduceEqDiff,Aa,Ab] <;> rfl
      ·simp only[A5,Bj,Ei,B6,Br,reduceAdd,reduceEqDiff,Aa,Ab] <;> rfl
      ·simp only[A5,Bj,Ei,B6,Br,reduceAdd,reduceEqDiff,Aa,Ab] <;> rfl
      ·simp only[A5,Bj,Ei,B6,Br,reduceAdd,reduceEqDiff,Aa,Ab] <;> rfl
      ·simp only[Ei,B6,Br];omega
      rintro _ ⟨t',S',rfl,c,m,e2,p2,kv,es,⟨T1,T2,T3,T5,T6,M2,M3,M4,M6,hnx,KV⟩,hm,him,g,hh⟩;unfold stL at M2;unfold A2 at M6
      have gk:Gd [.v (.int .i64 12),.v (.int .i64 ((tk ts i).pos:Int)),.v (.int .i64 0),A2 nm,.v (.bool false),kv]:=by
       rcases KV with⟨rfl,rfl⟩ | ⟨tok,rfl,_⟩
       ·exact Z3 _ _ _ _ _
       ·exact Vl _ _ _ _ _ _ _ g
      have b5:=(Dh gk.2.1).2.2.2.2.2;simp(maxSteps:=9^7) (disch:=omega)only[go_sem,reduceEqDiff];refine Dd [(0,true),(1,true),(2,true),(1,false),(3,true)] (by kernel_rfl) (by kernel_rfl) ?_
      simp(maxSteps:=9^7) (disch:=omega)only[go_sem,reduceAdd,reduceEqDiff,reduceLeDiff,T1,T2,T3,T5,M2,M3,M4,M6,b5,Bool.and_self];refine Ju (Hv ts) _ m e2 p2 hm (by omega) gk (fun h=>?_)
      obtain⟨x,y,q,hr,hx1,hy1⟩:=hh h;obtain⟨_,hk1',rfl,rfl,rfl⟩:=h1 he1;refine⟨rfl,_,rd_merge hk3 hT hk1' hx1 hy1,?_⟩;rcases KV with⟨rfl,rfl⟩ | ⟨tok,rfl,_⟩
      ·cases hr
      ·exact .mk 12 _ 0 _ false _ _ (.row _ _ _ _ hr)
     ·have h0:(e1 == 0)=false:=by rw[beq_eq_false_iff_ne];exact he1
      have hc0:decide ((0:Int)<2)=true:=rfl;refine Bt (Bp ?_);simp(maxSteps:=9^7) (disch:=omega)only[go_sem,reduceAdd,reduceEqDiff,reduceLeDiff,A2,hf2,h0,hc0,Bool.and_self];refine Dd [(0,true),(1,true),(2,true),(1,false),(3,true)] (by kernel_rfl) (by kernel_rfl) ?_
      simp(maxSteps:=9^7) (disch:=omega)only[go_sem,reduceAdd,reduceEqDiff,reduceLeDiff,Bool.and_self];exact Ju (Hv ts) _ j e1 p1 hj (by omega) (Z3 12 (tk ts i).pos 0 nm false) (fun h=>absurd h he1)
    ·have hm1:decide ((tk ts i).text=[109,101,114,103,101])=false:=by rw[hT];rfl
     have hm2:decide ((tk ts i).text=[97,119,97,105,116])=true:=by rw[hT];rfl
     have hm3:decide ((tk ts i).text=[40])=false:=by rw[hT];rfl
     have hk3:=ht.k3 i hi (by rw[hT];decide)
     simp(maxSteps:=9^7) (disch:=omega)only[go_sem,reduceAdd,reduceEqDiff,reduceLeDiff,A2,hf3,hf7,hw2,hdt,hm1,hm2,hm3,G7,Bool.and_self];refine J0 ht hn fun j e1 p1 nm at2 hj hij h1=>?_
     simp(maxSteps:=9^7) (disch:=omega)only[go_sem,reduceAdd,reduceEqDiff,reduceLeDiff,stA,stL,A2,hf1,Bool.and_self];refine Ey (w:=[97,102,116,101,114]) hj ?_
     cases hb:isB ts j e1 [97,102,116,101,114]with
     |true =>
      obtain⟨rfl,hw⟩:=Dy hb;obtain⟨_,hk1',rfl,rfl,rfl⟩:=h1 rfl;have hn2:=hw.next ht hj;have hw3:=Fl (i+1+1) (by omega)
      simp(maxSteps:=9^7) (disch:=omega)only[go_sem,reduceAdd,reduceEqDiff,reduceLeDiff,hf2,hw3];refine Di (w:=[40]) ht hn2 fun m e2 p2 hm him h2=>?_
      simp(maxSteps:=9^7) (disch:=omega)only[go_sem,reduceAdd,reduceEqDiff,reduceLeDiff,stA,stL,hf8,Bool.and_self];refine qT (bl:=true) hm (hK m e2 p2 true hm (by omega)) fun q e3 p3 es hq hmq g h3=>?_
      have b5:=g.2.1;simp(maxSteps:=9^7) (disch:=omega)only[go_sem,reduceAdd,reduceEqDiff,reduceLeDiff,stA,stL,Bool.and_self];refine Dd [(0,true),(1,true),(2,true),(1,false),(3,true)] (by kernel_rfl) (by kernel_rfl) ?_
      simp(maxSteps:=9^7) (disch:=omega)only[go_sem,reduceAdd,reduceEqDiff,reduceLeDiff,b5,Bool.and_self];refine Ju (Hv ts) _ q e3 p3 hq (by omega) (Vl 14 (tk ts i).pos 0 (tk ts (i+1)).text false 0 0 g) (fun h=>?_)
      obtain⟨z,l,x,y,hl,hx1,hr1⟩:=h3 h;obtain⟨_,w2,rfl⟩:=h2 z;exact⟨rfl,_,rd_awN hk3 hT hk1' (by rw[hw.2];simp) (by rw[w2.2];simp) hx1 hr1,.mk 14 (tk ts i).pos 0 (tk ts (i+1)).text false _ l (.row _ _ es l hl)⟩
     |false =>
      simp(maxSteps:=9^7) (disch:=omega)only[go_sem,reduceAdd,reduceEqDiff,reduceLeDiff,hf2];refine Dd [(0,true),(1,true),(2,true),(1,false),(3,true)] (by kernel_rfl) (by kernel_rfl) ?_
      simp(maxSteps:=9^7) (disch:=omega)only[go_sem,reduceAdd,reduceEqDiff,reduceLeDiff,Bool.and_self];refine Ju (Hv ts) _ j e1 p1 hj (by omega) (Z3 14 (tk ts i).pos 0 nm false) (fun h=>?_)
      subst h;obtain⟨_,hk1',rfl,rfl,rfl⟩:=h1 rfl;have hno:=G6 ht hj hb (by decide)
      exact⟨rfl,_,rd_aw0 hk3 hT hk1' (fun h=>hno (Jb5.1 h)),.mk 14 (tk ts i).pos 0 (tk ts (i+1)).text false .nils [] .nil⟩
    ·have hm1:decide ((tk ts i).text=[109,101,114,103,101])=false:=by rw[hT];rfl
     have hm2:decide ((tk ts i).text=[97,119,97,105,116])=false:=by rw[hT];rfl
     have hm3:decide ((tk ts i).text=[40])=true:=by rw[hT];rfl
     simp(maxSteps:=9^7) (disch:=omega)only[go_sem,reduceAdd,reduceEqDiff,reduceLeDiff,A2,hf3,hf7,hw2,hdt,hm1,hm2,hm3,G7,Bool.and_self];refine Ma (Wr ts) (by kernel_rfl) hn (hE (i+1) 0 p hn (by omega)) fun j e1 p1 x0 x1 x2 x3 x4 x5 hj hij g1 h1=>?_
     have a0:=(Dh g1.2.1).1;have a1:=(Dh g1.2.1).2.1;have a2:=(Dh g1.2.1).2.2.1;have a3:=(Dh g1.2.1).2.2.2.1;have a4:=(Dh g1.2.1).2.2.2.2.1;have a5:=(Dh g1.2.1).2.2.2.2.2;simp(maxSteps:=9^7) (disch:=omega)only[go_sem,reduceAdd,reduceEqDiff,reduceLeDiff,stA,stL,Bool.and_self];refine Dd [(0,true),(2,true),(1,true),(2,false),(3,true),(2,false),(4,true)] (by kernel_rfl) (by kernel_rfl) ?_
     simp(maxSteps:=9^7) (disch:=omega)only[go_sem,reduceAdd,reduceEqDiff,reduceLeDiff,hf2];refine Di (w:=[41]) ht hj fun m e2 p2 hm him h2=>?_
     simp(maxSteps:=9^7) (disch:=omega)only[go_sem,reduceAdd,reduceEqDiff,reduceLeDiff,stA,stL,a0,a1,a2,a3,a4,a5,Bool.and_self];refine Ju (Hv ts) _ m e2 p2 hm (by omega) g1 (fun h=>?_)
     obtain⟨z,w2,rfl⟩:=h2 h;obtain⟨_,x,hx1,hr1⟩:=h1 z;exact⟨rfl,x,rd_in2 hk1 hk2 hT (xN (by rw[hT];simp) hx1 (by rw[w2.2];simp)),hr1⟩
end Go.Ax
noncomputable section
namespace Go.Ax
open Go.RowKit Go.Proofs
def kd1:PE→Prop
 |.mk k _ _ _ _ _=>1≤k
def PR.Sat1(x:PR PE):Prop:=∀a i,x=.ok a i→kd1 a
theorem Yh{α:Type}{x:PR α}{f:α→Nat→PR PE}(h:∀a i,x=.ok a i→(f a i).Sat1):(x.bind f).Sat1:=by
 cases x with
 |ok a i=>exact h a i rfl
 |bad a e=>exact fun _ _ h=>by cases h
 |out=>exact fun _ _ h=>by cases h
theorem Pd{c:Prop}[Decidable c]{x y:PR PE}(hx:x.Sat1)(hy:y.Sat1):(if c then x else y).Sat1:=by
 split
 ·exact hx
 ·exact hy
theorem Ug{e:PE}{i:Nat}(h:kd1 e):(PR.ok e i).Sat1:=fun a j hh=>by injection hh with h1 h2;subst h1;exact h
theorem dA{a e:Nat}:(PR.bad a e:PR PE).Sat1:=fun _ _ h=>by cases h
theorem Ss:(PR.out:PR PE).Sat1:=fun _ _ h=>by cases h
section
variable {ts:List Tk}
theorem sC{ws:List (List UInt8)}{kid:Nat→PR PE}:∀(n:Nat) (x:PE) (i:Nat),kd1 x→(Iv ts ws kid n x i).Sat1
 |0,x,i,h=>Ss
 |n+1,x,i,h=>by
  unfold Iv;exact Pd (Yh fun y j _=>sC n _ j (by show 1≤6;omega)) (Ug h)
theorem iV:∀(n:Nat) (x:PE) (i:Nat),kd1 x→(Ih ts n x i).Sat1
 |0,x,i,h=>Ss
 |n+1,x,i,h=>by
  unfold Ih;exact Pd (Yh fun y j _=>iV n _ j (by show 1≤11;omega)) (Ug h)
theorem numP_sat(i:Nat):(I7 ts i).Sat1:=by
 unfold I7
 split
 ·exact Ss
 ·refine Pd ?_ (Pd (Pd dA (Ug (by show 1≤1;omega))) dA)
  split
  ·exact Ss
  ·exact Pd (Ug (by show 1≤1;omega)) dA
theorem P_sat:∀(n:Nat) (nt:NT) (i:Nat),(P ts n nt i).Sat1
 |0,nt,i=>Ss
 |n+1,nt,i=>by
  have ih:=P_sat n;cases nt <;> unfold P <;> repeat' (first |exact ih _ _ |exact numP_sat _ |exact Ug (by first | (show 1≤_;omega) | (unfold G4;show 1≤_;omega)) |refine Pd ?_ ?_ |exact sC _ _ _ (by assumption) |exact iV _ _ _ (by assumption) | (refine Yh ?_;intro a j hh;try have hk:=ih _ _ _ _ hh) |exact Ug (by assumption))
theorem P_kind(n:Nat)(nt:NT)(i:Nat)(x:PE)(j:Nat)(h:P ts n nt i=.ok x j):kd1 x:=P_sat n nt i x j h
end
end Go.Ax
noncomputable section
namespace Go.Ax
open Go.RowKit Go.Proofs
set_option maxRecDepth 100000
theorem rd_const{ts:List Tk}(ht:Tok3 ts){i j:Nat}{kind pos:Nat}{n:Int}{name:List UInt8}{off:Bool}{kids:List PE}(h:RdX ts .or i (.mk kind pos n name off kids) j)(hk:kind≤2):H5 (.mk kind pos n name off kids)=true:=by
 obtain⟨⟨m,hm⟩,_,_⟩:=h;have:=P_kind m .or i _ _ (hm m (Ja1 _));have h1:1≤kind:=this;unfold H5;rw[decide_eq_true_eq];omega
theorem Mc(ts:List Tk):∀args a,Fv ts 223 args a=Sm ts .arrow args a:=fun _ _=>rfl
theorem arrow_k{ts:List Tk}(ht:Tok3 ts)(i:Nat)(e p:Int)(hi:i<ts.length)(hr:Kn3 ts 250 [stA ts i e p,.v (.int .i64 (0:Nat))])(ha:e=0→∀i' p,i'<ts.length→i<i'→Kn3 ts 223 [stA ts i' 0 p]):Kn3 ts 223 [stA ts i e p]:=by
 refine Jq Tryz.f223 (by kernel_rfl) (by kernel_rfl) (by show(_:Nat)≤_;simp[Tryz.f223]) ?_
 have hsz:=ht.size;obtain⟨fn1,hf1⟩:=fX 118;obtain⟨fn2,hf2⟩:=fX 180;obtain⟨fn3,hf3⟩:=fX 250;obtain⟨fn4,hf4⟩:=fX 223;simp(maxSteps:=9^7) (disch:=omega)only[go_sem,reduceAdd,reduceEqDiff,reduceLeDiff,Tryz.f223,stA,stL,A2,hf3];refine K0 (lv:=0) (by omega) hi hr fun j e1 p1 x0 x1 x2 x3 x4 x5 hj hij g1 h1=>?_
 by_cases he:e1=0
 ·subst he
  obtain⟨rfl,x,hx,hrep⟩:=h1 rfl;have hx:RdX ts .or i x j:=hx;obtain⟨kind,pos,n,name,off,kids,rfl,rfl,rfl,rfl,rfl,rfl,hkids⟩:=rep6 hrep;have bq:=Dh g1.2.1;have b5:=bq.2.2.2.2.2;have h0:((0:Int) != 0)=false:=rfl;have hxj:=Ld ts j hj;simp(maxSteps:=9^7) (disch:=omega)only[go_sem,reduceAdd,reduceEqDiff,reduceLeDiff,stA,stL,tkL,A2,hf1,h0,hxj,Bool.and_self];refine Ey (w:=[45,62]) hj ?_
  cases hb:isB ts j 0 [45,62]with
  |true =>
   have hw:=(Dy hb).2;have hn:=hw.next ht hj;have hw2:=Fl j (by omega)
   have hb2:isB ts j 0 [102,98,121]=false:=by
    unfold isB;rw[decide_eq_false];rintro⟨_,_,h⟩;rw[hw.2]at h;exact absurd h (by decide)
   simp(maxSteps:=9^7) (disch:=omega)only[go_sem,reduceAdd,reduceEqDiff,reduceLeDiff,hf1];refine Ey (w:=[102,98,121]) hj ?_;simp(maxSteps:=9^7) (disch:=omega)only[go_sem,reduceAdd,reduceEqDiff,reduceLeDiff,hf4,hb2,hw2];refine Ma (Mc ts) (by kernel_rfl) hn (ha rfl (j+1) p1 hn (by omega)) fun m e2 p2 y0 y1 y2 y3 y4 y5 hm hjm g2 h2=>?_
   have c0:=(Dh g2.2.1).1;have c1:=(Dh g2.2.1).2.1;have c2:=(Dh g2.2.1).2.2.1;have c3:=(Dh g2.2.1).2.2.2.1;have c4:=(Dh g2.2.1).2.2.2.2.1;have c5:=(Dh g2.2.1).2.2.2.2.2;simp(maxSteps:=9^7) (disch:=omega)only[go_sem,reduceAdd,reduceEqDiff,reduceLeDiff,stA,stL,A2,Bool.and_self];refine Dd [(0,true),(1,true),(2,true),(3,true),(4,true),(5,true),(6,true),(7,true),(4,false),(3,false),(8,true)] (by kernel_rfl) (by kernel_rfl) ?_
   simp(maxSteps:=9^7) (disch:=omega)only[go_sem,reduceLT,reduceAdd,reduceEqDiff,reduceLeDiff,A2,b5,c0,c1,c2,c3,c4,c5,Bool.and_self];refine Y4 (Mc ts) _ m e2 p2 8 (tk ts j).pos [] false _ _ _ hm (by omega) (Ed g1 (Ed g2 En)) (fun h=>?_)
   obtain⟨_,y,hy,hry⟩:=h2 h;exact⟨rfl,_,.cons _ _ _ _ hrep (.cons _ _ _ _ hry .nil),rd_ar hx (by rw[hw.2];simp) hy⟩
  |false =>
   have hn1:=G6 ht hj hb (by decide)
   simp(maxSteps:=9^7) (disch:=omega)only[go_sem,reduceAdd,reduceEqDiff,reduceLeDiff,hf1];refine Ey (w:=[102,98,121]) hj ?_
   cases hb2:isB ts j 0 [102,98,121]with
   |true =>
    have hw:=(Dy hb2).2;have hn:=hw.next ht hj;have hw2:=Fl j (by omega)
    by_cases hk:kind≤2
    ·have hk2:decide ((kind:Int) > 2)=false:=by rw[decide_eq_false];omega
     simp(maxSteps:=9^7) (disch:=omega)only[go_sem,reduceAdd,reduceEqDiff,reduceLeDiff,hf4,hk2,hw2];refine Ma (Mc ts) (by kernel_rfl) hn (ha rfl (j+1) p1 hn (by omega)) fun m e2 p2 y0 y1 y2 y3 y4 y5 hm hjm g2 h2=>?_
     have c0:=(Dh g2.2.1).1;have c1:=(Dh g2.2.1).2.1;have c2:=(Dh g2.2.1).2.2.1;have c3:=(Dh g2.2.1).2.2.2.1;have c4:=(Dh g2.2.1).2.2.2.2.1;have c5:=(Dh g2.2.1).2.2.2.2.2;simp(maxSteps:=9^7) (disch:=omega)only[go_sem,reduceAdd,reduceEqDiff,reduceLeDiff,stA,stL,A2,Bool.and_self];refine Dd [(0,true),(1,true),(2,true),(3,true),(4,true),(5,true),(6,true),(7,true),(4,false),(3,false),(8,true)] (by kernel_rfl) (by kernel_rfl) ?_
     simp(maxSteps:=9^7) (disch:=omega)only[go_sem,reduceLT,reduceAdd,reduceEqDiff,reduceLeDiff,A2,b5,c0,c1,c2,c3,c4,c5,Bool.and_self];refine Y4 (Mc ts) _ m e2 p2 9 (tk ts j).pos [] false _ _ _ hm (by omega) (Ed g1 (Ed g2 En)) (fun h=>?_)
     obtain⟨_,y,hy,hry⟩:=h2 h;refine⟨rfl,_,.cons _ _ _ _ hrep (.cons _ _ _ _ hry .nil),rd_fb hx ?_ ?_ (by rw[hw.2];simp) hy⟩
     ·exact fun h=>hn1 (Jb5.1 h)
     ·exact rd_const ht hx hk
    ·have hk2:decide ((kind:Int) > 2)=true:=by rw[decide_eq_true_eq];omega
     simp(maxSteps:=9^7) (disch:=omega)only[go_sem,reduceAdd,reduceEqDiff,reduceLeDiff,hf4,hk2,hw2];refine Dd [(0,true),(2,true),(1,true),(2,false),(3,true),(2,false),(4,true)] (by kernel_rfl) (by kernel_rfl) ?_
     simp(maxSteps:=9^7) (disch:=omega)only[go_sem,reduceAdd,reduceEqDiff,reduceLeDiff,hf2];refine O7 hj fun e' p' he'=>?_
     simp(maxSteps:=9^7) (disch:=omega)only[go_sem,reduceAdd,reduceEqDiff,reduceLeDiff,stA,stL,b5,Bool.and_self];exact Ju (Mc ts) _ j e' p' hj hij g1 (fun h=>absurd h he')
   |false =>
    have hn2:=G6 ht hj hb2 (by decide)
    simp(maxSteps:=9^7) (disch:=omega)only[go_sem,reduceAdd,reduceEqDiff,reduceLeDiff,hf4];refine Dd [(0,true),(1,true),(2,true),(1,false),(3,true)] (by kernel_rfl) (by kernel_rfl) ?_
    simp(maxSteps:=9^7) (disch:=omega)only[go_sem,reduceAdd,reduceEqDiff,reduceLeDiff,b5,Bool.and_self];exact Ju (Mc ts) _ j 0 p1 hj hij g1 (fun h=>⟨rfl,_,rd_ax hx (fun h=>hn1 (Jb5.1 h)) (fun h=>hn2 (Jb5.1 h)),hrep⟩)
 ·have h0:(e1 != 0)=true:=by rw[bne_iff_ne];exact he
  have bq:=Dh g1.2.1;have b0:=bq.1;have b1:=bq.2.1;have b2:=bq.2.2.1;have b3:=bq.2.2.2.1;have b4:=bq.2.2.2.2.1;have b5:=bq.2.2.2.2.2;simp(maxSteps:=9^7) (disch:=omega)only[go_sem,reduceAdd,reduceEqDiff,reduceLeDiff,stA,stL,A2,h0,Bool.and_self];refine Dd [(0,true),(1,true),(2,true),(1,false),(3,true)] (by kernel_rfl) (by kernel_rfl) ?_
  simp(maxSteps:=9^7) (disch:=omega)only[go_sem,reduceAdd,reduceEqDiff,reduceLeDiff,b0,b1,b2,b3,b4,b5,Bool.and_self];exact Ju (Mc ts) _ j e1 p1 hj hij g1 (fun h=>absurd h he)
theorem Qs(ts:List Tk):∀args a,Fv ts 182 args a=Sm ts .expr args a:=fun _ _=>rfl
theorem expr_k{ts:List Tk}(ht:Tok3 ts)(i:Nat)(e p:Int)(hi:i<ts.length)(hA:Kn3 ts 223 [stA ts i e p])(hE:e=0→∀i' e p,i'<ts.length→(i<i'∨e≠0)→Kn3 ts 182 [stA ts i' e p]):Kn3 ts 182 [stA ts i e p]:=by
 refine Jq Tryz.f182 (by kernel_rfl) (by kernel_rfl) (by show(_:Nat)≤_;simp[Tryz.f182]) ?_
 have hsz:=ht.size;have hx:=Ld ts i hi;obtain⟨fn1,hf1⟩:=fX 118;obtain⟨fn2,hf2⟩:=fX 115;obtain⟨fn3,hf3⟩:=fX 223;obtain⟨fn4,hf4⟩:=fX 182
 by_cases he:e=0
 ·subst he
  have h0:((0:Int) != 0)=false:=rfl;simp(maxSteps:=9^7) (disch:=omega)only[go_sem,reduceAdd,reduceEqDiff,reduceLeDiff,Tryz.f182,stA,stL,tkL,A2,hf1,h0,hx];refine Ey (w:=[105,102]) hi ?_
  cases hb:isB ts i 0 [105,102]with
  |true =>
   have hw:=(Dy hb).2;have hn:=hw.next ht hi;have hw2:=Fl i (by omega)
   simp(maxSteps:=9^7) (disch:=omega)only[go_sem,reduceAdd,reduceEqDiff,reduceLeDiff,hf3,hf4,hw2];refine Ma (Qs ts) (by kernel_rfl) hn (hE rfl (i+1) 0 p hn (by omega)) fun j1 e1 p1 ax0 ax1 ax2 ax3 ax4 ax5 hm1 hl1 g1 h1=>?_
   have a0:=(Dh g1.2.1).1;have a1:=(Dh g1.2.1).2.1;have a2:=(Dh g1.2.1).2.2.1;have a3:=(Dh g1.2.1).2.2.2.1;have a4:=(Dh g1.2.1).2.2.2.2.1;have a5:=(Dh g1.2.1).2.2.2.2.2;simp(maxSteps:=9^7) (disch:=omega)only[go_sem,reduceAdd,reduceEqDiff,reduceLeDiff,stA,stL,A2,hf2,Bool.and_self];refine Di (w:=[116,104,101,110]) ht hm1 fun j2 e2 p2 hm2 hl2 h2=>?_
   simp(maxSteps:=9^7) (disch:=omega)only[go_sem,reduceAdd,reduceEqDiff,reduceLeDiff,stA,stL,hf4,Bool.and_self];refine Ma (Qs ts) (by kernel_rfl) hm2 (hE rfl j2 e2 p2 hm2 (by omega)) fun j3 e3 p3 bx0 bx1 bx2 bx3 bx4 bx5 hm3 hl3 g3 h3=>?_
   have b0:=(Dh g3.2.1).1;have b1:=(Dh g3.2.1).2.1;have b2:=(Dh g3.2.1).2.2.1;have b3:=(Dh g3.2.1).2.2.2.1;have b4:=(Dh g3.2.1).2.2.2.2.1;have b5:=(Dh g3.2.1).2.2.2.2.2;simp(maxSteps:=9^7) (disch:=omega)only[go_sem,reduceAdd,reduceEqDiff,reduceLeDiff,stA,stL,A2,hf2,Bool.and_self];refine Di (w:=[101,108,115,101]) ht hm3 fun j4 e4 p4 hm4 hl4 h4=>?_
   simp(maxSteps:=9^7) (disch:=omega)only[go_sem,reduceAdd,reduceEqDiff,reduceLeDiff,stA,stL,hf4,Bool.and_self];refine Ma (Qs ts) (by kernel_rfl) hm4 (hE rfl j4 e4 p4 hm4 (by omega)) fun j5 e5 p5 cx0 cx1 cx2 cx3 cx4 cx5 hm5 hl5 g5 h5=>?_
   have c0:=(Dh g5.2.1).1;have c1:=(Dh g5.2.1).2.1;have c2:=(Dh g5.2.1).2.2.1;have c3:=(Dh g5.2.1).2.2.2.1;have c4:=(Dh g5.2.1).2.2.2.2.1;have c5:=(Dh g5.2.1).2.2.2.2.2;simp(maxSteps:=9^7) (disch:=omega)only[go_sem,reduceAdd,reduceEqDiff,reduceLeDiff,stA,stL,A2,Bool.and_self];refine Dd [(0,true),(1,true),(2,true),(3,true),(4,true),(5,true),(6,true),(7,true),(4,false),(3,false),(2,false),(8,true)] (by kernel_rfl) (by kernel_rfl) ?_
   simp(maxSteps:=9^7) (disch:=omega)only[go_sem,reduceLT,reduceAdd,reduceEqDiff,reduceLeDiff,A2,a0,a1,a2,a3,a4,a5,b0,b1,b2,b3,b4,b5,c0,c1,c2,c3,c4,c5,Bool.and_self];refine Y4 (Qs ts) _ j5 e5 p5 7 (tk ts i).pos [] false _ _ _ hm5 (by omega) (Ed g1 (Ed g3 (Ed g5 En))) (fun h=>?_)
   obtain⟨z4,x5,r5,q5⟩:=h5 h;obtain⟨z3,w4,rfl⟩:=h4 z4;obtain⟨z2,x3,r3,q3⟩:=h3 z3;obtain⟨z1,w2,rfl⟩:=h2 z2;obtain⟨_,x1,r1,q1⟩:=h1 z1;exact⟨rfl,_,.cons _ _ _ _ q1 (.cons _ _ _ _ q3 (.cons _ _ _ _ q5 .nil)),rd_if (by rw[hw.2];simp) r1 (by rw[w2.2];simp) r3 (by rw[w4.2];simp) r5⟩
  |false =>
   have hn1:=G6 ht hi hb (by decide)
   simp(maxSteps:=9^7) (disch:=omega)only[go_sem,reduceAdd,reduceEqDiff,reduceLeDiff,hf3,hf4];refine Ma (Mc ts) (by kernel_rfl) hi hA fun j1 e1 p1 x0 x1 x2 x3 x4 x5 hm1 hl1 g1 h1=>?_
   simp(maxSteps:=9^7) (disch:=omega)only[go_sem,reduceAdd,reduceEqDiff,reduceLeDiff,stA,stL,Bool.and_self];refine Ju (Qs ts) _ j1 e1 p1 hm1 hl1 g1 (fun h=>?_)
   obtain⟨z,x,r,q⟩:=h1 h;exact⟨z,x,rd_ex (fun h=>hn1 (Jb5.1 h)) r,q⟩
 ·have h0:(e != 0)=true:=by rw[bne_iff_ne];exact he
  simp(maxSteps:=9^7) (disch:=omega)only[go_sem,reduceAdd,reduceEqDiff,reduceLeDiff,Tryz.f182,stA,stL,tkL,A2,hf1,hf3,hf4,h0,hx];refine Ma (Mc ts) (by kernel_rfl) hi hA fun j1 e1 p1 x0 x1 x2 x3 x4 x5 hm1 hl1 g1 h1=>?_
  simp(maxSteps:=9^7) (disch:=omega)only[go_sem,reduceAdd,reduceEqDiff,reduceLeDiff,stA,stL,Bool.and_self];refine Ju (Qs ts) _ j1 e1 p1 hm1 hl1 g1 (fun h=>absurd (h1 h).1 he)
end Go.Ax
noncomputable section
namespace Go.Ax
open Go.RowKit Go.Proofs
set_option maxRecDepth 100000
theorem ybs1(s0:ByteArray):Bd Tryz.prog 39 1 [(0,.v (.string s0))]=some (.sl 1 0 1 [.v (.string s0)]):=by kernel_rfl
theorem ybs2(s0 s1:ByteArray):Bd Tryz.prog 39 2 [(0,.v (.string s0)),(1,.v (.string s1))]=some (.sl 1 0 1 [.v (.string s0),.v (.string s1)]):=by kernel_rfl
theorem ybs3(s0 s1 s2:ByteArray):Bd Tryz.prog 39 3 [(0,.v (.string s0)),(1,.v (.string s1)),(2,.v (.string s2))]=some (.sl 1 0 1 [.v (.string s0),.v (.string s1),.v (.string s2)]):=by kernel_rfl
theorem ybs6(s0 s1 s2 s3 s4 s5:ByteArray):Bd Tryz.prog 39 6 [(0,.v (.string s0)),(1,.v (.string s1)),(2,.v (.string s2)),(3,.v (.string s3)),(4,.v (.string s4)),(5,.v (.string s5))]=some (.sl 1 0 1 [.v (.string s0),.v (.string s1),.v (.string s2),.v (.string s3),.v (.string s4),.v (.string s5)]):=by kernel_rfl
theorem ybt5(w0 w1 w2 w3 w4:List AV):Bd Tryz.prog 341 5 [(0,.sl 1 0 1 w0),(1,.sl 1 0 1 w1),(2,.sl 1 0 1 w2),(3,.sl 1 0 1 w3),(4,.sl 1 0 1 w4)]=some (.sl 1 0 1 [.sl 1 0 1 w0,.sl 1 0 1 w1,.sl 1 0 1 w2,.sl 1 0 1 w3,.sl 1 0 1 w4]):=by kernel_rfl
theorem yxt0(w0 w1 w2 w3 w4:List AV):Bh Tryz.prog 341 (.sl 1 0 1 [.sl 1 0 1 w0,.sl 1 0 1 w1,.sl 1 0 1 w2,.sl 1 0 1 w3,.sl 1 0 1 w4]) (.v (.int .i64 ((0:Nat):Int)))=some (.ep [.sl 1 0 1 w0]):=by kernel_rfl
theorem yxt1(w0 w1 w2 w3 w4:List AV):Bh Tryz.prog 341 (.sl 1 0 1 [.sl 1 0 1 w0,.sl 1 0 1 w1,.sl 1 0 1 w2,.sl 1 0 1 w3,.sl 1 0 1 w4]) (.v (.int .i64 ((1:Nat):Int)))=some (.ep [.sl 1 0 1 w1]):=by kernel_rfl
theorem yxt2(w0 w1 w2 w3 w4:List AV):Bh Tryz.prog 341 (.sl 1 0 1 [.sl 1 0 1 w0,.sl 1 0 1 w1,.sl 1 0 1 w2,.sl 1 0 1 w3,.sl 1 0 1 w4]) (.v (.int .i64 ((2:Nat):Int)))=some (.ep [.sl 1 0 1 w2]):=by kernel_rfl
theorem yxt3(w0 w1 w2 w3 w4:List AV):Bh Tryz.prog 341 (.sl 1 0 1 [.sl 1 0 1 w0,.sl 1 0 1 w1,.sl 1 0 1 w2,.sl 1 0 1 w3,.sl 1 0 1 w4]) (.v (.int .i64 ((3:Nat):Int)))=some (.ep [.sl 1 0 1 w3]):=by kernel_rfl
theorem yxt4(w0 w1 w2 w3 w4:List AV):Bh Tryz.prog 341 (.sl 1 0 1 [.sl 1 0 1 w0,.sl 1 0 1 w1,.sl 1 0 1 w2,.sl 1 0 1 w3,.sl 1 0 1 w4]) (.v (.int .i64 ((4:Nat):Int)))=some (.ep [.sl 1 0 1 w4]):=by kernel_rfl
attribute [go_sem] ybs1 ybs2 ybs3 ybs6 ybt5 yxt0 yxt1 yxt2 yxt3 yxt4
end Go.Ax
noncomputable section
namespace Go.Ax
open Go.RowKit Go.Proofs
set_option maxRecDepth 100000
theorem row0_k{ts:List Tk}(ht:Tok3 ts)(i:Nat)(p:Int)(hi:i<ts.length)(hn:Kn3 ts 250 [stA ts i 0 p,.v (.int .i64 ((0+1:Nat):Int))])(hro:∀i' p,i'<ts.length→i<i'→Kn3 ts 250 [stA ts i' 0 p,.v (.int .i64 ((0+1:Nat):Int))]):Kn3 ts 250 [stA ts i 0 p,.v (.int .i64 ((0:Nat):Int))]:=by
 refine Jq Tryz.f250 (by kernel_rfl) (by kernel_rfl) (by show(_:Nat)≤_;simp[Tryz.f250]) ?_
 have hsz:=ht.size;have hx:=Ld ts i hi;obtain⟨fn1,hf1⟩:=fX 118;obtain⟨fn2,hf2⟩:=fX 250;obtain⟨fn3,hf3⟩:=fX 272;have h0:((0:Int) != 0)=false:=rfl;have hl5:((((0:Nat):Int)) == 5)=false:=rfl;have hl2:((((0:Nat):Int)) == 2)=false:=rfl;have hl3:((((0:Nat):Int)) != 2)=true:=rfl;have hwl:IntKind.i64.wrap ((((0:Nat):Int))+1)=((0+1:Nat):Int):=rfl;simp(maxSteps:=9^7) (disch:=omega)only[go_sem,reduceAdd,reduceEqDiff,reduceLeDiff,Tryz.f250,stA,stL,tkL,A2,hx,hf1,hf2,h0,hl5,hl2,hwl,Bool.and_self];refine K0 (lv:=0+1) (by omega) hi hn fun j e1 p1 x0 x1 x2 x3 x4 x5 hj hij g1 h1=>?_
 have key:=fun n0 t S=>Yj (lv:=0) (i:=i) ht (by omega) (by omega) (ws:=[[111,114],[120,111,114]]) (by decide) (by decide) hro (ts.length+1) n0 j e1 p1 x0 x1 x2 x3 x4 x5 t S
 unfold Vc at key;simp only[Tryz.f250]at key;simp(maxSteps:=9^7) (disch:=omega)only[go_sem,reduceAdd,reduceEqDiff,reduceLeDiff,stA,stL,A2,Bool.and_self];refine WX.mono (key 0 _ _ (by omega) (by omega) hj hij g1 ⟨?_,?_,?_,?_,?_,?_,?_,?_,?_,?_,?_,?_⟩ ?_) ?_
 ·simp only[A0,reduceEqDiff,Aa,Ab]
 ·simp only[A0,reduceEqDiff,Aa,Ab]
 ·simp only[A0,reduceEqDiff,Aa,Ab]
 ·simp only[A0,reduceEqDiff,Aa,Ab]
 ·simp only[A0,reduceEqDiff,Aa,Ab];rfl
 ·simp only[A0,reduceEqDiff,Aa,Ab]
 ·simp only[A0,reduceEqDiff,Aa,Ab];rfl
 ·simp only[A5,Bj,B6,Br,reduceAdd,reduceEqDiff,Aa,Ab];rfl
 ·simp only[A5,Bj,B6,Br,reduceAdd,reduceEqDiff,Aa,Ab]
 ·simp only[A5,Bj,B6,Br,reduceAdd,reduceEqDiff,Aa,Ab];rfl
 ·simp only[A5,Bj,B6,Br,reduceAdd,reduceEqDiff,Aa,Ab]
 ·simp only[Ei,B6,Br];omega
 ·intro h
  obtain⟨_,x,hx1,hr1⟩:=h1 h;exact⟨x,hr1,fun y m hr=>rd_or hx1 hr⟩
 rintro _ ⟨t',S',rfl,q4,q5,m,e2,p2,y0,y1,y2,y3,y4,y5,m3,m4,hm,him,g,hh⟩;unfold stL at m3;simp(maxSteps:=9^7) (disch:=omega)only[go_sem,reduceAdd,reduceLeDiff,q4,q5,m3,m4];exact R7 (lv:=0) _ m e2 p2 hm him g hh
theorem row1_k{ts:List Tk}(ht:Tok3 ts)(i:Nat)(p:Int)(hi:i<ts.length)(hn:Kn3 ts 250 [stA ts i 0 p,.v (.int .i64 ((1+1:Nat):Int))])(hro:∀i' p,i'<ts.length→i<i'→Kn3 ts 250 [stA ts i' 0 p,.v (.int .i64 ((1+1:Nat):Int))]):Kn3 ts 250 [stA ts i 0 p,.v (.int .i64 ((1:Nat):Int))]:=by
 refine Jq Tryz.f250 (by kernel_rfl) (by kernel_rfl) (by show(_:Nat)≤_;simp[Tryz.f250]) ?_
 have hsz:=ht.size;have hx:=Ld ts i hi;obtain⟨fn1,hf1⟩:=fX 118;obtain⟨fn2,hf2⟩:=fX 250;obtain⟨fn3,hf3⟩:=fX 272;have h0:((0:Int) != 0)=false:=rfl;have hl5:((((1:Nat):Int)) == 5)=false:=rfl;have hl2:((((1:Nat):Int)) == 2)=false:=rfl;have hl3:((((1:Nat):Int)) != 2)=true:=rfl;have hwl:IntKind.i64.wrap ((((1:Nat):Int))+1)=((1+1:Nat):Int):=rfl;simp(maxSteps:=9^7) (disch:=omega)only[go_sem,reduceAdd,reduceEqDiff,reduceLeDiff,Tryz.f250,stA,stL,tkL,A2,hx,hf1,hf2,h0,hl5,hl2,hwl,Bool.and_self];refine K0 (lv:=1+1) (by omega) hi hn fun j e1 p1 x0 x1 x2 x3 x4 x5 hj hij g1 h1=>?_
 have key:=fun n0 t S=>Yj (lv:=1) (i:=i) ht (by omega) (by omega) (ws:=[[97,110,100]]) (by decide) (by decide) hro (ts.length+1) n0 j e1 p1 x0 x1 x2 x3 x4 x5 t S
 unfold Vc at key;simp only[Tryz.f250]at key;simp(maxSteps:=9^7) (disch:=omega)only[go_sem,reduceAdd,reduceEqDiff,reduceLeDiff,stA,stL,A2,Bool.and_self];refine WX.mono (key 0 _ _ (by omega) (by omega) hj hij g1 ⟨?_,?_,?_,?_,?_,?_,?_,?_,?_,?_,?_,?_⟩ ?_) ?_
 ·simp only[A0,reduceEqDiff,Aa,Ab]
 ·simp only[A0,reduceEqDiff,Aa,Ab]
 ·simp only[A0,reduceEqDiff,Aa,Ab]
 ·simp only[A0,reduceEqDiff,Aa,Ab]
 ·simp only[A0,reduceEqDiff,Aa,Ab];rfl
 ·simp only[A0,reduceEqDiff,Aa,Ab]
 ·simp only[A0,reduceEqDiff,Aa,Ab];rfl
 ·simp only[A5,Bj,B6,Br,reduceAdd,reduceEqDiff,Aa,Ab];rfl
 ·simp only[A5,Bj,B6,Br,reduceAdd,reduceEqDiff,Aa,Ab]
 ·simp only[A5,Bj,B6,Br,reduceAdd,reduceEqDiff,Aa,Ab];rfl
 ·simp only[A5,Bj,B6,Br,reduceAdd,reduceEqDiff,Aa,Ab]
 ·simp only[Ei,B6,Br];omega
 ·intro h
  obtain⟨_,x,hx1,hr1⟩:=h1 h;exact⟨x,hr1,fun y m hr=>rd_and hx1 hr⟩
 rintro _ ⟨t',S',rfl,q4,q5,m,e2,p2,y0,y1,y2,y3,y4,y5,m3,m4,hm,him,g,hh⟩;unfold stL at m3;simp(maxSteps:=9^7) (disch:=omega)only[go_sem,reduceAdd,reduceLeDiff,q4,q5,m3,m4];exact R7 (lv:=1) _ m e2 p2 hm him g hh
theorem row2_k{ts:List Tk}(ht:Tok3 ts)(i:Nat)(p:Int)(hi:i<ts.length)(hn:Kn3 ts 250 [stA ts i 0 p,.v (.int .i64 ((2+1:Nat):Int))])(hro:∀i' p,i'<ts.length→i<i'→Kn3 ts 250 [stA ts i' 0 p,.v (.int .i64 ((2+1:Nat):Int))])(hs:∀i' p,i'<ts.length→i<i'→Kn3 ts 250 [stA ts i' 0 p,.v (.int .i64 ((2:Nat):Int))]):Kn3 ts 250 [stA ts i 0 p,.v (.int .i64 ((2:Nat):Int))]:=by
 refine Jq Tryz.f250 (by kernel_rfl) (by kernel_rfl) (by show(_:Nat)≤_;simp[Tryz.f250]) ?_
 have hsz:=ht.size;have hx:=Ld ts i hi;obtain⟨fn1,hf1⟩:=fX 118;obtain⟨fn2,hf2⟩:=fX 250;obtain⟨fn3,hf3⟩:=fX 272;have h0:((0:Int) != 0)=false:=rfl;have hl5:((((2:Nat):Int)) == 5)=false:=rfl;have hl2:((((2:Nat):Int)) == 2)=true:=rfl;have hl3:((((2:Nat):Int)) != 2)=false:=rfl;have hwl:IntKind.i64.wrap ((((2:Nat):Int))+1)=((2+1:Nat):Int):=rfl;have h01:IntKind.i64.wrap ((0:Int)+1)=1:=rfl;have h10:((1:Int) == 0)=false:=rfl;simp(maxSteps:=9^7) (disch:=omega)only[go_sem,reduceAdd,reduceEqDiff,reduceLeDiff,Tryz.f250,stA,stL,tkL,A2,hx,hf1,h0,hl5,hl2,Bool.and_self];refine Ey (w:=[110,111,116]) hi ?_
 cases hb:isB ts i 0 [110,111,116]with
 |true =>
  have hw:=(Dy hb).2;have hn1:=hw.next ht hi;have hw2:=Fl i (by omega)
  simp(maxSteps:=9^7) (disch:=omega)only[go_sem,reduceAdd,reduceEqDiff,reduceLeDiff,hf2,hwl,hw2];refine K0 (lv:=2) (by omega) hn1 (hs (i+1) p hn1 (by omega)) fun j e1 p1 x0 x1 x2 x3 x4 x5 hj hij g1 h1=>?_
  have a0:=(Dh g1.2.1).1;have a1:=(Dh g1.2.1).2.1;have a2:=(Dh g1.2.1).2.2.1;have a3:=(Dh g1.2.1).2.2.2.1;have a4:=(Dh g1.2.1).2.2.2.2.1;have a5:=(Dh g1.2.1).2.2.2.2.2;simp(maxSteps:=9^7) (disch:=omega)only[go_sem,reduceAdd,reduceEqDiff,reduceLeDiff,stA,stL,A2,Bool.and_self];refine Dd [(0,true),(1,true),(2,true),(3,true),(4,true),(5,true),(2,false),(6,true)] (by kernel_rfl) (by kernel_rfl) ?_
  simp(maxSteps:=9^7) (disch:=omega)only[go_sem,reduceAdd,reduceEqDiff,reduceLeDiff,A2,a0,a1,a2,a3,a4,a5,Bool.and_self];refine R7 (lv:=2) _ j e1 p1 hj (by omega) (Vl 5 (tk ts i).pos 0 [] false 1 0 (Ed g1 En)) (fun h=>?_)
  obtain⟨_,x,hx1,hr1⟩:=h1 h;exact⟨rfl,_,rd_not (by rw[hw.2];simp) hx1,.mk 5 (tk ts i).pos 0 [] false _ [x] (.row _ _ _ _ (.cons _ _ _ _ hr1 .nil))⟩
 |false =>
  have hno:=G6 ht hi hb (by decide)
  simp(maxSteps:=9^7) (disch:=omega)only[go_sem,reduceAdd,reduceEqDiff,reduceLeDiff,hf2,hwl];refine K0 (lv:=2+1) (by omega) hi hn fun j e1 p1 x0 x1 x2 x3 x4 x5 hj hij g1 h1=>?_
  have a0:=(Dh g1.2.1).1;have a1:=(Dh g1.2.1).2.1;have a2:=(Dh g1.2.1).2.2.1;have a3:=(Dh g1.2.1).2.2.2.1;have a4:=(Dh g1.2.1).2.2.2.2.1;have a5:=(Dh g1.2.1).2.2.2.2.2;simp(maxSteps:=9^7) (disch:=omega)only[go_sem,reduceAdd,reduceEqDiff,reduceLeDiff,stA,stL,A2,Bool.and_self];refine Bt (Bp ?_);simp(maxSteps:=9^7) (disch:=omega)only[go_sem,reduceAdd,reduceEqDiff,reduceLeDiff,hf3];refine mX (p:=p1) (ws:=[[61],[60,62],[60],[60,61],[62],[62,61]]) hj (by decide) ?_
  by_cases he:e1=0
  ·subst he
   have hxj:=Ld ts j hj;obtain⟨_,x,hx1,hr1⟩:=h1 rfl;rcases Uq ht hj (ws:=[[61],[60,62],[60],[60,61],[62],[62,61]]) (by decide)with⟨hs0,hno2⟩ | ⟨hs0,hyes,hne,hn2⟩
   ·rw[hs0]
    simp(maxSteps:=9^7) (disch:=omega)only[go_sem,reduceAdd,reduceEqDiff,reduceLeDiff,tkL,A2,hf2,h0,hwl,hxj,G7,Bool.and_self];refine Dd [(0,true),(1,true),(2,true),(1,false),(3,true)] (by kernel_rfl) (by kernel_rfl) ?_
    simp(maxSteps:=9^7) (disch:=omega)only[go_sem,reduceAdd,reduceEqDiff,reduceLeDiff,a0,a1,a2,a3,a4,a5,Bool.and_self];exact R7 (lv:=2) _ j 0 p1 hj hij g1 (fun _=>⟨rfl,x,rd_cmx (fun h=>hno (Jb5.1 h)) hx1 hno2,hr1⟩)
   ·rw[hs0]
    have hdt:decide ((tk ts j).text=[])=false:=decide_eq_false hne;have hw2:=Fl j (by omega)
    simp(maxSteps:=9^7) (disch:=omega)only[go_sem,reduceAdd,reduceEqDiff,reduceLeDiff,tkL,A2,hf2,h0,hwl,hw2,hxj,hdt,G7,Bool.and_self];refine K0 (lv:=2+1) (by omega) hn2 (hro (j+1) p1 hn2 (by omega)) fun m e2 p2 y0 y1 y2 y3 y4 y5 hm hjm g2 h2=>?_
    have c0:=(Dh g2.2.1).1;have c1:=(Dh g2.2.1).2.1;have c2:=(Dh g2.2.1).2.2.1;have c3:=(Dh g2.2.1).2.2.2.1;have c4:=(Dh g2.2.1).2.2.2.2.1;have c5:=(Dh g2.2.1).2.2.2.2.2;simp(maxSteps:=9^7) (disch:=omega)only[go_sem,reduceAdd,reduceEqDiff,reduceLeDiff,stA,stL,h01,Bool.and_self];refine Bt (Bp ?_);simp(maxSteps:=9^7) (disch:=omega)only[go_sem,reduceAdd,reduceEqDiff,reduceLeDiff,hf3,hl3,h10];refine Dd [(0,true),(1,true),(2,true),(1,false),(3,true)] (by kernel_rfl) (by kernel_rfl) ?_
    simp(maxSteps:=9^7) (disch:=omega)only[go_sem,reduceLT,reduceAdd,reduceEqDiff,reduceLeDiff,a0,a1,a2,a3,a4,a5,c0,c1,c2,c3,c4,c5,Bool.and_self];refine R7 (lv:=2) _ m e2 p2 hm (by omega) (Vl 6 (tk ts j).pos 0 (tk ts j).text false 1 0 (Ed g1 (Ed g2 En))) (fun h=>?_)
    obtain⟨_,y,hy1,hry⟩:=h2 h;exact⟨rfl,_,rd_cmp (fun h=>hno (Jb5.1 h)) hx1 hyes hy1,.mk 6 (tk ts j).pos 0 (tk ts j).text false _ [x,y] (.row _ _ _ _ (.cons _ _ _ _ hr1 (.cons _ _ _ _ hry .nil)))⟩
  ·have h0n:(e1 != 0)=true:=by rw[bne_iff_ne];exact he
   simp(maxSteps:=9^7) (disch:=omega)only[go_sem,reduceAdd,reduceEqDiff,A2,h0n];refine Dd [(0,true),(1,true),(2,true),(1,false),(3,true)] (by kernel_rfl) (by kernel_rfl) ?_
   simp(maxSteps:=9^7) (disch:=omega)only[go_sem,reduceAdd,reduceEqDiff,reduceLeDiff,a0,a1,a2,a3,a4,a5,Bool.and_self];exact R7 (lv:=2) _ j e1 p1 hj hij g1 (fun h=>absurd h he)
theorem row3_k{ts:List Tk}(ht:Tok3 ts)(i:Nat)(p:Int)(hi:i<ts.length)(hn:Kn3 ts 250 [stA ts i 0 p,.v (.int .i64 ((3+1:Nat):Int))])(hro:∀i' p,i'<ts.length→i<i'→Kn3 ts 250 [stA ts i' 0 p,.v (.int .i64 ((3+1:Nat):Int))]):Kn3 ts 250 [stA ts i 0 p,.v (.int .i64 ((3:Nat):Int))]:=by
 refine Jq Tryz.f250 (by kernel_rfl) (by kernel_rfl) (by show(_:Nat)≤_;simp[Tryz.f250]) ?_
 have hsz:=ht.size;have hx:=Ld ts i hi;obtain⟨fn1,hf1⟩:=fX 118;obtain⟨fn2,hf2⟩:=fX 250;obtain⟨fn3,hf3⟩:=fX 272;have h0:((0:Int) != 0)=false:=rfl;have hl5:((((3:Nat):Int)) == 5)=false:=rfl;have hl2:((((3:Nat):Int)) == 2)=false:=rfl;have hl3:((((3:Nat):Int)) != 2)=true:=rfl;have hwl:IntKind.i64.wrap ((((3:Nat):Int))+1)=((3+1:Nat):Int):=rfl;simp(maxSteps:=9^7) (disch:=omega)only[go_sem,reduceAdd,reduceEqDiff,reduceLeDiff,Tryz.f250,stA,stL,tkL,A2,hx,hf1,hf2,h0,hl5,hl2,hwl,Bool.and_self];refine K0 (lv:=3+1) (by omega) hi hn fun j e1 p1 x0 x1 x2 x3 x4 x5 hj hij g1 h1=>?_
 have key:=fun n0 t S=>Yj (lv:=3) (i:=i) ht (by omega) (by omega) (ws:=[[43],[45]]) (by decide) (by decide) hro (ts.length+1) n0 j e1 p1 x0 x1 x2 x3 x4 x5 t S
 unfold Vc at key;simp only[Tryz.f250]at key;simp(maxSteps:=9^7) (disch:=omega)only[go_sem,reduceAdd,reduceEqDiff,reduceLeDiff,stA,stL,A2,Bool.and_self];refine WX.mono (key 0 _ _ (by omega) (by omega) hj hij g1 ⟨?_,?_,?_,?_,?_,?_,?_,?_,?_,?_,?_,?_⟩ ?_) ?_
 ·simp only[A0,reduceEqDiff,Aa,Ab]
 ·simp only[A0,reduceEqDiff,Aa,Ab]
 ·simp only[A0,reduceEqDiff,Aa,Ab]
 ·simp only[A0,reduceEqDiff,Aa,Ab]
 ·simp only[A0,reduceEqDiff,Aa,Ab];rfl
 ·simp only[A0,reduceEqDiff,Aa,Ab]
 ·simp only[A0,reduceEqDiff,Aa,Ab];rfl
 ·simp only[A5,Bj,B6,Br,reduceAdd,reduceEqDiff,Aa,Ab];rfl
 ·simp only[A5,Bj,B6,Br,reduceAdd,reduceEqDiff,Aa,Ab]
 ·simp only[A5,Bj,B6,Br,reduceAdd,reduceEqDiff,Aa,Ab];rfl
 ·simp only[A5,Bj,B6,Br,reduceAdd,reduceEqDiff,Aa,Ab]
 ·simp only[Ei,B6,Br];omega
 ·intro h
  obtain⟨_,x,hx1,hr1⟩:=h1 h;exact⟨x,hr1,fun y m hr=>rd_sum hx1 hr⟩
 rintro _ ⟨t',S',rfl,q4,q5,m,e2,p2,y0,y1,y2,y3,y4,y5,m3,m4,hm,him,g,hh⟩;unfold stL at m3;simp(maxSteps:=9^7) (disch:=omega)only[go_sem,reduceAdd,reduceLeDiff,q4,q5,m3,m4];exact R7 (lv:=3) _ m e2 p2 hm him g hh
theorem row4_k{ts:List Tk}(ht:Tok3 ts)(i:Nat)(p:Int)(hi:i<ts.length)(hn:Kn3 ts 250 [stA ts i 0 p,.v (.int .i64 ((4+1:Nat):Int))])(hro:∀i' p,i'<ts.length→i<i'→Kn3 ts 250 [stA ts i' 0 p,.v (.int .i64 ((4+1:Nat):Int))]):Kn3 ts 250 [stA ts i 0 p,.v (.int .i64 ((4:Nat):Int))]:=by
 refine Jq Tryz.f250 (by kernel_rfl) (by kernel_rfl) (by show(_:Nat)≤_;simp[Tryz.f250]) ?_
 have hsz:=ht.size;have hx:=Ld ts i hi;obtain⟨fn1,hf1⟩:=fX 118;obtain⟨fn2,hf2⟩:=fX 250;obtain⟨fn3,hf3⟩:=fX 272;have h0:((0:Int) != 0)=false:=rfl;have hl5:((((4:Nat):Int)) == 5)=false:=rfl;have hl2:((((4:Nat):Int)) == 2)=false:=rfl;have hl3:((((4:Nat):Int)) != 2)=true:=rfl;have hwl:IntKind.i64.wrap ((((4:Nat):Int))+1)=((4+1:Nat):Int):=rfl;simp(maxSteps:=9^7) (disch:=omega)only[go_sem,reduceAdd,reduceEqDiff,reduceLeDiff,Tryz.f250,stA,stL,tkL,A2,hx,hf1,hf2,h0,hl5,hl2,hwl,Bool.and_self];refine K0 (lv:=4+1) (by omega) hi hn fun j e1 p1 x0 x1 x2 x3 x4 x5 hj hij g1 h1=>?_
 have key:=fun n0 t S=>Yj (lv:=4) (i:=i) ht (by omega) (by omega) (ws:=[[42],[47],[109,111,100]]) (by decide) (by decide) hro (ts.length+1) n0 j e1 p1 x0 x1 x2 x3 x4 x5 t S
 unfold Vc at key;simp only[Tryz.f250]at key;simp(maxSteps:=9^7) (disch:=omega)only[go_sem,reduceAdd,reduceEqDiff,reduceLeDiff,stA,stL,A2,Bool.and_self];refine WX.mono (key 0 _ _ (by omega) (by omega) hj hij g1 ⟨?_,?_,?_,?_,?_,?_,?_,?_,?_,?_,?_,?_⟩ ?_) ?_
 ·simp only[A0,reduceEqDiff,Aa,Ab]
 ·simp only[A0,reduceEqDiff,Aa,Ab]
 ·simp only[A0,reduceEqDiff,Aa,Ab]
 ·simp only[A0,reduceEqDiff,Aa,Ab]
 ·simp only[A0,reduceEqDiff,Aa,Ab];rfl
 ·simp only[A0,reduceEqDiff,Aa,Ab]
 ·simp only[A0,reduceEqDiff,Aa,Ab];rfl
 ·simp only[A5,Bj,B6,Br,reduceAdd,reduceEqDiff,Aa,Ab];rfl
 ·simp only[A5,Bj,B6,Br,reduceAdd,reduceEqDiff,Aa,Ab]
 ·simp only[A5,Bj,B6,Br,reduceAdd,reduceEqDiff,Aa,Ab];rfl
 ·simp only[A5,Bj,B6,Br,reduceAdd,reduceEqDiff,Aa,Ab]
 ·simp only[Ei,B6,Br];omega
 ·intro h
  obtain⟨_,x,hx1,hr1⟩:=h1 h;exact⟨x,hr1,fun y m hr=>rd_term hx1 hr⟩
 rintro _ ⟨t',S',rfl,q4,q5,m,e2,p2,y0,y1,y2,y3,y4,y5,m3,m4,hm,him,g,hh⟩;unfold stL at m3;simp(maxSteps:=9^7) (disch:=omega)only[go_sem,reduceAdd,reduceLeDiff,q4,q5,m3,m4];exact R7 (lv:=4) _ m e2 p2 hm him g hh
theorem row5_k{ts:List Tk}(i:Nat)(p:Int)(hi:i<ts.length)(hU:Kn3 ts 271 [stA ts i 0 p]):Kn3 ts 250 [stA ts i 0 p,.v (.int .i64 ((5:Nat):Int))]:=by
 refine Jq Tryz.f250 (by kernel_rfl) (by kernel_rfl) (by show(_:Nat)≤_;simp[Tryz.f250]) ?_
 have hx:=Ld ts i hi;obtain⟨fn1,hf1⟩:=fX 271;have h0:((0:Int) != 0)=false:=rfl;have hl5:((((5:Nat):Int)) == 5)=true:=rfl;simp(disch:=omega)only[go_sem,reduceAdd,reduceEqDiff,reduceLeDiff,Tryz.f250,stA,stL,tkL,A2,hx,hf1,h0,hl5,Bool.and_self];refine Ma (Pa ts) (by kernel_rfl) hi hU fun j e1 p1 x0 x1 x2 x3 x4 x5 hj hij g1 h1=>?_
 simp(disch:=omega)only[go_sem,reduceAdd,reduceEqDiff,reduceLeDiff,stA,stL,Bool.and_self];exact R7 (lv:=5) _ j e1 p1 hj hij g1 h1
end Go.Ax
