/- ZeG6 -/
import Derived.Test.YtimbgdjbggdgmaaGreatDoorNcG29
import Derived.Test.YtimbgdjbggdgmaaGreatDoorNcG19
import Derived.Test.YtimbgdjbggdgmaaGreatDoorNcG18
import Derived.Test.YtimbgdjbggdgmaaGreatDoorNcG26
import Derived.Test.YtimbgdjbggdgmaaGreatDoorNcG27
set_option linter.unusedVariables false
set_option linter.unusedSimpArgs false
set_option maxHeartbeats 16000000
noncomputable section
open Nat (reduceLT reduceAdd reduceEqDiff reduceLeDiff)
namespace Go.Ax
open Go.RowKit Go.Proofs
open Classical
set_option maxRecDepth 100000
def KpM(M:St→Nat→Prop)(S S':St):Prop:=S.next≤S'.next∧∀id,2≤id→id<S.next→¬ M S id→S'.mem.get id=S.mem.get id∧¬ M S' id
theorem KpM.refl(M:St→Nat→Prop)(S:St):KpM M S S:=⟨Ja1 _,fun _ _ _ h=>⟨rfl,h⟩⟩
theorem KpM.trans{M:St→Nat→Prop}{S S1 S2:St}(h:KpM M S S1)(k:KpM M S1 S2):KpM M S S2:=⟨Jb2 h.1 k.1,fun id h2 hid hn=>by
 obtain⟨a1,a2⟩:=h.2 id h2 hid hn;obtain⟨b1,b2⟩:=k.2 id h2 (Ja0 hid h.1) a2
 exact⟨b1.trans a1,b2⟩⟩
structure EachH(K:Nat)(caps:List AV)(B:Nat)(P:List PE→St→Prop)(M:St→Nat→Prop):Prop where
 fn:∃fn,E1.F K=some fn
 step:∀(l:List PE) (xs:List AV) (e:PE) (S:St),RepE (.agg xs) e→Cp e≤1000000→l.length+1≤B→P l S→2≤S.next→WC EN K (.agg xs :: caps) S (fun r=>∃S',r=.ret (.tup []) S'∧P (l ++ [e]) S'∧KpM M S S')
 keep:∀(l:List PE) (S S':St),P l S→Dm S S'→P l S'∧∀id,M S' id↔M S id
 lt:∀(l:List PE) (S:St) (id:Nat),P l S→M S id→id<S.next
theorem EachH.kp{K:Nat}{caps:List AV}{B:Nat}{P:List PE→St→Prop}{M:St→Nat→Prop}(H:EachH K caps B P M){l:List PE}{S S':St}(hP:P l S)(k:Dm S S'):KpM M S S':=⟨k.1,fun id _ hid hn=>⟨k.2 id hid,fun h=>hn (((H.keep l S S' hP k).2 id).1 h)⟩⟩
mutual
theorem iS:∀(e:PE),Cp e≤1000000→Wide e
 |.mk k p n s o kids,h=>by
  rw[Cp]at h;have hl:=Pp kids;exact .mk k p n s o kids (by omega) (bU kids (by omega))
theorem bU:∀(l:List PE),Ch l≤1000000→∀e∈l,Wide e
 | [],_,e,he=>absurd he Ja7
 |a :: r,h,e,he=>by
  rw[Ch]at h;rcases Jb8.1 he with he |he
  ·rw[he];exact iS a (by omega)
  ·exact bU r (by omega) e he
end
theorem use_copy{xs:List AV}{x:PE}(hr:RepE (.agg xs) x)(hw:Wide x)(S:St)(Q:R→Prop)(h:∀ys,RepE (.agg ys) x→Q (.ret (.agg ys) S)):WC EN 69 [.agg xs] S Q:=by
 refine Gu (g:=aA) (by kernel_rfl) ?_
 have hc:clean (.agg xs)=.agg (Be xs):=rfl;have hf:=Iz hr;rw[hc]at hf
 have e:aA [.agg xs] S=.ret (.agg (Be xs)) S:=by
  unfold aA;simp only;rw[if_pos ⟨hf.1,Be xs,x,hc,hf.2,hw⟩,hc]
 rw[e];exact h _ hf.2
theorem neNil74(f:Fn)(a b:List AV):Ha Tryz.prog 74 (.fn f a b) (.v .nilFunc)=true:=by
 have h:(match Tryz.prog.underlying 74 with |some (.func _ _ _)=>true |_=>false)=true:=by kernel_rfl
 unfold Ha
 split at h
 ·rename_i h2;rw[h2]
 ·cases h
def eaB:Code:=match Tryz.f24.body with
 |some (.seq _ (.seq _ (.seq _ (.seq _ (.block _ (.loop c))))))=>c
 |some (.seq _ (.seq (.seq _ _) (.seq _ (.seq (.seq _ (.block _ (.loop c))) _))))=>c
 |_=>.skip
section
variable {K:Nat} {caps:List AV} {B:Nat} {P:List PE → St → Prop} {M:St → Nat → Prop}
def qG(K:Nat)(caps:List AV)(B:Nat)(P:List PE→St→Prop)(M:St→Nat→Prop)(e:PE):Prop:=∀(l:List PE) (ys:List AV),RepE (.agg ys) e→∀S,P l S→l.length+Cp e≤B→2≤S.next→WC EN 24 [.agg ys,.fn (.func K) [] caps] S (fun r=>∃S',r=.ret (.tup []) S'∧P (l ++ flE e) S'∧KpM M S S')
theorem ea_lp(H:EachH K caps B P M){tok off:Nat}{es:List AV}{kids:List PE}(hrep:RepF es kids)(hd:Ch kids≤1000000)(ih:∀e∈kids,qG K caps B P M e)(S0:St):∀(n j:Nat) (l:List PE) (t:T AV) (S:St),j+n=es.length→l.length+Ch (kids.drop j)≤B →
  t.get 1=some (.fn (.func K) [] caps)→t.get 13=some (.sl tok off 6 es)→t.get 14=some (.v (.int .i64 (es.length:Int)))→t.get 15=some (.v (.int .i64 (j:Int)))→P l S→KpM M S0 S→2≤S.next →
  WX EN 23 (.loop eaB) ⟨t,[]⟩ S (fun r=>∃t' S',r=.out (.exit 0) ⟨t',[]⟩ S'∧P (l ++ flL (kids.drop j)) S'∧KpM M S0 S')
 |0,j,l,t,S,hj,hB,T1,T13,T14,T15,hP,hk,hn=>by
  refine Bt (Bp ?_);have hlt:decide ((j:Int)<(es.length:Int))=false:=by rw[decide_eq_false];omega
  simp(disch:=omega)only[go_sem,reduceEqDiff,eaB,Tryz.f24,T14,T15,hlt];refine⟨_,_,rfl,?_,hk⟩;rw[List.drop_of_length_le (by have:=G9 hrep;omega),flL,List.append_nil];exact hP
 |n+1,j,l,t,S,hj,hB,T1,T13,T14,T15,hP,hk,hn=>by
  refine Bt (Bp ?_);obtain⟨fn1,hf1⟩:=fX 24;have hle:=G9 hrep;have hje:j<es.length:=by omega
  have hjk:j<kids.length:=by omega
  have hlt:decide ((j:Int)<(es.length:Int))=true:=by rw[decide_eq_true_eq];omega
  have hel:es.length≤1000000:=by have:=Pp kids;omega
  have hw:=Fl j (by omega)
  have hx:=xx55 tok off es j hje;have hre:=Pf hrep j hje hjk;have hih:=ih kids[j] (List.getElem_mem hjk);have hdr:kids.drop j=kids[j] :: kids.drop (j+1):=Ja6 hjk;rw[hdr,Ch]at hB;rw[hdr,flL];generalize es[j]=e at hx hre;generalize kids[j]=x at hre hih hB ⊢;obtain⟨xs,rfl,hx6⟩:=hre.agg
  match xs,hx6 with
  | [x0,x1,x2,x3,x4,x5],_ =>
  simp only[L7]at hx;simp(disch:=omega)only[go_sem,reduceAdd,reduceEqDiff,reduceLeDiff,eaB,Tryz.f24,T1,T13,T14,T15,hlt,hx,hf1];have k1:Dm S ((S.newBox [.v (.int .i64 0),.v (.int .i64 0),.v (.int .i64 0),.v (.string ⟨⟨[]⟩⟩),.v (.bool false),.nils]).to S.next [x0,x1,x2,x3,x4,x5]):=((Dm.rfl' S).nb _).to (Ja1 _) _;have p1:=(H.keep l _ _ hP k1).1;refine WC.mono (hih l _ hre _ p1 (by omega) (Jb2 hn k1.1)) ?_
  rintro _ ⟨S2,rfl,p2,k2⟩;have hll:(flE x).length=Cp x:=P6 x;simp(disch:=omega)only[go_sem,reduceLT,reduceEqDiff,T15,hw];refine(ea_lp H (tok:=tok) (off:=off) hrep hd ih S0 n (j+1) (l ++ flE x) _ S2 (by omega) (by rw[Ja3,hll];omega) ?_ ?_ ?_ ?_ p2 (hk.trans ((H.kp hP k1).trans k2)) (Jb2 hn (Jb2 k1.1 k2.1))).mono ?_
  ·simp only[A0,reduceEqDiff,Ab,T1]
  ·simp only[A0,reduceEqDiff,Ab,T13]
  ·simp only[A0,reduceEqDiff,Ab,T14]
  ·simp only[A0,reduceEqDiff,Aa,Ab]
  ·rintro _ ⟨t',S',rfl,q1,q2⟩
   exact⟨t',S',rfl,by rw[← List.append_assoc];exact q1,q2⟩
theorem each_n(H:EachH K caps B P M):∀(m:Nat) (e:PE),Cp e≤m→Cp e≤1000000→qG K caps B P M e
 |0,.mk k p n s o kids,h,_=>by rw[Cp]at h;omega
 |m+1,.mk k p n s o kids,h,h2=>fun l ys hr S hP hB hn=>by
  have hd:=h2;rw[Cp]at h h2 hB;have hwide:=iS _ hd
  have ih:∀e∈kids,qG K caps B P M e:=fun e he=>by
   obtain⟨i,hi,rfl⟩:=List.mem_iff_getElem.1 he;have:=Po hi;exact each_n H m _ (by omega) (by omega)
  have hr0:=hr
  cases hr with
  |mk _ _ _ _ _ kv _ hkk =>
  refine WCk Tryz.f24 ?_;obtain⟨fn1,hf1⟩:=fX 69;obtain⟨fn2,hf2⟩:=H.fn;have hnn:=neNil74 (.func K) [] caps;unfold exC Bk A2 at hr0 ⊢;have k1:Dm S (S.newBox [.v (.int .i64 (k:Int)),.v (.int .i64 (p:Int)),.v (.int .i64 n),.v (.string ⟨⟨s⟩⟩),.v (.bool o),kv]):=(Dm.rfl' S).nb _;have m1:(S.newBox [.v (.int .i64 (k:Int)),.v (.int .i64 (p:Int)),.v (.int .i64 n),.v (.string ⟨⟨s⟩⟩),.v (.bool o),kv]).mem.get S.next=some (.box [.v (.int .i64 (k:Int)),.v (.int .i64 (p:Int)),.v (.int .i64 n),.v (.string ⟨⟨s⟩⟩),.v (.bool o),kv]):=by rw[Bj,if_pos rfl]
  have n1:(S.newBox [.v (.int .i64 (k:Int)),.v (.int .i64 (p:Int)),.v (.int .i64 n),.v (.string ⟨⟨s⟩⟩),.v (.bool o),kv]).next=S.next+1:=rfl;have hloo:(AV.agg [.v (.int .i64 (k:Int)),.v (.int .i64 (p:Int)),.v (.int .i64 n),.v (.string ⟨⟨s⟩⟩),.v (.bool o),kv]).noTup=true:=rfl;simp(disch:=omega)only[go_sem,reduceAdd,reduceEqDiff,reduceLeDiff,Tryz.f24,hf1,hnn,hloo];generalize hS1:S.newBox [.v (.int .i64 (k:Int)),.v (.int .i64 (p:Int)),.v (.int .i64 n),.v (.string ⟨⟨s⟩⟩),.v (.bool o),kv]=S1 at k1 m1 n1 ⊢;obtain⟨p1,hM1⟩:=H.keep l S S1 hP k1;refine use_copy hr0 hwide _ _ fun zs hzs=>?_
  simp(disch:=omega)only[go_sem,reduceEqDiff,hf2];refine WC.mono (H.step l zs _ S1 hzs hd (by omega) p1 (Jb2 hn k1.1)) ?_
  rintro _ ⟨S2,rfl,p2,k2⟩
  have hnq:¬ M S1 S.next:=fun hm=>by
   have:=H.lt l S _ hP ((hM1 _).1 hm);omega
  have m2:=((k2.2 S.next hn (by omega) hnq).1).trans m1
  have kk:KpM M S S2:=(H.kp hP k1).trans k2;have hn2:2≤S2.next:=Jb2 hn kk.1
  cases hkk with
  |nil =>
   have h00:decide ((0:Int)<((0:Nat):Int))=false:=rfl;simp(disch:=omega)only[go_sem,reduceEqDiff,m2];refine Bt (Bp ?_);simp(disch:=omega)only[go_sem,reduceEqDiff,h00];refine⟨_,rfl,?_,kk⟩;rw[flE,flL];exact p2
  |row tok off es _ hF =>
   have key:=fun t=>ea_lp H (tok:=tok) (off:=off) hF (by omega) ih S es.length 0 (l ++ [.mk k p n s o kids]) t S2 (by omega) (by rw[Ja3,List.length_singleton,Jd1];omega)
   unfold eaB at key;simp only[Tryz.f24]at key;simp(disch:=omega)only[go_sem,reduceEqDiff,m2];refine WX.mono (key _ ?_ ?_ ?_ ?_ p2 kk hn2) ?_
   ·simp only[A0,A1,reduceEqDiff,Aa,Ab]
   ·simp only[A0,A1,reduceEqDiff,Aa,Ab]
   ·simp only[A0,A1,reduceEqDiff,Aa,Ab]
   ·simp only[A0,A1,reduceEqDiff,Aa,Ab];rfl
   rintro _ ⟨t',S',rfl,q1,q2⟩;rw[Jd1]at q1;simp(disch:=omega)only[go_sem];refine⟨_,rfl,?_,q2⟩;rw[flE];rw[List.append_assoc]at q1;exact q1
end
end Go.Ax
noncomputable section
namespace Go.Ax
open Go.RowKit Go.Proofs
open Classical
set_option maxRecDepth 100000
def ClP(b:Nat)(cs:List (List UInt8))(S:St):Prop:=b<S.next∧2≤b∧((cs=[]∧S.mem.get b=some (.box [.nils]))∨∃tok,S.mem.get b=some (.box [.sl tok 0 1 (cs.map A2)])∧Ka 1 S tok (cs.map A2)∧2≤tok∧tok<S.next∧tok≠b∧cs≠[])
def ClM(b:Nat)(S:St)(id:Nat):Prop:=id=b∨∃es,S.mem.get b=some (.box [.sl id 0 1 es])
theorem Zn:∀(ws:List (List UInt8)),Ro (ws.map A2)=some ws
 | []=>rfl
 |w :: r=>by
  have ih:=Zn r;rw[Jc2];unfold A2 at ih ⊢;unfold Ro;rw[ih]
theorem mY{v:AV}{ws:List (List UInt8)}(hv:(ws=[]∧v=.nils)∨∃tok,v=.sl tok 0 1 (ws.map A2))(hl:ws.length≤100000)(s:List UInt8)(S:St)(Q:R→Prop)(h:Q (.ret (.v (.bool (decide (s∈ws)))) S)):WC EN 55 [v,.v (.string ⟨⟨s⟩⟩)] S Q:=by
 refine Gu (g:=Nf) (by kernel_rfl) ?_
 rcases hv with⟨rfl,rfl⟩ | ⟨tok,rfl⟩
 ·exact h
 ·have e:Nf [.sl tok 0 1 (ws.map A2),.v (.string ⟨⟨s⟩⟩)] S=.ret (.v (.bool (decide (s∈ws)))) S:=by
   show Jm [.sl tok 0 1 (ws.map A2),.v (.string ⟨⟨s⟩⟩)] S=_
   unfold Jm;simp only[Zn,if_pos hl,oD]
  rw[e];exact h
theorem st39s(a b c:Nat)(es:List AV)(S:St)(cs:List AV)(p k:Nat):Ia S (some (.box cs)) p k (.sl a b c es) 1=if k+1≤cs.length then some (S.to p (cs.take k ++ .sl a b c es :: cs.drop (k+1)))else none:=Ql rfl S cs p k
theorem app39{b:Nat}{S:St}{cs:List (List UInt8)}(h:ClP b cs S)(hn:2≤S.next)(s:List UInt8)(hl:cs.length≤100000):∃w S' tok,S.mem.get b=some (.box [w])∧((cs=[]∧w=.nils)∨∃tok,w=.sl tok 0 1 (cs.map A2))∧Ej EN S 39 39 w (.sl 1 0 1 [.v (.string ⟨⟨s⟩⟩)])=some (.sl tok 0 1 ((cs ++ [s]).map A2),S')∧Ka 1 S' tok ((cs ++ [s]).map A2)∧S.next≤tok∧tok<S'.next∧KpM (fun _ id=>∃es,w=.sl id 0 1 es) S S':=by
 obtain⟨h1,h2,h3⟩:=h;obtain⟨bytes,TT⟩:=ytS;have hx:(AV.v (.string ⟨⟨s⟩⟩)).cells.length=1:=rfl;rcases h3 with⟨rfl,hb⟩ | ⟨tok,hb,ho,ht1,ht2,ht3⟩
 ·obtain⟨S',q1,q2,q3,q4⟩:=Wy (E:=EN) (P:=Tryz.prog) (t:=39) TT rfl rfl hn (.v (.string ⟨⟨s⟩⟩)) hx
  refine⟨.nils,S',S.next,hb,.inl ⟨rfl,rfl⟩,q1,q2,Ja1 _,by omega,⟨by omega,fun id h2 hid hm=>⟨q4 id h2 hid,fun⟨es,h⟩=>by cases h⟩⟩⟩
 ·obtain⟨S',q1,q2,q3,q4⟩:=J3 (E:=EN) (P:=Tryz.prog) (t:=39) TT rfl rfl ho hn (.v (.string ⟨⟨s⟩⟩)) hx (by rw[Ja9];omega)
  refine⟨_,S',S.next,hb,.inr ⟨tok,rfl⟩,by rw[q1];simp[A2],by simpa[A2]using q2,Ja1 _,by omega,⟨by omega,fun id _ hid hm=>⟨q4 id (fun h=>hm ⟨cs.map A2,by rw[h]⟩) hid,fun⟨es,h⟩=>?_⟩⟩⟩
  exact hm ⟨es,h⟩
theorem cl1_w{b:Nat}{cs:List (List UInt8)}{k p:Nat}{n:Int}{nm:List UInt8}{o:Bool}{kv:AV}{kids:List PE}{S:St}(h:ClP b cs S)(hl:cs.length+1≤100000)(hn2:2≤S.next):WC EN 54 [.agg [.v (.int .i64 (k:Int)),.v (.int .i64 (p:Int)),.v (.int .i64 n),.v (.string ⟨⟨nm⟩⟩),.v (.bool o),kv],.ptr b 0] S (fun r=>∃S',r=.ret (.tup []) S'∧ClP b (Pv cs (.mk k p n nm o kids)) S'∧KpM (ClM b) S S'):=by
 refine WCk Tryz.f54 ?_;obtain⟨fn1,hf1⟩:=fX 55;have h0:=h;obtain⟨hbn,hb2,hcase⟩:=h;have q1:¬ b=S.next:=by omega
 have hno:(AV.agg [.v (.int .i64 (k:Int)),.v (.int .i64 (p:Int)),.v (.int .i64 n),.v (.string ⟨⟨nm⟩⟩),.v (.bool o),kv]).noTup=true:=rfl;have k1:Dm S (S.newBox [.v (.int .i64 (k:Int)),.v (.int .i64 (p:Int)),.v (.int .i64 n),.v (.string ⟨⟨nm⟩⟩),.v (.bool o),kv]):=(Dm.rfl' S).nb _;have m1:(S.newBox [.v (.int .i64 (k:Int)),.v (.int .i64 (p:Int)),.v (.int .i64 n),.v (.string ⟨⟨nm⟩⟩),.v (.bool o),kv]).mem.get S.next=some (.box [.v (.int .i64 (k:Int)),.v (.int .i64 (p:Int)),.v (.int .i64 n),.v (.string ⟨⟨nm⟩⟩),.v (.bool o),kv]):=by rw[Bj,if_pos rfl]
 have n1:(S.newBox [.v (.int .i64 (k:Int)),.v (.int .i64 (p:Int)),.v (.int .i64 n),.v (.string ⟨⟨nm⟩⟩),.v (.bool o),kv]).next=S.next+1:=rfl
 have kS:∀S',Dm S S'→ClP b cs S'∧KpM (ClM b) S S':=fun S' kk=>⟨⟨Ja0 hbn kk.1,hb2,by
  rcases hcase with⟨a1,a2⟩ | ⟨tok,a1,a2,a3,a4,a5⟩
  ·exact .inl ⟨a1,(kk.2 b hbn).trans a2⟩
  ·exact .inr ⟨tok,(kk.2 b hbn).trans a1,a2.keep kk.1 (fun _ hl=>kk.2 _ hl),a3,Ja0 a4 kk.1,a5⟩⟩,kk.1,fun id _ hid hm=>⟨kk.2 id hid,fun hh=>hm (by unfold ClM at hh ⊢;rw[← kk.2 b hbn];exact hh)⟩⟩
 by_cases hk:k=13
 ·have hk1:((k:Int) == 13)=true:=by rw[hk];rfl
  obtain⟨w,S2,tok,hbw,hw,happ,hro,ht1,ht2,hkp⟩:=app39 (kS _ k1).1 (Jb2 hn2 k1.1) nm (by omega)
  have hbb:=hbw;simp(disch:=omega)only[go_sem,reduceEqDiff,Tryz.f54,hf1,hno,m1,hbb,hk1];generalize hS1:S.newBox [.v (.int .i64 (k:Int)),.v (.int .i64 (p:Int)),.v (.int .i64 n),.v (.string ⟨⟨nm⟩⟩),.v (.bool o),kv]=S1 at k1 m1 n1 happ hbw hkp ht1 ⊢;refine mY hw (by omega) nm _ _ ?_
  by_cases hm:nm∈cs
  ·have e1:decide (nm∈cs)=true:=decide_eq_true hm
   have ha:Pv cs (.mk k p n nm o kids)=cs:=by unfold Pv;rw[if_neg (fun h=>h.2 hm)]
   rw[ha];simp(disch:=omega)only[go_sem,reduceEqDiff,e1,m1,hbw];exact⟨_,rfl,(kS _ k1).1,(kS _ k1).2⟩
  ·have e1:decide (nm∈cs)=false:=decide_eq_false hm
   have ha:Pv cs (.mk k p n nm o kids)=cs ++ [nm]:=by unfold Pv;rw[if_pos ⟨hk,hm⟩];rfl
   rw[ha]
   have hnb:¬ (∃es,w=AV.sl b 0 1 es):=fun⟨es,hh⟩=>by
    rcases hcase with⟨_,a2⟩ | ⟨tok',a1,a2,a3,a4,a5⟩
    ·have:=((k1.2 b hbn).trans a2).symm.trans hbw
     injection this with this;injection this with this;injection this with this
     rw[hh]at this;cases this
    ·have:=((k1.2 b hbn).trans a1).symm.trans hbw
     injection this with this;injection this with this;injection this with this
     rw[hh]at this;injection this with this
     exact a5.1 this
   have hb3:S2.mem.get b=some (.box [w]):=((hkp.2 b hb2 (by omega) hnb).1).trans hbw
   simp(disch:=omega)only[go_sem,reduceLT,reduceEqDiff,reduceLeDiff,e1,m1,hbw,happ,hb3,st39s];refine⟨_,rfl,⟨by simp only[Ei];omega,hb2,.inr ⟨tok,by simp only[A5,Aa],Ka.keep hro (by simp only[Ei];omega) (fun _ _=>by simp only[A5];rw[if_neg (by omega)]),by omega,by simp only[Ei];omega,by omega,by simp⟩⟩,⟨by simp only[Ei];have:=hkp.1;omega,fun id h2 hid hm2=>⟨?_,?_⟩⟩⟩
   ·have hib:¬ id=b:=fun h=>hm2 (.inl h)
    simp only[A5,if_neg hib];refine((hkp.2 id h2 (by omega) (fun⟨es,hh⟩=>hm2 (.inr ⟨es,?_⟩))).1).trans (k1.2 id hid)
    rw[← hh,← hbw];exact(k1.2 b hbn).symm
   ·rintro(h | ⟨es,h⟩)
    ·exact hm2 (.inl h)
    ·simp only[A5,Aa,Option.some.injEq,Cell.box.injEq,List.cons.injEq,AV.sl.injEq]at h
     omega
 ·have hk1:((k:Int) == 13)=false:=by rw[beq_eq_false_iff_ne];omega
  have ha:Pv cs (.mk k p n nm o kids)=cs:=by unfold Pv;rw[if_neg (fun h=>hk h.1)]
  rw[ha];simp(disch:=omega)only[go_sem,reduceEqDiff,Tryz.f54,hno,m1,hk1,q1];exact⟨_,rfl,(kS _ k1).1,(kS _ k1).2⟩
theorem clE(acc:List (List UInt8))(hacc:acc.length≤100000):EachH 54 [.ptr 3 0] (100000 - acc.length) (fun l S=>ClP 3 (l.foldl Pv acc) S) (ClM 3):=by
 refine⟨(fX 54),fun l xs e S hr hd hl hP hn=>?_,fun l S S' hP k=>?_,fun l S id hP hm=>?_⟩
 ·cases hr with
  |mk k p n nm o kv kids hk =>
   have hfl:=Q5 l acc;rw[List.foldl_append];exact cl1_w (kids:=kids) hP (by omega) hn
 ·obtain⟨h1,h2,h4⟩:=hP
  have hk:=k.2 3 h1;refine⟨⟨Ja0 h1 k.1,h2,?_⟩,fun id=>?_⟩
  ·rcases h4 with⟨a1,a2⟩ | ⟨tok,a1,a2,a3,a4,a5⟩
   ·exact .inl ⟨a1,hk.trans a2⟩
   ·exact .inr ⟨tok,hk.trans a1,a2.keep k.1 (fun _ hl=>k.2 _ hl),a3,Ja0 a4 k.1,a5⟩
  ·unfold ClM
   rw[hk]
 ·obtain⟨h1,h2,h4⟩:=hP
  rcases hm with rfl | ⟨n,hm⟩
  ·exact h1
  ·rcases h4 with⟨a1,a2⟩ | ⟨tok,a1,a2,a3,a4,a5⟩
   ·rw[a2]at hm;injection hm with hm;injection hm with hm;injection hm with hm;cases hm
   ·rw[a1]at hm
    injection hm with hm
    injection hm with hm
    injection hm with hm
    injection hm with hm
    omega
def cnB:Code:=match Tryz.f15.body with
 |some (.seq _ (.seq _ (.seq (.seq _ (.block _ (.loop b))) _)))=>b
 |_=>.skip
theorem cn_lp{tok:Nat}{es:List AV}{l:List PQ}(hr:EqRows es l)(hl:Og l≤3000):∀(n j:Nat) (acc:List (List UInt8)) (t:T AV) (S:St),j+n=es.length→acc.length+U3 (l.drop j)≤3000→t.get 3=some (.ptr 3 0)→t.get 7=some (.sl tok 0 8 es)→t.get 8=some (.v (.int .i64 (es.length:Int)))→t.get 9=some (.v (.int .i64 (j:Int)))→ClP 3 acc S→2≤S.next →
  WX EN 19 (.loop cnB) ⟨t,[]⟩ S (fun r=>∃t' S',r=.out (.exit 0) ⟨t',[]⟩ S'∧t'.get 3=some (.ptr 3 0)∧ClP 3 ((l.drop j).foldl Ps acc) S')
 |0,j,acc,t,S,hj,hb,T3,T7,T8,T9,ho,hn=>by
  refine Bt (Bp ?_);have hlt:decide ((j:Int)<(es.length:Int))=false:=by rw[decide_eq_false];omega
  simp(disch:=omega)only[go_sem,reduceEqDiff,cnB,Tryz.f15,T8,T9,hlt];refine⟨_,_,rfl,?_,?_⟩
  ·simp only[A0,reduceEqDiff,Ab,T3]
  ·rw[List.drop_of_length_le (by have:=Lu hr;omega)];exact ho
 |n+1,j,acc,t,S,hj,hb,T3,T7,T8,T9,ho,hn=>by
  refine Bt (Bp ?_);obtain⟨fn1,hf1⟩:=fX 24;have hle:=Lu hr;have hje:j<es.length:=by omega
  have hjl:j<l.length:=by omega
  have hlt:decide ((j:Int)<(es.length:Int))=true:=by rw[decide_eq_true_eq];omega
  have hes:es.length≤3000:=by have:=rC l;omega
  have hw:=Fl j (by omega)
  have hx:=xx36 tok 0 es j hje;have hdr:l.drop j=l[j] :: l.drop (j+1):=Ja6 hjl;have hq:=fR hr j hje hjl;have hzq:=rB (List.getElem_mem hjl);rw[hdr,U3]at hb;rw[hdr,List.foldl_cons];generalize es[j]=e at hx hq;generalize l[j]=q at hb hq hzq ⊢;obtain⟨lv,x0,x1,x2,x3,x4,x5,rfl,hlv,hre⟩:=yO hq;unfold szQ at hzq;simp only[L7]at hx;simp(disch:=omega)only[go_sem,reduceAdd,reduceEqDiff,reduceLeDiff,cnB,Tryz.f15,T3,T7,T8,T9,hlt,hx,hf1];have k1:Dm S ((S.newBox [.nils,.v (.bool false),.v (.int .i64 0),.v (.int .i64 0),.v (.int .i64 0),.v (.string ⟨⟨[]⟩⟩),.v (.bool false),.nils]).to S.next [lv,.v (.bool q.async),x0,x1,x2,x3,x4,x5]):=((Dm.rfl' S).nb _).to (Ja1 _) _;generalize hS1:(S.newBox [.nils,.v (.bool false),.v (.int .i64 0),.v (.int .i64 0),.v (.int .i64 0),.v (.string ⟨⟨[]⟩⟩),.v (.bool false),.nils]).to S.next [lv,.v (.bool q.async),x0,x1,x2,x3,x4,x5]=S1 at k1;have hE:=clE acc (by omega)
  have ho1:=(hE.keep [] S S1 ho k1).1;have hn1:2≤S1.next:=Jb2 hn k1.1;refine WC.mono (each_n hE (Cp q.e) q.e (Ja1 _) (by omega) [] _ hre S1 ho1 (by show 0+_≤_;omega) hn1) ?_
  rintro _ ⟨S2,rfl,hP2,k2⟩;have hP2:ClP 3 (Ps acc q) S2:=hP2;have hlen:=Q5 (flE q.e) acc;rw[P6]at hlen;have hlen:(Ps acc q).length≤acc.length+Cp q.e:=hlen;simp(disch:=omega)only[go_sem,reduceEqDiff,T9,hw];refine(cn_lp (tok:=tok) hr hl n (j+1) (Ps acc q) _ S2 (by omega) (by omega) ?_ ?_ ?_ ?_ hP2 (Jb2 hn1 k2.1))
  ·simp only[A0,reduceEqDiff,Ab,T3]
  ·simp only[A0,reduceEqDiff,Ab,T7]
  ·simp only[A0,reduceEqDiff,Ab,T8]
  ·simp only[A0,reduceEqDiff,Aa,Ab]
theorem fin15{v:AV}{nd:PN}(hv:Hg v nd)(a:AV)(ha:(Hi nd=[]∧a=.nils)∨(∃tok,a=.sl tok 0 1 ((Hi nd).map A2)∧Hi nd≠[]))(S':St):∃a' S'',R.ret a S' = R.ret a' S''∧Bw a' = true∧SpN 15 [v] (clean a'):=by
 have key:Bw a=true∧clean a=iG (Hi nd):=by
  rcases ha with⟨h1,rfl⟩ | ⟨tok,rfl,hne⟩
  ·rw[h1];exact⟨rfl,rfl⟩
  ·refine⟨(Ic _).1,?_⟩
   show AV.sl 0 0 1 (Be _)=_
   rw[(Ic _).2]
   cases h:Hi nd with
   |nil=>exact absurd h hne
   |cons w r=>rfl
 refine⟨_,_,rfl,key.1,fun v' nd' h hn _=>?_⟩
 have h:=(Cy h).1;subst h;rw[eZ hn hv,key.2]
theorem ncalls_k{v:AV}{nd:PN}(hv:Hg v nd)(hz:szN nd≤3000):KnN 15 [v]:=by
 have hv0:=hv;refine bodyN Tryz.f15 (by kernel_rfl) (by kernel_rfl) (by show(_:Nat)≤_;simp[Tryz.f15]) ?_
 obtain⟨a,b,c,d,es,rfl,h1,h2,h3,h4,h5⟩:=hv;have hle:=fun S=>len_eqs h4 S
 have hsz:Og nd.eqs≤3000:=by unfold szN at hz;omega
 have hsq:=aP nd.eqs;have xa39:∀S,Ga Tryz.prog S 39=some (.ptr S.next 0,S.newBox [.nils]):=fun S=>by kernel_rfl
 unfold H7 A2 Bk at hv0 ⊢;rcases h4 with⟨rfl,rfl⟩ | ⟨tok,rfl⟩
 ·have h00:decide ((0:Int)<((0:Nat):Int))=false:=rfl
  have hq:nd.eqs=[]:=by
   generalize nd.eqs=q at h5;cases h5;rfl
  simp(disch:=omega)only[go_sem,reduceAdd,reduceEqDiff,Tryz.f15,hle,xa39];refine Bt (Bp ?_);simp(disch:=omega)only[go_sem,reduceLT,reduceAdd,reduceEqDiff,h00];exact fin15 hv0 .nils (.inl ⟨by unfold Hi;rw[hq];rfl,rfl⟩) _
 ·have key:=fun t S=>cn_lp (tok:=tok) h5 hsz es.length 0 [] t S (by omega) (by rw[Jd1];show 0+_≤_;omega)
  unfold cnB at key;simp only[Tryz.f15]at key;simp(disch:=omega)only[go_sem,reduceAdd,reduceEqDiff,Tryz.f15,hle,xa39];refine WX.mono (key _ _ ?_ ?_ ?_ ?_ ?_ ?_) ?_
  ·simp only[A0,A1,reduceEqDiff,Aa,Ab];try rfl
  ·simp only[A0,A1,reduceEqDiff,Aa,Ab]
  ·simp only[A0,A1,reduceEqDiff,Aa,Ab]
  ·simp only[A0,A1,reduceEqDiff,Aa,Ab];rfl
  ·exact⟨by simp only[Ei,B6,Br];omega,by omega,.inl ⟨rfl,by simp only[Bj,B6,Br];rfl⟩⟩
  ·simp only[Ei,B6,Br];omega
  rintro _ ⟨t',S',rfl,T3,hP⟩;rw[Jd1]at hP;have hP:ClP 3 (Hi nd) S':=hP;obtain⟨_,_,hcase⟩:=hP;rcases hcase with⟨a1,a2⟩ | ⟨tk,a1,a2,a3,a4,a5⟩
  ·simp(disch:=omega)only[go_sem,reduceLT,reduceEqDiff,T3,a2]
   exact fin15 hv0 .nils (.inl ⟨a1,rfl⟩) _
  ·simp(disch:=omega)only[go_sem,reduceLT,reduceEqDiff,T3,a1]
   exact fin15 hv0 _ (.inr ⟨tk,rfl,a5.2⟩) _
end Go.Ax
noncomputable section
namespace Go.Ax
open Go.RowKit Go.Proofs
open Classical
set_option maxRecDepth 100000
theorem vO(k p:Nat)(n:Int)(s:List UInt8)(o:Bool)(x y:PE):Cp (.mk k p n s o [x,y])=1+(Cp x+Cp y):=by rw[Cp,Ch,Ch,Ch];omega
theorem deep1(k p:Nat)(n:Int)(s:List UInt8)(o:Bool)(x:PE):Cp (.mk k p n s o [x])=1+Cp x:=by rw[Cp,Ch,Ch];omega
theorem lS(k p:Nat)(n:Int)(s:List UInt8)(o:Bool):Cp (.mk k p n s o [])=1:=by rw[Cp,Ch]
theorem deep3(k p:Nat)(n:Int)(s:List UInt8)(o:Bool)(x y z:PE):Cp (.mk k p n s o [x,y,z])=1+(Cp x+Cp y+Cp z):=by rw[Cp,Ch,Ch,Ch,Ch];omega
def Zs(ts:List Tk)(i:Nat)(e:PE)(j:Nat):Prop:=i<j∧j<ts.length∧Cp e+i≤j
section
variable {ts:List Tk} (hts:TokOk ts)
include hts
theorem num_z{i:Nat}(hi:i<ts.length):Sat (Zs ts i) (I7 ts i):=by
 have h0:ts[i]? = some (tk ts i):=by rw[Gy hi];exact Ja4 hi
 unfold I7;rw[h0];simp only;refine .ite (fun h=>?_) (fun _=>?_)
 ·have h1:i+1<ts.length:=C2 hts hi (ws:=[[45]]) (by decide) (by rw[h];simp)
  have h2:ts[i+1]? = some (tk ts (i+1)):=by rw[Gy h1];exact Ja4 h1
  rw[h2];simp only;refine .ite (fun h3=>?_) (fun _=>.bad)
  exact .ok ⟨by omega,hts.more _ h1 (by rw[← Gy h1,h3];decide),by rw[lS];omega⟩
 ·refine .ite (fun h3=>?_) (fun _=>.bad)
  refine .ite (fun _=>.bad) (fun _=>?_)
  exact .ok ⟨by omega,hts.more _ hi (by rw[← Gy hi,h3];decide),by rw[lS];omega⟩
theorem rT{lo:Nat}{ws:List (List UInt8)}(hw:[] ∉ ws){kid:Nat→PR PE}(hk:∀i,lo<i→i<ts.length→Sat (Zs ts i) (kid i)):∀(n:Nat) (x:PE) (i:Nat),lo<i→i<ts.length→Cp x+lo≤i→ts.length - i<n→Sat (Zs ts lo) (Iv ts ws kid n x i)
 |0,x,i,h1,h2,h3,h4=>absurd h4 (Jb3 _)
 |n+1,x,i,h1,h2,h3,h4=>by
  unfold Iv;refine .ite (fun h=>?_) (fun _=>.ok ⟨h1,h2,h3⟩)
  have h5:=C2 hts h2 hw h;refine(hk (i+1) (by omega) h5).bind fun y j ⟨a,b,c⟩=>?_
  exact rT hw hk n _ j (by omega) b (by rw[vO];omega) (by omega)
theorem when_z{lo:Nat}:∀(n:Nat) (x:PE) (i:Nat),lo<i→i<ts.length→Cp x+lo≤i→ts.length - i<n→Sat (Zs ts lo) (Ih ts n x i)
 |0,x,i,h1,h2,h3,h4=>absurd h4 (Jb3 _)
 |n+1,x,i,h1,h2,h3,h4=>by
  unfold Ih;refine .ite (fun h=>?_) (fun _=>.ok ⟨h1,h2,h3⟩)
  have h5:=C2 hts h2 (ws:=[[119,104,101,110]]) (by decide) h
  refine(bN hts h5).bind fun c j ⟨a,b⟩=>?_
  exact when_z n _ j (by omega) b (by rw[deep1];omega) (by omega)
theorem xH{lo:Nat}{kid:Nat→PR PE}(hk:∀i,lo<i→i<ts.length→Sat (Zs ts i) (kid i)):∀(n:Nat) (l:List PE) (i:Nat),lo<i→i<ts.length→Ch l+lo≤i→ts.length - i<n→Sat (fun l j=>i<j∧j<ts.length∧Ch l+lo≤j) (F9 ts kid n l i)
 |0,l,i,h1,h2,h3,h4=>absurd h4 (Jb3 _)
 |n+1,l,i,h1,h2,h3,h4=>by
  unfold F9;refine .ite (fun h=>?_) (fun _=>?_)
  ·have h5:=C2 hts h2 (ws:=[[44]]) (by decide) h
   refine(hk (i+1) (by omega) h5).bind fun y j ⟨a,b,c⟩=>?_
   exact(xH hk n _ j (by omega) b (by rw[V8,Ch,Ch];omega) (by omega)).mono fun e m ⟨a2,b2,c2⟩=>⟨by omega,b2,c2⟩
  ·exact(Eb hts h2 (ws:=[[41]]) (by decide)).bind fun _ j ⟨_,a,b,_⟩=>.ok ⟨by omega,b,by omega⟩
theorem list_z{i:Nat}{kid:Nat→PR PE}(hk:∀i',i<i'→i'<ts.length→Sat (Zs ts i') (kid i'))(n:Nat)(hi:i<ts.length)(hn:ts.length - i≤n):Sat (fun l j=>i<j∧j<ts.length∧Ch l+i≤j) (I4 ts kid n i):=by
 unfold I4;refine(Eb hts hi (ws:=[[40]]) (by decide)).bind fun _ j ⟨_,a,b,_⟩=>?_
 refine .ite (fun h=>?_) (fun _=>?_)
 ·exact .ok ⟨by omega,C2 hts b (ws:=[[41]]) (by decide) h,by rw[Ch];omega⟩
 ·refine(hk j (by omega) b).bind fun x m ⟨a1,b1,c1⟩=>?_
  exact(xH hts (lo:=i) (fun i' h1 h2=>hk i' h1 h2) n [x] m (by omega) b1 (by rw[Ch,Ch];omega) (by omega)).mono fun e m ⟨a2,b2,c2⟩=>⟨by omega,b2,c2⟩
theorem P_z:∀(n:Nat) (nt:NT) (i:Nat),i<ts.length→16*(ts.length - i)+Ee nt<n→Sat (Zs ts i) (P ts n nt i)
 |0,nt,i,hi,hn=>absurd hn (Jb3 _)
 |n+1,nt,i,hi,hn=>by
  have ih:=fun(nt:NT) (i':Nat) (h1:i'<ts.length) (h2:16*(ts.length - i')+Ee nt<n)=>P_z n nt i' h1 h2
  have later:∀(nt:NT) (i':Nat),i<i'→i'<ts.length→Sat (Zs ts i') (P ts n nt i'):=fun nt i' h1 h2=>ih nt i' h2 (by cases nt <;> simp only[Ee] <;> omega)
  cases nt with
  |expr =>
   simp only[Ee]at hn
   show Sat _ (if _ then _ else _)
   refine .ite (fun h=>?_) (fun _=>ih .arrow i hi (by simp only[Ee];omega))
   have h5:=C2 hts hi (ws:=[[105,102]]) (by decide) h
   refine(later .expr (i+1) (by omega) h5).bind fun c j ⟨a1,b1,c1⟩=>?_
   refine(Eb hts b1 (by decide)).bind fun _ j2 ⟨_,a2,b2,_⟩=>?_
   refine(later .expr j2 (by omega) b2).bind fun y j3 ⟨a3,b3,c3⟩=>?_
   refine(Eb hts b3 (by decide)).bind fun _ j4 ⟨_,a4,b4,_⟩=>?_
   refine(later .expr j4 (by omega) b4).bind fun z j5 ⟨a5,b5,c5⟩=>?_
   exact .ok ⟨by omega,b5,by rw[deep3];omega⟩
  |arrow =>
   simp only[Ee]at hn
   show Sat _ (PR.bind _ _)
   refine(ih .or i hi (by simp only[Ee];omega)).bind fun x j ⟨a1,b1,c1⟩=>?_
   refine .ite (fun h=>?_) (fun _=>.ite (fun _=>.ok ⟨a1,b1,c1⟩) (fun _=>.ite (fun h=>?_) (fun _=>.ok ⟨a1,b1,c1⟩)))
   ·have h5:=C2 hts b1 (ws:=[[45,62]]) (by decide) h
    refine(later .arrow (j+1) (by omega) h5).bind fun y m ⟨a2,b2,c2⟩=>.ok ⟨by omega,b2,by rw[vO];omega⟩
   ·have h5:=C2 hts b1 (ws:=[[102,98,121]]) (by decide) h
    refine(later .arrow (j+1) (by omega) h5).bind fun y m ⟨a2,b2,c2⟩=>.ok ⟨by omega,b2,by rw[vO];omega⟩
  |or =>
   simp only[Ee]at hn
   show Sat _ (PR.bind _ _)
   refine(ih .and i hi (by simp only[Ee];omega)).bind fun x j ⟨a1,b1,c1⟩=>?_
   exact rT hts (lo:=i) (by decide) (fun i' h1 h2=>later .and i' h1 h2) n x j a1 b1 c1 (by omega)
  |and =>
   simp only[Ee]at hn
   show Sat _ (PR.bind _ _)
   refine(ih .not i hi (by simp only[Ee];omega)).bind fun x j ⟨a1,b1,c1⟩=>?_
   exact rT hts (lo:=i) (by decide) (fun i' h1 h2=>later .not i' h1 h2) n x j a1 b1 c1 (by omega)
  |not =>
   simp only[Ee]at hn
   show Sat _ (if _ then _ else _)
   refine .ite (fun h=>?_) (fun _=>?_)
   ·have h5:=C2 hts hi (ws:=[[110,111,116]]) (by decide) h
    exact(later .not (i+1) (by omega) h5).bind fun x j ⟨a,b,c⟩=>.ok ⟨by omega,b,by rw[deep1];omega⟩
   ·refine(ih .sum i hi (by simp only[Ee];omega)).bind fun x j ⟨a1,b1,c1⟩=>?_
    refine .ite (fun h=>?_) (fun _=>.ok ⟨a1,b1,c1⟩)
    have h5:=C2 hts b1 (ws:=[[61],[60,62],[60],[60,61],[62],[62,61]]) (by decide) h
    exact(later .sum (j+1) (by omega) h5).bind fun y m ⟨a2,b2,c2⟩=>.ok ⟨by omega,b2,by rw[vO];omega⟩
  |sum =>
   simp only[Ee]at hn
   show Sat _ (PR.bind _ _)
   refine(ih .term i hi (by simp only[Ee];omega)).bind fun x j ⟨a1,b1,c1⟩=>?_
   exact rT hts (lo:=i) (by decide) (fun i' h1 h2=>later .term i' h1 h2) n x j a1 b1 c1 (by omega)
  |term =>
   simp only[Ee]at hn
   show Sat _ (PR.bind _ _)
   refine(ih .unary i hi (by simp only[Ee];omega)).bind fun x j ⟨a1,b1,c1⟩=>?_
   exact rT hts (lo:=i) (by decide) (fun i' h1 h2=>later .unary i' h1 h2) n x j a1 b1 c1 (by omega)
  |unary =>
   simp only[Ee]at hn
   show Sat _ (if _ then _ else _)
   refine .ite (fun h=>?_) (fun _=>.ite (fun _=>num_z hts hi) (fun _=>.ite (fun h=>?_) (fun _=>ih .when i hi (by simp only[Ee];omega))))
   ·have h5:=C2 hts hi (ws:=[[112,114,101]]) (by decide) h
    exact(later .unary (i+1) (by omega) h5).bind fun x j ⟨a,b,c⟩=>.ok ⟨by omega,b,by rw[deep1];omega⟩
   ·have h5:=C2 hts hi (ws:=[[45]]) (by decide) h
    exact(later .unary (i+1) (by omega) h5).bind fun x j ⟨a,b,c⟩=>.ok ⟨by omega,b,by rw[deep1];omega⟩
  |when =>
   simp only[Ee]at hn
   show Sat _ (PR.bind _ _)
   refine(ih .primary i hi (by simp only[Ee];omega)).bind fun x j ⟨a1,b1,c1⟩=>?_
   exact when_z hts n x j a1 b1 c1 (by omega)
  |primary =>
   simp only[Ee]at hn
   show Sat _ (if _ then _ else _)
   refine .ite (fun _=>num_z hts hi) (fun _=>.ite (fun _=>ih .name i hi (by simp only[Ee];omega)) (fun _=>.ite (fun h=>?_) (fun _=>.ite (fun h=>?_) (fun _=>.ite (fun h=>?_) (fun _=>ih .brk i hi (by simp only[Ee];omega))))))
   ·exact .ok ⟨by omega,C2 hts hi (ws:=[[116,114,117,101],[102,97,108,115,101]]) (by decide) (by simpa using h),by unfold G4;rw[lS];omega⟩
   ·have h5:=C2 hts hi (ws:=[[109,101,114,103,101]]) (by decide) (by simpa using h)
    refine(La hts h5 (by decide)).bind fun t j ⟨_,a1,b1⟩=>?_
    refine(later .brk j (by omega) b1).bind fun x j2 ⟨a2,b2,c2⟩=>?_
    refine(later .brk j2 (by omega) b2).bind fun y j3 ⟨a3,b3,c3⟩=>?_
    exact .ok ⟨by omega,b3,by rw[vO];omega⟩
   ·have h5:=C2 hts hi (ws:=[[97,119,97,105,116]]) (by decide) (by simpa using h)
    refine(La hts h5 (by decide)).bind fun t j ⟨_,a1,b1⟩=>?_
    refine .ite (fun h=>?_) (fun _=>.ok ⟨by omega,b1,by rw[lS];omega⟩)
    have h6:=C2 hts b1 (ws:=[[97,102,116,101,114]]) (by decide) h
    refine(Eb hts h6 (by decide)).bind fun _ j2 ⟨_,a2,b2,_⟩=>?_
    refine(later .lit j2 (by omega) b2).bind fun x m ⟨a3,b3,c3⟩=>?_
    refine(xH hts (lo:=i+1) (fun i' h1 h2=>later .lit i' (by omega) h2) n [x] m (by omega) b3 (by rw[Ch,Ch];omega) (by omega)).bind fun l m2 ⟨a4,b4,c4⟩=>?_
    exact .ok ⟨by omega,b4,by rw[Cp];omega⟩
  |name =>
   simp only[Ee]at hn
   show Sat _ (if _ then _ else _)
   refine .ite (fun _=>ih .call i hi (by simp only[Ee];omega)) (fun _=>?_)
   refine(La hts hi (by decide)).bind fun t j ⟨h1,a1,b1⟩=>.ok ⟨by omega,b1,by rw[lS];omega⟩
  |call =>
   simp only[Ee]at hn
   show Sat _ (PR.bind _ _)
   refine(La hts hi (by decide)).bind fun t j ⟨h1,a1,b1⟩=>?_
   refine(list_z hts (fun i' h1 h2=>later .expr i' (by omega) h2) n b1 (by omega)).bind fun l m ⟨a2,b2,c2⟩=>?_
   exact .ok ⟨by omega,b2,by rw[Cp];omega⟩
  |brk =>
   simp only[Ee]at hn
   show Sat _ (PR.bind _ _)
   refine(Eb hts hi (by decide)).bind fun _ j ⟨_,a1,b1,_⟩=>?_
   refine(later .expr j (by omega) b1).bind fun x j2 ⟨a2,b2,c2⟩=>?_
   exact(Eb hts b2 (by decide)).bind fun _ j3 ⟨_,a3,b3,_⟩=>.ok ⟨by omega,b3,by omega⟩
  |lit =>
   simp only[Ee]at hn
   show Sat _ (if _ then _ else _)
   refine .ite (fun h=>?_) (fun _=>num_z hts hi)
   exact .ok ⟨by omega,C2 hts hi (ws:=[[116,114,117,101],[102,97,108,115,101]]) (by decide) h,by unfold G4;rw[lS];omega⟩
theorem pN{i:Nat}(hi:i<ts.length):Sat (fun _ j=>i<j∧j<ts.length) (El ts i):=by
 unfold El;refine(La hts hi (by decide)).bind fun t j ⟨h1,a1,b1⟩=>?_
 refine(Eb hts b1 (by decide)).bind fun _ j2 ⟨_,a2,b2,_⟩=>?_
 refine .ite (fun h=>?_) (fun _=>?_)
 ·have h5:=C2 hts b2 (ws:=[[102,117,116,117,114,101]]) (by decide) h
  exact(Eb hts h5 (by decide)).bind fun u m ⟨_,a3,b3,_⟩=>.ok ⟨by omega,b3⟩
 ·exact(Eb hts b2 (by decide)).bind fun u m ⟨_,a3,b3,_⟩=>.ok ⟨by omega,b3⟩
theorem gH{i:Nat}(hi:i<ts.length):Sat (fun _ j=>i<j∧j<ts.length) (D5 ts i):=by
 unfold D5;refine(pN hts hi).bind fun d j ⟨a1,b1⟩=>?_
 refine .ite (fun h=>?_) (fun _=>?_)
 ·have h5:=C2 hts b1 (ws:=[[119,104,101,110]]) (by decide) h
  refine(bN hts h5).bind fun c j2 ⟨a2,b2⟩=>?_
  exact(Eb hts b2 (by decide)).bind fun u m ⟨_,a3,b3,_⟩=>.ok ⟨by omega,b3⟩
 ·exact(Eb hts b1 (by decide)).bind fun u m ⟨_,a3,b3,_⟩=>.ok ⟨by omega,b3⟩
theorem bF{i:Nat}(hi:i<ts.length):Sat (fun _ j=>i<j∧j<ts.length) (Hb ts i):=by
 unfold Hb;exact(La hts hi (by decide)).bind fun t j ⟨h1,a1,b1⟩=>.ok ⟨by omega,b1⟩
theorem varsN_z:∀(n:Nat) (l:List PD) (i:Nat),i<ts.length→ts.length - i<n→Sat (fun r j=>i≤j∧j<ts.length∧r.length+i≤l.length+j) (Ix ts n l i)
 |0,l,i,h2,h4=>absurd h4 (Jb3 _)
 |n+1,l,i,h2,h4=>by
  unfold Ix;refine .ite (fun h=>?_) (fun _=>.ok ⟨Ja1 _,h2,Ja1 _⟩)
  refine(gH hts h2).bind fun y j ⟨a,b⟩=>?_
  exact(varsN_z n _ j b (by omega)).mono fun e m ⟨a2,b2,d2⟩=>⟨by omega,b2,by simp at d2;omega⟩
theorem dG{α:Type}{kid:Nat→PR α}(hk:∀i,i<ts.length→Sat (fun _ j=>i<j∧j<ts.length) (kid i)):∀(n:Nat) (l:List α) (i:Nat),i<ts.length→ts.length - i<n→Sat (fun r j=>i<j∧j<ts.length∧r.length+i≤l.length+j) (Ft ts kid n l i)
 |0,l,i,h2,h4=>absurd h4 (Jb3 _)
 |n+1,l,i,h2,h4=>by
  unfold Ft;refine .ite (fun h=>?_) (fun _=>?_)
  ·have h5:=C2 hts h2 (ws:=[[44]]) (by decide) h
   refine(hk (i+1) h5).bind fun y j ⟨a,b⟩=>?_
   exact(dG hk n _ j b (by omega)).mono fun e m ⟨a2,b2,d2⟩=>⟨by omega,b2,by simp at d2;omega⟩
  ·exact(Eb hts h2 (ws:=[[41]]) (by decide)).bind fun _ j ⟨_,a,b,_⟩=>.ok ⟨by omega,b,by omega⟩
theorem tQ{α:Type}{kid:Nat→PR α}(hk:∀i,i<ts.length→Sat (fun _ j=>i<j∧j<ts.length) (kid i))(n:Nat){i:Nat}(hi:i<ts.length)(hn:ts.length≤n):Sat (fun r j=>i<j∧j<ts.length∧r.length+i≤j) (Hz ts kid n i):=by
 unfold Hz;refine(Eb hts hi (ws:=[[40]]) (by decide)).bind fun _ j ⟨_,a,b,_⟩=>?_
 refine .ite (fun h=>?_) (fun _=>?_)
 ·exact .ok ⟨by omega,C2 hts b (ws:=[[41]]) (by decide) h,by simp;omega⟩
 ·refine(hk j b).bind fun x m ⟨a1,b1⟩=>?_
  exact(dG hts hk n [x] m b1 (by omega)).mono fun e m ⟨a2,b2,d2⟩=>⟨by omega,b2,by simp at d2;omega⟩
theorem leftsN_z(n:Nat){i:Nat}(hi:i<ts.length)(hn:ts.length≤n):Sat (fun r j=>i<j∧j<ts.length∧r.length+i≤j) (H3 ts n i):=by
 unfold H3;refine .ite (fun _=>?_) (fun _=>?_)
 ·exact(bF hts hi).bind fun x j ⟨a,b⟩=>.ok ⟨a,b,by simp;omega⟩
 ·refine(Eb hts hi (by decide)).bind fun _ j ⟨_,a1,b1,_⟩=>?_
  refine(bF hts b1).bind fun x j2 ⟨a2,b2⟩=>?_
  refine(Eb hts b2 (by decide)).bind fun _ j3 ⟨_,a3,b3,_⟩=>?_
  refine Sat.bind (Q:=fun l m=>j3<m∧m<ts.length∧l.length+j3≤m) ?_ (fun l m ⟨a4,b4,d4⟩=>.ok ⟨by omega,b4,by simp;omega⟩)
  refine(bF hts b3).bind fun y m ⟨a5,b5⟩=>?_
  exact(dG hts (fun i h=>bF hts h) n [y] m b5 (by omega)).mono fun e m ⟨a2,b2,d2⟩=>⟨by omega,b2,by simp at d2;omega⟩
theorem jK(n:Nat)(hn:16*ts.length+16≤n)(nt:NT){i:Nat}(hi:i<ts.length):Sat (Zs ts i) (F6 (P ts n nt) i):=by
 unfold F6;refine(P_z hts n nt i hi (by cases nt <;> simp only[Ee] <;> omega)).bind fun e j h=>?_
 exact .ite (fun _=>.bad) (fun _=>.ok h)
theorem eq_z(n:Nat)(hn:16*ts.length+16≤n){i:Nat}(hi:i<ts.length):Sat (fun q j=>i<j∧j<ts.length∧szQ q+i≤j) (eqP ts n i):=by
 unfold eqP;refine(leftsN_z hts n hi (by omega)).bind fun ls j ⟨a1,b1,d1⟩=>?_
 refine(Eb hts b1 (by decide)).bind fun _ j2 ⟨_,a2,b2,_⟩=>?_
 refine .ite (fun h=>?_) (fun _=>?_)
 ·have h5:=C2 hts b2 (ws:=[[97,115,121,110,99]]) (by decide) h
  refine(jK hts n hn .call h5).bind fun e m ⟨a3,b3,c3⟩=>?_
  exact(Eb hts b3 (by decide)).bind fun _ m2 ⟨_,a4,b4,_⟩=>.ok ⟨by omega,b4,by unfold szQ;simp only;omega⟩
 ·refine(jK hts n hn .expr b2).bind fun e m ⟨a3,b3,c3⟩=>?_
  exact(Eb hts b3 (by decide)).bind fun _ m2 ⟨_,a4,b4,_⟩=>.ok ⟨by omega,b4,by unfold szQ;simp only;omega⟩
omit hts in
theorem rD:∀(l m:List PQ),Og (l ++ m)=Og l+Og m
 | [],m=>by rw[List.nil_append,Og];omega
 |e :: r,m=>by rw[List.cons_append,Og,Og,rD r m];omega
omit hts in
theorem szP_app:∀(l m:List PN),szP (l ++ m)=szP l+szP m
 | [],m=>by rw[List.nil_append,szP];omega
 |e :: r,m=>by rw[List.cons_append,szP,szP,szP_app r m];omega
theorem eqs_z(N:Nat)(hN:16*ts.length+16≤N):∀(n:Nat) (l:List PQ) (i:Nat),i<ts.length→ts.length - i<n→Sat (fun r j=>i≤j∧j<ts.length∧Og r+i≤Og l+j) (Oa ts N n l i)
 |0,l,i,h2,h4=>absurd h4 (Jb3 _)
 |n+1,l,i,h2,h4=>by
  unfold Oa;refine .ite (fun _=>.ok ⟨Ja1 _,h2,Ja1 _⟩) (fun _=>?_)
  refine(eq_z hts N hN h2).bind fun y j ⟨a,b,c⟩=>?_
  exact(eqs_z N hN n _ j b (by omega)).mono fun e m ⟨a2,b2,d2⟩=>⟨by omega,b2,by rw[rD,Og,Og]at d2;omega⟩
theorem varsQN_z(n:Nat){i:Nat}(hi:i<ts.length)(hn:ts.length≤n):Sat (fun r j=>i≤j∧j<ts.length∧r.length+i≤j) (Ke ts n i):=by
 unfold Ke;refine .ite (fun h=>?_) (fun _=>.ok ⟨Ja1 _,hi,by simp⟩)
 have h5:=C2 hts hi (ws:=[[118,97,114]]) (by decide) h
 refine(gH hts h5).bind fun x m ⟨a,b⟩=>?_
 exact(varsN_z hts n [x] m b (by omega)).mono fun e m ⟨a2,b2,d2⟩=>⟨by omega,b2,by simp at d2;omega⟩
theorem node_z(n:Nat)(hn:16*ts.length+16≤n){i:Nat}(hi:i<ts.length):Sat (fun q j=>i<j∧j<ts.length∧szN q+i≤j) (Hk ts n i):=by
 unfold Hk;refine(Eb hts hi (by decide)).bind fun _ j ⟨_,a1,b1,_⟩=>?_
 refine(La hts b1 (by decide)).bind fun t j2 ⟨h2,a2,b2⟩=>?_
 refine(tQ hts (fun i h=>pN hts h) n b2 (by omega)).bind fun ins j3 ⟨a3,b3,d3⟩=>?_
 refine(Eb hts b3 (by decide)).bind fun _ j4 ⟨_,a4,b4,_⟩=>?_
 refine(tQ hts (fun i h=>pN hts h) n b4 (by omega)).bind fun outs j5 ⟨a5,b5,d5⟩=>?_
 refine(varsQN_z hts n b5 (by omega)).bind fun vars j6 ⟨a6,b6,d6⟩=>?_
 refine(Eb hts b6 (by decide)).bind fun _ j7 ⟨_,a7,b7,_⟩=>?_
 refine(eqs_z hts n hn n [] j7 b7 (by omega)).bind fun qs j8 ⟨a8,b8,d8⟩=>?_
 refine(Eb hts b8 (by decide)).bind fun _ j9 ⟨_,a9,b9,_⟩=>.ok ⟨by omega,b9,?_⟩
 rw[Og]at d8;unfold szN;simp only;omega
theorem prog_z(N:Nat)(hN:16*ts.length+16≤N):∀(n:Nat) (l:List PN) (i:Nat),i<ts.length→ts.length - i<n→Sat (fun r j=>i≤j∧j<ts.length∧szP r+i≤szP l+j) (Jo ts N n l i)
 |0,l,i,h2,h4=>absurd h4 (Jb3 _)
 |n+1,l,i,h2,h4=>by
  unfold Jo;refine .ite (fun _=>?_) (fun _=>.ok ⟨Ja1 _,h2,Ja1 _⟩)
  refine(node_z hts N hN h2).bind fun y j ⟨a,b,c⟩=>?_
  exact(prog_z N hN n _ j b (by omega)).mono fun e m ⟨a2,b2,d2⟩=>⟨by omega,b2,by rw[szP_app,szP,szP]at d2;omega⟩
theorem program_z(n:Nat)(hn:16*ts.length+16≤n)(h0:0<ts.length):Sat (fun l j=>j<ts.length∧szP l≤j) (Do ts n 0):=by
 unfold Do;refine(node_z hts n hn h0).bind fun x j ⟨a,b,c⟩=>?_
 exact(prog_z hts n hn n [x] j b (by omega)).mono fun e m ⟨a2,b2,d2⟩=>⟨b2,by rw[szP,szP]at d2;omega⟩
end
end Go.Ax
noncomputable section
namespace Go.Ax
open Go.RowKit Go.Proofs
open Classical
set_option maxRecDepth 100000
def knownL(k:Nat):Option (List AV→St→R):=Bool.rec (Bool.rec (Bool.rec (Bool.rec (Bool.rec none (some awI) (Nat.beq k 11)) (some (Zu Tryz.prog SpN 15)) (Nat.beq k 15)) (some (Ho Tryz.prog Od 16)) (Nat.beq k 16)) (some Ou) (Nat.beq k 18)) (some (Ho Tryz.prog Qd 20)) (Nat.beq k 20)
def EL:Env:={ P:=Tryz.prog,G:=gR,F:=E1.F,I:=knownL,M:=rowM }
theorem el_ok:EL.Ok:=⟨fun k fn h=>Kr.fn k fn h⟩
theorem el_mix:EL.P.follows .mixedOrders=true:=Ks
theorem pI:EL.P=Tryz.prog:=_root_.id rfl
theorem el_G:EL.G=gR:=_root_.id rfl
theorem el_F:EL.F=E1.F:=_root_.id rfl
theorem el_intr:G8 EL:=fun k g hk base w0 args S hne γ w vs hS hg hv=>by
 have hk2:(Bool.rec (Bool.rec (Bool.rec (Bool.rec (Bool.rec none (some awI) (Nat.beq k 11)) (some (Zu Tryz.prog SpN 15)) (Nat.beq k 15)) (some (Ho Tryz.prog Od 16)) (Nat.beq k 16)) (some Ou) (Nat.beq k 18)) (some (Ho Tryz.prog Qd 20)) (Nat.beq k 20):Option (List AV→St→R))=some g:=hk
 cases h20:Nat.beq k 20 with
 |true =>
  rw[h20]at hk2;injection hk2 with hk2;subst hk2
  have:k=20:=Jc1 h20;subst this;exact Ny base w0 args S hne γ w vs hS hv
 |false =>
 rw[h20]at hk2
 cases h18:Nat.beq k 18 with
 |true =>
  rw[h18]at hk2;injection hk2 with hk2;subst hk2
  have:k=18:=Jc1 h18;subst this;exact prog_I7 base w0 args S hne γ w vs hS hg hv
 |false =>
 rw[h18]at hk2
 cases h16:Nat.beq k 16 with
 |true =>
  rw[h16]at hk2;injection hk2 with hk2;subst hk2
  have:k=16:=Jc1 h16;subst this;exact Ny base w0 args S hne γ w vs hS hv
 |false =>
 rw[h16]at hk2
 cases h15:Nat.beq k 15 with
 |true =>
  rw[h15]at hk2;injection hk2 with hk2;subst hk2
  have:k=15:=Jc1 h15;subst this;exact pureJ_ok base w0 args S hne γ w vs hS hg hv
 |false =>
 rw[h15]at hk2
 cases h11:Nat.beq k 11 with
 |true =>
  rw[h11]at hk2;injection hk2 with hk2;subst hk2
  have:k=11:=Jc1 h11;subst this;exact aw_I base w0 args S hne γ w vs hS hg hv
 |false=>rw[h11]at hk2;cases hk2
theorem il_calls(xs:List AV)(nd:PN)(hr:Hg (.agg xs) nd)(hs:U3 nd.eqs≤100000)(S:St)(Q:R→Prop)(h:Q (.ret (.sl 0 0 1 ((Hi nd).map A2)) S)):WC EL 16 [.agg xs] S Q:=by
 have hfc:=L5 hr;have hc:clean (.agg xs)=.agg (Be xs):=rfl
 obtain⟨a,ha,hk⟩:=Me (P:=Tryz.prog) (Spec:=Od) (k:=16) (args:=[.agg xs]) (by show(Bw _ && true)=true;rw[hfc.1];rfl) (by
  have:=hfc.2;rw[hc]at this
  exact calls_k (Be xs) nd this hs)
 refine Gu (g:=Ho Tryz.prog Od 16) (by kernel_rfl) ?_
 rw[ha S];have:=hfc.2;rw[hc]at this;rw[hk.spec (Be xs) nd rfl this hs];exact h
theorem il_prog(args:List AV)(S:St)(Q:R→Prop)(h:Q (Ou args S)):WC EL 18 args S Q:=Gu (g:=Ou) (by kernel_rfl) h
theorem il_ref(l:List UInt8)(S:St)(Q:R→Prop)(h:∀(v:AV) (e at_:Int),Bw v=true→clean v=v→(e=0→∃ts nodes,Iw l=some (.inr ts)∧Lr v nodes∧aG ts nodes)→Q (.ret (.tup [v,.v (.int .i64 e),.v (.int .i64 at_)]) S)):WC EL 20 [.v (.string ⟨⟨l⟩⟩)] S Q:=by
 obtain⟨a,ha,hk⟩:=Me (P:=Tryz.prog) (Spec:=Qd) (k:=20) (args:=[A2 l]) rfl (Vd l);refine Gu (g:=Ho Tryz.prog Qd 20) (by kernel_rfl) ?_
 show Q (Ho Tryz.prog Qd 20 [A2 l] S)
 rw[ha S];obtain⟨v,e,at_,rfl,q⟩:=hk.spec l rfl;refine h v e at_ ?_ ?_ q
 ·have hf:(Bw _ && (true && (true && true)))=true:=hk.free
  simpa using hf
 ·have hc:AV.tup [clean _,_,_]=_:=hk.cln
  injection hc with hc
  injection hc
theorem L_calls{v:AV}{nd:PN}(hv:Hg v nd)(hz:szN nd≤3000)(S:St)(Q:R→Prop)(h:Q (.ret (iG (Hi nd)) S)):WC EL 15 [v] S Q:=by
 have hc:=L5 hv;obtain⟨a,ha,hka⟩:=sP (P:=Tryz.prog) (Spec:=SpN) (k:=15) (args:=[v]) (by show(Bw v && true)=true;rw[hc.1];rfl) (ncalls_k hc.2 hz)
 refine Gu (g:=Zu Tryz.prog SpN 15) (by kernel_rfl) ?_
 rw[ha S,hka.spec _ nd rfl hc.2 hz];exact h
theorem awake_w(S:St):WC EL 11 [] S (fun r=>r=.ret (.v (.bool true)) S):=Gu (g:=awI) (by kernel_rfl) rfl
theorem readX_sz{l:List UInt8}{ts:List Tk}{nodes:List PN}(h1:Iw l=some (.inr ts))(h2:aG ts nodes):szP nodes≤l.length:=by
 obtain⟨n,hn⟩:=h2;have hr:=hn (n+16*ts.length+16) (by omega)
 have hs:=program_z (Xa h1).1 (n+16*ts.length+16) (by omega) (Xa h1).2
 have hl:=kV h1;unfold Lf at hr
 cases hp:Do ts (n+16*ts.length+16) 0 with
 |out=>simp only[hp]at hr;cases hr
 |bad a e=>simp only[hp]at hr;cases hr
 |ok l2 j =>
  rw[hp]at hs;simp only[hp]at hr
  split at hr
  ·injection hr with hr
   injection hr with hr
   subst hr;obtain⟨h3,h4⟩:=hs.2 _ _ rfl;omega
  ·cases hr
theorem yg27:B9 Tryz.prog 27=some false:=by kernel_rfl
theorem yl27(S:St)(p k:Nat):A8 Tryz.prog S 27 (.ptr p k)=cl1 (S.mem.get p) k:=Nr yg27 S p k
theorem yz29:Cl Tryz.prog 29=some 2:=by kernel_rfl
theorem ys29(S:St)(p k:Nat)(v:AV):Bl Tryz.prog S 29 (.ptr p k) v=Ia S (S.mem.get p) p k v 2:=Jr yz29 S p k v
theorem ya29(S:St):Ga Tryz.prog S 29=some (.ptr S.next 0,S.newBox [.v (.int .i64 0),.v (.int .i64 0)]):=by kernel_rfl
theorem mS(p k:Nat):A3 Tryz.prog 29 (.ptr p k) 1=some (.ptr p (k+1)):=by kernel_rfl
theorem bA(a b:AV):Ha Tryz.prog 27 a b=false:=by
 have h:Tryz.prog.underlying 27=some (.int .i64):=rfl;unfold Ha;rw[h]
theorem cut_w(l:List UInt8)(n:Nat)(S:St):WC EL 41 [.v (.string ⟨⟨l⟩⟩),.v (.int .i64 (n:Int))] S (fun r=>r=.ret (.v (.string ⟨⟨l.take n⟩⟩)) S):=by
 refine WCk Tryz.f41 ?_
 by_cases hn:n<l.length
 ·have hc:=gtT hn
  have hs:=xD l n (by omega)
  simp(disch:=omega)only[go_sem,reduceLT,reduceEqDiff,pI,el_G,Tryz.f41,hc,hs,Jt]
 ·have hc:=gtF hn
  rw[Jd2 (by omega)]
  simp(disch:=omega)only[go_sem,reduceLT,reduceEqDiff,pI,el_G,Tryz.f41,hc,Jt]
def ReadR(l:List UInt8)(S:St)(r:R):Prop:=∃v1 v2 ok S',r=.ret (.tup [v1,v2,.v (.bool ok)]) S'∧S'.next=S.next+1∧(∀id,id<S.next→S'.mem.get id=S.mem.get id)∧(ok=true→∃ts nodes,Iw l=some (.inr ts)∧Lr v1 nodes∧Lr v2 nodes∧szP nodes≤l.length)
theorem L4(S:St)(a b:List AV):(((S.newBox a).to S.next b).next=S.next+1)∧∀id,id<S.next→((S.newBox a).to S.next b).mem.get id=S.mem.get id :=
 ⟨rfl,fun id h=>by rw[A5,if_neg (by omega),Bj,if_neg (by omega)]⟩
theorem read_w(l:List UInt8)(n:Nat)(hn:n≤100000)(S:St):WC EL 12 [.v (.string ⟨⟨l⟩⟩),.v (.int .i64 (n:Int))] S (ReadR (l.take n) S):=by
 refine WCk Tryz.f12 ?_;obtain⟨fn1,hf1⟩:=fX 41;obtain⟨fn2,hf2⟩:=fX 18;obtain⟨fn3,hf3⟩:=fX 20;have hl:(l.take n).length≤1000000:=by rw[Jd0];omega
 obtain⟨out,hlx⟩:=lexL_some (l.take n);simp(disch:=omega)only[go_sem,reduceEqDiff,el_F,Tryz.f12,hf1];refine WC.mono (cut_w l n S) ?_;rintro _ rfl;generalize l.take n=m at hl hlx ⊢;simp(disch:=omega)only[go_sem,reduceEqDiff,el_F,hf2];refine il_prog _ _ _ ?_;have hP:=prog_is hl hlx S;unfold A2 at hP;rcases hP with⟨ns,v,h2,h3,tok,off,es,rfl,h4⟩ | ⟨y,h2,h3⟩
 ·have h0:(((0:Nat):Int) == 0)=true:=rfl
  rw[h3];simp(disch:=omega)only[go_sem,reduceAdd,reduceEqDiff,reduceLeDiff,pI,el_F,hf3,ys29,ya29,Bk,D0];refine il_ref m _ _ fun v2 e at_ hf hcl q=>?_
  by_cases he0:e=0
  ·have he:(e == 0)=true:=by rw[he0];rfl
   simp(disch:=omega)only[go_sem,reduceLT,reduceEqDiff,pI,h0,he,yl27,mS,bA];refine⟨_,_,_,_,rfl,(L4 S _ _).1,(L4 S _ _).2,fun _=>?_⟩
   obtain⟨ts,nodes,q1,q2,q3⟩:=q he0;obtain⟨v',w1,w2⟩:=jV q1 q3 hl S;unfold A2 at w1;rw[h3]at w1;injection w1 with w1
   injection w1 with w1
   injection w1 with w1
   subst w1;exact⟨ts,nodes,q1,w2,q2,readX_sz q1 q3⟩
  ·have he:(e == 0)=false:=by rw[beq_eq_false_iff_ne];exact he0
   simp(disch:=omega)only[go_sem,reduceLT,reduceEqDiff,pI,h0,he,yl27,mS,bA];exact⟨_,_,_,_,rfl,(L4 S _ _).1,(L4 S _ _).2,fun h=>by cases h⟩
 ·rw[h3]
  simp(disch:=omega)only[go_sem,reduceAdd,reduceEqDiff,reduceLeDiff,pI,el_F,hf3,ys29,ya29,Bk,D0];refine il_ref m _ _ fun v2 e at_ hf hcl q=>?_
  have hbad:e≠0:=fun he0=>by
   obtain⟨ts,nodes,q1,q2,q3⟩:=q he0;obtain⟨v',w1,w2⟩:=jV q1 q3 hl S;unfold A2 at w1;rw[h3]at w1;injection w1 with w1
   injection w1 with w1
   injection w1 with w1 _
   rw[← w1]at w2;obtain⟨tok,off,es,w3,_⟩:=w2;cases w3
  have he:(e == 0)=false:=by rw[beq_eq_false_iff_ne];exact hbad
  cases h0:((y.2:Int) == 0)with
  |true =>
   simp(disch:=omega)only[go_sem,reduceLT,reduceEqDiff,pI,h0,he,yl27,mS,bA];exact⟨_,_,_,_,rfl,(L4 S _ _).1,(L4 S _ _).2,fun h=>by cases h⟩
  |false =>
   simp(disch:=omega)only[go_sem,reduceLT,reduceEqDiff,pI,el_G,h0,yl27,mS,bA];exact⟨_,_,_,_,rfl,(L4 S _ _).1,(L4 S _ _).2,fun h=>by cases h⟩
attribute [go_sem] el_F el_G pI
end Go.Ax
