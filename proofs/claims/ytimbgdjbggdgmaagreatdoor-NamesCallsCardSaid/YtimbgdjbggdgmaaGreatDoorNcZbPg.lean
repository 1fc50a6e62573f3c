/- ZbPg -/
import Derived.Test.YtimbgdjbggdgmaaGreatDoorNcG13
set_option linter.unusedVariables false
set_option linter.unusedSimpArgs false
set_option maxHeartbeats 16000000
noncomputable section
open Nat (reduceLT reduceEqDiff)
namespace Go.Ax
open Go.RowKit Go.Proofs
set_option maxRecDepth 100000
section
attribute [local go_sem] Bool.false_eq_true List.append_nil List.getElem?_cons_succ List.getElem?_cons_zero List.getElem?_toArray List.nil_append Option.getD_some T.get_leaf T.get_set B1 Ky gY Ir gX Dc Dr Eh Bz Dl Dz Db Ez Sl Ty Ea Cq Fk Ct Ew Fi Ms Ff A6 Bg Bv B3 By Km Jv I1 fa2 D6 G7 fd1 Bm H9 Us fp0 Cm Ge if_false if_true Cx Fq C9 Em Gb Gw D3 Bo ofOpt ofOptS C8 Cc Bu Js Hw Ba Cd M8 Hl row69_4 Mp Er E8 F8 C7 true_and D8 Bc
theorem st30_off{S:St}{id kind pos:Nat}{n:Int}{name:List UInt8}{off:Bool}{kv:AV}(h:S.mem.get id=some (.box (exC kind pos n name off kv)))(o:Bool):Bl Tryz.prog S 4 (.ptr id 4) (.v (.bool o))=some (S.put id (exC kind pos n name o kv)):=by
 have h2:(AV.v (.bool o)).noTup=true:=rfl;have s4:Cl Tryz.prog 4=some 1:=by kernel_rfl
 simp[Bl,h,s4,h2,AV.cells,St.put,exC]
section
variable {p k:Nat} {ts:List Tk} (hts:TokOk ts)
include hts
theorem iT(S0:St):∀(n:Nat) (x:PE) (i:Nat) (t:T AV) (S:St) (b:Nat) (xs0:List AV),Ih ts n x i≠.out →
  t.get 0=some (.ptr p 0)→t.get 2=some (.ptr S0.next 0)→t.get 3=some (.ptr b 0)→Cur S p k ts i→p<S.next→i<ts.length→Has p S S0.next exZ→Has p S b xs0→xs0.length=6→RepE (.agg xs0) x→S0.next≤b→b≠S0.next→C4 p S0 S →
  WX E1 30 (.loop bY) ⟨t,[]⟩ S (LoopEx p k ts S0 2 (Ih ts n x i))
 |0,x,i,t,S,b,xs0,ho,h0,h2,h3,h,hp,hi,hr,hb,hl0,hr0,hle,hne,hx=>absurd rfl ho
 |n+1,x,i,t,S,b,xs0,ho,h0,h2,h3,h,hp,hi,hr,hb,hl0,hr0,hle,hne,hx=>by
  refine Bt (Bp ?_);obtain⟨fn1,hf1⟩:=fX 173;obtain⟨fn2,hf2⟩:=fX 248;obtain⟨fn3,hf3⟩:=fX 242;have eP:Ih ts (n+1) x i=if(tk ts i).text∈[[119,104,101,110]]then(Gg ts (i+1)).bind fun c j=>Ih ts n (.mk 11 (tk ts i).pos 0 c.1 c.2 [x]) j else .ok x i:=rfl
  rw[eP]at ho ⊢;clear eP
  by_cases hm:(tk ts i).text∈[[119,104,101,110]]
  ·rw[if_pos hm]at ho ⊢
   simp only[go_sem,reduceLT,reduceEqDiff,Tryz.f298,hf1,h0,bY];refine WC.mono (J1 h hp hi hts 1 0 [[119,104,101,110]] (by decide) (by decide) hm) ?_
   rintro _ ⟨S1,rfl,x1,c1,hi1,hp1⟩;have y2:=(hx).trans x1;have br_2:=hr.keep x1;have bx_2:=hb.keep x1;obtain⟨S3,q3,x3,c3,bt,hp3⟩:=Dq c1 hp1 (tk ts i);have y4:=(y2).trans x3;have br_4:=br_2.keep x3;have bx_4:=bx_2.keep x3;have l5:=bt.ld68;have l6:=bx_4.ld30 hl0;have l7:=Uj xs0 hl0;simp only[go_sem,reduceLT,reduceEqDiff,Ar,hf2,h2,h3,q3,l5,l6,l7];refine WC.mono (Qi _ 11 (tk ts i) (.sl 1 0 6 [.agg xs0]) (.inr ⟨_,_,_,rfl⟩)) ?_;rintro _ ⟨S8,rfl,k8⟩;have x8:=k8.x p;have c8:=c3.keep hp3 k8;have hp8:p<S8.next:=Ja0 hp3 x8.1;have y9:=(y4).trans x8;have br_9:=br_4.keep x8;have bx_9:=bx_4.keep x8;have st900:=Vt (ys:=exC 11 (tk ts i).pos 0 [] false (.sl 1 0 6 [.agg xs0])) bx_9.get hl0 rfl;obtain⟨px900,pc900,pb900,pr900⟩:=U4 (ys:=exC 11 (tk ts i).pos 0 [] false (.sl 1 0 6 [.agg xs0])) y9 hle bx_9 c8 br_9 hne;simp only[go_sem,reduceLT,reduceEqDiff,hf3,h0,h3,st900];refine WC.mono (clock_p _ _ _ _ _ pc900 hp8 hi1 hts) ?_
   cases hX10:Gg ts (i+1)with
   |out=>exact absurd hX10 (Ep ho)
   |bad a e =>
    rintro _ ⟨S10,rfl,x10⟩;simp only[Ib,Df,Bf];exact⟨_,_,rfl,px900.trans x10⟩
   |ok a10 j10 =>
    rw[hX10]at ho;rw[Bs]at ho ⊢;rintro _ ⟨_,S10,rfl,rfl,x10,c10,hi10⟩;have hp10:p<S10.next:=Ja0 hp8 x10.1;have y11:=(px900).trans x10;have br_11:=pr900.keep x10;have bx_11:=pb900.keep x10;have stn:Bl Tryz.prog S10 9 (.ptr b 3) (A2 a10.1)=some (S10.put b (exC 11 (tk ts i).pos 0 a10.1 false (.sl 1 0 6 [.agg xs0]))):=Ue bx_11.get a10.1;obtain⟨px901,pc901,pb901,pr901⟩:=U4 (ys:=exC 11 (tk ts i).pos 0 a10.1 false (.sl 1 0 6 [.agg xs0])) y11 hle bx_11 c10 br_11 hne;have st902:=st30_off pb901.get a10.2;obtain⟨px902,pc902,pb902,pr902⟩:=U4 (ys:=exC 11 (tk ts i).pos 0 a10.1 a10.2 (.sl 1 0 6 [.agg xs0])) px901 hle pb901 pc901 pr901 hne;simp only[go_sem,reduceLT,reduceEqDiff,h3,fe3,fe4,stn,st902];exact iT S0 n _ _ _ _ b _ ho (by simp[T.get_set,h0]) (by simp[T.get_set,h2]) (by simp[T.get_set,h3]) pc902 hp10 hi10 pr902 pb902 rfl (.mk 11 (tk ts i).pos 0 _ _ _ _ (.row _ _ _ _ (.cons _ _ _ _ hr0 .nil))) hle hne px902
  ·rw[if_neg hm]at ho ⊢
   simp only[go_sem,reduceLT,reduceEqDiff,Tryz.f298,hf1,h0,bY];refine WC.mono (K7 h hp hi hts 1 0 [[119,104,101,110]] (by decide) hm) ?_
   rintro _ ⟨S12,rfl,x12,c12,hi12,hp12⟩;have y13:=(hx).trans x12;have br_13:=hr.keep x12;have bx_13:=hb.keep x12;obtain⟨S14,q14,x14,c14,bt,hp14⟩:=Dq c12 hp12 B5;have y15:=(y13).trans x14;have br_15:=br_13.keep x14;have bx_15:=bx_13.keep x14;have l16:=bx_15.ld30 hl0;obtain⟨g17,h17,gx,gc⟩:=Fh (S0:=S0) c14 br_15 rfl (Ja1 _) y15 (xs:=xs0) hl0;simp only[go_sem,Je,reduceLT,reduceEqDiff,Au,h2,h3,q14,l16,g17];exact⟨_,_,xs0,rfl,by simp[T.get_set,h2],h17,hr0,gx,gc,hi12⟩
variable (n:Nat)
theorem when_p(ihprimary:Con p k ts 299 (P ts n .primary)):Con p k ts 298 (P ts (n+1) .when):=fun S i h hp hi ho=>by
 obtain⟨fn1,hf1⟩:=fX 299;refine WCk Tryz.f298 ?_;have eP:P ts (n+1) .when i=(P ts n .primary i).bind fun x j=>Ih ts n x j:=rfl
 rw[eP]at ho ⊢;clear eP;obtain⟨x1,c1,br,hp1⟩:=Jg h hp;have y2:=x1;have ne3:=Ep ho;simp only[go_sem,reduceLT,reduceEqDiff,Tryz.f298,hf1];refine WC.mono (ihprimary _ _ c1 hp1 hi ne3) ?_
 cases hX4:P ts n .primary i with
 |out=>exact absurd hX4 ne3
 |bad a e =>
  rintro _ ⟨S4,rfl,x4⟩;simp only[A9,Bf,A7];exact⟨_,rfl,y2.trans x4⟩
 |ok a4 j4 =>
  rw[hX4]at ho;rw[Bs]at ho ⊢;rintro _ ⟨v4,S4,rfl,hr4,x4,c4,hi4⟩;obtain⟨xs4,rfl,hl4⟩:=RepE.agg hr4;have hp4:p<S4.next:=Ja0 hp1 x4.1;have y5:=(y2).trans x4;have br_5:=br.keep x4;obtain⟨S6,q6,x6,c6,bx,hp6⟩:=Sj c4 hp4 (xs:=xs4) hl4;have y7:=(y5).trans x6;have br_7:=br_5.keep x6;simp only[go_sem,Iq,reduceLT,reduceEqDiff,q6];have hbr:=br_7.lt;refine WX.mono (iT hts S n a4 j4 _ _ _ xs4 ho (by simp[T.get_set]) (by simp[T.get_set]) (by simp[T.get_set]) c6 hp6 hi4 br_7 bx hl4 hr4 (Jb2 (Jc9 _) x4.1) (by have:=x4.1;have e:(S.newBox exZ).next=S.next+1:=rfl;omega) y7) ?_
  cases hR:Ih ts n a4 j4 with
  |out=>exact absurd hR ho
  |bad a e =>
   rintro _ ⟨t9,S9,rfl,x9⟩;simp only[Df,A7];exact⟨_,rfl,x9⟩
  |ok a j =>
   rintro _ ⟨t9,S9,ys,rfl,g9,l9,r9,x9,c9,i9⟩;simp only[Fk,Ff,Bm,Cm,Ba,D8,g9,l9];exact⟨_,_,rfl,r9,x9,c9,i9⟩
omit hts in
theorem RepF.app:∀{es:List AV} {l:List PE} {a:AV} {e:PE},RepF es l→RepE a e→RepF (es ++ [a]) (l ++ [e]):=fun {es l a e} h h2=>by
 induction es generalizing l with
 |nil=>cases h;exact .cons _ _ _ _ h2 .nil
 |cons x r ih=>cases h with
  |cons _ e2 _ l2 h3 h4=>exact .cons _ _ _ _ h3 (ih h4)
def zZ(lo:Nat)(S:St)(tok:Nat)(es:List AV):Prop:=es≠[]∧(tok=1∨(2≤tok∧lo≤tok∧tok<S.next∧S.mem.get tok=some (.tip (es.length*6))))
omit hts in
theorem zZ.keep{lo p:Nat}{S S':St}{tok:Nat}{es:List AV}(h:zZ lo S tok es)(k:C4 p S S')(hp:p<lo):zZ lo S' tok es:=by
 refine⟨h.1,?_⟩;rcases h.2 with h | ⟨h1,h2,h3,h4⟩
 ·exact .inl h
 ·exact .inr ⟨h1,h2,Ja0 h3 k.1,by rw[k.2 tok h3 (by omega)];exact h4⟩
omit hts in
theorem i30:(Tryz.prog.info? 57).map (fun i=>(i.zero,i.size,i.bytes))=some (some (.agg #[.int .i64 0,.int .i64 0,.int .i64 0,.string ⟨#[]⟩,.bool false,.slice none 0 0]),6,72):=by kernel_rfl
omit hts in
theorem u28:Tryz.prog.underlying 55=some (.slice 57):=by kernel_rfl
omit hts in
theorem app28(S:St)(a b:AV):Ej E1 S 55 55 a b=(match Jh Tryz.prog S 55 55 false a b with |some r=>some r |none=>Ds Tryz.prog S 55 55 a b):=rfl
omit hts in
theorem rowE_push{lo:Nat}{S:St}{tok:Nat}{es:List AV}(h:zZ lo S tok es)(hn:2≤S.next)(hlo:lo≤S.next)(xs:List AV)(hx:xs.length=6)(hl:es.length≤2000000):
  ∃S',Ej E1 S 55 55 (.sl tok 0 6 es) (.sl 1 0 6 [.agg xs])=some (.sl S.next 0 6 (es ++ [.agg xs]),S')∧zZ lo S' S.next (es ++ [.agg xs])∧S.next≤S'.next∧∀id,id<lo→S'.mem.get id=S.mem.get id:=by
 obtain⟨i,hi,hz0,hz1,hz2⟩:=G1 i30;have hb1:(es.length+1)*72≤140737488355328:=by omega
 have hb2:es.length+1≤9223372036854775807:=by omega
 have hM:Jh Tryz.prog S 55 55 false (.sl tok 0 6 es) (.sl 1 0 6 [.agg xs])=none:=by
  cases es with
  |nil=>exact absurd rfl h.1
  |cons e r=>simp[Jh,e28,hi,hz0,hz1,hz2,K9,u28,Value.cells]
 rw[app28,hM];rcases h.2 with rfl | ⟨h1,h2,h3,h5⟩
 ·refine⟨S.grown 1 ((es ++ [AV.agg xs]).length*6),?_,⟨by simp,.inr ⟨hn,hlo,Ja5 _,?_⟩⟩,Jc9 _,fun id hid=>?_⟩
  ·simp[Ds,e28,hi,hz0,hz1,hz2,K9,u28,Value.cells,Le,hb1,hb2]
  ·show(S.mem.set S.next _).get S.next=_
   rw[T.get_set,if_pos rfl]
  ·show(S.mem.set S.next _).get id=_
   rw[T.get_set,if_neg (by omega)]
 ·obtain⟨k,rfl⟩:∃k,tok=k+2:=⟨tok - 2,by omega⟩
  refine⟨S.grown (k+2) ((es ++ [AV.agg xs]).length*6),?_,⟨by simp,.inr ⟨hn,hlo,Ja5 _,?_⟩⟩,Jc9 _,fun id hid=>?_⟩
  ·simp[Ds,e28,hi,hz0,hz1,hz2,K9,u28,Value.cells,Le,h5,hb1,hb2]
  ·show((S.mem.set (k+2) none).set S.next _).get S.next=_
   rw[T.get_set,if_pos rfl]
  ·show((S.mem.set (k+2) none).set S.next _).get id=_
   rw[T.get_set,if_neg (by omega),T.get_set,if_neg (by omega)]
def dE:Code:=match Tryz.f266.body with
 |some (.seq _ (.seq _ (.seq (.block _ (.loop c)) _)))=>c
 |_=>.skip
def LoopRow(p k:Nat)(ts:List Tk)(S0:St)(m:Nat)(x:PR (List PE))(r:O):Prop :=
 (∃t' S' tok es l i',r=.out (.exit 0) ⟨t',[]⟩ S'∧t'.get 0=some (.ptr p 0)∧t'.get 5=some (.sl tok 0 6 es)∧RepF es l∧C4 p S0 S'∧Cur S' p k ts i'∧i'<ts.length∧p<S'.next∧x=(B2 ts [[41]] i').bind fun _ j=>.ok l j) ∨
 (∃t' S' a e,r=.out (.pan (Xj a e)) ⟨t',[]⟩ S'∧C4 p S0 S'∧x=.bad a e)
omit n
theorem jR(h2p:2≤p)(m:Nat)(kid:Nat→PR PE)(hF:∃fn,E1.F m=some fn)(hkid:Con p k ts m kid)(S0:St)(hp0:p<S0.next):∀(n:Nat) (l:List PE) (i:Nat) (t:T AV) (S:St) (tok:Nat) (es:List AV),F9 ts kid n l i≠.out→n+es.length≤2000000 →
  t.get 0=some (.ptr p 0)→t.get 1=some (Mr m p)→t.get 5=some (.sl tok 0 6 es)→Cur S p k ts i→p<S.next→i<ts.length→zZ S0.next S tok es→RepF es l→C4 p S0 S →
  WX E1 32 (.loop dE) ⟨t,[]⟩ S (LoopRow p k ts S0 m (F9 ts kid n l i))
 |0,l,i,t,S,tok,es,ho,hnl,h0,h1,h5,h,hp,hi,hr,hf,hx=>absurd rfl ho
 |n+1,l,i,t,S,tok,es,ho,hnl,h0,h1,h5,h,hp,hi,hr,hf,hx=>by
  refine Bt (Bp ?_);obtain⟨fn1,hf1⟩:=fX 173;obtain⟨fn2,hf2⟩:=hF;unfold Mr at h1;have eP:F9 ts kid (n+1) l i=if(tk ts i).text∈[[44]]then(kid (i+1)).bind fun y j=>F9 ts kid n (l ++ [y]) j else(B2 ts [[41]] i).bind fun _ j=>.ok l j:=rfl
  rw[eP]at ho ⊢;clear eP
  by_cases hm:(tk ts i).text∈[[44]]
  ·rw[if_pos hm]at ho ⊢
   simp only[go_sem,reduceLT,reduceEqDiff,Tryz.f266,hf1,h0,dE];refine WC.mono (J1 h hp hi hts 1 0 [[44]] (by decide) (by decide) hm) ?_
   rintro _ ⟨S1,rfl,x1,c1,hi1,hp1⟩;have y2:=(hx).trans x1;obtain⟨S3,q3,x3,c3,bt,hp3⟩:=Dq c1 hp1 (tk ts i);have y4:=(y2).trans x3;simp only[go_sem,De,Hj,reduceLT,reduceEqDiff,Ar,hf2,h1,h5,q3];have ne5:=Ep ho;refine WC.mono (hkid _ _ c3 hp3 hi1 ne5) ?_
   cases hX6:kid (i+1)with
   |out=>exact absurd hX6 ne5
   |bad a e =>
    rintro _ ⟨S6,rfl,x6⟩;simp only[Ib,Df,Bf];exact .inr ⟨_,_,_,_,rfl,y4.trans x6,rfl⟩
   |ok a6 j6 =>
    rw[hX6]at ho;rw[Bs]at ho ⊢;rintro _ ⟨v6,S6,rfl,hr6,x6,c6,hi6⟩;obtain⟨xs6,rfl,hl6⟩:=RepE.agg hr6;have hp6:p<S6.next:=Ja0 hp3 x6.1;have y7:=(y4).trans x6;have l8:=Uj xs6 hl6
    have hr2:zZ S0.next S6 tok es:=by
     have e:C4 p S S6:=((x1).trans x3).trans x6;exact hr.keep e hp0
    have hle:=y7.1;obtain⟨S9,a9,r9,n9,k9⟩:=rowE_push hr2 (by omega) hle xs6 hl6 (by omega)
    have z9:C4 p S0 S9:=⟨Jb2 hle n9,fun id hid hn=>(k9 id hid).trans (y7.2 id hid hn)⟩
    have cc9:Cur S9 p k ts j6:=(k9 p hp0).trans c6;simp only[C7,Cq,Ky,B1,By,Bu,Cd,Bc,Bg,A6,A0,Ct,ofOpt,ofOptS,Ff,C8,reduceLT,reduceEqDiff,Aa,Ab,Ac,l8,a9];exact jR h2p m kid ⟨_,hf2⟩ hkid S0 hp0 n _ _ _ _ _ _ ho (by rw[Ja3];simp;omega) (by simp[T.get_set,h0]) (by simp[T.get_set,h1,Mr]) (by simp[T.get_set]) cc9 (by omega) hi6 r9 (hf.app hr6) z9
  ·rw[if_neg hm]at ho ⊢
   simp only[go_sem,reduceLT,reduceEqDiff,Tryz.f266,hf1,h0,dE];refine WC.mono (K7 h hp hi hts 1 0 [[44]] (by decide) hm) ?_
   rintro _ ⟨S10,rfl,x10,c10,hi10,hp10⟩;have y11:=(hx).trans x10;obtain⟨S12,q12,x12,c12,bt,hp12⟩:=Dq c10 hp10 B5;have y13:=(y11).trans x12;simp only[go_sem,De,Hj,reduceLT,reduceEqDiff,Au,hf2,h1,h5,q12];exact .inl ⟨_,_,tok,es,l,i,rfl,by simp[T.get_set,h0],by simp[T.get_set,h5],hf,y13,c12,hi10,hp12,rfl⟩
theorem rest_p(h2p:2≤p)(m:Nat)(kid:Nat→PR PE)(hF:∃fn,E1.F m=some fn)(hkid:Con p k ts m kid)(n:Nat)(hn:n≤1000000)(S:St)(i:Nat)(h:Cur S p k ts i)(hp:p<S.next)(hi:i<ts.length)(ho:((kid i).bind fun x j=>F9 ts kid n [x] j)≠.out):WC E1 266 [.ptr p 0,Mr m p] S (Ot p k ts S RepK ((kid i).bind fun x j=>F9 ts kid n [x] j)):=by
 refine WCk Tryz.f266 ?_;obtain⟨fn2,hf2⟩:=hF;obtain⟨fn3,hf3⟩:=fX 169;have ne1:=Ep ho;simp only[go_sem,reduceLT,Nat.reduceAdd,reduceEqDiff,Tryz.f266,hf2,Mr];refine WC.mono (hkid _ _ h hp hi ne1) ?_
 cases hX2:kid i with
 |out=>exact absurd hX2 ne1
 |bad a e =>
  rintro _ ⟨S2,rfl,x2⟩;simp only[A9,Bf,A7];exact⟨_,rfl,x2⟩
 |ok a2 j2 =>
  rw[hX2]at ho;rw[Bs]at ho ⊢;rintro _ ⟨v2,S2,rfl,hr2,x2,c2,hi2⟩;obtain⟨xs2,rfl,hl2⟩:=RepE.agg hr2;have hp2:p<S2.next:=Ja0 hp x2.1;have y3:=x2;have l4:=Uj xs2 hl2;simp only[go_sem,Iq,reduceLT,reduceEqDiff,l4];refine WX.mono (jR hts h2p m kid ⟨_,hf2⟩ hkid S hp n [a2] j2 _ _ 1 [.agg xs2] ho (by simp;omega) (by simp[T.get_set]) (by simp[T.get_set,Mr]) (by simp[T.get_set]) c2 hp2 hi2 ⟨by simp,.inl rfl⟩ (.cons _ _ _ _ hr2 .nil) y3) ?_
  rintro _ (⟨t9,S9,tok9,es9,l9,i9,rfl,g0,g5,rf9,x9,c9,hi9,hp9,e9⟩ | ⟨t9,S9,a9,e9,rfl,x9,q9⟩)
  ·rw[e9]
   simp only[go_sem,reduceLT,reduceEqDiff,hf3,g0];refine WC.mono (Hq c9 hp9 hi9 hts 1 0 [[41]] (by decide) (by decide)) ?_
   cases hX5:B2 ts [[41]] i9 with
   |out=>exact absurd hX5 (Fa _ _ _)
   |bad a e =>
    rintro _ ⟨S5,rfl,x5⟩;simp only[A9,Bf,A7];exact⟨_,rfl,x9.trans x5⟩
   |ok a5 j5 =>
    rintro _ ⟨_,S5,rfl,rfl,x5,c5,hi5⟩;have hp5:p<S5.next:=Ja0 hp9 x5.1;have y6:=(x9).trans x5;simp only[go_sem,reduceLT,reduceEqDiff,g5];exact⟨_,_,rfl,.row _ _ _ _ rf9,y6,c5,hi5⟩
  ·rw[q9]
   simp only[A9,Df,A7];exact⟨_,rfl,x9⟩
theorem listed_p(h2p:2≤p)(m:Nat)(kid:Nat→PR PE)(hF:∃fn,E1.F m=some fn)(hkid:Con p k ts m kid)(n:Nat)(hn:n≤1000000)(S:St)(i:Nat)(h:Cur S p k ts i)(hp:p<S.next)(hi:i<ts.length)(ho:I4 ts kid n i≠.out):WC E1 246 [.ptr p 0,Mr m p] S (Ot p k ts S RepK (I4 ts kid n i)):=by
 have eP:I4 ts kid n i=(B2 ts [[40]] i).bind fun _ j=>if(tk ts j).text∈[[41]]then .ok [] (j+1)else(kid j).bind fun x m=>F9 ts kid n [x] m:=rfl
 rw[eP]at ho ⊢;clear eP;refine WCk Tryz.f246 ?_;obtain⟨fn1,hf1⟩:=fX 173;obtain⟨fn2,hf2⟩:=fX 169;obtain⟨fn3,hf3⟩:=fX 266;simp only[go_sem,reduceLT,Nat.reduceAdd,reduceEqDiff,Tryz.f246,hf2];refine WC.mono (Hq h hp hi hts 1 0 [[40]] (by decide) (by decide)) ?_
 cases hX1:B2 ts [[40]] i with
 |out=>exact absurd hX1 (Fa _ _ _)
 |bad a e =>
  rintro _ ⟨S1,rfl,x1⟩;simp only[A9,Bf,A7];exact⟨_,rfl,x1⟩
 |ok a1 j1 =>
  rw[hX1]at ho;rw[Bs]at ho ⊢;rintro _ ⟨_,S1,rfl,rfl,x1,c1,hi1⟩;have hp1:p<S1.next:=Ja0 hp x1.1;have y2:=x1
  by_cases hm:(tk ts j1).text∈[[41]]
  ·rw[if_pos hm]at ho ⊢
   simp only[go_sem,reduceLT,reduceEqDiff,hf1];refine WC.mono (J1 c1 hp1 hi1 hts 1 0 [[41]] (by decide) (by decide) hm) ?_
   rintro _ ⟨S3,rfl,x3,c3,hi3,hp3⟩;have y4:=(y2).trans x3;obtain⟨S5,q5,x5,c5,bt,hp5⟩:=Dq c3 hp3 (tk ts j1);have y6:=(y4).trans x5;simp only[go_sem,reduceLT,reduceEqDiff,hf3,q5];exact⟨_,_,rfl,.nil,y6,c5,hi3⟩
  ·rw[if_neg hm]at ho ⊢
   simp only[go_sem,reduceLT,reduceEqDiff,hf1];refine WC.mono (K7 c1 hp1 hi1 hts 1 0 [[41]] (by decide) hm) ?_
   rintro _ ⟨S7,rfl,x7,c7,hi7,hp7⟩;have y8:=(y2).trans x7;obtain⟨S9,q9,x9,c9,bt,hp9⟩:=Dq c7 hp7 B5;have y10:=(y8).trans x9;simp only[go_sem,reduceLT,reduceEqDiff,hf3,q9];refine WC.mono (rest_p hts h2p m kid hF hkid n hn _ _ c9 hp9 hi7 ho) ?_
   cases hX11:(kid j1).bind fun x m=>F9 ts kid n [x] m with
   |out=>exact absurd hX11 ho
   |bad a e =>
    rintro _ ⟨S11,rfl,x11⟩;simp only[A9,Bf,A7];exact⟨_,rfl,y10.trans x11⟩
   |ok a j =>
    rintro _ ⟨v,S11,rfl,hv,x11,c11,hi11⟩;simp only[go_sem,reduceLT,reduceEqDiff];exact⟨_,_,rfl,hv,y10.trans x11,c11,hi11⟩
variable (n:Nat)
theorem lit_p:Con p k ts 305 (P ts (n+1) .lit):=fun S i h hp hi ho=>by
 obtain⟨fn1,hf1⟩:=fX 173;obtain⟨fn2,hf2⟩:=fX 301;obtain⟨fn3,hf3⟩:=fX 297;refine WCk Tryz.f305 ?_;have eP:P ts (n+1) .lit i=if(tk ts i).text∈[[116,114,117,101],[102,97,108,115,101]]then .ok (G4 (tk ts i)) (i+1)else I7 ts i:=rfl
 rw[eP]at ho ⊢;clear eP;obtain⟨x1,c1,br,hp1⟩:=Jg h hp;have y2:=x1
 by_cases hm:(tk ts i).text∈[[116,114,117,101],[102,97,108,115,101]]
 ·rw[if_pos hm]at ho ⊢
  simp only[go_sem,reduceLT,reduceEqDiff,Tryz.f305,Ui,hf1];refine WC.mono (J1 c1 hp1 hi hts 1 0 [[116,114,117,101],[102,97,108,115,101]] (by decide) (by decide) hm) ?_
  rintro _ ⟨S3,rfl,x3,c3,hi3,hp3⟩;have y4:=(y2).trans x3;have br_4:=br.keep x3;obtain⟨S5,q5,x5,c5,bt,hp5⟩:=Dq c3 hp3 (tk ts i);have y6:=(y4).trans x5;have br_6:=br_4.keep x5;have l7:=bt.ld68;simp only[go_sem,reduceLT,reduceEqDiff,hf2,hf3,q5,l7];refine WC.mono (nA _ p k ts _ c5 hp5 (tk ts i)) ?_;rintro _ ⟨S8,rfl,x8,c8,hp8⟩;have y9:=(y6).trans x8;have br_9:=br_6.keep x8;obtain⟨g10,h10,gx,gc⟩:=Fh (S0:=S) c8 br_9 rfl (Ja1 _) y9 (xs:=(exC 2 (tk ts i).pos (if(tk ts i).text=[116,114,117,101]then 1 else 0) [] false .nils)) rfl
  simp only[go_sem,reduceLT,reduceEqDiff,g10,h10];exact⟨_,_,rfl,Ye (tk ts i),gx,gc,hi3⟩
 ·rw[if_neg hm]at ho ⊢
  simp only[go_sem,reduceLT,reduceEqDiff,Tryz.f305,Ui,hf1];refine WC.mono (K7 c1 hp1 hi hts 1 0 [[116,114,117,101],[102,97,108,115,101]] (by decide) hm) ?_
  rintro _ ⟨S11,rfl,x11,c11,hi11,hp11⟩;have y12:=(y2).trans x11;have br_12:=br.keep x11;obtain⟨S13,q13,x13,c13,bt,hp13⟩:=Dq c11 hp11 B5;have y14:=(y12).trans x13;have br_14:=br_12.keep x13;simp only[go_sem,reduceLT,reduceEqDiff,hf3,q13];refine WC.mono (eA hts _ _ c13 hp13 hi11 ho) ?_
  cases hX15:I7 ts i with
  |out=>exact absurd hX15 ho
  |bad a e =>
   rintro _ ⟨S15,rfl,x15⟩;simp only[A9,Bf,A7];exact⟨_,rfl,y14.trans x15⟩
  |ok a15 j15 =>
   rintro _ ⟨v15,S15,rfl,hr15,x15,c15,hi15⟩;obtain⟨xs15,rfl,hl15⟩:=RepE.agg hr15;have hp15:p<S15.next:=Ja0 hp13 x15.1;have y16:=(y14).trans x15;have br_16:=br_14.keep x15;obtain⟨g17,h17,gx,gc⟩:=Fh (S0:=S) c15 br_16 rfl (Ja1 _) y16 (xs:=xs15) hl15;simp only[go_sem,reduceLT,reduceEqDiff,g17,h17];exact⟨_,_,rfl,hr15,gx,gc,hi15⟩
omit hts in
theorem b30v(a:Nat)(s:List UInt8):Du Tryz.prog 57 [(0,.v (.int .i64 3)),(1,.v (.int .i64 (a:Int))),(3,.v (.string ⟨⟨s⟩⟩))]=some (.agg (exC 3 a 0 s false .nils)):=rfl
omit hts in
theorem b30c(a:Nat)(s:List UInt8)(kv:AV)(h:iB kv):Du Tryz.prog 57 [(0,.v (.int .i64 13)),(1,.v (.int .i64 (a:Int))),(3,.v (.string ⟨⟨s⟩⟩)),(5,kv)]=some (.agg (exC 13 a 0 s false kv)):=by
 rcases h with rfl | ⟨tok,off,es,rfl⟩ <;> rfl
omit hts in
theorem b30a(a:Nat)(s:List UInt8):Du Tryz.prog 57 [(0,.v (.int .i64 14)),(1,.v (.int .i64 (a:Int))),(3,A2 s)]=some (.agg (exC 14 a 0 s false .nils)):=rfl
omit hts in
theorem Oc(s:ByteArray):D1 (.v (.string s)) (.v (.string s))=true:=by simp[D1,eqS,Jx]
omit hts in
theorem gO(n:Int):D1 (.v (.int .i64 n)) (.v (.int .i64 n))=true:=by simp[D1,eqS]
theorem name_p(ihcall:Con p k ts 219 (P ts n .call)):∀S i,Cur S p k ts i→p<S.next→i<ts.length→(tk ts i).kind=1→P ts (n+1) .name i≠.out→WC E1 300 [.ptr p 0] S (Ot p k ts S RepE (P ts (n+1) .name i)):=fun S i h hp hi hk1 ho=>by
 obtain⟨fn1,hf1⟩:=fX 219;obtain⟨fn2,hf2⟩:=fX 170;refine WCk Tryz.f300 ?_;have hk1':=hk1;rw[Gy hi]at hk1';have hi1:i+1<ts.length:=hts.more i hi (by omega)
 have w1:IntKind.i64.wrap ((i:Int)+1)=((i+1:Nat):Int):=I2 (j:=1) (by have:=hts.size;omega)
 have q1:=idx63 k ts (i+1) hi1;rw[← Gy hi1]at q1;have eP:P ts (n+1) .name i=if(tk ts (i+1)).text=[40]then P ts n .call i else(Eu ts 1 i).bind fun t j=>.ok (.mk 3 t.pos 0 t.text false []) j:=rfl
 rw[eP]at ho ⊢;clear eP;obtain⟨x1,c1,br,hp1⟩:=Jg h hp;have y2:=x1;have d0:=c1.ld0;have d1:=c1.ld1;unfold Bk at d1;simp only[go_sem,reduceLT,Tryz.f300];refine Dd [(0,true),(1,true),(2,true),(3,true),(4,true),(5,true),(6,true),(7,true),(8,true),(9,true),(10,true),(11,true),(12,true),(13,true),(14,true)] (by kernel_rfl) (by kernel_rfl) ?_
 simp only[go_sem,Ja,reduceLT,reduceEqDiff,hf1,hf2,fc0,fc1,d0,d1,w1,q1,fep2,lep2]
 by_cases hm:(tk ts (i+1)).text=[40]
 ·rw[if_pos hm]at ho ⊢
  rw[decide_eq_true hm];simp only[Fi];refine WC.mono (ihcall _ _ c1 hp1 hi ho) ?_
  cases hX3:P ts n .call i with
  |out=>exact absurd hX3 ho
  |bad a e =>
   rintro _ ⟨S3,rfl,x3⟩;simp only[A9,Bf,A7];exact⟨_,rfl,y2.trans x3⟩
  |ok a3 j3 =>
   rintro _ ⟨v3,S3,rfl,hr3,x3,c3,hi3⟩;obtain⟨xs3,rfl,hl3⟩:=RepE.agg hr3;have hp3:p<S3.next:=Ja0 hp1 x3.1;have y4:=(y2).trans x3;have br_4:=br.keep x3;obtain⟨g5,h5,gx,gc⟩:=Fh (S0:=S) c3 br_4 rfl (Ja1 _) y4 (xs:=xs3) hl3;simp only[go_sem,reduceLT,reduceEqDiff,g5,h5];exact⟨_,_,rfl,hr3,gx,gc,hi3⟩
 ·rw[if_neg hm]at ho ⊢
  rw[decide_eq_false hm];simp only[Ew];refine WC.mono (R3 c1 hp1 hi hts 1 (by decide)) ?_
  cases hX6:Eu ts 1 i with
  |out=>exact absurd hX6 (K4 _ _ _)
  |bad a e =>
   rintro _ ⟨S6,rfl,x6⟩;simp only[A9,Bf,A7];exact⟨_,rfl,y2.trans x6⟩
  |ok a6 j6 =>
   rw[hX6]at ho;rw[Bs]at ho ⊢;rintro _ ⟨_,S6,rfl,rfl,x6,c6,hi6⟩;have hp6:p<S6.next:=Ja0 hp1 x6.1;have y7:=(y2).trans x6;have br_7:=br.keep x6;obtain⟨S8,q8,x8,c8,bt,hp8⟩:=Dq c6 hp6 a6;have y9:=(y7).trans x8;have br_9:=br_7.keep x8;have lp:=bt.pos;have lt:=bt.text;simp only[go_sem,reduceLT,reduceEqDiff,q8,lp,lt,b30v];obtain⟨g10,h10,gx,gc⟩:=Fh (S0:=S) c8 br_9 rfl (Ja1 _) y9 (xs:=(exC 3 a6.pos 0 a6.text false .nils)) rfl;simp only[Dl,E8,Ky,B3,Cc,A0,A1,Ff,Bm,Cm,Ba,D8,reduceEqDiff,Aa,Ab,g10,h10];exact⟨_,_,rfl,(.mk 3 a6.pos 0 a6.text false _ _ .nil),gx,gc,hi6⟩
theorem call_p(h2p:2≤p)(hn:n≤1000000)(ihexpr:Con p k ts 220 (P ts n .expr)):Con p k ts 219 (P ts (n+1) .call):=fun S i h hp hi ho=>by
 obtain⟨fn1,hf1⟩:=fX 170;obtain⟨fn2,hf2⟩:=fX 246;refine WCk Tryz.f219 ?_;have eP:P ts (n+1) .call i=(Eu ts 1 i).bind fun t j=>(I4 ts (P ts n .expr) n j).bind fun l m=>.ok (.mk 13 t.pos 0 t.text false l) m:=rfl
 rw[eP]at ho ⊢;clear eP;obtain⟨x1,c1,br,hp1⟩:=Jg h hp;have y2:=x1;simp only[go_sem,reduceLT,reduceEqDiff,Tryz.f219,hf1];refine WC.mono (R3 c1 hp1 hi hts 1 (by decide)) ?_
 cases hX3:Eu ts 1 i with
 |out=>exact absurd hX3 (K4 _ _ _)
 |bad a e =>
  rintro _ ⟨S3,rfl,x3⟩;simp only[A9,Bf,A7];exact⟨_,rfl,y2.trans x3⟩
 |ok a3 j3 =>
  rw[hX3]at ho;rw[Bs]at ho ⊢;rintro _ ⟨_,S3,rfl,rfl,x3,c3,hi3⟩;have hp3:p<S3.next:=Ja0 hp1 x3.1;have y4:=(y2).trans x3;have br_4:=br.keep x3;obtain⟨S5,q5,x5,c5,bt,hp5⟩:=Dq c3 hp3 a3;have y6:=(y4).trans x5;have br_6:=br_4.keep x5;have lp:=bt.pos;have lt:=bt.text;simp only[go_sem,reduceLT,reduceEqDiff,q5];refine Dd [(0,true),(1,true),(2,true),(3,true),(4,true),(5,true),(6,true),(7,true),(3,false),(1,false),(8,true),(9,true)] (by kernel_rfl) (by kernel_rfl) ?_
  simp only[go_sem,reduceLT,reduceEqDiff,hf2,lp,lt];have nel:=Ep ho;refine WC.mono (listed_p hts h2p 220 _ (fX 220) ihexpr n hn _ _ c5 hp5 hi3 nel) ?_
  cases hX7:I4 ts (P ts n .expr) n j3 with
  |out=>exact absurd hX7 nel
  |bad a e =>
   rintro _ ⟨S7,rfl,x7⟩;simp only[A9,A7,Ht,I5];exact⟨_,rfl,y6.trans x7⟩
  |ok a7 j7 =>
   rw[Bs];rintro _ ⟨v,S7,rfl,hv,x7,c7,hi7⟩;have hp7:p<S7.next:=Ja0 hp5 x7.1;have y8:=(y6).trans x7;have br_8:=br_6.keep x7;have bt_8:=bt.keep x7;have lp2:=bt_8.pos;have lt2:=bt_8.text;simp only[go_sem,reduceLT,reduceEqDiff,lp2,lt2,Oc,gO,b30c _ _ v hv.kids];obtain⟨g9,h9,gx,gc⟩:=Fh (S0:=S) c7 br_8 rfl (Ja1 _) y8 (xs:=(exC 13 a3.pos 0 a3.text false v)) rfl;simp only[Dl,E8,A0,A1,Ff,Bm,Cm,Ba,D8,reduceEqDiff,Aa,Ab,gY,Jv,Js,H9,g9,h9];exact⟨_,_,rfl,(.mk 13 a3.pos 0 a3.text false _ _ hv),gx,gc,hi7⟩
omit hts n in
theorem st30_kids{S:St}{id kind pos:Nat}{n:Int}{name:List UInt8}{off:Bool}{kv:AV}(h:S.mem.get id=some (.box (exC kind pos n name off kv)))(kw:AV)(hk:iB kw):Bl Tryz.prog S 55 (.ptr id 5) kw=some (S.put id (exC kind pos n name off kw)):=by
 have h2:kw.noTup=true:=by rcases hk with rfl | ⟨t,o,es,rfl⟩ <;> rfl
 have h3:kw.cells=[kw]:=by rcases hk with rfl | ⟨t,o,es,rfl⟩ <;> rfl
 have s28:Cl Tryz.prog 55=some 1:=by kernel_rfl
 simp[Bl,h,s28,h2,h3,St.put,exC]
def eK(ts:List Tk)(n:Nat)(t:Tk)(i:Nat):PR PE:=(Eu ts 1 i).bind fun u j=>(P ts n .brk j).bind fun x j=>(P ts n .brk j).bind fun y j=>.ok (.mk 12 t.pos 0 u.text false [x,y]) j
def gS(ts:List Tk)(n:Nat)(t:Tk)(i:Nat):PR PE:=(Eu ts 1 i).bind fun u j=>if(tk ts j).text∈[[97,102,116,101,114]]then(B2 ts [[40]] (j+1)).bind fun _ j=>(P ts n .lit j).bind fun x m=>(F9 ts (P ts n .lit) n [x] m).bind fun l m=>.ok (.mk 14 t.pos 0 u.text false l) m else .ok (.mk 14 t.pos 0 u.text false []) j
theorem merge_p(ihbrk:Con p k ts 304 (P ts n .brk))(S:St)(i:Nat)(h:Cur S p k ts i)(hp:p<S.next)(hi:i<ts.length)(t:Tk)(ho:eK ts n t i≠.out):WC E1 302 [.ptr p 0,C6 t] S (Ot p k ts S RepE (eK ts n t i)):=by
 have eP:eK ts n t i=(Eu ts 1 i).bind fun u j=>(P ts n .brk j).bind fun x j=>(P ts n .brk j).bind fun y j=>.ok (.mk 12 t.pos 0 u.text false [x,y]) j:=rfl
 rw[eP]at ho ⊢;clear eP;obtain⟨fn1,hf1⟩:=fX 170;obtain⟨fn2,hf2⟩:=fX 304;obtain⟨fn3,hf3⟩:=fX 248;refine WCk Tryz.f302 ?_;obtain⟨x1,c1,bt,hp1⟩:=boxIn h hp t;have y2:=x1;obtain⟨x3,c3,br,hp3⟩:=Jg c1 hp1;have y4:=(y2).trans x3;have bt_4:=bt.keep x3;simp only[go_sem,reduceLT,Nat.reduceAdd,reduceEqDiff,Tryz.f302,Qo,Qp,hf1];refine WC.mono (R3 c3 hp3 hi hts 1 (by decide)) ?_
 cases hX5:Eu ts 1 i with
 |out=>exact absurd hX5 (K4 _ _ _)
 |bad a e =>
  rintro _ ⟨S5,rfl,x5⟩;simp only[A9,Bf,A7];exact⟨_,rfl,y4.trans x5⟩
 |ok a5 j5 =>
  rw[hX5]at ho;rw[Bs]at ho ⊢;rintro _ ⟨_,S5,rfl,rfl,x5,c5,hi5⟩;have hp5:p<S5.next:=Ja0 hp3 x5.1;have y6:=(y4).trans x5;have bt_6:=bt_4.keep x5;have br_6:=br.keep x5;obtain⟨S7,q7,x7,c7,bu,hp7⟩:=Dq c5 hp5 a5;have y8:=(y6).trans x7;have bt_8:=bt_6.keep x7;have br_8:=br_6.keep x7;have ne9:=Ep ho;simp only[go_sem,reduceLT,reduceEqDiff,hf2,q7];refine WC.mono (ihbrk _ _ c7 hp7 hi5 ne9) ?_
  cases hX10:P ts n .brk j5 with
  |out=>exact absurd hX10 ne9
  |bad a e =>
   rintro _ ⟨S10,rfl,x10⟩;simp only[A9,Bf,A7];exact⟨_,rfl,y8.trans x10⟩
  |ok a10 j10 =>
   rw[hX10]at ho;rw[Bs]at ho ⊢;rintro _ ⟨v10,S10,rfl,hr10,x10,c10,hi10⟩;obtain⟨xs10,rfl,hl10⟩:=RepE.agg hr10;have rf10:=RepE.refl hr10;have hp10:p<S10.next:=Ja0 hp7 x10.1;have y11:=(y8).trans x10;have bt_11:=bt_8.keep x10;have br_11:=br_8.keep x10;have bu_11:=bu.keep x10;obtain⟨S12,q12,x12,c12,bx,hp12⟩:=Sj c10 hp10 (xs:=xs10) hl10;have y13:=(y11).trans x12;have bt_13:=bt_11.keep x12;have br_13:=br_11.keep x12;have bu_13:=bu_11.keep x12;have l14:=bt_13.ld68;have l15:=bx.ld30 hl10;simp only[go_sem,reduceLT,reduceEqDiff,q12];refine WD_byFl (x:=⟨6,7,[0,1,2,3,4,5],[7]⟩) [(0,true),(1,true),(2,true),(3,true),(1,false),(0,false),(4,true),(5,true),(6,true),(7,true)] (by kernel_rfl) (by kernel_rfl) (by decide) ?_
   have ne16:=Ep ho;simp only[go_sem,reduceLT,reduceEqDiff,hf2,l14,l15];refine WC.mono (ihbrk _ _ c12 hp12 hi10 ne16) ?_
   cases hX17:P ts n .brk j10 with
   |out=>exact absurd hX17 ne16
   |bad a e =>
    rintro _ ⟨S17,rfl,x17⟩;simp only[A9,A7,Ht,I5];exact⟨_,rfl,y13.trans x17⟩
   |ok a17 j17 =>
    rw[hX17]at ho;rw[Bs]at ho ⊢;rintro _ ⟨v17,S17,rfl,hr17,x17,c17,hi17⟩;obtain⟨xs17,rfl,hl17⟩:=RepE.agg hr17;have hp17:p<S17.next:=Ja0 hp12 x17.1;have y18:=(y13).trans x17;have bt_18:=bt_13.keep x17;have br_18:=br_13.keep x17;have bu_18:=bu_13.keep x17;have bx_18:=bx.keep x17;have l19:=bt_18.ld68;have l20:=bx_18.ld30 hl10;have l21:=aU xs10 xs17 hl10 hl17;simp only[go_sem,reduceLT,reduceEqDiff,Tw,hf3,rf10,l19,l20,l21];refine WC.mono (Qi _ 12 t (.sl 1 0 6 [.agg xs10,.agg xs17]) (.inr ⟨_,_,_,rfl⟩)) ?_;rintro _ ⟨S22,rfl,k22⟩;have x22:=k22.x p;have c22:=c17.keep hp17 k22;have hp22:p<S22.next:=Ja0 hp17 x22.1;have y23:=(y18).trans x22;have br_23:=br_18.keep x22;have bu_23:=bu_18.keep x22;obtain⟨S24,q24,x24,c24,be,hp24⟩:=Sj c22 hp22 (xs:=exC 12 t.pos 0 [] false (.sl 1 0 6 [.agg xs10,.agg xs17])) rfl;have y25:=(y23).trans x24;have br_25:=br_23.keep x24;have bu_25:=bu_23.keep x24;have bu2:=bu_25.text;simp only[go_sem,reduceLT,reduceEqDiff,q24,bu2,fe3];have st26:=Ue be.get a5.text;have hne26:S22.next≠(S.newBox (Cb t)).next:=by have:=br_23.lt;omega
    obtain⟨px26,pc26,pb26,pr26⟩:=U4 (ys:=exC 12 t.pos 0 a5.text false (.sl 1 0 6 [.agg xs10,.agg xs17])) y25 y23.1 be c24 br_25 hne26;have le2:=pb26.ld30 rfl;obtain⟨g27,h27,gx,gc⟩:=Fh (S0:=S) pc26 pr26 rfl x1.1 px26 (xs:=(exC 12 t.pos 0 a5.text false (.sl 1 0 6 [.agg xs10,.agg xs17]))) rfl;simp only[go_sem,reduceLT,reduceEqDiff,st26,le2,g27,h27];exact⟨_,_,rfl,(.mk 12 t.pos 0 a5.text false _ _ (.row _ _ _ _ (.cons _ _ _ _ hr10 (.cons _ _ _ _ hr17 .nil)))),gx,gc,hi17⟩
theorem await_p(h2p:2≤p)(hn:n≤1000000)(ihlit:Con p k ts 305 (P ts n .lit))(S:St)(i:Nat)(h:Cur S p k ts i)(hp:p<S.next)(hi:i<ts.length)(t:Tk)(ho:gS ts n t i≠.out):WC E1 303 [.ptr p 0,C6 t] S (Ot p k ts S RepE (gS ts n t i)):=by
 have eP:gS ts n t i=(Eu ts 1 i).bind fun u j=>if(tk ts j).text∈[[97,102,116,101,114]]then(B2 ts [[40]] (j+1)).bind fun _ j=>(P ts n .lit j).bind fun x m=>(F9 ts (P ts n .lit) n [x] m).bind fun l m=>.ok (.mk 14 t.pos 0 u.text false l) m else .ok (.mk 14 t.pos 0 u.text false []) j:=rfl
 rw[eP]at ho ⊢;clear eP;obtain⟨fn1,hf1⟩:=fX 170;obtain⟨fn2,hf2⟩:=fX 173;obtain⟨fn3,hf3⟩:=fX 169;obtain⟨fn4,hf4⟩:=fX 266;refine WCk Tryz.f303 ?_;obtain⟨x1,c1,bt,hp1⟩:=boxIn h hp t;have y2:=x1;obtain⟨x3,c3,br,hp3⟩:=Jg c1 hp1;have y4:=(y2).trans x3;have bt_4:=bt.keep x3;simp only[go_sem,reduceLT,Nat.reduceAdd,reduceEqDiff,Tryz.f303,Qo,Qp];have lp1:=bt_4.pos;refine WD_byFl (x:=⟨8,5,[0,1,2,3,4,5,6,7],[9]⟩) [(0,true),(1,true),(2,true),(3,true),(4,true),(5,true),(1,false),(6,true),(7,true),(8,true),(9,true)] (by kernel_rfl) (by kernel_rfl) (by decide) ?_
 simp only[go_sem,reduceLT,reduceEqDiff,hf1,lp1];refine WC.mono (R3 c3 hp3 hi hts 1 (by decide)) ?_
 cases hX5:Eu ts 1 i with
 |out=>exact absurd hX5 (K4 _ _ _)
 |bad a e =>
  rintro _ ⟨S5,rfl,x5⟩;simp only[A9,A7,Ht,I5];exact⟨_,rfl,y4.trans x5⟩
 |ok a5 j5 =>
  rw[hX5]at ho;rw[Bs]at ho ⊢;rintro _ ⟨_,S5,rfl,rfl,x5,c5,hi5⟩;have hp5:p<S5.next:=Ja0 hp3 x5.1;have y6:=(y4).trans x5;have bt_6:=bt_4.keep x5;have br_6:=br.keep x5;have lp2:=bt_6.pos;obtain⟨S7,q7,x7,c7,be,hp7⟩:=Sj c5 hp5 (xs:=exC 14 t.pos 0 a5.text false .nils) rfl;have y8:=(y6).trans x7;have br_8:=br_6.keep x7
  by_cases hm:(tk ts j5).text∈[[97,102,116,101,114]]
  ·rw[if_pos hm]at ho ⊢
   simp only[go_sem,reduceLT,reduceEqDiff,hf2,lp2,Xk,b30a,gO,q7];refine WC.mono (J1 c7 hp7 hi5 hts 1 0 [[97,102,116,101,114]] (by decide) (by decide) hm) ?_
   rintro _ ⟨S9,rfl,x9,c9,hi9,hp9⟩;have y10:=(y8).trans x9;have br_10:=br_8.keep x9;have be_10:=be.keep x9;obtain⟨S11,q11,x11,c11,bt2,hp11⟩:=Dq c9 hp9 (tk ts j5);have y12:=(y10).trans x11;have br_12:=br_10.keep x11;have be_12:=be_10.keep x11;simp only[go_sem,reduceLT,reduceEqDiff,hf3,q11];refine WC.mono (Hq c11 hp11 hi9 hts 1 0 [[40]] (by decide) (by decide)) ?_
   cases hX13:B2 ts [[40]] (j5+1)with
   |out=>exact absurd hX13 (Fa _ _ _)
   |bad a e =>
    rintro _ ⟨S13,rfl,x13⟩;simp only[A9,Bf,A7];exact⟨_,rfl,y12.trans x13⟩
   |ok a13 j13 =>
    rw[hX13]at ho;rw[Bs]at ho ⊢;rintro _ ⟨_,S13,rfl,rfl,x13,c13,hi13⟩;have hp13:p<S13.next:=Ja0 hp11 x13.1;have y14:=(y12).trans x13;have br_14:=br_12.keep x13;have be_14:=be_12.keep x13;have bt2_14:=bt2.keep x13;simp only[go_sem,reduceLT,reduceEqDiff,hf4]
    have hb2:((P ts n .lit j13).bind fun x m=>F9 ts (P ts n .lit) n [x] m)≠.out:=by
     intro e
     cases hL:P ts n .lit j13 with
     |out=>rw[hL]at ho;exact ho rfl
     |bad a e1=>rw[hL]at e;cases e
     |ok a j=>rw[hL]at e ho;rw[Bs]at e ho;rw[e]at ho;exact ho rfl
    have assoc:((P ts n .lit j13).bind fun x m=>(F9 ts (P ts n .lit) n [x] m).bind fun l m=>PR.ok (PE.mk 14 t.pos 0 a5.text false l) m)=((P ts n .lit j13).bind fun x m=>F9 ts (P ts n .lit) n [x] m).bind fun l m=>PR.ok (PE.mk 14 t.pos 0 a5.text false l) m:=by
     cases P ts n .lit j13 <;> rfl
    rw[assoc];refine WC.mono (rest_p hts h2p 305 _ (fX 305) ihlit n hn _ _ c13 hp13 hi13 hb2) ?_
    cases hX:(P ts n .lit j13).bind fun x m=>F9 ts (P ts n .lit) n [x] m with
    |out=>exact absurd hX hb2
    |bad a e =>
     rintro _ ⟨S99,rfl,x99⟩;simp only[A9,Bf,A7];exact⟨_,rfl,y14.trans x99⟩
    |ok l j =>
     rw[Bs];rintro _ ⟨v,S99,rfl,hv,x99,c99,hi99⟩;have hp99:p<S99.next:=Ja0 hp13 x99.1;have y16:=(y14).trans x99;have br_16:=br_14.keep x99;have be_16:=be_14.keep x99;have bt2_16:=bt2_14.keep x99;have sk:Bl Tryz.prog S99 55 (.ptr S5.next 5) v=some (S99.put S5.next (exC 14 t.pos 0 a5.text false v)):=st30_kids be_16.get v hv.kids;have hne17:S5.next≠(S.newBox (Cb t)).next:=by have:=br_6.lt;omega
     obtain⟨px17,pc17,pb17,pr17⟩:=U4 (ys:=exC 14 t.pos 0 a5.text false v) y16 y6.1 be_16 c99 br_16 hne17;have le2:=pb17.ld30 rfl;obtain⟨g18,h18,gx,gc⟩:=Fh (S0:=S) pc17 pr17 rfl x1.1 px17 (xs:=(exC 14 t.pos 0 a5.text false v)) rfl;simp only[go_sem,reduceLT,reduceEqDiff,sk,fe5,le2,g18,h18];exact⟨_,_,rfl,(.mk 14 t.pos 0 a5.text false _ _ hv),gx,gc,hi99⟩
  ·rw[if_neg hm]at ho ⊢
   simp only[go_sem,reduceLT,reduceEqDiff,hf2,lp2,Xk,b30a,gO,q7];refine WC.mono (K7 c7 hp7 hi5 hts 1 0 [[97,102,116,101,114]] (by decide) hm) ?_
   rintro _ ⟨S19,rfl,x19,c19,hi19,hp19⟩;have y20:=(y8).trans x19;have br_20:=br_8.keep x19;have be_20:=be.keep x19;obtain⟨S21,q21,x21,c21,bt2,hp21⟩:=Dq c19 hp19 B5;have y22:=(y20).trans x21;have br_22:=br_20.keep x21;have be_22:=be_20.keep x21;have l23:=be_22.ld30 rfl;obtain⟨g24,h24,gx,gc⟩:=Fh (S0:=S) c21 br_22 rfl x1.1 y22 (xs:=(exC 14 t.pos 0 a5.text false .nils)) rfl;simp only[go_sem,reduceLT,reduceEqDiff,hf3,q21,l23,g24,h24];exact⟨_,_,rfl,(.mk 14 t.pos 0 a5.text false _ _ .nil),gx,gc,hi19⟩
theorem primary_p(h2p:2≤p)(hn:n≤1000000)(ihbrk:Con p k ts 304 (P ts n .brk))(ihlit:Con p k ts 305 (P ts n .lit))(ihname:∀S i,Cur S p k ts i→p<S.next→i<ts.length→(tk ts i).kind=1→P ts n .name i≠.out→WC E1 300 [.ptr p 0] S (Ot p k ts S RepE (P ts n .name i))):Con p k ts 299 (P ts (n+1) .primary):=fun S i h hp hi ho=>by
 obtain⟨fn1,hf1⟩:=fX 167;obtain⟨fn2,hf2⟩:=fX 297;obtain⟨fn3,hf3⟩:=fX 300;obtain⟨fn4,hf4⟩:=fX 173;obtain⟨fn5,hf5⟩:=fX 301;obtain⟨fn6,hf6⟩:=fX 302;obtain⟨fn7,hf7⟩:=fX 303;obtain⟨fn8,hf8⟩:=fX 304;refine WCk Tryz.f299 ?_;have eP:P ts (n+1) .primary i=if(tk ts i).kind=2 then I7 ts i else if(tk ts i).kind=1 then P ts n .name i else if(tk ts i).text=[116,114,117,101]∨(tk ts i).text=[102,97,108,115,101]then .ok (G4 (tk ts i)) (i+1)else if(tk ts i).text=[109,101,114,103,101]then(Eu ts 1 (i+1)).bind fun t j=>(P ts n .brk j).bind fun x j=>(P ts n .brk j).bind fun y j=>.ok (.mk 12 (tk ts i).pos 0 t.text false [x,y]) j else if(tk ts i).text=[97,119,97,105,116]then(Eu ts 1 (i+1)).bind fun t j=>if(tk ts j).text∈[[97,102,116,101,114]]then(B2 ts [[40]] (j+1)).bind fun _ j=>(P ts n .lit j).bind fun x m=>(F9 ts (P ts n .lit) n [x] m).bind fun l m=>.ok (.mk 14 (tk ts i).pos 0 t.text false l) m else .ok (.mk 14 (tk ts i).pos 0 t.text false []) j else P ts n .brk i:=rfl
 rw[eP]at ho ⊢;clear eP;obtain⟨x1,c1,br,hp1⟩:=Jg h hp;have y2:=x1;simp only[go_sem,reduceLT,reduceEqDiff,Tryz.f299,hf1];refine WC.mono (W4 _ p k ts i c1 hp1 hi) ?_;rintro _ ⟨S3,rfl,k3⟩;have x3:=k3.x p;have c3:=c1.keep hp1 k3;have hp3:p<S3.next:=Ja0 hp1 x3.1;have y4:=(y2).trans x3;have br_4:=br.keep x3;have e0:=Gy hi
 by_cases h2:(tk ts i).kind=2
 ·rw[if_pos h2]at ho ⊢
  have n2:(((ts[i].kind:Nat):Int) == 2)=true:=by rw[← e0,h2];rfl
  simp only[go_sem,reduceLT,reduceEqDiff,hf2,hf3,hf4,Bk,n2];refine WC.mono (eA hts _ _ c3 hp3 hi ho) ?_
  cases hX5:I7 ts i with
  |out=>exact absurd hX5 ho
  |bad a e =>
   rintro _ ⟨S5,rfl,x5⟩;simp only[A9,Df,Bf,A7];exact⟨_,rfl,y4.trans x5⟩
  |ok a5 j5 =>
   rintro _ ⟨v5,S5,rfl,hr5,x5,c5,hi5⟩;obtain⟨xs5,rfl,hl5⟩:=RepE.agg hr5;have hp5:p<S5.next:=Ja0 hp3 x5.1;have y6:=(y4).trans x5;have br_6:=br_4.keep x5;obtain⟨g7,h7,gx,gc⟩:=Fh (S0:=S) c5 br_6 rfl (Ja1 _) y6 (xs:=xs5) hl5;simp only[go_sem,reduceLT,reduceEqDiff,g7,h7];exact⟨_,_,rfl,hr5,gx,gc,hi5⟩
 ·rw[if_neg h2]at ho ⊢
  have n2:(((ts[i].kind:Nat):Int) == 2)=false:=by rw[← e0,beq_eq_false_iff_ne];omega
  by_cases h1:(tk ts i).kind=1
  ·rw[if_pos h1]at ho ⊢
   have n1:(((ts[i].kind:Nat):Int) == 1)=true:=by rw[← e0,h1];rfl
   simp only[go_sem,reduceLT,reduceEqDiff,hf2,hf3,hf4,Bk,n2,n1];refine WC.mono (ihname _ _ c3 hp3 hi h1 ho) ?_
   cases hX8:P ts n .name i with
   |out=>exact absurd hX8 ho
   |bad a e =>
    rintro _ ⟨S8,rfl,x8⟩;simp only[A9,Df,Bf,A7];exact⟨_,rfl,y4.trans x8⟩
   |ok a8 j8 =>
    rintro _ ⟨v8,S8,rfl,hr8,x8,c8,hi8⟩;obtain⟨xs8,rfl,hl8⟩:=RepE.agg hr8;have hp8:p<S8.next:=Ja0 hp3 x8.1;have y9:=(y4).trans x8;have br_9:=br_4.keep x8;obtain⟨g10,h10,gx,gc⟩:=Fh (S0:=S) c8 br_9 rfl (Ja1 _) y9 (xs:=xs8) hl8;simp only[go_sem,reduceLT,reduceEqDiff,g10,h10];exact⟨_,_,rfl,hr8,gx,gc,hi8⟩
  ·rw[if_neg h1]at ho ⊢
   have n1:(((ts[i].kind:Nat):Int) == 1)=false:=by rw[← e0,beq_eq_false_iff_ne];omega
   by_cases hT:(tk ts i).text=[116,114,117,101]∨(tk ts i).text=[102,97,108,115,101]
   ·rw[if_pos hT]at ho ⊢
    rcases hT with hq |hq
    ·have hq0:=hq
     have hm:(tk ts i).text∈[[116,114,117,101],[102,97,108,115,101],[109,101,114,103,101],[97,119,97,105,116]]:=by rw[hq];decide
     simp only[go_sem,reduceLT,reduceEqDiff,hf2,hf3,hf4,Bk,n2,n1];refine WC.mono (J1 c3 hp3 hi hts 1 0 [[116,114,117,101],[102,97,108,115,101],[109,101,114,103,101],[97,119,97,105,116]] (by decide) (by decide) hm) ?_
     rintro _ ⟨S11,rfl,x11,c11,hi11,hp11⟩;have y12:=(y4).trans x11;have br_12:=br_4.keep x11;obtain⟨S13,q13,x13,c13,bt,hp13⟩:=Dq c11 hp11 (tk ts i);have y14:=(y12).trans x13;have br_14:=br_12.keep x13;have tx:=bt.text;have d0:decide ((tk ts i).text=[116,114,117,101])=true:=by rw[hq];decide
     have d1:decide ((tk ts i).text=[102,97,108,115,101])=false:=by rw[hq];decide
     have d2:decide ((tk ts i).text=[109,101,114,103,101])=false:=by rw[hq];decide
     have d3:decide ((tk ts i).text=[97,119,97,105,116])=false:=by rw[hq];decide
     have l15:=bt.ld68;simp only[go_sem,reduceLT,reduceEqDiff,hf5,hf6,hf7,hf8,q13,tx,d0,d1,d2,d3,l15];refine WC.mono (nA _ p k ts _ c13 hp13 (tk ts i)) ?_;rintro _ ⟨S16,rfl,x16,c16,hp16⟩;have y17:=(y14).trans x16;have br_17:=br_14.keep x16;obtain⟨g18,h18,gx,gc⟩:=Fh (S0:=S) c16 br_17 rfl (Ja1 _) y17 (xs:=(exC 2 (tk ts i).pos (if(tk ts i).text=[116,114,117,101]then 1 else 0) [] false .nils)) rfl
     simp only[go_sem,reduceLT,reduceEqDiff,g18,h18];exact⟨_,_,rfl,Ye (tk ts i),gx,gc,hi11⟩
    ·have hq0:=hq
     have hm:(tk ts i).text∈[[116,114,117,101],[102,97,108,115,101],[109,101,114,103,101],[97,119,97,105,116]]:=by rw[hq];decide
     simp only[go_sem,reduceLT,reduceEqDiff,hf2,hf3,hf4,Bk,n2,n1];refine WC.mono (J1 c3 hp3 hi hts 1 0 [[116,114,117,101],[102,97,108,115,101],[109,101,114,103,101],[97,119,97,105,116]] (by decide) (by decide) hm) ?_
     rintro _ ⟨S19,rfl,x19,c19,hi19,hp19⟩;have y20:=(y4).trans x19;have br_20:=br_4.keep x19;obtain⟨S21,q21,x21,c21,bt,hp21⟩:=Dq c19 hp19 (tk ts i);have y22:=(y20).trans x21;have br_22:=br_20.keep x21;have tx:=bt.text;have d0:decide ((tk ts i).text=[116,114,117,101])=false:=by rw[hq];decide
     have d1:decide ((tk ts i).text=[102,97,108,115,101])=true:=by rw[hq];decide
     have d2:decide ((tk ts i).text=[109,101,114,103,101])=false:=by rw[hq];decide
     have d3:decide ((tk ts i).text=[97,119,97,105,116])=false:=by rw[hq];decide
     have l23:=bt.ld68;simp only[go_sem,reduceLT,reduceEqDiff,hf5,hf6,hf7,hf8,q21,tx,d0,d1,d2,d3,l23];refine WC.mono (nA _ p k ts _ c21 hp21 (tk ts i)) ?_;rintro _ ⟨S24,rfl,x24,c24,hp24⟩;have y25:=(y22).trans x24;have br_25:=br_22.keep x24;obtain⟨g26,h26,gx,gc⟩:=Fh (S0:=S) c24 br_25 rfl (Ja1 _) y25 (xs:=(exC 2 (tk ts i).pos (if(tk ts i).text=[116,114,117,101]then 1 else 0) [] false .nils)) rfl
     simp only[go_sem,reduceLT,reduceEqDiff,g26,h26];exact⟨_,_,rfl,Ye (tk ts i),gx,gc,hi19⟩
   ·rw[if_neg hT]at ho ⊢
    by_cases hq:(tk ts i).text=[109,101,114,103,101]
    ·rw[if_pos hq]at ho ⊢
     have eM:((Eu ts 1 (i+1)).bind fun t j=>(P ts n .brk j).bind fun x j=>(P ts n .brk j).bind fun y j=>.ok (.mk 12 (tk ts i).pos 0 t.text false [x,y]) j)=eK ts n (tk ts i) (i+1):=rfl
     rw[eM]at ho ⊢;clear eM;have hm:(tk ts i).text∈[[116,114,117,101],[102,97,108,115,101],[109,101,114,103,101],[97,119,97,105,116]]:=by rw[hq];decide
     simp only[go_sem,reduceLT,reduceEqDiff,hf2,hf3,hf4,Bk,n2,n1];refine WC.mono (J1 c3 hp3 hi hts 1 0 [[116,114,117,101],[102,97,108,115,101],[109,101,114,103,101],[97,119,97,105,116]] (by decide) (by decide) hm) ?_
     rintro _ ⟨S27,rfl,x27,c27,hi27,hp27⟩;have y28:=(y4).trans x27;have br_28:=br_4.keep x27;obtain⟨S29,q29,x29,c29,bt,hp29⟩:=Dq c27 hp27 (tk ts i);have y30:=(y28).trans x29;have br_30:=br_28.keep x29;have tx:=bt.text;have d0:decide ((tk ts i).text=[116,114,117,101])=false:=by rw[hq];decide
     have d1:decide ((tk ts i).text=[102,97,108,115,101])=false:=by rw[hq];decide
     have d2:decide ((tk ts i).text=[109,101,114,103,101])=true:=by rw[hq];decide
     have d3:decide ((tk ts i).text=[97,119,97,105,116])=false:=by rw[hq];decide
     have l31:=bt.ld68;simp only[go_sem,reduceLT,reduceEqDiff,hf5,hf6,hf7,hf8,q29,tx,d0,d1,d2,d3,l31];refine WC.mono (merge_p hts n ihbrk _ _ c29 hp29 hi27 (tk ts i) ho) ?_
     cases hX32:eK ts n (tk ts i) (i+1)with
     |out=>exact absurd hX32 ho
     |bad a e =>
      rintro _ ⟨S32,rfl,x32⟩;simp only[A9,Df,Bf,A7];exact⟨_,rfl,y30.trans x32⟩
     |ok a32 j32 =>
      rintro _ ⟨v32,S32,rfl,hr32,x32,c32,hi32⟩;obtain⟨xs32,rfl,hl32⟩:=RepE.agg hr32;have hp32:p<S32.next:=Ja0 hp29 x32.1;have y33:=(y30).trans x32;have br_33:=br_30.keep x32;obtain⟨g34,h34,gx,gc⟩:=Fh (S0:=S) c32 br_33 rfl (Ja1 _) y33 (xs:=xs32) hl32;simp only[go_sem,reduceLT,reduceEqDiff,g34,h34];exact⟨_,_,rfl,hr32,gx,gc,hi32⟩
    ·rw[if_neg hq]at ho ⊢
     by_cases hq:(tk ts i).text=[97,119,97,105,116]
     ·rw[if_pos hq]at ho ⊢
      have eM:((Eu ts 1 (i+1)).bind fun t j=>if(tk ts j).text∈[[97,102,116,101,114]]then(B2 ts [[40]] (j+1)).bind fun _ j=>(P ts n .lit j).bind fun x m=>(F9 ts (P ts n .lit) n [x] m).bind fun l m=>.ok (.mk 14 (tk ts i).pos 0 t.text false l) m else .ok (.mk 14 (tk ts i).pos 0 t.text false []) j)=gS ts n (tk ts i) (i+1):=rfl
      rw[eM]at ho ⊢;clear eM;have hm:(tk ts i).text∈[[116,114,117,101],[102,97,108,115,101],[109,101,114,103,101],[97,119,97,105,116]]:=by rw[hq];decide
      simp only[go_sem,reduceLT,reduceEqDiff,hf2,hf3,hf4,Bk,n2,n1];refine WC.mono (J1 c3 hp3 hi hts 1 0 [[116,114,117,101],[102,97,108,115,101],[109,101,114,103,101],[97,119,97,105,116]] (by decide) (by decide) hm) ?_
      rintro _ ⟨S35,rfl,x35,c35,hi35,hp35⟩;have y36:=(y4).trans x35;have br_36:=br_4.keep x35;obtain⟨S37,q37,x37,c37,bt,hp37⟩:=Dq c35 hp35 (tk ts i);have y38:=(y36).trans x37;have br_38:=br_36.keep x37;have tx:=bt.text;have d0:decide ((tk ts i).text=[116,114,117,101])=false:=by rw[hq];decide
      have d1:decide ((tk ts i).text=[102,97,108,115,101])=false:=by rw[hq];decide
      have d2:decide ((tk ts i).text=[109,101,114,103,101])=false:=by rw[hq];decide
      have d3:decide ((tk ts i).text=[97,119,97,105,116])=true:=by rw[hq];decide
      have l39:=bt.ld68;simp only[go_sem,reduceLT,reduceEqDiff,hf5,hf6,hf7,hf8,q37,tx,d0,d1,d2,d3,l39];refine WC.mono (await_p hts n h2p hn ihlit _ _ c37 hp37 hi35 (tk ts i) ho) ?_
      cases hX40:gS ts n (tk ts i) (i+1)with
      |out=>exact absurd hX40 ho
      |bad a e =>
       rintro _ ⟨S40,rfl,x40⟩;simp only[A9,Df,Bf,A7];exact⟨_,rfl,y38.trans x40⟩
      |ok a40 j40 =>
       rintro _ ⟨v40,S40,rfl,hr40,x40,c40,hi40⟩;obtain⟨xs40,rfl,hl40⟩:=RepE.agg hr40;have hp40:p<S40.next:=Ja0 hp37 x40.1;have y41:=(y38).trans x40;have br_41:=br_38.keep x40;obtain⟨g42,h42,gx,gc⟩:=Fh (S0:=S) c40 br_41 rfl (Ja1 _) y41 (xs:=xs40) hl40;simp only[go_sem,reduceLT,reduceEqDiff,g42,h42];exact⟨_,_,rfl,hr40,gx,gc,hi40⟩
     ·rw[if_neg hq]at ho ⊢
      have hm:(tk ts i).text ∉ [[116,114,117,101],[102,97,108,115,101],[109,101,114,103,101],[97,119,97,105,116]]:=by
       intro hm;simp only[Jb8,Ja7,or_false]at hm;rcases hm with e |e |e |e
       ·exact hT (.inl e)
       ·exact hT (.inr e)
       ·exact absurd e (by assumption)
       ·exact absurd e (by assumption)
      simp only[go_sem,reduceLT,reduceEqDiff,hf2,hf3,hf4,Bk,n2,n1];refine WC.mono (K7 c3 hp3 hi hts 1 0 [[116,114,117,101],[102,97,108,115,101],[109,101,114,103,101],[97,119,97,105,116]] (by decide) hm) ?_
      rintro _ ⟨S43,rfl,x43,c43,hi43,hp43⟩;have y44:=(y4).trans x43;have br_44:=br_4.keep x43;obtain⟨S45,q45,x45,c45,bt,hp45⟩:=Dq c43 hp43 B5;have y46:=(y44).trans x45;have br_46:=br_44.keep x45;have tx:=bt.text;have d0:decide (B5.text=[116,114,117,101])=false:=by decide
      have d1:decide (B5.text=[102,97,108,115,101])=false:=by decide
      have d2:decide (B5.text=[109,101,114,103,101])=false:=by decide
      have d3:decide (B5.text=[97,119,97,105,116])=false:=by decide
      simp only[go_sem,reduceLT,reduceEqDiff,hf8,q45,tx,d0,d1,d2,d3];refine WC.mono (ihbrk _ _ c45 hp45 hi43 ho) ?_
      cases hX47:P ts n .brk i with
      |out=>exact absurd hX47 ho
      |bad a e =>
       rintro _ ⟨S47,rfl,x47⟩;simp only[A9,Bf,A7];exact⟨_,rfl,y46.trans x47⟩
      |ok a47 j47 =>
       rintro _ ⟨v47,S47,rfl,hr47,x47,c47,hi47⟩;obtain⟨xs47,rfl,hl47⟩:=RepE.agg hr47;have hp47:p<S47.next:=Ja0 hp45 x47.1;have y48:=(y46).trans x47;have br_48:=br_46.keep x47;obtain⟨g49,h49,gx,gc⟩:=Fh (S0:=S) c47 br_48 rfl (Ja1 _) y48 (xs:=xs47) hl47;simp only[go_sem,reduceLT,reduceEqDiff,g49,h49];exact⟨_,_,rfl,hr47,gx,gc,hi47⟩
structure Reads(p k:Nat)(ts:List Tk)(n:Nat):Prop where
 expr:Con p k ts 220 (P ts n .expr)
 arrow:Con p k ts 247 (P ts n .arrow)
 or:Con p k ts 267 (P ts n .or)
 and:Con p k ts 285 (P ts n .and)
 not:Con p k ts 291 (P ts n .not)
 sum:Con p k ts 293 (P ts n .sum)
 term:Con p k ts 294 (P ts n .term)
 unary:Con p k ts 295 (P ts n .unary)
 when:Con p k ts 298 (P ts n .when)
 primary:Con p k ts 299 (P ts n .primary)
 call:Con p k ts 219 (P ts n .call)
 brk:Con p k ts 304 (P ts n .brk)
 lit:Con p k ts 305 (P ts n .lit)
 name:∀S i,Cur S p k ts i→p<S.next→i<ts.length→(tk ts i).kind=1→P ts n .name i≠.out→WC E1 300 [.ptr p 0] S (Ot p k ts S RepE (P ts n .name i))
omit n
theorem Nx(h2p:2≤p):∀n,n≤1000000→Reads p k ts n
 |0,_=>⟨fun _ _ _ _ _ h=>absurd rfl h,fun _ _ _ _ _ h=>absurd rfl h,fun _ _ _ _ _ h=>absurd rfl h,fun _ _ _ _ _ h=>absurd rfl h,fun _ _ _ _ _ h=>absurd rfl h,fun _ _ _ _ _ h=>absurd rfl h,fun _ _ _ _ _ h=>absurd rfl h,fun _ _ _ _ _ h=>absurd rfl h,fun _ _ _ _ _ h=>absurd rfl h,fun _ _ _ _ _ h=>absurd rfl h,fun _ _ _ _ _ h=>absurd rfl h,fun _ _ _ _ _ h=>absurd rfl h,fun _ _ _ _ _ h=>absurd rfl h,fun _ _ _ _ _ _ h=>absurd rfl h⟩
 |n+1,hn=>by
  have r:=Nx h2p n (by omega)
  exact⟨expr_p hts n r.expr r.arrow,arrow_p hts n r.arrow r.or,or_p hts n r.and,and_p hts n r.not,not_p hts n r.not r.sum,sum_p hts n r.term,term_p hts n r.unary,unary_p hts n r.unary r.when,when_p hts n r.primary,primary_p hts n h2p (by omega) r.brk r.lit r.name,call_p hts n h2p (by omega) r.expr,brk_p hts n r.expr,lit_p hts n,name_p hts n r.call⟩
end
end
end Go.Ax
