/- Qa -/
import Derived.Test.YtjgknelmjdallaaGreatDoorTbG18
import Derived.Test.YtjgknelmjdallaaGreatDoorTbG19
import Derived.Test.YtjgknelmjdallaaGreatDoorTbG20
set_option linter.unusedVariables false
set_option linter.unusedSimpArgs false
set_option maxHeartbeats 16000000
noncomputable section
namespace Go.Ax
open Go.RowKit Go.Proofs
set_option maxRecDepth 100000
def Se (v:AV) (es:List AV):Prop:=(v=.nils ∧ es=[]) ∨ ∃ tok off,v=.sl tok off 6 es
def Xl:List AV → List (List AV) → Prop
 | [],[]=>True
 | v :: r,e :: l=>Se v e ∧ Xl r l
 | _,_=>False
theorem L8:∀ {vs:List AV} {es:List (List AV)},Xl vs es → vs.length=es.length
 | [],[],_=>rfl
 | _ :: r,_ :: l,h=>by simp [L8 h.2]
 | [],_ :: _,h=>h.elim
 | _ :: _,[],h=>h.elim
theorem Qh:∀ {vs:List AV} {es:List (List AV)},Xl vs es → ∀ (i:Nat) (h:i < vs.length) (h2:i < es.length),Se vs[i] es[i]
 | [],[],_,i,h,_=>absurd h (Nat.not_lt_zero i)
 | _ :: r,_ :: l,h,0,_,_=>h.1
 | _ :: r,_ :: l,h,i + 1,h1,h2=>Qh h.2 i (by simpa using h1) (by simpa using h2)
 | [],_ :: _,h,_,_,_=>h.elim
 | _ :: _,[],h,_,_,_=>h.elim
def Ux (es:List (List AV)):Nat:=(es.map List.length).sum
theorem qH (es:List (List AV)) (i:Nat) (h:i < es.length):Ux (es.take (i + 1))=Ux (es.take i) + es[i].length:=by
 unfold Ux
 rw [List.take_succ_eq_append_getElem h,List.map_append,List.sum_append]
 simp
theorem uR:∀ (es:List (List AV)) (i:Nat),Ux (es.take i) ≤ Ux es
 | [],i=>by simp
 | e :: r,0=>by simp [Ux]
 | e :: r,i + 1=>by
  have:=uR r i
  unfold Ux at this ⊢
  simp only [List.take_succ_cons,List.map_cons,List.sum_cons]; omega
theorem Z1 (es:List (List AV)):es.flatten.length=Ux es:=by unfold Ux; rw [List.length_flatten]
theorem u46:Tryz.prog.underlying 46=some (.slice 54):=jJ
theorem e46:Ih Tryz.prog 46=some (none,54):=by kernel_rfl
theorem len46 (S:St) {v:AV} {es:List AV} (h:Se v es):F6 Tryz.prog S 46 v=some es.length:=by
 rcases h with ⟨rfl,rfl⟩ | ⟨tok,off,rfl⟩ <;> simp [F6,u46]
theorem e159:Ih Tryz.prog 159=some (none,46):=by kernel_rfl
theorem u159:Tryz.prog.underlying 159=some (.slice 46):=by kernel_rfl
theorem s46':Fm Tryz.prog 46=some 1:=by kernel_rfl
theorem a46:Fq Tryz.prog 46=some false:=by kernel_rfl
theorem len159 (S:St) (tok off:Nat) (es:List AV):F6 Tryz.prog S 159 (.sl tok off 1 es)=some es.length:=by simp [F6,u159]
theorem Qi {v:AV} {es:List AV} (h:Se v es):v.cells=[v]:=by
 rcases h with ⟨rfl,rfl⟩ | ⟨tok,off,rfl⟩ <;> rfl
theorem idx159 (tok off:Nat) (vs:List AV) (hc:∀ v ∈ vs,v.cells=[v]) (i:Nat) (h:i < vs.length):Cl Tryz.prog 159 (.sl tok off 1 vs) (.v (.int .i64 (i:Int)))=some (.ep [vs[i]]):=by
 have h0:(0:Int) ≤ (i:Int):=by omega
 have hx:=hc _ (List.getElem_mem h)
 simp [Cl,h0,e159,s46',h,hx]
theorem load46 (S:St) (x:AV):Ci Tryz.prog S 46 (.ep [x])=some x:=by simp [Ci,Dv,a46]
def Acc (g:Prop) (lo:Nat) (S:St) (v:AV) (es:List AV):Prop:=(v=.nils ∧ es=[]) ∨ ∃ tok,v=.sl tok 0 6 es ∧ 2 ≤ tok ∧ lo ≤ tok ∧ tok < S.next ∧ S.mem.get tok=some (.tip (es.length * 6)) ∧ (es ≠ [] ∨ g)
def rowN (v:AV) (es:List AV):Prop:=(v=.nils ∧ es=[]) ∨ (es ≠ [] ∧ ∃ tok off,v=.sl tok off 6 es)
theorem rowN.is {v:AV} {es:List AV} (h:rowN v es):Se v es:=h.elim .inl (fun h=>.inr h.2)
theorem app46c (S:St) (a b:AV):Hl E1 S 46 46 a b=Fo Tryz.prog S 46 46 a b:=rfl
theorem acc_push {g:Prop} {lo:Nat} {S:St} {v x:AV} {es ns:List AV} (h:Acc g lo S v es) (hx:Se x ns) (hn:2 ≤ S.next) (hlo:lo ≤ S.next) (hl:es.length + ns.length ≤ 1000000) :
  ∃ v' S',Hl E1 S 46 46 v x=some (v',S') ∧ Acc g lo S' v' (es ++ ns) ∧ S.next ≤ S'.next ∧ ∀ id,id < lo → S'.mem.get id=S.mem.get id:=by
 obtain ⟨i,hi,hz0,hz1,hz2⟩:=Hs infoDecl
 have hsrc:Nr Tryz.prog 46 6 x=some ns:=by
  rcases hx with ⟨rfl,rfl⟩ | ⟨tok,off,rfl⟩ <;> simp [Nr,u46]
 rw [app46c]
 cases ns with
 | nil =>
  refine ⟨v,S,?_,by rw [List.append_nil]; exact h,Nat.le_refl _,fun _ _=>rfl⟩
  rcases h with ⟨rfl,rfl⟩ | ⟨tok,rfl,_⟩ <;> simp [Fo,e46,hi,hz0,hz1,hz2,hsrc,Value.cells]
 | cons y r =>
  have hb1:(es.length + (r.length + 1)) * 56 ≤ 140737488355328:=by simp at hl; omega
  have hb2:es.length + (r.length + 1) ≤ 9223372036854775807:=by simp at hl; omega
  rcases h with ⟨rfl,rfl⟩ | ⟨tok,rfl,h1,h2,h3,h5,h6⟩
  ·refine ⟨.sl S.next 0 6 (y :: r),S.grown 1 ((y :: r).length * 6),?_,.inr ⟨S.next,rfl,hn,hlo,Nat.lt_succ_self _,?_,.inl (by simp)⟩,Nat.le_succ _,fun id hid=>?_⟩
   ·have hb3:(r.length + 1) * 56 ≤ 140737488355328:=by simp at hb1; omega
    have hb4:r.length + 1 ≤ 9223372036854775807:=by omega
    simp [Fo,e46,hi,hz0,hz1,hz2,hsrc,Value.cells,hb3,hb4]
   ·show (S.mem.set S.next _).get S.next=_
    rw [T.get_set,if_pos rfl]; rfl
   ·show (S.mem.set S.next _).get id=_
    rw [T.get_set,if_neg (by omega)]
  ·obtain ⟨k,rfl⟩:∃ k,tok=k + 2:=⟨tok - 2,by omega⟩
   refine ⟨.sl S.next 0 6 (es ++ y :: r),S.grown (k + 2) ((es ++ y :: r).length * 6),?_,.inr ⟨S.next,rfl,hn,hlo,Nat.lt_succ_self _,?_,.inl (by simp)⟩,Nat.le_succ _,fun id hid=>?_⟩
   ·simp [Fo,e46,hi,hz0,hz1,hz2,hsrc,Value.cells,Qb,h5,hb1,hb2]
   ·show ((S.mem.set (k + 2) none).set S.next _).get S.next=_
    rw [T.get_set,if_pos rfl]
   ·show ((S.mem.set (k + 2) none).set S.next _).get id=_
    rw [T.get_set,if_neg (by omega),T.get_set,if_neg (by omega)]
def Xb:Code:=match Tryz.f63.body with
 | some (.seq _ (.seq _ (.seq (.seq _ (.block _ (.loop c))) _)))=>c
 | _=>.skip
def Xa:Code:=match Tryz.f63.body with
 | some (.seq _ (.seq _ (.seq _ (.seq _ (.seq (.seq _ (.block _ (.loop c))) _)))))=>c
 | _=>.skip
theorem tU (tok off:Nat) (vs:List AV) (ess:List (List AV)) (hr:Xl vs ess) (hv:vs.length ≤ 1000) (hl:Ux ess ≤ 3000) (S:St):∀ (m i:Nat) (t:T AV),i + m=vs.length → t.get 0=some (.sl tok off 1 vs) → t.get 9=some (.sl tok off 1 vs) → t.get 10=some (Dl vs.length) → t.get 11=some (Dl i) → t.get 3=some (Dl (Ux (ess.take i))) →
  WX E1 36 (.loop Xb) ⟨t,[]⟩ S (fun r=>∃ t',r=.out (.exit 0) ⟨t',[]⟩ S ∧ t'.get 0=some (.sl tok off 1 vs) ∧ t'.get 3=some (Dl (Ux ess)))
 | 0,i,t,hi,h0,h9,h10,h11,h3=>by
  refine D2 (Ds ?_)
  have hlt:¬ ((i:Int) < (vs.length:Int)):=by omega
  have hd:ess.take i=ess:=List.take_of_length_le (by rw [← L8 hr]; omega)
  rw [hd] at h3
  simp only [Dl] at h0 h9 h10 h11 h3 ⊢
  simp only [Bw,Bz,Di,Dj,Bp,A6,Cm,Bk,Bn,Bt,D0,C9,B0,A4,C0,C6,Cc,B6,C4,C5,Cv,Bf,A7,Cq,Bd,Bm,Bh,Dx,Bs,Bb,Bl,Ch,C7,C1,A5,Ba,A8,Cd,A0,A1,Bo,B5,ofOpt,ofOptS,A9,Cg,Fd,Bv,Bu,Bj,B7,By,Bg,Cn,Cy,C8,C3,Et,D1,Ey,Dd,B9,Da,Nat.reduceLT,Nat.reduceAdd,Nat.reduceEqDiff,Aa,Ab,reduceIte,Ac,Ad,Ae,Af,Ag,Ah,Ai,Aj,Ak,Al,Am,Ao,Ap,Aq,Ar,Au,Av,Aw,Option.toList,Ay,Az,Xb,Tryz.f63,h9,h10,h11,hlt]
  exact ⟨_,rfl,by simp only [A0,Nat.reduceEqDiff,Ab,h0],by simp only [A0,Nat.reduceEqDiff,Ab,h3]⟩
 | m + 1,i,t,hi,h0,h9,h10,h11,h3=>by
  refine D2 (Ds ?_)
  have hil:i < vs.length:=by omega
  have hie:i < ess.length:=by rw [← L8 hr]; exact hil
  have hlt:((i:Int) < (vs.length:Int)):=by omega
  have hri:=Qh hr i hil hie
  have hx:=idx159 tok off vs (fun v hv=>by
   obtain ⟨k,hk,rfl⟩:=List.getElem_of_mem hv
   exact Qi (Qh hr k hk (by rw [← L8 hr]; exact hk))) i hil
  have hw:=Kh (i:=i) (by omega)
  have hs1:=qH ess i hie
  have hs2:=uR ess (i + 1)
  have hlen:=len46 S hri
  have hadd:IntKind.i64.wrap (((Ux (ess.take i):Nat):Int) + ((ess[i].length:Nat):Int))=((Ux (ess.take (i + 1)):Nat):Int):=by
   rw [hs1,IntWalk.i64_in _ (by omega)]; push_cast; rfl
  have hneg:¬ (((Ux (ess.take (i + 1)):Nat):Int) < 0):=by omega
  have hld:=load46 S vs[i]
  simp only [Dl] at h0 h9 h10 h11 h3 hx ⊢
  simp only [Bw,Bz,Di,Dj,Bp,A6,Cm,Bk,Bn,Bt,D0,C9,B0,A4,C0,C6,Cc,B6,C4,C5,Cv,Bf,A7,Cq,Bd,Bm,Bh,Dx,Bs,Bb,Bl,Ch,C7,C1,A5,Ba,A8,Cd,A0,A1,Bo,B5,ofOpt,ofOptS,A9,Cg,Fd,Bv,Bu,Bj,B7,By,Bg,Cn,Cy,C8,C3,Et,D1,Ey,Dd,B9,Da,Nat.reduceLT,Nat.reduceAdd,Nat.reduceEqDiff,Aa,Ab,reduceIte,Ac,Ad,Ae,Af,Ag,Ah,Ai,Aj,Ak,Al,Am,Ao,Ap,Aq,Ar,Au,Av,Aw,Option.toList,Ay,Az,Xb,Tryz.f63,h9,h10,h11,hlt,h3,hx,hld,hlen,hadd,hneg,hw]
  refine WX.mono (tU tok off vs ess hr hv hl S m (i + 1) _ (by omega) ?_ ?_ ?_ ?_ ?_) (fun r h=>h)
  ·simp only [A0,Nat.reduceEqDiff,Ab,h0]
  ·simp only [A0,Nat.reduceEqDiff,Ab,h9]
  ·simp only [A0,Nat.reduceEqDiff,Ab,h10]; rfl
  ·simp only [A0,Nat.reduceEqDiff,Aa]; rfl
  ·simp only [A0,Nat.reduceEqDiff,Aa,Ab]; rfl
theorem tT (g:Prop) (lo tok off:Nat) (vs:List AV) (ess:List (List AV)) (hr:Xl vs ess) (hv:vs.length ≤ 1000) (hl:Ux ess ≤ 3000) (S0:St) (hlo:2 ≤ lo):∀ (m i:Nat) (t:T AV) (S:St) (v:AV),i + m=vs.length → t.get 25=some (.sl tok off 1 vs) → t.get 26=some (Dl vs.length) → t.get 27=some (Dl i) → t.get 6=some v → Acc g lo S v (ess.take i).flatten → lo ≤ S.next → (∀ id,id < lo → S.mem.get id=S0.mem.get id) →
  WX E1 36 (.loop Xa) ⟨t,[]⟩ S (fun r=>∃ t' S' v,r=.out (.exit 2) ⟨t',[]⟩ S' ∧ t'.get 6=some v ∧ Acc g lo S' v ess.flatten ∧ lo ≤ S'.next ∧ (∀ id,id < lo → S'.mem.get id=S0.mem.get id))
 | 0,i,t,S,v,hi,h25,h26,h27,h6,ha,hn,hk=>by
  refine D2 (Ds ?_)
  have hlt:¬ ((i:Int) < (vs.length:Int)):=by omega
  have hd:ess.take i=ess:=List.take_of_length_le (by rw [← L8 hr]; omega)
  rw [hd] at ha
  simp only [Dl] at h25 h26 h27 ⊢
  simp only [Bw,Bz,Di,Dj,Bp,A6,Cm,Bk,Bn,Bt,D0,C9,B0,A4,C0,C6,Cc,B6,C4,C5,Cv,Bf,A7,Cq,Bd,Bm,Bh,Dx,Bs,Bb,Bl,Ch,C7,C1,A5,Ba,A8,Cd,A0,A1,Bo,B5,ofOpt,ofOptS,A9,Cg,Fd,Bv,Bu,Bj,B7,By,Bg,Cn,Cy,C8,C3,Et,D1,Ey,Dd,B9,Da,Nat.reduceLT,Nat.reduceAdd,Nat.reduceEqDiff,Aa,Ab,reduceIte,Ac,Ad,Ae,Af,Ag,Ah,Ai,Aj,Ak,Al,Am,Ao,Ap,Aq,Ar,Au,Av,Aw,Option.toList,Ay,Az,Xa,Tryz.f63,h25,h26,h27,hlt]
  exact ⟨_,_,v,rfl,by simp only [A0,Nat.reduceEqDiff,Ab,h6],ha,hn,hk⟩
 | m + 1,i,t,S,v,hi,h25,h26,h27,h6,ha,hn,hk=>by
  refine D2 (Ds ?_)
  have hil:i < vs.length:=by omega
  have hie:i < ess.length:=by rw [← L8 hr]; exact hil
  have hlt:((i:Int) < (vs.length:Int)):=by omega
  have hri:=Qh hr i hil hie
  have hx:=idx159 tok off vs (fun v hv=>by
   obtain ⟨k,hk,rfl⟩:=List.getElem_of_mem hv
   exact Qi (Qh hr k hk (by rw [← L8 hr]; exact hk))) i hil
  have hw:=Kh (i:=i) (by omega)
  have hs1:=qH ess i hie
  have hs2:=uR ess (i + 1)
  have hld:=load46 S vs[i]
  have hfl:(ess.take (i + 1)).flatten=(ess.take i).flatten ++ ess[i]:=by
   rw [List.take_succ_eq_append_getElem hie,List.flatten_append]; simp
  obtain ⟨v',S',q,ha',hn',hk'⟩:=acc_push ha hri (Nat.le_trans hlo hn) hn (by rw [Z1]; omega)
  rw [← hfl] at ha'
  simp only [Dl] at h25 h26 h27 hx ⊢
  simp only [Bw,Bz,Di,Dj,Bp,A6,Cm,Bk,Bn,Bt,D0,C9,B0,A4,C0,C6,Cc,B6,C4,C5,Cv,Bf,A7,Cq,Bd,Bm,Bh,Dx,Bs,Bb,Bl,Ch,C7,C1,A5,Ba,A8,Cd,A0,A1,Bo,B5,ofOpt,ofOptS,A9,Cg,Fd,Bv,Bu,Bj,B7,By,Bg,Cn,Cy,C8,C3,Et,D1,Ey,Dd,B9,Da,Nat.reduceLT,Nat.reduceAdd,Nat.reduceEqDiff,Aa,Ab,reduceIte,Ac,Ad,Ae,Af,Ag,Ah,Ai,Aj,Ak,Al,Am,Ao,Ap,Aq,Ar,Au,Av,Aw,Option.toList,Ay,Az,Xa,Tryz.f63,h25,h26,h27,hlt,h6,hx,hld,q,hw]
  refine WX.mono (tT g lo tok off vs ess hr hv hl S0 hlo m (i + 1) _ S' v' (by omega) ?_ ?_ ?_ ?_ ha' (Nat.le_trans hn hn') (fun id hid=>(hk' id hid).trans (hk id hid))) (fun r h=>h)
  ·simp only [A0,Nat.reduceEqDiff,Ab,h25]
  ·simp only [A0,Nat.reduceEqDiff,Ab,h26]; rfl
  ·simp only [A0,Nat.reduceEqDiff,Aa]; rfl
  ·simp only [A0,Nat.reduceEqDiff,Aa,Ab]
theorem fnOk94:∃ fn,E1.F 94=some fn:=Option.isSome_iff_exists.1 (by kernel_rfl)
theorem knows94:E1.I 94=some (Vw 6):=by kernel_rfl
def Keeps (S S':St):Prop:=S.next ≤ S'.next ∧ ∀ id,id < S.next → S'.mem.get id=S.mem.get id
theorem concat_w (tok off:Nat) (vs:List AV) (ess:List (List AV)) (hr:Xl vs ess) (hv:vs.length ≤ 1000) (hl:Ux ess ≤ 3000) (S:St) (hS:2 ≤ S.next):WC E1 63 [.sl tok off 1 vs] S (fun r=>∃ v S',r=.ret v S' ∧ rowN v ess.flatten ∧ Keeps S S'):=by
 refine Dt Tryz.f63 (by kernel_rfl) (by kernel_rfl) (by kernel_rfl) (by show (_:Nat) ≤ _;simp [Tryz.f63]) ?_
 obtain ⟨fn1,hf1⟩:=fnOk94
 have key:=fun t h0 h9 h10 h11 h3=>tU tok off vs ess hr hv hl S vs.length 0 t (by omega) h0 h9 h10 h11 h3
 have key2:=fun g t S' v h25 h26 h27 h6 ha h2 h3=>tT g S.next tok off vs ess hr hv hl S hS vs.length 0 t S' v (by omega) h25 h26 h27 h6 ha h2 h3
 unfold Xb at key
 unfold Xa at key2
 simp only [Tryz.f63] at key key2
 have hL:=fun S=>len159 S tok off vs
 simp only [Bw,Bz,Di,Dj,Bp,A6,Cm,Bk,Bn,Bt,D0,C9,B0,A4,C0,C6,Cc,B6,C4,C5,Cv,Bf,A7,Cq,Bd,Bm,Bh,Dx,Bs,Bb,Bl,Ch,C7,C1,A5,Ba,A8,Cd,A0,A1,Bo,B5,ofOpt,ofOptS,A9,Cg,Fd,Bv,Bu,Bj,B7,By,Bg,Cn,Cy,C8,C3,Et,D1,Ey,Dd,B9,Da,Nat.reduceLT,Nat.reduceAdd,Nat.reduceEqDiff,Aa,Ab,reduceIte,Ac,Ad,Ae,Af,Ag,Ah,Ai,Aj,Ak,Al,Am,Ao,Ap,Aq,Ar,Au,Av,Aw,Option.toList,Ay,Az,Tryz.f63,hL]
 refine WX.mono (key _ ?_ ?_ ?_ ?_ ?_) ?_
 ·simp only [A0,A1,Nat.reduceEqDiff,Aa,Ab]
 ·simp only [A0,A1,Nat.reduceEqDiff,Aa,Ab]
 ·simp only [A0,A1,Nat.reduceEqDiff,Aa,Ab]; rfl
 ·simp only [A0,A1,Nat.reduceEqDiff,Aa,Ab]; rfl
 ·simp only [A0,A1,Nat.reduceEqDiff,Aa,Ab]; rfl
 rintro r ⟨t',rfl,h0,h3⟩
 simp only [Dl] at h0 h3
 simp only [Bw,Bz,Di,Dj,Bp,A6,Cm,Bk,Bn,Bt,D0,C9,B0,A4,C0,C6,Cc,B6,C4,C5,Cv,Bf,A7,Cq,Bd,Bm,Bh,Dx,Bs,Bb,Bl,Ch,C7,C1,A5,Ba,A8,Cd,A0,A1,Bo,B5,ofOpt,ofOptS,A9,Cg,Fd,Bv,Bu,Bj,B7,By,Bg,Cn,Cy,C8,C3,Et,D1,Ey,Dd,B9,Da,Nat.reduceLT,Nat.reduceAdd,Nat.reduceEqDiff,Aa,Ab,reduceIte,Ac,Ad,Ae,Af,Ag,Ah,Ai,Aj,Ak,Al,Am,Ao,Ap,Aq,Ar,Au,Av,Aw,Option.toList,Ay,Az,Tryz.f63,hL,h0,h3,hf1]
 refine Nl knows94 ?_
 unfold Vw
 simp only
 by_cases hz:((Ux ess:Nat):Int)=0
 ·rw [if_pos hz]
  simp only [Bw,Bz,Di,Dj,Bp,A6,Cm,Bk,Bn,Bt,D0,C9,B0,A4,C0,C6,Cc,B6,C4,C5,Cv,Bf,A7,Cq,Bd,Bm,Bh,Dx,Bs,Bb,Bl,Ch,C7,C1,A5,Ba,A8,Cd,A0,A1,Bo,B5,ofOpt,ofOptS,A9,Cg,Fd,Bv,Bu,Bj,B7,By,Bg,Cn,Cy,C8,C3,Et,D1,Ey,Dd,B9,Da,Nat.reduceLT,Nat.reduceAdd,Nat.reduceEqDiff,Aa,Ab,reduceIte,Ac,Ad,Ae,Af,Ag,Ah,Ai,Aj,Ak,Al,Am,Ao,Ap,Aq,Ar,Au,Av,Aw,Option.toList,Ay,Az,Tryz.f63,hL,h0,h3]
  refine WX.mono (key2 False _ S .nils ?_ ?_ ?_ ?_ (.inl ⟨rfl,rfl⟩) (Nat.le_refl _) (fun _ _=>rfl)) ?_
  ·simp only [A0,A1,Nat.reduceEqDiff,Aa,Ab,h0]
  ·simp only [A0,A1,Nat.reduceEqDiff,Aa,Ab]; rfl
  ·simp only [A0,A1,Nat.reduceEqDiff,Aa,Ab]; rfl
  ·simp only [A0,A1,Nat.reduceEqDiff,Aa,Ab]
  rintro r ⟨t2,S2,v,rfl,h6,ha,hn,hk⟩
  simp only [Bw,Bz,Di,Dj,Bp,A6,Cm,Bk,Bn,Bt,D0,C9,B0,A4,C0,C6,Cc,B6,C4,C5,Cv,Bf,A7,Cq,Bd,Bm,Bh,Dx,Bs,Bb,Bl,Ch,C7,C1,A5,Ba,A8,Cd,A0,A1,Bo,B5,ofOpt,ofOptS,A9,Cg,Fd,Bv,Bu,Bj,B7,By,Bg,Cn,Cy,C8,C3,Et,D1,Ey,Dd,B9,Da,Nat.reduceLT,Nat.reduceAdd,Nat.reduceEqDiff,Aa,Ab,reduceIte,Ac,Ad,Ae,Af,Ag,Ah,Ai,Aj,Ak,Al,Am,Ao,Ap,Aq,Ar,Au,Av,Aw,Option.toList,Ay,Az,Tryz.f63,h6]
  refine ⟨v,_,rfl,?_,hn,hk⟩
  rcases ha with h | ⟨tok,h,_,_,_,_,h9⟩
  ·exact .inl h
  ·exact .inr ⟨h9.resolve_right id,tok,0,h⟩
 ·rw [if_neg hz,if_pos ⟨by omega,by omega,by decide⟩]
  simp only [Bw,Bz,Di,Dj,Bp,A6,Cm,Bk,Bn,Bt,D0,C9,B0,A4,C0,C6,Cc,B6,C4,C5,Cv,Bf,A7,Cq,Bd,Bm,Bh,Dx,Bs,Bb,Bl,Ch,C7,C1,A5,Ba,A8,Cd,A0,A1,Bo,B5,ofOpt,ofOptS,A9,Cg,Fd,Bv,Bu,Bj,B7,By,Bg,Cn,Cy,C8,C3,Et,D1,Ey,Dd,B9,Da,Nat.reduceLT,Nat.reduceAdd,Nat.reduceEqDiff,Aa,Ab,reduceIte,Ac,Ad,Ae,Af,Ag,Ah,Ai,Aj,Ak,Al,Am,Ao,Ap,Aq,Ar,Au,Av,Aw,Option.toList,Ay,Az,Tryz.f63,hL,h0,h3]
  refine WX.mono (key2 True _ _ (.sl S.next 0 6 []) ?_ ?_ ?_ ?_ (.inr ⟨S.next,rfl,hS,Nat.le_refl _,Nat.lt_succ_self _,?_,.inr trivial⟩) (Nat.le_succ _) (fun id hid=>?_)) ?_
  ·simp only [A0,A1,Nat.reduceEqDiff,Aa,Ab,h0]
  ·simp only [A0,A1,Nat.reduceEqDiff,Aa,Ab]; rfl
  ·simp only [A0,A1,Nat.reduceEqDiff,Aa,Ab]; rfl
  ·simp only [A0,A1,Nat.reduceEqDiff,Aa,Ab]
  ·show (S.mem.set S.next _).get S.next=_
   rw [T.get_set,if_pos rfl]; rfl
  ·show (S.mem.set S.next _).get id=_
   rw [T.get_set,if_neg (by omega)]
  rintro r ⟨t2,S2,v,rfl,h6,ha,hn,hk⟩
  simp only [Bw,Bz,Di,Dj,Bp,A6,Cm,Bk,Bn,Bt,D0,C9,B0,A4,C0,C6,Cc,B6,C4,C5,Cv,Bf,A7,Cq,Bd,Bm,Bh,Dx,Bs,Bb,Bl,Ch,C7,C1,A5,Ba,A8,Cd,A0,A1,Bo,B5,ofOpt,ofOptS,A9,Cg,Fd,Bv,Bu,Bj,B7,By,Bg,Cn,Cy,C8,C3,Et,D1,Ey,Dd,B9,Da,Nat.reduceLT,Nat.reduceAdd,Nat.reduceEqDiff,Aa,Ab,reduceIte,Ac,Ad,Ae,Af,Ag,Ah,Ai,Aj,Ak,Al,Am,Ao,Ap,Aq,Ar,Au,Av,Aw,Option.toList,Ay,Az,Tryz.f63,h6]
  refine ⟨v,_,rfl,?_,hn,hk⟩
  rcases ha with h | ⟨tok,h,_⟩
  ·exact .inl h
  ·refine .inr ⟨fun e=>hz ?_,tok,0,h⟩
   rw [← Z1,e]; rfl
theorem s28:Fm Tryz.prog 28=some 1:=by kernel_rfl
def V4 (q:Nat) (b:Bool) (S:St):Prop:=S.mem.get q=some (.box [.v (.bool b)])
def Qu (q:Nat) (S S':St):Prop:=S.next ≤ S'.next ∧ ∀ id,id < S.next → id ≠ q → S'.mem.get id=S.mem.get id
theorem Qu.refl (q:Nat) (S:St):Qu q S S:=⟨Nat.le_refl _,fun _ _ _=>rfl⟩
theorem Qu.trans {q:Nat} {S S1 S2:St} (h:Qu q S S1) (k:Qu q S1 S2):Qu q S S2:=⟨Nat.le_trans h.1 k.1,fun id hid hn=>(k.2 id (Nat.lt_of_lt_of_le hid h.1) hn).trans (h.2 id hid hn)⟩
theorem En.b {q:Nat} {S S':St} (h:En S S'):Qu q S S':=⟨h.1,fun id hid _=>h.2 id hid⟩
def oX (q:Nat) (L:List (Nat × List AV)) (S:St):Prop:=2 ≤ S.next ∧ q < S.next ∧ ∀ x ∈ L,x.1 ≠ q ∧ x.1 < S.next ∧ S.mem.get x.1=some (.box x.2)
theorem oX.keep {q:Nat} {L:List (Nat × List AV)} {S S':St} (h:oX q L S) (k:Qu q S S'):oX q L S':=⟨Nat.le_trans h.1 k.1,Nat.lt_of_lt_of_le h.2.1 k.1,fun x hx=>⟨(h.2.2 x hx).1,Nat.lt_of_lt_of_le (h.2.2 x hx).2.1 k.1,(k.2 _ (h.2.2 x hx).2.1 (h.2.2 x hx).1).trans (h.2.2 x hx).2.2⟩⟩
theorem V4.keep {q:Nat} {b:Bool} {S S':St} (h:V4 q b S) (hq:q < S.next) (k:En S S'):V4 q b S':=(k.2 q hq).trans h
inductive AllP (B:PE → Prop):PE → Prop where
 | mk (kind pos:Nat) (n:Int) (name:List UInt8) (off:Bool) (kids:List PE) (h:B (.mk kind pos n name off kids)) (hk:∀ e ∈ kids,AllP B e):AllP B (.mk kind pos n name off kids)
section
variable {q K:Nat} {L:List (Nat × List AV)} {caps:List AV} {B:PE → Prop}
end
theorem fnOk56:∃ fn,E1.F 56=some fn:=Option.isSome_iff_exists.1 (by kernel_rfl)
theorem lH (l:List UInt8) (S:St) (hS:2 ≤ S.next) (hsz:l.length ≤ 1000000) (out:(Nat × Nat) ⊕ List Tk) (hlx:Kd l=some out) (n:Nat) (hn:n ≤ 1000000) (hok:Jz n out ≠ none):WC E1 19 [Bq l] S (ReadPost S (Jz n out)):=by
 refine Dt Tryz.f19 (by kernel_rfl) (by kernel_rfl) (by kernel_rfl) (by show (_:Nat) ≤ _;simp [Tryz.f19]) ?_
 obtain ⟨fn1,hf1⟩:=fnOk56
 have k1:=Cz S (Dh 0 0)
 simp only [A6,Bk,A4,Bf,A7,Bd,Bh,Bb,A5,Ba,A8,Cd,A0,A1,Bo,B5,ofOpt,ofOptS,A9,Cg,Nat.reduceLT,Nat.reduceEqDiff,Aa,Ab,Ac,Ae,Aj,Ak,Tryz.f19,Oi,hf1]
 refine WC.mono (read_p l (S.newBox (Dh 0 0)) (Nat.le_succ_of_le hS) hsz out hlx (fun x e=>mJ (e ▸ hlx)) n hn (fun ts e=>?_)) ?_
 ·subst e
  obtain ⟨a1,a2⟩:=Xt hlx
  refine ⟨a1,a2,fun e=>hok ?_⟩
  unfold Jz
  simp only
  rw [e]
 ·cases hR:Jz n out with
  | none=>exact absurd hR hok
  | some y =>
   cases y with
   | inl ns =>
    rintro _ ⟨v,S2,rfl,hv,k2⟩
    have g5:S2.mem.get S.next=some (.box (Dh 0 0)):=(k2.2 _ (Nat.lt_succ_self _)).trans (Cu S _)
    have q4:Dk Tryz.prog S2 33 (.ptr S.next 0) (.agg (Dh 0 0))=some (S2.put S.next (Dh 0 0)):=Qe g5 rfl rfl
    have q5:=Il S2 S.next (Dh 0 0) rfl
    simp only [B0,A4,Bf,A7,Bd,Bm,Bs,Bb,Bl,A5,Ba,A8,A0,A1,ofOpt,Cg,Bj,By,Bg,Cn,Nat.reduceLT,Nat.reduceEqDiff,Aa,Ab,Ac,Ag,Ah,Cp,q4,q5]
    exact ⟨v,_,rfl,hv,Eo (k1.trans k2) (Nat.le_refl _) _⟩
   | inr y =>
    rintro _ ⟨S2,rfl,k2⟩
    have g5:S2.mem.get S.next=some (.box (Dh 0 0)):=(k2.2 _ (Nat.lt_succ_self _)).trans (Cu S _)
    have q4:Dk Tryz.prog S2 33 (.ptr S.next 0) (.agg (Dh y.1 y.2))=some (S2.put S.next (Dh y.1 y.2)):=Qe g5 rfl rfl
    have q5:=Il S2 S.next (Dh y.1 y.2) rfl
    simp only [B0,A4,Bf,A7,Bd,Bm,Bs,Bb,Bl,A5,Ba,A8,A0,A1,ofOpt,Cg,Bj,By,Bg,Cn,Nat.reduceLT,Nat.reduceEqDiff,Aa,Ab,Ac,Ag,Ah,Cp,q4,q5]
    exact ⟨_,rfl,Eo (k1.trans k2) (Nat.le_refl _) _⟩
section
variable {p k:Nat} {ts:List Tk} (hts:TokOk ts)
include hts
end
end Go.Ax
noncomputable section
namespace Go.Ax
open Go.RowKit Go.Proofs
section
variable {E:Env} {n:Nat} {f:Fr} {S:St} {Q:O → Prop} {ops:Array Oper} {t:T AV} {ds:List Dfr}
theorem Be {o:Oper} {l:List Oper} {a:AV} {S':St}:Vx E n ops o l f S Q (some true) (.val a S')=dC E n ops l o.dst f a S' Q:=_root_.id rfl
theorem De {o:Oper} {l:List Oper} {S':St}:Vx E n ops o l f S Q (some true) (.skip S')=dC E n ops l o.dst f (.tup []) S' Q:=_root_.id rfl
theorem B3 {o:Oper} {l:List Oper} {k:FuncId} {args:List AV} {S':St}:Vx E n ops o l f S Q (some true) (.enter k args S')=WC E k args S' (retL E n ops l o.dst f Q):=_root_.id rfl
theorem Dr {l:List Oper} {a:AV}:dC E n ops l none f a S Q=WL E n ops l f S Q:=_root_.id rfl
theorem Bc {l:List Oper} {d:Nat} {a:AV}:dC E n ops l (some d) ⟨t,ds⟩ a S Q=(d < n ∧ WL E n ops l ⟨t.set d (some a),ds⟩ S Q):=_root_.id rfl
theorem Co {l:List Oper} {dst:Option Tmp} {a:AV}:retL E n ops l dst f Q (.ret a S)=dC E n ops l dst f a S Q:=_root_.id rfl
theorem G2 {o:Oper} {l:List RS}:WR E n ops (.re o :: l) f S Q=(D8 E ops o f.tmps S=true ∧ WR E n ops l f S Q):=_root_.id rfl
theorem Cs {o:Oper} {l:List RS} {a:AV} {S':St}:Yp E n ops o l f S Q (some true) (.val a S')=Wk E n ops l o.dst f a S' Q:=_root_.id rfl
theorem Qr {o:Oper} {l:List RS} {S':St}:Yp E n ops o l f S Q (some true) (.skip S')=Wk E n ops l o.dst f (.tup []) S' Q:=_root_.id rfl
theorem Df {o:Oper} {l:List RS} {k:FuncId} {args:List AV} {S':St}:Yp E n ops o l f S Q (some true) (.enter k args S')=WC E k args S' (qW E n ops l o.dst f Q):=_root_.id rfl
theorem Ql {l:List RS} {a:AV}:Wk E n ops l none f a S Q=WR E n ops l f S Q:=_root_.id rfl
theorem Cj {l:List RS} {d:Nat} {a:AV}:Wk E n ops l (some d) ⟨t,ds⟩ a S Q=(d < n ∧ WR E n ops l ⟨t.set d (some a),ds⟩ S Q):=_root_.id rfl
theorem Dz {l:List RS} {dst:Option Tmp} {a:AV}:qW E n ops l dst f Q (.ret a S)=Wk E n ops l dst f a S Q:=_root_.id rfl
theorem Ce {x y:Prop}:bX (some (.v (.bool true))) x y=x:=_root_.id rfl
theorem Cf {x y:Prop}:bX (some (.v (.bool false))) x y=y:=_root_.id rfl
theorem Ct {b:Code} {id:Nat}:vA E n b Q (.out (.exit id) f S)=Q (.out (.exit id) f S):=_root_.id rfl
theorem B4 {b:Code}:vA E n b Q (.out .ret f S)=Q (.out .ret f S):=_root_.id rfl
theorem Br {id:Nat}:Q0 id Q (.out .normal f S)=Q (.out .normal f S):=_root_.id rfl
theorem B1 {id:Nat}:Q0 id Q (.out .ret f S)=Q (.out .ret f S):=_root_.id rfl
theorem Dy {id id':Nat}:Q0 id Q (.out (.exit id') f S)=if id' = id then Q (.out .normal f S) else Q (.out (.exit id') f S):=_root_.id rfl
theorem Dm {g:Fr}:fixQ ops g Q (.out .normal f S)=Q (.out .normal f S):=_root_.id rfl
end
end Go.Ax
noncomputable section
namespace Go.Ax
open Go.RowKit Go.Proofs
set_option maxRecDepth 100000
def stB (s w:List UInt8) (a:Nat):Bool:=decide (a + w.length ≤ s.length) && decide ((s.drop a).take w.length=w)
def P9 (name:List UInt8):List (Int × List UInt8):=[(3,name),(13,name),(6,name),(7,[105,102]),(8,[45,62]),(9,[102,98,121]),(10,[112,114,101]),(11,[119,104,101,110]),(12,[109,101,114,103,101]),(14,[97,119,97,105,116]),(5,[110,111,116]),(4,[45])]
def K4:List (Int × List UInt8) → Int → List UInt8
 | [],_=>[]
 | (a,s) :: r,k=>if k=a then s else K4 r k
def kindOf:PE → Nat
 | .mk kind _ _ _ _ _=>kind
def zP:PE → Nat
 | .mk _ pos _ _ _ _=>pos
def nameOf:PE → List UInt8
 | .mk _ _ _ name _ _=>name
def cS (e:PE):List UInt8:=K4 (P9 (nameOf e)) (kindOf e:Int)
def Sat {α:Type} (Q:α → Nat → Prop) (x:PR α):Prop:=x ≠ .out ∧ ∀ a j,x=.ok a j → Q a j
theorem Sat.ok {α:Type} {Q:α → Nat → Prop} {a:α} {j:Nat} (h:Q a j):Sat Q (.ok a j):=⟨(fun e=>by cases e),(fun a' j' e=>by injection e with e1 e2; subst e1; subst e2; exact h)⟩
theorem Sat.bad {α:Type} {Q:α → Nat → Prop} {a e:Nat}:Sat Q (.bad a e):=⟨(fun e=>by cases e),(fun _ _ e=>by cases e)⟩
theorem Sat.bind {α β:Type} {Q:α → Nat → Prop} {R:β → Nat → Prop} {x:PR α} {f:α → Nat → PR β} (hx:Sat Q x) (hf:∀ a j,Q a j → Sat R (f a j)):Sat R (x.bind f):=by
 cases x with
 | ok a j=>exact hf a j (hx.2 a j rfl)
 | bad a e=>exact Sat.bad
 | out=>exact absurd rfl hx.1
theorem Sat.mono {α:Type} {Q R:α → Nat → Prop} {x:PR α} (hx:Sat Q x) (h:∀ a j,Q a j → R a j):Sat R x:=⟨hx.1,fun a j e=>h a j (hx.2 a j e)⟩
theorem Sat.ite {α:Type} {Q:α → Nat → Prop} {c:Prop} [Decidable c] {x y:PR α} (h1:c → Sat Q x) (h2:¬ c → Sat Q y):Sat Q (if c then x else y):=by
 by_cases h:c
 ·rw [if_pos h]; exact h1 h
 ·rw [if_neg h]; exact h2 h
section
variable {ts:List Tk} (hts:TokOk ts)
include hts
theorem Hp {i:Nat} (hi:i < ts.length) {ws:List (List UInt8)} (hw:[] ∉ ws) (h:(tk ts i).text ∈ ws):i + 1 < ts.length:=by
 rw [Ml hi] at h
 exact hts.next hi (fun e=>hw (e ▸ h))
theorem Jj {i:Nat} (hi:i < ts.length) {ws:List (List UInt8)} (hw:[] ∉ ws):Sat (fun t j=>t=tk ts i ∧ j=i + 1 ∧ j < ts.length ∧ t.text ∈ ws) (Ea ts ws i):=by
 unfold Ea
 exact .ite (fun h=>.ok ⟨rfl,rfl,Hp hts hi hw h,h⟩) (fun _=>.bad)
theorem Ve {i:Nat} (hi:i < ts.length) {kd:Nat} (hk:kd ≠ 5):Sat (fun t j=>t=tk ts i ∧ j=i + 1 ∧ j < ts.length) (Gi ts kd i):=by
 unfold Gi
 exact .ite (fun h=>.ok ⟨rfl,rfl,hts.more i hi (by rw [← Ml hi,h]; exact hk)⟩) (fun _=>.bad)
theorem clock_s {i:Nat} (hi:i < ts.length):Sat (fun _ j=>i < j ∧ j < ts.length) (Ip ts i):=by
 unfold Ip
 refine .ite (fun h=>?_) (fun _=>?_)
 ·have:=Hp hts hi (ws:=[[110,111,116]]) (by decide) h
  exact (Ve hts this (by decide)).bind fun t j h=>.ok ⟨by omega,h.2.2⟩
 ·exact (Ve hts hi (by decide)).bind fun t j h=>.ok ⟨by omega,h.2.2⟩
end
def R9 (s:List UInt8) (ts:List Tk):Prop:=∀ i,i < ts.length → stB s (tk ts i).text (tk ts i).pos=true
def P4 (s:List UInt8) (e:PE):Prop:=stB s (cS e) (zP e)=true
theorem stB_nil {s w:List UInt8} {a:Nat} (h:stB s w a=true):stB s [] a=true:=by
 unfold stB at h ⊢
 rw [Bool.and_eq_true] at h
 have:=h.1
 simp at this ⊢; omega
section
variable {ts:List Tk} (hts:TokOk ts) {s:List UInt8} (hat:R9 s ts)
include hts hat
theorem num_s {i:Nat} (hi:i < ts.length):Sat (fun e j=>i < j ∧ j < ts.length ∧ AllP (P4 s) e) (Mg ts i):=by
 have h0:ts[i]? = some (tk ts i):=by rw [Ml hi]; exact List.getElem?_eq_getElem hi
 have hg:=stB_nil (hat i hi)
 unfold Mg
 rw [h0]
 simp only
 refine .ite (fun h=>?_) (fun _=>?_)
 ·have h1:i + 1 < ts.length:=Hp hts hi (ws:=[[45]]) (by decide) (by rw [h]; simp)
  have h2:ts[i + 1]? = some (tk ts (i + 1)):=by rw [Ml h1]; exact List.getElem?_eq_getElem h1
  rw [h2]
  simp only
  refine .ite (fun h3=>?_) (fun _=>.bad)
  exact .ok ⟨by omega,hts.more _ h1 (by rw [← Ml h1,h3]; decide),.mk _ _ _ _ _ _ hg (fun _ h=>by cases h)⟩
 ·refine .ite (fun h3=>?_) (fun _=>.bad)
  refine .ite (fun _=>.bad) (fun _=>?_)
  exact .ok ⟨by omega,hts.more _ hi (by rw [← Ml hi,h3]; decide),.mk _ _ _ _ _ _ hg (fun _ h=>by cases h)⟩
omit hts hat in
theorem good_bin {pos:Nat} {w:List UInt8} {x y:PE} (h:stB s w pos=true) (hx:AllP (P4 s) x) (hy:AllP (P4 s) y):AllP (P4 s) (.mk 6 pos 0 w false [x,y]):=by
 refine .mk _ _ _ _ _ _ ?_ (fun e he=>?_)
 ·show stB s (K4 (P9 w) _) _=true
  simpa [P9,K4,kindOf,zP] using h
 ·simp at he; rcases he with rfl | rfl
  ·exact hx
  ·exact hy
omit hts hat in
theorem Ps {k pos:Nat} {name w:List UInt8} {n:Int} {off:Bool} {kids:List PE} (hk:K4 (P9 name) (k:Int)=w) (h:stB s w pos=true) (hkids:∀ e ∈ kids,AllP (P4 s) e):AllP (P4 s) (.mk k pos n name off kids):=by
 refine .mk _ _ _ _ _ _ ?_ hkids
 show stB s (K4 (P9 name) (k:Int)) pos=true
 rw [hk]; exact h
theorem yY {lo:Nat} {ws:List (List UInt8)} (hw:[] ∉ ws) {kid:Nat → PR PE} (hk:∀ i,lo ≤ i → i < ts.length → Sat (fun e j=>i < j ∧ j < ts.length ∧ AllP (P4 s) e) (kid i)):∀ (n:Nat) (x:PE) (i:Nat),lo ≤ i → i < ts.length → AllP (P4 s) x → ts.length - i < n → Sat (fun e j=>i ≤ j ∧ j < ts.length ∧ AllP (P4 s) e) (Kw ts ws kid n x i)
 | 0,x,i,h1,h2,h3,h4=>absurd h4 (Nat.not_lt_zero _)
 | n + 1,x,i,h1,h2,h3,h4=>by
  unfold Kw
  refine .ite (fun h=>?_) (fun _=>.ok ⟨Nat.le_refl _,h2,h3⟩)
  have h5:=Hp hts h2 hw h
  refine (hk (i + 1) (by omega) h5).bind fun y j ⟨a,b,c⟩=>?_
  exact (yY hw hk n _ j (by omega) b (good_bin (hat i h2) h3 c) (by omega)).mono fun e m ⟨a2,b2,c2⟩=>⟨by omega,b2,c2⟩
theorem when_s:∀ (n:Nat) (x:PE) (i:Nat),i < ts.length → AllP (P4 s) x → ts.length - i < n → Sat (fun e j=>i ≤ j ∧ j < ts.length ∧ AllP (P4 s) e) (Ky ts n x i)
 | 0,x,i,h2,h3,h4=>absurd h4 (Nat.not_lt_zero _)
 | n + 1,x,i,h2,h3,h4=>by
  unfold Ky
  refine .ite (fun h=>?_) (fun _=>.ok ⟨Nat.le_refl _,h2,h3⟩)
  have h5:=Hp hts h2 (ws:=[[119,104,101,110]]) (by decide) h
  have hg:=hat i h2
  rw [show (tk ts i).text=[119,104,101,110] by simpa using h] at hg
  refine (clock_s hts h5).bind fun c j ⟨a,b⟩=>?_
  exact (when_s n _ j b (Ps (by simp [P9,K4]) hg (fun e he=>by simp at he; subst he; exact h3)) (by omega)).mono fun e m ⟨a2,b2,c2⟩=>⟨by omega,b2,c2⟩
omit hat in
theorem rest_s {lo:Nat} {kid:Nat → PR PE} (hk:∀ i,lo ≤ i → i < ts.length → Sat (fun e j=>i < j ∧ j < ts.length ∧ AllP (P4 s) e) (kid i)):∀ (n:Nat) (l:List PE) (i:Nat),lo ≤ i → i < ts.length → (∀ e ∈ l,AllP (P4 s) e) → ts.length - i < n → Sat (fun l j=>i < j ∧ j < ts.length ∧ ∀ e ∈ l,AllP (P4 s) e) (Hy ts kid n l i)
 | 0,l,i,h1,h2,h3,h4=>absurd h4 (Nat.not_lt_zero _)
 | n + 1,l,i,h1,h2,h3,h4=>by
  unfold Hy
  refine .ite (fun h=>?_) (fun _=>?_)
  ·have h5:=Hp hts h2 (ws:=[[44]]) (by decide) h
   refine (hk (i + 1) (by omega) h5).bind fun y j ⟨a,b,c⟩=>?_
   exact (rest_s hk n _ j (by omega) b (fun e he=>(List.mem_append.1 he).elim (fun he=>h3 e he) (fun he=>by simp at he; subst he; exact c)) (by omega)).mono fun e m ⟨a2,b2,c2⟩=>⟨by omega,b2,c2⟩
  ·exact (Jj hts h2 (ws:=[[41]]) (by decide)).bind fun _ j ⟨_,a,b,_⟩=>.ok ⟨by omega,b,h3⟩
omit hat in
theorem list_s {i:Nat} {kid:Nat → PR PE} (hk:∀ i',i < i' → i' < ts.length → Sat (fun e j=>i' < j ∧ j < ts.length ∧ AllP (P4 s) e) (kid i')) (n:Nat) (hi:i < ts.length) (hn:ts.length - i ≤ n):Sat (fun l j=>i < j ∧ j < ts.length ∧ ∀ e ∈ l,AllP (P4 s) e) (Kr ts kid n i):=by
 unfold Kr
 refine (Jj hts hi (ws:=[[40]]) (by decide)).bind fun _ j ⟨_,a,b,_⟩=>?_
 refine .ite (fun h=>?_) (fun _=>?_)
 ·exact .ok ⟨by omega,Hp hts b (ws:=[[41]]) (by decide) h,fun e he=>by cases he⟩
 ·refine (hk j (by omega) b).bind fun x m ⟨a1,b1,c1⟩=>?_
  exact (rest_s hts (lo:=i + 1) (fun i' h1 h2=>hk i' (by omega) h2) n [x] m (by omega) b1 (fun e he=>by simp at he; subst he; exact c1) (by omega)).mono fun e m ⟨a2,b2,c2⟩=>⟨by omega,b2,c2⟩
omit hts in
theorem truth_s {i:Nat} (hi:i < ts.length):AllP (P4 s) (Kl (tk ts i)):=Ps rfl (stB_nil (hat i hi)) (fun e he=>by cases he)
omit hts hat in
def Jr:NT → Nat
 | .expr=>12 | .arrow=>11 | .or=>10 | .and=>9 | .not=>8 | .sum=>7 | .term=>6 | .unary=>5 | .when=>4 | .primary=>3 | .name=>2 | .brk=>2 | .call=>1 | .lit=>0
theorem P_s:∀ (n:Nat) (nt:NT) (i:Nat),i < ts.length → 16 * (ts.length - i) + Jr nt < n → Sat (fun e j=>i < j ∧ j < ts.length ∧ AllP (P4 s) e) (P ts n nt i)
 | 0,nt,i,hi,hn=>absurd hn (Nat.not_lt_zero _)
 | n + 1,nt,i,hi,hn=>by
  have ih:=fun (nt:NT) (i':Nat) (h1:i' < ts.length) (h2:16 * (ts.length - i') + Jr nt < n)=>P_s n nt i' h1 h2
  have later:∀ (nt:NT) (i':Nat),i < i' → i' < ts.length → Sat (fun e j=>i' < j ∧ j < ts.length ∧ AllP (P4 s) e) (P ts n nt i'):=fun nt i' h1 h2=>ih nt i' h2 (by cases nt <;> simp only [Jr] <;> omega)
  have two:∀ {x y:PE},AllP (P4 s) x → AllP (P4 s) y → ∀ e ∈ [x,y],AllP (P4 s) e:=fun hx hy e he=>by
   simp at he; rcases he with rfl | rfl
   ·exact hx
   ·exact hy
  have one:∀ {x:PE},AllP (P4 s) x → ∀ e ∈ [x],AllP (P4 s) e:=fun hx e he=>by simp at he; subst he; exact hx
  cases nt with
  | expr =>
   simp only [Jr] at hn
   show Sat _ (if _ then _ else _)
   refine .ite (fun h=>?_) (fun _=>ih .arrow i hi (by simp only [Jr]; omega))
   have h5:=Hp hts hi (ws:=[[105,102]]) (by decide) h
   have hg:=hat i hi
   rw [show (tk ts i).text=[105,102] by simpa using h] at hg
   refine (later .expr (i + 1) (by omega) h5).bind fun c j ⟨a1,b1,c1⟩=>?_
   refine (Jj hts b1 (by decide)).bind fun _ j2 ⟨_,a2,b2,_⟩=>?_
   refine (later .expr j2 (by omega) b2).bind fun y j3 ⟨a3,b3,c3⟩=>?_
   refine (Jj hts b3 (by decide)).bind fun _ j4 ⟨_,a4,b4,_⟩=>?_
   refine (later .expr j4 (by omega) b4).bind fun z j5 ⟨a5,b5,c5⟩=>?_
   refine .ok ⟨by omega,b5,Ps (by simp [P9,K4]) hg (fun e he=>?_)⟩
   simp at he; rcases he with rfl | rfl | rfl
   ·exact c1
   ·exact c3
   ·exact c5
  | arrow =>
   simp only [Jr] at hn
   show Sat _ (PR.bind _ _)
   refine (ih .or i hi (by simp only [Jr]; omega)).bind fun x j ⟨a1,b1,c1⟩=>?_
   refine .ite (fun h=>?_) (fun _=>.ite (fun _=>.ok ⟨a1,b1,c1⟩) (fun _=>.ite (fun h=>?_) (fun _=>.ok ⟨a1,b1,c1⟩)))
   ·have h5:=Hp hts b1 (ws:=[[45,62]]) (by decide) h
    have hg:=hat j b1
    rw [show (tk ts j).text=[45,62] by simpa using h] at hg
    refine (later .arrow (j + 1) (by omega) h5).bind fun y m ⟨a2,b2,c2⟩=>.ok ⟨by omega,b2,Ps (by simp [P9,K4]) hg (two c1 c2)⟩
   ·have h5:=Hp hts b1 (ws:=[[102,98,121]]) (by decide) h
    have hg:=hat j b1
    rw [show (tk ts j).text=[102,98,121] by simpa using h] at hg
    refine (later .arrow (j + 1) (by omega) h5).bind fun y m ⟨a2,b2,c2⟩=>.ok ⟨by omega,b2,Ps (by simp [P9,K4]) hg (two c1 c2)⟩
  | or =>
   simp only [Jr] at hn
   show Sat _ (PR.bind _ _)
   refine (ih .and i hi (by simp only [Jr]; omega)).bind fun x j ⟨a1,b1,c1⟩=>?_
   exact (yY hts hat (lo:=i + 1) (by decide) (fun i' h1 h2=>later .and i' (by omega) h2) n x j (by omega) b1 c1 (by omega)).mono fun e m ⟨a2,b2,c2⟩=>⟨by omega,b2,c2⟩
  | and =>
   simp only [Jr] at hn
   show Sat _ (PR.bind _ _)
   refine (ih .not i hi (by simp only [Jr]; omega)).bind fun x j ⟨a1,b1,c1⟩=>?_
   exact (yY hts hat (lo:=i + 1) (by decide) (fun i' h1 h2=>later .not i' (by omega) h2) n x j (by omega) b1 c1 (by omega)).mono fun e m ⟨a2,b2,c2⟩=>⟨by omega,b2,c2⟩
  | not =>
   simp only [Jr] at hn
   show Sat _ (if _ then _ else _)
   refine .ite (fun h=>?_) (fun _=>?_)
   ·have h5:=Hp hts hi (ws:=[[110,111,116]]) (by decide) h
    have hg:=hat i hi
    rw [show (tk ts i).text=[110,111,116] by simpa using h] at hg
    exact (later .not (i + 1) (by omega) h5).bind fun x j ⟨a,b,c⟩=>.ok ⟨by omega,b,Ps (by simp [P9,K4]) hg (one c)⟩
   ·refine (ih .sum i hi (by simp only [Jr]; omega)).bind fun x j ⟨a1,b1,c1⟩=>?_
    refine .ite (fun h=>?_) (fun _=>.ok ⟨a1,b1,c1⟩)
    have h5:=Hp hts b1 (ws:=[[61],[60,62],[60],[60,61],[62],[62,61]]) (by decide) h
    exact (later .sum (j + 1) (by omega) h5).bind fun y m ⟨a2,b2,c2⟩=>.ok ⟨by omega,b2,good_bin (hat j b1) c1 c2⟩
  | sum =>
   simp only [Jr] at hn
   show Sat _ (PR.bind _ _)
   refine (ih .term i hi (by simp only [Jr]; omega)).bind fun x j ⟨a1,b1,c1⟩=>?_
   exact (yY hts hat (lo:=i + 1) (by decide) (fun i' h1 h2=>later .term i' (by omega) h2) n x j (by omega) b1 c1 (by omega)).mono fun e m ⟨a2,b2,c2⟩=>⟨by omega,b2,c2⟩
  | term =>
   simp only [Jr] at hn
   show Sat _ (PR.bind _ _)
   refine (ih .unary i hi (by simp only [Jr]; omega)).bind fun x j ⟨a1,b1,c1⟩=>?_
   exact (yY hts hat (lo:=i + 1) (by decide) (fun i' h1 h2=>later .unary i' (by omega) h2) n x j (by omega) b1 c1 (by omega)).mono fun e m ⟨a2,b2,c2⟩=>⟨by omega,b2,c2⟩
  | unary =>
   simp only [Jr] at hn
   show Sat _ (if _ then _ else _)
   refine .ite (fun h=>?_) (fun _=>.ite (fun _=>num_s hts hat hi) (fun _=>.ite (fun h=>?_) (fun _=>ih .when i hi (by simp only [Jr]; omega))))
   ·have h5:=Hp hts hi (ws:=[[112,114,101]]) (by decide) h
    have hg:=hat i hi
    rw [show (tk ts i).text=[112,114,101] by simpa using h] at hg
    exact (later .unary (i + 1) (by omega) h5).bind fun x j ⟨a,b,c⟩=>.ok ⟨by omega,b,Ps (by simp [P9,K4]) hg (one c)⟩
   ·have h5:=Hp hts hi (ws:=[[45]]) (by decide) h
    have hg:=hat i hi
    rw [show (tk ts i).text=[45] by simpa using h] at hg
    exact (later .unary (i + 1) (by omega) h5).bind fun x j ⟨a,b,c⟩=>.ok ⟨by omega,b,Ps (by simp [P9,K4]) hg (one c)⟩
  | when =>
   simp only [Jr] at hn
   show Sat _ (PR.bind _ _)
   refine (ih .primary i hi (by simp only [Jr]; omega)).bind fun x j ⟨a1,b1,c1⟩=>?_
   exact (when_s hts hat n x j b1 c1 (by omega)).mono fun e m ⟨a2,b2,c2⟩=>⟨by omega,b2,c2⟩
  | primary =>
   simp only [Jr] at hn
   show Sat _ (if _ then _ else _)
   refine .ite (fun _=>num_s hts hat hi) (fun _=>.ite (fun _=>ih .name i hi (by simp only [Jr]; omega)) (fun _=>.ite (fun h=>?_) (fun _=>.ite (fun h=>?_) (fun _=>.ite (fun h=>?_) (fun _=>ih .brk i hi (by simp only [Jr]; omega))))))
   ·exact .ok ⟨by omega,Hp hts hi (ws:=[[116,114,117,101],[102,97,108,115,101]]) (by decide) (by simpa using h),truth_s hat hi⟩
   ·have h5:=Hp hts hi (ws:=[[109,101,114,103,101]]) (by decide) (by simpa using h)
    have hg:=hat i hi
    rw [h] at hg
    refine (Ve hts h5 (by decide)).bind fun t j ⟨_,a1,b1⟩=>?_
    refine (later .brk j (by omega) b1).bind fun x j2 ⟨a2,b2,c2⟩=>?_
    refine (later .brk j2 (by omega) b2).bind fun y j3 ⟨a3,b3,c3⟩=>?_
    exact .ok ⟨by omega,b3,Ps (by simp [P9,K4]) hg (two c2 c3)⟩
   ·have h5:=Hp hts hi (ws:=[[97,119,97,105,116]]) (by decide) (by simpa using h)
    have hg:=hat i hi
    rw [h] at hg
    refine (Ve hts h5 (by decide)).bind fun t j ⟨_,a1,b1⟩=>?_
    refine .ite (fun h=>?_) (fun _=>.ok ⟨by omega,b1,Ps (by simp [P9,K4]) hg (fun e he=>by cases he)⟩)
    have h6:=Hp hts b1 (ws:=[[97,102,116,101,114]]) (by decide) h
    refine (Jj hts h6 (by decide)).bind fun _ j2 ⟨_,a2,b2,_⟩=>?_
    refine (later .lit j2 (by omega) b2).bind fun x m ⟨a3,b3,c3⟩=>?_
    refine (rest_s hts (lo:=i + 1) (fun i' h1 h2=>later .lit i' (by omega) h2) n [x] m (by omega) b3 (one c3) (by omega)).bind fun l m2 ⟨a4,b4,c4⟩=>?_
    exact .ok ⟨by omega,b4,Ps (by simp [P9,K4]) hg c4⟩
  | name =>
   simp only [Jr] at hn
   show Sat _ (if _ then _ else _)
   refine .ite (fun _=>ih .call i hi (by simp only [Jr]; omega)) (fun _=>?_)
   refine (Ve hts hi (by decide)).bind fun t j ⟨h1,a1,b1⟩=>.ok ⟨by omega,b1,Ps (w:=t.text) (by simp [P9,K4]) (by rw [h1]; exact hat i hi) (fun e he=>by cases he)⟩
  | call =>
   simp only [Jr] at hn
   show Sat _ (PR.bind _ _)
   refine (Ve hts hi (by decide)).bind fun t j ⟨h1,a1,b1⟩=>?_
   refine (list_s hts (fun i' h1 h2=>later .expr i' (by omega) h2) n b1 (by omega)).bind fun l m ⟨a2,b2,c2⟩=>?_
   exact .ok ⟨by omega,b2,Ps (w:=t.text) (by simp [P9,K4]) (by rw [h1]; exact hat i hi) c2⟩
  | brk =>
   simp only [Jr] at hn
   show Sat _ (PR.bind _ _)
   refine (Jj hts hi (by decide)).bind fun _ j ⟨_,a1,b1,_⟩=>?_
   refine (later .expr j (by omega) b1).bind fun x j2 ⟨a2,b2,c2⟩=>?_
   exact (Jj hts b2 (by decide)).bind fun _ j3 ⟨_,a3,b3,_⟩=>.ok ⟨by omega,b3,c2⟩
  | lit =>
   simp only [Jr] at hn
   show Sat _ (if _ then _ else _)
   refine .ite (fun h=>?_) (fun _=>num_s hts hat hi)
   exact .ok ⟨by omega,Hp hts hi (ws:=[[116,114,117,101],[102,97,108,115,101]]) (by decide) h,truth_s hat hi⟩
end
def uI (s:List UInt8) (d:PD):Prop:=stB s d.name d.pos=true
def GoodL (s:List UInt8) (x:List UInt8 × Nat):Prop:=stB s x.1 x.2=true
def GoodQ (s:List UInt8) (L:Nat) (q:PQ):Prop:=(∀ x ∈ q.left,GoodL s x) ∧ AllP (fun e=>Wide e ∧ P4 s e) q.e ∧ q.left.length ≤ L
def uH (s:List UInt8) (L:Nat) (n:PN):Prop:=stB s n.name n.pos=true ∧ (∀ d ∈ n.ins ++ n.outs ++ n.vars,uI s d) ∧ (∀ q ∈ n.eqs,GoodQ s L q) ∧ n.ins.length + n.outs.length + n.vars.length ≤ L ∧ n.eqs.length ≤ L
theorem wide_all {B:PE → Prop}:∀ {e:PE},AllP B e → Wide e → AllP (fun e=>Wide e ∧ B e) e:=fun {e} h=>by
 induction h with
 | mk kind pos n name off kids hb hk ih =>
  intro hw
  have hw2:=hw
  cases hw with
  | mk _ _ _ _ _ _ hl hkw=>exact .mk _ _ _ _ _ _ ⟨hw2,hb⟩ (fun e he=>ih e he (hkw e he))
section
variable {ts:List Tk} (hts:TokOk ts) {s:List UInt8} (hat:R9 s ts)
include hts
theorem decl_s (hat:R9 s ts) {i:Nat} (hi:i < ts.length):Sat (fun d j=>i < j ∧ j < ts.length ∧ uI s d) (Iq ts i):=by
 unfold Iq
 refine (Ve hts hi (by decide)).bind fun t j ⟨h1,a1,b1⟩=>?_
 have hg:stB s t.text t.pos=true:=by rw [h1]; exact hat i hi
 refine (Jj hts b1 (by decide)).bind fun _ j2 ⟨_,a2,b2,_⟩=>?_
 refine .ite (fun h=>?_) (fun _=>?_)
 ·have h5:=Hp hts b2 (ws:=[[102,117,116,117,114,101]]) (by decide) h
  exact (Jj hts h5 (by decide)).bind fun u m ⟨_,a3,b3,_⟩=>.ok ⟨by omega,b3,hg⟩
 ·exact (Jj hts b2 (by decide)).bind fun u m ⟨_,a3,b3,_⟩=>.ok ⟨by omega,b3,hg⟩
theorem tL (hat:R9 s ts) {i:Nat} (hi:i < ts.length):Sat (fun d j=>i < j ∧ j < ts.length ∧ uI s d) (Gb ts i):=by
 unfold Gb
 refine (decl_s hts hat hi).bind fun d j ⟨a1,b1,c1⟩=>?_
 refine .ite (fun h=>?_) (fun _=>?_)
 ·have h5:=Hp hts b1 (ws:=[[119,104,101,110]]) (by decide) h
  refine (clock_s hts h5).bind fun c j2 ⟨a2,b2⟩=>?_
  exact (Jj hts b2 (by decide)).bind fun u m ⟨_,a3,b3,_⟩=>.ok ⟨by omega,b3,c1⟩
 ·exact (Jj hts b1 (by decide)).bind fun u m ⟨_,a3,b3,_⟩=>.ok ⟨by omega,b3,c1⟩
theorem vX (hat:R9 s ts) {i:Nat} (hi:i < ts.length):Sat (fun d j=>i < j ∧ j < ts.length ∧ GoodL s d) (Ie ts i):=by
 unfold Ie
 refine (Ve hts hi (by decide)).bind fun t j ⟨h1,a1,b1⟩=>.ok ⟨by omega,b1,?_⟩
 show stB s t.text t.pos=true
 rw [h1]; exact hat i hi
theorem vE {α:Type} {G:α → Prop} {kid:Nat → PR α} (hk:∀ i,i < ts.length → Sat (fun e j=>i < j ∧ j < ts.length ∧ G e) (kid i)):∀ (n:Nat) (l:List α) (i:Nat),i < ts.length → (∀ e ∈ l,G e) → ts.length - i < n → Sat (fun r j=>i < j ∧ j < ts.length ∧ (∀ e ∈ r,G e) ∧ r.length + i ≤ l.length + j) (Hj ts kid n l i)
 | 0,l,i,h2,h3,h4=>absurd h4 (Nat.not_lt_zero _)
 | n + 1,l,i,h2,h3,h4=>by
  unfold Hj
  refine .ite (fun h=>?_) (fun _=>?_)
  ·have h5:=Hp hts h2 (ws:=[[44]]) (by decide) h
   refine (hk (i + 1) h5).bind fun y j ⟨a,b,c⟩=>?_
   exact (vE hk n _ j b (fun e he=>(List.mem_append.1 he).elim (fun he=>h3 e he) (fun he=>by simp at he; subst he; exact c)) (by omega)).mono fun e m ⟨a2,b2,c2,d2⟩=>⟨by omega,b2,c2,by simp at d2; omega⟩
  ·exact (Jj hts h2 (ws:=[[41]]) (by decide)).bind fun _ j ⟨_,a,b,_⟩=>.ok ⟨by omega,b,h3,by omega⟩
theorem listA_s {α:Type} {G:α → Prop} {kid:Nat → PR α} (hk:∀ i,i < ts.length → Sat (fun e j=>i < j ∧ j < ts.length ∧ G e) (kid i)) (n:Nat) {i:Nat} (hi:i < ts.length) (hn:ts.length ≤ n):Sat (fun r j=>i < j ∧ j < ts.length ∧ (∀ e ∈ r,G e) ∧ r.length + i ≤ j) (Kb ts kid n i):=by
 unfold Kb
 refine (Jj hts hi (ws:=[[40]]) (by decide)).bind fun _ j ⟨_,a,b,_⟩=>?_
 refine .ite (fun h=>?_) (fun _=>?_)
 ·exact .ok ⟨by omega,Hp hts b (ws:=[[41]]) (by decide) h,(fun e he=>by cases he),by simp; omega⟩
 ·refine (hk j b).bind fun x m ⟨a1,b1,c1⟩=>?_
  exact (vE hts hk n [x] m b1 (fun e he=>by simp at he; subst he; exact c1) (by omega)).mono fun e m ⟨a2,b2,c2,d2⟩=>⟨by omega,b2,c2,by simp at d2; omega⟩
theorem vars_s (hat:R9 s ts):∀ (n:Nat) (l:List PD) (i:Nat),i < ts.length → (∀ e ∈ l,uI s e) → ts.length - i < n → Sat (fun r j=>i ≤ j ∧ j < ts.length ∧ (∀ e ∈ r,uI s e) ∧ r.length + i ≤ l.length + j) (J9 ts n l i)
 | 0,l,i,h2,h3,h4=>absurd h4 (Nat.not_lt_zero _)
 | n + 1,l,i,h2,h3,h4=>by
  unfold J9
  refine .ite (fun h=>?_) (fun _=>.ok ⟨Nat.le_refl _,h2,h3,Nat.le_refl _⟩)
  refine (tL hts hat h2).bind fun y j ⟨a,b,c⟩=>?_
  exact (vars_s hat n _ j b (fun e he=>(List.mem_append.1 he).elim (fun he=>h3 e he) (fun he=>by simp at he; subst he; exact c)) (by omega)).mono fun e m ⟨a2,b2,c2,d2⟩=>⟨by omega,b2,c2,by simp at d2; omega⟩
theorem lefts_s (hat:R9 s ts) (n:Nat) {i:Nat} (hi:i < ts.length) (hn:ts.length ≤ n):Sat (fun r j=>i < j ∧ j < ts.length ∧ (∀ e ∈ r,GoodL s e) ∧ r.length + i ≤ j) (Jk ts n i):=by
 unfold Jk
 refine .ite (fun _=>?_) (fun _=>?_)
 ·exact (vX hts hat hi).bind fun x j ⟨a,b,c⟩=>.ok ⟨a,b,(fun e he=>by simp at he; subst he; exact c),by simp; omega⟩
 ·refine (Jj hts hi (by decide)).bind fun _ j ⟨_,a1,b1,_⟩=>?_
  refine (vX hts hat b1).bind fun x j2 ⟨a2,b2,c2⟩=>?_
  refine (Jj hts b2 (by decide)).bind fun _ j3 ⟨_,a3,b3,_⟩=>?_
  refine Sat.bind (Q:=fun l m=>j3 < m ∧ m < ts.length ∧ (∀ e ∈ l,GoodL s e) ∧ l.length + j3 ≤ m) ?_ (fun l m ⟨a4,b4,c4,d4⟩=>.ok ⟨by omega,b4,fun e he=>?_,by simp; omega⟩)
  ·refine (vX hts hat b3).bind fun y m ⟨a5,b5,c5⟩=>?_
   exact (vE hts (fun i h=>vX hts hat h) n [y] m b5 (fun e he=>by simp at he; subst he; exact c5) (by omega)).mono fun e m ⟨a2,b2,c2,d2⟩=>⟨by omega,b2,c2,by simp at d2; omega⟩
  ·rcases List.mem_cons.1 he with rfl | he
   ·exact c2
   ·exact c4 e he
theorem cU (hat:R9 s ts) (n:Nat) (hn:16 * ts.length + 16 ≤ n) (hN:n ≤ 1000000) (nt:NT) {i:Nat} (hi:i < ts.length):Sat (fun e j=>i < j ∧ j < ts.length ∧ AllP (fun e=>Wide e ∧ P4 s e) e) (G9 (P ts n nt) i):=by
 unfold G9
 have h:=P_s hts hat n nt i hi (by cases nt <;> simp only [Jr] <;> omega)
 have h2:Sat (fun e j=>i < j ∧ j < ts.length ∧ AllP (fun e=>Wide e ∧ P4 s e) e) (P ts n nt i):=⟨h.1,fun e j he=>⟨(h.2 e j he).1,(h.2 e j he).2.1,wide_all (h.2 e j he).2.2 (oZ n hN nt _ _ _ he)⟩⟩
 refine h2.bind fun e j h=>?_
 exact .ite (fun _=>.bad) (fun _=>.ok h)
theorem eq_s (hat:R9 s ts) (n:Nat) (hn:16 * ts.length + 16 ≤ n) (hN:n ≤ 1000000) {i:Nat} (hi:i < ts.length):Sat (fun q j=>i < j ∧ j < ts.length ∧ GoodQ s ts.length q) (eqP ts n i):=by
 unfold eqP
 refine (lefts_s hts hat n hi (by omega)).bind fun ls j ⟨a1,b1,c1,d1⟩=>?_
 refine (Jj hts b1 (by decide)).bind fun _ j2 ⟨_,a2,b2,_⟩=>?_
 refine .ite (fun h=>?_) (fun _=>?_)
 ·have h5:=Hp hts b2 (ws:=[[97,115,121,110,99]]) (by decide) h
  refine (cU hts hat n hn hN .call h5).bind fun e m ⟨a3,b3,c3⟩=>?_
  exact (Jj hts b3 (by decide)).bind fun _ m2 ⟨_,a4,b4,_⟩=>.ok ⟨by omega,b4,c1,c3,by show ls.length ≤ _; omega⟩
 ·refine (cU hts hat n hn hN .expr b2).bind fun e m ⟨a3,b3,c3⟩=>?_
  exact (Jj hts b3 (by decide)).bind fun _ m2 ⟨_,a4,b4,_⟩=>.ok ⟨by omega,b4,c1,c3,by show ls.length ≤ _; omega⟩
theorem eqs_s (hat:R9 s ts) (N:Nat) (hN:16 * ts.length + 16 ≤ N) (hN2:N ≤ 1000000):∀ (n:Nat) (l:List PQ) (i:Nat),i < ts.length → (∀ e ∈ l,GoodQ s ts.length e) → ts.length - i < n → Sat (fun r j=>i ≤ j ∧ j < ts.length ∧ (∀ e ∈ r,GoodQ s ts.length e) ∧ r.length + i ≤ l.length + j) (Qz ts N n l i)
 | 0,l,i,h2,h3,h4=>absurd h4 (Nat.not_lt_zero _)
 | n + 1,l,i,h2,h3,h4=>by
  unfold Qz
  refine .ite (fun _=>.ok ⟨Nat.le_refl _,h2,h3,Nat.le_refl _⟩) (fun _=>?_)
  refine (eq_s hts hat N hN hN2 h2).bind fun y j ⟨a,b,c⟩=>?_
  exact (eqs_s hat N hN hN2 n _ j b (fun e he=>(List.mem_append.1 he).elim (fun he=>h3 e he) (fun he=>by simp at he; subst he; exact c)) (by omega)).mono fun e m ⟨a2,b2,c2,d2⟩=>⟨by omega,b2,c2,by simp at d2; omega⟩
theorem varsQ_s (hat:R9 s ts) (n:Nat) {i:Nat} (hi:i < ts.length) (hn:ts.length ≤ n):Sat (fun r j=>i ≤ j ∧ j < ts.length ∧ (∀ e ∈ r,uI s e) ∧ r.length + i ≤ j) (Ol ts n i):=by
 unfold Ol
 refine .ite (fun h=>?_) (fun _=>.ok ⟨Nat.le_refl _,hi,(fun e he=>by cases he),by simp⟩)
 have h5:=Hp hts hi (ws:=[[118,97,114]]) (by decide) h
 refine (tL hts hat h5).bind fun x m ⟨a,b,c⟩=>?_
 exact (vars_s hts hat n [x] m b (fun e he=>by simp at he; subst he; exact c) (by omega)).mono fun e m ⟨a2,b2,c2,d2⟩=>⟨by omega,b2,c2,by simp at d2; omega⟩
theorem node_s (hat:R9 s ts) (n:Nat) (hn:16 * ts.length + 16 ≤ n) (hN:n ≤ 1000000) {i:Nat} (hi:i < ts.length):Sat (fun q j=>i < j ∧ j < ts.length ∧ uH s ts.length q) (K3 ts n i):=by
 unfold K3
 refine (Jj hts hi (by decide)).bind fun _ j ⟨_,a1,b1,_⟩=>?_
 refine (Ve hts b1 (by decide)).bind fun t j2 ⟨h2,a2,b2⟩=>?_
 have hg:stB s t.text t.pos=true:=by rw [h2]; exact hat j b1
 refine (listA_s hts (fun i h=>decl_s hts hat h) n b2 (by omega)).bind fun ins j3 ⟨a3,b3,c3,d3⟩=>?_
 refine (Jj hts b3 (by decide)).bind fun _ j4 ⟨_,a4,b4,_⟩=>?_
 refine (listA_s hts (fun i h=>decl_s hts hat h) n b4 (by omega)).bind fun outs j5 ⟨a5,b5,c5,d5⟩=>?_
 refine (varsQ_s hts hat n b5 (by omega)).bind fun vars j6 ⟨a6,b6,c6,d6⟩=>?_
 refine (Jj hts b6 (by decide)).bind fun _ j7 ⟨_,a7,b7,_⟩=>?_
 refine (eqs_s hts hat n hn hN n [] j7 b7 (fun e he=>by cases he) (by omega)).bind fun qs j8 ⟨a8,b8,c8,d8⟩=>?_
 refine (Jj hts b8 (by decide)).bind fun _ j9 ⟨_,a9,b9,_⟩=>.ok ⟨by omega,b9,hg,fun d hd=>?_,c8,(by show ins.length + outs.length + vars.length ≤ _; omega),(by show qs.length ≤ _; simp at d8; omega)⟩
 rcases List.mem_append.1 hd with hd | hd
 ·rcases List.mem_append.1 hd with hd | hd
  ·exact c3 d hd
  ·exact c5 d hd
 ·exact c6 d hd
theorem prog_s (hat:R9 s ts) (N:Nat) (hN:16 * ts.length + 16 ≤ N) (hN2:N ≤ 1000000):∀ (n:Nat) (l:List PN) (i:Nat),i < ts.length → (∀ e ∈ l,uH s ts.length e) → ts.length - i < n → Sat (fun r j=>i ≤ j ∧ j < ts.length ∧ (∀ e ∈ r,uH s ts.length e) ∧ r.length + i ≤ l.length + j) (Lg ts N n l i)
 | 0,l,i,h2,h3,h4=>absurd h4 (Nat.not_lt_zero _)
 | n + 1,l,i,h2,h3,h4=>by
  unfold Lg
  refine .ite (fun _=>?_) (fun _=>.ok ⟨Nat.le_refl _,h2,h3,Nat.le_refl _⟩)
  refine (node_s hts hat N hN hN2 h2).bind fun y j ⟨a,b,c⟩=>?_
  exact (prog_s hat N hN hN2 n _ j b (fun e he=>(List.mem_append.1 he).elim (fun he=>h3 e he) (fun he=>by simp at he; subst he; exact c)) (by omega)).mono fun e m ⟨a2,b2,c2,d2⟩=>⟨by omega,b2,c2,by simp at d2; omega⟩
theorem rE (hat:R9 s ts) (n:Nat) (hn:16 * ts.length + 16 ≤ n) (hN:n ≤ 1000000) (h0:0 < ts.length):Sat (fun l j=>j < ts.length ∧ (∀ e ∈ l,uH s ts.length e) ∧ l.length ≤ ts.length) (Fg ts n 0):=by
 unfold Fg
 refine (node_s hts hat n hn hN h0).bind fun x j ⟨a,b,c⟩=>?_
 exact (prog_s hts hat n hn hN n [x] j b (fun e he=>by simp at he; subst he; exact c) (by omega)).mono fun e m ⟨a2,b2,c2,d2⟩=>⟨b2,c2,by simp at d2; omega⟩
end
theorem Sy (l:List UInt8) (k:Nat):l.take (l.take k).length=l.take k:=by
 rw [List.length_take]
 by_cases h:k ≤ l.length
 ·rw [Nat.min_eq_left h]
 ·rw [Nat.min_eq_right (by omega),List.take_of_length_le (Nat.le_refl _),List.take_of_length_le (by omega)]
theorem next_text {l:List UInt8} {i:Nat} {t:Tk} (h:Iv l i=some (t,0)):t.pos=i ∧ l.take t.text.length=t.text:=by
 unfold Iv at h
 split at h
 ·cases h
 ·rename_i b r
  split at h
  ·injection h with h
   unfold Oj at h
   split at h
   ·injection h with h1 h2; subst h1; exact ⟨rfl,Sy _ _⟩
   ·split at h
    ·injection h with h1 h2; cases h2
    ·injection h with h1 h2; subst h1; exact ⟨rfl,Sy _ _⟩
  ·split at h
   ·unfold Y8 at h
    split at h
    ·injection h with h; injection h with h1 h2; cases h2
    ·split at h
     ·split at h
      ·injection h with h; injection h with h1 h2; cases h2
      ·injection h with h; injection h with h1 h2; subst h1; exact ⟨rfl,Sy _ _⟩
     ·injection h with h; injection h with h1 h2; cases h2
   ·injection h with h
    unfold Mo at h
    split at h
    ·rename_i s hs
     injection h with h1 h2; subst h1
     have:=List.find?_some hs
     unfold Eu at this
     exact ⟨rfl,by simpa using this⟩
    ·injection h with h1 h2; cases h2
theorem allF_at (l:List UInt8):∀ (n i:Nat) (ts:List Tk),i ≤ l.length → P3 l n i=some (.inr ts) → ∀ j (h:j < ts.length),stB l ts[j].text ts[j].pos=true
 | 0,i,ts,hi,h,j,hj=>by cases h
 | n + 1,i,ts,hi,h,j,hj=>by
  unfold P3 at h
  split at h
  ·rename_i hil
   split at h
   ·cases h
   ·rename_i p hp
    split at h
    ·rename_i he
     split at h
     ·cases h
     ·cases h
     ·rename_i ts2 h2
      injection h with h; injection h with h; subst h
      have hq:Iv (l.drop i) i=some (p.1,0):=by rw [hp,← he]
      obtain ⟨t1,t2⟩:=next_text hq
      have t3:=aS hq
      rw [List.length_drop] at t3
      cases j with
      | zero =>
       show stB l p.1.text p.1.pos=true
       unfold stB
       rw [t1,t2,Bool.and_eq_true]
       exact ⟨decide_eq_true (by omega),decide_eq_true rfl⟩
      | succ j =>
       have hs:=Oo (l.length + 1) (l.drop (i + p.1.text.length))
       rw [List.length_drop] at hs
       exact allF_at l n _ ts2 (by omega) h2 j (by simpa using hj)
    ·cases h
  ·injection h with h; injection h with h; subst h
   have:j=0:=by simp at hj; exact hj
   subst this
   show stB l [] l.length=true
   unfold stB
   simp
theorem vW {l:List UInt8} {ts:List Tk} (h:Kd l=some (.inr ts)):R9 l ts:=by
 unfold Kd at h
 split at h
 ·cases h
 ·intro i hi
  rw [Ml hi]
  exact allF_at l _ _ ts (Oo _ _) h i hi
theorem oT (l:List UInt8):∀ (n i:Nat) (ts:List Tk),P3 l n i=some (.inr ts) → ts.length ≤ n
 | 0,i,ts,h=>by cases h
 | n + 1,i,ts,h=>by
  unfold P3 at h
  split at h
  ·split at h
   ·cases h
   ·rename_i p hp
    split at h
    ·rename_i he
     split at h
     ·cases h
     ·cases h
     ·rename_i ts2 h2
      injection h with h; injection h with h; subst h
      have:=oT l n _ ts2 h2
      simp; omega
    ·cases h
  ·injection h with h; injection h with h; subst h
   simp
theorem lexL_len {l:List UInt8} {ts:List Tk} (h:Kd l=some (.inr ts)):ts.length ≤ 4001:=by
 unfold Kd at h
 split at h
 ·cases h
 ·have:=oT l _ _ ts h; omega
theorem sC {l:List UInt8} {ts:List Tk} (h:Kd l=some (.inr ts)):ts.length ≤ l.length + 1:=by
 unfold Kd at h
 split at h
 ·cases h
 ·exact oT l _ _ ts h
theorem read_s {l:List UInt8} {out:(Nat × Nat) ⊕ List Tk} (h:Kd l=some out):Jz 70000 out ≠ none ∧ ∀ ns,Jz 70000 out=some (.inl ns) → (∀ n ∈ ns,uH l (l.length + 1) n) ∧ ns.length ≤ l.length + 1:=by
 cases out with
 | inl x=>exact ⟨(fun e=>by cases e),(fun ns e=>by cases e)⟩
 | inr ts =>
  obtain ⟨h1,h2⟩:=Xt h
  have h3:=lexL_len h
  have h4:=sC h
  have hs:=rE h1 (vW h) 70000 (by omega) (by decide) h2
  unfold Jz
  simp only
  cases hp:Fg ts 70000 0 with
  | out=>exact absurd hp hs.1
  | bad a e=>exact ⟨(fun e=>by cases e),(fun ns e=>by cases e)⟩
  | ok ns j =>
   obtain ⟨_,k1,k2⟩:=hs.2 ns j hp
   have key:(∀ n ∈ ns,uH l (l.length + 1) n) ∧ ns.length ≤ l.length + 1:=⟨fun n hn=>by
    obtain ⟨a1,a2,a3,a4,a5⟩:=k1 n hn
    exact ⟨a1,a2,fun q hq=>⟨(a3 q hq).1,(a3 q hq).2.1,Nat.le_trans (a3 q hq).2.2 h4⟩,Nat.le_trans a4 h4,Nat.le_trans a5 h4⟩,Nat.le_trans k2 h4⟩
   simp only
   split
   ·exact ⟨(fun e=>by cases e),(fun ns' e=>by injection e with e; injection e with e; subst e; exact key)⟩
   ·exact ⟨(fun e=>by cases e),(fun ns e=>by cases e)⟩
end Go.Ax
