/- Qa -/
import Derived.Test.YtjgknelmjdallaaGreatDoorTdG17
import Derived.Test.YtjgknelmjdallaaGreatDoorTdG18
import Derived.Test.YtjgknelmjdallaaGreatDoorTdG19
set_option linter.unusedVariables false
set_option linter.unusedSimpArgs false
set_option maxHeartbeats 16000000
noncomputable section
namespace Go.Ax
open Go.RowKit Go.Proofs
set_option maxRecDepth 100000
def Tg (v:AV) (es:List AV):Prop:=(v=.nils ∧ es=[]) ∨ ∃ tok off,v=.sl tok off 6 es
def Yu:List AV → List (List AV) → Prop
 | [],[]=>True
 | v :: r,e :: l=>Tg v e ∧ Yu r l
 | _,_=>False
theorem Mw:∀ {vs:List AV} {es:List (List AV)},Yu vs es → vs.length=es.length
 | [],[],_=>rfl
 | _ :: r,_ :: l,h=>by simp [Mw h.2]
 | [],_ :: _,h=>h.elim
 | _ :: _,[],h=>h.elim
theorem Qw:∀ {vs:List AV} {es:List (List AV)},Yu vs es → ∀ (i:Nat) (h:i < vs.length) (h2:i < es.length),Tg vs[i] es[i]
 | [],[],_,i,h,_=>absurd h (Nat.not_lt_zero i)
 | _ :: r,_ :: l,h,0,_,_=>h.1
 | _ :: r,_ :: l,h,i + 1,h1,h2=>Qw h.2 i (by simpa using h1) (by simpa using h2)
 | [],_ :: _,h,_,_,_=>h.elim
 | _ :: _,[],h,_,_,_=>h.elim
def Vw (es:List (List AV)):Nat:=(es.map List.length).sum
theorem uD (es:List (List AV)) (i:Nat) (h:i < es.length):Vw (es.take (i + 1))=Vw (es.take i) + es[i].length:=by
 unfold Vw
 rw [List.take_succ_eq_append_getElem h,List.map_append,List.sum_append]
 simp
theorem yK:∀ (es:List (List AV)) (i:Nat),Vw (es.take i) ≤ Vw es
 | [],i=>by simp
 | e :: r,0=>by simp [Vw]
 | e :: r,i + 1=>by
  have:=yK r i
  unfold Vw at this ⊢
  simp only [List.take_succ_cons,List.map_cons,List.sum_cons]; omega
theorem bO (es:List (List AV)):es.flatten.length=Vw es:=by unfold Vw; rw [List.length_flatten]
theorem u46:Tryz.prog.underlying 46=some (.slice 54):=nC
theorem e46:Ir Tryz.prog 46=some (none,54):=by kernel_rfl
theorem len46 (S:St) {v:AV} {es:List AV} (h:Tg v es):Fw Tryz.prog S 46 v=some es.length:=by
 rcases h with ⟨rfl,rfl⟩ | ⟨tok,off,rfl⟩ <;> simp [Fw,u46]
theorem e159:Ir Tryz.prog 159=some (none,46):=by kernel_rfl
theorem u159:Tryz.prog.underlying 159=some (.slice 46):=by kernel_rfl
theorem s46':Fu Tryz.prog 46=some 1:=by kernel_rfl
theorem a46:Fo Tryz.prog 46=some false:=by kernel_rfl
theorem len159 (S:St) (tok off:Nat) (es:List AV):Fw Tryz.prog S 159 (.sl tok off 1 es)=some es.length:=by simp [Fw,u159]
theorem Qx {v:AV} {es:List AV} (h:Tg v es):v.cells=[v]:=by
 rcases h with ⟨rfl,rfl⟩ | ⟨tok,off,rfl⟩ <;> rfl
theorem idx159 (tok off:Nat) (vs:List AV) (hc:∀ v ∈ vs,v.cells=[v]) (i:Nat) (h:i < vs.length):Cm Tryz.prog 159 (.sl tok off 1 vs) (.v (.int .i64 (i:Int)))=some (.ep [vs[i]]):=by
 have h0:(0:Int) ≤ (i:Int):=by omega
 have hx:=hc _ (List.getElem_mem h)
 simp [Cm,h0,e159,s46',h,hx]
theorem load46 (S:St) (x:AV):Cd Tryz.prog S 46 (.ep [x])=some x:=by simp [Cd,D0,a46]
def Acc (g:Prop) (lo:Nat) (S:St) (v:AV) (es:List AV):Prop:=(v=.nils ∧ es=[]) ∨ ∃ tok,v=.sl tok 0 6 es ∧ 2 ≤ tok ∧ lo ≤ tok ∧ tok < S.next ∧ S.mem.get tok=some (.tip (es.length * 6)) ∧ (es ≠ [] ∨ g)
def rowN (v:AV) (es:List AV):Prop:=(v=.nils ∧ es=[]) ∨ (es ≠ [] ∧ ∃ tok off,v=.sl tok off 6 es)
theorem rowN.is {v:AV} {es:List AV} (h:rowN v es):Tg v es:=h.elim .inl (fun h=>.inr h.2)
theorem app46c (S:St) (a b:AV):Gw E1 S 46 46 a b=Fh Tryz.prog S 46 46 a b:=rfl
theorem acc_push {g:Prop} {lo:Nat} {S:St} {v x:AV} {es ns:List AV} (h:Acc g lo S v es) (hx:Tg x ns) (hn:2 ≤ S.next) (hlo:lo ≤ S.next) (hl:es.length + ns.length ≤ 1000000) :
  ∃ v' S',Gw E1 S 46 46 v x=some (v',S') ∧ Acc g lo S' v' (es ++ ns) ∧ S.next ≤ S'.next ∧ ∀ id,id < lo → S'.mem.get id=S.mem.get id:=by
 obtain ⟨i,hi,hz0,hz1,hz2⟩:=Hb infoDecl
 have hsrc:Mr Tryz.prog 46 6 x=some ns:=by
  rcases hx with ⟨rfl,rfl⟩ | ⟨tok,off,rfl⟩ <;> simp [Mr,u46]
 rw [app46c]
 cases ns with
 | nil =>
  refine ⟨v,S,?_,by rw [List.append_nil]; exact h,Nat.le_refl _,fun _ _=>rfl⟩
  rcases h with ⟨rfl,rfl⟩ | ⟨tok,rfl,_⟩ <;> simp [Fh,e46,hi,hz0,hz1,hz2,hsrc,Value.cells]
 | cons y r =>
  have hb1:(es.length + (r.length + 1)) * 56 ≤ 140737488355328:=by simp at hl; omega
  have hb2:es.length + (r.length + 1) ≤ 9223372036854775807:=by simp at hl; omega
  rcases h with ⟨rfl,rfl⟩ | ⟨tok,rfl,h1,h2,h3,h5,h6⟩
  ·refine ⟨.sl S.next 0 6 (y :: r),S.grown 1 ((y :: r).length * 6),?_,.inr ⟨S.next,rfl,hn,hlo,Nat.lt_succ_self _,?_,.inl (by simp)⟩,Nat.le_succ _,fun id hid=>?_⟩
   ·have hb3:(r.length + 1) * 56 ≤ 140737488355328:=by simp at hb1; omega
    have hb4:r.length + 1 ≤ 9223372036854775807:=by omega
    simp [Fh,e46,hi,hz0,hz1,hz2,hsrc,Value.cells,hb3,hb4]
   ·show (S.mem.set S.next _).get S.next=_
    rw [T.get_set,if_pos rfl]; rfl
   ·show (S.mem.set S.next _).get id=_
    rw [T.get_set,if_neg (by omega)]
  ·obtain ⟨k,rfl⟩:∃ k,tok=k + 2:=⟨tok - 2,by omega⟩
   refine ⟨.sl S.next 0 6 (es ++ y :: r),S.grown (k + 2) ((es ++ y :: r).length * 6),?_,.inr ⟨S.next,rfl,hn,hlo,Nat.lt_succ_self _,?_,.inl (by simp)⟩,Nat.le_succ _,fun id hid=>?_⟩
   ·simp [Fh,e46,hi,hz0,hz1,hz2,hsrc,Value.cells,Px,h5,hb1,hb2]
   ·show ((S.mem.set (k + 2) none).set S.next _).get S.next=_
    rw [T.get_set,if_pos rfl]
   ·show ((S.mem.set (k + 2) none).set S.next _).get id=_
    rw [T.get_set,if_neg (by omega),T.get_set,if_neg (by omega)]
def Yi:Code:=match Tryz.f63.body with
 | some (.seq _ (.seq _ (.seq (.seq _ (.block _ (.loop c))) _)))=>c
 | _=>.skip
def Yh:Code:=match Tryz.f63.body with
 | some (.seq _ (.seq _ (.seq _ (.seq _ (.seq (.seq _ (.block _ (.loop c))) _)))))=>c
 | _=>.skip
theorem xN (tok off:Nat) (vs:List AV) (ess:List (List AV)) (hr:Yu vs ess) (hv:vs.length ≤ 1000) (hl:Vw ess ≤ 3000) (S:St):∀ (m i:Nat) (t:T AV),i + m=vs.length → t.get 0=some (.sl tok off 1 vs) → t.get 9=some (.sl tok off 1 vs) → t.get 10=some (Dq vs.length) → t.get 11=some (Dq i) → t.get 3=some (Dq (Vw (ess.take i))) →
  WX E1 36 (.loop Yi) ⟨t,[]⟩ S (fun r=>∃ t',r=.out (.exit 0) ⟨t',[]⟩ S ∧ t'.get 0=some (.sl tok off 1 vs) ∧ t'.get 3=some (Dq (Vw ess)))
 | 0,i,t,hi,h0,h9,h10,h11,h3=>by
  refine Do (Dh ?_)
  have hlt:¬ ((i:Int) < (vs.length:Int)):=by omega
  have hd:ess.take i=ess:=List.take_of_length_le (by rw [← Mw hr]; omega)
  rw [hd] at h3
  simp only [Dq] at h0 h9 h10 h11 h3 ⊢
  simp only [Bw,Bv,Dk,Dy,Bo,A6,Co,Bk,Bl,Bq,Dx,C1,B1,A4,C7,Dd,Cl,Cf,C9,Dc,C5,Be,A7,C0,Bf,Br,Bh,D5,Bu,Bd,Bp,Cq,De,C8,A5,Bc,Ba,Ce,A0,A1,Bm,B5,ofOpt,ofOptS,Bb,Cp,Fj,Bz,Bs,Bi,Cg,B0,Bg,Cs,C6,Db,Cu,Ew,D8,E3,Dg,B9,Di,Nat.reduceLT,Nat.reduceAdd,Nat.reduceEqDiff,Aa,Ab,reduceIte,Ac,Ad,Ae,Af,Ag,Ah,Ai,Aj,Ak,Al,Am,Ao,Ap,Aq,Ar,Au,Av,Aw,Option.toList,Ay,Az,Yi,Tryz.f63,h9,h10,h11,hlt]
  exact ⟨_,rfl,by simp only [A0,Nat.reduceEqDiff,Ab,h0],by simp only [A0,Nat.reduceEqDiff,Ab,h3]⟩
 | m + 1,i,t,hi,h0,h9,h10,h11,h3=>by
  refine Do (Dh ?_)
  have hil:i < vs.length:=by omega
  have hie:i < ess.length:=by rw [← Mw hr]; exact hil
  have hlt:((i:Int) < (vs.length:Int)):=by omega
  have hri:=Qw hr i hil hie
  have hx:=idx159 tok off vs (fun v hv=>by
   obtain ⟨k,hk,rfl⟩:=List.getElem_of_mem hv
   exact Qx (Qw hr k hk (by rw [← Mw hr]; exact hk))) i hil
  have hw:=K8 (i:=i) (by omega)
  have hs1:=uD ess i hie
  have hs2:=yK ess (i + 1)
  have hlen:=len46 S hri
  have hadd:IntKind.i64.wrap (((Vw (ess.take i):Nat):Int) + ((ess[i].length:Nat):Int))=((Vw (ess.take (i + 1)):Nat):Int):=by
   rw [hs1,IntWalk.i64_in _ (by omega)]; push_cast; rfl
  have hneg:¬ (((Vw (ess.take (i + 1)):Nat):Int) < 0):=by omega
  have hld:=load46 S vs[i]
  simp only [Dq] at h0 h9 h10 h11 h3 hx ⊢
  simp only [Bw,Bv,Dk,Dy,Bo,A6,Co,Bk,Bl,Bq,Dx,C1,B1,A4,C7,Dd,Cl,Cf,C9,Dc,C5,Be,A7,C0,Bf,Br,Bh,D5,Bu,Bd,Bp,Cq,De,C8,A5,Bc,Ba,Ce,A0,A1,Bm,B5,ofOpt,ofOptS,Bb,Cp,Fj,Bz,Bs,Bi,Cg,B0,Bg,Cs,C6,Db,Cu,Ew,D8,E3,Dg,B9,Di,Nat.reduceLT,Nat.reduceAdd,Nat.reduceEqDiff,Aa,Ab,reduceIte,Ac,Ad,Ae,Af,Ag,Ah,Ai,Aj,Ak,Al,Am,Ao,Ap,Aq,Ar,Au,Av,Aw,Option.toList,Ay,Az,Yi,Tryz.f63,h9,h10,h11,hlt,h3,hx,hld,hlen,hadd,hneg,hw]
  refine WX.mono (xN tok off vs ess hr hv hl S m (i + 1) _ (by omega) ?_ ?_ ?_ ?_ ?_) (fun r h=>h)
  ·simp only [A0,Nat.reduceEqDiff,Ab,h0]
  ·simp only [A0,Nat.reduceEqDiff,Ab,h9]
  ·simp only [A0,Nat.reduceEqDiff,Ab,h10]; rfl
  ·simp only [A0,Nat.reduceEqDiff,Aa]; rfl
  ·simp only [A0,Nat.reduceEqDiff,Aa,Ab]; rfl
theorem xM (g:Prop) (lo tok off:Nat) (vs:List AV) (ess:List (List AV)) (hr:Yu vs ess) (hv:vs.length ≤ 1000) (hl:Vw ess ≤ 3000) (S0:St) (hlo:2 ≤ lo):∀ (m i:Nat) (t:T AV) (S:St) (v:AV),i + m=vs.length → t.get 25=some (.sl tok off 1 vs) → t.get 26=some (Dq vs.length) → t.get 27=some (Dq i) → t.get 6=some v → Acc g lo S v (ess.take i).flatten → lo ≤ S.next → (∀ id,id < lo → S.mem.get id=S0.mem.get id) →
  WX E1 36 (.loop Yh) ⟨t,[]⟩ S (fun r=>∃ t' S' v,r=.out (.exit 2) ⟨t',[]⟩ S' ∧ t'.get 6=some v ∧ Acc g lo S' v ess.flatten ∧ lo ≤ S'.next ∧ (∀ id,id < lo → S'.mem.get id=S0.mem.get id))
 | 0,i,t,S,v,hi,h25,h26,h27,h6,ha,hn,hk=>by
  refine Do (Dh ?_)
  have hlt:¬ ((i:Int) < (vs.length:Int)):=by omega
  have hd:ess.take i=ess:=List.take_of_length_le (by rw [← Mw hr]; omega)
  rw [hd] at ha
  simp only [Dq] at h25 h26 h27 ⊢
  simp only [Bw,Bv,Dk,Dy,Bo,A6,Co,Bk,Bl,Bq,Dx,C1,B1,A4,C7,Dd,Cl,Cf,C9,Dc,C5,Be,A7,C0,Bf,Br,Bh,D5,Bu,Bd,Bp,Cq,De,C8,A5,Bc,Ba,Ce,A0,A1,Bm,B5,ofOpt,ofOptS,Bb,Cp,Fj,Bz,Bs,Bi,Cg,B0,Bg,Cs,C6,Db,Cu,Ew,D8,E3,Dg,B9,Di,Nat.reduceLT,Nat.reduceAdd,Nat.reduceEqDiff,Aa,Ab,reduceIte,Ac,Ad,Ae,Af,Ag,Ah,Ai,Aj,Ak,Al,Am,Ao,Ap,Aq,Ar,Au,Av,Aw,Option.toList,Ay,Az,Yh,Tryz.f63,h25,h26,h27,hlt]
  exact ⟨_,_,v,rfl,by simp only [A0,Nat.reduceEqDiff,Ab,h6],ha,hn,hk⟩
 | m + 1,i,t,S,v,hi,h25,h26,h27,h6,ha,hn,hk=>by
  refine Do (Dh ?_)
  have hil:i < vs.length:=by omega
  have hie:i < ess.length:=by rw [← Mw hr]; exact hil
  have hlt:((i:Int) < (vs.length:Int)):=by omega
  have hri:=Qw hr i hil hie
  have hx:=idx159 tok off vs (fun v hv=>by
   obtain ⟨k,hk,rfl⟩:=List.getElem_of_mem hv
   exact Qx (Qw hr k hk (by rw [← Mw hr]; exact hk))) i hil
  have hw:=K8 (i:=i) (by omega)
  have hs1:=uD ess i hie
  have hs2:=yK ess (i + 1)
  have hld:=load46 S vs[i]
  have hfl:(ess.take (i + 1)).flatten=(ess.take i).flatten ++ ess[i]:=by
   rw [List.take_succ_eq_append_getElem hie,List.flatten_append]; simp
  obtain ⟨v',S',q,ha',hn',hk'⟩:=acc_push ha hri (Nat.le_trans hlo hn) hn (by rw [bO]; omega)
  rw [← hfl] at ha'
  simp only [Dq] at h25 h26 h27 hx ⊢
  simp only [Bw,Bv,Dk,Dy,Bo,A6,Co,Bk,Bl,Bq,Dx,C1,B1,A4,C7,Dd,Cl,Cf,C9,Dc,C5,Be,A7,C0,Bf,Br,Bh,D5,Bu,Bd,Bp,Cq,De,C8,A5,Bc,Ba,Ce,A0,A1,Bm,B5,ofOpt,ofOptS,Bb,Cp,Fj,Bz,Bs,Bi,Cg,B0,Bg,Cs,C6,Db,Cu,Ew,D8,E3,Dg,B9,Di,Nat.reduceLT,Nat.reduceAdd,Nat.reduceEqDiff,Aa,Ab,reduceIte,Ac,Ad,Ae,Af,Ag,Ah,Ai,Aj,Ak,Al,Am,Ao,Ap,Aq,Ar,Au,Av,Aw,Option.toList,Ay,Az,Yh,Tryz.f63,h25,h26,h27,hlt,h6,hx,hld,q,hw]
  refine WX.mono (xM g lo tok off vs ess hr hv hl S0 hlo m (i + 1) _ S' v' (by omega) ?_ ?_ ?_ ?_ ha' (Nat.le_trans hn hn') (fun id hid=>(hk' id hid).trans (hk id hid))) (fun r h=>h)
  ·simp only [A0,Nat.reduceEqDiff,Ab,h25]
  ·simp only [A0,Nat.reduceEqDiff,Ab,h26]; rfl
  ·simp only [A0,Nat.reduceEqDiff,Aa]; rfl
  ·simp only [A0,Nat.reduceEqDiff,Aa,Ab]
theorem fnOk94:∃ fn,E1.F 94=some fn:=Option.isSome_iff_exists.1 (by kernel_rfl)
theorem knows94:E1.I 94=some (W4 6):=by kernel_rfl
def Keeps (S S':St):Prop:=S.next ≤ S'.next ∧ ∀ id,id < S.next → S'.mem.get id=S.mem.get id
theorem concat_w (tok off:Nat) (vs:List AV) (ess:List (List AV)) (hr:Yu vs ess) (hv:vs.length ≤ 1000) (hl:Vw ess ≤ 3000) (S:St) (hS:2 ≤ S.next):WC E1 63 [.sl tok off 1 vs] S (fun r=>∃ v S',r=.ret v S' ∧ rowN v ess.flatten ∧ Keeps S S'):=by
 refine Dv Tryz.f63 (by kernel_rfl) (by kernel_rfl) (by kernel_rfl) (by show (_:Nat) ≤ _;simp [Tryz.f63]) ?_
 obtain ⟨fn1,hf1⟩:=fnOk94
 have key:=fun t h0 h9 h10 h11 h3=>xN tok off vs ess hr hv hl S vs.length 0 t (by omega) h0 h9 h10 h11 h3
 have key2:=fun g t S' v h25 h26 h27 h6 ha h2 h3=>xM g S.next tok off vs ess hr hv hl S hS vs.length 0 t S' v (by omega) h25 h26 h27 h6 ha h2 h3
 unfold Yi at key
 unfold Yh at key2
 simp only [Tryz.f63] at key key2
 have hL:=fun S=>len159 S tok off vs
 simp only [Bw,Bv,Dk,Dy,Bo,A6,Co,Bk,Bl,Bq,Dx,C1,B1,A4,C7,Dd,Cl,Cf,C9,Dc,C5,Be,A7,C0,Bf,Br,Bh,D5,Bu,Bd,Bp,Cq,De,C8,A5,Bc,Ba,Ce,A0,A1,Bm,B5,ofOpt,ofOptS,Bb,Cp,Fj,Bz,Bs,Bi,Cg,B0,Bg,Cs,C6,Db,Cu,Ew,D8,E3,Dg,B9,Di,Nat.reduceLT,Nat.reduceAdd,Nat.reduceEqDiff,Aa,Ab,reduceIte,Ac,Ad,Ae,Af,Ag,Ah,Ai,Aj,Ak,Al,Am,Ao,Ap,Aq,Ar,Au,Av,Aw,Option.toList,Ay,Az,Tryz.f63,hL]
 refine WX.mono (key _ ?_ ?_ ?_ ?_ ?_) ?_
 ·simp only [A0,A1,Nat.reduceEqDiff,Aa,Ab]
 ·simp only [A0,A1,Nat.reduceEqDiff,Aa,Ab]
 ·simp only [A0,A1,Nat.reduceEqDiff,Aa,Ab]; rfl
 ·simp only [A0,A1,Nat.reduceEqDiff,Aa,Ab]; rfl
 ·simp only [A0,A1,Nat.reduceEqDiff,Aa,Ab]; rfl
 rintro r ⟨t',rfl,h0,h3⟩
 simp only [Dq] at h0 h3
 simp only [Bw,Bv,Dk,Dy,Bo,A6,Co,Bk,Bl,Bq,Dx,C1,B1,A4,C7,Dd,Cl,Cf,C9,Dc,C5,Be,A7,C0,Bf,Br,Bh,D5,Bu,Bd,Bp,Cq,De,C8,A5,Bc,Ba,Ce,A0,A1,Bm,B5,ofOpt,ofOptS,Bb,Cp,Fj,Bz,Bs,Bi,Cg,B0,Bg,Cs,C6,Db,Cu,Ew,D8,E3,Dg,B9,Di,Nat.reduceLT,Nat.reduceAdd,Nat.reduceEqDiff,Aa,Ab,reduceIte,Ac,Ad,Ae,Af,Ag,Ah,Ai,Aj,Ak,Al,Am,Ao,Ap,Aq,Ar,Au,Av,Aw,Option.toList,Ay,Az,Tryz.f63,hL,h0,h3,hf1]
 refine Ln knows94 ?_
 unfold W4
 simp only
 by_cases hz:((Vw ess:Nat):Int)=0
 ·rw [if_pos hz]
  simp only [Bw,Bv,Dk,Dy,Bo,A6,Co,Bk,Bl,Bq,Dx,C1,B1,A4,C7,Dd,Cl,Cf,C9,Dc,C5,Be,A7,C0,Bf,Br,Bh,D5,Bu,Bd,Bp,Cq,De,C8,A5,Bc,Ba,Ce,A0,A1,Bm,B5,ofOpt,ofOptS,Bb,Cp,Fj,Bz,Bs,Bi,Cg,B0,Bg,Cs,C6,Db,Cu,Ew,D8,E3,Dg,B9,Di,Nat.reduceLT,Nat.reduceAdd,Nat.reduceEqDiff,Aa,Ab,reduceIte,Ac,Ad,Ae,Af,Ag,Ah,Ai,Aj,Ak,Al,Am,Ao,Ap,Aq,Ar,Au,Av,Aw,Option.toList,Ay,Az,Tryz.f63,hL,h0,h3]
  refine WX.mono (key2 False _ S .nils ?_ ?_ ?_ ?_ (.inl ⟨rfl,rfl⟩) (Nat.le_refl _) (fun _ _=>rfl)) ?_
  ·simp only [A0,A1,Nat.reduceEqDiff,Aa,Ab,h0]
  ·simp only [A0,A1,Nat.reduceEqDiff,Aa,Ab]; rfl
  ·simp only [A0,A1,Nat.reduceEqDiff,Aa,Ab]; rfl
  ·simp only [A0,A1,Nat.reduceEqDiff,Aa,Ab]
  rintro r ⟨t2,S2,v,rfl,h6,ha,hn,hk⟩
  simp only [Bw,Bv,Dk,Dy,Bo,A6,Co,Bk,Bl,Bq,Dx,C1,B1,A4,C7,Dd,Cl,Cf,C9,Dc,C5,Be,A7,C0,Bf,Br,Bh,D5,Bu,Bd,Bp,Cq,De,C8,A5,Bc,Ba,Ce,A0,A1,Bm,B5,ofOpt,ofOptS,Bb,Cp,Fj,Bz,Bs,Bi,Cg,B0,Bg,Cs,C6,Db,Cu,Ew,D8,E3,Dg,B9,Di,Nat.reduceLT,Nat.reduceAdd,Nat.reduceEqDiff,Aa,Ab,reduceIte,Ac,Ad,Ae,Af,Ag,Ah,Ai,Aj,Ak,Al,Am,Ao,Ap,Aq,Ar,Au,Av,Aw,Option.toList,Ay,Az,Tryz.f63,h6]
  refine ⟨v,_,rfl,?_,hn,hk⟩
  rcases ha with h | ⟨tok,h,_,_,_,_,h9⟩
  ·exact .inl h
  ·exact .inr ⟨h9.resolve_right id,tok,0,h⟩
 ·rw [if_neg hz,if_pos ⟨by omega,by omega,by decide⟩]
  simp only [Bw,Bv,Dk,Dy,Bo,A6,Co,Bk,Bl,Bq,Dx,C1,B1,A4,C7,Dd,Cl,Cf,C9,Dc,C5,Be,A7,C0,Bf,Br,Bh,D5,Bu,Bd,Bp,Cq,De,C8,A5,Bc,Ba,Ce,A0,A1,Bm,B5,ofOpt,ofOptS,Bb,Cp,Fj,Bz,Bs,Bi,Cg,B0,Bg,Cs,C6,Db,Cu,Ew,D8,E3,Dg,B9,Di,Nat.reduceLT,Nat.reduceAdd,Nat.reduceEqDiff,Aa,Ab,reduceIte,Ac,Ad,Ae,Af,Ag,Ah,Ai,Aj,Ak,Al,Am,Ao,Ap,Aq,Ar,Au,Av,Aw,Option.toList,Ay,Az,Tryz.f63,hL,h0,h3]
  refine WX.mono (key2 True _ _ (.sl S.next 0 6 []) ?_ ?_ ?_ ?_ (.inr ⟨S.next,rfl,hS,Nat.le_refl _,Nat.lt_succ_self _,?_,.inr trivial⟩) (Nat.le_succ _) (fun id hid=>?_)) ?_
  ·simp only [A0,A1,Nat.reduceEqDiff,Aa,Ab,h0]
  ·simp only [A0,A1,Nat.reduceEqDiff,Aa,Ab]; rfl
  ·simp only [A0,A1,Nat.reduceEqDiff,Aa,Ab]; rfl
  ·simp only [A0,A1,Nat.reduceEqDiff,Aa,Ab]
  ·show (S.mem.set S.next _).get S.next=_
   rw [T.get_set,if_pos rfl]; rfl
  ·show (S.mem.set S.next _).get id=_
   rw [T.get_set,if_neg (by omega)]
  rintro r ⟨t2,S2,v,rfl,h6,ha,hn,hk⟩
  simp only [Bw,Bv,Dk,Dy,Bo,A6,Co,Bk,Bl,Bq,Dx,C1,B1,A4,C7,Dd,Cl,Cf,C9,Dc,C5,Be,A7,C0,Bf,Br,Bh,D5,Bu,Bd,Bp,Cq,De,C8,A5,Bc,Ba,Ce,A0,A1,Bm,B5,ofOpt,ofOptS,Bb,Cp,Fj,Bz,Bs,Bi,Cg,B0,Bg,Cs,C6,Db,Cu,Ew,D8,E3,Dg,B9,Di,Nat.reduceLT,Nat.reduceAdd,Nat.reduceEqDiff,Aa,Ab,reduceIte,Ac,Ad,Ae,Af,Ag,Ah,Ai,Aj,Ak,Al,Am,Ao,Ap,Aq,Ar,Au,Av,Aw,Option.toList,Ay,Az,Tryz.f63,h6]
  refine ⟨v,_,rfl,?_,hn,hk⟩
  rcases ha with h | ⟨tok,h,_⟩
  ·exact .inl h
  ·refine .inr ⟨fun e=>hz ?_,tok,0,h⟩
   rw [← bO,e]; rfl
theorem s28:Fu Tryz.prog 28=some 1:=by kernel_rfl
def Xb (q:Nat) (b:Bool) (S:St):Prop:=S.mem.get q=some (.box [.v (.bool b)])
def Rd (q:Nat) (S S':St):Prop:=S.next ≤ S'.next ∧ ∀ id,id < S.next → id ≠ q → S'.mem.get id=S.mem.get id
theorem Rd.refl (q:Nat) (S:St):Rd q S S:=⟨Nat.le_refl _,fun _ _ _=>rfl⟩
theorem Rd.trans {q:Nat} {S S1 S2:St} (h:Rd q S S1) (k:Rd q S1 S2):Rd q S S2:=⟨Nat.le_trans h.1 k.1,fun id hid hn=>(k.2 id (Nat.lt_of_lt_of_le hid h.1) hn).trans (h.2 id hid hn)⟩
theorem En.b {q:Nat} {S S':St} (h:En S S'):Rd q S S':=⟨h.1,fun id hid _=>h.2 id hid⟩
def sR (q:Nat) (L:List (Nat × List AV)) (S:St):Prop:=2 ≤ S.next ∧ q < S.next ∧ ∀ x ∈ L,x.1 ≠ q ∧ x.1 < S.next ∧ S.mem.get x.1=some (.box x.2)
theorem sR.keep {q:Nat} {L:List (Nat × List AV)} {S S':St} (h:sR q L S) (k:Rd q S S'):sR q L S':=⟨Nat.le_trans h.1 k.1,Nat.lt_of_lt_of_le h.2.1 k.1,fun x hx=>⟨(h.2.2 x hx).1,Nat.lt_of_lt_of_le (h.2.2 x hx).2.1 k.1,(k.2 _ (h.2.2 x hx).2.1 (h.2.2 x hx).1).trans (h.2.2 x hx).2.2⟩⟩
theorem Xb.keep {q:Nat} {b:Bool} {S S':St} (h:Xb q b S) (hq:q < S.next) (k:En S S'):Xb q b S':=(k.2 q hq).trans h
inductive AllP (B:PE → Prop):PE → Prop where
 | mk (kind pos:Nat) (n:Int) (name:List UInt8) (off:Bool) (kids:List PE) (h:B (.mk kind pos n name off kids)) (hk:∀ e ∈ kids,AllP B e):AllP B (.mk kind pos n name off kids)
section
variable {q K:Nat} {L:List (Nat × List AV)} {caps:List AV} {B:PE → Prop}
end
theorem fnOk56:∃ fn,E1.F 56=some fn:=Option.isSome_iff_exists.1 (by kernel_rfl)
theorem pE (l:List UInt8) (S:St) (hS:2 ≤ S.next) (hsz:l.length ≤ 1000000) (out:(Nat × Nat) ⊕ List Tk) (hlx:Kt l=some out) (n:Nat) (hn:n ≤ 1000000) (hok:Kg n out ≠ none):WC E1 19 [Bt l] S (ReadPost S (Kg n out)):=by
 refine Dv Tryz.f19 (by kernel_rfl) (by kernel_rfl) (by kernel_rfl) (by show (_:Nat) ≤ _;simp [Tryz.f19]) ?_
 obtain ⟨fn1,hf1⟩:=fnOk56
 have k1:=Cz S (Ds 0 0)
 simp only [A6,Bk,A4,Be,A7,Bf,Bh,Bd,A5,Bc,Ba,Ce,A0,A1,Bm,B5,ofOpt,ofOptS,Bb,Cp,Nat.reduceLT,Nat.reduceEqDiff,Aa,Ab,Ac,Ae,Aj,Ak,Tryz.f19,Ov,hf1]
 refine WC.mono (read_p l (S.newBox (Ds 0 0)) (Nat.le_succ_of_le hS) hsz out hlx (fun x e=>qB (e ▸ hlx)) n hn (fun ts e=>?_)) ?_
 ·subst e
  obtain ⟨a1,a2⟩:=Y5 hlx
  refine ⟨a1,a2,fun e=>hok ?_⟩
  unfold Kg
  simp only
  rw [e]
 ·cases hR:Kg n out with
  | none=>exact absurd hR hok
  | some y =>
   cases y with
   | inl ns =>
    rintro _ ⟨v,S2,rfl,hv,k2⟩
    have g5:S2.mem.get S.next=some (.box (Ds 0 0)):=(k2.2 _ (Nat.lt_succ_self _)).trans (Cv S _)
    have q4:Dt Tryz.prog S2 33 (.ptr S.next 0) (.agg (Ds 0 0))=some (S2.put S.next (Ds 0 0)):=P2 g5 rfl rfl
    have q5:=Io S2 S.next (Ds 0 0) rfl
    simp only [B1,A4,Be,A7,Bf,Br,Bu,Bd,Bp,A5,Bc,Ba,A0,A1,ofOpt,Cp,Bi,B0,Bg,Cs,Nat.reduceLT,Nat.reduceEqDiff,Aa,Ab,Ac,Ag,Ah,Cw,q4,q5]
    exact ⟨v,_,rfl,hv,Et (k1.trans k2) (Nat.le_refl _) _⟩
   | inr y =>
    rintro _ ⟨S2,rfl,k2⟩
    have g5:S2.mem.get S.next=some (.box (Ds 0 0)):=(k2.2 _ (Nat.lt_succ_self _)).trans (Cv S _)
    have q4:Dt Tryz.prog S2 33 (.ptr S.next 0) (.agg (Ds y.1 y.2))=some (S2.put S.next (Ds y.1 y.2)):=P2 g5 rfl rfl
    have q5:=Io S2 S.next (Ds y.1 y.2) rfl
    simp only [B1,A4,Be,A7,Bf,Br,Bu,Bd,Bp,A5,Bc,Ba,A0,A1,ofOpt,Cp,Bi,B0,Bg,Cs,Nat.reduceLT,Nat.reduceEqDiff,Aa,Ab,Ac,Ag,Ah,Cw,q4,q5]
    exact ⟨_,rfl,Et (k1.trans k2) (Nat.le_refl _) _⟩
section
variable {p k:Nat} {ts:List Tk} (hts:TokOk ts)
include hts
end
end Go.Ax
noncomputable section
namespace Go.Ax
open Go.RowKit Go.Proofs
section
variable {E:Env} {n:Nat} {f:Fr} {S:St} {Q:O → Prop} {ops:Array Oper} {t:T AV} {ds:List Dfr}
theorem A9 {o:Oper} {l:List Oper} {a:AV} {S':St}:W5 E n ops o l f S Q (some true) (.val a S')=gE E n ops l o.dst f a S' Q:=_root_.id rfl
theorem C4 {o:Oper} {l:List Oper} {S':St}:W5 E n ops o l f S Q (some true) (.skip S')=gE E n ops l o.dst f (.tup []) S' Q:=_root_.id rfl
theorem By {o:Oper} {l:List Oper} {k:FuncId} {args:List AV} {S':St}:W5 E n ops o l f S Q (some true) (.enter k args S')=WC E k args S' (retL E n ops l o.dst f Q):=_root_.id rfl
theorem Df {l:List Oper} {a:AV}:gE E n ops l none f a S Q=WL E n ops l f S Q:=_root_.id rfl
theorem A8 {l:List Oper} {d:Nat} {a:AV}:gE E n ops l (some d) ⟨t,ds⟩ a S Q=(d < n ∧ WL E n ops l ⟨t.set d (some a),ds⟩ S Q):=_root_.id rfl
theorem Cj {l:List Oper} {dst:Option Tmp} {a:AV}:retL E n ops l dst f Q (.ret a S)=gE E n ops l dst f a S Q:=_root_.id rfl
theorem F3 {o:Oper} {l:List RS}:WR E n ops (.re o :: l) f S Q=(D6 E ops o f.tmps S=true ∧ WR E n ops l f S Q):=_root_.id rfl
theorem Ct {o:Oper} {l:List RS} {a:AV} {S':St}:Zz E n ops o l f S Q (some true) (.val a S')=Xr E n ops l o.dst f a S' Q:=_root_.id rfl
theorem O5 {o:Oper} {l:List RS} {S':St}:Zz E n ops o l f S Q (some true) (.skip S')=Xr E n ops l o.dst f (.tup []) S' Q:=_root_.id rfl
theorem C3 {o:Oper} {l:List RS} {k:FuncId} {args:List AV} {S':St}:Zz E n ops o l f S Q (some true) (.enter k args S')=WC E k args S' (uS E n ops l o.dst f Q):=_root_.id rfl
theorem Oz {l:List RS} {a:AV}:Xr E n ops l none f a S Q=WR E n ops l f S Q:=_root_.id rfl
theorem B7 {l:List RS} {d:Nat} {a:AV}:Xr E n ops l (some d) ⟨t,ds⟩ a S Q=(d < n ∧ WR E n ops l ⟨t.set d (some a),ds⟩ S Q):=_root_.id rfl
theorem Dl {l:List RS} {dst:Option Tmp} {a:AV}:uS E n ops l dst f Q (.ret a S)=Xr E n ops l dst f a S Q:=_root_.id rfl
theorem B8 {x y:Prop}:eI (some (.v (.bool true))) x y=x:=_root_.id rfl
theorem B6 {x y:Prop}:eI (some (.v (.bool false))) x y=y:=_root_.id rfl
theorem Ci {b:Code} {id:Nat}:yT E n b Q (.out (.exit id) f S)=Q (.out (.exit id) f S):=_root_.id rfl
theorem B4 {b:Code}:yT E n b Q (.out .ret f S)=Q (.out .ret f S):=_root_.id rfl
theorem Bn {id:Nat}:Ro id Q (.out .normal f S)=Q (.out .normal f S):=_root_.id rfl
theorem B3 {id:Nat}:Ro id Q (.out .ret f S)=Q (.out .ret f S):=_root_.id rfl
theorem Da {id id':Nat}:Ro id Q (.out (.exit id') f S)=if id' = id then Q (.out .normal f S) else Q (.out (.exit id') f S):=_root_.id rfl
theorem Dj {g:Fr}:fixQ ops g Q (.out .normal f S)=Q (.out .normal f S):=_root_.id rfl
end
end Go.Ax
noncomputable section
namespace Go.Ax
open Go.RowKit Go.Proofs
set_option maxRecDepth 100000
def stB (s w:List UInt8) (a:Nat):Bool:=decide (a + w.length ≤ s.length) && decide ((s.drop a).take w.length=w)
def Qr (name:List UInt8):List (Int × List UInt8):=[(3,name),(13,name),(6,name),(7,[105,102]),(8,[45,62]),(9,[102,98,121]),(10,[112,114,101]),(11,[119,104,101,110]),(12,[109,101,114,103,101]),(14,[97,119,97,105,116]),(5,[110,111,116]),(4,[45])]
def Lv:List (Int × List UInt8) → Int → List UInt8
 | [],_=>[]
 | (a,s) :: r,k=>if k=a then s else Lv r k
def kindOf:PE → Nat
 | .mk kind _ _ _ _ _=>kind
def posOf:PE → Nat
 | .mk _ pos _ _ _ _=>pos
def nameOf:PE → List UInt8
 | .mk _ _ _ name _ _=>name
def fI (e:PE):List UInt8:=Lv (Qr (nameOf e)) (kindOf e:Int)
def Sat {α:Type} (Q:α → Nat → Prop) (x:PR α):Prop:=x ≠ .out ∧ ∀ a j,x=.ok a j → Q a j
theorem Sat.ok {α:Type} {Q:α → Nat → Prop} {a:α} {j:Nat} (h:Q a j):Sat Q (.ok a j):=⟨(fun e=>by cases e),(fun a' j' e=>by injection e with e1 e2; subst e1; subst e2; exact h)⟩
theorem Sat.bad {α:Type} {Q:α → Nat → Prop} {a e:Nat}:Sat Q (.bad a e):=⟨(fun e=>by cases e),(fun _ _ e=>by cases e)⟩
theorem Sat.bind {α β:Type} {Q:α → Nat → Prop} {R:β → Nat → Prop} {x:PR α} {f:α → Nat → PR β} (hx:Sat Q x) (hf:∀ a j,Q a j → Sat R (f a j)):Sat R (x.bind f):=by
 cases x with
 | ok a j=>exact hf a j (hx.2 a j rfl)
 | bad a e=>exact Sat.bad
 | out=>exact absurd rfl hx.1
theorem Sat.mono {α:Type} {Q R:α → Nat → Prop} {x:PR α} (hx:Sat Q x) (h:∀ a j,Q a j → R a j):Sat R x:=⟨hx.1,fun a j e=>h a j (hx.2 a j e)⟩
theorem Sat.ite {α:Type} {Q:α → Nat → Prop} {c:Prop} [Decidable c] {x y:PR α} (h1:c → Sat Q x) (h2:¬ c → Sat Q y):Sat Q (if c then x else y):=by
 by_cases h:c
 ·rw [if_pos h]; exact h1 h
 ·rw [if_neg h]; exact h2 h
section
variable {ts:List Tk} (hts:TokOk ts)
include hts
theorem H8 {i:Nat} (hi:i < ts.length) {ws:List (List UInt8)} (hw:[] ∉ ws) (h:(tk ts i).text ∈ ws):i + 1 < ts.length:=by
 rw [Nn hi] at h
 exact hts.next hi (fun e=>hw (e ▸ h))
theorem J7 {i:Nat} (hi:i < ts.length) {ws:List (List UInt8)} (hw:[] ∉ ws):Sat (fun t j=>t=tk ts i ∧ j=i + 1 ∧ j < ts.length ∧ t.text ∈ ws) (Ef ts ws i):=by
 unfold Ef
 exact .ite (fun h=>.ok ⟨rfl,rfl,H8 hts hi hw h,h⟩) (fun _=>.bad)
theorem Wi {i:Nat} (hi:i < ts.length) {kd:Nat} (hk:kd ≠ 5):Sat (fun t j=>t=tk ts i ∧ j=i + 1 ∧ j < ts.length) (Gz ts kd i):=by
 unfold Gz
 exact .ite (fun h=>.ok ⟨rfl,rfl,hts.more i hi (by rw [← Nn hi,h]; exact hk)⟩) (fun _=>.bad)
theorem clock_s {i:Nat} (hi:i < ts.length):Sat (fun _ j=>i < j ∧ j < ts.length) (I5 ts i):=by
 unfold I5
 refine .ite (fun h=>?_) (fun _=>?_)
 ·have:=H8 hts hi (ws:=[[110,111,116]]) (by decide) h
  exact (Wi hts this (by decide)).bind fun t j h=>.ok ⟨by omega,h.2.2⟩
 ·exact (Wi hts hi (by decide)).bind fun t j h=>.ok ⟨by omega,h.2.2⟩
end
def Ta (s:List UInt8) (ts:List Tk):Prop:=∀ i,i < ts.length → stB s (tk ts i).text (tk ts i).pos=true
def Qm (s:List UInt8) (e:PE):Prop:=stB s (fI e) (posOf e)=true
theorem stB_nil {s w:List UInt8} {a:Nat} (h:stB s w a=true):stB s [] a=true:=by
 unfold stB at h ⊢
 rw [Bool.and_eq_true] at h
 have:=h.1
 simp at this ⊢; omega
section
variable {ts:List Tk} (hts:TokOk ts) {s:List UInt8} (hat:Ta s ts)
include hts hat
theorem num_s {i:Nat} (hi:i < ts.length):Sat (fun e j=>i < j ∧ j < ts.length ∧ AllP (Qm s) e) (Ni ts i):=by
 have h0:ts[i]? = some (tk ts i):=by rw [Nn hi]; exact List.getElem?_eq_getElem hi
 have hg:=stB_nil (hat i hi)
 unfold Ni
 rw [h0]
 simp only
 refine .ite (fun h=>?_) (fun _=>?_)
 ·have h1:i + 1 < ts.length:=H8 hts hi (ws:=[[45]]) (by decide) (by rw [h]; simp)
  have h2:ts[i + 1]? = some (tk ts (i + 1)):=by rw [Nn h1]; exact List.getElem?_eq_getElem h1
  rw [h2]
  simp only
  refine .ite (fun h3=>?_) (fun _=>.bad)
  exact .ok ⟨by omega,hts.more _ h1 (by rw [← Nn h1,h3]; decide),.mk _ _ _ _ _ _ hg (fun _ h=>by cases h)⟩
 ·refine .ite (fun h3=>?_) (fun _=>.bad)
  refine .ite (fun _=>.bad) (fun _=>?_)
  exact .ok ⟨by omega,hts.more _ hi (by rw [← Nn hi,h3]; decide),.mk _ _ _ _ _ _ hg (fun _ h=>by cases h)⟩
omit hts hat in
theorem good_bin {pos:Nat} {w:List UInt8} {x y:PE} (h:stB s w pos=true) (hx:AllP (Qm s) x) (hy:AllP (Qm s) y):AllP (Qm s) (.mk 6 pos 0 w false [x,y]):=by
 refine .mk _ _ _ _ _ _ ?_ (fun e he=>?_)
 ·show stB s (Lv (Qr w) _) _=true
  simpa [Qr,Lv,kindOf,posOf] using h
 ·simp at he; rcases he with rfl | rfl
  ·exact hx
  ·exact hy
omit hts hat in
theorem P9 {k pos:Nat} {name w:List UInt8} {n:Int} {off:Bool} {kids:List PE} (hk:Lv (Qr name) (k:Int)=w) (h:stB s w pos=true) (hkids:∀ e ∈ kids,AllP (Qm s) e):AllP (Qm s) (.mk k pos n name off kids):=by
 refine .mk _ _ _ _ _ _ ?_ hkids
 show stB s (Lv (Qr name) (k:Int)) pos=true
 rw [hk]; exact h
theorem row_s {lo:Nat} {ws:List (List UInt8)} (hw:[] ∉ ws) {kid:Nat → PR PE} (hk:∀ i,lo ≤ i → i < ts.length → Sat (fun e j=>i < j ∧ j < ts.length ∧ AllP (Qm s) e) (kid i)):∀ (n:Nat) (x:PE) (i:Nat),lo ≤ i → i < ts.length → AllP (Qm s) x → ts.length - i < n → Sat (fun e j=>i ≤ j ∧ j < ts.length ∧ AllP (Qm s) e) (Lp ts ws kid n x i)
 | 0,x,i,h1,h2,h3,h4=>absurd h4 (Nat.not_lt_zero _)
 | n + 1,x,i,h1,h2,h3,h4=>by
  unfold Lp
  refine .ite (fun h=>?_) (fun _=>.ok ⟨Nat.le_refl _,h2,h3⟩)
  have h5:=H8 hts h2 hw h
  refine (hk (i + 1) (by omega) h5).bind fun y j ⟨a,b,c⟩=>?_
  exact (row_s hw hk n _ j (by omega) b (good_bin (hat i h2) h3 c) (by omega)).mono fun e m ⟨a2,b2,c2⟩=>⟨by omega,b2,c2⟩
theorem when_s:∀ (n:Nat) (x:PE) (i:Nat),i < ts.length → AllP (Qm s) x → ts.length - i < n → Sat (fun e j=>i ≤ j ∧ j < ts.length ∧ AllP (Qm s) e) (Ls ts n x i)
 | 0,x,i,h2,h3,h4=>absurd h4 (Nat.not_lt_zero _)
 | n + 1,x,i,h2,h3,h4=>by
  unfold Ls
  refine .ite (fun h=>?_) (fun _=>.ok ⟨Nat.le_refl _,h2,h3⟩)
  have h5:=H8 hts h2 (ws:=[[119,104,101,110]]) (by decide) h
  have hg:=hat i h2
  rw [show (tk ts i).text=[119,104,101,110] by simpa using h] at hg
  refine (clock_s hts h5).bind fun c j ⟨a,b⟩=>?_
  exact (when_s n _ j b (P9 (by simp [Qr,Lv]) hg (fun e he=>by simp at he; subst he; exact h3)) (by omega)).mono fun e m ⟨a2,b2,c2⟩=>⟨by omega,b2,c2⟩
omit hat in
theorem rest_s {lo:Nat} {kid:Nat → PR PE} (hk:∀ i,lo ≤ i → i < ts.length → Sat (fun e j=>i < j ∧ j < ts.length ∧ AllP (Qm s) e) (kid i)):∀ (n:Nat) (l:List PE) (i:Nat),lo ≤ i → i < ts.length → (∀ e ∈ l,AllP (Qm s) e) → ts.length - i < n → Sat (fun l j=>i < j ∧ j < ts.length ∧ ∀ e ∈ l,AllP (Qm s) e) (Ik ts kid n l i)
 | 0,l,i,h1,h2,h3,h4=>absurd h4 (Nat.not_lt_zero _)
 | n + 1,l,i,h1,h2,h3,h4=>by
  unfold Ik
  refine .ite (fun h=>?_) (fun _=>?_)
  ·have h5:=H8 hts h2 (ws:=[[44]]) (by decide) h
   refine (hk (i + 1) (by omega) h5).bind fun y j ⟨a,b,c⟩=>?_
   exact (rest_s hk n _ j (by omega) b (fun e he=>(List.mem_append.1 he).elim (fun he=>h3 e he) (fun he=>by simp at he; subst he; exact c)) (by omega)).mono fun e m ⟨a2,b2,c2⟩=>⟨by omega,b2,c2⟩
  ·exact (J7 hts h2 (ws:=[[41]]) (by decide)).bind fun _ j ⟨_,a,b,_⟩=>.ok ⟨by omega,b,h3⟩
omit hat in
theorem list_s {i:Nat} {kid:Nat → PR PE} (hk:∀ i',i < i' → i' < ts.length → Sat (fun e j=>i' < j ∧ j < ts.length ∧ AllP (Qm s) e) (kid i')) (n:Nat) (hi:i < ts.length) (hn:ts.length - i ≤ n):Sat (fun l j=>i < j ∧ j < ts.length ∧ ∀ e ∈ l,AllP (Qm s) e) (Lg ts kid n i):=by
 unfold Lg
 refine (J7 hts hi (ws:=[[40]]) (by decide)).bind fun _ j ⟨_,a,b,_⟩=>?_
 refine .ite (fun h=>?_) (fun _=>?_)
 ·exact .ok ⟨by omega,H8 hts b (ws:=[[41]]) (by decide) h,fun e he=>by cases he⟩
 ·refine (hk j (by omega) b).bind fun x m ⟨a1,b1,c1⟩=>?_
  exact (rest_s hts (lo:=i + 1) (fun i' h1 h2=>hk i' (by omega) h2) n [x] m (by omega) b1 (fun e he=>by simp at he; subst he; exact c1) (by omega)).mono fun e m ⟨a2,b2,c2⟩=>⟨by omega,b2,c2⟩
omit hts in
theorem truth_s {i:Nat} (hi:i < ts.length):AllP (Qm s) (Lc (tk ts i)):=P9 rfl (stB_nil (hat i hi)) (fun e he=>by cases he)
omit hts hat in
def Kh:NT → Nat
 | .expr=>12 | .arrow=>11 | .or=>10 | .and=>9 | .not=>8 | .sum=>7 | .term=>6 | .unary=>5 | .when=>4 | .primary=>3 | .name=>2 | .brk=>2 | .call=>1 | .lit=>0
theorem P_s:∀ (n:Nat) (nt:NT) (i:Nat),i < ts.length → 16 * (ts.length - i) + Kh nt < n → Sat (fun e j=>i < j ∧ j < ts.length ∧ AllP (Qm s) e) (P ts n nt i)
 | 0,nt,i,hi,hn=>absurd hn (Nat.not_lt_zero _)
 | n + 1,nt,i,hi,hn=>by
  have ih:=fun (nt:NT) (i':Nat) (h1:i' < ts.length) (h2:16 * (ts.length - i') + Kh nt < n)=>P_s n nt i' h1 h2
  have later:∀ (nt:NT) (i':Nat),i < i' → i' < ts.length → Sat (fun e j=>i' < j ∧ j < ts.length ∧ AllP (Qm s) e) (P ts n nt i'):=fun nt i' h1 h2=>ih nt i' h2 (by cases nt <;> simp only [Kh] <;> omega)
  have two:∀ {x y:PE},AllP (Qm s) x → AllP (Qm s) y → ∀ e ∈ [x,y],AllP (Qm s) e:=fun hx hy e he=>by
   simp at he; rcases he with rfl | rfl
   ·exact hx
   ·exact hy
  have one:∀ {x:PE},AllP (Qm s) x → ∀ e ∈ [x],AllP (Qm s) e:=fun hx e he=>by simp at he; subst he; exact hx
  cases nt with
  | expr =>
   simp only [Kh] at hn
   show Sat _ (if _ then _ else _)
   refine .ite (fun h=>?_) (fun _=>ih .arrow i hi (by simp only [Kh]; omega))
   have h5:=H8 hts hi (ws:=[[105,102]]) (by decide) h
   have hg:=hat i hi
   rw [show (tk ts i).text=[105,102] by simpa using h] at hg
   refine (later .expr (i + 1) (by omega) h5).bind fun c j ⟨a1,b1,c1⟩=>?_
   refine (J7 hts b1 (by decide)).bind fun _ j2 ⟨_,a2,b2,_⟩=>?_
   refine (later .expr j2 (by omega) b2).bind fun y j3 ⟨a3,b3,c3⟩=>?_
   refine (J7 hts b3 (by decide)).bind fun _ j4 ⟨_,a4,b4,_⟩=>?_
   refine (later .expr j4 (by omega) b4).bind fun z j5 ⟨a5,b5,c5⟩=>?_
   refine .ok ⟨by omega,b5,P9 (by simp [Qr,Lv]) hg (fun e he=>?_)⟩
   simp at he; rcases he with rfl | rfl | rfl
   ·exact c1
   ·exact c3
   ·exact c5
  | arrow =>
   simp only [Kh] at hn
   show Sat _ (PR.bind _ _)
   refine (ih .or i hi (by simp only [Kh]; omega)).bind fun x j ⟨a1,b1,c1⟩=>?_
   refine .ite (fun h=>?_) (fun _=>.ite (fun _=>.ok ⟨a1,b1,c1⟩) (fun _=>.ite (fun h=>?_) (fun _=>.ok ⟨a1,b1,c1⟩)))
   ·have h5:=H8 hts b1 (ws:=[[45,62]]) (by decide) h
    have hg:=hat j b1
    rw [show (tk ts j).text=[45,62] by simpa using h] at hg
    refine (later .arrow (j + 1) (by omega) h5).bind fun y m ⟨a2,b2,c2⟩=>.ok ⟨by omega,b2,P9 (by simp [Qr,Lv]) hg (two c1 c2)⟩
   ·have h5:=H8 hts b1 (ws:=[[102,98,121]]) (by decide) h
    have hg:=hat j b1
    rw [show (tk ts j).text=[102,98,121] by simpa using h] at hg
    refine (later .arrow (j + 1) (by omega) h5).bind fun y m ⟨a2,b2,c2⟩=>.ok ⟨by omega,b2,P9 (by simp [Qr,Lv]) hg (two c1 c2)⟩
  | or =>
   simp only [Kh] at hn
   show Sat _ (PR.bind _ _)
   refine (ih .and i hi (by simp only [Kh]; omega)).bind fun x j ⟨a1,b1,c1⟩=>?_
   exact (row_s hts hat (lo:=i + 1) (by decide) (fun i' h1 h2=>later .and i' (by omega) h2) n x j (by omega) b1 c1 (by omega)).mono fun e m ⟨a2,b2,c2⟩=>⟨by omega,b2,c2⟩
  | and =>
   simp only [Kh] at hn
   show Sat _ (PR.bind _ _)
   refine (ih .not i hi (by simp only [Kh]; omega)).bind fun x j ⟨a1,b1,c1⟩=>?_
   exact (row_s hts hat (lo:=i + 1) (by decide) (fun i' h1 h2=>later .not i' (by omega) h2) n x j (by omega) b1 c1 (by omega)).mono fun e m ⟨a2,b2,c2⟩=>⟨by omega,b2,c2⟩
  | not =>
   simp only [Kh] at hn
   show Sat _ (if _ then _ else _)
   refine .ite (fun h=>?_) (fun _=>?_)
   ·have h5:=H8 hts hi (ws:=[[110,111,116]]) (by decide) h
    have hg:=hat i hi
    rw [show (tk ts i).text=[110,111,116] by simpa using h] at hg
    exact (later .not (i + 1) (by omega) h5).bind fun x j ⟨a,b,c⟩=>.ok ⟨by omega,b,P9 (by simp [Qr,Lv]) hg (one c)⟩
   ·refine (ih .sum i hi (by simp only [Kh]; omega)).bind fun x j ⟨a1,b1,c1⟩=>?_
    refine .ite (fun h=>?_) (fun _=>.ok ⟨a1,b1,c1⟩)
    have h5:=H8 hts b1 (ws:=[[61],[60,62],[60],[60,61],[62],[62,61]]) (by decide) h
    exact (later .sum (j + 1) (by omega) h5).bind fun y m ⟨a2,b2,c2⟩=>.ok ⟨by omega,b2,good_bin (hat j b1) c1 c2⟩
  | sum =>
   simp only [Kh] at hn
   show Sat _ (PR.bind _ _)
   refine (ih .term i hi (by simp only [Kh]; omega)).bind fun x j ⟨a1,b1,c1⟩=>?_
   exact (row_s hts hat (lo:=i + 1) (by decide) (fun i' h1 h2=>later .term i' (by omega) h2) n x j (by omega) b1 c1 (by omega)).mono fun e m ⟨a2,b2,c2⟩=>⟨by omega,b2,c2⟩
  | term =>
   simp only [Kh] at hn
   show Sat _ (PR.bind _ _)
   refine (ih .unary i hi (by simp only [Kh]; omega)).bind fun x j ⟨a1,b1,c1⟩=>?_
   exact (row_s hts hat (lo:=i + 1) (by decide) (fun i' h1 h2=>later .unary i' (by omega) h2) n x j (by omega) b1 c1 (by omega)).mono fun e m ⟨a2,b2,c2⟩=>⟨by omega,b2,c2⟩
  | unary =>
   simp only [Kh] at hn
   show Sat _ (if _ then _ else _)
   refine .ite (fun h=>?_) (fun _=>.ite (fun _=>num_s hts hat hi) (fun _=>.ite (fun h=>?_) (fun _=>ih .when i hi (by simp only [Kh]; omega))))
   ·have h5:=H8 hts hi (ws:=[[112,114,101]]) (by decide) h
    have hg:=hat i hi
    rw [show (tk ts i).text=[112,114,101] by simpa using h] at hg
    exact (later .unary (i + 1) (by omega) h5).bind fun x j ⟨a,b,c⟩=>.ok ⟨by omega,b,P9 (by simp [Qr,Lv]) hg (one c)⟩
   ·have h5:=H8 hts hi (ws:=[[45]]) (by decide) h
    have hg:=hat i hi
    rw [show (tk ts i).text=[45] by simpa using h] at hg
    exact (later .unary (i + 1) (by omega) h5).bind fun x j ⟨a,b,c⟩=>.ok ⟨by omega,b,P9 (by simp [Qr,Lv]) hg (one c)⟩
  | when =>
   simp only [Kh] at hn
   show Sat _ (PR.bind _ _)
   refine (ih .primary i hi (by simp only [Kh]; omega)).bind fun x j ⟨a1,b1,c1⟩=>?_
   exact (when_s hts hat n x j b1 c1 (by omega)).mono fun e m ⟨a2,b2,c2⟩=>⟨by omega,b2,c2⟩
  | primary =>
   simp only [Kh] at hn
   show Sat _ (if _ then _ else _)
   refine .ite (fun _=>num_s hts hat hi) (fun _=>.ite (fun _=>ih .name i hi (by simp only [Kh]; omega)) (fun _=>.ite (fun h=>?_) (fun _=>.ite (fun h=>?_) (fun _=>.ite (fun h=>?_) (fun _=>ih .brk i hi (by simp only [Kh]; omega))))))
   ·exact .ok ⟨by omega,H8 hts hi (ws:=[[116,114,117,101],[102,97,108,115,101]]) (by decide) (by simpa using h),truth_s hat hi⟩
   ·have h5:=H8 hts hi (ws:=[[109,101,114,103,101]]) (by decide) (by simpa using h)
    have hg:=hat i hi
    rw [h] at hg
    refine (Wi hts h5 (by decide)).bind fun t j ⟨_,a1,b1⟩=>?_
    refine (later .brk j (by omega) b1).bind fun x j2 ⟨a2,b2,c2⟩=>?_
    refine (later .brk j2 (by omega) b2).bind fun y j3 ⟨a3,b3,c3⟩=>?_
    exact .ok ⟨by omega,b3,P9 (by simp [Qr,Lv]) hg (two c2 c3)⟩
   ·have h5:=H8 hts hi (ws:=[[97,119,97,105,116]]) (by decide) (by simpa using h)
    have hg:=hat i hi
    rw [h] at hg
    refine (Wi hts h5 (by decide)).bind fun t j ⟨_,a1,b1⟩=>?_
    refine .ite (fun h=>?_) (fun _=>.ok ⟨by omega,b1,P9 (by simp [Qr,Lv]) hg (fun e he=>by cases he)⟩)
    have h6:=H8 hts b1 (ws:=[[97,102,116,101,114]]) (by decide) h
    refine (J7 hts h6 (by decide)).bind fun _ j2 ⟨_,a2,b2,_⟩=>?_
    refine (later .lit j2 (by omega) b2).bind fun x m ⟨a3,b3,c3⟩=>?_
    refine (rest_s hts (lo:=i + 1) (fun i' h1 h2=>later .lit i' (by omega) h2) n [x] m (by omega) b3 (one c3) (by omega)).bind fun l m2 ⟨a4,b4,c4⟩=>?_
    exact .ok ⟨by omega,b4,P9 (by simp [Qr,Lv]) hg c4⟩
  | name =>
   simp only [Kh] at hn
   show Sat _ (if _ then _ else _)
   refine .ite (fun _=>ih .call i hi (by simp only [Kh]; omega)) (fun _=>?_)
   refine (Wi hts hi (by decide)).bind fun t j ⟨h1,a1,b1⟩=>.ok ⟨by omega,b1,P9 (w:=t.text) (by simp [Qr,Lv]) (by rw [h1]; exact hat i hi) (fun e he=>by cases he)⟩
  | call =>
   simp only [Kh] at hn
   show Sat _ (PR.bind _ _)
   refine (Wi hts hi (by decide)).bind fun t j ⟨h1,a1,b1⟩=>?_
   refine (list_s hts (fun i' h1 h2=>later .expr i' (by omega) h2) n b1 (by omega)).bind fun l m ⟨a2,b2,c2⟩=>?_
   exact .ok ⟨by omega,b2,P9 (w:=t.text) (by simp [Qr,Lv]) (by rw [h1]; exact hat i hi) c2⟩
  | brk =>
   simp only [Kh] at hn
   show Sat _ (PR.bind _ _)
   refine (J7 hts hi (by decide)).bind fun _ j ⟨_,a1,b1,_⟩=>?_
   refine (later .expr j (by omega) b1).bind fun x j2 ⟨a2,b2,c2⟩=>?_
   exact (J7 hts b2 (by decide)).bind fun _ j3 ⟨_,a3,b3,_⟩=>.ok ⟨by omega,b3,c2⟩
  | lit =>
   simp only [Kh] at hn
   show Sat _ (if _ then _ else _)
   refine .ite (fun h=>?_) (fun _=>num_s hts hat hi)
   exact .ok ⟨by omega,H8 hts hi (ws:=[[116,114,117,101],[102,97,108,115,101]]) (by decide) h,truth_s hat hi⟩
end
def yB (s:List UInt8) (d:PD):Prop:=stB s d.name d.pos=true
def GoodL (s:List UInt8) (x:List UInt8 × Nat):Prop:=stB s x.1 x.2=true
def GoodQ (s:List UInt8) (L:Nat) (q:PQ):Prop:=(∀ x ∈ q.left,GoodL s x) ∧ AllP (fun e=>Wide e ∧ Qm s e) q.e ∧ q.left.length ≤ L
def yA (s:List UInt8) (L:Nat) (n:PN):Prop:=stB s n.name n.pos=true ∧ (∀ d ∈ n.ins ++ n.outs ++ n.vars,yB s d) ∧ (∀ q ∈ n.eqs,GoodQ s L q) ∧ n.ins.length + n.outs.length + n.vars.length ≤ L ∧ n.eqs.length ≤ L
theorem wide_all {B:PE → Prop}:∀ {e:PE},AllP B e → Wide e → AllP (fun e=>Wide e ∧ B e) e:=fun {e} h=>by
 induction h with
 | mk kind pos n name off kids hb hk ih =>
  intro hw
  have hw2:=hw
  cases hw with
  | mk _ _ _ _ _ _ hl hkw=>exact .mk _ _ _ _ _ _ ⟨hw2,hb⟩ (fun e he=>ih e he (hkw e he))
section
variable {ts:List Tk} (hts:TokOk ts) {s:List UInt8} (hat:Ta s ts)
include hts
theorem decl_s (hat:Ta s ts) {i:Nat} (hi:i < ts.length):Sat (fun d j=>i < j ∧ j < ts.length ∧ yB s d) (I6 ts i):=by
 unfold I6
 refine (Wi hts hi (by decide)).bind fun t j ⟨h1,a1,b1⟩=>?_
 have hg:stB s t.text t.pos=true:=by rw [h1]; exact hat i hi
 refine (J7 hts b1 (by decide)).bind fun _ j2 ⟨_,a2,b2,_⟩=>?_
 refine .ite (fun h=>?_) (fun _=>?_)
 ·have h5:=H8 hts b2 (ws:=[[102,117,116,117,114,101]]) (by decide) h
  exact (J7 hts h5 (by decide)).bind fun u m ⟨_,a3,b3,_⟩=>.ok ⟨by omega,b3,hg⟩
 ·exact (J7 hts b2 (by decide)).bind fun u m ⟨_,a3,b3,_⟩=>.ok ⟨by omega,b3,hg⟩
theorem xE (hat:Ta s ts) {i:Nat} (hi:i < ts.length):Sat (fun d j=>i < j ∧ j < ts.length ∧ yB s d) (Gs ts i):=by
 unfold Gs
 refine (decl_s hts hat hi).bind fun d j ⟨a1,b1,c1⟩=>?_
 refine .ite (fun h=>?_) (fun _=>?_)
 ·have h5:=H8 hts b1 (ws:=[[119,104,101,110]]) (by decide) h
  refine (clock_s hts h5).bind fun c j2 ⟨a2,b2⟩=>?_
  exact (J7 hts b2 (by decide)).bind fun u m ⟨_,a3,b3,_⟩=>.ok ⟨by omega,b3,c1⟩
 ·exact (J7 hts b1 (by decide)).bind fun u m ⟨_,a3,b3,_⟩=>.ok ⟨by omega,b3,c1⟩
theorem zV (hat:Ta s ts) {i:Nat} (hi:i < ts.length):Sat (fun d j=>i < j ∧ j < ts.length ∧ GoodL s d) (Ix ts i):=by
 unfold Ix
 refine (Wi hts hi (by decide)).bind fun t j ⟨h1,a1,b1⟩=>.ok ⟨by omega,b1,?_⟩
 show stB s t.text t.pos=true
 rw [h1]; exact hat i hi
theorem yZ {α:Type} {G:α → Prop} {kid:Nat → PR α} (hk:∀ i,i < ts.length → Sat (fun e j=>i < j ∧ j < ts.length ∧ G e) (kid i)):∀ (n:Nat) (l:List α) (i:Nat),i < ts.length → (∀ e ∈ l,G e) → ts.length - i < n → Sat (fun r j=>i < j ∧ j < ts.length ∧ (∀ e ∈ r,G e) ∧ r.length + i ≤ l.length + j) (Hu ts kid n l i)
 | 0,l,i,h2,h3,h4=>absurd h4 (Nat.not_lt_zero _)
 | n + 1,l,i,h2,h3,h4=>by
  unfold Hu
  refine .ite (fun h=>?_) (fun _=>?_)
  ·have h5:=H8 hts h2 (ws:=[[44]]) (by decide) h
   refine (hk (i + 1) h5).bind fun y j ⟨a,b,c⟩=>?_
   exact (yZ hk n _ j b (fun e he=>(List.mem_append.1 he).elim (fun he=>h3 e he) (fun he=>by simp at he; subst he; exact c)) (by omega)).mono fun e m ⟨a2,b2,c2,d2⟩=>⟨by omega,b2,c2,by simp at d2; omega⟩
  ·exact (J7 hts h2 (ws:=[[41]]) (by decide)).bind fun _ j ⟨_,a,b,_⟩=>.ok ⟨by omega,b,h3,by omega⟩
theorem listA_s {α:Type} {G:α → Prop} {kid:Nat → PR α} (hk:∀ i,i < ts.length → Sat (fun e j=>i < j ∧ j < ts.length ∧ G e) (kid i)) (n:Nat) {i:Nat} (hi:i < ts.length) (hn:ts.length ≤ n):Sat (fun r j=>i < j ∧ j < ts.length ∧ (∀ e ∈ r,G e) ∧ r.length + i ≤ j) (K3 ts kid n i):=by
 unfold K3
 refine (J7 hts hi (ws:=[[40]]) (by decide)).bind fun _ j ⟨_,a,b,_⟩=>?_
 refine .ite (fun h=>?_) (fun _=>?_)
 ·exact .ok ⟨by omega,H8 hts b (ws:=[[41]]) (by decide) h,(fun e he=>by cases he),by simp; omega⟩
 ·refine (hk j b).bind fun x m ⟨a1,b1,c1⟩=>?_
  exact (yZ hts hk n [x] m b1 (fun e he=>by simp at he; subst he; exact c1) (by omega)).mono fun e m ⟨a2,b2,c2,d2⟩=>⟨by omega,b2,c2,by simp at d2; omega⟩
theorem vars_s (hat:Ta s ts):∀ (n:Nat) (l:List PD) (i:Nat),i < ts.length → (∀ e ∈ l,yB s e) → ts.length - i < n → Sat (fun r j=>i ≤ j ∧ j < ts.length ∧ (∀ e ∈ r,yB s e) ∧ r.length + i ≤ l.length + j) (Ky ts n l i)
 | 0,l,i,h2,h3,h4=>absurd h4 (Nat.not_lt_zero _)
 | n + 1,l,i,h2,h3,h4=>by
  unfold Ky
  refine .ite (fun h=>?_) (fun _=>.ok ⟨Nat.le_refl _,h2,h3,Nat.le_refl _⟩)
  refine (xE hts hat h2).bind fun y j ⟨a,b,c⟩=>?_
  exact (vars_s hat n _ j b (fun e he=>(List.mem_append.1 he).elim (fun he=>h3 e he) (fun he=>by simp at he; subst he; exact c)) (by omega)).mono fun e m ⟨a2,b2,c2,d2⟩=>⟨by omega,b2,c2,by simp at d2; omega⟩
theorem lefts_s (hat:Ta s ts) (n:Nat) {i:Nat} (hi:i < ts.length) (hn:ts.length ≤ n):Sat (fun r j=>i < j ∧ j < ts.length ∧ (∀ e ∈ r,GoodL s e) ∧ r.length + i ≤ j) (J9 ts n i):=by
 unfold J9
 refine .ite (fun _=>?_) (fun _=>?_)
 ·exact (zV hts hat hi).bind fun x j ⟨a,b,c⟩=>.ok ⟨a,b,(fun e he=>by simp at he; subst he; exact c),by simp; omega⟩
 ·refine (J7 hts hi (by decide)).bind fun _ j ⟨_,a1,b1,_⟩=>?_
  refine (zV hts hat b1).bind fun x j2 ⟨a2,b2,c2⟩=>?_
  refine (J7 hts b2 (by decide)).bind fun _ j3 ⟨_,a3,b3,_⟩=>?_
  refine Sat.bind (Q:=fun l m=>j3 < m ∧ m < ts.length ∧ (∀ e ∈ l,GoodL s e) ∧ l.length + j3 ≤ m) ?_ (fun l m ⟨a4,b4,c4,d4⟩=>.ok ⟨by omega,b4,fun e he=>?_,by simp; omega⟩)
  ·refine (zV hts hat b3).bind fun y m ⟨a5,b5,c5⟩=>?_
   exact (yZ hts (fun i h=>zV hts hat h) n [y] m b5 (fun e he=>by simp at he; subst he; exact c5) (by omega)).mono fun e m ⟨a2,b2,c2,d2⟩=>⟨by omega,b2,c2,by simp at d2; omega⟩
  ·rcases List.mem_cons.1 he with rfl | he
   ·exact c2
   ·exact c4 e he
theorem fQ (hat:Ta s ts) (n:Nat) (hn:16 * ts.length + 16 ≤ n) (hN:n ≤ 1000000) (nt:NT) {i:Nat} (hi:i < ts.length):Sat (fun e j=>i < j ∧ j < ts.length ∧ AllP (fun e=>Wide e ∧ Qm s e) e) (Hm (P ts n nt) i):=by
 unfold Hm
 have h:=P_s hts hat n nt i hi (by cases nt <;> simp only [Kh] <;> omega)
 have h2:Sat (fun e j=>i < j ∧ j < ts.length ∧ AllP (fun e=>Wide e ∧ Qm s e) e) (P ts n nt i):=⟨h.1,fun e j he=>⟨(h.2 e j he).1,(h.2 e j he).2.1,wide_all (h.2 e j he).2.2 (sT n hN nt _ _ _ he)⟩⟩
 refine h2.bind fun e j h=>?_
 exact .ite (fun _=>.bad) (fun _=>.ok h)
theorem eq_s (hat:Ta s ts) (n:Nat) (hn:16 * ts.length + 16 ≤ n) (hN:n ≤ 1000000) {i:Nat} (hi:i < ts.length):Sat (fun q j=>i < j ∧ j < ts.length ∧ GoodQ s ts.length q) (eqP ts n i):=by
 unfold eqP
 refine (lefts_s hts hat n hi (by omega)).bind fun ls j ⟨a1,b1,c1,d1⟩=>?_
 refine (J7 hts b1 (by decide)).bind fun _ j2 ⟨_,a2,b2,_⟩=>?_
 refine .ite (fun h=>?_) (fun _=>?_)
 ·have h5:=H8 hts b2 (ws:=[[97,115,121,110,99]]) (by decide) h
  refine (fQ hts hat n hn hN .call h5).bind fun e m ⟨a3,b3,c3⟩=>?_
  exact (J7 hts b3 (by decide)).bind fun _ m2 ⟨_,a4,b4,_⟩=>.ok ⟨by omega,b4,c1,c3,by show ls.length ≤ _; omega⟩
 ·refine (fQ hts hat n hn hN .expr b2).bind fun e m ⟨a3,b3,c3⟩=>?_
  exact (J7 hts b3 (by decide)).bind fun _ m2 ⟨_,a4,b4,_⟩=>.ok ⟨by omega,b4,c1,c3,by show ls.length ≤ _; omega⟩
theorem eqs_s (hat:Ta s ts) (N:Nat) (hN:16 * ts.length + 16 ≤ N) (hN2:N ≤ 1000000):∀ (n:Nat) (l:List PQ) (i:Nat),i < ts.length → (∀ e ∈ l,GoodQ s ts.length e) → ts.length - i < n → Sat (fun r j=>i ≤ j ∧ j < ts.length ∧ (∀ e ∈ r,GoodQ s ts.length e) ∧ r.length + i ≤ l.length + j) (Rm ts N n l i)
 | 0,l,i,h2,h3,h4=>absurd h4 (Nat.not_lt_zero _)
 | n + 1,l,i,h2,h3,h4=>by
  unfold Rm
  refine .ite (fun _=>.ok ⟨Nat.le_refl _,h2,h3,Nat.le_refl _⟩) (fun _=>?_)
  refine (eq_s hts hat N hN hN2 h2).bind fun y j ⟨a,b,c⟩=>?_
  exact (eqs_s hat N hN hN2 n _ j b (fun e he=>(List.mem_append.1 he).elim (fun he=>h3 e he) (fun he=>by simp at he; subst he; exact c)) (by omega)).mono fun e m ⟨a2,b2,c2,d2⟩=>⟨by omega,b2,c2,by simp at d2; omega⟩
theorem varsQ_s (hat:Ta s ts) (n:Nat) {i:Nat} (hi:i < ts.length) (hn:ts.length ≤ n):Sat (fun r j=>i ≤ j ∧ j < ts.length ∧ (∀ e ∈ r,yB s e) ∧ r.length + i ≤ j) (Pa ts n i):=by
 unfold Pa
 refine .ite (fun h=>?_) (fun _=>.ok ⟨Nat.le_refl _,hi,(fun e he=>by cases he),by simp⟩)
 have h5:=H8 hts hi (ws:=[[118,97,114]]) (by decide) h
 refine (xE hts hat h5).bind fun x m ⟨a,b,c⟩=>?_
 exact (vars_s hts hat n [x] m b (fun e he=>by simp at he; subst he; exact c) (by omega)).mono fun e m ⟨a2,b2,c2,d2⟩=>⟨by omega,b2,c2,by simp at d2; omega⟩
theorem node_s (hat:Ta s ts) (n:Nat) (hn:16 * ts.length + 16 ≤ n) (hN:n ≤ 1000000) {i:Nat} (hi:i < ts.length):Sat (fun q j=>i < j ∧ j < ts.length ∧ yA s ts.length q) (Lu ts n i):=by
 unfold Lu
 refine (J7 hts hi (by decide)).bind fun _ j ⟨_,a1,b1,_⟩=>?_
 refine (Wi hts b1 (by decide)).bind fun t j2 ⟨h2,a2,b2⟩=>?_
 have hg:stB s t.text t.pos=true:=by rw [h2]; exact hat j b1
 refine (listA_s hts (fun i h=>decl_s hts hat h) n b2 (by omega)).bind fun ins j3 ⟨a3,b3,c3,d3⟩=>?_
 refine (J7 hts b3 (by decide)).bind fun _ j4 ⟨_,a4,b4,_⟩=>?_
 refine (listA_s hts (fun i h=>decl_s hts hat h) n b4 (by omega)).bind fun outs j5 ⟨a5,b5,c5,d5⟩=>?_
 refine (varsQ_s hts hat n b5 (by omega)).bind fun vars j6 ⟨a6,b6,c6,d6⟩=>?_
 refine (J7 hts b6 (by decide)).bind fun _ j7 ⟨_,a7,b7,_⟩=>?_
 refine (eqs_s hts hat n hn hN n [] j7 b7 (fun e he=>by cases he) (by omega)).bind fun qs j8 ⟨a8,b8,c8,d8⟩=>?_
 refine (J7 hts b8 (by decide)).bind fun _ j9 ⟨_,a9,b9,_⟩=>.ok ⟨by omega,b9,hg,fun d hd=>?_,c8,(by show ins.length + outs.length + vars.length ≤ _; omega),(by show qs.length ≤ _; simp at d8; omega)⟩
 rcases List.mem_append.1 hd with hd | hd
 ·rcases List.mem_append.1 hd with hd | hd
  ·exact c3 d hd
  ·exact c5 d hd
 ·exact c6 d hd
theorem prog_s (hat:Ta s ts) (N:Nat) (hN:16 * ts.length + 16 ≤ N) (hN2:N ≤ 1000000):∀ (n:Nat) (l:List PN) (i:Nat),i < ts.length → (∀ e ∈ l,yA s ts.length e) → ts.length - i < n → Sat (fun r j=>i ≤ j ∧ j < ts.length ∧ (∀ e ∈ r,yA s ts.length e) ∧ r.length + i ≤ l.length + j) (L5 ts N n l i)
 | 0,l,i,h2,h3,h4=>absurd h4 (Nat.not_lt_zero _)
 | n + 1,l,i,h2,h3,h4=>by
  unfold L5
  refine .ite (fun _=>?_) (fun _=>.ok ⟨Nat.le_refl _,h2,h3,Nat.le_refl _⟩)
  refine (node_s hts hat N hN hN2 h2).bind fun y j ⟨a,b,c⟩=>?_
  exact (prog_s hat N hN hN2 n _ j b (fun e he=>(List.mem_append.1 he).elim (fun he=>h3 e he) (fun he=>by simp at he; subst he; exact c)) (by omega)).mono fun e m ⟨a2,b2,c2,d2⟩=>⟨by omega,b2,c2,by simp at d2; omega⟩
theorem uZ (hat:Ta s ts) (n:Nat) (hn:16 * ts.length + 16 ≤ n) (hN:n ≤ 1000000) (h0:0 < ts.length):Sat (fun l j=>j < ts.length ∧ (∀ e ∈ l,yA s ts.length e) ∧ l.length ≤ ts.length) (Fm ts n 0):=by
 unfold Fm
 refine (node_s hts hat n hn hN h0).bind fun x j ⟨a,b,c⟩=>?_
 exact (prog_s hts hat n hn hN n [x] j b (fun e he=>by simp at he; subst he; exact c) (by omega)).mono fun e m ⟨a2,b2,c2,d2⟩=>⟨b2,c2,by simp at d2; omega⟩
end
theorem T7 (l:List UInt8) (k:Nat):l.take (l.take k).length=l.take k:=by
 rw [List.length_take]
 by_cases h:k ≤ l.length
 ·rw [Nat.min_eq_left h]
 ·rw [Nat.min_eq_right (by omega),List.take_of_length_le (Nat.le_refl _),List.take_of_length_le (by omega)]
theorem next_text {l:List UInt8} {i:Nat} {t:Tk} (h:Ja l i=some (t,0)):t.pos=i ∧ l.take t.text.length=t.text:=by
 unfold Ja at h
 split at h
 ·cases h
 ·rename_i b r
  split at h
  ·injection h with h
   unfold O9 at h
   split at h
   ·injection h with h1 h2; subst h1; exact ⟨rfl,T7 _ _⟩
   ·split at h
    ·injection h with h1 h2; cases h2
    ·injection h with h1 h2; subst h1; exact ⟨rfl,T7 _ _⟩
  ·split at h
   ·unfold aH at h
    split at h
    ·injection h with h; injection h with h1 h2; cases h2
    ·split at h
     ·split at h
      ·injection h with h; injection h with h1 h2; cases h2
      ·injection h with h; injection h with h1 h2; subst h1; exact ⟨rfl,T7 _ _⟩
     ·injection h with h; injection h with h1 h2; cases h2
   ·injection h with h
    unfold Nr at h
    split at h
    ·rename_i s hs
     injection h with h1 h2; subst h1
     have:=List.find?_some hs
     unfold Ey at this
     exact ⟨rfl,by simpa using this⟩
    ·injection h with h1 h2; cases h2
theorem allF_at (l:List UInt8):∀ (n i:Nat) (ts:List Tk),i ≤ l.length → Qk l n i=some (.inr ts) → ∀ j (h:j < ts.length),stB l ts[j].text ts[j].pos=true
 | 0,i,ts,hi,h,j,hj=>by cases h
 | n + 1,i,ts,hi,h,j,hj=>by
  unfold Qk at h
  split at h
  ·rename_i hil
   split at h
   ·cases h
   ·rename_i p hp
    split at h
    ·rename_i he
     split at h
     ·cases h
     ·cases h
     ·rename_i ts2 h2
      injection h with h; injection h with h; subst h
      have hq:Ja (l.drop i) i=some (p.1,0):=by rw [hp,← he]
      obtain ⟨t1,t2⟩:=next_text hq
      have t3:=cW hq
      rw [List.length_drop] at t3
      cases j with
      | zero =>
       show stB l p.1.text p.1.pos=true
       unfold stB
       rw [t1,t2,Bool.and_eq_true]
       exact ⟨decide_eq_true (by omega),decide_eq_true rfl⟩
      | succ j =>
       have hs:=Pd (l.length + 1) (l.drop (i + p.1.text.length))
       rw [List.length_drop] at hs
       exact allF_at l n _ ts2 (by omega) h2 j (by simpa using hj)
    ·cases h
  ·injection h with h; injection h with h; subst h
   have:j=0:=by simp at hj; exact hj
   subst this
   show stB l [] l.length=true
   unfold stB
   simp
theorem zR {l:List UInt8} {ts:List Tk} (h:Kt l=some (.inr ts)):Ta l ts:=by
 unfold Kt at h
 split at h
 ·cases h
 ·intro i hi
  rw [Nn hi]
  exact allF_at l _ _ ts (Pd _ _) h i hi
theorem sO (l:List UInt8):∀ (n i:Nat) (ts:List Tk),Qk l n i=some (.inr ts) → ts.length ≤ n
 | 0,i,ts,h=>by cases h
 | n + 1,i,ts,h=>by
  unfold Qk at h
  split at h
  ·split at h
   ·cases h
   ·rename_i p hp
    split at h
    ·rename_i he
     split at h
     ·cases h
     ·cases h
     ·rename_i ts2 h2
      injection h with h; injection h with h; subst h
      have:=sO l n _ ts2 h2
      simp; omega
    ·cases h
  ·injection h with h; injection h with h; subst h
   simp
theorem lexL_len {l:List UInt8} {ts:List Tk} (h:Kt l=some (.inr ts)):ts.length ≤ 4001:=by
 unfold Kt at h
 split at h
 ·cases h
 ·have:=sO l _ _ ts h; omega
theorem vV {l:List UInt8} {ts:List Tk} (h:Kt l=some (.inr ts)):ts.length ≤ l.length + 1:=by
 unfold Kt at h
 split at h
 ·cases h
 ·exact sO l _ _ ts h
theorem read_s {l:List UInt8} {out:(Nat × Nat) ⊕ List Tk} (h:Kt l=some out):Kg 70000 out ≠ none ∧ ∀ ns,Kg 70000 out=some (.inl ns) → (∀ n ∈ ns,yA l (l.length + 1) n) ∧ ns.length ≤ l.length + 1:=by
 cases out with
 | inl x=>exact ⟨(fun e=>by cases e),(fun ns e=>by cases e)⟩
 | inr ts =>
  obtain ⟨h1,h2⟩:=Y5 h
  have h3:=lexL_len h
  have h4:=vV h
  have hs:=uZ h1 (zR h) 70000 (by omega) (by decide) h2
  unfold Kg
  simp only
  cases hp:Fm ts 70000 0 with
  | out=>exact absurd hp hs.1
  | bad a e=>exact ⟨(fun e=>by cases e),(fun ns e=>by cases e)⟩
  | ok ns j =>
   obtain ⟨_,k1,k2⟩:=hs.2 ns j hp
   have key:(∀ n ∈ ns,yA l (l.length + 1) n) ∧ ns.length ≤ l.length + 1:=⟨fun n hn=>by
    obtain ⟨a1,a2,a3,a4,a5⟩:=k1 n hn
    exact ⟨a1,a2,fun q hq=>⟨(a3 q hq).1,(a3 q hq).2.1,Nat.le_trans (a3 q hq).2.2 h4⟩,Nat.le_trans a4 h4,Nat.le_trans a5 h4⟩,Nat.le_trans k2 h4⟩
   simp only
   split
   ·exact ⟨(fun e=>by cases e),(fun ns' e=>by injection e with e; injection e with e; subst e; exact key)⟩
   ·exact ⟨(fun e=>by cases e),(fun ns e=>by cases e)⟩
end Go.Ax
