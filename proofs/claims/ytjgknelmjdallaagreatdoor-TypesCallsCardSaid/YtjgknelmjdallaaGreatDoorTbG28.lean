/- Gw -/
import Derived.Test.YtjgknelmjdallaaGreatDoorTbG27
import Derived.Test.YtjgknelmjdallaaGreatDoorTbG25
import Derived.Test.YtjgknelmjdallaaGreatDoorTbG26
set_option linter.unusedVariables false
set_option linter.unusedSimpArgs false
set_option maxHeartbeats 16000000
noncomputable section
namespace Go.Ax
open Go.RowKit Go.Proofs
set_option maxRecDepth 100000
theorem bl125 (g:Nat):Gn Tryz.prog 125 [(0,.map g)]=some (.agg (Jg (.map g) .nilm 0 0)):=by kernel_rfl
theorem al125 (S:St):Jt Tryz.prog S 125=some (.ptr S.next 0,S.newBox (Jg .nilm .nilm 0 0)):=by kernel_rfl
theorem sz125:Fm Tryz.prog 125=some 4:=by kernel_rfl
theorem al33v (S:St):Jt Tryz.prog S 33=some (.ptr S.next 0,S.newBox (Dh 0 0)):=by kernel_rfl
theorem ag33u:Fq Tryz.prog 33=some true:=by kernel_rfl
theorem st123 {S:St} {s:Nat} {mn mm:AV} {a e:Nat} (h:S.mem.get s=some (.box (Jg mn mm a e))) (g:Nat):Dk Tryz.prog S 123 (.ptr s 1) (.map g)=some (S.put s (Jg mn (.map g) a e)):=by
 have hs:Fm Tryz.prog 123=some 1:=by kernel_rfl
 simp [Dk,h,hs,AV.noTup,AV.cells,Jg,St.put]
theorem ld33s {S:St} {s:Nat} {mn mm:AV} {a e:Nat} (h:S.mem.get s=some (.box (Jg mn mm a e))):Ci Tryz.prog S 33 (.ptr s 2)=some (.agg (Dh a e)):=by
 simp [Ci,Dv,h,ag33u,sz33z,Jg,Dh]
def NodeT (l:List (List UInt8 × AV)) (NF:PN → Nat × Nat → Nat × Nat) (nd:PN):Prop:=∀ (s m g:Nat) (v:AV) (S:St) (f:Nat × Nat),Jb v nd → Cx s m ⟨g,l⟩ (Pq [] (allD nd)) S f → WC E9 70 [.ptr s 0,v] S (fun r=>∃ S',r=.ret (.tup []) S' ∧ Cx s m ⟨g,l⟩ (Pq [] (allD nd)) S' (NF nd f) ∧ Eb s S S')
def Tf (NF:PN → Nat × Nat → Nat × Nat):Nat → List PN → Nat × Nat → Nat × Nat
 | _,[],f=>f
 | i,nd :: l,f=>Tf NF (i + 1) l (NF nd (if i=0 then Mt nd.ins f else f))
theorem checkF_cons (NF:PN → Nat × Nat → Nat × Nat) (i:Nat) (nd:PN) (l:List PN) (f:Nat × Nat):Tf NF i (nd :: l) f=Tf NF (i + 1) l (NF nd (if i=0 then Mt nd.ins f else f)):=rfl
def ckB:Code:=match Tryz.f29.body with
 | some (.seq _ (.seq _ (.seq (.seq _ (.block _ (.loop b))) _)))=>b
 | _=>.skip
structure CkS (s g:Nat) (l:List (List UInt8 × AV)) (S:St) (f:Nat × Nat):Prop where
 box:∃ mm,Sight S s (.map g) mm f
 nd:S.mem.get g=some (.mp (Iy id l))
 lt:g < S.next ∧ g ≠ s
def LoopCkS (s g:Nat) (l:List (List UInt8 × AV)) (S0:St) (q:Nat) (f:Nat × Nat) (r:O):Prop:=∃ t' S',r=.out (.exit 0) ⟨t',[]⟩ S' ∧ t'.get 2=some (.ptr q 0) ∧ t'.get 3=some (.ptr s 0) ∧ CkS s g l S' f ∧ Eb s S0 S'
theorem ck_lp {tok off:Nat} {es:List AV} {l:List PN} (hes:NodeRows es l) (hl:l.length ≤ 1000000) {mnl:List (List UInt8 × AV)} {NF:PN → Nat × Nat → Nat × Nat} (hN:∀ nd ∈ l,NodeT mnl NF nd) (hsz:∀ nd ∈ l,nd.ins.length + nd.outs.length + nd.vars.length ≤ 3000) (s g q:Nat) (S0:St) (hs0:s < S0.next):∀ (n j:Nat) (f:Nat × Nat) (t:T AV) (S:St),j + n=l.length → t.get 2=some (.ptr q 0) → t.get 3=some (.ptr s 0) → t.get 9=some (.sl tok off 6 es) → t.get 10=some (Dl l.length) → t.get 11=some (Dl j) → CkS s g mnl S f → Eb s S0 S →
  WX E9 29 (.loop ckB) ⟨t,[]⟩ S (LoopCkS s g mnl S0 q (Tf NF j (l.drop j) f))
 | 0,j,f,t,S,hj,h2,h3,h9,h10,h11,hc,hk=>by
  refine D2 (Ds ?_)
  have hlt:¬ ((j:Int) < (l.length:Int)):=by omega
  simp only [Dl] at h10 h11
  simp only [Bz,Bp,A6,Bk,Bn,Bt,C9,A4,Ct,Bf,A7,Be,Bc,Cf,A5,Ba,A8,A0,ofOpt,Bu,C3,Nat.reduceLT,Nat.reduceEqDiff,Aa,Ab,Ac,Am,Aq,Es,ckB,Tryz.f29,h10,h11,hlt]
  rw [List.drop_of_length_le (by omega)]
  exact ⟨_,_,rfl,by simp only [A0,A1,Nat.reduceEqDiff,Aa,Ab,h2],by simp only [A0,A1,Nat.reduceEqDiff,Aa,Ab,h3],hc,hk⟩
 | n + 1,j,f,t,S,hj,h2,h3,h9,h10,h11,hc,hk=>by
  refine D2 (Ds ?_)
  obtain ⟨fn1,hf68⟩:=fng_68
  obtain ⟨fn2,hf69⟩:=fng_69
  obtain ⟨fn3,hf70⟩:=fng_70
  have hjl:j < l.length:=by omega
  have hje:j < es.length:=by rw [hes.len]; exact hjl
  have hlt:((j:Int) < (l.length:Int)):=by omega
  have hw:IntKind.i64.wrap ((j:Int) + 1)=((j + 1:Nat):Int):=by rw [IntKind.wrap_i64]; omega
  have hnd:=U9 hes j hjl hje
  have hx:=idxU eu40 Uw tok off es j hje
  have hNn:=hN _ (List.getElem_mem hjl)
  have hsn:=hsz _ (List.getElem_mem hjl)
  rw [List.drop_eq_getElem_cons hjl]
  rw [checkF_cons]
  generalize es[j]=v at hx hnd
  generalize l[j]=nd at hnd hNn hsn ⊢
  have hnd0:=hnd
  obtain ⟨a,bb,c,d,qs,rfl,ha,hb,hcv,hd,hqe⟩:=hnd
  have hx:Cl Tryz.prog 40 (.sl tok off 6 es) (.v (.int .i64 (j:Int)))=some (.ep (Gg nd.name nd.pos a bb c d)):=hx
  have hep:=lepU gZ Uw S (Gg nd.name nd.pos a bb c d) rfl
  have al:=alo49 S
  have q1:=stU Uw (Cu S Ti) rfl (ys:=Gg nd.name nd.pos a bb c d) rfl
  obtain ⟨k2,g2,l2⟩:=Nm S Ti (Gg nd.name nd.pos a bb c d)
  generalize hS2:(S.newBox Ti).put S.next (Gg nd.name nd.pos a bb c d)=S2 at q1 g2 l2 k2
  have lq:=ldU gZ Uw g2 rfl
  obtain ⟨⟨mm,hb0⟩,hnm,hgl⟩:=hc
  have hb2:=hb0.keep k2
  simp only [Dl] at h10 h11
  simp only [Bz,Bp,A6,Bk,Bn,Bt,C9,A4,Ct,Bf,A7,Be,De,B3,Dr,Bc,Ce,A5,Ba,A8,A0,Bo,B5,ofOpt,ofOptS,Bu,C3,Nat.reduceLT,Nat.reduceEqDiff,Aa,Ab,Ac,Aj,Ak,Am,Ap,Es,ckB,Tryz.f29,h9,h10,h11,hlt,hx,hep,al,q1,lq,hf68]
  refine WC.mono (typesOf_w hnd0 hsn S2) ?_
  rintro _ ⟨m,S3,rfl,hm,hm2,hm3,k3⟩
  have hb3:=hb2.keep k3
  have st:=st123 hb3.box m
  have hsl:=hb0.lt
  have hkk:=k2.trans k3
  have a4:=Ef S3 s (Jg (.map g) (.map m) f.1 f.2)
  have k4:Eb s S3 (S3.put s (Jg (.map g) (.map m) f.1 f.2)):=⟨Nat.le_refl _,fun id _ hne=>Ek hne⟩
  have g3:(S3.put s (Jg (.map g) (.map m) f.1 f.2)).mem.get S.next=some (.box (Gg nd.name nd.pos a bb c d)):=(Ek (by omega)).trans ((k3.2 S.next l2).trans g2)
  have c4:Cx s m ⟨g,mnl⟩ (Pq [] (allD nd)) (S3.put s (Jg (.map g) (.map m) f.1 f.2)) f:=by
   have n2:=k2.1
   have n3:=k3.1
   refine ⟨⟨a4,Nat.lt_of_lt_of_le hsl hkk.1⟩,?_,⟨hm3,by omega⟩,?_,⟨Nat.lt_of_lt_of_le hgl.1 hkk.1,hgl.2⟩⟩
   ·exact (Ek (by omega)).trans hm
   ·exact (Ek hgl.2).trans ((hkk.2 g hgl.1).trans hnm)
  have n4:(S3.put s (Jg (.map g) (.map m) f.1 f.2)).next=S3.next:=rfl
  generalize hS4:S3.put s (Jg (.map g) (.map m) f.1 f.2)=S4 at st a4 k4 g3 c4 n4
  have lq4:=ldU gZ Uw g3 rfl
  have li4:Ci Tryz.prog S4 46 (.ptr S.next 2)=some a:=wB g3
  have kk4:Eb s S0 S4:=(hk.trans (hkk.x s)).trans k4
  have nS:S.next < S4.next:=by have:=k3.1; omega
  by_cases hj0:j=0
  ·have e0:((j:Int) == 0)=true:=by rw [beq_iff_eq]; omega
   rw [if_pos hj0]
   simp only [Bp,A6,Bk,Bn,A4,Bf,A7,Be,De,B3,Dr,Bc,Co,Ce,A5,Ba,A8,A0,Bo,B5,ofOpt,A9,Bu,B9,Nat.reduceLT,Nat.reduceEqDiff,Aa,Ab,Ac,Aj,Ak,Am,Es,h3,Sp,st,e0,nC,li4,hf69]
   refine WC.mono (noFut_w c4.g ha (by omega)) ?_
   rintro _ ⟨S5,rfl,hg5,k5⟩
   have c5:=c4.x k5 hg5
   have g5:S5.mem.get S.next=_:=(k5.2 S.next nS (by omega)).trans g3
   have lq5:=ldU gZ Uw g5 rfl
   simp only [A6,A4,Bf,A7,Be,B3,Bc,Co,A5,Ba,A8,A0,Bo,B5,ofOpt,Nat.reduceLT,Nat.reduceEqDiff,Aa,Ab,Ac,Aj,Ak,Es,h3,lq5,hf70]
   refine WC.mono (hNn s m g _ S5 _ hnd0 c5) ?_
   rintro _ ⟨S6,rfl,c6,k6⟩
   simp only [Bw,A6,A4,Br,Bf,A7,Be,Bc,Co,A5,Ba,A8,A0,ofOpt,A9,Bu,Dd,Nat.reduceLT,Nat.reduceEqDiff,Aa,Ab,Ac,Am,Es,h11,hw]
   refine ck_lp (tok:=tok) (off:=off) hes hl hN hsz s g q S0 hs0 n (j + 1) _ _ S6 (by omega) ?_ ?_ ?_ ?_ ?_ ⟨⟨_,c6.g⟩,c6.nd,c6.ndlt⟩ ((kk4.trans k5).trans k6)
   ·simp only [A0,A1,Nat.reduceEqDiff,Aa,Ab,h2]
   ·simp only [A0,A1,Nat.reduceEqDiff,Aa,Ab,h3]
   ·simp only [A0,A1,Nat.reduceEqDiff,Aa,Ab,h9]
   ·simp only [A0,A1,Nat.reduceEqDiff,Aa,Ab,h10]; rfl
   ·simp only [A0,A1,Nat.reduceEqDiff,Aa,Ab]; rfl
  ·have e0:((j:Int) == 0)=false:=by rw [beq_eq_false_iff_ne]; omega
   rw [if_neg hj0]
   simp only [Bp,A6,Bk,Bn,A4,Bf,A7,Be,De,B3,Dr,Bc,Co,Cf,A5,Ba,A8,A0,Bo,B5,ofOpt,A9,Bu,B9,Nat.reduceLT,Nat.reduceEqDiff,Aa,Ab,Ac,Aj,Ak,Am,Es,h3,Sp,st,e0,lq4,hf70]
   refine WC.mono (hNn s m g _ S4 _ hnd0 c4) ?_
   rintro _ ⟨S6,rfl,c6,k6⟩
   simp only [Bw,A6,A4,Br,Bf,A7,Be,Bc,Co,A5,Ba,A8,A0,ofOpt,A9,Bu,Dd,Nat.reduceLT,Nat.reduceEqDiff,Aa,Ab,Ac,Am,Es,h11,hw]
   refine ck_lp (tok:=tok) (off:=off) hes hl hN hsz s g q S0 hs0 n (j + 1) _ _ S6 (by omega) ?_ ?_ ?_ ?_ ?_ ⟨⟨_,c6.g⟩,c6.nd,c6.ndlt⟩ (kk4.trans k6)
   ·simp only [A0,A1,Nat.reduceEqDiff,Aa,Ab,h2]
   ·simp only [A0,A1,Nat.reduceEqDiff,Aa,Ab,h3]
   ·simp only [A0,A1,Nat.reduceEqDiff,Aa,Ab,h9]
   ·simp only [A0,A1,Nat.reduceEqDiff,Aa,Ab,h10]; rfl
   ·simp only [A0,A1,Nat.reduceEqDiff,Aa,Ab]; rfl
theorem check_w {v:AV} {l:List PN} {tok off:Nat} {es:List AV} (hv:v=.sl tok off 6 es) (hes:NodeRows es l) (hl:l.length ≤ 1000000) {NF:PN → Nat × Nat → Nat × Nat} (hN:∀ nd ∈ l,NodeT (Po [] es l) NF nd) (hsz:∀ nd ∈ l,nd.ins.length + nd.outs.length + nd.vars.length ≤ 3000) (S:St):WC E9 29 [v] S (fun r=>∃ S',r=.ret (.agg (Dh (Tf NF 0 l (0,0)).1 (Tf NF 0 l (0,0)).2)) S'):=by
 refine Dt Tryz.f29 (by kernel_rfl) (by kernel_rfl) (by kernel_rfl) (by show (_:Nat) ≤ _;simp [Tryz.f29]) ?_
 obtain ⟨fn1,hf67⟩:=fng_67
 have al:=al33v S
 have g1:=Cu S (Dh 0 0)
 have lt1:S.next < (S.newBox (Dh 0 0)).next:=Nat.lt_succ_self _
 generalize hS1:S.newBox (Dh 0 0)=S1 at al g1 lt1
 simp only [A6,Bk,A4,Bf,A7,Be,B3,Bc,A5,Ba,A8,Cd,A0,A1,Bo,B5,ofOpt,ofOptS,Nat.reduceLT,Nat.reduceEqDiff,Aa,Ab,Ac,Ae,Aj,Ak,Es,Tryz.f29,al,hf67]
 refine WC.mono (nodesOf_w hv hes hl S1) ?_
 rintro _ ⟨g,S2,rfl,hm,hm2,hm3,k2⟩
 subst hv
 have g2:S2.mem.get S.next=_:=(k2.2 S.next lt1).trans g1
 have hbl:=bl125 g
 have al2:=al125 S2
 have q3:=stU sz125 (Cu S2 (Jg .nilm .nilm 0 0)) rfl (ys:=Jg (.map g) .nilm 0 0) rfl
 obtain ⟨k3,a3,l3⟩:=Nm S2 (Jg .nilm .nilm 0 0) (Jg (.map g) .nilm 0 0)
 have lt2:=Nat.lt_of_lt_of_le lt1 k2.1
 generalize hS3:(S2.newBox (Jg .nilm .nilm 0 0)).put S2.next (Jg (.map g) .nilm 0 0)=S3 at q3 k3 a3 l3
 have g3:S3.mem.get S.next=_:=(k3.2 S.next lt2).trans g2
 have hck:CkS S2.next g (Po [] es l) S3 (0,0):=⟨⟨_,⟨a3,l3⟩⟩,(k3.2 g hm3).trans hm,⟨Nat.lt_of_lt_of_le hm3 k3.1,by omega⟩⟩
 have len:F6 Tryz.prog S3 40 (.sl tok off 6 es)=some l.length:=by simp [F6,un40,hes.len]
 have key:=fun t=>ck_lp (tok:=tok) (off:=off) hes hl hN hsz S2.next g S.next S3 l3 l.length 0 (0,0) t S3 (by omega)
 unfold ckB at key
 simp only [Tryz.f29] at key
 simp only [A6,Bk,Bt,D0,A4,Bf,A7,Be,De,Dr,Bc,Co,A5,Ba,A8,A0,A1,Bo,ofOpt,ofOptS,A9,Bv,Nat.reduceLT,Nat.reduceEqDiff,Aa,Ab,Ac,Es,hbl,al2,q3,len]
 refine WX.mono (key _ ?_ ?_ ?_ ?_ ?_ hck ⟨Nat.le_refl _,fun _ _ _=>rfl⟩) ?_
 ·simp only [A0,A1,Nat.reduceEqDiff,Aa,Ab]
 ·simp only [A0,A1,Nat.reduceEqDiff,Aa,Ab]
 ·simp only [A0,A1,Nat.reduceEqDiff,Aa,Ab]
 ·simp only [A0,A1,Nat.reduceEqDiff,Aa,Ab]; rfl
 ·simp only [A0,A1,Nat.reduceEqDiff,Aa,Ab]; rfl
 rintro _ ⟨t4,S4,rfl,h2,h3,hc4,k4⟩
 rw [List.drop_zero] at hc4
 generalize Tf NF 0 l (0,0)=f4 at hc4 ⊢
 obtain ⟨⟨mm,hb4⟩,_,_⟩:=hc4
 have g4:S4.mem.get S.next=_:=(k4.2 S.next (Nat.lt_of_lt_of_le lt2 k3.1) (by omega)).trans g3
 have lf:=ld33s hb4.box
 have q5:=Qe g4 rfl (rfl:(Dh f4.1 f4.2).length=2)
 have l5:=Il S4 S.next (Dh f4.1 f4.2) rfl
 simp only [A6,Bk,B0,A4,Ct,Dy,Bf,A7,Be,De,Dr,Bc,A5,Ba,A8,A0,ofOpt,Bj,By,Bg,Cn,Nat.reduceLT,Nat.reduceEqDiff,Aa,Ab,Ac,Es,h2,h3,wZ,lf,q5,l5]
 exact ⟨_,rfl⟩
inductive LeafE:PE → Prop where
 | num (pos:Nat) (n:Int) (name:List UInt8) (off:Bool) (kids:List PE):LeafE (.mk 1 pos n name off kids)
 | tru (pos:Nat) (n:Int) (name:List UInt8) (off:Bool) (kids:List PE):LeafE (.mk 2 pos n name off kids)
 | var (pos:Nat) (n:Int) (name:List UInt8) (off:Bool) (kids:List PE):LeafE (.mk 3 pos n name off kids)
def Ty0 (names:List (List UInt8 × (Bool × Bool))):PE → Nat × Nat → (Bool × Bool) × (Nat × Nat)
 | .mk kind pos _ name _ _,f=>if kind=2 then ((true,false),f) else if kind=3 then (H6 names name,Jq (H6 names name).2 pos 7 f) else ((false,false),f)
theorem ty0_w {s m:Nat} {mn:NdM} {names:List (List UInt8 × (Bool × Bool))} (e:PE) (h:LeafE e):gS s m mn names (Ty0 names) e:=by
 intro xs S f hr hc
 cases h with
 | num pos n name off kids=>exact expr_num pos n name off kids xs S f hr hc
 | tru pos n name off kids=>exact expr_bool pos n name off kids xs S f hr hc
 | var pos n name off kids=>exact expr_var pos n name off kids xs S f hr hc
inductive SimE (mnl:List (List UInt8 × AV)) (CF:List UInt8 → PN):PE → Prop where
 | leaf (e:PE) (h:LeafE e):SimE mnl CF e
 | call (pos:Nat) (n:Int) (name:List UInt8) (off:Bool) (kids:List PE) (h:∀ e ∈ kids,wG e) (hl:kids.length ≤ 1000) (v:AV) (hv:Qy mnl name=some v) (hn:Jb v (CF name)) (dd:PD) (ho:(CF name).outs=[dd]):SimE mnl CF (.mk 13 pos n name off kids)
def Ty1 (names:List (List UInt8 × (Bool × Bool))) (CF:List UInt8 → PN):PE → Nat × Nat → (Bool × Bool) × (Nat × Nat)
 | .mk kind pos n name off kids,f=>if kind=13 then (aJ (CF name).outs,Sk names kids (CF name).ins f) else Ty0 names (.mk kind pos n name off kids) f
theorem ty1_w {s m g:Nat} {mnl:List (List UInt8 × AV)} {names:List (List UInt8 × (Bool × Bool))} {CF:List UInt8 → PN} (e:PE) (h:SimE mnl CF e):gS s m ⟨g,mnl⟩ names (Ty1 names CF) e:=by
 intro xs S f hr hc
 cases h with
 | leaf e h =>
  have h0:=ty0_w e h xs S f hr hc
  have e1:Ty1 names CF e f=Ty0 names e f:=by cases h <;> rfl
  rw [e1]
  exact h0
 | call pos n name off kids h hl v hv hn dd ho=>exact expr_call pos n name off kids _ (fun xs hx=>call_w pos n name off kids h (by omega) hv hn xs hx) xs S f hr hc
def thT (names:List (List UInt8 × (Bool × Bool))) (CF:List UInt8 → PN) (async:Bool):PE → Nat × Nat → Bool × Bool
 | .mk kind pos n name off kids,f=>if kind=13 then ((aJ (CF name).outs).1,(aJ (CF name).outs).2 || async) else (Ty1 names CF (.mk kind pos n name off kids) f).1
def Sb (names:List (List UInt8 × (Bool × Bool))) (CF:List UInt8 → PN) (q:PQ) (f:Nat × Nat):Nat × Nat:=match q.left with
 | [lf]=>eqF names (thT names CF q.async q.e) (fun f=>(Ty1 names CF q.e f).2) lf f
 | _=>f
def SimQ (mnl:List (List UInt8 × AV)) (CF:List UInt8 → PN) (q:PQ):Prop:=(∃ lf,q.left=[lf]) ∧ SimE mnl CF q.e
theorem eqEF_w {s m g:Nat} {mnl:List (List UInt8 × AV)} {names:List (List UInt8 × (Bool × Bool))} {CF:List UInt8 → PN} (q:PQ) (h:SimQ mnl CF q):EqT s m ⟨g,mnl⟩ names (Sb names CF) q:=by
 intro cs S f hq hc
 obtain ⟨⟨lf,hlf⟩,hs⟩:=h
 obtain ⟨lv,xs,heq,hrow,hxl,hrep⟩:=hq
 injection heq with heq
 subst heq
 rw [hlf] at hrow
 have rx:Na xs xs=true:=Ib hrep
 have he:Sb names CF q f=eqF names (thT names CF q.async q.e) (fun f=>(Ty1 names CF q.e f).2) lf f:=by
  unfold Sb; rw [hlf]
 rw [he]
 refine eq_w lv q.async xs hxl lf hrow rx ?_ S f hc
 intro S f hc
 have hT:=ty1_w (s:=s) (m:=m) (g:=g) (names:=names) q.e hs
 generalize q.e=e at hs hrep hT ⊢
 by_cases hk:I0 e=13
 ·cases hs with
  | leaf e h=>cases h <;> cases hk
  | call pos n name off kids h hl v hv hn dd ho =>
   have:=yB (mn:=⟨g,mnl⟩) lv q.async xs pos n name off kids hrep hv hn dd ho hT S f hc
   have e1:thT names CF q.async (.mk 13 pos n name off kids) f=(dd.bool,dd.fut || q.async):=by
    show ((aJ (CF name).outs).1,(aJ (CF name).outs).2 || q.async)=_
    rw [ho]; rfl
   rw [e1]
   exact this
 ·have:=things_ne (mn:=⟨g,mnl⟩) lv q.async xs e hrep hk hT S f hc
  have e1:thT names CF q.async e f=(Ty1 names CF e f).1:=by
   cases e with
   | mk kind pos n name off kids=>exact if_neg hk
  rw [e1]
  exact this
def Va (CF:List UInt8 → PN) (nd:PN) (f:Nat × Nat):Nat × Nat:=eqsF (Sb (Pq [] (allD nd)) CF) nd.eqs (Mt nd.outs f)
structure SimN (mnl:List (List UInt8 × AV)) (CF:List UInt8 → PN) (nd:PN):Prop where
 eqs:∀ q ∈ nd.eqs,SimQ mnl CF q
 vars:∀ d ∈ nd.vars,d.clock=[]
 size:nd.ins.length + nd.outs.length + nd.vars.length ≤ 3000
 len:nd.eqs.length ≤ 1000000
theorem ndNF_w {mnl:List (List UInt8 × AV)} {CF:List UInt8 → PN} (nd:PN) (h:SimN mnl CF nd):NodeT mnl (Va CF) nd:=by
 intro s m g v S f hv hc
 have:=h.size
 exact node_w hv h.vars (EF:=Sb (Pq [] (allD nd)) CF) (fun q hq=>eqEF_w q (h.eqs q hq)) (by omega) (by omega) h.len S f hc
theorem tS {v:AV} {l:List PN} {tok off:Nat} {es:List AV} (hv:v=.sl tok off 6 es) (hes:NodeRows es l) (hl:l.length ≤ 1000000) {CF:List UInt8 → PN} (hN:∀ nd ∈ l,SimN (Po [] es l) CF nd) (S:St):WC E9 29 [v] S (fun r=>∃ S',r=.ret (.agg (Dh (Tf (Va CF) 0 l (0,0)).1 (Tf (Va CF) 0 l (0,0)).2)) S') :=
 check_w hv hes hl (fun nd hn=>ndNF_w nd (hN nd hn)) (fun nd hn=>(hN nd hn).size) S
def Li (f:Nat × Nat):Bool:=decide (f.2=0)
theorem Pu (w:Bool) (p e:Nat) (he:0 < e) (f:Nat × Nat):Li (Jq w p e f)=(Li f && !w):=by
 obtain ⟨a,c⟩:=f
 unfold Jq Li
 cases w with
 | false=>simp
 | true =>
  cases c with
  | zero =>
   have:¬ e=0:=by omega
   simp [this]
  | succ n=>simp
def FZ (f:Nat × Nat):Prop:=f.2=0 → f.1=0
theorem FZ.tell {f:Nat × Nat} (h:FZ f) (w:Bool) (p e:Nat) (he:0 < e):FZ (Jq w p e f):=by
 unfold Jq
 split
 ·intro h2; have:e=0:=h2; omega
 ·exact h
theorem fz_hand {names:List (List UInt8 × (Bool × Bool))}:∀ (l:List PE) (r:List PD) (f:Nat × Nat),FZ f → FZ (Sk names l r f)
 | [],r,f,h=>by cases r <;> exact h
 | e :: l,[],f,h=>h
 | e :: l,d :: r,f,h=>fz_hand l r _ (h.tell _ _ _ (by decide))
theorem mV:∀ (l:List PD) (f:Nat × Nat),FZ f → FZ (Mt l f)
 | [],f,h=>h
 | d :: l,f,h=>mV l _ (h.tell _ _ _ (by decide))
theorem fz_ty1 {names:List (List UInt8 × (Bool × Bool))} {CF:List UInt8 → PN} (e:PE) (f:Nat × Nat) (h:FZ f):FZ (Ty1 names CF e f).2:=by
 cases e with
 | mk kind pos n name off kids =>
  simp only [Ty1]
  split
  ·exact fz_hand _ _ _ h
  ·simp only [Ty0]
   split
   ·exact h
   ·split
    ·exact h.tell _ _ _ (by decide)
    ·exact h
theorem fz_eqs {names:List (List UInt8 × (Bool × Bool))} {CF:List UInt8 → PN}:∀ (l:List PQ) (f:Nat × Nat),FZ f → FZ (eqsF (Sb names CF) l f)
 | [],f,h=>h
 | q :: l,f,h=>by
  refine fz_eqs l _ ?_
  unfold Sb
  split
  ·exact (fz_ty1 q.e f h).tell _ _ _ (by decide)
  ·exact h
theorem mW {CF:List UInt8 → PN}:∀ (l:List PN) (i:Nat) (f:Nat × Nat),FZ f → FZ (Tf (Va CF) i l f)
 | [],i,f,h=>h
 | nd :: l,i,f,h=>by
  refine mW l (i + 1) _ ?_
  refine fz_eqs _ _ (mV _ _ ?_)
  split
  ·exact mV _ _ h
  ·exact h
theorem fz_test {f:Nat × Nat} (h:FZ f):((((f.1:Int) == 0) && (((f.2:Int) == 0) && true)))=Li f:=by
 obtain ⟨a,e⟩:=f
 unfold Li
 cases e with
 | zero =>
  have:a=0:=h rfl
  subst this
  rfl
 | succ n =>
  have e1:(((n + 1:Nat):Int) == 0)=false:=by rw [beq_eq_false_iff_ne]; omega
  show (((a:Int) == 0) && ((((n + 1:Nat):Int) == 0) && true))=decide (n + 1=0)
  rw [e1]
  simp
abbrev Ty:=Bool × Bool
def yA (t:Ty):Nat:=(if t.1 then 1 else 0) + (if t.2 then 2 else 0)
theorem tyIx_any (k:Nat) (h:k < 4):∃ t,yA t=k:=by
 match k,h with
 | 0,_=>exact ⟨(false,false),rfl⟩
 | 1,_=>exact ⟨(true,false),rfl⟩
 | 2,_=>exact ⟨(false,true),rfl⟩
 | 3,_=>exact ⟨(true,true),rfl⟩
theorem tyIx_inj (t g:Ty):(((yA t:Nat):Int) == ((yA g:Nat):Int))=((t.1 == g.1) && (t.2 == g.2)):=by
 obtain ⟨a,b⟩:=t; obtain ⟨c,d⟩:=g
 cases a <;> cases b <;> cases c <;> cases d <;> decide
def I5 (t:Ty):List UInt8:=Jw t.1 t.2
def G4 (t:Ty):List UInt8:=if t.1 then (if t.2 then [118] else [98]) else (if t.2 then [117] else [97])
def K5 (i:Nat):UInt8:=UInt8.ofNat (48 + i)
def Wu:Nat → List Ty → List UInt8
 | _,[]=>[]
 | i,t :: l=>(if i=0 then [] else [44,32]) ++ (([112] ++ [K5 i] ++ [58,32]) ++ I5 t ++ Wu (i + 1) l)
def Qt:Nat → List Ty → List UInt8
 | _,[]=>[]
 | i,t :: l=>(if i=0 then [] else [44,32]) ++ (G4 t ++ Qt (i + 1) l)
theorem sP:∀ (l:List Ty) (j:Nat) (t:Ty),Wu j (l ++ [t])=Wu j l ++ ((if j + l.length=0 then [] else [44,32]) ++ (([112] ++ [K5 (j + l.length)] ++ [58,32]) ++ I5 t))
 | [],j,t=>by
  show (if j=0 then _ else _) ++ (([112] ++ [K5 j] ++ [58,32]) ++ I5 t ++ [])=[] ++ ((if j + 0=0 then _ else _) ++ (([112] ++ [K5 (j + 0)] ++ [58,32]) ++ I5 t))
  simp
 | a :: l,j,t=>by
  show (if j=0 then _ else _) ++ (([112] ++ [K5 j] ++ [58,32]) ++ I5 a ++ Wu (j + 1) (l ++ [t]))=((if j=0 then _ else _) ++ (([112] ++ [K5 j] ++ [58,32]) ++ I5 a ++ Wu (j + 1) l)) ++ _
  rw [sP l (j + 1) t,if_neg (show ¬ (j + 1 + l.length=0) by omega),if_neg (show ¬ (j + (a :: l).length=0) by simp),show j + 1 + l.length=j + (a :: l).length by simp; omega]
  simp
theorem oR:∀ (l:List Ty) (j:Nat) (t:Ty),Qt j (l ++ [t])=Qt j l ++ ((if j + l.length=0 then [] else [44,32]) ++ G4 t)
 | [],j,t=>by
  show (if j=0 then _ else _) ++ (G4 t ++ [])=[] ++ ((if j + 0=0 then _ else _) ++ G4 t)
  simp
 | a :: l,j,t=>by
  show (if j=0 then _ else _) ++ (G4 a ++ Qt (j + 1) (l ++ [t]))=((if j=0 then _ else _) ++ (G4 a ++ Qt (j + 1) l)) ++ _
  rw [oR l (j + 1) t,if_neg (show ¬ (j + 1 + l.length=0) by omega),if_neg (show ¬ (j + (a :: l).length=0) by simp)]
  simp
def Rn (n:List UInt8):PE:=.mk 3 0 0 n false []
def insD:Nat → List Ty → List PD
 | _,[]=>[]
 | i,t :: l=>⟨[112,K5 i],0,t.1,t.2,[],false⟩ :: insD (i + 1) l
def mN (l:List Ty):List PE:=l.map fun t=>Rn (G4 t)
def fTc (gs:List Ty):PN:=⟨[102],0,[⟨[97],0,false,false,[],false⟩,⟨[98],0,true,false,[],false⟩],[⟨[121],0,false,false,[],false⟩],[⟨[117],0,false,true,[],false⟩,⟨[118],0,true,true,[],false⟩],[⟨[([117],0)],true,.mk 13 0 0 [103] false [Rn [97]]⟩,⟨[([118],0)],true,.mk 13 0 0 [104] false [Rn [98]]⟩,⟨[([121],0)],false,.mk 13 0 0 [107] false (mN gs)⟩]⟩
def gTc (name:List UInt8) (b:Bool):PN:=⟨name,0,[⟨[97],0,b,false,[],false⟩],[⟨[99],0,b,false,[],false⟩],[],[⟨[([99],0)],false,Rn [97]⟩]⟩
def kTc (ts:List Ty):PN:=⟨[107],0,insD 0 ts,[⟨[121],0,false,false,[],false⟩],[],[⟨[([121],0)],false,Tb 1⟩]⟩
def Y6 (ts gs:List Ty):List PN:=[fTc gs,gTc [103] false,gTc [104] true,kTc ts]
def Rv:List UInt8:=[110,111,100,101,32,102,40,97,58,32,105,110,116,44,32,98,58,32,98,111,111,108,41,32,114,101,116,117,114,110,115,32,40,121,58,32,105,110,116,41,32,118,97,114,32,117,58,32,102,117,116,117,114,101,32,105,110,116,59,32,118,58,32,102,117,116,117,114,101,32,98,111,111,108,59,32,108,101,116,32,117,32,61,32,97,115,121,110,99,32,103,40,97,41,59,32,118,32,61,32,97,115,121,110,99,32,104,40,98,41,59,32,121,32,61,32,107,40]
def Wp:List UInt8:=[41,59,32,116,101,108,32,110,111,100,101,32,103,40,97,58,32,105,110,116,41,32,114,101,116,117,114,110,115,32,40,99,58,32,105,110,116,41,32,108,101,116,32,99,32,61,32,97,59,32,116,101,108,32,110,111,100,101,32,104,40,97,58,32,98,111,111,108,41,32,114,101,116,117,114,110,115,32,40,99,58,32,98,111,111,108,41,32,108,101,116,32,99,32,61,32,97,59,32,116,101,108,32,110,111,100,101,32,107,40]
def Wm:List UInt8:=[41,32,114,101,116,117,114,110,115,32,40,121,58,32,105,110,116,41,32,108,101,116,32,121,32,61,32,49,59,32,116,101,108]
def Sw (ts gs:List Ty):List UInt8:=((((Rv ++ Qt 0 gs) ++ Wp) ++ Wu 0 ts) ++ Wm)
theorem one_num:D3 (Tb 1)=[49]:=by
 have e1:Lib.itoa 1=[49]:=by unfold Lib.itoa; rw [if_neg (by decide),show (1:Int).toNat=1 from rfl,Lib.decDigits,dif_pos (by decide)]; rfl
 exact e1
theorem textTc_is (t0 t1 t2 t3 g0 g1 g2 g3:Ty):Wl (Y6 [t0,t1,t2,t3] [g0,g1,g2,g3])=Sw [t0,t1,t2,t3] [g0,g1,g2,g3]:=by
 have hk:Wl (Y6 [t0,t1,t2,t3] [g0,g1,g2,g3])=Lo (fTc [g0,g1,g2,g3]) ++ 32 :: (Lo (gTc [103] false) ++ 32 :: (Lo (gTc [104] true) ++ 32 :: Lo (kTc [t0,t1,t2,t3]))):=rfl
 have h1:Lo (fTc [g0,g1,g2,g3])=Rv ++ (G4 g0 ++ (44 :: 32 :: (G4 g1 ++ (44 :: 32 :: (G4 g2 ++ (44 :: 32 :: (G4 g3 ++ [41,59,32,116,101,108]))))))):=by
  have hc:D3 (.mk 13 0 0 [107] false (mN [g0,g1,g2,g3]))=[107,40] ++ ((G4 g0 ++ (44 :: 32 :: (G4 g1 ++ (44 :: 32 :: (G4 g2 ++ (44 :: 32 :: G4 g3)))))) ++ [41]):=by
   show (([107] ++ [40]) ++ Kc (Dp (mN [g0,g1,g2,g3]))) ++ [41]=_
   show (([107] ++ [40]) ++ Kc (Dp (Rn (G4 g0) :: [Rn (G4 g1),Rn (G4 g2),Rn (G4 g3)]))) ++ [41]=_
   rw [Ry]
   show (([107] ++ [40]) ++ (G4 g0 ++ (44 :: 32 :: (G4 g1 ++ (44 :: 32 :: (G4 g2 ++ (44 :: 32 :: (G4 g3 ++ [])))))))) ++ [41]=_
   simp
  have hg:D3 (.mk 13 0 0 [103] false [Rn [97]])=[103,40,97,41]:=by
   show (([103] ++ [40]) ++ Kc (Dp (Rn [97] :: []))) ++ [41]=_
   rw [Ry]; rfl
  have hh:D3 (.mk 13 0 0 [104] false [Rn [98]])=[104,40,98,41]:=by
   show (([104] ++ [40]) ++ Kc (Dp (Rn [98] :: []))) ++ [41]=_
   rw [Ry]; rfl
  unfold Lo fTc
  simp only [bN,eqLn,eqT,hc,hg,hh]
  simp [I1,Lib.join,G6,Yx,P5,J0,Jw,Rv]
 have h2:Lo (gTc [103] false)=[110,111,100,101,32,103,40,97,58,32,105,110,116,41,32,114,101,116,117,114,110,115,32,40,99,58,32,105,110,116,41,32,108,101,116,32,99,32,61,32,97,59,32,116,101,108]:=rfl
 have h3:Lo (gTc [104] true)=[110,111,100,101,32,104,40,97,58,32,98,111,111,108,41,32,114,101,116,117,114,110,115,32,40,99,58,32,98,111,111,108,41,32,108,101,116,32,99,32,61,32,97,59,32,116,101,108]:=rfl
 have h4:Lo (kTc [t0,t1,t2,t3])=[110,111,100,101,32,107,40] ++ (([112] ++ [K5 0] ++ [58,32]) ++ I5 t0 ++ (44 :: 32 :: (([112] ++ [K5 1] ++ [58,32]) ++ I5 t1 ++ (44 :: 32 :: (([112] ++ [K5 2] ++ [58,32]) ++ I5 t2 ++ (44 :: 32 :: (([112] ++ [K5 3] ++ [58,32]) ++ I5 t3 ++ Wm))))))):=by
  unfold Lo kTc
  simp only [bN,eqLn,eqT,one_num]
  simp [I1,insD,Lib.join,G6,I5,Wm,Yx,J0,Jw]
 rw [hk,h1,h2,h3,h4]
 unfold Sw Wp
 simp [Qt,Wu]
theorem Xw (s:List UInt8) (h:(s ∉ Kj ∧ s ∉ F1) ∧ s.length ≤ 30) (h2:(match s with | []=>false | c :: r=>Gj c && r.all Em)=true):G3 s:=by
 cases s with
 | nil=>cases h2
 | cons c r =>
  have h2:(Gj c && r.all Em)=true:=h2
  rw [Bool.and_eq_true,List.all_eq_true] at h2
  exact ⟨h.1,⟨c,r,rfl,h2.1,h2.2⟩,h.2⟩
theorem isName_t (t:Ty):G3 (G4 t):=by
 obtain ⟨a,b⟩:=t
 cases a <;> cases b <;> exact Xw _ (by decide) (by decide)
theorem isName_p (i:Nat) (h:i < 4):G3 [112,K5 i]:=by
 match i,h with
 | 0,_=>exact Xw _ (by decide) (by decide)
 | 1,_=>exact Xw _ (by decide) (by decide)
 | 2,_=>exact Xw _ (by decide) (by decide)
 | 3,_=>exact Xw _ (by decide) (by decide)
theorem Ha (c:UInt8) (h:c ∈ ([97,98,99,102,103,104,107,117,118,121]:List UInt8)):G3 [c]:=by
 simp only [List.mem_cons,List.not_mem_nil,or_false] at h
 rcases h with rfl | rfl | rfl | rfl | rfl | rfl | rfl | rfl | rfl | rfl <;> exact Xw _ (by decide) (by decide)
theorem Xz {n:List UInt8} (h:G3 n):GoodT (Rn n):=.mk _ _ _ _ _ _ (.var _ h) (fun e he=>by cases he)
theorem O2 {n:List UInt8} (h:G3 n) (p:Nat) (b f:Bool):Ju ⟨n,p,b,f,[],false⟩:=⟨h,fun _=>rfl,fun h=>absurd rfl h⟩
theorem Zg {n:List UInt8} {l:List PE} (h:G3 n) (hl:∀ e ∈ l,GoodT e):GoodT (.mk 13 0 0 n false l):=.mk _ _ _ _ _ _ (.call _ _ h) hl
theorem tD (n:List UInt8):I7 (Rn n)=1:=by show IntKind.i64.wrap (0 + 1)=1; rw [IntKind.wrap_i64]; rfl
theorem nR:∀ (l:List PE),(∀ e ∈ l,∃ n,e=Rn n) → ∀ m:Int,0 ≤ m ∧ m ≤ 1 → 0 ≤ Mp l m ∧ Mp l m ≤ 1
 | [],_,m,h=>h
 | e :: l,hl,m,h=>by
  obtain ⟨n,rfl⟩:=hl e (List.mem_cons_self ..)
  show 0 ≤ Mp l (if I7 (Rn n) > m then I7 (Rn n) else m) ∧ Mp l (if I7 (Rn n) > m then I7 (Rn n) else m) ≤ 1
  refine nR l (fun x hx=>hl x (List.mem_cons_of_mem _ hx)) _ ?_
  rw [tD]; split <;> omega
theorem Zl (n:List UInt8) (l:List PE) (hl:∀ e ∈ l,∃ n,e=Rn n):¬ I7 (.mk 13 0 0 n false l) > 40:=by
 have:=nR l hl 0 (by omega)
 show ¬ IntKind.i64.wrap (Mp l 0 + 1) > 40
 rw [IntKind.wrap_i64]; omega
theorem R0 {n:List UInt8} (h:G3 n):pC [(n,0)]:=⟨by simp,fun x hx=>by obtain rfl:=List.mem_singleton.1 hx; exact h⟩
theorem kidsN_var (gs:List Ty):∀ e ∈ mN gs,∃ n,e=Rn n:=fun e he=>by
 obtain ⟨t,_,rfl⟩:=List.mem_map.1 he; exact ⟨_,rfl⟩
theorem good_fTc (gs:List Ty):GoodNode (fTc gs):=by
 refine ⟨Ha 102 (by decide),fun d hd=>?_,fun d hd=>?_,fun d hd=>?_,fun q hq=>?_⟩
 ·simp only [fTc,List.mem_cons,List.not_mem_nil,or_false] at hd
  rcases hd with rfl | rfl
  ·exact ⟨O2 (Ha 97 (by decide)) _ _ _,rfl⟩
  ·exact ⟨O2 (Ha 98 (by decide)) _ _ _,rfl⟩
 ·simp only [fTc,List.mem_cons,List.not_mem_nil,or_false] at hd
  subst hd
  exact ⟨O2 (Ha 121 (by decide)) _ _ _,rfl⟩
 ·simp only [fTc,List.mem_cons,List.not_mem_nil,or_false] at hd
  rcases hd with rfl | rfl
  ·exact O2 (Ha 117 (by decide)) _ _ _
  ·exact O2 (Ha 118 (by decide)) _ _ _
 ·simp only [fTc,List.mem_cons,List.not_mem_nil,or_false] at hq
  rcases hq with rfl | rfl | rfl
  ·exact ⟨R0 (Ha 117 (by decide)),Zg (Ha 103 (by decide)) (fun e he=>by obtain rfl:=List.mem_singleton.1 he; exact Xz (Ha 97 (by decide))),fun _=>rfl,Zl _ _ (fun e he=>by obtain rfl:=List.mem_singleton.1 he; exact ⟨_,rfl⟩)⟩
  ·exact ⟨R0 (Ha 118 (by decide)),Zg (Ha 104 (by decide)) (fun e he=>by obtain rfl:=List.mem_singleton.1 he; exact Xz (Ha 98 (by decide))),fun _=>rfl,Zl _ _ (fun e he=>by obtain rfl:=List.mem_singleton.1 he; exact ⟨_,rfl⟩)⟩
  ·refine ⟨R0 (Ha 121 (by decide)),Zg (Ha 107 (by decide)) (fun e he=>?_),(fun h=>Bool.noConfusion h),Zl _ _ (kidsN_var gs)⟩
   obtain ⟨t,_,rfl⟩:=List.mem_map.1 he
   exact Xz (isName_t t)
theorem good_gTc {n:List UInt8} (hn:G3 n) (b:Bool):GoodNode (gTc n b):=by
 refine ⟨hn,fun d hd=>?_,fun d hd=>?_,(fun d hd=>absurd hd List.not_mem_nil),fun q hq=>?_⟩
 ·obtain rfl:=List.mem_singleton.1 hd
  exact ⟨O2 (Ha 97 (by decide)) _ _ _,rfl⟩
 ·obtain rfl:=List.mem_singleton.1 hd
  exact ⟨O2 (Ha 99 (by decide)) _ _ _,rfl⟩
 ·obtain rfl:=List.mem_singleton.1 hq
  exact ⟨R0 (Ha 99 (by decide)),Xz (Ha 97 (by decide)),(fun h=>Bool.noConfusion h),by rw [tD]; decide⟩
theorem insD_mem:∀ (l:List Ty) (i:Nat) (d:PD),d ∈ insD i l → ∃ (k:Nat) (t:Ty),i ≤ k ∧ k < i + l.length ∧ d=⟨[112,K5 k],0,t.1,t.2,[],false⟩
 | t :: l,i,d,h=>by
  rcases List.mem_cons.1 h with rfl | h
  ·exact ⟨i,t,Nat.le_refl _,by simp,rfl⟩
  ·obtain ⟨k,t,h1,h2,h3⟩:=insD_mem l (i + 1) d h
   exact ⟨k,t,by omega,by simp only [List.length_cons]; omega,h3⟩
theorem good_kTc (ts:List Ty) (h4:ts.length=4):GoodNode (kTc ts):=by
 refine ⟨Ha 107 (by decide),fun d hd=>?_,fun d hd=>?_,(fun d hd=>absurd hd List.not_mem_nil),fun q hq=>?_⟩
 ·obtain ⟨k,t,h1,h2,rfl⟩:=insD_mem ts 0 d hd
  exact ⟨O2 (isName_p k (by omega)) _ _ _,rfl⟩
 ·obtain rfl:=List.mem_singleton.1 hd
  exact ⟨O2 (Ha 121 (by decide)) _ _ _,rfl⟩
 ·obtain rfl:=List.mem_singleton.1 hq
  exact ⟨R0 (Ha 121 (by decide)),mT 1 (by omega),(fun h=>Bool.noConfusion h),by show ¬ IntKind.i64.wrap (0 + 1) > 40; rw [IntKind.wrap_i64]; omega⟩
theorem pW (t:Ty):(I5 t).length ≤ 11:=by obtain ⟨a,b⟩:=t; cases a <;> cases b <;> decide
theorem rS (t:Ty):(G4 t).length=1:=by obtain ⟨a,b⟩:=t; cases a <;> cases b <;> rfl
theorem bD:∀ (l:List Ty) (i:Nat),(Wu i l).length ≤ 17 * l.length
 | [],i=>by simp [Wu]
 | t :: l,i=>by
  have h:=bD l (i + 1)
  have h2:=pW t
  unfold Wu
  simp only [List.length_append,List.length_cons,List.length_nil]
  split <;> simp only [List.length_cons,List.length_nil] <;> omega
theorem Ya:∀ (l:List Ty) (i:Nat),(Qt i l).length ≤ 3 * l.length
 | [],i=>by simp [Qt]
 | t :: l,i=>by
  have h:=Ya l (i + 1)
  have h2:=rS t
  unfold Qt
  simp only [List.length_append,List.length_cons]
  split <;> simp only [List.length_cons,List.length_nil] <;> omega
theorem jM (ts gs:List Ty) (ht:ts.length=4) (hg:gs.length=4):(Sw ts gs).length ≤ 400:=by
 have h1:=bD ts 0
 have h2:=Ya gs 0
 have l1:Rv.length=118:=rfl
 have l2:Wp.length=110:=rfl
 have l3:Wm.length=33:=rfl
 unfold Sw
 simp only [List.length_append,l1,l2,l3]
 omega
theorem four {l:List Ty} (h:l.length=4):∃ a b c d,l=[a,b,c,d]:=by
 match l,h with
 | [a,b,c,d],_=>exact ⟨a,b,c,d,rfl⟩
theorem yD (ts gs:List Ty) (ht:ts.length=4) (hg:gs.length=4):∃ us ms,Kd (Sw ts gs)=some (.inr us) ∧ Jz 70000 (.inr us)=some (.inl ms) ∧ Each2 Ll (Y6 ts gs) ms:=by
 have hl:=jM ts gs ht hg
 have hk:=good_kTc ts ht
 have e:Wl (Y6 ts gs)=Sw ts gs:=by
  obtain ⟨a,b,c,d,rfl⟩:=four ht
  obtain ⟨a',b',c',d',rfl⟩:=four hg
  exact textTc_is ..
 rw [← e] at hl ⊢
 refine rC (by simp [Y6]) (fun x hx=>?_) (by omega)
 simp only [Y6,List.mem_cons,List.not_mem_nil,or_false] at hx
 rcases hx with rfl | rfl | rfl | rfl
 ·exact good_fTc gs
 ·exact good_gTc (Ha 103 (by decide)) false
 ·exact good_gTc (Ha 104 (by decide)) true
 ·exact hk
theorem Pw {α β:Type} {R:α → β → Prop} {l:List β} (h:Each2 R [] l):l=[]:=by cases h; rfl
theorem R5 {α β:Type} {R:α → β → Prop} {a:α} {r:List α} {l:List β} (h:Each2 R (a :: r) l):∃ b m,l=b :: m ∧ R a b ∧ Each2 R r m:=by
 cases h with
 | cons _ b _ m h h2=>exact ⟨b,m,rfl,h,h2⟩
theorem Jv {α β:Type} {R:α → β → Prop} {a:α} {l:List β} (h:Each2 R [a] l):∃ b,l=[b] ∧ R a b:=by
 obtain ⟨b,m,rfl,h1,h2⟩:=R5 h
 obtain rfl:=Pw h2
 exact ⟨b,rfl,h1⟩
theorem Nx {l:List PE} (h:LikeL [] l):l=[]:=by cases h; rfl
theorem Qn {a:PE} {r l:List PE} (h:LikeL (a :: r) l):∃ b m,l=b :: m ∧ LikeE a b ∧ LikeL r m:=by
 cases h with
 | cons _ b _ m h h2=>exact ⟨b,m,rfl,h,h2⟩
theorem Ng {kind pos:Nat} {n:Int} {name:List UInt8} {off:Bool} {kids:List PE} {e:PE} (h:LikeE (.mk kind pos n name off kids) e):∃ pos' kids',e=.mk kind pos' n name off kids' ∧ LikeL kids kids':=by
 cases h with
 | mk _ _ pos' _ _ _ _ kids' hk=>exact ⟨pos',kids',rfl,hk⟩
theorem Od {names:List (List UInt8 × (Bool × Bool))} {CF:List UInt8 → PN} {q:PQ} {lf:List UInt8 × Nat} (hq:q.left=[lf]) (f:Nat × Nat):Li (Sb names CF q f)=(Li (Ty1 names CF q.e f).2 && (((H6 names lf.1).1 == (thT names CF q.async q.e f).1) && ((H6 names lf.1).2 == (thT names CF q.async q.e f).2))):=by
 unfold Sb
 rw [hq]
 show Li (eqF names _ _ lf f)=_
 unfold eqF
 rw [Pu _ _ _ (by decide),Bool.not_not]
theorem Ui {α β:Type} {R:α → β → Prop} {a c:α} {l:List β} (h:Each2 R [a,c] l):∃ b d,l=[b,d] ∧ R a b ∧ R c d:=by
 obtain ⟨b,m,rfl,h1,h2⟩:=R5 h
 obtain ⟨d,rfl,h3⟩:=Jv h2
 exact ⟨b,d,rfl,h1,h3⟩
theorem Lh {n c:List UInt8} {p:Nat} {b f o:Bool} {d:PD} (h:Mq ⟨n,p,b,f,c,o⟩ d):∃ p',d=⟨n,p',b,f,c,o⟩:=by
 obtain ⟨n',p',b',f',c',o'⟩:=d
 obtain ⟨h1,h2,h3,h4,h5⟩:=h
 simp only at h1 h2 h3 h4 h5
 subst h1; subst h2; subst h3; subst h4; subst h5
 exact ⟨p',rfl⟩
theorem Ob {n:List UInt8} {p:Nat} {ay:Bool} {e:PE} {q:PQ} (h:Ys ⟨[(n,p)],ay,e⟩ q):∃ p' e',q=⟨[(n,p')],ay,e'⟩ ∧ LikeE e e':=by
 obtain ⟨l,as',e'⟩:=q
 obtain ⟨h1,h2,h3⟩:=h
 simp only at h1 h2 h3
 obtain ⟨⟨n',p'⟩,rfl,h4⟩:=Jv h1
 have h4:n=n':=h4
 subst h4; subst h2
 exact ⟨p',e',rfl,h3⟩
theorem Wq {n:List UInt8} {p:Nat} {i o v:List PD} {q:List PQ} {f:PN} (h:Ll ⟨n,p,i,o,v,q⟩ f):∃ p' i' o' v' q',f=⟨n,p',i',o',v',q'⟩ ∧ Each2 Mq i i' ∧ Each2 Mq o o' ∧ Each2 Mq v v' ∧ Each2 Ys q q':=by
 obtain ⟨n',p',i',o',v',q'⟩:=f
 obtain ⟨h1,h2,h3,h4,h5⟩:=h
 simp only at h1 h2 h3 h4 h5
 subst h1
 exact ⟨p',i',o',v',q',rfl,h2,h3,h4,h5⟩
theorem mH {n:Int} {e:PE} (h:LikeE (Tb n) e):∃ p,e=.mk 1 p n [] false []:=by
 obtain ⟨p,ks,rfl,h1⟩:=Ng (kind:=1) (pos:=0) (n:=n) (name:=[]) (off:=false) (kids:=[]) h
 obtain rfl:=Nx h1
 exact ⟨p,rfl⟩
def O7:List Ty → List Ty → Bool
 | [],[]=>true
 | t :: l,g :: m=>((t.1 == g.1) && (t.2 == g.2)) && O7 l m
 | _,_=>false
theorem aY {n:List UInt8} {e:PE} (h:LikeE (Rn n) e):∃ p,e=.mk 3 p 0 n false []:=by
 obtain ⟨p,ks,rfl,h1⟩:=Ng (kind:=3) (pos:=0) (n:=0) (name:=n) (off:=false) (kids:=[]) h
 obtain rfl:=Nx h1
 exact ⟨p,rfl⟩
theorem rY {a:PE} {l:List PE} (h:LikeL [a] l):∃ b,l=[b] ∧ LikeE a b:=by
 obtain ⟨b,m,rfl,h1,h2⟩:=Qn h
 obtain rfl:=Nx h2
 exact ⟨b,rfl,h1⟩
theorem gJ {α β:Type} {R:α → β → Prop} {a b c:α} {l:List β} (h:Each2 R [a,b,c] l):∃ x y z,l=[x,y,z] ∧ R a x ∧ R b y ∧ R c z:=by
 obtain ⟨x,m,rfl,h1,h2⟩:=R5 h
 obtain ⟨y,z,rfl,h3,h4⟩:=Ui h2
 exact ⟨x,y,z,rfl,h1,h3,h4⟩
theorem each2_four {α β:Type} {R:α → β → Prop} {a b c d:α} {l:List β} (h:Each2 R [a,b,c,d] l):∃ x y z w,l=[x,y,z,w] ∧ R a x ∧ R b y ∧ R c z ∧ R d w:=by
 obtain ⟨x,m,rfl,h1,h2⟩:=R5 h
 obtain ⟨y,z,w,rfl,h3,h4,h5⟩:=gJ h2
 exact ⟨x,y,z,w,rfl,h1,h3,h4,h5⟩
theorem like_fTc {gs:List Ty} {f:PN} (h:Ll (fTc gs) f):∃ fp ap bp yp up vp lu lv ly p1 p2 p3 q1 q2 ks,f=⟨[102],fp,[⟨[97],ap,false,false,[],false⟩,⟨[98],bp,true,false,[],false⟩],[⟨[121],yp,false,false,[],false⟩],[⟨[117],up,false,true,[],false⟩,⟨[118],vp,true,true,[],false⟩],[⟨[([117],lu)],true,.mk 13 p1 0 [103] false [.mk 3 q1 0 [97] false []]⟩,⟨[([118],lv)],true,.mk 13 p2 0 [104] false [.mk 3 q2 0 [98] false []]⟩,⟨[([121],ly)],false,.mk 13 p3 0 [107] false ks⟩]⟩ ∧ LikeL (mN gs) ks:=by
 obtain ⟨fp,i,o,v,q,rfl,h1,h2,h3,h4⟩:=Wq h
 clear h
 obtain ⟨d1,d2,rfl,a1,a2⟩:=Ui h1
 obtain ⟨ap,rfl⟩:=Lh a1
 obtain ⟨bp,rfl⟩:=Lh a2
 obtain ⟨d3,rfl,a3⟩:=Jv h2
 obtain ⟨yp,rfl⟩:=Lh a3
 obtain ⟨d4,d5,rfl,a4,a5⟩:=Ui h3
 obtain ⟨up,rfl⟩:=Lh a4
 obtain ⟨vp,rfl⟩:=Lh a5
 obtain ⟨e1,e2,e3,rfl,b1,b2,b3⟩:=gJ h4
 obtain ⟨lu,x1,rfl,c1⟩:=Ob b1
 obtain ⟨lv,x2,rfl,c2⟩:=Ob b2
 obtain ⟨ly,x3,rfl,c3⟩:=Ob b3
 clear h1 h2 h3 h4 a1 a2 a3 a4 a5 b1 b2 b3
 obtain ⟨p1,k1,rfl,m1⟩:=Ng c1
 obtain ⟨p2,k2,rfl,m2⟩:=Ng c2
 obtain ⟨p3,k3,rfl,m3⟩:=Ng c3
 obtain ⟨z1,rfl,m4⟩:=rY m1
 obtain ⟨z2,rfl,m5⟩:=rY m2
 obtain ⟨q1,rfl⟩:=aY m4
 obtain ⟨q2,rfl⟩:=aY m5
 exact ⟨fp,ap,bp,yp,up,vp,lu,lv,ly,p1,p2,p3,q1,q2,k3,rfl,m3⟩
theorem like_gTc {n:List UInt8} {b:Bool} {g:PN} (h:Ll (gTc n b) g):∃ gp ap cp lc q,g=⟨n,gp,[⟨[97],ap,b,false,[],false⟩],[⟨[99],cp,b,false,[],false⟩],[],[⟨[([99],lc)],false,.mk 3 q 0 [97] false []⟩]⟩:=by
 obtain ⟨gp,i,o,v,q,rfl,h1,h2,h3,h4⟩:=Wq h
 clear h
 obtain ⟨d1,rfl,a1⟩:=Jv h1
 obtain ⟨ap,rfl⟩:=Lh a1
 obtain ⟨d3,rfl,a3⟩:=Jv h2
 obtain ⟨cp,rfl⟩:=Lh a3
 obtain rfl:=Pw h3
 obtain ⟨e1,rfl,b1⟩:=Jv h4
 obtain ⟨lc,x1,rfl,c1⟩:=Ob b1
 clear h1 h2 h3 h4 a1 a3 b1
 obtain ⟨q,rfl⟩:=aY c1
 exact ⟨gp,ap,cp,lc,q,rfl⟩
theorem like_kTc {ts:List Ty} {k:PN} (h:Ll (kTc ts) k):∃ kp ins yp ly q,k=⟨[107],kp,ins,[⟨[121],yp,false,false,[],false⟩],[],[⟨[([121],ly)],false,.mk 1 q 1 [] false []⟩]⟩ ∧ Each2 Mq (insD 0 ts) ins:=by
 obtain ⟨kp,i,o,v,q,rfl,h1,h2,h3,h4⟩:=Wq h
 clear h
 obtain ⟨d3,rfl,a3⟩:=Jv h2
 obtain ⟨yp,rfl⟩:=Lh a3
 obtain rfl:=Pw h3
 obtain ⟨e1,rfl,b1⟩:=Jv h4
 obtain ⟨ly,x1,rfl,c1⟩:=Ob b1
 obtain ⟨q,rfl⟩:=mH c1
 exact ⟨kp,i,yp,ly,q,rfl,h1⟩
def Gz:List (List UInt8 × (Bool × Bool)):=[([97],(false,false)),([98],(true,false)),([121],(false,false)),([117],(false,true)),([118],(true,true))]
theorem tyOf_F (g:Ty):H6 Gz (G4 g)=g:=by obtain ⟨a,b⟩:=g; cases a <;> cases b <;> rfl
theorem sS:∀ (ts gs:List Ty) (i:Nat) (ins:List PD) (ks:List PE),Each2 Mq (insD i ts) ins → LikeL (mN gs) ks → ts.length=gs.length → (∀ e ∈ ks,wG e) ∧ ks.length=gs.length ∧ ins.length=ts.length ∧ ∀ f,Li (Sk Gz ks ins f)=(Li f && O7 ts gs)
 | [],[],i,ins,ks,h1,h2,_=>by
  obtain rfl:=Pw h1
  obtain rfl:=Nx h2
  exact ⟨(fun e he=>absurd he List.not_mem_nil),rfl,rfl,fun f=>by simp [Sk,O7]⟩
 | t :: ts,g :: gs,i,ins,ks,h1,h2,h3=>by
  obtain ⟨d,r,rfl,a1,a2⟩:=R5 (a:=⟨[112,K5 i],0,t.1,t.2,[],false⟩) (r:=insD (i + 1) ts) h1
  obtain ⟨dp,rfl⟩:=Lh a1
  obtain ⟨e,m,rfl,b1,b2⟩:=Qn (a:=Rn (G4 g)) (r:=mN gs) h2
  obtain ⟨ep,rfl⟩:=aY b1
  obtain ⟨c1,c2,c3,c4⟩:=sS ts gs (i + 1) r m a2 b2 (by simpa using h3)
  refine ⟨fun e he=>?_,by simp [c2],by simp [c3],fun f=>?_⟩
  ·rcases List.mem_cons.1 he with rfl | he
   ·exact ⟨_,_,_,_,_,rfl⟩
   ·exact c1 e he
  ·show Li (Sk Gz m r (Jq (!(((H6 Gz (G4 g)).1 == t.1) && ((H6 Gz (G4 g)).2 == t.2))) ep 7 f))=_
   rw [c4,Pu _ _ _ (by decide),tyOf_F]
   show _=(Li f && (((t.1 == g.1) && (t.2 == g.2)) && O7 ts gs))
   obtain ⟨a,b⟩:=t; obtain ⟨c,d⟩:=g
   generalize O7 ts gs=q
   generalize Li f=x
   revert q x
   cases a <;> cases b <;> cases c <;> cases d <;> decide
 | [],_ :: _,_,_,_,_,_,h=>by cases h
 | _ :: _,[],_,_,_,_,_,h=>by cases h
theorem pJ {es:List AV} {f g h k:PN} (hh:NodeRows es [f,g,h,k]):∃ a b c d,es=[a,b,c,d] ∧ Jb a f ∧ Jb b g ∧ Jb c h ∧ Jb d k:=by
 cases hh with
 | cons a _ r _ h1 h2 =>
  cases h2 with
  | cons b _ r _ h3 h4 =>
   cases h4 with
   | cons c _ r _ h5 h6 =>
    cases h6 with
    | cons d _ r _ h7 h8 =>
     cases h8
     exact ⟨a,b,c,d,rfl,h1,h3,h5,h7⟩
def CheckTc (ts gs:List Ty):Prop:=∀ (ms:List PN) (v:AV) (S:St),Each2 Ll (Y6 ts gs) ms → O1 v ms → WC E9 29 [v] S (fun r=>∃ (a e:Nat) (S':St),r=.ret (.agg (Dh a e)) S' ∧ ((((a:Int) == 0) && (((e:Int) == 0) && true)))=O7 ts gs)
theorem fine_gTc {CF:List UInt8 → PN} {n:List UInt8} {b:Bool} {gp ap cp lc q:Nat} (f:Nat × Nat):Li (Va CF ⟨n,gp,[⟨[97],ap,b,false,[],false⟩],[⟨[99],cp,b,false,[],false⟩],[],[⟨[([99],lc)],false,.mk 3 q 0 [97] false []⟩]⟩ f)=Li f:=by
 have e0:Va CF ⟨n,gp,[⟨[97],ap,b,false,[],false⟩],[⟨[99],cp,b,false,[],false⟩],[],[⟨[([99],lc)],false,.mk 3 q 0 [97] false []⟩]⟩ f=Sb [([97],(b,false)),([99],(b,false))] CF ⟨[([99],lc)],false,.mk 3 q 0 [97] false []⟩ f:=rfl
 rw [e0,Od (lf:=([99],lc)) rfl]
 show (Li f && ((b == b) && (false == false)))=_
 cases b <;> simp
theorem fine_kTc {CF:List UInt8 → PN} {kp yp ly q:Nat} {ins:List PD} (f:Nat × Nat):Li (Va CF ⟨[107],kp,ins,[⟨[121],yp,false,false,[],false⟩],[],[⟨[([121],ly)],false,.mk 1 q 1 [] false []⟩]⟩ f)=Li f:=by
 have hn:∀ (l:List PD) (acc:List (List UInt8 × (Bool × Bool))),H6 (Pq acc (l ++ [⟨[121],yp,false,false,[],false⟩])) [121]=(false,false):=by
  intro l
  induction l with
  | nil =>
   intro acc
   show (Qy (Rt acc [121] (false,false)) [121]).getD (false,false)=_
   rw [Ud,if_pos rfl]; rfl
  | cons d l ih=>intro acc; exact ih (Rt acc d.name (d.bool,d.fut))
 have e0:Va CF ⟨[107],kp,ins,[⟨[121],yp,false,false,[],false⟩],[],[⟨[([121],ly)],false,.mk 1 q 1 [] false []⟩]⟩ f=Sb (Pq [] ((ins ++ [⟨[121],yp,false,false,[],false⟩]) ++ [])) CF ⟨[([121],ly)],false,.mk 1 q 1 [] false []⟩ f:=rfl
 rw [e0,List.append_nil,Od (lf:=([121],ly)) rfl]
 have h1:=hn ins []
 generalize Pq [] (ins ++ [⟨[121],yp,false,false,[],false⟩])=N at h1 ⊢
 show (Li f && (((H6 N [121]).1 == false) && ((H6 N [121]).2 == false)))=_
 rw [h1]
 simp
theorem checkTc (ts gs:List Ty) (ht:ts.length=4) (hg:gs.length=4):CheckTc ts gs:=by
 intro ms v S hl hp
 obtain ⟨f,g,h,k,rfl,hf,hgg,hh,hk⟩:=each2_four hl
 obtain ⟨tok,off,es,hv,hes⟩:=hp
 obtain ⟨fp,ap,bp,yp,up,vp,lu,lv,ly,p1,p2,p3,q1,q2,ks,rfl,n2⟩:=like_fTc hf
 obtain ⟨gp,gap,gcp,glc,gq,rfl⟩:=like_gTc hgg
 obtain ⟨hp',hap,hcp,hlc,hq',rfl⟩:=like_gTc hh
 obtain ⟨kp,ins,kyp,kly,kq,rfl,n3⟩:=like_kTc hk
 clear hf hgg hh hk hl
 obtain ⟨c1,c2,c3,c4⟩:=sS ts gs 0 ins ks n3 n2 (by rw [ht,hg])
 obtain ⟨va,vb,vc,vd,rfl,hva,hvb,hvc,hvd⟩:=pJ hes
 generalize hG:(⟨[103],gp,[⟨[97],gap,false,false,[],false⟩],[⟨[99],gcp,false,false,[],false⟩],[],[⟨[([99],glc)],false,.mk 3 gq 0 [97] false []⟩]⟩:PN)=G at hvb hes
 generalize hH:(⟨[104],hp',[⟨[97],hap,true,false,[],false⟩],[⟨[99],hcp,true,false,[],false⟩],[],[⟨[([99],hlc)],false,.mk 3 hq' 0 [97] false []⟩]⟩:PN)=H at hvc hes
 generalize hK:(⟨[107],kp,ins,[⟨[121],kyp,false,false,[],false⟩],[],[⟨[([121],kly)],false,.mk 1 kq 1 [] false []⟩]⟩:PN)=K at hvd hes
 generalize hF:(⟨[102],fp,[⟨[97],ap,false,false,[],false⟩,⟨[98],bp,true,false,[],false⟩],[⟨[121],yp,false,false,[],false⟩],[⟨[117],up,false,true,[],false⟩,⟨[118],vp,true,true,[],false⟩],[⟨[([117],lu)],true,.mk 13 p1 0 [103] false [.mk 3 q1 0 [97] false []]⟩,⟨[([118],lv)],true,.mk 13 p2 0 [104] false [.mk 3 q2 0 [98] false []]⟩,⟨[([121],ly)],false,.mk 13 p3 0 [107] false ks⟩]⟩:PN)=F at hva hes
 have nF:F.name=[102]:=by rw [← hF]
 have nG:G.name=[103]:=by rw [← hG]
 have nH:H.name=[104]:=by rw [← hH]
 have nK:K.name=[107]:=by rw [← hK]
 have hget:∀ n,Qy (Po [] [va,vb,vc,vd] [F,G,H,K]) n=if n=[107] then some vd else if n=[104] then some vc else if n=[103] then some vb else if n=[102] then some va else none:=fun n=>by
  show Qy (Rt (Rt (Rt (Rt [] F.name va) G.name vb) H.name vc) K.name vd) n=_
  rw [Ud,Ud,Ud,Ud,nF,nG,nH,nK]
  rfl
 have oG:G.outs=[⟨[99],gcp,false,false,[],false⟩]:=by rw [← hG]
 have oH:H.outs=[⟨[99],hcp,true,false,[],false⟩]:=by rw [← hH]
 have oK:K.outs=[⟨[121],kyp,false,false,[],false⟩]:=by rw [← hK]
 have iG:G.ins=[⟨[97],gap,false,false,[],false⟩]:=by rw [← hG]
 have iH:H.ins=[⟨[97],hap,true,false,[],false⟩]:=by rw [← hH]
 have iK:K.ins=ins:=by rw [← hK]
 let CF:List UInt8 → PN:=fun n=>if n=[107] then K else if n=[104] then H else G
 have cG:CF [103]=G:=rfl
 have cH:CF [104]=H:=rfl
 have cK:CF [107]=K:=rfl
 generalize hmn:Po [] [va,vb,vc,vd] [F,G,H,K]=mnl at hget
 have g3:Qy mnl [103]=some vb:=hget [103]
 have g4:Qy mnl [104]=some vc:=hget [104]
 have g7:Qy mnl [107]=some vd:=hget [107]
 have sF:SimN mnl CF F:=by
  rw [← hF]
  refine ⟨fun q hq=>?_,fun d hd=>?_,by show 2 + 1 + 2 ≤ 3000; decide,by show 3 ≤ 1000000; decide⟩
  ·simp only [List.mem_cons,List.not_mem_nil,or_false] at hq
   rcases hq with rfl | rfl | rfl
   ·exact ⟨⟨_,rfl⟩,.call _ _ _ _ _ (fun e he=>by obtain rfl:=List.mem_singleton.1 he; exact ⟨_,_,_,_,_,rfl⟩) (by show 1 ≤ 1000; decide) vb g3 hvb _ oG⟩
   ·exact ⟨⟨_,rfl⟩,.call _ _ _ _ _ (fun e he=>by obtain rfl:=List.mem_singleton.1 he; exact ⟨_,_,_,_,_,rfl⟩) (by show 1 ≤ 1000; decide) vc g4 hvc _ oH⟩
   ·exact ⟨⟨_,rfl⟩,.call _ _ _ _ _ c1 (by rw [c2,hg]; decide) vd g7 hvd _ oK⟩
  ·simp only [List.mem_cons,List.not_mem_nil,or_false] at hd
   rcases hd with rfl | rfl <;> rfl
 have sG:SimN mnl CF G:=by
  rw [← hG]
  refine ⟨fun q hq=>?_,(fun d hd=>absurd hd List.not_mem_nil),by show 1 + 1 + 0 ≤ 3000; decide,by show 1 ≤ 1000000; decide⟩
  obtain rfl:=List.mem_singleton.1 hq
  exact ⟨⟨_,rfl⟩,.leaf _ (.var _ _ _ _ _)⟩
 have sH:SimN mnl CF H:=by
  rw [← hH]
  refine ⟨fun q hq=>?_,(fun d hd=>absurd hd List.not_mem_nil),by show 1 + 1 + 0 ≤ 3000; decide,by show 1 ≤ 1000000; decide⟩
  obtain rfl:=List.mem_singleton.1 hq
  exact ⟨⟨_,rfl⟩,.leaf _ (.var _ _ _ _ _)⟩
 have sK:SimN mnl CF K:=by
  rw [← hK]
  refine ⟨fun q hq=>?_,(fun d hd=>absurd hd List.not_mem_nil),by show ins.length + 1 + 0 ≤ 3000; rw [c3,ht]; decide,by show 1 ≤ 1000000; decide⟩
  obtain rfl:=List.mem_singleton.1 hq
  exact ⟨⟨_,rfl⟩,.leaf _ (.num _ _ _ _ _)⟩
 have hsim:∀ nd ∈ [F,G,H,K],SimN (Po [] [va,vb,vc,vd] [F,G,H,K]) CF nd:=by
  rw [hmn]
  intro nd hnd
  simp only [List.mem_cons,List.not_mem_nil,or_false] at hnd
  rcases hnd with rfl | rfl | rfl | rfl
  ·exact sF
  ·exact sG
  ·exact sH
  ·exact sK
 refine WC.mono (tS hv hes (by show 4 ≤ 1000000; decide) hsim S) ?_
 rintro _ ⟨S',rfl⟩
 refine ⟨_,_,S',rfl,?_⟩
 rw [fz_test (mW _ _ _ (fun _=>rfl))]
 show Li (Va CF K (Va CF H (Va CF G (Va CF F (Mt F.ins (0,0))))))=_
 rw [← hK,fine_kTc,← hH,fine_gTc,← hG,fine_gTc]
 have e0:Va CF F (Mt F.ins (0,0))=Sb Gz CF ⟨[([121],ly)],false,.mk 13 p3 0 [107] false ks⟩ (Sb Gz CF ⟨[([118],lv)],true,.mk 13 p2 0 [104] false [.mk 3 q2 0 [98] false []]⟩ (Sb Gz CF ⟨[([117],lu)],true,.mk 13 p1 0 [103] false [.mk 3 q1 0 [97] false []]⟩ (0,0))):=by rw [← hF]; rfl
 rw [e0]
 have h1:Li (Sb Gz CF ⟨[([117],lu)],true,.mk 13 p1 0 [103] false [.mk 3 q1 0 [97] false []]⟩ (0,0))=true:=by
  rw [Od (lf:=([117],lu)) rfl]
  have t1:thT Gz CF true (.mk 13 p1 0 [103] false [.mk 3 q1 0 [97] false []]) (0,0)=(false,true):=by
   show ((aJ G.outs).1,(aJ G.outs).2 || true)=_
   rw [oG]; rfl
  have t2:(Ty1 Gz CF (.mk 13 p1 0 [103] false [.mk 3 q1 0 [97] false []]) (0,0)).2=(0,0):=by
   show Sk Gz [.mk 3 q1 0 [97] false []] G.ins (0,0)=_
   rw [iG]; rfl
  show (Li (Ty1 Gz CF (.mk 13 p1 0 [103] false [.mk 3 q1 0 [97] false []]) (0,0)).2 && (((H6 Gz [117]).1 == (thT Gz CF true (.mk 13 p1 0 [103] false [.mk 3 q1 0 [97] false []]) (0,0)).1) && ((H6 Gz [117]).2 == (thT Gz CF true (.mk 13 p1 0 [103] false [.mk 3 q1 0 [97] false []]) (0,0)).2)))=true
  rw [t1,t2]; rfl
 generalize Sb Gz CF ⟨[([117],lu)],true,.mk 13 p1 0 [103] false [.mk 3 q1 0 [97] false []]⟩ (0,0)=f1 at h1 ⊢
 have h2:Li (Sb Gz CF ⟨[([118],lv)],true,.mk 13 p2 0 [104] false [.mk 3 q2 0 [98] false []]⟩ f1)=true:=by
  rw [Od (lf:=([118],lv)) rfl]
  have t1:thT Gz CF true (.mk 13 p2 0 [104] false [.mk 3 q2 0 [98] false []]) f1=(true,true):=by
   show ((aJ H.outs).1,(aJ H.outs).2 || true)=_
   rw [oH]; rfl
  have t2:(Ty1 Gz CF (.mk 13 p2 0 [104] false [.mk 3 q2 0 [98] false []]) f1).2=f1:=by
   show Sk Gz [.mk 3 q2 0 [98] false []] H.ins f1=_
   rw [iH]; rfl
  show (Li (Ty1 Gz CF (.mk 13 p2 0 [104] false [.mk 3 q2 0 [98] false []]) f1).2 && (((H6 Gz [118]).1 == (thT Gz CF true (.mk 13 p2 0 [104] false [.mk 3 q2 0 [98] false []]) f1).1) && ((H6 Gz [118]).2 == (thT Gz CF true (.mk 13 p2 0 [104] false [.mk 3 q2 0 [98] false []]) f1).2)))=true
  rw [t1,t2,h1]; rfl
 generalize Sb Gz CF ⟨[([118],lv)],true,.mk 13 p2 0 [104] false [.mk 3 q2 0 [98] false []]⟩ f1=f2 at h2 ⊢
 rw [Od (lf:=([121],ly)) rfl]
 have t1:thT Gz CF false (.mk 13 p3 0 [107] false ks) f2=(false,false):=by
  show ((aJ K.outs).1,(aJ K.outs).2 || false)=_
  rw [oK]; rfl
 have t2:(Ty1 Gz CF (.mk 13 p3 0 [107] false ks) f2).2=Sk Gz ks ins f2:=by
  show Sk Gz ks K.ins f2=_
  rw [iK]
 show (Li (Ty1 Gz CF (.mk 13 p3 0 [107] false ks) f2).2 && (((H6 Gz [121]).1 == (thT Gz CF false (.mk 13 p3 0 [107] false ks) f2).1) && ((H6 Gz [121]).2 == (thT Gz CF false (.mk 13 p3 0 [107] false ks) f2).2)))=_
 rw [t1,t2,c4,h2]
 show (true && O7 ts gs && true)=O7 ts gs
 simp
structure FrS (p q o:Nat) (deep:Int) (t:T AV):Prop where
 t1:t.get 1=some (.v (.int .i64 deep))
 t2:t.get 2=some (.ptr p 0)
 t4:t.get 4=some (.ptr q 0)
 t6:t.get 6=some (.ptr o 0)
theorem FrS.same {p q o:Nat} {deep:Int} {t t':T AV} (h:FrS p q o deep t) (h1:t'.get 1=t.get 1) (h2:t'.get 2=t.get 2) (h4:t'.get 4=t.get 4) (h6:t'.get 6=t.get 6):FrS p q o deep t':=⟨h1.trans h.t1,h2.trans h.t2,h4.trans h.t4,h6.trans h.t6⟩
structure Mem3 (S0:St) (p q o lo:Nat) (ys xs:List AV) (S:St):Prop where
 keep:En S0 S
 mp:S.mem.get p=some (.box ys)
 mq:S.mem.get q=some (.box exZ)
 mo:S.mem.get o=some (.box xs)
 ord:2 ≤ S0.next ∧ S0.next ≤ p ∧ S0.next ≤ q ∧ S0.next ≤ o ∧ p < lo ∧ q < lo ∧ o < lo ∧ p ≠ o ∧ q ≠ o ∧ lo ≤ S.next
theorem Mem3.low {S0:St} {p q o lo:Nat} {ys xs:List AV} {S S':St} (h:Mem3 S0 p q o lo ys xs S) (hn:S.next ≤ S'.next) (hm:∀ id,id < lo → S'.mem.get id=S.mem.get id):Mem3 S0 p q o lo ys xs S':=by
 obtain ⟨h1,h2,h3,h4,h5⟩:=h
 exact ⟨⟨Nat.le_trans h1.1 hn,fun id hid=>(hm id (by omega)).trans (h1.2 id hid)⟩,(hm p (by omega)).trans h2,(hm q (by omega)).trans h3,(hm o (by omega)).trans h4,by omega⟩
theorem V0.ext {lo:Nat} {S S':St} {v:AV} {es:List AV} (h:V0 lo S v es) (hn:S.next ≤ S'.next) (hm:∀ id m,id < S.next → S.mem.get id=some (.tip m) → S'.mem.get id=some (.tip m)):V0 lo S' v es:=by
 rcases h with h | ⟨k,h1,h2,h3,h4⟩
 ·exact .inl h
 ·exact .inr ⟨k,h1,hm _ _ h3 h2,by omega,h4⟩
structure AtS (S0:St) (p q o lo:Nat) (ys xs:List AV) (v:AV) (es:List AV) (b:Nat) (zs:List AV) (S:St):Prop where
 m:Mem3 S0 p q o lo ys xs S
 r:V0 lo S v es
 mb:S.mem.get b=some (.box zs)
 hb:lo ≤ b ∧ b < S.next
theorem AtS.put {S0:St} {p q o lo:Nat} {ys xs:List AV} {v:AV} {es:List AV} {b:Nat} {zs:List AV} {S:St} (h:AtS S0 p q o lo ys xs v es b zs S) (zs':List AV):AtS S0 p q o lo ys xs v es b zs' (S.put b zs'):=by
 obtain ⟨h1,h2,h3,h4⟩:=h
 refine ⟨h1.low (Nat.le_refl _) (fun id hid=>Ek (by omega)),h2.ext (Nat.le_refl _) (fun id m hid e=>?_),Ef _ _ _,h4⟩
 by_cases hk:id=b
 ·subst hk; rw [h3] at e; cases e
 ·exact (Ek hk).trans e
theorem AtS.keep {S0:St} {p q o lo:Nat} {ys xs:List AV} {v:AV} {es:List AV} {b:Nat} {zs:List AV} {S S':St} (h:AtS S0 p q o lo ys xs v es b zs S) (k:En S S'):AtS S0 p q o lo ys xs v es b zs S':=by
 obtain ⟨h1,h2,h3,h4⟩:=h
 have:=h1.ord
 exact ⟨h1.low k.1 (fun id hid=>k.2 id (by omega)),h2.ext k.1 (fun id m hid e=>(k.2 id hid).trans e),(k.2 b h4.2).trans h3,h4.1,Nat.lt_of_lt_of_le h4.2 k.1⟩
theorem xK (x:Int) (c:Nat) (hc:c < 4611686018427387904):∃ k:Nat,bits .and .i64 x (c:Int)=(k:Int) ∧ k ≤ c:=by
 refine ⟨((BitVec.ofInt 64 x) &&& (BitVec.ofInt 64 (c:Int))).toNat,?_,?_⟩
 ·have h:((BitVec.ofInt 64 x) &&& (BitVec.ofInt 64 (c:Int))).toNat ≤ c:=by
   rw [BitVec.toNat_and]
   refine Nat.le_trans Nat.and_le_right ?_
   rw [show BitVec.ofInt 64 (c:Int)=BitVec.ofNat 64 c from by simp,BitVec.toNat_ofNat]
   exact Nat.mod_le _ _
  show IntKind.i64.wrap ((((BitVec.ofInt 64 x) &&& (BitVec.ofInt 64 (c:Int))).toNat:Nat):Int)=_
  rw [IntKind.wrap_i64]; omega
 ·rw [BitVec.toNat_and]
  refine Nat.le_trans Nat.and_le_right ?_
  rw [show BitVec.ofInt 64 (c:Int)=BitVec.ofNat 64 c from by simp,BitVec.toNat_ofNat]
  exact Nat.mod_le _ _
theorem SomeE.mono {a b:Nat} {e:PE} (h:SomeE a e) (hab:a ≤ b):SomeE b e:=⟨h.good,h.fit,h.few,Nat.le_trans h.size (Nat.pow_le_pow_right (by decide) hab),by have:=h.deep; omega⟩
end Go.Ax
noncomputable section
namespace Go.Ax
open Go.RowKit Go.Proofs
set_option maxRecDepth 100000
end Go.Ax
noncomputable section
namespace Go.Ax
open Go.RowKit Go.Proofs
set_option maxRecDepth 100000
theorem ld9ep (S:St) (a:AV) (r:List AV):Ci Tryz.prog S 9 (.ep (a :: r))=some a:=by
 have:Fq Tryz.prog 9=some false:=by kernel_rfl
 simp [Ci,Dv,this]
end Go.Ax
