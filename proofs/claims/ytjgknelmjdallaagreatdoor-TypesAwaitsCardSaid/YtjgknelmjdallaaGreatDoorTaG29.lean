/- Gw -/
import Derived.Test.YtjgknelmjdallaaGreatDoorTaG28
import Derived.Test.YtjgknelmjdallaaGreatDoorTaG12
import Derived.Test.YtjgknelmjdallaaGreatDoorTaG25
import Derived.Lib.LaidTab
import Derived.Deep.Strs
import Derived.Deep.Grids
set_option linter.unusedVariables false
set_option linter.unusedSimpArgs false
set_option maxHeartbeats 16000000
noncomputable section
namespace Go.Ax
open Go.RowKit Go.Proofs
set_option maxRecDepth 100000
theorem bl125 (g:Nat):Gj Tryz.prog 125 [(0,.map g)]=some (.agg (I9 (.map g) .nilm 0 0)):=by kernel_rfl
theorem al125 (S:St):Jl Tryz.prog S 125=some (.ptr S.next 0,S.newBox (I9 .nilm .nilm 0 0)):=by kernel_rfl
theorem sz125:Fl Tryz.prog 125=some 4:=by kernel_rfl
theorem al33v (S:St):Jl Tryz.prog S 33=some (.ptr S.next 0,S.newBox (Dg 0 0)):=by kernel_rfl
theorem ag33u:Fp Tryz.prog 33=some true:=by kernel_rfl
theorem st123 {S:St} {s:Nat} {mn mm:AV} {a e:Nat} (h:S.mem.get s=some (.box (I9 mn mm a e))) (g:Nat):Di Tryz.prog S 123 (.ptr s 1) (.map g)=some (S.put s (I9 mn (.map g) a e)):=by
 have hs:Fl Tryz.prog 123=some 1:=by kernel_rfl
 simp [Di,h,hs,AV.noTup,AV.cells,I9,St.put]
theorem ld33s {S:St} {s:Nat} {mn mm:AV} {a e:Nat} (h:S.mem.get s=some (.box (I9 mn mm a e))):Ch Tryz.prog S 33 (.ptr s 2)=some (.agg (Dg a e)):=by
 simp [Ch,Dr,h,ag33u,sz33z,I9,Dg]
def NodeT (l:List (List UInt8 × AV)) (NF:PN → Nat × Nat → Nat × Nat) (nd:PN):Prop:=∀ (s m g:Nat) (v:AV) (S:St) (f:Nat × Nat),Kg v nd → Cx s m ⟨g,l⟩ (Rx [] (zS nd)) S f → WC E9 70 [.ptr s 0,v] S (fun r=>∃ S',r=.ret (.tup []) S' ∧ Cx s m ⟨g,l⟩ (Rx [] (zS nd)) S' (NF nd f) ∧ D9 s S S')
def R2 (NF:PN → Nat × Nat → Nat × Nat):Nat → List PN → Nat × Nat → Nat × Nat
 | _,[],f=>f
 | i,nd :: l,f=>R2 NF (i + 1) l (NF nd (if i=0 then N4 nd.ins f else f))
theorem zF (NF:PN → Nat × Nat → Nat × Nat) (i:Nat) (nd:PN) (l:List PN) (f:Nat × Nat):R2 NF i (nd :: l) f=R2 NF (i + 1) l (NF nd (if i=0 then N4 nd.ins f else f)):=rfl
def ckB:Code:=match Tryz.f29.body with
 | some (.seq _ (.seq _ (.seq (.seq _ (.block _ (.loop b))) _)))=>b
 | _=>.skip
structure CkS (s g:Nat) (l:List (List UInt8 × AV)) (S:St) (f:Nat × Nat):Prop where
 box:∃ mm,Sight S s (.map g) mm f
 nd:S.mem.get g=some (.mp (Ip id l))
 lt:g < S.next ∧ g ≠ s
def LoopCkS (s g:Nat) (l:List (List UInt8 × AV)) (S0:St) (q:Nat) (f:Nat × Nat) (r:O):Prop:=∃ t' S',r=.out (.exit 0) ⟨t',[]⟩ S' ∧ t'.get 2=some (.ptr q 0) ∧ t'.get 3=some (.ptr s 0) ∧ CkS s g l S' f ∧ D9 s S0 S'
theorem ck_lp {tok off:Nat} {es:List AV} {l:List PN} (hes:NodeRows es l) (hl:l.length ≤ 1000000) {mnl:List (List UInt8 × AV)} {NF:PN → Nat × Nat → Nat × Nat} (hN:∀ nd ∈ l,NodeT mnl NF nd) (hsz:∀ nd ∈ l,nd.ins.length + nd.outs.length + nd.vars.length ≤ 3000) (s g q:Nat) (S0:St) (hs0:s < S0.next):∀ (n j:Nat) (f:Nat × Nat) (t:T AV) (S:St),j + n=l.length → t.get 2=some (.ptr q 0) → t.get 3=some (.ptr s 0) → t.get 9=some (.sl tok off 6 es) → t.get 10=some (Dl l.length) → t.get 11=some (Dl j) → CkS s g mnl S f → D9 s S0 S →
  WX E9 29 (.loop ckB) ⟨t,[]⟩ S (LoopCkS s g mnl S0 q (R2 NF j (l.drop j) f))
 | 0,j,f,t,S,hj,h2,h3,h9,h10,h11,hc,hk=>by
  refine D0 (Ds ?_)
  have hlt:¬ ((j:Int) < (l.length:Int)):=by omega
  simp only [Dl] at h10 h11
  simp only [Bz,Bp,A6,Bk,Bo,Bs,C9,A4,C0,Bh,A7,Be,Bd,Cg,A5,Bb,A9,A0,ofOpt,Bt,C6,Nat.reduceLT,Nat.reduceEqDiff,Aa,Ab,Ac,Am,Aq,E3,ckB,Tryz.f29,h10,h11,hlt]
  rw [List.drop_of_length_le (by omega)]
  exact ⟨_,_,rfl,by simp only [A0,A1,Nat.reduceEqDiff,Aa,Ab,h2],by simp only [A0,A1,Nat.reduceEqDiff,Aa,Ab,h3],hc,hk⟩
 | n + 1,j,f,t,S,hj,h2,h3,h9,h10,h11,hc,hk=>by
  refine D0 (Ds ?_)
  obtain ⟨fn1,hf68⟩:=fng_68
  obtain ⟨fn2,hf69⟩:=fng_69
  obtain ⟨fn3,hf70⟩:=fng_70
  have hjl:j < l.length:=by omega
  have hje:j < es.length:=by rw [hes.len]; exact hjl
  have hlt:((j:Int) < (l.length:Int)):=by omega
  have hw:IntKind.i64.wrap ((j:Int) + 1)=((j + 1:Nat):Int):=by rw [IntKind.wrap_i64]; omega
  have hnd:=T1 hes j hjl hje
  have hx:=idxU eu40 Tm tok off es j hje
  have hNn:=hN _ (List.getElem_mem hjl)
  have hsn:=hsz _ (List.getElem_mem hjl)
  rw [List.drop_eq_getElem_cons hjl]
  rw [zF]
  generalize es[j]=v at hx hnd
  generalize l[j]=nd at hnd hNn hsn ⊢
  have hnd0:=hnd
  obtain ⟨a,bb,c,d,qs,rfl,ha,hb,hcv,hd,hqe⟩:=hnd
  have hx:Dd Tryz.prog 40 (.sl tok off 6 es) (.v (.int .i64 (j:Int)))=some (.ep (Ge nd.name nd.pos a bb c d)):=hx
  have hep:=lepU eE Tm S (Ge nd.name nd.pos a bb c d) rfl
  have al:=zO S
  have q1:=stU Tm (Cs S R5) rfl (ys:=Ge nd.name nd.pos a bb c d) rfl
  obtain ⟨k2,g2,l2⟩:=Mq S R5 (Ge nd.name nd.pos a bb c d)
  generalize hS2:(S.newBox R5).put S.next (Ge nd.name nd.pos a bb c d)=S2 at q1 g2 l2 k2
  have lq:=ldU eE Tm g2 rfl
  obtain ⟨⟨mm,hb0⟩,hnm,hgl⟩:=hc
  have hb2:=hb0.keep k2
  simp only [Dl] at h10 h11
  simp only [Bz,Bp,A6,Bk,Bo,Bs,C9,A4,C0,Bh,A7,Be,Dm,B3,Dy,Bd,Cf,A5,Bb,A9,A0,Bn,B4,ofOpt,ofOptS,Bt,C6,Nat.reduceLT,Nat.reduceEqDiff,Aa,Ab,Ac,Aj,Ak,Am,Ap,E3,ckB,Tryz.f29,h9,h10,h11,hlt,hx,hep,al,q1,lq,hf68]
  refine WC.mono (typesOf_w hnd0 hsn S2) ?_
  rintro _ ⟨m,S3,rfl,hm,hm2,hm3,k3⟩
  have hb3:=hb2.keep k3
  have st:=st123 hb3.box m
  have hsl:=hb0.lt
  have hkk:=k2.trans k3
  have a4:=Eg S3 s (I9 (.map g) (.map m) f.1 f.2)
  have k4:D9 s S3 (S3.put s (I9 (.map g) (.map m) f.1 f.2)):=⟨Nat.le_refl _,fun id _ hne=>Eo hne⟩
  have g3:(S3.put s (I9 (.map g) (.map m) f.1 f.2)).mem.get S.next=some (.box (Ge nd.name nd.pos a bb c d)):=(Eo (by omega)).trans ((k3.2 S.next l2).trans g2)
  have c4:Cx s m ⟨g,mnl⟩ (Rx [] (zS nd)) (S3.put s (I9 (.map g) (.map m) f.1 f.2)) f:=by
   have n2:=k2.1
   have n3:=k3.1
   refine ⟨⟨a4,Nat.lt_of_lt_of_le hsl hkk.1⟩,?_,⟨hm3,by omega⟩,?_,⟨Nat.lt_of_lt_of_le hgl.1 hkk.1,hgl.2⟩⟩
   ·exact (Eo (by omega)).trans hm
   ·exact (Eo hgl.2).trans ((hkk.2 g hgl.1).trans hnm)
  have n4:(S3.put s (I9 (.map g) (.map m) f.1 f.2)).next=S3.next:=rfl
  generalize hS4:S3.put s (I9 (.map g) (.map m) f.1 f.2)=S4 at st a4 k4 g3 c4 n4
  have lq4:=ldU eE Tm g3 rfl
  have li4:Ch Tryz.prog S4 46 (.ptr S.next 2)=some a:=sQ g3
  have kk4:D9 s S0 S4:=(hk.trans (hkk.x s)).trans k4
  have nS:S.next < S4.next:=by have:=k3.1; omega
  by_cases hj0:j=0
  ·have e0:((j:Int) == 0)=true:=by rw [beq_iff_eq]; omega
   rw [if_pos hj0]
   simp only [Bp,A6,Bk,Bo,A4,Bh,A7,Be,Dm,B3,Dy,Bd,Cn,Cf,A5,Bb,A9,A0,Bn,B4,ofOpt,Ba,Bt,Cc,Nat.reduceLT,Nat.reduceEqDiff,Aa,Ab,Ac,Aj,Ak,Am,E3,h3,Rm,st,e0,kH,li4,hf69]
   refine WC.mono (noFut_w c4.g ha (by omega)) ?_
   rintro _ ⟨S5,rfl,hg5,k5⟩
   have c5:=c4.x k5 hg5
   have g5:S5.mem.get S.next=_:=(k5.2 S.next nS (by omega)).trans g3
   have lq5:=ldU eE Tm g5 rfl
   simp only [A6,A4,Bh,A7,Be,B3,Bd,Cn,A5,Bb,A9,A0,Bn,B4,ofOpt,Nat.reduceLT,Nat.reduceEqDiff,Aa,Ab,Ac,Aj,Ak,E3,h3,lq5,hf70]
   refine WC.mono (hNn s m g _ S5 _ hnd0 c5) ?_
   rintro _ ⟨S6,rfl,c6,k6⟩
   simp only [By,A6,A4,Br,Bh,A7,Be,Bd,Cn,A5,Bb,A9,A0,ofOpt,Ba,Bt,Dh,Nat.reduceLT,Nat.reduceEqDiff,Aa,Ab,Ac,Am,E3,h11,hw]
   refine ck_lp (tok:=tok) (off:=off) hes hl hN hsz s g q S0 hs0 n (j + 1) _ _ S6 (by omega) ?_ ?_ ?_ ?_ ?_ ⟨⟨_,c6.g⟩,c6.nd,c6.ndlt⟩ ((kk4.trans k5).trans k6)
   ·simp only [A0,A1,Nat.reduceEqDiff,Aa,Ab,h2]
   ·simp only [A0,A1,Nat.reduceEqDiff,Aa,Ab,h3]
   ·simp only [A0,A1,Nat.reduceEqDiff,Aa,Ab,h9]
   ·simp only [A0,A1,Nat.reduceEqDiff,Aa,Ab,h10]; rfl
   ·simp only [A0,A1,Nat.reduceEqDiff,Aa,Ab]; rfl
  ·have e0:((j:Int) == 0)=false:=by rw [beq_eq_false_iff_ne]; omega
   rw [if_neg hj0]
   simp only [Bp,A6,Bk,Bo,A4,Bh,A7,Be,Dm,B3,Dy,Bd,Cn,Cg,A5,Bb,A9,A0,Bn,B4,ofOpt,Ba,Bt,Cc,Nat.reduceLT,Nat.reduceEqDiff,Aa,Ab,Ac,Aj,Ak,Am,E3,h3,Rm,st,e0,lq4,hf70]
   refine WC.mono (hNn s m g _ S4 _ hnd0 c4) ?_
   rintro _ ⟨S6,rfl,c6,k6⟩
   simp only [By,A6,A4,Br,Bh,A7,Be,Bd,Cn,A5,Bb,A9,A0,ofOpt,Ba,Bt,Dh,Nat.reduceLT,Nat.reduceEqDiff,Aa,Ab,Ac,Am,E3,h11,hw]
   refine ck_lp (tok:=tok) (off:=off) hes hl hN hsz s g q S0 hs0 n (j + 1) _ _ S6 (by omega) ?_ ?_ ?_ ?_ ?_ ⟨⟨_,c6.g⟩,c6.nd,c6.ndlt⟩ (kk4.trans k6)
   ·simp only [A0,A1,Nat.reduceEqDiff,Aa,Ab,h2]
   ·simp only [A0,A1,Nat.reduceEqDiff,Aa,Ab,h3]
   ·simp only [A0,A1,Nat.reduceEqDiff,Aa,Ab,h9]
   ·simp only [A0,A1,Nat.reduceEqDiff,Aa,Ab,h10]; rfl
   ·simp only [A0,A1,Nat.reduceEqDiff,Aa,Ab]; rfl
theorem check_w {v:AV} {l:List PN} {tok off:Nat} {es:List AV} (hv:v=.sl tok off 6 es) (hes:NodeRows es l) (hl:l.length ≤ 1000000) {NF:PN → Nat × Nat → Nat × Nat} (hN:∀ nd ∈ l,NodeT (Rw [] es l) NF nd) (hsz:∀ nd ∈ l,nd.ins.length + nd.outs.length + nd.vars.length ≤ 3000) (S:St):WC E9 29 [v] S (fun r=>∃ S',r=.ret (.agg (Dg (R2 NF 0 l (0,0)).1 (R2 NF 0 l (0,0)).2)) S'):=by
 refine Do Tryz.f29 (by kernel_rfl) (by kernel_rfl) (by kernel_rfl) (by show (_:Nat) ≤ _;simp [Tryz.f29]) ?_
 obtain ⟨fn1,hf67⟩:=fng_67
 have al:=al33v S
 have g1:=Cs S (Dg 0 0)
 have lt1:S.next < (S.newBox (Dg 0 0)).next:=Nat.lt_succ_self _
 generalize hS1:S.newBox (Dg 0 0)=S1 at al g1 lt1
 simp only [A6,Bk,A4,Bh,A7,Be,B3,Bd,A5,Bb,A9,Cb,A0,A1,Bn,B4,ofOpt,ofOptS,Nat.reduceLT,Nat.reduceEqDiff,Aa,Ab,Ac,Ae,Aj,Ak,E3,Tryz.f29,al,hf67]
 refine WC.mono (nodesOf_w hv hes hl S1) ?_
 rintro _ ⟨g,S2,rfl,hm,hm2,hm3,k2⟩
 subst hv
 have g2:S2.mem.get S.next=_:=(k2.2 S.next lt1).trans g1
 have hbl:=bl125 g
 have al2:=al125 S2
 have q3:=stU sz125 (Cs S2 (I9 .nilm .nilm 0 0)) rfl (ys:=I9 (.map g) .nilm 0 0) rfl
 obtain ⟨k3,a3,l3⟩:=Mq S2 (I9 .nilm .nilm 0 0) (I9 (.map g) .nilm 0 0)
 have lt2:=Nat.lt_of_lt_of_le lt1 k2.1
 generalize hS3:(S2.newBox (I9 .nilm .nilm 0 0)).put S2.next (I9 (.map g) .nilm 0 0)=S3 at q3 k3 a3 l3
 have g3:S3.mem.get S.next=_:=(k3.2 S.next lt2).trans g2
 have hck:CkS S2.next g (Rw [] es l) S3 (0,0):=⟨⟨_,⟨a3,l3⟩⟩,(k3.2 g hm3).trans hm,⟨Nat.lt_of_lt_of_le hm3 k3.1,by omega⟩⟩
 have len:F5 Tryz.prog S3 40 (.sl tok off 6 es)=some l.length:=by simp [F5,un40,hes.len]
 have key:=fun t=>ck_lp (tok:=tok) (off:=off) hes hl hN hsz S2.next g S.next S3 l3 l.length 0 (0,0) t S3 (by omega)
 unfold ckB at key
 simp only [Tryz.f29] at key
 simp only [A6,Bk,Bs,Dv,A4,Bh,A7,Be,Dm,Dy,Bd,Cn,A5,Bb,A9,A0,A1,Bn,ofOpt,ofOptS,Ba,Bv,Nat.reduceLT,Nat.reduceEqDiff,Aa,Ab,Ac,E3,hbl,al2,q3,len]
 refine WX.mono (key _ ?_ ?_ ?_ ?_ ?_ hck ⟨Nat.le_refl _,fun _ _ _=>rfl⟩) ?_
 ·simp only [A0,A1,Nat.reduceEqDiff,Aa,Ab]
 ·simp only [A0,A1,Nat.reduceEqDiff,Aa,Ab]
 ·simp only [A0,A1,Nat.reduceEqDiff,Aa,Ab]
 ·simp only [A0,A1,Nat.reduceEqDiff,Aa,Ab]; rfl
 ·simp only [A0,A1,Nat.reduceEqDiff,Aa,Ab]; rfl
 rintro _ ⟨t4,S4,rfl,h2,h3,hc4,k4⟩
 rw [List.drop_zero] at hc4
 generalize R2 NF 0 l (0,0)=f4 at hc4 ⊢
 obtain ⟨⟨mm,hb4⟩,_,_⟩:=hc4
 have g4:S4.mem.get S.next=_:=(k4.2 S.next (Nat.lt_of_lt_of_le lt2 k3.1) (by omega)).trans g3
 have lf:=ld33s hb4.box
 have q5:=Pz g4 rfl (rfl:(Dg f4.1 f4.2).length=2)
 have l5:=Ir S4 S.next (Dg f4.1 f4.2) rfl
 simp only [A6,Bk,Bw,A4,C0,Dw,Bh,A7,Be,Dm,Dy,Bd,A5,Bb,A9,A0,ofOpt,Bj,Bu,Bf,Ci,Nat.reduceLT,Nat.reduceEqDiff,Aa,Ab,Ac,E3,h2,h3,tN,lf,q5,l5]
 exact ⟨_,rfl⟩
inductive LeafE:PE → Prop where
 | num (pos:Nat) (n:Int) (name:List UInt8) (off:Bool) (kids:List PE):LeafE (.mk 1 pos n name off kids)
 | tru (pos:Nat) (n:Int) (name:List UInt8) (off:Bool) (kids:List PE):LeafE (.mk 2 pos n name off kids)
 | var (pos:Nat) (n:Int) (name:List UInt8) (off:Bool) (kids:List PE):LeafE (.mk 3 pos n name off kids)
def Ty0 (names:List (List UInt8 × (Bool × Bool))):PE → Nat × Nat → (Bool × Bool) × (Nat × Nat)
 | .mk kind pos _ name _ _,f=>if kind=2 then ((true,false),f) else if kind=3 then (I8 names name,Jm (I8 names name).2 pos 7 f) else ((false,false),f)
theorem ty0_w {s m:Nat} {mn:NdM} {names:List (List UInt8 × (Bool × Bool))} (e:PE) (h:LeafE e):dV s m mn names (Ty0 names) e:=by
 intro xs S f hr hc
 cases h with
 | num pos n name off kids=>exact expr_num pos n name off kids xs S f hr hc
 | tru pos n name off kids=>exact expr_bool pos n name off kids xs S f hr hc
 | var pos n name off kids=>exact expr_var pos n name off kids xs S f hr hc
inductive SimE (mnl:List (List UInt8 × AV)) (CF:List UInt8 → PN):PE → Prop where
 | leaf (e:PE) (h:LeafE e):SimE mnl CF e
 | less (pos:Nat) (n:Int) (off:Bool) (kids:List PE) (h:∀ e ∈ kids,LeafE e) (hl:kids.length ≤ 1000):SimE mnl CF (.mk 6 pos n [60] off kids)
 | await (pos:Nat) (n:Int) (name:List UInt8) (off:Bool) (kids:List PE) (h:∀ e ∈ kids,LeafE e) (hl:kids.length ≤ 1000):SimE mnl CF (.mk 14 pos n name off kids)
 | call (pos:Nat) (n:Int) (name:List UInt8) (off:Bool) (kids:List PE) (h:∀ e ∈ kids,isVarE e) (hl:kids.length ≤ 1000) (v:AV) (hv:Ub mnl name=some v) (hn:Kg v (CF name)) (dd:PD) (ho:(CF name).outs=[dd]):SimE mnl CF (.mk 13 pos n name off kids)
def Ty1 (names:List (List UInt8 × (Bool × Bool))) (CF:List UInt8 → PN):PE → Nat × Nat → (Bool × Bool) × (Nat × Nat)
 | .mk kind pos n name off kids,f=>if kind=6 then ((true,false),Sk (Ty0 names) (false,false) kids f) else if kind=14 then tZ names (Ty0 names) pos name kids f else if kind=13 then (wI (CF name).outs,jY names kids (CF name).ins f) else Ty0 names (.mk kind pos n name off kids) f
theorem ty1_w {s m g:Nat} {mnl:List (List UInt8 × AV)} {names:List (List UInt8 × (Bool × Bool))} {CF:List UInt8 → PN} (e:PE) (h:SimE mnl CF e):dV s m ⟨g,mnl⟩ names (Ty1 names CF) e:=by
 intro xs S f hr hc
 cases h with
 | leaf e h =>
  have h0:=ty0_w e h xs S f hr hc
  have e1:Ty1 names CF e f=Ty0 names e f:=by cases h <;> rfl
  rw [e1]
  exact h0
 | less pos n off kids h hl=>exact expr_bin pos n [60] off kids _ (fun xs hx=>less_w (Ty:=Ty0 names) pos n off kids (fun e he=>ty0_w e (h e he)) hl xs hx) xs S f hr hc
 | await pos n name off kids h hl=>exact expr_await pos n name off kids _ (fun xs hx=>awaitT_w (Ty:=Ty0 names) pos n name off kids (fun e he=>ty0_w e (h e he)) hl xs hx) xs S f hr hc
 | call pos n name off kids h hl v hv hn dd ho=>exact expr_call pos n name off kids _ (fun xs hx=>call_w pos n name off kids h (by omega) hv hn xs hx) xs S f hr hc
def thT (names:List (List UInt8 × (Bool × Bool))) (CF:List UInt8 → PN) (async:Bool):PE → Nat × Nat → Bool × Bool
 | .mk kind pos n name off kids,f=>if kind=13 then ((wI (CF name).outs).1,(wI (CF name).outs).2 || async) else (Ty1 names CF (.mk kind pos n name off kids) f).1
def bR (names:List (List UInt8 × (Bool × Bool))) (CF:List UInt8 → PN) (q:PQ) (f:Nat × Nat):Nat × Nat:=match q.left with
 | [lf]=>eqF names (thT names CF q.async q.e) (fun f=>(Ty1 names CF q.e f).2) lf f
 | _=>f
def SimQ (mnl:List (List UInt8 × AV)) (CF:List UInt8 → PN) (q:PQ):Prop:=(∃ lf,q.left=[lf]) ∧ SimE mnl CF q.e
theorem eqEF_w {s m g:Nat} {mnl:List (List UInt8 × AV)} {names:List (List UInt8 × (Bool × Bool))} {CF:List UInt8 → PN} (q:PQ) (h:SimQ mnl CF q):EqT s m ⟨g,mnl⟩ names (bR names CF) q:=by
 intro cs S f hq hc
 obtain ⟨⟨lf,hlf⟩,hs⟩:=h
 obtain ⟨lv,xs,heq,hrow,hxl,hrep⟩:=hq
 injection heq with heq
 subst heq
 rw [hlf] at hrow
 have rx:Mg xs xs=true:=Hy hrep
 have he:bR names CF q f=eqF names (thT names CF q.async q.e) (fun f=>(Ty1 names CF q.e f).2) lf f:=by
  unfold bR; rw [hlf]
 rw [he]
 refine eq_w lv q.async xs hxl lf hrow rx ?_ S f hc
 intro S f hc
 have hT:=ty1_w (s:=s) (m:=m) (g:=g) (names:=names) q.e hs
 generalize q.e=e at hs hrep hT ⊢
 by_cases hk:Iu e=13
 ·cases hs with
  | leaf e h=>cases h <;> cases hk
  | less pos n off kids h hl=>cases hk
  | await pos n name off kids h hl=>cases hk
  | call pos n name off kids h hl v hv hn dd ho =>
   have:=uO (mn:=⟨g,mnl⟩) lv q.async xs pos n name off kids hrep hv hn dd ho hT S f hc
   have e1:thT names CF q.async (.mk 13 pos n name off kids) f=(dd.bool,dd.fut || q.async):=by
    show ((wI (CF name).outs).1,(wI (CF name).outs).2 || q.async)=_
    rw [ho]; rfl
   rw [e1]
   exact this
 ·have:=things_ne (mn:=⟨g,mnl⟩) lv q.async xs e hrep hk hT S f hc
  have e1:thT names CF q.async e f=(Ty1 names CF e f).1:=by
   cases e with
   | mk kind pos n name off kids=>exact if_neg hk
  rw [e1]
  exact this
def mH (CF:List UInt8 → PN) (nd:PN) (f:Nat × Nat):Nat × Nat:=eqsF (bR (Rx [] (zS nd)) CF) nd.eqs (N4 nd.outs f)
structure SimN (mnl:List (List UInt8 × AV)) (CF:List UInt8 → PN) (nd:PN):Prop where
 eqs:∀ q ∈ nd.eqs,SimQ mnl CF q
 vars:∀ d ∈ nd.vars,d.clock=[]
 size:nd.ins.length + nd.outs.length + nd.vars.length ≤ 3000
 len:nd.eqs.length ≤ 1000000
theorem ndNF_w {mnl:List (List UInt8 × AV)} {CF:List UInt8 → PN} (nd:PN) (h:SimN mnl CF nd):NodeT mnl (mH CF) nd:=by
 intro s m g v S f hv hc
 have:=h.size
 exact node_w hv h.vars (EF:=bR (Rx [] (zS nd)) CF) (fun q hq=>eqEF_w q (h.eqs q hq)) (by omega) (by omega) h.len S f hc
theorem check_sim {v:AV} {l:List PN} {tok off:Nat} {es:List AV} (hv:v=.sl tok off 6 es) (hes:NodeRows es l) (hl:l.length ≤ 1000000) {CF:List UInt8 → PN} (hN:∀ nd ∈ l,SimN (Rw [] es l) CF nd) (S:St):WC E9 29 [v] S (fun r=>∃ S',r=.ret (.agg (Dg (R2 (mH CF) 0 l (0,0)).1 (R2 (mH CF) 0 l (0,0)).2)) S') :=
 check_w hv hes hl (fun nd hn=>ndNF_w nd (hN nd hn)) (fun nd hn=>(hN nd hn).size) S
def Rz (f:Nat × Nat):Bool:=decide (f.2=0)
theorem Qm (w:Bool) (p e:Nat) (he:0 < e) (f:Nat × Nat):Rz (Jm w p e f)=(Rz f && !w):=by
 obtain ⟨a,c⟩:=f
 unfold Jm Rz
 cases w with
 | false=>simp
 | true =>
  cases c with
  | zero =>
   have:¬ e=0:=by omega
   simp [this]
  | succ n=>simp
def FZ (f:Nat × Nat):Prop:=f.2=0 → f.1=0
theorem FZ.tell {f:Nat × Nat} (h:FZ f) (w:Bool) (p e:Nat) (he:0 < e):FZ (Jm w p e f):=by
 unfold Jm
 split
 ·intro h2; have:e=0:=h2; omega
 ·exact h
theorem bK {names:List (List UInt8 × (Bool × Bool))} (t:Bool × Bool):∀ (l:List PE) (f:Nat × Nat),FZ f → FZ (Sk (Ty0 names) t l f)
 | [],f,h=>h
 | e :: l,f,h=>by
  show FZ (Sk (Ty0 names) t l (Jm _ (Yv e) 7 (Ty0 names e f).2))
  refine bK t l _ (FZ.tell ?_ _ _ _ (by decide))
  cases e with
  | mk kind pos n name off kids =>
   simp only [Ty0]
   split
   ·exact h
   ·split
    ·exact h.tell _ _ _ (by decide)
    ·exact h
theorem fz_hand {names:List (List UInt8 × (Bool × Bool))}:∀ (l:List PE) (r:List PD) (f:Nat × Nat),FZ f → FZ (jY names l r f)
 | [],r,f,h=>by cases r <;> exact h
 | e :: l,[],f,h=>h
 | e :: l,d :: r,f,h=>fz_hand l r _ (h.tell _ _ _ (by decide))
theorem kB:∀ (l:List PD) (f:Nat × Nat),FZ f → FZ (N4 l f)
 | [],f,h=>h
 | d :: l,f,h=>kB l _ (h.tell _ _ _ (by decide))
theorem fz_ty1 {names:List (List UInt8 × (Bool × Bool))} {CF:List UInt8 → PN} (e:PE) (f:Nat × Nat) (h:FZ f):FZ (Ty1 names CF e f).2:=by
 cases e with
 | mk kind pos n name off kids =>
  simp only [Ty1]
  split
  ·exact bK _ _ _ h
  ·split
   ·unfold tZ
    exact bK _ _ _ ((h.tell _ _ _ (by decide)).tell _ _ _ (by decide))
   ·split
    ·exact fz_hand _ _ _ h
    ·simp only [Ty0]
     split
     ·exact h
     ·split
      ·exact h.tell _ _ _ (by decide)
      ·exact h
theorem fz_eqs {names:List (List UInt8 × (Bool × Bool))} {CF:List UInt8 → PN}:∀ (l:List PQ) (f:Nat × Nat),FZ f → FZ (eqsF (bR names CF) l f)
 | [],f,h=>h
 | q :: l,f,h=>by
  refine fz_eqs l _ ?_
  unfold bR
  split
  ·exact (fz_ty1 q.e f h).tell _ _ _ (by decide)
  ·exact h
theorem yI {CF:List UInt8 → PN}:∀ (l:List PN) (i:Nat) (f:Nat × Nat),FZ f → FZ (R2 (mH CF) i l f)
 | [],i,f,h=>h
 | nd :: l,i,f,h=>by
  refine yI l (i + 1) _ ?_
  refine fz_eqs _ _ (kB _ _ ?_)
  split
  ·exact kB _ _ h
  ·exact h
theorem fz_test {f:Nat × Nat} (h:FZ f):((((f.1:Int) == 0) && (((f.2:Int) == 0) && true)))=Rz f:=by
 obtain ⟨a,e⟩:=f
 unfold Rz
 cases e with
 | zero =>
  have:a=0:=h rfl
  subst this
  rfl
 | succ n =>
  have e1:(((n + 1:Nat):Int) == 0)=false:=by rw [beq_eq_false_iff_ne]; omega
  show (((a:Int) == 0) && ((((n + 1:Nat):Int) == 0) && true))=decide (n + 1=0)
  rw [e1]
  simp
theorem Wt {α β:Type} {R:α → β → Prop} {l:List β} (h:Each2 R [] l):l=[]:=by cases h; rfl
theorem kQ {α β:Type} {R:α → β → Prop} {a:α} {r:List α} {l:List β} (h:Each2 R (a :: r) l):∃ b m,l=b :: m ∧ R a b ∧ Each2 R r m:=by
 cases h with
 | cons _ b _ m h h2=>exact ⟨b,m,rfl,h,h2⟩
theorem Qn {α β:Type} {R:α → β → Prop} {a:α} {l:List β} (h:Each2 R [a] l):∃ b,l=[b] ∧ R a b:=by
 obtain ⟨b,m,rfl,h1,h2⟩:=kQ h
 obtain rfl:=Wt h2
 exact ⟨b,rfl,h1⟩
theorem T6 {l:List PE} (h:LikeL [] l):l=[]:=by cases h; rfl
theorem Vi {a:PE} {r l:List PE} (h:LikeL (a :: r) l):∃ b m,l=b :: m ∧ LikeE a b ∧ LikeL r m:=by
 cases h with
 | cons _ b _ m h h2=>exact ⟨b,m,rfl,h,h2⟩
theorem Sm {kind pos:Nat} {n:Int} {name:List UInt8} {off:Bool} {kids:List PE} {e:PE} (h:LikeE (.mk kind pos n name off kids) e):∃ pos' kids',e=.mk kind pos' n name off kids' ∧ LikeL kids kids':=by
 cases h with
 | mk _ _ pos' _ _ _ _ kids' hk=>exact ⟨pos',kids',rfl,hk⟩
theorem kF {names:List (List UInt8 × (Bool × Bool))} (t:Bool × Bool) (e:PE) (l:List PE) (f:Nat × Nat):Sk (Ty0 names) t (e :: l) f=Sk (Ty0 names) t l (Jm (!(((Ty0 names e f).1.1 == t.1) && ((Ty0 names e f).1.2 == t.2))) (Yv e) 7 (Ty0 names e f).2):=rfl
theorem oR (names:List (List UInt8 × (Bool × Bool))) (t:Bool):∀ (vals:List Bool) (kids:List PE),LikeL (vals.map Pi) kids → kids.length=vals.length ∧ (∀ e ∈ kids,LeafE e) ∧ ∀ f,Rz (Sk (Ty0 names) (t,false) kids f)=(Rz f && vals.all fun b=>b == t)
 | [],kids,h=>by
  obtain rfl:=T6 h
  exact ⟨rfl,(fun e he=>absurd he List.not_mem_nil),fun f=>by simp [Sk]⟩
 | b :: l,kids,h=>by
  obtain ⟨e,m,rfl,h1,h2⟩:=Vi (a:=Pi b) (r:=l.map Pi) h
  obtain ⟨h3,h4,h5⟩:=oR names t l m h2
  cases b
  ·obtain ⟨p',k',rfl,hk⟩:=Sm (kind:=1) (pos:=0) (n:=7) (name:=[]) (off:=false) (kids:=[]) h1
   refine ⟨by simp [h3],fun e he=>?_,fun f=>?_⟩
   ·rcases List.mem_cons.1 he with rfl | he
    ·exact .num _ _ _ _ _
    ·exact h4 e he
   ·rw [kF,h5]
    show (Rz (Jm (!((false == t) && (false == false))) p' 7 f) && _)=_
    rw [Qm _ _ _ (by decide),List.all_cons]
    cases t <;> simp
  ·obtain ⟨p',k',rfl,hk⟩:=Sm (kind:=2) (pos:=0) (n:=1) (name:=[]) (off:=false) (kids:=[]) h1
   refine ⟨by simp [h3],fun e he=>?_,fun f=>?_⟩
   ·rcases List.mem_cons.1 he with rfl | he
    ·exact .tru _ _ _ _ _
    ·exact h4 e he
   ·rw [kF,h5]
    show (Rz (Jm (!((true == t) && (false == false))) p' 7 f) && _)=_
    rw [Qm _ _ _ (by decide),List.all_cons]
    cases t <;> simp
theorem bL {names:List (List UInt8 × (Bool × Bool))} {CF:List UInt8 → PN} {q:PQ} {lf:List UInt8 × Nat} (hq:q.left=[lf]) (f:Nat × Nat):Rz (bR names CF q f)=(Rz (Ty1 names CF q.e f).2 && (((I8 names lf.1).1 == (thT names CF q.async q.e f).1) && ((I8 names lf.1).2 == (thT names CF q.async q.e f).2))):=by
 unfold bR
 rw [hq]
 show Rz (eqF names _ _ lf f)=_
 unfold eqF
 rw [Qm _ _ _ (by decide),Bool.not_not]
theorem sE {es:List AV} {f g:PN} (h:NodeRows es [f,g]):∃ v w,es=[v,w] ∧ Kg v f ∧ Kg w g:=by
 cases h with
 | cons a _ r _ h1 h2 =>
  cases h2 with
  | cons b _ r _ h3 h4 =>
   cases h4
   exact ⟨a,b,rfl,h1,h3⟩
theorem pO {α β:Type} {R:α → β → Prop} {a c:α} {l:List β} (h:Each2 R [a,c] l):∃ b d,l=[b,d] ∧ R a b ∧ R c d:=by
 obtain ⟨b,m,rfl,h1,h2⟩:=kQ h
 obtain ⟨d,rfl,h3⟩:=Qn h2
 exact ⟨b,d,rfl,h1,h3⟩
theorem jN {n c:List UInt8} {p:Nat} {b f o:Bool} {d:PD} (h:Np ⟨n,p,b,f,c,o⟩ d):∃ p',d=⟨n,p',b,f,c,o⟩:=by
 obtain ⟨n',p',b',f',c',o'⟩:=d
 obtain ⟨h1,h2,h3,h4,h5⟩:=h
 simp only at h1 h2 h3 h4 h5
 subst h1; subst h2; subst h3; subst h4; subst h5
 exact ⟨p',rfl⟩
theorem bC {n:List UInt8} {p:Nat} {ay:Bool} {e:PE} {q:PQ} (h:Xf ⟨[(n,p)],ay,e⟩ q):∃ p' e',q=⟨[(n,p')],ay,e'⟩ ∧ LikeE e e':=by
 obtain ⟨l,as',e'⟩:=q
 obtain ⟨h1,h2,h3⟩:=h
 simp only at h1 h2 h3
 obtain ⟨⟨n',p'⟩,rfl,h4⟩:=Qn h1
 have h4:n=n':=h4
 subst h4; subst h2
 exact ⟨p',e',rfl,h3⟩
theorem xE {n:List UInt8} {p:Nat} {i o v:List PD} {q:List PQ} {f:PN} (h:Nn ⟨n,p,i,o,v,q⟩ f):∃ p' i' o' v' q',f=⟨n,p',i',o',v',q'⟩ ∧ Each2 Np i i' ∧ Each2 Np o o' ∧ Each2 Np v v' ∧ Each2 Xf q q':=by
 obtain ⟨n',p',i',o',v',q'⟩:=f
 obtain ⟨h1,h2,h3,h4,h5⟩:=h
 simp only at h1 h2 h3 h4 h5
 subst h1
 exact ⟨p',i',o',v',q',rfl,h2,h3,h4,h5⟩
theorem like_fAw {future y:Bool} {vals:List Bool} {f:PN} (h:Nn (fAw future y vals) f):∃ fp yp up lp1 p1 lp2 p2 ks2,f=⟨[102],fp,[],[⟨[121],yp,y,false,[],false⟩],[⟨[117],up,future,true,[],false⟩],[⟨[([117],lp1)],true,.mk 13 p1 0 [103] false []⟩,⟨[([121],lp2)],false,.mk 14 p2 0 [117] false ks2⟩]⟩ ∧ LikeL (vals.map Pi) ks2:=by
 obtain ⟨fp,i,o,v,q,rfl,h1,h2,h3,h4⟩:=xE h
 clear h
 obtain rfl:=Wt h1
 obtain ⟨d,rfl,h5⟩:=Qn h2
 obtain ⟨yp,rfl⟩:=jN h5
 obtain ⟨d,rfl,h6⟩:=Qn h3
 obtain ⟨up,rfl⟩:=jN h6
 obtain ⟨q1,q2,rfl,h7,h8⟩:=pO h4
 obtain ⟨lp1,e1,rfl,h9⟩:=bC h7
 obtain ⟨lp2,e2,rfl,h10⟩:=bC h8
 clear h1 h2 h3 h4 h5 h6 h7 h8
 obtain ⟨p1,ks1,rfl,n1⟩:=Sm h9
 obtain rfl:=T6 n1
 obtain ⟨p2,ks2,rfl,n2⟩:=Sm h10
 exact ⟨fp,yp,up,lp1,p1,lp2,p2,ks2,rfl,n2⟩
theorem xD {n:Int} {e:PE} (h:LikeE (Tz n) e):∃ p,e=.mk 1 p n [] false []:=by
 obtain ⟨p,ks,rfl,h1⟩:=Sm (kind:=1) (pos:=0) (n:=n) (name:=[]) (off:=false) (kids:=[]) h
 obtain rfl:=T6 h1
 exact ⟨p,rfl⟩
theorem like_gAw {future:Bool} {g:PN} (h:Nn (gAw future) g):∃ gp xp lp3 p3 p4 p5,g=⟨[103],gp,[],[⟨[120],xp,future,false,[],false⟩],[],[⟨[([120],lp3)],false,.mk 6 p3 0 [60] false [.mk 1 p4 0 [] false [],.mk 1 p5 1 [] false []]⟩]⟩:=by
 obtain ⟨gp,i,o,v,q,rfl,h1,h2,h3,h4⟩:=xE h
 clear h
 obtain rfl:=Wt h1
 obtain ⟨d,rfl,h5⟩:=Qn h2
 obtain ⟨xp,rfl⟩:=jN h5
 obtain rfl:=Wt h3
 obtain ⟨q1,rfl,h7⟩:=Qn h4
 obtain ⟨lp3,e1,rfl,h9⟩:=bC h7
 clear h1 h2 h3 h4 h5 h7
 obtain ⟨p3,ks3,rfl,n3⟩:=Sm h9
 obtain ⟨x1,r1,rfl,o1,o2⟩:=Vi n3
 obtain ⟨x2,r2,rfl,o3,o4⟩:=Vi o2
 obtain rfl:=T6 o4
 obtain ⟨p4,rfl⟩:=xD o1
 obtain ⟨p5,rfl⟩:=xD o3
 exact ⟨gp,xp,lp3,p3,p4,p5,rfl⟩
theorem checkAw (future y:Bool) (vals:List Bool) (h10:vals.length ≤ 10):CheckAw future y vals:=by
 intro ms v S hl hp
 obtain ⟨f,g,rfl,hf,hg⟩:=pO hl
 obtain ⟨tok,off,es,hv,hes⟩:=hp
 obtain ⟨fp,yp,up,lp1,p1,lp2,p2,ks2,rfl,n2⟩:=like_fAw hf
 obtain ⟨gp,xp,lp3,p3,p4,p5,rfl⟩:=like_gAw hg
 clear hf hg hl
 obtain ⟨va,wa,rfl,hva,hwa⟩:=sE hes
 generalize hG:(⟨[103],gp,[],[⟨[120],xp,future,false,[],false⟩],[],[⟨[([120],lp3)],false,.mk 6 p3 0 [60] false [.mk 1 p4 0 [] false [],.mk 1 p5 1 [] false []]⟩]⟩:PN)=G at hwa hes
 have hGo:G.outs=[⟨[120],xp,future,false,[],false⟩]:=by rw [← hG]
 have hGi:G.ins=[]:=by rw [← hG]
 have hlv:=fun names t=>oR names t vals ks2 n2
 have hget:Ub (Rw [] [va,wa] [⟨[102],fp,[],[⟨[121],yp,y,false,[],false⟩],[⟨[117],up,future,true,[],false⟩],[⟨[([117],lp1)],true,.mk 13 p1 0 [103] false []⟩,⟨[([121],lp2)],false,.mk 14 p2 0 [117] false ks2⟩]⟩,G]) [103]=some wa:=by
  rw [← hG]; rfl
 generalize hF:(⟨[102],fp,[],[⟨[121],yp,y,false,[],false⟩],[⟨[117],up,future,true,[],false⟩],[⟨[([117],lp1)],true,.mk 13 p1 0 [103] false []⟩,⟨[([121],lp2)],false,.mk 14 p2 0 [117] false ks2⟩]⟩:PN)=F at hva hes hget
 have hsim:∀ nd ∈ [F,G],SimN (Rw [] [va,wa] [F,G]) (fun _=>G) nd:=by
  intro nd hnd
  rcases List.mem_cons.1 hnd with rfl | hnd
  ·rw [← hF] at hget ⊢
   refine ⟨fun q hq=>?_,fun d hd=>?_,by show 0 + 1 + 1 ≤ 3000; decide,by show 2 ≤ 1000000; decide⟩
   ·rcases List.mem_cons.1 hq with rfl | hq
    ·exact ⟨⟨_,rfl⟩,.call _ _ _ _ _ (fun e he=>absurd he List.not_mem_nil) (by decide) wa hget hwa _ hGo⟩
    ·obtain rfl:=List.mem_singleton.1 hq
     exact ⟨⟨_,rfl⟩,.await _ _ _ _ _ (hlv [] false).2.1 (by rw [(hlv [] false).1]; omega)⟩
   ·obtain rfl:=List.mem_singleton.1 hd
    rfl
  ·obtain rfl:=List.mem_singleton.1 hnd
   refine ⟨fun q hq=>?_,fun d hd=>?_,by rw [← hG]; show 0 + 1 + 0 ≤ 3000; decide,by rw [← hG]; show 1 ≤ 1000000; decide⟩
   ·rw [← hG] at hq
    obtain rfl:=List.mem_singleton.1 hq
    refine ⟨⟨_,rfl⟩,.less _ _ _ _ (fun e he=>?_) (by show 2 ≤ 1000; decide)⟩
    simp only [List.mem_cons,List.not_mem_nil,or_false] at he
    rcases he with rfl | rfl <;> exact .num _ _ _ _ _
   ·rw [← hG] at hd
    exact absurd hd List.not_mem_nil
 refine WC.mono (check_sim hv hes (by show 2 ≤ 1000000; decide) hsim S) ?_
 rintro _ ⟨S',rfl⟩
 refine ⟨_,_,S',rfl,?_⟩
 rw [fz_test (yI _ _ _ (fun _=>rfl))]
 show Rz (mH (fun _=>G) G (mH (fun _=>G) F (N4 F.ins (0,0))))=_
 have hFi:N4 F.ins (0,0)=(0,0):=by rw [← hF]; rfl
 rw [hFi]
 have hFf:Rz (mH (fun _=>G) F (0,0))=Rl future (future == y && decide (vals.length ≤ 8)) vals:=by
  have e0:mH (fun _=>G) F (0,0)=bR [([121],(y,false)),([117],(future,true))] (fun _=>G) ⟨[([121],lp2)],false,.mk 14 p2 0 [117] false ks2⟩ (bR [([121],(y,false)),([117],(future,true))] (fun _=>G) ⟨[([117],lp1)],true,.mk 13 p1 0 [103] false []⟩ (0,0)):=by rw [← hF]; rfl
  rw [e0,bL (lf:=([121],lp2)) rfl]
  generalize hf0:bR [([121],(y,false)),([117],(future,true))] (fun _=>G) ⟨[([117],lp1)],true,.mk 13 p1 0 [103] false []⟩ (0,0)=f0
  have hfine0:Rz f0=true:=by
   rw [← hf0,bL (lf:=([117],lp1)) rfl]
   have t1:thT [([121],(y,false)),([117],(future,true))] (fun _=>G) true (.mk 13 p1 0 [103] false []) (0,0)=(future,true):=by
    show ((wI G.outs).1,(wI G.outs).2 || true)=_
    rw [hGo]; rfl
   have t2:(Ty1 [([121],(y,false)),([117],(future,true))] (fun _=>G) (.mk 13 p1 0 [103] false []) (0,0)).2=(0,0):=by
    show jY [([121],(y,false)),([117],(future,true))] [] G.ins (0,0)=_
    rw [hGi]; rfl
   have t3:I8 [([121],(y,false)),([117],(future,true))] [117]=(future,true):=rfl
   rw [t2]
   show (Rz (0,0) && (((I8 [([121],(y,false)),([117],(future,true))] [117]).1 == (thT [([121],(y,false)),([117],(future,true))] (fun _=>G) true (.mk 13 p1 0 [103] false []) (0,0)).1) && ((I8 [([121],(y,false)),([117],(future,true))] [117]).2 == (thT [([121],(y,false)),([117],(future,true))] (fun _=>G) true (.mk 13 p1 0 [103] false []) (0,0)).2)))=true
   rw [t1,t3]
   cases future <;> rfl
  have t4:(Ty1 [([121],(y,false)),([117],(future,true))] (fun _=>G) (.mk 14 p2 0 [117] false ks2) f0).2=Sk (Ty0 [([121],(y,false)),([117],(future,true))]) (future,false) ks2 (Jm (decide (ks2.length > 8)) p2 3 (Jm false p2 7 f0)):=rfl
  have t5:thT [([121],(y,false)),([117],(future,true))] (fun _=>G) false (.mk 14 p2 0 [117] false ks2) f0=(future,false):=rfl
  show (Rz (Ty1 [([121],(y,false)),([117],(future,true))] (fun _=>G) (.mk 14 p2 0 [117] false ks2) f0).2 && (((I8 [([121],(y,false)),([117],(future,true))] [121]).1 == (thT [([121],(y,false)),([117],(future,true))] (fun _=>G) false (.mk 14 p2 0 [117] false ks2) f0).1) && ((I8 [([121],(y,false)),([117],(future,true))] [121]).2 == (thT [([121],(y,false)),([117],(future,true))] (fun _=>G) false (.mk 14 p2 0 [117] false ks2) f0).2)))=_
  have t6:I8 [([121],(y,false)),([117],(future,true))] [121]=(y,false):=rfl
  rw [t4,t5,t6,(hlv _ future).2.2,Qm _ _ _ (by decide),Qm _ _ _ (by decide),hfine0,(hlv [] false).1]
  unfold Rl
  have t7:(!decide (vals.length > 8))=decide (vals.length ≤ 8):=by
   by_cases h:vals.length > 8
   ·rw [decide_eq_true h,decide_eq_false (by omega)]; rfl
   ·rw [decide_eq_false h,decide_eq_true (by omega)]; rfl
  rw [t7]
  generalize decide (vals.length ≤ 8)=a
  generalize (vals.all fun b=>b == future)=c
  cases a <;> cases c <;> cases y <;> cases future <;> rfl
 generalize mH (fun _=>G) F (0,0)=f1 at hFf ⊢
 have e0:mH (fun _=>G) G f1=bR [([120],(future,false))] (fun _=>G) ⟨[([120],lp3)],false,.mk 6 p3 0 [60] false [.mk 1 p4 0 [] false [],.mk 1 p5 1 [] false []]⟩ f1:=by rw [← hG]; rfl
 rw [e0,bL (lf:=([120],lp3)) rfl]
 show (Rz f1 && (((future == true) && (false == false))))=_
 rw [hFf]
 cases future <;> simp
theorem minC_eq (F:Operand → Value) (dst:Option Tmp) (k:Tmp) (c:Int) (ty:TypeId) (pos:String) (af:Array Edge) (gd:Option (Nat × Bool)):execOp F { dst:=dst,op:=.call { callee:=.builtin .min,args:=#[.tmp k,.const (.int .i64 c)],argTypes:=#[3,3] },type:=ty,pos:=pos,after:=af,guard:=gd }=execOp (bB (F (.tmp k)) (F (.const (.int .i64 c)))) { dst:=none,op:=.call { callee:=.builtin .min,args:=#[.tmp 0,.tmp 1],argTypes:=#[3,3] },type:=ty,pos := "", after:=#[],guard:=none }:=by kernel_rfl
def minCO (r:OR) (S:St) (x:Option AV) (c:Int):OR:=match x with
 | some (.v (.int .i64 a))=>.val (.v (.int .i64 (if c < a then c else a))) S
 | _=>r
theorem eY (r:OR) (S:St) (a c:Int):minCO r S (some (.v (.int .i64 a))) c=.val (.v (.int .i64 (if c < a then c else a))) S:=rfl
theorem Rj (f:T AV) (S:St) (dst:Option Tmp) (k:Tmp) (c:Int) (ty:TypeId) (pos:String) (af:Array Edge) (gd:Option (Nat × Bool)) :
  ground Tryz.prog G7 f S { dst:=dst,op:=.call { callee:=.builtin .min,args:=#[.tmp k,.const (.int .i64 c)],argTypes:=#[3,3] },type:=ty,pos:=pos,after:=af,guard:=gd }=minCO (minZX Tryz.prog G7 f S { dst:=dst,op:=.call { callee:=.builtin .min,args:=#[.tmp k,.const (.int .i64 c)],argTypes:=#[3,3] },type:=ty,pos:=pos,after:=af,guard:=gd }) S (f.get k) c:=by
 unfold minCO
 split
 ·rename_i a h1
  have hg1:Db G7 f (.tmp k)=some (.int .i64 a):=by unfold Db; simp only [A9,h1]; rfl
  have hg2:Db G7 f (.const (.int .i64 c))=some (.int .i64 c):=rfl
  unfold ground
  have hall:((Op.call { callee:=.builtin .min,args:=#[.tmp k,.const (.int .i64 c)],argTypes:=#[3,3] }:Op).operands.toList.all fun x=>(Db G7 f x).isSome)=true:=by
   show ([Operand.tmp k,Operand.const (.int .i64 c)].all fun x=>(Db G7 f x).isSome)=true
   simp only [List.all_cons,List.all_nil,hg1,hg2,Option.isSome_some,Bool.and_self]
  refine (if_pos hall).trans ?_
  rw [minC_eq]
  have e1:(Db G7 f (.tmp k)).getD undef=.int .i64 a:=by rw [hg1]; rfl
  have e2:(Db G7 f (.const (.int .i64 c))).getD undef=.int .i64 c:=by rw [hg2]; rfl
  simp only [e1,e2,wW]
  rfl
 ·rfl
theorem slice71 (tok off:Nat) (l:List Bool) (n:Nat) (hn:n ≤ l.length):∃ tok' off',Qx Tryz.prog 71 (.sl tok off 1 (l.map Td)) none (some (.v (.int .i64 (n:Int))))=some (.sl tok' off' 1 ((l.take n).map Td)):=by
 unfold Qx
 simp only [el71,sz4b,Jh,List.length_map,Int.natCast_nonneg,Aa,Int.toNat_natCast,Nat.zero_le,hn,Ap,BEq.rfl,Bool.and_self]
 by_cases h0:n=0
 ·subst h0
  exact ⟨0,0,by simp⟩
 ·have e0:((0:Nat) == n)=false:=by rw [beq_eq_false_iff_ne]; omega
  rw [e0]
  by_cases h1:n=l.length
  ·have e1:(n == l.length)=true:=by rw [beq_iff_eq]; exact h1
   rw [e1]
   refine ⟨tok,off + 0 * 1,?_⟩
   rw [List.take_of_length_le (show l.length ≤ n by omega)]
   simp
  ·have e1:(n == l.length)=false:=by rw [beq_eq_false_iff_ne]; omega
   rw [e1]
   refine ⟨0,0,?_⟩
   simp [List.map_take]
theorem slice71n:Qx Tryz.prog 71 .nils none (some (.v (.int .i64 0)))=some .nils:=by
 simp [Qx,el71,sz4b,Jh]
def R4:Code:=match Tryz.f7.body with
 | some (.seq _ (.seq _ c))=>c
 | _=>.skip
def awR3:Code:=match R4 with | .seq c _=>c | _=>.skip
def awR4:Code:=match R4 with | .seq _ (.seq c _)=>c | _=>.skip
def awR5:Code:=match R4 with | .seq _ (.seq _ (.seq (.seq c _) _))=>c | _=>.skip
theorem awRest_is:R4=.seq awR3 (.seq awR4 (.seq (.seq awR5 (.block 0 (.loop Oe))) (.seq awT1 awT2))):=by kernel_rfl
theorem valsT_ne (b:Bool) (l:List Bool):La 0 (b :: l) ≠ []:=by
 show ((if (0:Nat)=0 then ([32,97,102,116,101,114,32,40]:List UInt8) else [44,32]) ++ _) ≠ []
 simp
theorem valsT_len2 (vals:List Bool) (h:vals.length ≤ 10):(La 0 vals).length ≤ 200:=by
 have:=R6 vals 0
 omega
theorem aw_tail (future y:Bool) (vals:List Bool) (h10:vals.length ≤ 10) (t:T AV) (S:St) (h0:t.get 0=some (.v (.bool future))) (h1:t.get 1=some (.v (.bool y))) (h7:t.get 7=some (Cl (La 0 vals))) (h8:t.get 8=some (.v (.bool (Rl future (future == y && decide (vals.length ≤ 8)) vals)))):W E9 90 (.seq awT1 awT2) ⟨t,[]⟩ S EndsAw:=by
 have next:=fun t S h0 h1 h7 h8=>awT2_w future y vals h10 (checkAw future y vals h10) t S h0 h1 h7 h8
 cases vals with
 | nil =>
  have e0:(!decide (([]:List UInt8)=[]))=false:=rfl
  have h7:t.get 7=some (.v (.string ⟨⟨[]⟩⟩)):=h7
  simp only [Bp,A6,Bk,Bo,A4,Bh,A7,Be,Bd,Cg,A5,Bb,A9,A0,ofOpt,Ba,Nat.reduceLT,Nat.reduceEqDiff,Aa,Ab,Ac,Am,Ap,Ar,E3,O5,Cz,awT1,cC,Tryz.f7,h7,Zo]
  refine next _ _ ?_ ?_ ?_ ?_
  ·simp only [A0,A1,Nat.reduceEqDiff,Aa,Ab,h0]
  ·simp only [A0,A1,Nat.reduceEqDiff,Aa,Ab,h1]
  ·simp only [A0,A1,Nat.reduceEqDiff,Aa,Ab,h7]; rfl
  ·simp only [A0,A1,Nat.reduceEqDiff,Aa,Ab,h8]
 | cons b l =>
  have e0:(!decide (La 0 (b :: l)=[]))=true:=by rw [decide_eq_false (valsT_ne b l)]; rfl
  have hl:=valsT_len2 (b :: l) h10
  have ea:awT (b :: l)=La 0 (b :: l) ++ [41]:=if_neg (by simp)
  rw [ea] at next
  generalize La 0 (b :: l)=X at h7 e0 hl next
  have h7:t.get 7=some (.v (.string ⟨⟨X⟩⟩)):=h7
  have c1:=C3 X [41] (by simp only [List.length_cons,List.length_nil]; omega)
  simp only [Bp,A6,Bk,Bo,A4,Bh,A7,Be,Bd,Cf,A5,Bb,A9,A0,ofOpt,Ba,Nat.reduceLT,Nat.reduceEqDiff,Aa,Ab,Ac,Am,E3,Cz,awT1,cC,Tryz.f7,h7,Zo,e0,c1]
  refine next _ _ ?_ ?_ ?_ ?_
  ·simp only [A0,A1,Nat.reduceEqDiff,Aa,Ab,h0]
  ·simp only [A0,A1,Nat.reduceEqDiff,Aa,Ab,h1]
  ·simp only [A0,A1,Nat.reduceEqDiff,Aa,Ab]; rfl
  ·simp only [A0,A1,Nat.reduceEqDiff,Aa,Ab,h8]
def isBools (v:AV) (l:List Bool):Prop:=(v=.nils ∧ l=[]) ∨ ∃ tok off,v=.sl tok off 1 (l.map Td)
theorem aw_rest (future y:Bool) (na:AV) (all:List Bool) (hn:isBools na all) (t:T AV) (S:St) (h0:t.get 0=some (.v (.bool future))) (h1:t.get 1=some (.v (.bool y))) (h2:t.get 2=some na):W E9 90 R4 ⟨t,[]⟩ S EndsAw:=by
 rw [awRest_is]
 generalize hN:min 10 all.length=N
 have hlenN:(all.take N).length=N:=by rw [List.length_take]; omega
 generalize hv:all.take N=vals at hlenN
 have h10:vals.length ≤ 10:=by omega
 have hmin:(if (10:Int) < (all.length:Int) then (10:Int) else (all.length:Int))=(N:Int):=by
  split <;> omega
 have hle:decide ((vals.length:Int) ≤ 8)=decide (vals.length ≤ 8):=by
  by_cases h:vals.length ≤ 8
  ·rw [decide_eq_true h,decide_eq_true (by omega)]
  ·rw [decide_eq_false h,decide_eq_false (by omega)]
 have fin:=fun t S h0 h1 h7 h8=>aw_tail future y vals h10 t S h0 h1 h7 h8
 rcases hn with ⟨rfl,rfl⟩ | ⟨tok,off,rfl⟩
 ·have hN0:N=0:=by rw [← hN]; rfl
  subst hN0
  have hv0:vals=[]:=by rw [← hv]; rfl
  subst hv0
  have hl0:F5 Tryz.prog S 71 .nils=some 0:=by simp [F5,un71]
  have hmin:(if (10:Int) < ((0:Nat):Int) then (10:Int) else ((0:Nat):Int))=0:=rfl
  have hs:=slice71n
  have h08:decide (((0:Nat):Int) ≤ 8)=true:=rfl
  have hlt:¬ ((0:Int) < ((0:Nat):Int)):=by decide
  cases hfy:(future == y)
  ·simp only [A6,Bk,Bs,Dv,A4,Bh,A7,Cp,Be,Bd,A5,Bb,A9,A0,Bn,B4,ofOpt,Ba,Bt,Nat.reduceLT,Nat.reduceEqDiff,Aa,Ab,Ac,Af,Ag,Ah,Ai,Am,Ar,Av,Option.toList,Ay,Az,E3,O5,awR3,awR4,awR5,R4,Tryz.f7,h0,h1,h2,hl0,Rj,eY,hmin,hs,L3,Mm,Lb,Od,hfy]
   refine D0 (Ds ?_)
   simp only [Bz,Bp,A6,Bk,Bo,Bs,C9,A4,C0,Dw,Bh,A7,Be,Bd,Cg,A5,Bb,A9,A0,ofOpt,Bt,C6,Nat.reduceLT,Nat.reduceEqDiff,Aa,Ab,Ac,Am,Aq,E3,Oe,Tryz.f7,hlt]
   refine fin _ _ ?_ ?_ ?_ ?_
   ·simp only [A0,A1,Nat.reduceEqDiff,Aa,Ab,h0]
   ·simp only [A0,A1,Nat.reduceEqDiff,Aa,Ab,h1]
   ·simp only [A0,A1,Nat.reduceEqDiff,Aa,Ab]; rfl
   ·simp only [A0,A1,Nat.reduceEqDiff,Aa,Ab]; rw [hfy]; rfl
  ·simp only [A6,Bk,Bs,Dv,A4,Bh,A7,Be,Bd,A5,Bb,A9,A0,Bn,B4,ofOpt,Ba,Bt,Er,Nat.reduceLT,Nat.reduceEqDiff,Aa,Ab,Ac,Af,Ag,Ah,Ai,Al,Am,Option.toList,Ay,Az,E3,O5,awR3,awR4,awR5,R4,Tryz.f7,h0,h1,h2,hl0,Rj,eY,hmin,hs,L3,Mm,Lb,Od,hfy,h08]
   refine D0 (Ds ?_)
   simp only [Bz,Bp,A6,Bk,Bo,Bs,C9,A4,C0,Dw,Bh,A7,Be,Bd,Cg,A5,Bb,A9,A0,ofOpt,Bt,C6,Nat.reduceLT,Nat.reduceEqDiff,Aa,Ab,Ac,Am,Aq,E3,Oe,Tryz.f7,hlt]
   refine fin _ _ ?_ ?_ ?_ ?_
   ·simp only [A0,A1,Nat.reduceEqDiff,Aa,Ab,h0]
   ·simp only [A0,A1,Nat.reduceEqDiff,Aa,Ab,h1]
   ·simp only [A0,A1,Nat.reduceEqDiff,Aa,Ab]; rfl
   ·simp only [A0,A1,Nat.reduceEqDiff,Aa,Ab]; rw [hfy]; rfl
 ·have hl0:F5 Tryz.prog S 71 (.sl tok off 1 (all.map Td))=some all.length:=by simp [F5,un71]
  obtain ⟨tok',off',hs⟩:=slice71 tok off all N (by omega)
  rw [hv] at hs
  have hl1:F5 Tryz.prog S 71 (.sl tok' off' 1 (vals.map Td))=some vals.length:=by simp [F5,un71]
  have key:=fun fit t S h0 h1 h29 h30 h31 h7 h8=>aw_lp future y fit tok' off' vals h10 vals.length 0 t S (by omega) h0 h1 h29 h30 h31 h7 h8
  cases hfy:(future == y)
  ·simp only [A6,Bk,Bs,Dv,A4,Bh,A7,Cp,Be,Bd,A5,Bb,A9,A0,Bn,B4,ofOpt,Ba,Bt,Nat.reduceLT,Nat.reduceEqDiff,Aa,Ab,Ac,Af,Ag,Ah,Ai,Am,Ar,Av,Option.toList,Ay,Az,E3,O5,awR3,awR4,awR5,R4,Tryz.f7,h0,h1,h2,hl0,Rj,eY,hmin,hs,hl1,L3,Mm,Lb,Od,hfy]
   refine WX.mono (key false _ _ ?_ ?_ ?_ ?_ ?_ ?_ ?_) ?_
   ·simp only [A0,A1,Nat.reduceEqDiff,Aa,Ab,h0]
   ·simp only [A0,A1,Nat.reduceEqDiff,Aa,Ab,h1]
   ·simp only [A0,A1,Nat.reduceEqDiff,Aa,Ab]
   ·simp only [A0,A1,Nat.reduceEqDiff,Aa,Ab]; rfl
   ·simp only [A0,A1,Nat.reduceEqDiff,Aa,Ab]; rfl
   ·simp only [A0,A1,Nat.reduceEqDiff,Aa,Ab]; rfl
   ·simp only [A0,A1,Nat.reduceEqDiff,Aa,Ab]; rfl
   rintro _ ⟨t',S',rfl,g0,g1,g7,g8⟩
   simp only [Bk,A4,C0,Dw,Aa]
   refine fin _ _ g0 g1 g7 ?_
   rw [hfy]; exact g8
  ·simp only [A6,Bk,Bs,Dv,A4,Bh,A7,Be,Bd,A5,Bb,A9,A0,Bn,B4,ofOpt,Ba,Bt,Er,Nat.reduceLT,Nat.reduceEqDiff,Aa,Ab,Ac,Af,Ag,Ah,Ai,Al,Am,Option.toList,Ay,Az,E3,O5,awR3,awR4,awR5,R4,Tryz.f7,h0,h1,h2,hl0,Rj,eY,hmin,hs,hl1,L3,Mm,Lb,Od,hfy,hle]
   refine WX.mono (key (decide (vals.length ≤ 8)) _ _ ?_ ?_ ?_ ?_ ?_ ?_ ?_) ?_
   ·simp only [A0,A1,Nat.reduceEqDiff,Aa,Ab,h0]
   ·simp only [A0,A1,Nat.reduceEqDiff,Aa,Ab,h1]
   ·simp only [A0,A1,Nat.reduceEqDiff,Aa,Ab]
   ·simp only [A0,A1,Nat.reduceEqDiff,Aa,Ab]; rfl
   ·simp only [A0,A1,Nat.reduceEqDiff,Aa,Ab]; rfl
   ·simp only [A0,A1,Nat.reduceEqDiff,Aa,Ab]; rfl
   ·simp only [A0,A1,Nat.reduceEqDiff,Aa,Ab]; simp [Rl]
   rintro _ ⟨t',S',rfl,g0,g1,g7,g8⟩
   simp only [Bk,A4,C0,Dw,Aa]
   refine fin _ _ g0 g1 g7 ?_
   rw [hfy]; exact g8
def puI0 (args:List AV):Option AV:=match args with
 | [.v (.string s),.v (.int .i64 10),.v (.int .i64 64)]=>if s.data.toList ≠ [] ∧ s.data.toList.all W2=true ∧ Jb 0 s.data.toList < 18446744073709551616 ∧ s.size ≤ 9223372036854775806 then some (.tup [.v (.int .u64 (Jb 0 s.data.toList)),.v .nilIface]) else none
 | _=>none
def E0:Env:={ P:=Tryz.prog,G:=fun _=>none,F:=E1.F,I:=fun k=>Bool.rec (Bool.rec none (some (Uq 6)) (Nat.beq k 94)) (some (Gu puI0)) (Nat.beq k 133),M:=rowM }
theorem e0_ok:E0.Ok:=⟨fun k fn h=>Rn.fn k fn h⟩
theorem e0_mix:E0.P.follows .mixedOrders=true:=R0
theorem puI0_ok:∀ args a,puI0 args=some a → ∀ γ w (vs:List Value),VRL γ w args vs → Calls Tryz.prog 133 vs.toArray w fun e w'=>Below w.heap.size w w' ∧ ∃ v,e=.returned v ∧ ∀ γ w,VR γ w a v:=by
 intro args a h γ w vs hv
 unfold puI0 at h
 split at h
 ·rename_i s
  split at h
  ·rename_i hc
   obtain ⟨h0,h1,h2,h3⟩:=hc
   injection h with h; subst h
   obtain ⟨x,y,z,rfl,hx,hy,hz⟩:=hv.three
   cases hx; cases hy; cases hz
   refine (Tryz.strconv_ParseUint_10_at64_ok s h3 _ (wE h0 h1 h2) w).mono fun e w' he=>⟨?_,_,he.1,fun γ w=>?_⟩
   ·rcases he.2 with rfl | rfl
    ·exact .refl _ _
    ·exact Lib.bytesWorld_below _ _ _
   ·exact .tup _ _ rfl (fun k hk hk'=>by
     match k,hk with
     | 0,_=>exact .v _ rfl
     | 1,_=>exact .v _ rfl)
  ·cases h
 ·cases h
theorem e0_intr:Kx E0:=fun k g hk base w0 args S hne γ w vs hS hg hv=>by
 have hk2:(Bool.rec (Bool.rec none (some (Uq 6)) (Nat.beq k 94)) (some (Gu puI0)) (Nat.beq k 133):Option (List AV → St → R))=some g:=hk
 cases hb:Nat.beq k 133 with
 | false =>
  rw [hb] at hk2
  cases hc:Nat.beq k 94 with
  | false=>rw [hc] at hk2; cases hk2
  | true =>
   rw [hc] at hk2
   injection hk2 with hk2; subst hk2
   have:k=94:=Nat.eq_of_beq_eq_true hc
   subst this
   exact grow_I base w0 args S hne γ w vs hS hv
 | true =>
  rw [hb] at hk2
  injection hk2 with hk2; subst hk2
  have:k=133:=Nat.eq_of_beq_eq_true hb
  subst this
  exact plainI_ok (P:=Tryz.prog) (k:=133) puI0_ok base w0 args S hne γ w vs hS hv
def PowIn (w:World):Prop:=Lib.TabIs Tryz.prog w "internal/strconv.uint64pow10" .u64 Lib.pow10Tab
theorem PowIn.gr {w:World} (h:PowIn w):GR (GhW w) w gF:=by
 unfold PowIn Lib.TabIs World.var? at h
 rw [gPow6] at h
 simp only [Ai] at h
 split at h
 ·rename_i arr T fr ha
  injection h with h
  have hsz:arr.size=20:=by rw [h]; simp [Lib.pow10Tab_length]
  intro g cs hg
  unfold gF at hg
  cases hb:Nat.beq g 0 with
  | false=>rw [hb] at hg; cases hg
  | true =>
   have:g=0:=Nat.eq_of_beq_eq_true hb
   subst this
   rw [hb] at hg
   injection hg with hg; subst hg
   have hcell:∀ k,k < Wz.length → w.cell? ⟨0,0 + k,none⟩=some (arr.getD k undef):=fun k hk=>by
    rw [Sh] at hk
    rw [Nat.zero_add,K6 ha,Array.getElem?_eq_getElem (by omega)]
    simp [Array.getD,show k < arr.size by omega]
   refine ⟨.ep Wz 0 0 (fun k=>arr.getD k undef) (fun k hk=>⟨⟨World.block_lt_of_cell? w _ (hcell k hk),_,hcell k hk⟩,hcell k hk⟩) (fun x hx=>?_) (fun k hk=>?_),fun _=>⟨arr,T,fr,ha,by rw [hsz,Sh]⟩⟩
   ·unfold Wz at hx
    obtain ⟨z,_,rfl⟩:=List.mem_map.1 hx
    rfl
   ·have hk2:=hk
    rw [Sh] at hk2
    have e:arr.getD k undef=.int .u64 (Lib.pow10Tab[k]'(by rw [Lib.pow10Tab_length]; omega)):=by
     rw [h]
     simp [Array.getD,Lib.pow10Tab_length,hk2]
    have e3:Wz[k]=.v (.int .u64 (Lib.pow10Tab[k]'(by rw [Lib.pow10Tab_length]; omega))):=by simp [Wz]
    rw [e]
    have key:∀ a:AV,a=.v (.int .u64 (Lib.pow10Tab[k]'(by rw [Lib.pow10Tab_length]; omega))) → VR (GhW w) w a (.int .u64 (Lib.pow10Tab[k]'(by rw [Lib.pow10Tab_length]; omega))):=fun a h=>h ▸ .v _ rfl
    exact key _ e3
 ·cases h
theorem g7_of {w:World} (h1:RngIn w) (h2:PowIn w):GR (GhW w) w G7:=by
 intro g cs hg
 have hg':=hg
 unfold G7 at hg
 cases hb:Nat.beq g 0 with
 | true =>
  have:g=0:=Nat.eq_of_beq_eq_true hb
  subst this
  exact h2.gr 0 cs hg'
 | false =>
  rw [hb] at hg
  exact h1.gr g cs hg
theorem u9b:Tryz.prog.underlying 9=some .string:=by kernel_rfl
end Go.Ax
noncomputable section
namespace Go.Ax
open Go.RowKit Go.Proofs
set_option maxRecDepth 100000
open Go.WideShapes
theorem off_le {p:Program} {fits:TypeId → Bool}:∀ {d:Nat} {e:TypeId} {count off n:Nat},Go.rowAt p fits d e count off n=true → off ≤ count * p.cellsOf e
 | 0,e,count,off,n,h=>by simp [Go.rowAt] at h
 | d + 1,e,count,off,n,h=>by
  unfold Go.rowAt at h
  simp only at h
  split at h
  ·cases h
  ·rename_i hs
   have hp:0 < p.cellsOf e:=Nat.pos_of_ne_zero hs
   have h1:off / p.cellsOf e ≤ count ∧ (off % p.cellsOf e=0 ∨ off / p.cellsOf e < count):=by
    simp only [Bool.or_eq_true,Bool.and_eq_true,beq_iff_eq,decide_eq_true_eq] at h
    rcases h with ⟨⟨h1,h2⟩,_⟩ | ⟨h1,_⟩
    ·exact ⟨by omega,.inl h1⟩
    ·exact ⟨by omega,.inr h1⟩
   have hdm:=Nat.div_add_mod off (p.cellsOf e)
   have hml:=Nat.mod_lt off hp
   rcases h1 with ⟨h1,h2 | h2⟩
   ·rw [h2,Nat.add_zero] at hdm
    rw [← hdm,Nat.mul_comm]
    exact Nat.mul_le_mul_right _ h1
   ·have h3:(off / p.cellsOf e + 1) * p.cellsOf e ≤ count * p.cellsOf e:=Nat.mul_le_mul_right _ h2
    rw [Nat.add_mul,Nat.one_mul,Nat.mul_comm (off / p.cellsOf e)] at h3
    omega
theorem lies_le {p:Program}:∀ {d:Nat} {e:TypeId} {count off:Nat} {u:TypeId} {n:Nat},liesAt p d e count off u n=true → off ≤ count * p.cellsOf e
 | 0,e,count,off,u,n,h=>by simp [liesAt] at h
 | d + 1,e,count,off,u,n,h=>by
  unfold liesAt at h
  rw [Bool.or_eq_true] at h
  rcases h with h | h
  ·exact off_le h
  ·split at h
   ·exact lies_le h
   ·cases h
theorem has_off {P:Program} {W:World} {base:Nat} {a:Addr} {e:TypeId} {n:Nat} (h:W.has P .any base a e n):∃ b o arr T fr,a=⟨b,o,none⟩ ∧ W.heap[b]? = some (Obj.cells arr T fr) ∧ o ≤ arr.size:=by
 obtain ⟨_,hs,row,cells,h1,h2⟩:=h
 obtain ⟨b,o,spot⟩:=a
 simp only at hs
 subst hs
 simp only [World.shape?] at h1
 split at h1
 ·rename_i c el fr he
  simp only [Option.some.injEq,Prod.mk.injEq] at h1
  obtain ⟨rfl,rfl⟩:=h1
  refine ⟨b,o,c,_,fr,rfl,he,?_⟩
  have:=lies_le h2
  exact Nat.le_trans this (Nat.div_mul_le_self _ _)
 ·cases h1
theorem cell_bound {W:World} {b o:Nat} {arr:Array Value} {T:TypeId} {fr:Nat × Nat} {v:Value} (ha:W.heap[b]? = some (Obj.cells arr T fr)) (h:W.cell? ⟨b,o,none⟩=some v):o < arr.size:=by
 unfold World.cell? at h
 rw [ha] at h
 simp only [Option.isSome_none,Am,Ab] at h
 exact (Array.getElem?_eq_some_iff.1 h).1
theorem row_in {W w1:World} (hb:Below W.heap.size W w1) {b o len cap:Nat} {arr:Array Value} {T:TypeId} {fr:Nat × Nat} (ha:W.heap[b]? = some (Obj.cells arr T fr)) (hz:o + cap ≤ arr.size) (hl:len ≤ cap) (V:Nat → Value) (hsc:∀ i,aL (V i)=true)
  (hcell:∀ i,i < len → W.cell? ⟨b,o + i,none⟩=some (V i)):VR (GhW w1) w1 (.sl 0 0 1 ((List.range len).map fun i=>.v (V i))) (.slice (some ⟨b,o,none⟩) len cap):=by
 have hlt:b < W.heap.size:=(Array.getElem?_eq_some_iff.1 ha).1
 have hk:w1.heap[b]? = W.heap[b]?:=hb.block b hlt
 have hlt1:b < w1.heap.size:=Nat.lt_of_lt_of_le hlt hb.size
 have hc1:∀ i,i < len → w1.cell? ⟨b,o + i,none⟩=some (V i):=fun i hi=>by
  rw [← hcell i hi]
  unfold World.cell?
  simp only [hk]
 have hfl:∀ l:List Nat,El (l.map fun i=>AV.v (V i))=l.map fun i=>AV.v (V i):=fun l=>by
  induction l with
  | nil=>rfl
  | cons x r ih =>
   show AV.cells (AV.v (V x)) ++ El (r.map fun i=>AV.v (V i))=_
   rw [ih]; rfl
 have hmain:VR (GhW w1) w1 (.sl 0 0 1 ((List.range len).map fun i=>.v (V i))) (.slice (some ⟨b,o,none⟩) ((List.range len).map fun i=>AV.v (V i)).length cap):=by
  refine .sl 0 0 1 _ b o cap V (by omega) (fun e he=>?_) (fun x hx=>?_) (fun k hk=>?_) (fun k hk=>?_) (fun h=>absurd h (by omega)) (fun h=>absurd h (by omega)) (by simpa using hl) ⟨arr,T,fr,by rw [hk]; exact ha,by simpa using hz⟩
  ·obtain ⟨s,_,rfl⟩:=List.mem_map.1 he; rfl
  ·rw [hfl] at hx; obtain ⟨s,_,rfl⟩:=List.mem_map.1 hx; rfl
  ·rw [hfl] at hk
   have hk2:k < len:=by simpa using hk
   exact ⟨⟨hlt1,_,hc1 k hk2⟩,hc1 k hk2⟩
  ·have hk2:k < len:=by rw [hfl] at hk; simpa using hk
   have e1:(El ((List.range len).map fun i=>AV.v (V i)))[k]=AV.v (V k):=by
    simp only [hfl,List.getElem_map,List.getElem_range]
   rw [e1]
   exact .v _ (hsc k)
 simpa using hmain
def BoolsIn (W:World) (v:Value):Prop:=∃ (l:List Bool) (na:AV),isBools na l ∧ ∀ w1,Below W.heap.size W w1 → VR (GhW w1) w1 na v
theorem c4b:Tryz.prog.cellsOf 4=1:=by kernel_rfl
theorem bools71_in {H:Type} {enc:TypeId × Value → H} {W:World} {base fuel:Nat} {a0:Option Addr} {len cap:Nat} {x:DataW H × List MemPlace} (hok:Value.okWide Tryz.prog W .any base 71 (.slice a0 len cap))
  (hf:DataW.trod enc Tryz.prog W 0 (fun _=>true) true fuel 71 (Value.slice a0 len cap).cells.toList=some x):BoolsIn W (.slice a0 len cap):=by
 rcases Go.Deep.open_bools un71 Tryz.underlying4 c4b hf with ⟨hcs,hx⟩ | ⟨a,len',cap',V,hcs,_,hl,hm,hx,hcell⟩
 ·simp [Value.cells] at hcs
  obtain ⟨rfl,rfl,rfl⟩:=hcs
  exact ⟨[],.nils,.inl ⟨rfl,rfl⟩,fun _ _=>.nils⟩
 ·simp [Value.cells] at hcs
  obtain ⟨rfl,rfl,rfl⟩:=hcs
  simp only [Value.okWide,un71,Cell.okWide,Cell.ok] at hok
  obtain ⟨b,o,arr,T,fr,rfl,ha,ho⟩:=has_off hok.2.2
  have hc:∀ i,i < cap → W.cell? ⟨b,o + i,none⟩=some (.bool (V i)):=fun i hi=>by rw [← Go.WideShapes.add_plain]; exact hcell i hi
  have hsz:o + cap ≤ arr.size:=by
   by_cases h0:cap=0
   ·omega
   ·have:=cell_bound ha (hc (cap - 1) (by omega)); omega
  refine ⟨(List.range len).map V,.sl 0 0 1 ((List.range len).map fun i=>.v (.bool (V i))),.inr ⟨0,0,by simp [Td,Function.comp_def]⟩,fun w1 hb=>row_in hb ha hsz hl (fun i=>.bool (V i)) (fun _=>rfl) (fun i hi=>hc i (by omega))⟩
theorem aw_awake (w:World):Calls Tryz.prog 26 #[] w fun e w'=>e=.returned (.bool true) ∧ Below w.heap.size w w' :=
 dP (E:=E0) e0_ok e0_intr e0_mix rfl (m:=2000) (k:=26) (args:=[]) (by kernel_rfl) (by kernel_rfl) (vs:=[]) ⟨rfl,fun k hk=>by cases hk⟩
theorem aw_any (x0 x1:Bool) (v2:Value) (w:World) (h2:BoolsIn w v2) (hr:RngIn w) (hp:PowIn w):Calls Tryz.prog 7 #[.bool x0,.bool x1,v2] w fun x w'=>x=.returned (.bool true) ∧ Below w.heap.size w w':=by
 have HG:=Lib.hid (g7_of hr hp); clear hr hp
 obtain ⟨all,na,hn,hna⟩:=h2
 go_enter Tryz.func7,Tryz.ntmps7
 refine wp_seq_k fun K0 h0=>?_
 have H0:=Lib.hid h0; clear h0
 go_wp2_with fail
 refine H0.out _ _ ?_
 clear H0 K0
 refine wp_seq_k fun K1 h1=>?_
 have H1:=Lib.hid h1; clear h1
 go_wp2_with fail
 refine (aw_awake w).mono ?_
 rintro x w1 ⟨rfl,hb1⟩
 go_wp2_with fail
 refine H1.out _ _ ?_
 clear H1 K1
 have hg:GR (GhW w1) w1 G7:=HG.out.mono (Vt hb1)
 have hv:=hna w1 hb1
 have hW:=aw_rest x0 x1 na all hn (((T.leaf.set 0 (some (.v (.bool x0)))).set 1 (some (.v (.bool x1)))).set 2 (some na)) St0 (by rw [T.get_set,if_neg (by decide),T.get_set,if_neg (by decide),T.get_set,if_pos rfl]) (by rw [T.get_set,if_neg (by decide),T.get_set,if_pos rfl]) (by rw [T.get_set,if_pos rfl])
 refine codeWG (c:=R4) (E:=E9) e9_ok e9_intr e9_mix (t:=6) hW (SR.whole w1) hg ?_ rfl rfl ?_
 ·intro t a h
  rw [T.get_set,T.get_set,T.get_set] at h
  split at h
  ·rename_i e; subst e
   injection h with h; subst h
   exact ⟨(show 2 < 90 by decide),hv⟩
  ·split at h
   ·rename_i e; subst e
    injection h with h; subst h
    exact ⟨(show 1 < 90 by decide),.v _ rfl⟩
   ·split at h
    ·rename_i e; subst e
     injection h with h; subst h
     exact ⟨(show 0 < 90 by decide),.v _ rfl⟩
    ·cases h
 intro act' w' hsz hd ht hb2
 refine ⟨hd,.bool true,?_,rfl,hb1.trans (hb2.mono hb1.size)⟩
 have h4:act'.tmps.getD 6 undef=.bool true:=by simp [Array.getD_eq_getD_getElem?,ht]
 simp [results,Tryz.f7,h4,go_sem,ht]
end Go.Ax
