/- Gs -/
import Derived.Test.YtjgknelmjdallaaGreatDoorTbG26
set_option linter.unusedVariables false
set_option linter.unusedSimpArgs false
set_option maxHeartbeats 16000000
noncomputable section
namespace Go.Ax
open Go.RowKit Go.Proofs
set_option maxRecDepth 100000
theorem fng_135:∃ fn,E9.F 135=some fn:=Option.isSome_iff_exists.1 (by kernel_rfl)
theorem fng_106:∃ fn,E9.F 106=some fn:=Option.isSome_iff_exists.1 (by kernel_rfl)
theorem idxU {t e n:Nat} (he:Ih Tryz.prog t=some (none,e)) (hs:Fm Tryz.prog e=some n) (tok off:Nat) (es:List AV) (j:Nat) (h:j < es.length):Cl Tryz.prog t (.sl tok off n es) (.v (.int .i64 (j:Int)))=some (.ep es[j].cells):=by
 have h0:(0:Int) ≤ (j:Int):=by omega
 simp [Cl,h0,he,hs,h]
theorem lepU {e n:Nat} (ha:Fq Tryz.prog e=some true) (hs:Fm Tryz.prog e=some n) (S:St) (ys:List AV) (h:ys.length=n):Ci Tryz.prog S e (.ep ys)=some (.agg ys):=by
 have e2:ys.take n=ys:=List.take_of_length_le (by omega)
 simp [Ci,Dv,ha,hs,h,e2]
theorem stU {e n:Nat} (hs:Fm Tryz.prog e=some n) {S:St} {id:Nat} {cs ys:List AV} (h:S.mem.get id=some (.box cs)) (hl:cs.length=n) (hy:ys.length=n):Dk Tryz.prog S e (.ptr id 0) (.agg ys)=some (S.put id ys):=by
 have h2:(AV.agg ys).noTup=true:=rfl
 simp [Dk,h,hs,h2,AV.cells,hl,hy,St.put,List.drop_eq_nil_of_le]
theorem ldU {e n:Nat} (ha:Fq Tryz.prog e=some true) (hs:Fm Tryz.prog e=some n) {S:St} {id:Nat} {cs:List AV} (h:S.mem.get id=some (.box cs)) (hl:cs.length=n):Ci Tryz.prog S e (.ptr id 0)=some (.agg cs):=by
 have e2:cs.take n=cs:=List.take_of_length_le (by omega)
 simp [Ci,Dv,h,ha,hs,hl,e2]
theorem Nm (S:St) (z ys:List AV):En S ((S.newBox z).put S.next ys) ∧ ((S.newBox z).put S.next ys).mem.get S.next=some (.box ys) ∧ S.next < ((S.newBox z).put S.next ys).next :=
 ⟨Eo (Cz S _) (Nat.le_refl _) _,Ef _ _ _,Nat.lt_succ_self _⟩
theorem eu47:Ih Tryz.prog 47=some (none,57):=by kernel_rfl
theorem eu40:Ih Tryz.prog 40=some (none,49):=by kernel_rfl
theorem eu202:Ih Tryz.prog 202=some (none,52):=by kernel_rfl
theorem un202:Tryz.prog.underlying 202=some (.slice 52):=by kernel_rfl
theorem zr52:L3 Tryz.prog 52=some (tyA (false,false)):=by kernel_rfl
theorem kP (t:Bool × Bool):Do Tryz.prog 202 1 [(0,tyA t)]=some (.sl 1 0 2 [tyA t]):=by
 simp [Do,eu202,yK,zr52,Ca,Cb,tyA]
theorem i52:(Tryz.prog.info? 52).map (fun i=>(i.zero,i.size,i.bytes))=some (some (.agg #[.bool false,.bool false]),2,2):=by kernel_rfl
theorem app202 (S:St) (t:Bool × Bool):Hl E9 S 202 202 .nils (.sl 1 0 2 [tyA t])=some (.sl S.next 0 2 [tyA t],S.grown 1 2):=by
 obtain ⟨i,hi,hz0,hz1,hz2⟩:=Hs i52
 show Fo Tryz.prog S 202 202 .nils (.sl 1 0 2 [tyA t])=_
 simp [Fo,eu202,hi,hz0,hz1,hz2,Nr,un202,Value.cells]
theorem len202 (S:St) (tok off:Nat) (t:Bool × Bool):F6 Tryz.prog S 202 (.sl tok off 2 [tyA t])=some 1:=by simp [F6,un202]
theorem ix202 (tok off:Nat) (t:Bool × Bool):Cl Tryz.prog 202 (.sl tok off 2 [tyA t]) (.v (.int .i64 0))=some (.ep (tyC t)):=by
 simp [Cl,eu202,yK,tyA,tyC,AV.cells]
theorem ldep52 (S:St) (t:Bool × Bool):Ci Tryz.prog S 52 (.ep (tyC t))=some (tyA t):=by
 simp [Ci,Dv,ag52,yK,tyA,tyC]
theorem zD (tok off:Nat) (t:Bool × Bool):Gc (.sl tok off 2 [tyA t]) (.sl tok off 2 [tyA t])=true:=by
 simp [Gc,Na,cJ]
theorem fld49 (nm:List UInt8) (ps:Nat) (a bb c d:AV) {ds:List PD} (h:Hq 6 F4 bb ds):Ou Tryz.prog 49 (.agg (Gg nm ps a bb c d)) 3=some bb:=by
 rcases h with ⟨rfl,rfl⟩ | ⟨tok,off,rfl⟩ <;> kernel_rfl
theorem fX (S:St) (k:Nat):En S (S.grown 1 k):=⟨Nat.le_succ _,fun id hid=>by
 show (S.mem.set S.next _).get id=_
 rw [T.get_set,if_neg (by omega)]⟩
theorem fa30_20 (b:Nat):C2 Tryz.prog 30 (.ptr b 2) 0=some (.ptr b 2):=by kernel_rfl
theorem fa30_21 (b:Nat):C2 Tryz.prog 30 (.ptr b 2) 1=some (.ptr b 3):=by kernel_rfl
theorem fa30_23 (b:Nat):C2 Tryz.prog 30 (.ptr b 2) 3=some (.ptr b 5):=by kernel_rfl
theorem bl52bb (x y:Bool):Gn Tryz.prog 52 [(0,.v (.bool x)),(1,.v (.bool y))]=some (tyA (x,y)):=by kernel_rfl
theorem things_ne {s m:Nat} {mn:NdM} {names:List (List UInt8 × (Bool × Bool))} {Ty:PE → Nat × Nat → (Bool × Bool) × (Nat × Nat)} (lv:AV) (async:Bool) (xs:List AV) (e:PE) (hr:RepE (.agg xs) e) (hk:¬ I0 e=13) (hT:gS s m mn names Ty e) (S:St) (f:Nat × Nat) (hc:Cx s m mn names S f):WC E9 135 [.ptr s 0,.agg (eqC lv async xs)] S (fun r=>∃ S' tok off,r=.ret (.sl tok off 2 [tyA (Ty e f).1]) S' ∧ Cx s m mn names S' (Ty e f).2 ∧ Eb s S S'):=by
 refine Dt Tryz.f135 (by kernel_rfl) (by kernel_rfl) (by kernel_rfl) (by show (_:Nat) ≤ _;simp [Tryz.f135]) ?_
 obtain ⟨fn1,hf163⟩:=wL
 have hr0:=hr
 cases hr with
 | mk kind pos n name off kv kids hkv =>
 have hk:¬ kind=13:=hk
 have g1:=Cu S (eqC lv async (exC kind pos n name off kv))
 have k1:=Cz S (eqC lv async (exC kind pos n name off kv))
 have n1:(S.newBox (eqC lv async (exC kind pos n name off kv))).next=S.next + 1:=rfl
 generalize hS1:S.newBox (eqC lv async (exC kind pos n name off kv))=S1 at g1 k1 n1
 have hc1:=hc.keep k1
 have l30:Ci Tryz.prog S1 30 (.ptr S.next 2)=some (.agg (exC kind pos n name off kv)):=ldq2 g1 rfl
 simp only [A6,Bk,A4,Bf,A7,Be,B3,Bc,A5,Ba,A8,Cd,A0,A1,Bo,B5,ofOpt,A9,Nat.reduceLT,Nat.reduceAdd,Nat.reduceEqDiff,Aa,Ab,Ac,Ae,Aj,Ak,Es,Tryz.f135,Ca,Cb,hS1,fq2,l30,hf163]
 refine WC.mono (hT _ S1 f hr0 hc1) ?_
 rintro _ ⟨S2,rfl,hc2,k2⟩
 generalize (Ty (.mk kind pos n name off kids) f).2=f2 at hc2 ⊢
 generalize (Ty (.mk kind pos n name off kids) f).1=ty
 have hlt:=hc.g.lt
 have p2:S2.mem.get S.next=_:=(k2.2 S.next (by omega) (by omega)).trans g1
 have al:=Uq S2
 have q3:=Z4 (Cu S2 (tyC (false,false))) ty
 obtain ⟨k3,g3,l3⟩:=Nm S2 (tyC (false,false)) (tyC ty)
 have p3:((S2.newBox (tyC (false,false))).put S2.next (tyC ty)).mem.get S.next=_:=(k3.2 S.next (by have:=k2.1; omega)).trans p2
 generalize hS3:(S2.newBox (tyC (false,false))).put S2.next (tyC ty)=S3 at q3 k3 g3 l3 p3
 have hc3:=hc2.keep k3
 have lt3:=Q4 (t:=ty) g3
 have lk3:Ci Tryz.prog S3 3 (.ptr S.next 2)=some (.v (.int .i64 (kind:Int))):=by rw [Rb,p3]; rfl
 have e13:((kind:Int) != 13)=true:=by rw [bne_iff_ne]; omega
 have hrow:=kP ty
 simp only [Bp,A6,Cm,Bk,Bn,B0,A4,B4,Bf,A7,Be,De,Dr,Bc,Co,Ce,A5,Ba,A8,A0,A1,ofOpt,ofOptS,A9,Bv,Bu,Bj,By,Bg,Cn,Da,Nat.reduceLT,Nat.reduceEqDiff,Aa,Ab,Ac,Am,Es,al,q3,fq2,fa30_20,lk3,e13,lt3,hrow]
 exact ⟨_,_,_,rfl,hc3,((k1.x s).trans k2).trans (k3.x s)⟩
theorem yB {s m:Nat} {mn:NdM} {names:List (List UInt8 × (Bool × Bool))} {Ty:PE → Nat × Nat → (Bool × Bool) × (Nat × Nat)} (lv:AV) (async:Bool) (xs:List AV) (pos:Nat) (n:Int) (name:List UInt8) (off:Bool) (kids:List PE) (hr:RepE (.agg xs) (.mk 13 pos n name off kids)) {v:AV} {nd:PN} (hN:Qy mn.l name=some v) (hnd:Jb v nd) (dd:PD) (ho:nd.outs=[dd]) (hT:gS s m mn names Ty (.mk 13 pos n name off kids)) (S:St) (f:Nat × Nat) (hc:Cx s m mn names S f):WC E9 135 [.ptr s 0,.agg (eqC lv async xs)] S (fun r=>∃ S' tok off2,r=.ret (.sl tok off2 2 [tyA (dd.bool,dd.fut || async)]) S' ∧ Cx s m mn names S' (Ty (.mk 13 pos n name off kids) f).2 ∧ Eb s S S'):=by
 refine Dt Tryz.f135 (by kernel_rfl) (by kernel_rfl) (by kernel_rfl) (by show (_:Nat) ≤ _;simp [Tryz.f135]) ?_
 obtain ⟨fn1,hf163⟩:=wL
 obtain ⟨fn2,hf104⟩:=Sn
 have rv:=rN hnd
 obtain ⟨a,bb,c,d,es,rfl,ha,hb,hcv,hd,he⟩:=hnd
 have hr0:=hr
 cases hr with
 | mk _ _ _ _ _ kv _ hkv =>
 have g1:=Cu S (eqC lv async (exC 13 pos n name off kv))
 have k1:=Cz S (eqC lv async (exC 13 pos n name off kv))
 have n1:(S.newBox (eqC lv async (exC 13 pos n name off kv))).next=S.next + 1:=rfl
 generalize hS1:S.newBox (eqC lv async (exC 13 pos n name off kv))=S1 at g1 k1 n1
 have hc1:=hc.keep k1
 have l30:Ci Tryz.prog S1 30 (.ptr S.next 2)=some (.agg (exC 13 pos n name off kv)):=ldq2 g1 rfl
 simp only [A6,Bk,A4,Bf,A7,Be,B3,Bc,A5,Ba,A8,Cd,A0,A1,Bo,B5,ofOpt,A9,Nat.reduceLT,Nat.reduceAdd,Nat.reduceEqDiff,Aa,Ab,Ac,Ae,Aj,Ak,Es,Tryz.f135,Ca,Cb,hS1,fq2,l30,hf163]
 refine WC.mono (hT _ S1 f hr0 hc1) ?_
 rintro _ ⟨S2,rfl,hc2,k2⟩
 generalize (Ty (.mk 13 pos n name off kids) f).2=f2 at hc2 ⊢
 generalize (Ty (.mk 13 pos n name off kids) f).1=ty
 have hlt:=hc.g.lt
 have p2:S2.mem.get S.next=_:=(k2.2 S.next (by omega) (by omega)).trans g1
 have al:=Uq S2
 have q3:=Z4 (Cu S2 (tyC (false,false))) ty
 obtain ⟨k3,g3,l3⟩:=Nm S2 (tyC (false,false)) (tyC ty)
 have p3:((S2.newBox (tyC (false,false))).put S2.next (tyC ty)).mem.get S.next=_:=(k3.2 S.next (by have:=k2.1; omega)).trans p2
 generalize hS3:(S2.newBox (tyC (false,false))).put S2.next (tyC ty)=S3 at q3 k3 g3 l3 p3
 have hc3:=hc2.keep k3
 have lk3:Ci Tryz.prog S3 3 (.ptr S.next 2)=some (.v (.int .i64 ((13:Nat):Int))):=by rw [Rb,p3]; rfl
 have e13:(((13:Nat):Int) != 13)=false:=rfl
 have lm:Ci Tryz.prog S3 121 (.ptr s 0)=some (.map mn.g):=by rw [ldc121,hc3.g.box]; rfl
 have ln:Ci Tryz.prog S3 9 (.ptr S.next 5)=some (.v (.string ⟨⟨name⟩⟩)):=by rw [dP,p3]; rfl
 have lk:Ij Tryz.prog S3 121 (.map mn.g) (.v (.string ⟨⟨name⟩⟩)) false=some (.agg (Gg nd.name nd.pos a bb c d)):=vV hc3.nd hN
 have lf:=fld49 nd.name nd.pos a bb c d hb
 simp only [Bp,A6,Cm,Bk,Bn,A4,Bf,A7,Be,De,Dr,Bc,Co,Cf,A5,Ba,A8,A0,A1,ofOpt,ofOptS,A9,Bu,Da,Nat.reduceLT,Nat.reduceEqDiff,Aa,Ab,Ac,Am,Es,al,q3,fq2,fa30_20,lk3,e13]
 refine Fz [(0,true),(1,true),(2,true),(3,true),(4,true),(5,true),(6,true),(7,true),(8,true),(9,true)] (by kernel_rfl) (by kernel_rfl) ?_
 simp only [A6,Bk,A4,A7,Be,Bc,A5,Ba,A8,A0,A1,ofOpt,Nat.reduceLT,Nat.reduceEqDiff,Aa,Ab,Ac,Af,Ag,Ah,Es,fa125_0,fq2,fa30_23,lm,ln,lk,lf,Eg,Dq,Cs,Cj,Dm,F9]
 have la:Ci Tryz.prog S3 4 (.ptr S.next 1)=some (.v (.bool async)):=ldq1 p3
 have lp:Ci Tryz.prog S3 3 (.ptr S.next 3)=some (.v (.int .i64 (pos:Int))):=by rw [Rb,p3]; rfl
 have leno:=Zc S3 hb
 rw [ho] at leno
 have leno:F6 Tryz.prog S3 46 bb=some 1:=leno
 have e1:(((1:Nat):Int) != 1)=false:=rfl
 have tl:=Uu hc3.g false pos 12
 have et:Jq false pos 12 f2=f2:=rfl
 rw [et] at tl
 have ix:=ix46r hb 0 (by rw [ho]; exact Nat.succ_pos _)
 have hg:nd.outs[0]'(by rw [ho]; exact Nat.succ_pos _)=dd:=by simp only [ho,List.getElem_cons_zero]
 rw [hg] at ix
 have ix:Cl Tryz.prog 46 bb (.v (.int .i64 0))=some (.ep (Fh dd)):=ix
 cases async
 ·simp only [A7,Cq,Be,B3,Bc,A5,Ba,A8,A0,A1,Bo,B5,ofOpt,A9,Bu,Nat.reduceLT,Nat.reduceEqDiff,Aa,Ab,Ac,Af,Ag,Ah,Ai,Aj,Ak,Am,Ar,Av,Es,Lr,fq1,fq2,fa30_21,la,lp,hf104]
  refine WC.mono tl ?_
  rintro _ ⟨S4,rfl,hg4,k4,n4⟩
  have hc4:=hc3.x k4 hg4
  have p4:S4.mem.get S.next=_:=(k4.2 S.next (by have:=k2.1; have:=k3.1; omega) (by omega)).trans p3
  have leno4:F6 Tryz.prog S4 46 bb=some 1:=by have:=Zc S4 hb; rw [ho] at this; exact this
  have hl1:((0:Int) < ((1:Nat):Int)):=by decide
  have hw1:IntKind.i64.wrap (0 + 1)=1:=by rw [IntKind.wrap_i64]; rfl
  have hl2:¬ ((1:Int) < ((1:Nat):Int)):=by decide
  have al5:=Yr S4
  have q5:=qK (Cu S4 Oh) rfl dd
  obtain ⟨k5,g5,l5⟩:=Nm S4 Oh (Fh dd)
  have p5:((S4.newBox Oh).put S4.next (Fh dd)).mem.get S.next=_:=(k5.2 S.next (by have:=k2.1; have:=k3.1; omega)).trans p4
  have lep:=lep54 S4 dd
  generalize hS5:(S4.newBox Oh).put S4.next (Fh dd)=S5 at q5 k5 g5 l5 p5
  have lb5:Ci Tryz.prog S5 4 (.ptr S4.next 2)=some (.v (.bool dd.bool)):=by rw [pN,g5]; rfl
  have lf5:Ci Tryz.prog S5 4 (.ptr S4.next 3)=some (.v (.bool dd.fut)):=by rw [pN,g5]; rfl
  have la5:Ci Tryz.prog S5 4 (.ptr S.next 1)=some (.v (.bool false)):=ldq1 p5
  have hap:=app202 S5 (dd.bool,dd.fut || false)
  have hrow:=kP (dd.bool,dd.fut || false)
  have hb5:=bl52bb dd.bool (dd.fut || false)
  have k6:En S5 (S5.grown 1 2):=fX S5 2
  have hc6:=(hc4.keep k5).keep k6
  have kk:=(k4.trans (k5.x s)).trans (k6.x s)
  generalize S5.grown 1 2=S6 at hap k6 hc6 kk
  have kall:=(((k1.x s).trans k2).trans (k3.x s)).trans kk
  cases hfu:dd.fut
  ·rw [hfu] at lf5 hap hrow hb5
   have hap:Hl E9 S5 202 202 .nils (.sl 1 0 2 [tyA (dd.bool,false)])=some (.sl S5.next 0 2 [tyA (dd.bool,false)],S6):=hap
   have hrow:Do Tryz.prog 202 1 [(0,tyA (dd.bool,false))]=some (.sl 1 0 2 [tyA (dd.bool,false)]):=hrow
   have hb5:Gn Tryz.prog 52 [(0,.v (.bool dd.bool)),(1,.v (.bool false))]=some (tyA (dd.bool,false)):=hb5
   simp only [A6,Bk,Bt,D0,A4,Bf,A7,Be,Bc,Co,A5,Ba,A8,A0,A1,Bo,ofOpt,A9,Nat.reduceLT,Nat.reduceEqDiff,Aa,Ab,Ac,Es,leno4]
   refine D2 (Ds ?_)
   simp only [Bw,Bz,Bp,A6,Bk,Bn,Bt,C9,B0,A4,Ct,Br,Dy,Bf,A7,Be,De,Dr,Bc,Ce,A5,Ba,A8,A0,A1,Bo,ofOpt,ofOptS,A9,Bv,Bu,Bj,By,Bg,Cn,C3,Dd,Nat.reduceLT,Nat.reduceEqDiff,Aa,Ab,Ac,Af,Ag,Ah,Ai,Al,Am,Ap,Es,hl1,ix,lep,al5,q5,dW,iT,bL,lb5,lf5,fq1,la5,hb5,hrow,hap]
   simp only [hw1]
   refine D2 (Ds ?_)
   simp only [Bz,Bp,A6,Bk,Bn,Bt,C9,B0,A4,Ct,Dy,Bf,A7,Be,Bc,Cf,A5,Ba,A8,A0,A1,ofOpt,Bu,Bj,By,Bg,Cn,C3,Nat.reduceLT,Nat.reduceEqDiff,Aa,Ab,Ac,Am,Aq,Es,hl2]
   exact ⟨_,_,_,rfl,hc6,kall⟩
  ·rw [hfu] at lf5 hap hrow hb5
   have hap:Hl E9 S5 202 202 .nils (.sl 1 0 2 [tyA (dd.bool,true)])=some (.sl S5.next 0 2 [tyA (dd.bool,true)],S6):=hap
   have hrow:Do Tryz.prog 202 1 [(0,tyA (dd.bool,true))]=some (.sl 1 0 2 [tyA (dd.bool,true)]):=hrow
   have hb5:Gn Tryz.prog 52 [(0,.v (.bool dd.bool)),(1,.v (.bool true))]=some (tyA (dd.bool,true)):=hb5
   simp only [A6,Bk,Bt,D0,A4,Bf,A7,Be,Bc,Co,A5,Ba,A8,A0,A1,Bo,ofOpt,A9,Nat.reduceLT,Nat.reduceEqDiff,Aa,Ab,Ac,Es,leno4]
   refine D2 (Ds ?_)
   simp only [Bw,Bz,Bp,A6,Bk,Bn,Bt,C9,B0,A4,Ct,Br,Dy,Bf,A7,Cq,Be,De,Dr,Bc,Ce,A5,Ba,A8,A0,A1,Bo,ofOpt,ofOptS,A9,Bv,Bu,Bj,By,Bg,Cn,C3,Dd,Nat.reduceLT,Nat.reduceEqDiff,Aa,Ab,Ac,Af,Ag,Ah,Ai,Am,Ap,Aw,Es,hl1,ix,lep,al5,q5,dW,iT,bL,lb5,lf5,fq1,hb5,hrow,hap]
   simp only [hw1]
   refine D2 (Ds ?_)
   simp only [Bz,Bp,A6,Bk,Bn,Bt,C9,B0,A4,Ct,Dy,Bf,A7,Be,Bc,Cf,A5,Ba,A8,A0,A1,ofOpt,Bu,Bj,By,Bg,Cn,C3,Nat.reduceLT,Nat.reduceEqDiff,Aa,Ab,Ac,Am,Aq,Es,hl2]
   exact ⟨_,_,_,rfl,hc6,kall⟩
 ·simp only [A7,Be,B3,Bc,A5,Ba,A8,A0,A1,Bo,B5,ofOpt,A9,Bu,Da,Nat.reduceLT,Nat.reduceEqDiff,Aa,Ab,Ac,Af,Ag,Ah,Ai,Aj,Ak,Al,Am,Es,fq1,fq2,fa30_21,la,lp,leno,e1,hf104]
  refine WC.mono tl ?_
  rintro _ ⟨S4,rfl,hg4,k4,n4⟩
  have hc4:=hc3.x k4 hg4
  have p4:S4.mem.get S.next=_:=(k4.2 S.next (by have:=k2.1; have:=k3.1; omega) (by omega)).trans p3
  have leno4:F6 Tryz.prog S4 46 bb=some 1:=by have:=Zc S4 hb; rw [ho] at this; exact this
  have hl1:((0:Int) < ((1:Nat):Int)):=by decide
  have hw1:IntKind.i64.wrap (0 + 1)=1:=by rw [IntKind.wrap_i64]; rfl
  have hl2:¬ ((1:Int) < ((1:Nat):Int)):=by decide
  have al5:=Yr S4
  have q5:=qK (Cu S4 Oh) rfl dd
  obtain ⟨k5,g5,l5⟩:=Nm S4 Oh (Fh dd)
  have p5:((S4.newBox Oh).put S4.next (Fh dd)).mem.get S.next=_:=(k5.2 S.next (by have:=k2.1; have:=k3.1; omega)).trans p4
  have lep:=lep54 S4 dd
  generalize hS5:(S4.newBox Oh).put S4.next (Fh dd)=S5 at q5 k5 g5 l5 p5
  have lb5:Ci Tryz.prog S5 4 (.ptr S4.next 2)=some (.v (.bool dd.bool)):=by rw [pN,g5]; rfl
  have lf5:Ci Tryz.prog S5 4 (.ptr S4.next 3)=some (.v (.bool dd.fut)):=by rw [pN,g5]; rfl
  have la5:Ci Tryz.prog S5 4 (.ptr S.next 1)=some (.v (.bool true)):=ldq1 p5
  have hap:=app202 S5 (dd.bool,dd.fut || true)
  have hrow:=kP (dd.bool,dd.fut || true)
  have hb5:=bl52bb dd.bool (dd.fut || true)
  have k6:En S5 (S5.grown 1 2):=fX S5 2
  have hc6:=(hc4.keep k5).keep k6
  have kk:=(k4.trans (k5.x s)).trans (k6.x s)
  generalize S5.grown 1 2=S6 at hap k6 hc6 kk
  have kall:=(((k1.x s).trans k2).trans (k3.x s)).trans kk
  cases hfu:dd.fut
  ·rw [hfu] at lf5 hap hrow hb5
   have hap:Hl E9 S5 202 202 .nils (.sl 1 0 2 [tyA (dd.bool,true)])=some (.sl S5.next 0 2 [tyA (dd.bool,true)],S6):=hap
   have hrow:Do Tryz.prog 202 1 [(0,tyA (dd.bool,true))]=some (.sl 1 0 2 [tyA (dd.bool,true)]):=hrow
   have hb5:Gn Tryz.prog 52 [(0,.v (.bool dd.bool)),(1,.v (.bool true))]=some (tyA (dd.bool,true)):=hb5
   simp only [A6,Bk,Bt,D0,A4,Bf,A7,Be,Bc,Co,A5,Ba,A8,A0,A1,Bo,ofOpt,A9,Nat.reduceLT,Nat.reduceEqDiff,Aa,Ab,Ac,Es,leno4]
   refine D2 (Ds ?_)
   simp only [Bw,Bz,Bp,A6,Bk,Bn,Bt,C9,B0,A4,Ct,Br,Dy,Bf,A7,Be,De,Dr,Bc,Ce,A5,Ba,A8,A0,A1,Bo,ofOpt,ofOptS,A9,Bv,Bu,Bj,By,Bg,Cn,C3,Dd,Nat.reduceLT,Nat.reduceEqDiff,Aa,Ab,Ac,Af,Ag,Ah,Ai,Al,Am,Ap,Es,hl1,ix,lep,al5,q5,dW,iT,bL,lb5,lf5,fq1,la5,hb5,hrow,hap]
   simp only [hw1]
   refine D2 (Ds ?_)
   simp only [Bz,Bp,A6,Bk,Bn,Bt,C9,B0,A4,Ct,Dy,Bf,A7,Be,Bc,Cf,A5,Ba,A8,A0,A1,ofOpt,Bu,Bj,By,Bg,Cn,C3,Nat.reduceLT,Nat.reduceEqDiff,Aa,Ab,Ac,Am,Aq,Es,hl2]
   exact ⟨_,_,_,rfl,hc6,kall⟩
  ·rw [hfu] at lf5 hap hrow hb5
   have hap:Hl E9 S5 202 202 .nils (.sl 1 0 2 [tyA (dd.bool,true)])=some (.sl S5.next 0 2 [tyA (dd.bool,true)],S6):=hap
   have hrow:Do Tryz.prog 202 1 [(0,tyA (dd.bool,true))]=some (.sl 1 0 2 [tyA (dd.bool,true)]):=hrow
   have hb5:Gn Tryz.prog 52 [(0,.v (.bool dd.bool)),(1,.v (.bool true))]=some (tyA (dd.bool,true)):=hb5
   simp only [A6,Bk,Bt,D0,A4,Bf,A7,Be,Bc,Co,A5,Ba,A8,A0,A1,Bo,ofOpt,A9,Nat.reduceLT,Nat.reduceEqDiff,Aa,Ab,Ac,Es,leno4]
   refine D2 (Ds ?_)
   simp only [Bw,Bz,Bp,A6,Bk,Bn,Bt,C9,B0,A4,Ct,Br,Dy,Bf,A7,Cq,Be,De,Dr,Bc,Ce,A5,Ba,A8,A0,A1,Bo,ofOpt,ofOptS,A9,Bv,Bu,Bj,By,Bg,Cn,C3,Dd,Nat.reduceLT,Nat.reduceEqDiff,Aa,Ab,Ac,Af,Ag,Ah,Ai,Am,Ap,Aw,Es,hl1,ix,lep,al5,q5,dW,iT,bL,lb5,lf5,fq1,hb5,hrow,hap]
   simp only [hw1]
   refine D2 (Ds ?_)
   simp only [Bz,Bp,A6,Bk,Bn,Bt,C9,B0,A4,Ct,Dy,Bf,A7,Be,Bc,Cf,A5,Ba,A8,A0,A1,ofOpt,Bu,Bj,By,Bg,Cn,C3,Nat.reduceLT,Nat.reduceEqDiff,Aa,Ab,Ac,Am,Aq,Es,hl2]
   exact ⟨_,_,_,rfl,hc6,kall⟩
theorem fng_70:∃ fn,E9.F 70=some fn:=Option.isSome_iff_exists.1 (by kernel_rfl)
theorem len55r (S:St) {lv:AV} {l:List (List UInt8 × Nat)} (h:Hq 2 Hg lv l):F6 Tryz.prog S 55 lv=some l.length:=by
 rcases h with ⟨rfl,rfl⟩ | ⟨tok,off,rfl⟩ <;> simp [F6,xX]
theorem ix55r {v:AV} {l:List (List UInt8 × Nat)} (h:Hq 2 Hg v l) (j:Nat) (hj:j < l.length):Cl Tryz.prog 55 v (.v (.int .i64 (j:Int)))=some (.ep (Ik l[j])):=by
 rcases h with ⟨rfl,rfl⟩ | ⟨tok,off,rfl⟩
 ·cases hj
 ·exact idx55d tok off l j hj
theorem fq0 (b:Nat):C2 Tryz.prog 57 (.ptr b 0) 0=some (.ptr b 0):=by kernel_rfl
theorem fa59_0 (b:Nat):C2 Tryz.prog 59 (.ptr b 0) 0=some (.ptr b 0):=by kernel_rfl
theorem fa59_1 (b:Nat):C2 Tryz.prog 59 (.ptr b 0) 1=some (.ptr b 1):=by kernel_rfl
def ThingsA (s m:Nat) (mn:NdM) (names:List (List UInt8 × (Bool × Bool))) (cs:List AV) (tt:Nat × Nat → Bool × Bool) (ff:Nat × Nat → Nat × Nat):Prop:=∀ (S:St) (f:Nat × Nat),Cx s m mn names S f → WC E9 135 [.ptr s 0,.agg cs] S (fun r=>∃ S' tok off,r=.ret (.sl tok off 2 [tyA (tt f)]) S' ∧ Cx s m mn names S' (ff f) ∧ Eb s S S')
def eqF (names:List (List UInt8 × (Bool × Bool))) (tt:Nat × Nat → Bool × Bool) (ff:Nat × Nat → Nat × Nat) (lf:List UInt8 × Nat) (f:Nat × Nat):Nat × Nat:=Jq (!(((H6 names lf.1).1 == (tt f).1) && ((H6 names lf.1).2 == (tt f).2))) lf.2 7 (ff f)
theorem eq_w {s m:Nat} {mn:NdM} {names:List (List UInt8 × (Bool × Bool))} (lv:AV) (async:Bool) (xs:List AV) (hxl:xs.length=6) (lf:List UInt8 × Nat) (hlv:Hq 2 Hg lv [lf]) (rx:Na xs xs=true) {tt:Nat × Nat → Bool × Bool} {ff:Nat × Nat → Nat × Nat} (hT:ThingsA s m mn names (eqC lv async xs) tt ff) (S:St) (f:Nat × Nat) (hc:Cx s m mn names S f):WC E9 106 [.ptr s 0,.agg (eqC lv async xs)] S (fun r=>∃ S',r=.ret (.tup []) S' ∧ Cx s m mn names S' (eqF names tt ff lf f) ∧ Eb s S S'):=by
 refine Dt Tryz.f106 (by kernel_rfl) (by kernel_rfl) (by kernel_rfl) (by show (_:Nat) ≤ _;simp [Tryz.f106]) ?_
 obtain ⟨fn1,hf135⟩:=fng_135
 obtain ⟨fn2,hf104⟩:=Sn
 have hcl:(eqC lv async xs).length=8:=by simp [eqC,hxl]
 have g1:=Cu S (eqC lv async xs)
 have k1:=Cz S (eqC lv async xs)
 have n1:(S.newBox (eqC lv async xs)).next=S.next + 1:=rfl
 generalize hS1:S.newBox (eqC lv async xs)=S1 at g1 k1 n1
 have hc1:=hc.keep k1
 have l57:=ldU ag57 jP g1 hcl
 simp only [A6,Bk,A4,Bf,A7,Be,B3,Bc,A5,Ba,A8,Cd,A0,A1,Bo,B5,ofOpt,Nat.reduceLT,Nat.reduceAdd,Nat.reduceEqDiff,Aa,Ab,Ac,Ae,Aj,Ak,Es,Tryz.f106,Ca,Cb,hS1,l57,hf135]
 refine WC.mono (hT S1 f hc1) ?_
 rintro _ ⟨S2,tok,off,rfl,hc2,k2⟩
 unfold eqF
 generalize ff f=f2 at hc2 ⊢
 generalize tt f=ty
 have hlt:=hc.g.lt
 have p2:S2.mem.get S.next=_:=(k2.2 S.next (by omega) (by omega)).trans g1
 have l55:Ci Tryz.prog S2 55 (.ptr S.next 0)=some lv:=ldq0 p2
 have ll:=len55r S2 hlv
 have ll:F6 Tryz.prog S2 55 lv=some 1:=ll
 have lr:=len202 S2 tok off ty
 have hmin:(if ((1:Nat):Int) < ((1:Nat):Int) then ((1:Nat):Int) else ((1:Nat):Int))=1:=rfl
 have hl1:((0:Int) < 1):=by decide
 have hl2:¬ ((1:Int) < 1):=by decide
 have hw1:IntKind.i64.wrap (0 + 1)=1:=by rw [IntKind.wrap_i64]; rfl
 have ixl:Cl Tryz.prog 55 lv (.v (.int .i64 0))=some (.ep (Ik lf)):=ix55r hlv 0 (Nat.succ_pos _)
 have lep:=lep59 S2 lf
 have al:=alo59 S2
 have q3:=st59w (Cu S2 jA) rfl lf
 obtain ⟨k3,g3,l3⟩:=Nm S2 jA (Ik lf)
 generalize hS3:(S2.newBox jA).put S2.next (Ik lf)=S3 at q3 k3 g3 l3
 have hc3:=hc2.keep k3
 simp only [A6,Bk,Bt,D0,A4,Bf,A7,Be,Bc,Co,A5,Ba,A8,A0,A1,Bo,ofOpt,A9,Nat.reduceLT,Nat.reduceEqDiff,Aa,Ab,Ac,Es,Lr,fq0,l55,ll,lr,gB,minZO_ii,hmin]
 refine D2 (Ds ?_)
 simp only [Bz,Bp,A6,Cm,Bk,Bn,Bt,C9,A4,Ct,Dy,Bf,A7,Be,De,Dr,Bc,Ce,A5,Ba,A8,A0,A1,ofOpt,ofOptS,Bu,C3,Nat.reduceLT,Nat.reduceEqDiff,Aa,Ab,Ac,Am,Ap,Es,hl1,fq0,l55,ixl,lep,al,q3]
 refine Fz [(0,true),(1,true),(2,true),(3,true),(4,true),(5,true),(6,true),(7,true),(8,true),(9,true),(10,true),(11,true),(12,true),(13,true),(14,true),(15,true)] (by kernel_rfl) (by kernel_rfl) ?_
 have lm:Ci Tryz.prog S3 123 (.ptr s 1)=some (.map m):=by rw [Ze,hc3.g.box]; rfl
 have ln:Ci Tryz.prog S3 9 (.ptr S2.next 0)=some (.v (.string ⟨⟨lf.1⟩⟩)):=by rw [dP,g3]; rfl
 have lk:Ij Tryz.prog S3 123 (.map m) (.v (.string ⟨⟨lf.1⟩⟩)) false=some (tyA (H6 names lf.1)):=Sj hc3.mp lf.1
 have lp:Ci Tryz.prog S3 3 (.ptr S2.next 1)=some (.v (.int .i64 (lf.2:Int))):=by rw [Rb,g3]; rfl
 have ix:=ix202 tok off ty
 have le:=ldep52 S3 ty
 have rr:=zD tok off ty
 have rt:=cJ ty
 have rt2:=cJ (H6 names lf.1)
 have nq:=fun f' S' o'=>ne52 f' S' o' (H6 names lf.1).1 (H6 names lf.1).2 ty.1 ty.2
 have ety:tyA (H6 names lf.1)=tyA ((H6 names lf.1).1,(H6 names lf.1).2):=rfl
 have ety2:tyA ty=tyA (ty.1,ty.2):=rfl
 simp only [A5,Ba,A8,A0,A1,Bo,B5,ofOpt,A9,Nat.reduceLT,Nat.reduceEqDiff,Aa,Ab,Ac,Af,Ag,Ah,Aj,Ak,Am,Es,Lr,Sp,fa59_0,fa59_1,lm,ln,lk,lp,ix,le,nn52,fb52,ety,ety2,nq,hf104,Dq,Cs,Df,Cj,F9]
 refine WC.mono (Uu hc3.g _ lf.2 7) ?_
 rintro _ ⟨S4,rfl,hg4,k4,n4⟩
 have hc4:=hc3.x k4 hg4
 simp only [Bw,A6,A4,Br,Bf,A7,Be,Bc,A5,Ba,A8,A0,A1,ofOpt,A9,Bu,Dd,Nat.reduceLT,Nat.reduceEqDiff,Aa,Ab,Ac,Am,Es,hw1,Eg,Cj,Dz,Dm]
 refine D2 (Ds ?_)
 simp only [Bz,Bp,A6,Bk,Bn,Bt,C9,A4,Ct,Dy,Bf,A7,Be,Bc,Cf,A5,Ba,A8,A0,A1,ofOpt,Bu,By,Bg,Cn,C3,Nat.reduceLT,Nat.reduceEqDiff,Aa,Ab,Ac,Am,Aq,Es,hl2,Mb]
 exact ⟨_,rfl,hc4,(((k1.x s).trans k2).trans (k3.x s)).trans k4⟩
def EqT (s m:Nat) (mn:NdM) (names:List (List UInt8 × (Bool × Bool))) (EF:PQ → Nat × Nat → Nat × Nat) (q:PQ):Prop:=∀ (cs:List AV) (S:St) (f:Nat × Nat),Zf (.agg cs) q → Cx s m mn names S f → WC E9 106 [.ptr s 0,.agg cs] S (fun r=>∃ S',r=.ret (.tup []) S' ∧ Cx s m mn names S' (EF q f) ∧ Eb s S S')
def eqsF (EF:PQ → Nat × Nat → Nat × Nat):List PQ → Nat × Nat → Nat × Nat
 | [],f=>f
 | q :: l,f=>eqsF EF l (EF q f)
def ndV:Code:=match Tryz.f70.body with
 | some (.seq _ (.seq _ (.seq (.seq _ (.block _ (.loop b))) _)))=>b
 | _=>.skip
def ndQ:Code:=match Tryz.f70.body with
 | some (.seq _ (.seq _ (.seq _ (.seq _ (.block _ (.loop b))))))=>b
 | _=>.skip
def LoopNd (n s m:Nat) (mn:NdM) (names:List (List UInt8 × (Bool × Bool))) (S0:St) (p:Nat) (f:Nat × Nat) (r:O):Prop:=∃ t' S',r=.out (.exit n) ⟨t',[]⟩ S' ∧ t'.get 0=some (.ptr s 0) ∧ t'.get 3=some (.ptr p 0) ∧ Cx s m mn names S' f ∧ Eb s S0 S'
theorem nM:∀ {es:List AV} {l:List PQ},EqRows es l → ∀ (i:Nat) (h:i < l.length),∃ cs,es[i]? = some (.agg cs) ∧ cs.length=8 ∧ Zf (.agg cs) l[i]
 | _,_,.nil,i,h=>by cases h
 | _,_,.cons a q r l h1 h2,0,h=>by
  obtain ⟨lv,xs,rfl,a1,a2,a3⟩:=h1
  exact ⟨_,rfl,by simp [eqC,a2],lv,xs,rfl,a1,a2,a3⟩
 | _,_,.cons a q r l h1 h2,i + 1,h=>by
  obtain ⟨cs,a1,a2,a3⟩:=nM h2 i (Nat.lt_of_succ_lt_succ h)
  exact ⟨cs,by simpa using a1,a2,by simpa using a3⟩
theorem ix47r {v:AV} {es:List AV} {l:List PQ} (hv:(v=.nils ∧ es=[]) ∨ ∃ tok,v=.sl tok 0 8 es) (hes:EqRows es l) (j:Nat) (hj:j < l.length):∃ cs,Cl Tryz.prog 47 v (.v (.int .i64 (j:Int)))=some (.ep cs) ∧ cs.length=8 ∧ Zf (.agg cs) l[j]:=by
 obtain ⟨cs,h1,h2,h3⟩:=nM hes j hj
 have hje:j < es.length:=by rw [hes.len]; exact hj
 rcases hv with ⟨rfl,rfl⟩ | ⟨tok,rfl⟩
 ·cases hje
 ·refine ⟨cs,?_,h2,h3⟩
  have hi:=idxU eu47 jP tok 0 es j hje
  rw [List.getElem?_eq_getElem hje] at h1
  injection h1 with h1
  rw [h1] at hi
  exact hi
theorem len47r (S:St) {v:AV} {es:List AV} {l:List PQ} (hv:(v=.nils ∧ es=[]) ∨ ∃ tok,v=.sl tok 0 8 es) (hes:EqRows es l):F6 Tryz.prog S 47 v=some l.length:=by
 rcases hv with ⟨rfl,rfl⟩ | ⟨tok,rfl⟩
 ·cases hes; simp [F6,un47]
 ·simp [F6,un47,hes.len]
theorem ndV_lp {s m:Nat} {mn:NdM} {names:List (List UInt8 × (Bool × Bool))} {a:AV} (ds:List PD) (ha:Hq 6 F4 a ds) (hcl:∀ d ∈ ds,d.clock=[]) (hl:ds.length ≤ 1000000) (p:Nat) (S0:St) (hs0:s < S0.next):∀ (n j:Nat) (f:Nat × Nat) (t:T AV) (S:St),j + n=ds.length → t.get 0=some (.ptr s 0) → t.get 3=some (.ptr p 0) → t.get 13=some a → t.get 14=some (Dl ds.length) → t.get 15=some (Dl j) → Cx s m mn names S f → Eb s S0 S →
  WX E9 50 (.loop ndV) ⟨t,[]⟩ S (LoopNd 0 s m mn names S0 p f)
 | 0,j,f,t,S,hj,h0,h3,h13,h14,h15,hc,hk=>by
  refine D2 (Ds ?_)
  have hlt:¬ ((j:Int) < (ds.length:Int)):=by omega
  simp only [Dl] at h14 h15
  simp only [Bz,Bp,A6,Bk,Bn,Bt,C9,A4,Ct,Bf,A7,Be,Bc,Cf,A5,Ba,A8,A0,ofOpt,Bu,C3,Nat.reduceLT,Nat.reduceEqDiff,Aa,Ab,Ac,Am,Aq,Es,ndV,Tryz.f70,h14,h15,hlt]
  exact ⟨_,_,rfl,by simp only [A0,A1,Nat.reduceEqDiff,Aa,Ab,h0],by simp only [A0,A1,Nat.reduceEqDiff,Aa,Ab,h3],hc,hk⟩
 | n + 1,j,f,t,S,hj,h0,h3,h13,h14,h15,hc,hk=>by
  refine D2 (Ds ?_)
  obtain ⟨fn1,hf104⟩:=Sn
  obtain ⟨fn2,hf105⟩:=fng_105
  have hjl:j < ds.length:=by omega
  have hlt:((j:Int) < (ds.length:Int)):=by omega
  have hw:IntKind.i64.wrap ((j:Int) + 1)=((j + 1:Nat):Int):=by rw [IntKind.wrap_i64]; omega
  have hx:=ix46r ha j hjl
  have hck:=hcl _ (List.getElem_mem hjl)
  generalize ds[j]=d at hx hck
  have hep:=lep54 S d
  have al:=Yr S
  have q1:=qK (Cu S Oh) rfl d
  obtain ⟨k2,g2,l2⟩:=Nm S Oh (Fh d)
  generalize hS2:(S.newBox Oh).put S.next (Fh d)=S2 at q1 k2 g2 l2
  have hc2:=hc.keep k2
  have lc:Ci Tryz.prog S2 9 (.ptr S.next 4)=some (.v (.string ⟨⟨[]⟩⟩)):=by rw [dP,g2,← hck]; rfl
  have lp:Ci Tryz.prog S2 3 (.ptr S.next 1)=some (.v (.int .i64 (d.pos:Int))):=by rw [Rb,g2]; rfl
  have e0:(!decide (([]:List UInt8)=[]))=false:=rfl
  simp only [Dl] at h14 h15
  simp only [Bz,Bp,A6,Cm,Bk,Bn,Bt,C9,A4,Ct,Bf,A7,Be,De,Dr,Bc,Ce,A5,Ba,A8,A0,ofOpt,ofOptS,Bu,C3,Nat.reduceLT,Nat.reduceEqDiff,Aa,Ab,Ac,Am,Ap,Es,ndV,Tryz.f70,h13,h14,h15,hlt,hx,hep,al,q1]
  refine Fz [(0,true),(1,true),(2,true),(3,true),(4,true),(5,true),(6,true),(7,true),(8,true),(9,true),(10,true),(11,true),(16,true),(17,true),(12,true),(17,false),(13,true),(14,true),(15,true),(18,true)] (by kernel_rfl) (by kernel_rfl) ?_
  simp only [A5,Ba,A8,A0,Bo,B5,ofOpt,A9,Nat.reduceLT,Nat.reduceEqDiff,Aa,Ab,Ac,Af,Ag,Ah,Ai,Aj,Ak,Am,Ap,Ar,Av,Es,Lr,Cw,h0,fa54_3,fa54_1,lc,lp,bK,hf104,Dq,G2,Hw,Cs,Df,Cj,F9,D8,Er,Nk]
  refine WC.mono (Uu hc2.g false d.pos 7) ?_
  rintro _ ⟨S3,rfl,hg3,k3,n3⟩
  have et:Jq false d.pos 7 f=f:=rfl
  rw [et] at hg3
  simp only [Bw,A6,A4,Br,Bf,A7,Be,Bc,A5,Ba,A8,A0,ofOpt,A9,Bu,Dd,Nat.reduceLT,Nat.reduceEqDiff,Aa,Ab,Ac,Am,Es,h15,hw,Eg,Cj,Dz,Dm]
  refine ndV_lp ds ha hcl hl p S0 hs0 n (j + 1) f _ S3 (by omega) ?_ ?_ ?_ ?_ ?_ (hc2.x k3 hg3) ((hk.trans (k2.x s)).trans k3)
  ·simp only [A0,A1,Nat.reduceEqDiff,Aa,Ab,h0]
  ·simp only [A0,A1,Nat.reduceEqDiff,Aa,Ab,h3]
  ·simp only [A0,A1,Nat.reduceEqDiff,Aa,Ab,h13]
  ·simp only [A0,A1,Nat.reduceEqDiff,Aa,Ab,h14]; rfl
  ·simp only [A0,A1,Nat.reduceEqDiff,Aa,Ab]; rfl
theorem ndQ_lp {s m:Nat} {mn:NdM} {names:List (List UInt8 × (Bool × Bool))} {a:AV} {es:List AV} (qs:List PQ) (ha:(a=.nils ∧ es=[]) ∨ ∃ tok,a=.sl tok 0 8 es) (hes:EqRows es qs) {EF:PQ → Nat × Nat → Nat × Nat} (hE:∀ q ∈ qs,EqT s m mn names EF q) (hl:qs.length ≤ 1000000) (p:Nat) (S0:St) (hs0:s < S0.next):∀ (n j:Nat) (f:Nat × Nat) (t:T AV) (S:St),j + n=qs.length → t.get 0=some (.ptr s 0) → t.get 3=some (.ptr p 0) → t.get 40=some a → t.get 41=some (Dl qs.length) → t.get 42=some (Dl j) → Cx s m mn names S f → Eb s S0 S →
  WX E9 50 (.loop ndQ) ⟨t,[]⟩ S (LoopNd 2 s m mn names S0 p (eqsF EF (qs.drop j) f))
 | 0,j,f,t,S,hj,h0,h3,h40,h41,h42,hc,hk=>by
  refine D2 (Ds ?_)
  have hlt:¬ ((j:Int) < (qs.length:Int)):=by omega
  simp only [Dl] at h41 h42
  simp only [Bz,Bp,A6,Bk,Bn,Bt,C9,A4,Ct,Bf,A7,Be,Bc,Cf,A5,Ba,A8,A0,ofOpt,Bu,C3,Nat.reduceLT,Nat.reduceEqDiff,Aa,Ab,Ac,Am,Aq,Es,ndQ,Tryz.f70,h41,h42,hlt]
  rw [List.drop_of_length_le (by omega)]
  exact ⟨_,_,rfl,by simp only [A0,A1,Nat.reduceEqDiff,Aa,Ab,h0],by simp only [A0,A1,Nat.reduceEqDiff,Aa,Ab,h3],hc,hk⟩
 | n + 1,j,f,t,S,hj,h0,h3,h40,h41,h42,hc,hk=>by
  refine D2 (Ds ?_)
  obtain ⟨fn1,hf106⟩:=fng_106
  have hjl:j < qs.length:=by omega
  have hlt:((j:Int) < (qs.length:Int)):=by omega
  have hw:IntKind.i64.wrap ((j:Int) + 1)=((j + 1:Nat):Int):=by rw [IntKind.wrap_i64]; omega
  obtain ⟨cs,hx,hcl,hq⟩:=ix47r ha hes j hjl
  have hqe:=hE _ (List.getElem_mem hjl)
  rw [List.drop_eq_getElem_cons hjl]
  generalize qs[j]=q at hq hqe
  have hep:=lepU ag57 jP S cs hcl
  have al:=alo57 S
  have q1:=stU jP (Cu S zC57) rfl hcl
  obtain ⟨k2,g2,l2⟩:=Nm S zC57 cs
  generalize hS2:(S.newBox zC57).put S.next cs=S2 at q1 k2 g2 l2
  have hc2:=hc.keep k2
  have lq:=ldU ag57 jP g2 hcl
  simp only [Dl] at h41 h42
  simp only [Bz,Bp,A6,Bk,Bn,Bt,C9,A4,Ct,Bf,A7,Be,De,B3,Dr,Bc,Ce,A5,Ba,A8,A0,Bo,B5,ofOpt,ofOptS,Bu,C3,Nat.reduceLT,Nat.reduceEqDiff,Aa,Ab,Ac,Aj,Ak,Am,Ap,Es,ndQ,Tryz.f70,h0,h40,h41,h42,hlt,hx,hep,al,q1,lq,hf106]
  refine WC.mono (hqe cs S2 f hq hc2) ?_
  rintro _ ⟨S3,rfl,hc3,k3⟩
  simp only [Bw,A6,A4,Br,Bf,A7,Be,Bc,Co,A5,Ba,A8,A0,ofOpt,A9,Bu,Dd,Nat.reduceLT,Nat.reduceEqDiff,Aa,Ab,Ac,Am,Es,h42,hw]
  refine ndQ_lp qs ha hes hE hl p S0 hs0 n (j + 1) _ _ S3 (by omega) ?_ ?_ ?_ ?_ ?_ hc3 ((hk.trans (k2.x s)).trans k3)
  ·simp only [A0,A1,Nat.reduceEqDiff,Aa,Ab,h0]
  ·simp only [A0,A1,Nat.reduceEqDiff,Aa,Ab,h3]
  ·simp only [A0,A1,Nat.reduceEqDiff,Aa,Ab,h40]
  ·simp only [A0,A1,Nat.reduceEqDiff,Aa,Ab,h41]; rfl
  ·simp only [A0,A1,Nat.reduceEqDiff,Aa,Ab]; rfl
theorem node_w {s m:Nat} {mn:NdM} {names:List (List UInt8 × (Bool × Bool))} {v:AV} {nd:PN} (hnd:Jb v nd) (hcl:∀ d ∈ nd.vars,d.clock=[]) {EF:PQ → Nat × Nat → Nat × Nat} (hE:∀ q ∈ nd.eqs,EqT s m mn names EF q) (hlo:nd.outs.length ≤ 1000000) (hlv:nd.vars.length ≤ 1000000) (hlq:nd.eqs.length ≤ 1000000) (S:St) (f:Nat × Nat) (hc:Cx s m mn names S f):WC E9 70 [.ptr s 0,v] S (fun r=>∃ S',r=.ret (.tup []) S' ∧ Cx s m mn names S' (eqsF EF nd.eqs (Mt nd.outs f)) ∧ Eb s S S'):=by
 obtain ⟨a,bb,c,d,es,rfl,ha,hb,hcv,hd,he⟩:=hnd
 refine Dt Tryz.f70 (by kernel_rfl) (by kernel_rfl) (by kernel_rfl) (by show (_:Nat) ≤ _;simp [Tryz.f70]) ?_
 obtain ⟨fn1,hf69⟩:=fng_69
 have g1:=Cu S (Gg nd.name nd.pos a bb c d)
 have k1:=Cz S (Gg nd.name nd.pos a bb c d)
 have n1:(S.newBox (Gg nd.name nd.pos a bb c d)).next=S.next + 1:=rfl
 generalize hS1:S.newBox (Gg nd.name nd.pos a bb c d)=S1 at g1 k1 n1
 have hc1:=hc.keep k1
 have hlt:=hc.g.lt
 have lo:Ci Tryz.prog S1 46 (.ptr S.next 3)=some bb:=ld46_3 g1
 simp only [A6,Bk,A4,Bf,A7,Be,B3,Bc,A5,Ba,A8,Cd,A0,A1,Bo,B5,ofOpt,Nat.reduceLT,Nat.reduceAdd,Nat.reduceEqDiff,Aa,Ab,Ac,Ae,Aj,Ak,Es,Tryz.f70,Ca,Cb,hS1,dX,lo,hf69]
 refine WC.mono (noFut_w hc1.g hb hlo) ?_
 rintro _ ⟨S2,rfl,hg2,k2⟩
 have hc2:=hc1.x k2 hg2
 generalize Mt nd.outs f=f2 at hc2 ⊢
 have p2:S2.mem.get S.next=_:=(k2.2 S.next (by omega) (by omega)).trans g1
 have lv2:Ci Tryz.prog S2 46 (.ptr S.next 4)=some c:=ld46_4 p2
 have lenv:=Zc S2 hcv
 have key:=fun t=>ndV_lp (s:=s) (m:=m) (mn:=mn) (names:=names) nd.vars hcv hcl hlv S.next S2 (by have:=k2.1; omega) nd.vars.length 0 f2 t S2 (by omega)
 unfold ndV at key
 simp only [Tryz.f70] at key
 simp only [A6,Bk,Bt,D0,A4,Bf,A7,Be,Bc,Co,A5,Ba,A8,A0,A1,Bo,ofOpt,A9,Nat.reduceLT,Nat.reduceEqDiff,Aa,Ab,Ac,Es,fa49_4,lv2,lenv]
 refine WX.mono (key _ ?_ ?_ ?_ ?_ ?_ hc2 ⟨Nat.le_refl _,fun _ _ _=>rfl⟩) ?_
 ·simp only [A0,A1,Nat.reduceEqDiff,Aa,Ab]
 ·simp only [A0,A1,Nat.reduceEqDiff,Aa,Ab]
 ·simp only [A0,A1,Nat.reduceEqDiff,Aa,Ab]
 ·simp only [A0,A1,Nat.reduceEqDiff,Aa,Ab]; rfl
 ·simp only [A0,A1,Nat.reduceEqDiff,Aa,Ab]; rfl
 rintro _ ⟨t3,S3,rfl,h30,h33,hc3,k3⟩
 have p3:S3.mem.get S.next=_:=(k3.2 S.next (by have:=k2.1; omega) (by omega)).trans p2
 have lq3:Ci Tryz.prog S3 47 (.ptr S.next 5)=some d:=ld49_5 p3
 have lenq:=len47r S3 hd he
 have key2:=fun t=>ndQ_lp (s:=s) (m:=m) (mn:=mn) (names:=names) nd.eqs hd he hE hlq S.next S3 (by have:=k2.1; have:=k3.1; omega) nd.eqs.length 0 f2 t S3 (by omega)
 unfold ndQ at key2
 simp only [Tryz.f70] at key2
 simp only [A6,Bk,Bt,D0,A4,Ct,Dy,Bf,A7,Be,Bc,A5,Ba,A8,A0,Bo,ofOpt,A9,Nat.reduceLT,Nat.reduceEqDiff,Aa,Ab,Ac,Es,h33,fn5,lq3,lenq]
 refine WX.mono (key2 _ ?_ ?_ ?_ ?_ ?_ hc3 ⟨Nat.le_refl _,fun _ _ _=>rfl⟩) ?_
 ·simp only [A0,A1,Nat.reduceEqDiff,Aa,Ab,h30]
 ·simp only [A0,A1,Nat.reduceEqDiff,Aa,Ab,h33]
 ·simp only [A0,A1,Nat.reduceEqDiff,Aa,Ab]
 ·simp only [A0,A1,Nat.reduceEqDiff,Aa,Ab]; rfl
 ·simp only [A0,A1,Nat.reduceEqDiff,Aa,Ab]; rfl
 rintro _ ⟨t4,S4,rfl,h40,h43,hc4,k4⟩
 rw [List.drop_zero] at hc4
 simp only [Dy,By,Bg,Cn,Aa,Mb]
 exact ⟨_,rfl,hc4,(((k1.x s).trans k2).trans k3).trans k4⟩
theorem fng_67:∃ fn,E9.F 67=some fn:=Option.isSome_iff_exists.1 (by kernel_rfl)
theorem fng_68:∃ fn,E9.F 68=some fn:=Option.isSome_iff_exists.1 (by kernel_rfl)
theorem fng_22:∃ fn,E9.F 22=some fn:=Option.isSome_iff_exists.1 (by kernel_rfl)
def Po:List (List UInt8 × AV) → List AV → List PN → List (List UInt8 × AV)
 | acc,v :: es,nd :: l=>Po (Rt acc nd.name v) es l
 | acc,[],_=>acc
 | acc,_,[]=>acc
def Pq:List (List UInt8 × (Bool × Bool)) → List PD → List (List UInt8 × (Bool × Bool))
 | acc,[]=>acc
 | acc,d :: l=>Pq (Rt acc d.name (d.bool,d.fut)) l
theorem nodesL_cons (acc:List (List UInt8 × AV)) (v:AV) (es:List AV) (nd:PN) (l:List PN):Po acc (v :: es) (nd :: l)=Po (Rt acc nd.name v) es l:=rfl
theorem namesL_cons (acc:List (List UInt8 × (Bool × Bool))) (d:PD) (l:List PD):Pq acc (d :: l)=Pq (Rt acc d.name (d.bool,d.fut)) l:=rfl
theorem U9:∀ {es:List AV} {l:List PN},NodeRows es l → ∀ (i:Nat) (h:i < l.length) (h2:i < es.length),Jb es[i] l[i]
 | _,_,.nil,i,h,_=>by cases h
 | _,_,.cons a q r l h1 h2,0,h,_=>h1
 | _,_,.cons a q r l h1 h2,i + 1,h,h3=>U9 h2 i (Nat.lt_of_succ_lt_succ h) (Nat.lt_of_succ_lt_succ h3)
theorem mP {v:AV} {nd:PN} (h:Jb v nd):∃ cs,v=.agg cs ∧ cs.length=6 ∧ cs[0]? = some (Bq nd.name):=by
 obtain ⟨a,b,c,d,es,rfl,_⟩:=h
 exact ⟨_,rfl,rfl,rfl⟩
def Nn (S S':St) (g:Nat) (es:List (Value × AV)):Prop:=S'.mem.get g=some (.mp es) ∧ S.next ≤ g ∧ g < S'.next ∧ En S S'
theorem Nn.new {S S':St} {g:Nat} {es:List (Value × AV)} (h:Nn S S' g es) (z ys:List AV):Nn S ((S'.newBox z).put S'.next ys) g es:=by
 obtain ⟨h1,h2,h3,h4⟩:=h
 obtain ⟨k,_,l⟩:=Nm S' z ys
 exact ⟨(k.2 g h3).trans h1,h2,Nat.lt_of_lt_of_le h3 k.1,h4.trans k⟩
theorem Nn.upd {S S':St} {g:Nat} {es es2:List (Value × AV)} (h:Nn S S' g es):Nn S { S' with mem:=S'.mem.set g (some (.mp es2)) } g es2:=by
 obtain ⟨h1,h2,h3,h4⟩:=h
 refine ⟨?_,h2,h3,h4.1,fun id hid=>?_⟩
 ·show (S'.mem.set g _).get g=_
  rw [T.get_set,if_pos rfl]
 ·show (S'.mem.set g _).get id=_
  rw [T.get_set,if_neg (by omega)]
  exact h4.2 id hid
theorem mB (S:St):Nn S (Nf S).2 S.next []:=by
 refine ⟨?_,Nat.le_refl _,Nat.lt_succ_self _,Nat.le_succ _,fun id hid=>?_⟩
 ·show (S.mem.set S.next _).get S.next=_
  rw [T.get_set,if_pos rfl]
 ·show (S.mem.set S.next _).get id=_
  rw [T.get_set,if_neg (by omega)]
theorem mkMap_eq (S:St):Nf S=(.map S.next,(Nf S).2):=_root_.id rfl
def nsB:Code:=match Tryz.f67.body with
 | some (.seq _ (.seq _ (.seq (.seq _ (.block _ (.loop b))) _)))=>b
 | _=>.skip
def LoopMp (S0:St) (g:Nat) (es:List (Value × AV)) (r:O):Prop:=∃ t' S',r=.out (.exit 0) ⟨t',[]⟩ S' ∧ t'.get 3=some (.map g) ∧ Nn S0 S' g es
theorem ns_lp {tok off:Nat} {es:List AV} {l:List PN} (hes:NodeRows es l) (hl:l.length ≤ 1000000) (S0:St) (g:Nat):∀ (n j:Nat) (acc:List (List UInt8 × AV)) (t:T AV) (S:St),j + n=l.length → t.get 3=some (.map g) → t.get 7=some (.sl tok off 6 es) → t.get 8=some (Dl l.length) → t.get 9=some (Dl j) → Nn S0 S g (Iy id acc) →
  WX E9 19 (.loop nsB) ⟨t,[]⟩ S (LoopMp S0 g (Iy id (Po acc (es.drop j) (l.drop j))))
 | 0,j,acc,t,S,hj,h3,h7,h8,h9,hk=>by
  refine D2 (Ds ?_)
  have hlt:¬ ((j:Int) < (l.length:Int)):=by omega
  simp only [Dl] at h8 h9
  simp only [Bz,Bp,A6,Bk,Bn,Bt,C9,A4,Ct,Bf,A7,Be,Bc,Cf,A5,Ba,A8,A0,ofOpt,Bu,C3,Nat.reduceLT,Nat.reduceEqDiff,Aa,Ab,Ac,Am,Aq,Es,nsB,Tryz.f67,h8,h9,hlt]
  rw [List.drop_of_length_le (by rw [hes.len]; omega)]
  exact ⟨_,_,rfl,by simp only [A0,A1,Nat.reduceEqDiff,Aa,Ab,h3],hk⟩
 | n + 1,j,acc,t,S,hj,h3,h7,h8,h9,hk=>by
  refine D2 (Ds ?_)
  have hjl:j < l.length:=by omega
  have hje:j < es.length:=by rw [hes.len]; exact hjl
  have hlt:((j:Int) < (l.length:Int)):=by omega
  have hw:IntKind.i64.wrap ((j:Int) + 1)=((j + 1:Nat):Int):=by rw [IntKind.wrap_i64]; omega
  have hnd:=U9 hes j hjl hje
  have hx:=idxU eu40 Uw tok off es j hje
  rw [List.drop_eq_getElem_cons hje,List.drop_eq_getElem_cons hjl]
  rw [nodesL_cons]
  generalize es[j]=v at hx hnd
  generalize l[j]=nd at hnd
  obtain ⟨cs,rfl,hcl,hc0⟩:=mP hnd
  have hx:Cl Tryz.prog 40 (.sl tok off 6 es) (.v (.int .i64 (j:Int)))=some (.ep cs):=hx
  have hep:=lepU gZ Uw S cs hcl
  have al:=alo49 S
  have q1:=stU Uw (Cu S Ti) rfl hcl
  obtain ⟨_,g2,l2⟩:=Nm S Ti cs
  have hk2:=hk.new Ti cs
  generalize hS2:(S.newBox Ti).put S.next cs=S2 at q1 g2 l2 hk2
  have ln:Ci Tryz.prog S2 9 (.ptr S.next 0)=some (.v (.string ⟨⟨nd.name⟩⟩)):=by
   rw [dP,g2,Gv,hc0]
   rfl
  have lq:=ldU gZ Uw g2 hcl
  have up:=qD id key121 hk2.1 nd.name (.agg cs)
  have hk3:=hk2.upd (es2:=Iy id (Rt acc nd.name (.agg cs)))
  simp only [Dl] at h8 h9
  simp only [id] at up
  generalize hS3:({ S2 with mem:=S2.mem.set g (some (.mp (Iy id (Rt acc nd.name (.agg cs))))) }:St)=S3 at up hk3
  simp only [Bw,Bz,Bp,A6,Bk,Bn,Bt,C9,A4,Ct,Br,Bf,A7,Be,De,Dr,Bc,Ce,A5,Ba,A8,A0,ofOpt,ofOptS,A9,Bu,C3,Dd,Nat.reduceLT,Nat.reduceEqDiff,Aa,Ab,Ac,Am,Ap,Es,nsB,Tryz.f67,h3,h7,h8,h9,hlt,hx,hep,al,q1,fa49_0,ln,lq,up,hw]
  refine ns_lp (tok:=tok) (off:=off) hes hl S0 g n (j + 1) _ _ S3 (by omega) ?_ ?_ ?_ ?_ hk3
  ·simp only [A0,A1,Nat.reduceEqDiff,Aa,Ab,h3]
  ·simp only [A0,A1,Nat.reduceEqDiff,Aa,Ab,h7]
  ·simp only [A0,A1,Nat.reduceEqDiff,Aa,Ab,h8]; rfl
  ·simp only [A0,A1,Nat.reduceEqDiff,Aa,Ab]; rfl
theorem nodesOf_w {v:AV} {l:List PN} {tok off:Nat} {es:List AV} (hv:v=.sl tok off 6 es) (hes:NodeRows es l) (hl:l.length ≤ 1000000) (S:St):WC E9 67 [v] S (fun r=>∃ g S',r=.ret (.map g) S' ∧ Nn S S' g (Iy id (Po [] es l))):=by
 subst hv
 refine Dt Tryz.f67 (by kernel_rfl) (by kernel_rfl) (by kernel_rfl) (by show (_:Nat) ≤ _;simp [Tryz.f67]) ?_
 have hm:=mB S
 have he:=mkMap_eq S
 generalize (Nf S).2=S1 at hm he
 have len:F6 Tryz.prog S1 40 (.sl tok off 6 es)=some l.length:=by simp [F6,un40,hes.len]
 have key:=fun t=>ns_lp (tok:=tok) (off:=off) hes hl S S.next l.length 0 [] t S1 (by omega)
 unfold nsB at key
 simp only [Tryz.f67] at key
 simp only [A6,Bk,Bt,D0,A4,Bf,A7,Be,Bc,A5,Ba,A8,Cd,A0,A1,Bo,ofOpt,ofOptS,A9,Nat.reduceLT,Nat.reduceEqDiff,Aa,Ab,Ac,Ae,Es,Tryz.f67,he,len]
 refine WX.mono (key _ ?_ ?_ ?_ ?_ hm) ?_
 ·simp only [A0,A1,Nat.reduceEqDiff,Aa,Ab]
 ·simp only [A0,A1,Nat.reduceEqDiff,Aa,Ab]
 ·simp only [A0,A1,Nat.reduceEqDiff,Aa,Ab]; rfl
 ·simp only [A0,A1,Nat.reduceEqDiff,Aa,Ab]; rfl
 rintro _ ⟨t2,S2,rfl,h3,hk⟩
 rw [List.drop_zero,List.drop_zero] at hk
 simp only [A6,Bk,B0,A4,Ct,Dy,Bf,A7,Be,Bc,A5,Ba,A8,A0,ofOpt,Bj,By,Bg,Cn,Nat.reduceLT,Nat.reduceEqDiff,Aa,Ab,Ac,h3]
 exact ⟨_,_,rfl,hk⟩
theorem declA_plain (d:PD):(F4 d).plainC=true:=rfl
theorem decls_plain (ds:List PD):(ds.map F4).all AV.plainC=true:=by
 rw [List.all_eq_true]
 intro a ha
 obtain ⟨d,_,rfl⟩:=List.mem_map.1 ha
 exact declA_plain d
theorem cY {v:AV} {ds:List PD} (h:Hq 6 F4 v ds):qU v=some (ds.map F4):=by
 rcases h with ⟨rfl,rfl⟩ | ⟨tok,off,rfl⟩ <;> rfl
theorem all_is {v:AV} {nd:PN} (h:Jb v nd) (hl:nd.ins.length + nd.outs.length + nd.vars.length ≤ 3000) (S:St):∃ w,pU [v] S=.ret w S ∧ Hq 6 F4 w (nd.ins ++ nd.outs ++ nd.vars):=by
 obtain ⟨a,b,c,d,es,rfl,ha,hb,hc,_⟩:=h
 refine ⟨rowW ((nd.ins ++ nd.outs ++ nd.vars).map F4),?_,?_⟩
 ·have hp:=decls_plain (nd.ins ++ nd.outs ++ nd.vars)
  simp only [List.map_append] at hp ⊢
  unfold pU Gg
  simp only [cY ha,cY hb,cY hc,hp,List.length_map,Nat.ble_eq_true_of_le hl,Bool.and_self]
 ·cases nd.ins ++ nd.outs ++ nd.vars with
  | nil=>exact .inl ⟨rfl,rfl⟩
  | cons d l=>exact .inr ⟨0,0,rfl⟩
def tsB:Code:=match Tryz.f68.body with
 | some (.seq _ (.seq _ (.seq (.seq _ (.block _ (.loop b))) _)))=>b
 | _=>.skip
theorem ldbox52 {S:St} {id:Nat} {d:PD} (h:S.mem.get id=some (.box (Fh d))):Ci Tryz.prog S 52 (.ptr id 2)=some (tyA (d.bool,d.fut)):=by
 simp [Ci,Dv,h,ag52,yK,Fh,tyA]
theorem ts_lp {a:AV} (ds:List PD) (ha:Hq 6 F4 a ds) (hl:ds.length ≤ 1000000) (S0:St) (g:Nat):∀ (n j:Nat) (acc:List (List UInt8 × (Bool × Bool))) (t:T AV) (S:St),j + n=ds.length → t.get 3=some (.map g) → t.get 8=some a → t.get 9=some (Dl ds.length) → t.get 10=some (Dl j) → Nn S0 S g (Iy tyA acc) →
  WX E9 21 (.loop tsB) ⟨t,[]⟩ S (LoopMp S0 g (Iy tyA (Pq acc (ds.drop j))))
 | 0,j,acc,t,S,hj,h3,h8,h9,h10,hk=>by
  refine D2 (Ds ?_)
  have hlt:¬ ((j:Int) < (ds.length:Int)):=by omega
  simp only [Dl] at h9 h10
  simp only [Bz,Bp,A6,Bk,Bn,Bt,C9,A4,Ct,Bf,A7,Be,Bc,Cf,A5,Ba,A8,A0,ofOpt,Bu,C3,Nat.reduceLT,Nat.reduceEqDiff,Aa,Ab,Ac,Am,Aq,Es,tsB,Tryz.f68,h9,h10,hlt]
  rw [List.drop_of_length_le (by omega)]
  exact ⟨_,_,rfl,by simp only [A0,A1,Nat.reduceEqDiff,Aa,Ab,h3],hk⟩
 | n + 1,j,acc,t,S,hj,h3,h8,h9,h10,hk=>by
  refine D2 (Ds ?_)
  have hjl:j < ds.length:=by omega
  have hlt:((j:Int) < (ds.length:Int)):=by omega
  have hw:IntKind.i64.wrap ((j:Int) + 1)=((j + 1:Nat):Int):=by rw [IntKind.wrap_i64]; omega
  have hx:=ix46r ha j hjl
  rw [List.drop_eq_getElem_cons hjl]
  rw [namesL_cons]
  generalize ds[j]=d at hx
  have hep:=lep54 S d
  have al:=Yr S
  have q1:=qK (Cu S Oh) rfl d
  obtain ⟨_,g2,l2⟩:=Nm S Oh (Fh d)
  have hk2:=hk.new Oh (Fh d)
  generalize hS2:(S.newBox Oh).put S.next (Fh d)=S2 at q1 g2 l2 hk2
  have ln:Ci Tryz.prog S2 9 (.ptr S.next 0)=some (.v (.string ⟨⟨d.name⟩⟩)):=by rw [dP,g2]; rfl
  have lt:=ldbox52 g2
  have up:=qD tyA key123 hk2.1 d.name (d.bool,d.fut)
  have hk3:=hk2.upd (es2:=Iy tyA (Rt acc d.name (d.bool,d.fut)))
  simp only [Dl] at h9 h10
  generalize hS3:({ S2 with mem:=S2.mem.set g (some (.mp (Iy tyA (Rt acc d.name (d.bool,d.fut))))) }:St)=S3 at up hk3
  simp only [Bw,Bz,Bp,A6,Bk,Bn,Bt,C9,A4,Ct,Br,Bf,A7,Be,De,Dr,Bc,Ce,A5,Ba,A8,A0,ofOpt,ofOptS,A9,Bu,C3,Dd,Nat.reduceLT,Nat.reduceEqDiff,Aa,Ab,Ac,Am,Ap,Es,tsB,Tryz.f68,h3,h8,h9,h10,hlt,hx,hep,al,q1,fa54_0,dW,ln,lt,up,hw]
  refine ts_lp ds ha hl S0 g n (j + 1) _ _ S3 (by omega) ?_ ?_ ?_ ?_ hk3
  ·simp only [A0,A1,Nat.reduceEqDiff,Aa,Ab,h3]
  ·simp only [A0,A1,Nat.reduceEqDiff,Aa,Ab,h8]
  ·simp only [A0,A1,Nat.reduceEqDiff,Aa,Ab,h9]; rfl
  ·simp only [A0,A1,Nat.reduceEqDiff,Aa,Ab]; rfl
def allD (nd:PN):List PD:=nd.ins ++ nd.outs ++ nd.vars
theorem typesOf_w {v:AV} {nd:PN} (h:Jb v nd) (hl:nd.ins.length + nd.outs.length + nd.vars.length ≤ 3000) (S:St):WC E9 68 [v] S (fun r=>∃ g S',r=.ret (.map g) S' ∧ Nn S S' g (Iy tyA (Pq [] (allD nd)))):=by
 have hall:=fun S=>all_is h hl S
 obtain ⟨cs,rfl,hcl,_⟩:=mP h
 refine Dt Tryz.f68 (by kernel_rfl) (by kernel_rfl) (by kernel_rfl) (by show (_:Nat) ≤ _;simp [Tryz.f68]) ?_
 obtain ⟨fn1,hf22⟩:=fng_22
 have g1:=Cu S cs
 have k1:=Cz S cs
 generalize hS1:S.newBox cs=S1 at g1 k1
 have hm:=mB S1
 have he:=mkMap_eq S1
 have lt1:S.next < S1.next:=by rw [← hS1]; exact Nat.lt_succ_self _
 generalize (Nf S1).2=S2 at hm he
 have g2:S2.mem.get S.next=_:=(hm.2.2.2.2 S.next lt1).trans g1
 have lq:=ldU gZ Uw g2 hcl
 obtain ⟨w,hw,hrow⟩:=hall S2
 have len:=Zc S2 hrow
 have hlen:(nd.ins ++ nd.outs ++ nd.vars).length ≤ 1000000:=by simp only [List.length_append]; omega
 have key:=fun t=>ts_lp (allD nd) hrow hlen S1 S1.next (allD nd).length 0 [] t S2 (by omega)
 unfold tsB at key
 simp only [Tryz.f68] at key
 simp only [A6,Bk,A4,Bf,A7,Be,B3,Bc,A5,Ba,A8,Cd,A0,A1,Bo,B5,ofOpt,ofOptS,A9,Nat.reduceLT,Nat.reduceEqDiff,Aa,Ab,Ac,Ae,Aj,Ak,Es,Tryz.f68,Ca,Cb,hS1,he,lq,hf22]
 refine WC.mono (i9_22 _ _ (fun r=>r=.ret w S2) hw) ?_
 rintro _ rfl
 simp only [Bt,D0,A4,Bf,A7,Be,Bc,Co,A5,Ba,A8,A0,A1,Bo,ofOpt,A9,Nat.reduceLT,Nat.reduceEqDiff,Aa,Ab,Ac,Es,len]
 refine WX.mono (key _ ?_ ?_ ?_ ?_ hm) ?_
 ·simp only [A0,A1,Nat.reduceEqDiff,Aa,Ab]
 ·simp only [A0,A1,Nat.reduceEqDiff,Aa,Ab]
 ·simp only [A0,A1,Nat.reduceEqDiff,Aa,Ab]; rfl
 ·simp only [A0,A1,Nat.reduceEqDiff,Aa,Ab]; rfl
 rintro _ ⟨t3,S3,rfl,h3,hk⟩
 rw [List.drop_zero] at hk
 simp only [A6,Bk,B0,A4,Ct,Dy,Bf,A7,Be,Bc,A5,Ba,A8,A0,ofOpt,Bj,By,Bg,Cn,Nat.reduceLT,Nat.reduceEqDiff,Aa,Ab,Ac,h3]
 obtain ⟨x1,x2,x3,x4⟩:=hk
 exact ⟨_,_,rfl,x1,Nat.le_trans k1.1 x2,x3,k1.trans x4⟩
end Go.Ax
