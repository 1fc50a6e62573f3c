/- Gs -/
import Derived.Test.YtjgknelmjdallaaGreatDoorTaG27
set_option linter.unusedVariables false
set_option linter.unusedSimpArgs false
set_option maxHeartbeats 16000000
noncomputable section
namespace Go.Ax
open Go.RowKit Go.Proofs
set_option maxRecDepth 100000
theorem fng_135:∃ fn,E9.F 135=some fn:=Option.isSome_iff_exists.1 (by kernel_rfl)
theorem fng_106:∃ fn,E9.F 106=some fn:=Option.isSome_iff_exists.1 (by kernel_rfl)
theorem idxU {t e n:Nat} (he:H8 Tryz.prog t=some (none,e)) (hs:Fl Tryz.prog e=some n) (tok off:Nat) (es:List AV) (j:Nat) (h:j < es.length):Dd Tryz.prog t (.sl tok off n es) (.v (.int .i64 (j:Int)))=some (.ep es[j].cells):=by
 have h0:(0:Int) ≤ (j:Int):=by omega
 simp [Dd,h0,he,hs,h]
theorem lepU {e n:Nat} (ha:Fp Tryz.prog e=some true) (hs:Fl Tryz.prog e=some n) (S:St) (ys:List AV) (h:ys.length=n):Ch Tryz.prog S e (.ep ys)=some (.agg ys):=by
 have e2:ys.take n=ys:=List.take_of_length_le (by omega)
 simp [Ch,Dr,ha,hs,h,e2]
theorem stU {e n:Nat} (hs:Fl Tryz.prog e=some n) {S:St} {id:Nat} {cs ys:List AV} (h:S.mem.get id=some (.box cs)) (hl:cs.length=n) (hy:ys.length=n):Di Tryz.prog S e (.ptr id 0) (.agg ys)=some (S.put id ys):=by
 have h2:(AV.agg ys).noTup=true:=rfl
 simp [Di,h,hs,h2,AV.cells,hl,hy,St.put,List.drop_eq_nil_of_le]
theorem ldU {e n:Nat} (ha:Fp Tryz.prog e=some true) (hs:Fl Tryz.prog e=some n) {S:St} {id:Nat} {cs:List AV} (h:S.mem.get id=some (.box cs)) (hl:cs.length=n):Ch Tryz.prog S e (.ptr id 0)=some (.agg cs):=by
 have e2:cs.take n=cs:=List.take_of_length_le (by omega)
 simp [Ch,Dr,h,ha,hs,hl,e2]
theorem Mq (S:St) (z ys:List AV):Em S ((S.newBox z).put S.next ys) ∧ ((S.newBox z).put S.next ys).mem.get S.next=some (.box ys) ∧ S.next < ((S.newBox z).put S.next ys).next :=
 ⟨En (Ct S _) (Nat.le_refl _) _,Eg _ _ _,Nat.lt_succ_self _⟩
theorem eu47:H8 Tryz.prog 47=some (none,57):=by kernel_rfl
theorem eu40:H8 Tryz.prog 40=some (none,49):=by kernel_rfl
theorem eu202:H8 Tryz.prog 202=some (none,52):=by kernel_rfl
theorem un202:Tryz.prog.underlying 202=some (.slice 52):=by kernel_rfl
theorem zr52:Ll Tryz.prog 52=some (tyA (false,false)):=by kernel_rfl
theorem hY (t:Bool × Bool):Du Tryz.prog 202 1 [(0,tyA t)]=some (.sl 1 0 2 [tyA t]):=by
 simp [Du,eu202,uV,zr52,B8,B9,tyA]
theorem i52:(Tryz.prog.info? 52).map (fun i=>(i.zero,i.size,i.bytes))=some (some (.agg #[.bool false,.bool false]),2,2):=by kernel_rfl
theorem app202 (S:St) (t:Bool × Bool):He E9 S 202 202 .nils (.sl 1 0 2 [tyA t])=some (.sl S.next 0 2 [tyA t],S.grown 1 2):=by
 obtain ⟨i,hi,hz0,hz1,hz2⟩:=Hn i52
 show Fm Tryz.prog S 202 202 .nils (.sl 1 0 2 [tyA t])=_
 simp [Fm,eu202,hi,hz0,hz1,hz2,Mt,un202,Value.cells]
theorem len202 (S:St) (tok off:Nat) (t:Bool × Bool):F5 Tryz.prog S 202 (.sl tok off 2 [tyA t])=some 1:=by simp [F5,un202]
theorem ix202 (tok off:Nat) (t:Bool × Bool):Dd Tryz.prog 202 (.sl tok off 2 [tyA t]) (.v (.int .i64 0))=some (.ep (tyC t)):=by
 simp [Dd,eu202,uV,tyA,tyC,AV.cells]
theorem ldep52 (S:St) (t:Bool × Bool):Ch Tryz.prog S 52 (.ep (tyC t))=some (tyA t):=by
 simp [Ch,Dr,ag52,uV,tyA,tyC]
theorem vO (tok off:Nat) (t:Bool × Bool):Ga (.sl tok off 2 [tyA t]) (.sl tok off 2 [tyA t])=true:=by
 simp [Ga,Mg,aA]
theorem fld49 (nm:List UInt8) (ps:Nat) (a bb c d:AV) {ds:List PD} (h:Hl 6 F0 bb ds):Ny Tryz.prog 49 (.agg (Ge nm ps a bb c d)) 3=some bb:=by
 rcases h with ⟨rfl,rfl⟩ | ⟨tok,off,rfl⟩ <;> kernel_rfl
theorem dC (S:St) (k:Nat):Em S (S.grown 1 k):=⟨Nat.le_succ _,fun id hid=>by
 show (S.mem.set S.next _).get id=_
 rw [T.get_set,if_neg (by omega)]⟩
theorem fa30_20 (b:Nat):Cw Tryz.prog 30 (.ptr b 2) 0=some (.ptr b 2):=by kernel_rfl
theorem fa30_21 (b:Nat):Cw Tryz.prog 30 (.ptr b 2) 1=some (.ptr b 3):=by kernel_rfl
theorem fa30_23 (b:Nat):Cw Tryz.prog 30 (.ptr b 2) 3=some (.ptr b 5):=by kernel_rfl
theorem bl52bb (x y:Bool):Gj Tryz.prog 52 [(0,.v (.bool x)),(1,.v (.bool y))]=some (tyA (x,y)):=by kernel_rfl
theorem things_ne {s m:Nat} {mn:NdM} {names:List (List UInt8 × (Bool × Bool))} {Ty:PE → Nat × Nat → (Bool × Bool) × (Nat × Nat)} (lv:AV) (async:Bool) (xs:List AV) (e:PE) (hr:RepE (.agg xs) e) (hk:¬ Iu e=13) (hT:dV s m mn names Ty e) (S:St) (f:Nat × Nat) (hc:Cx s m mn names S f):WC E9 135 [.ptr s 0,.agg (eqC lv async xs)] S (fun r=>∃ S' tok off,r=.ret (.sl tok off 2 [tyA (Ty e f).1]) S' ∧ Cx s m mn names S' (Ty e f).2 ∧ D9 s S S'):=by
 refine Do Tryz.f135 (by kernel_rfl) (by kernel_rfl) (by kernel_rfl) (by show (_:Nat) ≤ _;simp [Tryz.f135]) ?_
 obtain ⟨fn1,hf163⟩:=sZ
 have hr0:=hr
 cases hr with
 | mk kind pos n name off kv kids hkv =>
 have hk:¬ kind=13:=hk
 have g1:=Cs S (eqC lv async (exC kind pos n name off kv))
 have k1:=Ct S (eqC lv async (exC kind pos n name off kv))
 have n1:(S.newBox (eqC lv async (exC kind pos n name off kv))).next=S.next + 1:=rfl
 generalize hS1:S.newBox (eqC lv async (exC kind pos n name off kv))=S1 at g1 k1 n1
 have hc1:=hc.keep k1
 have l30:Ch Tryz.prog S1 30 (.ptr S.next 2)=some (.agg (exC kind pos n name off kv)):=ldq2 g1 rfl
 simp only [A6,Bk,A4,Bh,A7,Be,B3,Bd,A5,Bb,A9,Cb,A0,A1,Bn,B4,ofOpt,Ba,Nat.reduceLT,Nat.reduceAdd,Nat.reduceEqDiff,Aa,Ab,Ac,Ae,Aj,Ak,E3,Tryz.f135,B8,B9,hS1,fq2,l30,hf163]
 refine WC.mono (hT _ S1 f hr0 hc1) ?_
 rintro _ ⟨S2,rfl,hc2,k2⟩
 generalize (Ty (.mk kind pos n name off kids) f).2=f2 at hc2 ⊢
 generalize (Ty (.mk kind pos n name off kids) f).1=ty
 have hlt:=hc.g.lt
 have p2:S2.mem.get S.next=_:=(k2.2 S.next (by omega) (by omega)).trans g1
 have al:=Te S2
 have q3:=Yl (Cs S2 (tyC (false,false))) ty
 obtain ⟨k3,g3,l3⟩:=Mq S2 (tyC (false,false)) (tyC ty)
 have p3:((S2.newBox (tyC (false,false))).put S2.next (tyC ty)).mem.get S.next=_:=(k3.2 S.next (by have:=k2.1; omega)).trans p2
 generalize hS3:(S2.newBox (tyC (false,false))).put S2.next (tyC ty)=S3 at q3 k3 g3 l3 p3
 have hc3:=hc2.keep k3
 have lt3:=P6 (t:=ty) g3
 have lk3:Ch Tryz.prog S3 3 (.ptr S.next 2)=some (.v (.int .i64 (kind:Int))):=by rw [mJ,p3]; rfl
 have e13:((kind:Int) != 13)=true:=by rw [bne_iff_ne]; omega
 have hrow:=hY ty
 simp only [Bp,A6,Cj,Bk,Bo,Bw,A4,B1,Bh,A7,Be,Dm,Dy,Bd,Cn,Cf,A5,Bb,A9,A0,A1,ofOpt,ofOptS,Ba,Bv,Bt,Bj,Bu,Bf,Ci,C7,Nat.reduceLT,Nat.reduceEqDiff,Aa,Ab,Ac,Am,E3,al,q3,fq2,fa30_20,lk3,e13,lt3,hrow]
 exact ⟨_,_,_,rfl,hc3,((k1.x s).trans k2).trans (k3.x s)⟩
theorem uO {s m:Nat} {mn:NdM} {names:List (List UInt8 × (Bool × Bool))} {Ty:PE → Nat × Nat → (Bool × Bool) × (Nat × Nat)} (lv:AV) (async:Bool) (xs:List AV) (pos:Nat) (n:Int) (name:List UInt8) (off:Bool) (kids:List PE) (hr:RepE (.agg xs) (.mk 13 pos n name off kids)) {v:AV} {nd:PN} (hN:Ub mn.l name=some v) (hnd:Kg v nd) (dd:PD) (ho:nd.outs=[dd]) (hT:dV s m mn names Ty (.mk 13 pos n name off kids)) (S:St) (f:Nat × Nat) (hc:Cx s m mn names S f):WC E9 135 [.ptr s 0,.agg (eqC lv async xs)] S (fun r=>∃ S' tok off2,r=.ret (.sl tok off2 2 [tyA (dd.bool,dd.fut || async)]) S' ∧ Cx s m mn names S' (Ty (.mk 13 pos n name off kids) f).2 ∧ D9 s S S'):=by
 refine Do Tryz.f135 (by kernel_rfl) (by kernel_rfl) (by kernel_rfl) (by show (_:Nat) ≤ _;simp [Tryz.f135]) ?_
 obtain ⟨fn1,hf163⟩:=sZ
 obtain ⟨fn2,hf104⟩:=Rk
 have rv:=oJ hnd
 obtain ⟨a,bb,c,d,es,rfl,ha,hb,hcv,hd,he⟩:=hnd
 have hr0:=hr
 cases hr with
 | mk _ _ _ _ _ kv _ hkv =>
 have g1:=Cs S (eqC lv async (exC 13 pos n name off kv))
 have k1:=Ct S (eqC lv async (exC 13 pos n name off kv))
 have n1:(S.newBox (eqC lv async (exC 13 pos n name off kv))).next=S.next + 1:=rfl
 generalize hS1:S.newBox (eqC lv async (exC 13 pos n name off kv))=S1 at g1 k1 n1
 have hc1:=hc.keep k1
 have l30:Ch Tryz.prog S1 30 (.ptr S.next 2)=some (.agg (exC 13 pos n name off kv)):=ldq2 g1 rfl
 simp only [A6,Bk,A4,Bh,A7,Be,B3,Bd,A5,Bb,A9,Cb,A0,A1,Bn,B4,ofOpt,Ba,Nat.reduceLT,Nat.reduceAdd,Nat.reduceEqDiff,Aa,Ab,Ac,Ae,Aj,Ak,E3,Tryz.f135,B8,B9,hS1,fq2,l30,hf163]
 refine WC.mono (hT _ S1 f hr0 hc1) ?_
 rintro _ ⟨S2,rfl,hc2,k2⟩
 generalize (Ty (.mk 13 pos n name off kids) f).2=f2 at hc2 ⊢
 generalize (Ty (.mk 13 pos n name off kids) f).1=ty
 have hlt:=hc.g.lt
 have p2:S2.mem.get S.next=_:=(k2.2 S.next (by omega) (by omega)).trans g1
 have al:=Te S2
 have q3:=Yl (Cs S2 (tyC (false,false))) ty
 obtain ⟨k3,g3,l3⟩:=Mq S2 (tyC (false,false)) (tyC ty)
 have p3:((S2.newBox (tyC (false,false))).put S2.next (tyC ty)).mem.get S.next=_:=(k3.2 S.next (by have:=k2.1; omega)).trans p2
 generalize hS3:(S2.newBox (tyC (false,false))).put S2.next (tyC ty)=S3 at q3 k3 g3 l3 p3
 have hc3:=hc2.keep k3
 have lk3:Ch Tryz.prog S3 3 (.ptr S.next 2)=some (.v (.int .i64 ((13:Nat):Int))):=by rw [mJ,p3]; rfl
 have e13:(((13:Nat):Int) != 13)=false:=rfl
 have lm:Ch Tryz.prog S3 121 (.ptr s 0)=some (.map mn.g):=by rw [ldc121,hc3.g.box]; rfl
 have ln:Ch Tryz.prog S3 9 (.ptr S.next 5)=some (.v (.string ⟨⟨name⟩⟩)):=by rw [bF,p3]; rfl
 have lk:Ia Tryz.prog S3 121 (.map mn.g) (.v (.string ⟨⟨name⟩⟩)) false=some (.agg (Ge nd.name nd.pos a bb c d)):=sJ hc3.nd hN
 have lf:=fld49 nd.name nd.pos a bb c d hb
 simp only [Bp,A6,Cj,Bk,Bo,A4,Bh,A7,Be,Dm,Dy,Bd,Cn,Cg,A5,Bb,A9,A0,A1,ofOpt,ofOptS,Ba,Bt,C7,Nat.reduceLT,Nat.reduceEqDiff,Aa,Ab,Ac,Am,E3,al,q3,fq2,fa30_20,lk3,e13]
 refine Gy [(0,true),(1,true),(2,true),(3,true),(4,true),(5,true),(6,true),(7,true),(8,true),(9,true)] (by kernel_rfl) (by kernel_rfl) ?_
 simp only [A6,Bk,A4,A7,Be,Bd,A5,Bb,A9,A0,A1,ofOpt,Nat.reduceLT,Nat.reduceEqDiff,Aa,Ab,Ac,Af,Ag,Ah,E3,fa125_0,fq2,fa30_23,lm,ln,lk,lf,Eu,Dx,C8,Co,Ed,Gz]
 have la:Ch Tryz.prog S3 4 (.ptr S.next 1)=some (.v (.bool async)):=ldq1 p3
 have lp:Ch Tryz.prog S3 3 (.ptr S.next 3)=some (.v (.int .i64 (pos:Int))):=by rw [mJ,p3]; rfl
 have leno:=Xw S3 hb
 rw [ho] at leno
 have leno:F5 Tryz.prog S3 46 bb=some 1:=leno
 have e1:(((1:Nat):Int) != 1)=false:=rfl
 have tl:=Tj hc3.g false pos 12
 have et:Jm false pos 12 f2=f2:=rfl
 rw [et] at tl
 have ix:=xM hb 0 (by rw [ho]; exact Nat.succ_pos _)
 have hg:nd.outs[0]'(by rw [ho]; exact Nat.succ_pos _)=dd:=by simp only [ho,List.getElem_cons_zero]
 rw [hg] at ix
 have ix:Dd Tryz.prog 46 bb (.v (.int .i64 0))=some (.ep (Fg dd)):=ix
 cases async
 ·simp only [A7,Cp,Be,B3,Bd,A5,Bb,A9,A0,A1,Bn,B4,ofOpt,Ba,Bt,Nat.reduceLT,Nat.reduceEqDiff,Aa,Ab,Ac,Af,Ag,Ah,Ai,Aj,Ak,Am,Ar,Av,E3,O5,fq1,fq2,fa30_21,la,lp,hf104]
  refine WC.mono tl ?_
  rintro _ ⟨S4,rfl,hg4,k4,n4⟩
  have hc4:=hc3.x k4 hg4
  have p4:S4.mem.get S.next=_:=(k4.2 S.next (by have:=k2.1; have:=k3.1; omega) (by omega)).trans p3
  have leno4:F5 Tryz.prog S4 46 bb=some 1:=by have:=Xw S4 hb; rw [ho] at this; exact this
  have hl1:((0:Int) < ((1:Nat):Int)):=by decide
  have hw1:IntKind.i64.wrap (0 + 1)=1:=by rw [IntKind.wrap_i64]; rfl
  have hl2:¬ ((1:Int) < ((1:Nat):Int)):=by decide
  have al5:=Xe S4
  have q5:=nF (Cs S4 Nq) rfl dd
  obtain ⟨k5,g5,l5⟩:=Mq S4 Nq (Fg dd)
  have p5:((S4.newBox Nq).put S4.next (Fg dd)).mem.get S.next=_:=(k5.2 S.next (by have:=k2.1; have:=k3.1; omega)).trans p4
  have lep:=xI S4 dd
  generalize hS5:(S4.newBox Nq).put S4.next (Fg dd)=S5 at q5 k5 g5 l5 p5
  have lb5:Ch Tryz.prog S5 4 (.ptr S4.next 2)=some (.v (.bool dd.bool)):=by rw [sP,g5]; rfl
  have lf5:Ch Tryz.prog S5 4 (.ptr S4.next 3)=some (.v (.bool dd.fut)):=by rw [sP,g5]; rfl
  have la5:Ch Tryz.prog S5 4 (.ptr S.next 1)=some (.v (.bool false)):=ldq1 p5
  have hap:=app202 S5 (dd.bool,dd.fut || false)
  have hrow:=hY (dd.bool,dd.fut || false)
  have hb5:=bl52bb dd.bool (dd.fut || false)
  have k6:Em S5 (S5.grown 1 2):=dC S5 2
  have hc6:=(hc4.keep k5).keep k6
  have kk:=(k4.trans (k5.x s)).trans (k6.x s)
  generalize S5.grown 1 2=S6 at hap k6 hc6 kk
  have kall:=(((k1.x s).trans k2).trans (k3.x s)).trans kk
  cases hfu:dd.fut
  ·rw [hfu] at lf5 hap hrow hb5
   have hap:He E9 S5 202 202 .nils (.sl 1 0 2 [tyA (dd.bool,false)])=some (.sl S5.next 0 2 [tyA (dd.bool,false)],S6):=hap
   have hrow:Du Tryz.prog 202 1 [(0,tyA (dd.bool,false))]=some (.sl 1 0 2 [tyA (dd.bool,false)]):=hrow
   have hb5:Gj Tryz.prog 52 [(0,.v (.bool dd.bool)),(1,.v (.bool false))]=some (tyA (dd.bool,false)):=hb5
   simp only [A6,Bk,Bs,Dv,A4,Bh,A7,Be,Bd,Cn,A5,Bb,A9,A0,A1,Bn,ofOpt,Ba,Nat.reduceLT,Nat.reduceEqDiff,Aa,Ab,Ac,E3,leno4]
   refine D0 (Ds ?_)
   simp only [By,Bz,Bp,A6,Bk,Bo,Bs,C9,Bw,A4,C0,Br,Dw,Bh,A7,Be,Dm,Dy,Bd,Cf,A5,Bb,A9,A0,A1,Bn,ofOpt,ofOptS,Ba,Bv,Bt,Bj,Bu,Bf,Ci,C6,Dh,Nat.reduceLT,Nat.reduceEqDiff,Aa,Ab,Ac,Af,Ag,Ah,Ai,Al,Am,Ap,E3,hl1,ix,lep,al5,q5,bN,fG,Zp,lb5,lf5,fq1,la5,hb5,hrow,hap]
   simp only [hw1]
   refine D0 (Ds ?_)
   simp only [Bz,Bp,A6,Bk,Bo,Bs,C9,Bw,A4,C0,Dw,Bh,A7,Be,Bd,Cg,A5,Bb,A9,A0,A1,ofOpt,Bt,Bj,Bu,Bf,Ci,C6,Nat.reduceLT,Nat.reduceEqDiff,Aa,Ab,Ac,Am,Aq,E3,hl2]
   exact ⟨_,_,_,rfl,hc6,kall⟩
  ·rw [hfu] at lf5 hap hrow hb5
   have hap:He E9 S5 202 202 .nils (.sl 1 0 2 [tyA (dd.bool,true)])=some (.sl S5.next 0 2 [tyA (dd.bool,true)],S6):=hap
   have hrow:Du Tryz.prog 202 1 [(0,tyA (dd.bool,true))]=some (.sl 1 0 2 [tyA (dd.bool,true)]):=hrow
   have hb5:Gj Tryz.prog 52 [(0,.v (.bool dd.bool)),(1,.v (.bool true))]=some (tyA (dd.bool,true)):=hb5
   simp only [A6,Bk,Bs,Dv,A4,Bh,A7,Be,Bd,Cn,A5,Bb,A9,A0,A1,Bn,ofOpt,Ba,Nat.reduceLT,Nat.reduceEqDiff,Aa,Ab,Ac,E3,leno4]
   refine D0 (Ds ?_)
   simp only [By,Bz,Bp,A6,Bk,Bo,Bs,C9,Bw,A4,C0,Br,Dw,Bh,A7,Cp,Be,Dm,Dy,Bd,Cf,A5,Bb,A9,A0,A1,Bn,ofOpt,ofOptS,Ba,Bv,Bt,Bj,Bu,Bf,Ci,C6,Dh,Nat.reduceLT,Nat.reduceEqDiff,Aa,Ab,Ac,Af,Ag,Ah,Ai,Am,Ap,Aw,E3,hl1,ix,lep,al5,q5,bN,fG,Zp,lb5,lf5,fq1,hb5,hrow,hap]
   simp only [hw1]
   refine D0 (Ds ?_)
   simp only [Bz,Bp,A6,Bk,Bo,Bs,C9,Bw,A4,C0,Dw,Bh,A7,Be,Bd,Cg,A5,Bb,A9,A0,A1,ofOpt,Bt,Bj,Bu,Bf,Ci,C6,Nat.reduceLT,Nat.reduceEqDiff,Aa,Ab,Ac,Am,Aq,E3,hl2]
   exact ⟨_,_,_,rfl,hc6,kall⟩
 ·simp only [A7,Be,B3,Bd,A5,Bb,A9,A0,A1,Bn,B4,ofOpt,Ba,Bt,C7,Nat.reduceLT,Nat.reduceEqDiff,Aa,Ab,Ac,Af,Ag,Ah,Ai,Aj,Ak,Al,Am,E3,fq1,fq2,fa30_21,la,lp,leno,e1,hf104]
  refine WC.mono tl ?_
  rintro _ ⟨S4,rfl,hg4,k4,n4⟩
  have hc4:=hc3.x k4 hg4
  have p4:S4.mem.get S.next=_:=(k4.2 S.next (by have:=k2.1; have:=k3.1; omega) (by omega)).trans p3
  have leno4:F5 Tryz.prog S4 46 bb=some 1:=by have:=Xw S4 hb; rw [ho] at this; exact this
  have hl1:((0:Int) < ((1:Nat):Int)):=by decide
  have hw1:IntKind.i64.wrap (0 + 1)=1:=by rw [IntKind.wrap_i64]; rfl
  have hl2:¬ ((1:Int) < ((1:Nat):Int)):=by decide
  have al5:=Xe S4
  have q5:=nF (Cs S4 Nq) rfl dd
  obtain ⟨k5,g5,l5⟩:=Mq S4 Nq (Fg dd)
  have p5:((S4.newBox Nq).put S4.next (Fg dd)).mem.get S.next=_:=(k5.2 S.next (by have:=k2.1; have:=k3.1; omega)).trans p4
  have lep:=xI S4 dd
  generalize hS5:(S4.newBox Nq).put S4.next (Fg dd)=S5 at q5 k5 g5 l5 p5
  have lb5:Ch Tryz.prog S5 4 (.ptr S4.next 2)=some (.v (.bool dd.bool)):=by rw [sP,g5]; rfl
  have lf5:Ch Tryz.prog S5 4 (.ptr S4.next 3)=some (.v (.bool dd.fut)):=by rw [sP,g5]; rfl
  have la5:Ch Tryz.prog S5 4 (.ptr S.next 1)=some (.v (.bool true)):=ldq1 p5
  have hap:=app202 S5 (dd.bool,dd.fut || true)
  have hrow:=hY (dd.bool,dd.fut || true)
  have hb5:=bl52bb dd.bool (dd.fut || true)
  have k6:Em S5 (S5.grown 1 2):=dC S5 2
  have hc6:=(hc4.keep k5).keep k6
  have kk:=(k4.trans (k5.x s)).trans (k6.x s)
  generalize S5.grown 1 2=S6 at hap k6 hc6 kk
  have kall:=(((k1.x s).trans k2).trans (k3.x s)).trans kk
  cases hfu:dd.fut
  ·rw [hfu] at lf5 hap hrow hb5
   have hap:He E9 S5 202 202 .nils (.sl 1 0 2 [tyA (dd.bool,true)])=some (.sl S5.next 0 2 [tyA (dd.bool,true)],S6):=hap
   have hrow:Du Tryz.prog 202 1 [(0,tyA (dd.bool,true))]=some (.sl 1 0 2 [tyA (dd.bool,true)]):=hrow
   have hb5:Gj Tryz.prog 52 [(0,.v (.bool dd.bool)),(1,.v (.bool true))]=some (tyA (dd.bool,true)):=hb5
   simp only [A6,Bk,Bs,Dv,A4,Bh,A7,Be,Bd,Cn,A5,Bb,A9,A0,A1,Bn,ofOpt,Ba,Nat.reduceLT,Nat.reduceEqDiff,Aa,Ab,Ac,E3,leno4]
   refine D0 (Ds ?_)
   simp only [By,Bz,Bp,A6,Bk,Bo,Bs,C9,Bw,A4,C0,Br,Dw,Bh,A7,Be,Dm,Dy,Bd,Cf,A5,Bb,A9,A0,A1,Bn,ofOpt,ofOptS,Ba,Bv,Bt,Bj,Bu,Bf,Ci,C6,Dh,Nat.reduceLT,Nat.reduceEqDiff,Aa,Ab,Ac,Af,Ag,Ah,Ai,Al,Am,Ap,E3,hl1,ix,lep,al5,q5,bN,fG,Zp,lb5,lf5,fq1,la5,hb5,hrow,hap]
   simp only [hw1]
   refine D0 (Ds ?_)
   simp only [Bz,Bp,A6,Bk,Bo,Bs,C9,Bw,A4,C0,Dw,Bh,A7,Be,Bd,Cg,A5,Bb,A9,A0,A1,ofOpt,Bt,Bj,Bu,Bf,Ci,C6,Nat.reduceLT,Nat.reduceEqDiff,Aa,Ab,Ac,Am,Aq,E3,hl2]
   exact ⟨_,_,_,rfl,hc6,kall⟩
  ·rw [hfu] at lf5 hap hrow hb5
   have hap:He E9 S5 202 202 .nils (.sl 1 0 2 [tyA (dd.bool,true)])=some (.sl S5.next 0 2 [tyA (dd.bool,true)],S6):=hap
   have hrow:Du Tryz.prog 202 1 [(0,tyA (dd.bool,true))]=some (.sl 1 0 2 [tyA (dd.bool,true)]):=hrow
   have hb5:Gj Tryz.prog 52 [(0,.v (.bool dd.bool)),(1,.v (.bool true))]=some (tyA (dd.bool,true)):=hb5
   simp only [A6,Bk,Bs,Dv,A4,Bh,A7,Be,Bd,Cn,A5,Bb,A9,A0,A1,Bn,ofOpt,Ba,Nat.reduceLT,Nat.reduceEqDiff,Aa,Ab,Ac,E3,leno4]
   refine D0 (Ds ?_)
   simp only [By,Bz,Bp,A6,Bk,Bo,Bs,C9,Bw,A4,C0,Br,Dw,Bh,A7,Cp,Be,Dm,Dy,Bd,Cf,A5,Bb,A9,A0,A1,Bn,ofOpt,ofOptS,Ba,Bv,Bt,Bj,Bu,Bf,Ci,C6,Dh,Nat.reduceLT,Nat.reduceEqDiff,Aa,Ab,Ac,Af,Ag,Ah,Ai,Am,Ap,Aw,E3,hl1,ix,lep,al5,q5,bN,fG,Zp,lb5,lf5,fq1,hb5,hrow,hap]
   simp only [hw1]
   refine D0 (Ds ?_)
   simp only [Bz,Bp,A6,Bk,Bo,Bs,C9,Bw,A4,C0,Dw,Bh,A7,Be,Bd,Cg,A5,Bb,A9,A0,A1,ofOpt,Bt,Bj,Bu,Bf,Ci,C6,Nat.reduceLT,Nat.reduceEqDiff,Aa,Ab,Ac,Am,Aq,E3,hl2]
   exact ⟨_,_,_,rfl,hc6,kall⟩
theorem fng_70:∃ fn,E9.F 70=some fn:=Option.isSome_iff_exists.1 (by kernel_rfl)
theorem len55r (S:St) {lv:AV} {l:List (List UInt8 × Nat)} (h:Hl 2 G6 lv l):F5 Tryz.prog S 55 lv=some l.length:=by
 rcases h with ⟨rfl,rfl⟩ | ⟨tok,off,rfl⟩ <;> simp [F5,uL]
theorem ix55r {v:AV} {l:List (List UInt8 × Nat)} (h:Hl 2 G6 v l) (j:Nat) (hj:j < l.length):Dd Tryz.prog 55 v (.v (.int .i64 (j:Int)))=some (.ep (Ib l[j])):=by
 rcases h with ⟨rfl,rfl⟩ | ⟨tok,off,rfl⟩
 ·cases hj
 ·exact idx55d tok off l j hj
theorem fq0 (b:Nat):Cw Tryz.prog 57 (.ptr b 0) 0=some (.ptr b 0):=by kernel_rfl
theorem fa59_0 (b:Nat):Cw Tryz.prog 59 (.ptr b 0) 0=some (.ptr b 0):=by kernel_rfl
theorem fa59_1 (b:Nat):Cw Tryz.prog 59 (.ptr b 0) 1=some (.ptr b 1):=by kernel_rfl
def ThingsA (s m:Nat) (mn:NdM) (names:List (List UInt8 × (Bool × Bool))) (cs:List AV) (tt:Nat × Nat → Bool × Bool) (ff:Nat × Nat → Nat × Nat):Prop:=∀ (S:St) (f:Nat × Nat),Cx s m mn names S f → WC E9 135 [.ptr s 0,.agg cs] S (fun r=>∃ S' tok off,r=.ret (.sl tok off 2 [tyA (tt f)]) S' ∧ Cx s m mn names S' (ff f) ∧ D9 s S S')
def eqF (names:List (List UInt8 × (Bool × Bool))) (tt:Nat × Nat → Bool × Bool) (ff:Nat × Nat → Nat × Nat) (lf:List UInt8 × Nat) (f:Nat × Nat):Nat × Nat:=Jm (!(((I8 names lf.1).1 == (tt f).1) && ((I8 names lf.1).2 == (tt f).2))) lf.2 7 (ff f)
theorem eq_w {s m:Nat} {mn:NdM} {names:List (List UInt8 × (Bool × Bool))} (lv:AV) (async:Bool) (xs:List AV) (hxl:xs.length=6) (lf:List UInt8 × Nat) (hlv:Hl 2 G6 lv [lf]) (rx:Mg xs xs=true) {tt:Nat × Nat → Bool × Bool} {ff:Nat × Nat → Nat × Nat} (hT:ThingsA s m mn names (eqC lv async xs) tt ff) (S:St) (f:Nat × Nat) (hc:Cx s m mn names S f):WC E9 106 [.ptr s 0,.agg (eqC lv async xs)] S (fun r=>∃ S',r=.ret (.tup []) S' ∧ Cx s m mn names S' (eqF names tt ff lf f) ∧ D9 s S S'):=by
 refine Do Tryz.f106 (by kernel_rfl) (by kernel_rfl) (by kernel_rfl) (by show (_:Nat) ≤ _;simp [Tryz.f106]) ?_
 obtain ⟨fn1,hf135⟩:=fng_135
 obtain ⟨fn2,hf104⟩:=Rk
 have hcl:(eqC lv async xs).length=8:=by simp [eqC,hxl]
 have g1:=Cs S (eqC lv async xs)
 have k1:=Ct S (eqC lv async xs)
 have n1:(S.newBox (eqC lv async xs)).next=S.next + 1:=rfl
 generalize hS1:S.newBox (eqC lv async xs)=S1 at g1 k1 n1
 have hc1:=hc.keep k1
 have l57:=ldU ag57 gC g1 hcl
 simp only [A6,Bk,A4,Bh,A7,Be,B3,Bd,A5,Bb,A9,Cb,A0,A1,Bn,B4,ofOpt,Nat.reduceLT,Nat.reduceAdd,Nat.reduceEqDiff,Aa,Ab,Ac,Ae,Aj,Ak,E3,Tryz.f106,B8,B9,hS1,l57,hf135]
 refine WC.mono (hT S1 f hc1) ?_
 rintro _ ⟨S2,tok,off,rfl,hc2,k2⟩
 unfold eqF
 generalize ff f=f2 at hc2 ⊢
 generalize tt f=ty
 have hlt:=hc.g.lt
 have p2:S2.mem.get S.next=_:=(k2.2 S.next (by omega) (by omega)).trans g1
 have l55:Ch Tryz.prog S2 55 (.ptr S.next 0)=some lv:=ldq0 p2
 have ll:=len55r S2 hlv
 have ll:F5 Tryz.prog S2 55 lv=some 1:=ll
 have lr:=len202 S2 tok off ty
 have hmin:(if ((1:Nat):Int) < ((1:Nat):Int) then ((1:Nat):Int) else ((1:Nat):Int))=1:=rfl
 have hl1:((0:Int) < 1):=by decide
 have hl2:¬ ((1:Int) < 1):=by decide
 have hw1:IntKind.i64.wrap (0 + 1)=1:=by rw [IntKind.wrap_i64]; rfl
 have ixl:Dd Tryz.prog 55 lv (.v (.int .i64 0))=some (.ep (Ib lf)):=ix55r hlv 0 (Nat.succ_pos _)
 have lep:=lep59 S2 lf
 have al:=alo59 S2
 have q3:=st59w (Cs S2 fM) rfl lf
 obtain ⟨k3,g3,l3⟩:=Mq S2 fM (Ib lf)
 generalize hS3:(S2.newBox fM).put S2.next (Ib lf)=S3 at q3 k3 g3 l3
 have hc3:=hc2.keep k3
 simp only [A6,Bk,Bs,Dv,A4,Bh,A7,Be,Bd,Cn,A5,Bb,A9,A0,A1,Bn,ofOpt,Ba,Nat.reduceLT,Nat.reduceEqDiff,Aa,Ab,Ac,E3,O5,fq0,l55,ll,lr,dG,wX,hmin]
 refine D0 (Ds ?_)
 simp only [Bz,Bp,A6,Cj,Bk,Bo,Bs,C9,A4,C0,Dw,Bh,A7,Be,Dm,Dy,Bd,Cf,A5,Bb,A9,A0,A1,ofOpt,ofOptS,Bt,C6,Nat.reduceLT,Nat.reduceEqDiff,Aa,Ab,Ac,Am,Ap,E3,hl1,fq0,l55,ixl,lep,al,q3]
 refine Gy [(0,true),(1,true),(2,true),(3,true),(4,true),(5,true),(6,true),(7,true),(8,true),(9,true),(10,true),(11,true),(12,true),(13,true),(14,true),(15,true)] (by kernel_rfl) (by kernel_rfl) ?_
 have lm:Ch Tryz.prog S3 123 (.ptr s 1)=some (.map m):=by rw [Xy,hc3.g.box]; rfl
 have ln:Ch Tryz.prog S3 9 (.ptr S2.next 0)=some (.v (.string ⟨⟨lf.1⟩⟩)):=by rw [bF,g3]; rfl
 have lk:Ia Tryz.prog S3 123 (.map m) (.v (.string ⟨⟨lf.1⟩⟩)) false=some (tyA (I8 names lf.1)):=Ri hc3.mp lf.1
 have lp:Ch Tryz.prog S3 3 (.ptr S2.next 1)=some (.v (.int .i64 (lf.2:Int))):=by rw [mJ,g3]; rfl
 have ix:=ix202 tok off ty
 have le:=ldep52 S3 ty
 have rr:=vO tok off ty
 have rt:=aA ty
 have rt2:=aA (I8 names lf.1)
 have nq:=fun f' S' o'=>ne52 f' S' o' (I8 names lf.1).1 (I8 names lf.1).2 ty.1 ty.2
 have ety:tyA (I8 names lf.1)=tyA ((I8 names lf.1).1,(I8 names lf.1).2):=rfl
 have ety2:tyA ty=tyA (ty.1,ty.2):=rfl
 simp only [A5,Bb,A9,A0,A1,Bn,B4,ofOpt,Ba,Nat.reduceLT,Nat.reduceEqDiff,Aa,Ab,Ac,Af,Ag,Ah,Aj,Ak,Am,E3,O5,Rm,fa59_0,fa59_1,lm,ln,lk,lp,ix,le,nn52,fb52,ety,ety2,nq,hf104,Dx,C8,Dk,Co,Gz]
 refine WC.mono (Tj hc3.g _ lf.2 7) ?_
 rintro _ ⟨S4,rfl,hg4,k4,n4⟩
 have hc4:=hc3.x k4 hg4
 simp only [By,A6,A4,Br,Bh,A7,Be,Bd,A5,Bb,A9,A0,A1,ofOpt,Ba,Bt,Dh,Nat.reduceLT,Nat.reduceEqDiff,Aa,Ab,Ac,Am,E3,hw1,Eu,Co,D6,Ed]
 refine D0 (Ds ?_)
 simp only [Bz,Bp,A6,Bk,Bo,Bs,C9,A4,C0,Dw,Bh,A7,Be,Bd,Cg,A5,Bb,A9,A0,A1,ofOpt,Bt,Bu,Bf,Ci,C6,Nat.reduceLT,Nat.reduceEqDiff,Aa,Ab,Ac,Am,Aq,E3,hl2,Ls]
 exact ⟨_,rfl,hc4,(((k1.x s).trans k2).trans (k3.x s)).trans k4⟩
def EqT (s m:Nat) (mn:NdM) (names:List (List UInt8 × (Bool × Bool))) (EF:PQ → Nat × Nat → Nat × Nat) (q:PQ):Prop:=∀ (cs:List AV) (S:St) (f:Nat × Nat),Xz (.agg cs) q → Cx s m mn names S f → WC E9 106 [.ptr s 0,.agg cs] S (fun r=>∃ S',r=.ret (.tup []) S' ∧ Cx s m mn names S' (EF q f) ∧ D9 s S S')
def eqsF (EF:PQ → Nat × Nat → Nat × Nat):List PQ → Nat × Nat → Nat × Nat
 | [],f=>f
 | q :: l,f=>eqsF EF l (EF q f)
def ndV:Code:=match Tryz.f70.body with
 | some (.seq _ (.seq _ (.seq (.seq _ (.block _ (.loop b))) _)))=>b
 | _=>.skip
def ndQ:Code:=match Tryz.f70.body with
 | some (.seq _ (.seq _ (.seq _ (.seq _ (.block _ (.loop b))))))=>b
 | _=>.skip
def LoopNd (n s m:Nat) (mn:NdM) (names:List (List UInt8 × (Bool × Bool))) (S0:St) (p:Nat) (f:Nat × Nat) (r:O):Prop:=∃ t' S',r=.out (.exit n) ⟨t',[]⟩ S' ∧ t'.get 0=some (.ptr s 0) ∧ t'.get 3=some (.ptr p 0) ∧ Cx s m mn names S' f ∧ D9 s S0 S'
theorem kO:∀ {es:List AV} {l:List PQ},EqRows es l → ∀ (i:Nat) (h:i < l.length),∃ cs,es[i]? = some (.agg cs) ∧ cs.length=8 ∧ Xz (.agg cs) l[i]
 | _,_,.nil,i,h=>by cases h
 | _,_,.cons a q r l h1 h2,0,h=>by
  obtain ⟨lv,xs,rfl,a1,a2,a3⟩:=h1
  exact ⟨_,rfl,by simp [eqC,a2],lv,xs,rfl,a1,a2,a3⟩
 | _,_,.cons a q r l h1 h2,i + 1,h=>by
  obtain ⟨cs,a1,a2,a3⟩:=kO h2 i (Nat.lt_of_succ_lt_succ h)
  exact ⟨cs,by simpa using a1,a2,by simpa using a3⟩
theorem ix47r {v:AV} {es:List AV} {l:List PQ} (hv:(v=.nils ∧ es=[]) ∨ ∃ tok,v=.sl tok 0 8 es) (hes:EqRows es l) (j:Nat) (hj:j < l.length):∃ cs,Dd Tryz.prog 47 v (.v (.int .i64 (j:Int)))=some (.ep cs) ∧ cs.length=8 ∧ Xz (.agg cs) l[j]:=by
 obtain ⟨cs,h1,h2,h3⟩:=kO hes j hj
 have hje:j < es.length:=by rw [hes.len]; exact hj
 rcases hv with ⟨rfl,rfl⟩ | ⟨tok,rfl⟩
 ·cases hje
 ·refine ⟨cs,?_,h2,h3⟩
  have hi:=idxU eu47 gC tok 0 es j hje
  rw [List.getElem?_eq_getElem hje] at h1
  injection h1 with h1
  rw [h1] at hi
  exact hi
theorem len47r (S:St) {v:AV} {es:List AV} {l:List PQ} (hv:(v=.nils ∧ es=[]) ∨ ∃ tok,v=.sl tok 0 8 es) (hes:EqRows es l):F5 Tryz.prog S 47 v=some l.length:=by
 rcases hv with ⟨rfl,rfl⟩ | ⟨tok,rfl⟩
 ·cases hes; simp [F5,un47]
 ·simp [F5,un47,hes.len]
theorem ndV_lp {s m:Nat} {mn:NdM} {names:List (List UInt8 × (Bool × Bool))} {a:AV} (ds:List PD) (ha:Hl 6 F0 a ds) (hcl:∀ d ∈ ds,d.clock=[]) (hl:ds.length ≤ 1000000) (p:Nat) (S0:St) (hs0:s < S0.next):∀ (n j:Nat) (f:Nat × Nat) (t:T AV) (S:St),j + n=ds.length → t.get 0=some (.ptr s 0) → t.get 3=some (.ptr p 0) → t.get 13=some a → t.get 14=some (Dl ds.length) → t.get 15=some (Dl j) → Cx s m mn names S f → D9 s S0 S →
  WX E9 50 (.loop ndV) ⟨t,[]⟩ S (LoopNd 0 s m mn names S0 p f)
 | 0,j,f,t,S,hj,h0,h3,h13,h14,h15,hc,hk=>by
  refine D0 (Ds ?_)
  have hlt:¬ ((j:Int) < (ds.length:Int)):=by omega
  simp only [Dl] at h14 h15
  simp only [Bz,Bp,A6,Bk,Bo,Bs,C9,A4,C0,Bh,A7,Be,Bd,Cg,A5,Bb,A9,A0,ofOpt,Bt,C6,Nat.reduceLT,Nat.reduceEqDiff,Aa,Ab,Ac,Am,Aq,E3,ndV,Tryz.f70,h14,h15,hlt]
  exact ⟨_,_,rfl,by simp only [A0,A1,Nat.reduceEqDiff,Aa,Ab,h0],by simp only [A0,A1,Nat.reduceEqDiff,Aa,Ab,h3],hc,hk⟩
 | n + 1,j,f,t,S,hj,h0,h3,h13,h14,h15,hc,hk=>by
  refine D0 (Ds ?_)
  obtain ⟨fn1,hf104⟩:=Rk
  obtain ⟨fn2,hf105⟩:=fng_105
  have hjl:j < ds.length:=by omega
  have hlt:((j:Int) < (ds.length:Int)):=by omega
  have hw:IntKind.i64.wrap ((j:Int) + 1)=((j + 1:Nat):Int):=by rw [IntKind.wrap_i64]; omega
  have hx:=xM ha j hjl
  have hck:=hcl _ (List.getElem_mem hjl)
  generalize ds[j]=d at hx hck
  have hep:=xI S d
  have al:=Xe S
  have q1:=nF (Cs S Nq) rfl d
  obtain ⟨k2,g2,l2⟩:=Mq S Nq (Fg d)
  generalize hS2:(S.newBox Nq).put S.next (Fg d)=S2 at q1 k2 g2 l2
  have hc2:=hc.keep k2
  have lc:Ch Tryz.prog S2 9 (.ptr S.next 4)=some (.v (.string ⟨⟨[]⟩⟩)):=by rw [bF,g2,← hck]; rfl
  have lp:Ch Tryz.prog S2 3 (.ptr S.next 1)=some (.v (.int .i64 (d.pos:Int))):=by rw [mJ,g2]; rfl
  have e0:(!decide (([]:List UInt8)=[]))=false:=rfl
  simp only [Dl] at h14 h15
  simp only [Bz,Bp,A6,Cj,Bk,Bo,Bs,C9,A4,C0,Bh,A7,Be,Dm,Dy,Bd,Cf,A5,Bb,A9,A0,ofOpt,ofOptS,Bt,C6,Nat.reduceLT,Nat.reduceEqDiff,Aa,Ab,Ac,Am,Ap,E3,ndV,Tryz.f70,h13,h14,h15,hlt,hx,hep,al,q1]
  refine Gy [(0,true),(1,true),(2,true),(3,true),(4,true),(5,true),(6,true),(7,true),(8,true),(9,true),(10,true),(11,true),(16,true),(17,true),(12,true),(17,false),(13,true),(14,true),(15,true),(18,true)] (by kernel_rfl) (by kernel_rfl) ?_
  simp only [A5,Bb,A9,A0,Bn,B4,ofOpt,Ba,Nat.reduceLT,Nat.reduceEqDiff,Aa,Ab,Ac,Af,Ag,Ah,Ai,Aj,Ak,Am,Ap,Ar,Av,E3,O5,Cz,h0,fa54_3,fa54_1,lc,lp,Zo,hf104,Dx,Hj,Hr,C8,Dk,Co,Gz,Eb,Es,V4]
  refine WC.mono (Tj hc2.g false d.pos 7) ?_
  rintro _ ⟨S3,rfl,hg3,k3,n3⟩
  have et:Jm false d.pos 7 f=f:=rfl
  rw [et] at hg3
  simp only [By,A6,A4,Br,Bh,A7,Be,Bd,A5,Bb,A9,A0,ofOpt,Ba,Bt,Dh,Nat.reduceLT,Nat.reduceEqDiff,Aa,Ab,Ac,Am,E3,h15,hw,Eu,Co,D6,Ed]
  refine ndV_lp ds ha hcl hl p S0 hs0 n (j + 1) f _ S3 (by omega) ?_ ?_ ?_ ?_ ?_ (hc2.x k3 hg3) ((hk.trans (k2.x s)).trans k3)
  ·simp only [A0,A1,Nat.reduceEqDiff,Aa,Ab,h0]
  ·simp only [A0,A1,Nat.reduceEqDiff,Aa,Ab,h3]
  ·simp only [A0,A1,Nat.reduceEqDiff,Aa,Ab,h13]
  ·simp only [A0,A1,Nat.reduceEqDiff,Aa,Ab,h14]; rfl
  ·simp only [A0,A1,Nat.reduceEqDiff,Aa,Ab]; rfl
theorem ndQ_lp {s m:Nat} {mn:NdM} {names:List (List UInt8 × (Bool × Bool))} {a:AV} {es:List AV} (qs:List PQ) (ha:(a=.nils ∧ es=[]) ∨ ∃ tok,a=.sl tok 0 8 es) (hes:EqRows es qs) {EF:PQ → Nat × Nat → Nat × Nat} (hE:∀ q ∈ qs,EqT s m mn names EF q) (hl:qs.length ≤ 1000000) (p:Nat) (S0:St) (hs0:s < S0.next):∀ (n j:Nat) (f:Nat × Nat) (t:T AV) (S:St),j + n=qs.length → t.get 0=some (.ptr s 0) → t.get 3=some (.ptr p 0) → t.get 40=some a → t.get 41=some (Dl qs.length) → t.get 42=some (Dl j) → Cx s m mn names S f → D9 s S0 S →
  WX E9 50 (.loop ndQ) ⟨t,[]⟩ S (LoopNd 2 s m mn names S0 p (eqsF EF (qs.drop j) f))
 | 0,j,f,t,S,hj,h0,h3,h40,h41,h42,hc,hk=>by
  refine D0 (Ds ?_)
  have hlt:¬ ((j:Int) < (qs.length:Int)):=by omega
  simp only [Dl] at h41 h42
  simp only [Bz,Bp,A6,Bk,Bo,Bs,C9,A4,C0,Bh,A7,Be,Bd,Cg,A5,Bb,A9,A0,ofOpt,Bt,C6,Nat.reduceLT,Nat.reduceEqDiff,Aa,Ab,Ac,Am,Aq,E3,ndQ,Tryz.f70,h41,h42,hlt]
  rw [List.drop_of_length_le (by omega)]
  exact ⟨_,_,rfl,by simp only [A0,A1,Nat.reduceEqDiff,Aa,Ab,h0],by simp only [A0,A1,Nat.reduceEqDiff,Aa,Ab,h3],hc,hk⟩
 | n + 1,j,f,t,S,hj,h0,h3,h40,h41,h42,hc,hk=>by
  refine D0 (Ds ?_)
  obtain ⟨fn1,hf106⟩:=fng_106
  have hjl:j < qs.length:=by omega
  have hlt:((j:Int) < (qs.length:Int)):=by omega
  have hw:IntKind.i64.wrap ((j:Int) + 1)=((j + 1:Nat):Int):=by rw [IntKind.wrap_i64]; omega
  obtain ⟨cs,hx,hcl,hq⟩:=ix47r ha hes j hjl
  have hqe:=hE _ (List.getElem_mem hjl)
  rw [List.drop_eq_getElem_cons hjl]
  generalize qs[j]=q at hq hqe
  have hep:=lepU ag57 gC S cs hcl
  have al:=alo57 S
  have q1:=stU gC (Cs S zC57) rfl hcl
  obtain ⟨k2,g2,l2⟩:=Mq S zC57 cs
  generalize hS2:(S.newBox zC57).put S.next cs=S2 at q1 k2 g2 l2
  have hc2:=hc.keep k2
  have lq:=ldU ag57 gC g2 hcl
  simp only [Dl] at h41 h42
  simp only [Bz,Bp,A6,Bk,Bo,Bs,C9,A4,C0,Bh,A7,Be,Dm,B3,Dy,Bd,Cf,A5,Bb,A9,A0,Bn,B4,ofOpt,ofOptS,Bt,C6,Nat.reduceLT,Nat.reduceEqDiff,Aa,Ab,Ac,Aj,Ak,Am,Ap,E3,ndQ,Tryz.f70,h0,h40,h41,h42,hlt,hx,hep,al,q1,lq,hf106]
  refine WC.mono (hqe cs S2 f hq hc2) ?_
  rintro _ ⟨S3,rfl,hc3,k3⟩
  simp only [By,A6,A4,Br,Bh,A7,Be,Bd,Cn,A5,Bb,A9,A0,ofOpt,Ba,Bt,Dh,Nat.reduceLT,Nat.reduceEqDiff,Aa,Ab,Ac,Am,E3,h42,hw]
  refine ndQ_lp qs ha hes hE hl p S0 hs0 n (j + 1) _ _ S3 (by omega) ?_ ?_ ?_ ?_ ?_ hc3 ((hk.trans (k2.x s)).trans k3)
  ·simp only [A0,A1,Nat.reduceEqDiff,Aa,Ab,h0]
  ·simp only [A0,A1,Nat.reduceEqDiff,Aa,Ab,h3]
  ·simp only [A0,A1,Nat.reduceEqDiff,Aa,Ab,h40]
  ·simp only [A0,A1,Nat.reduceEqDiff,Aa,Ab,h41]; rfl
  ·simp only [A0,A1,Nat.reduceEqDiff,Aa,Ab]; rfl
theorem node_w {s m:Nat} {mn:NdM} {names:List (List UInt8 × (Bool × Bool))} {v:AV} {nd:PN} (hnd:Kg v nd) (hcl:∀ d ∈ nd.vars,d.clock=[]) {EF:PQ → Nat × Nat → Nat × Nat} (hE:∀ q ∈ nd.eqs,EqT s m mn names EF q) (hlo:nd.outs.length ≤ 1000000) (hlv:nd.vars.length ≤ 1000000) (hlq:nd.eqs.length ≤ 1000000) (S:St) (f:Nat × Nat) (hc:Cx s m mn names S f):WC E9 70 [.ptr s 0,v] S (fun r=>∃ S',r=.ret (.tup []) S' ∧ Cx s m mn names S' (eqsF EF nd.eqs (N4 nd.outs f)) ∧ D9 s S S'):=by
 obtain ⟨a,bb,c,d,es,rfl,ha,hb,hcv,hd,he⟩:=hnd
 refine Do Tryz.f70 (by kernel_rfl) (by kernel_rfl) (by kernel_rfl) (by show (_:Nat) ≤ _;simp [Tryz.f70]) ?_
 obtain ⟨fn1,hf69⟩:=fng_69
 have g1:=Cs S (Ge nd.name nd.pos a bb c d)
 have k1:=Ct S (Ge nd.name nd.pos a bb c d)
 have n1:(S.newBox (Ge nd.name nd.pos a bb c d)).next=S.next + 1:=rfl
 generalize hS1:S.newBox (Ge nd.name nd.pos a bb c d)=S1 at g1 k1 n1
 have hc1:=hc.keep k1
 have hlt:=hc.g.lt
 have lo:Ch Tryz.prog S1 46 (.ptr S.next 3)=some bb:=ld46_3 g1
 simp only [A6,Bk,A4,Bh,A7,Be,B3,Bd,A5,Bb,A9,Cb,A0,A1,Bn,B4,ofOpt,Nat.reduceLT,Nat.reduceAdd,Nat.reduceEqDiff,Aa,Ab,Ac,Ae,Aj,Ak,E3,Tryz.f70,B8,B9,hS1,bO,lo,hf69]
 refine WC.mono (noFut_w hc1.g hb hlo) ?_
 rintro _ ⟨S2,rfl,hg2,k2⟩
 have hc2:=hc1.x k2 hg2
 generalize N4 nd.outs f=f2 at hc2 ⊢
 have p2:S2.mem.get S.next=_:=(k2.2 S.next (by omega) (by omega)).trans g1
 have lv2:Ch Tryz.prog S2 46 (.ptr S.next 4)=some c:=ld46_4 p2
 have lenv:=Xw S2 hcv
 have key:=fun t=>ndV_lp (s:=s) (m:=m) (mn:=mn) (names:=names) nd.vars hcv hcl hlv S.next S2 (by have:=k2.1; omega) nd.vars.length 0 f2 t S2 (by omega)
 unfold ndV at key
 simp only [Tryz.f70] at key
 simp only [A6,Bk,Bs,Dv,A4,Bh,A7,Be,Bd,Cn,A5,Bb,A9,A0,A1,Bn,ofOpt,Ba,Nat.reduceLT,Nat.reduceEqDiff,Aa,Ab,Ac,E3,fa49_4,lv2,lenv]
 refine WX.mono (key _ ?_ ?_ ?_ ?_ ?_ hc2 ⟨Nat.le_refl _,fun _ _ _=>rfl⟩) ?_
 ·simp only [A0,A1,Nat.reduceEqDiff,Aa,Ab]
 ·simp only [A0,A1,Nat.reduceEqDiff,Aa,Ab]
 ·simp only [A0,A1,Nat.reduceEqDiff,Aa,Ab]
 ·simp only [A0,A1,Nat.reduceEqDiff,Aa,Ab]; rfl
 ·simp only [A0,A1,Nat.reduceEqDiff,Aa,Ab]; rfl
 rintro _ ⟨t3,S3,rfl,h30,h33,hc3,k3⟩
 have p3:S3.mem.get S.next=_:=(k3.2 S.next (by have:=k2.1; omega) (by omega)).trans p2
 have lq3:Ch Tryz.prog S3 47 (.ptr S.next 5)=some d:=ld49_5 p3
 have lenq:=len47r S3 hd he
 have key2:=fun t=>ndQ_lp (s:=s) (m:=m) (mn:=mn) (names:=names) nd.eqs hd he hE hlq S.next S3 (by have:=k2.1; have:=k3.1; omega) nd.eqs.length 0 f2 t S3 (by omega)
 unfold ndQ at key2
 simp only [Tryz.f70] at key2
 simp only [A6,Bk,Bs,Dv,A4,C0,Dw,Bh,A7,Be,Bd,A5,Bb,A9,A0,Bn,ofOpt,Ba,Nat.reduceLT,Nat.reduceEqDiff,Aa,Ab,Ac,E3,h33,fn5,lq3,lenq]
 refine WX.mono (key2 _ ?_ ?_ ?_ ?_ ?_ hc3 ⟨Nat.le_refl _,fun _ _ _=>rfl⟩) ?_
 ·simp only [A0,A1,Nat.reduceEqDiff,Aa,Ab,h30]
 ·simp only [A0,A1,Nat.reduceEqDiff,Aa,Ab,h33]
 ·simp only [A0,A1,Nat.reduceEqDiff,Aa,Ab]
 ·simp only [A0,A1,Nat.reduceEqDiff,Aa,Ab]; rfl
 ·simp only [A0,A1,Nat.reduceEqDiff,Aa,Ab]; rfl
 rintro _ ⟨t4,S4,rfl,h40,h43,hc4,k4⟩
 rw [List.drop_zero] at hc4
 simp only [Dw,Bu,Bf,Ci,Aa,Ls]
 exact ⟨_,rfl,hc4,(((k1.x s).trans k2).trans k3).trans k4⟩
theorem fng_67:∃ fn,E9.F 67=some fn:=Option.isSome_iff_exists.1 (by kernel_rfl)
theorem fng_68:∃ fn,E9.F 68=some fn:=Option.isSome_iff_exists.1 (by kernel_rfl)
theorem fng_22:∃ fn,E9.F 22=some fn:=Option.isSome_iff_exists.1 (by kernel_rfl)
def Rw:List (List UInt8 × AV) → List AV → List PN → List (List UInt8 × AV)
 | acc,v :: es,nd :: l=>Rw (Ve acc nd.name v) es l
 | acc,[],_=>acc
 | acc,_,[]=>acc
def Rx:List (List UInt8 × (Bool × Bool)) → List PD → List (List UInt8 × (Bool × Bool))
 | acc,[]=>acc
 | acc,d :: l=>Rx (Ve acc d.name (d.bool,d.fut)) l
theorem wP (acc:List (List UInt8 × AV)) (v:AV) (es:List AV) (nd:PN) (l:List PN):Rw acc (v :: es) (nd :: l)=Rw (Ve acc nd.name v) es l:=rfl
theorem wT (acc:List (List UInt8 × (Bool × Bool))) (d:PD) (l:List PD):Rx acc (d :: l)=Rx (Ve acc d.name (d.bool,d.fut)) l:=rfl
theorem T1:∀ {es:List AV} {l:List PN},NodeRows es l → ∀ (i:Nat) (h:i < l.length) (h2:i < es.length),Kg es[i] l[i]
 | _,_,.nil,i,h,_=>by cases h
 | _,_,.cons a q r l h1 h2,0,h,_=>h1
 | _,_,.cons a q r l h1 h2,i + 1,h,h3=>T1 h2 i (Nat.lt_of_succ_lt_succ h) (Nat.lt_of_succ_lt_succ h3)
theorem jU {v:AV} {nd:PN} (h:Kg v nd):∃ cs,v=.agg cs ∧ cs.length=6 ∧ cs[0]? = some (Cl nd.name):=by
 obtain ⟨a,b,c,d,es,rfl,_⟩:=h
 exact ⟨_,rfl,rfl,rfl⟩
def Mr (S S':St) (g:Nat) (es:List (Value × AV)):Prop:=S'.mem.get g=some (.mp es) ∧ S.next ≤ g ∧ g < S'.next ∧ Em S S'
theorem Mr.new {S S':St} {g:Nat} {es:List (Value × AV)} (h:Mr S S' g es) (z ys:List AV):Mr S ((S'.newBox z).put S'.next ys) g es:=by
 obtain ⟨h1,h2,h3,h4⟩:=h
 obtain ⟨k,_,l⟩:=Mq S' z ys
 exact ⟨(k.2 g h3).trans h1,h2,Nat.lt_of_lt_of_le h3 k.1,h4.trans k⟩
theorem Mr.upd {S S':St} {g:Nat} {es es2:List (Value × AV)} (h:Mr S S' g es):Mr S { S' with mem:=S'.mem.set g (some (.mp es2)) } g es2:=by
 obtain ⟨h1,h2,h3,h4⟩:=h
 refine ⟨?_,h2,h3,h4.1,fun id hid=>?_⟩
 ·show (S'.mem.set g _).get g=_
  rw [T.get_set,if_pos rfl]
 ·show (S'.mem.set g _).get id=_
  rw [T.get_set,if_neg (by omega)]
  exact h4.2 id hid
theorem jH (S:St):Mr S (Mk S).2 S.next []:=by
 refine ⟨?_,Nat.le_refl _,Nat.lt_succ_self _,Nat.le_succ _,fun id hid=>?_⟩
 ·show (S.mem.set S.next _).get S.next=_
  rw [T.get_set,if_pos rfl]
 ·show (S.mem.set S.next _).get id=_
  rw [T.get_set,if_neg (by omega)]
theorem wU (S:St):Mk S=(.map S.next,(Mk S).2):=_root_.id rfl
def nsB:Code:=match Tryz.f67.body with
 | some (.seq _ (.seq _ (.seq (.seq _ (.block _ (.loop b))) _)))=>b
 | _=>.skip
def LoopMp (S0:St) (g:Nat) (es:List (Value × AV)) (r:O):Prop:=∃ t' S',r=.out (.exit 0) ⟨t',[]⟩ S' ∧ t'.get 3=some (.map g) ∧ Mr S0 S' g es
theorem ns_lp {tok off:Nat} {es:List AV} {l:List PN} (hes:NodeRows es l) (hl:l.length ≤ 1000000) (S0:St) (g:Nat):∀ (n j:Nat) (acc:List (List UInt8 × AV)) (t:T AV) (S:St),j + n=l.length → t.get 3=some (.map g) → t.get 7=some (.sl tok off 6 es) → t.get 8=some (Dl l.length) → t.get 9=some (Dl j) → Mr S0 S g (Ip id acc) →
  WX E9 19 (.loop nsB) ⟨t,[]⟩ S (LoopMp S0 g (Ip id (Rw acc (es.drop j) (l.drop j))))
 | 0,j,acc,t,S,hj,h3,h7,h8,h9,hk=>by
  refine D0 (Ds ?_)
  have hlt:¬ ((j:Int) < (l.length:Int)):=by omega
  simp only [Dl] at h8 h9
  simp only [Bz,Bp,A6,Bk,Bo,Bs,C9,A4,C0,Bh,A7,Be,Bd,Cg,A5,Bb,A9,A0,ofOpt,Bt,C6,Nat.reduceLT,Nat.reduceEqDiff,Aa,Ab,Ac,Am,Aq,E3,nsB,Tryz.f67,h8,h9,hlt]
  rw [List.drop_of_length_le (by rw [hes.len]; omega)]
  exact ⟨_,_,rfl,by simp only [A0,A1,Nat.reduceEqDiff,Aa,Ab,h3],hk⟩
 | n + 1,j,acc,t,S,hj,h3,h7,h8,h9,hk=>by
  refine D0 (Ds ?_)
  have hjl:j < l.length:=by omega
  have hje:j < es.length:=by rw [hes.len]; exact hjl
  have hlt:((j:Int) < (l.length:Int)):=by omega
  have hw:IntKind.i64.wrap ((j:Int) + 1)=((j + 1:Nat):Int):=by rw [IntKind.wrap_i64]; omega
  have hnd:=T1 hes j hjl hje
  have hx:=idxU eu40 Tm tok off es j hje
  rw [List.drop_eq_getElem_cons hje,List.drop_eq_getElem_cons hjl]
  rw [wP]
  generalize es[j]=v at hx hnd
  generalize l[j]=nd at hnd
  obtain ⟨cs,rfl,hcl,hc0⟩:=jU hnd
  have hx:Dd Tryz.prog 40 (.sl tok off 6 es) (.v (.int .i64 (j:Int)))=some (.ep cs):=hx
  have hep:=lepU eE Tm S cs hcl
  have al:=zO S
  have q1:=stU Tm (Cs S R5) rfl hcl
  obtain ⟨_,g2,l2⟩:=Mq S R5 cs
  have hk2:=hk.new R5 cs
  generalize hS2:(S.newBox R5).put S.next cs=S2 at q1 g2 l2 hk2
  have ln:Ch Tryz.prog S2 9 (.ptr S.next 0)=some (.v (.string ⟨⟨nd.name⟩⟩)):=by
   rw [bF,g2,qD,hc0]
   rfl
  have lq:=ldU eE Tm g2 hcl
  have up:=mY id key121 hk2.1 nd.name (.agg cs)
  have hk3:=hk2.upd (es2:=Ip id (Ve acc nd.name (.agg cs)))
  simp only [Dl] at h8 h9
  simp only [id] at up
  generalize hS3:({ S2 with mem:=S2.mem.set g (some (.mp (Ip id (Ve acc nd.name (.agg cs))))) }:St)=S3 at up hk3
  simp only [By,Bz,Bp,A6,Bk,Bo,Bs,C9,A4,C0,Br,Bh,A7,Be,Dm,Dy,Bd,Cf,A5,Bb,A9,A0,ofOpt,ofOptS,Ba,Bt,C6,Dh,Nat.reduceLT,Nat.reduceEqDiff,Aa,Ab,Ac,Am,Ap,E3,nsB,Tryz.f67,h3,h7,h8,h9,hlt,hx,hep,al,q1,fa49_0,ln,lq,up,hw]
  refine ns_lp (tok:=tok) (off:=off) hes hl S0 g n (j + 1) _ _ S3 (by omega) ?_ ?_ ?_ ?_ hk3
  ·simp only [A0,A1,Nat.reduceEqDiff,Aa,Ab,h3]
  ·simp only [A0,A1,Nat.reduceEqDiff,Aa,Ab,h7]
  ·simp only [A0,A1,Nat.reduceEqDiff,Aa,Ab,h8]; rfl
  ·simp only [A0,A1,Nat.reduceEqDiff,Aa,Ab]; rfl
theorem nodesOf_w {v:AV} {l:List PN} {tok off:Nat} {es:List AV} (hv:v=.sl tok off 6 es) (hes:NodeRows es l) (hl:l.length ≤ 1000000) (S:St):WC E9 67 [v] S (fun r=>∃ g S',r=.ret (.map g) S' ∧ Mr S S' g (Ip id (Rw [] es l))):=by
 subst hv
 refine Do Tryz.f67 (by kernel_rfl) (by kernel_rfl) (by kernel_rfl) (by show (_:Nat) ≤ _;simp [Tryz.f67]) ?_
 have hm:=jH S
 have he:=wU S
 generalize (Mk S).2=S1 at hm he
 have len:F5 Tryz.prog S1 40 (.sl tok off 6 es)=some l.length:=by simp [F5,un40,hes.len]
 have key:=fun t=>ns_lp (tok:=tok) (off:=off) hes hl S S.next l.length 0 [] t S1 (by omega)
 unfold nsB at key
 simp only [Tryz.f67] at key
 simp only [A6,Bk,Bs,Dv,A4,Bh,A7,Be,Bd,A5,Bb,A9,Cb,A0,A1,Bn,ofOpt,ofOptS,Ba,Nat.reduceLT,Nat.reduceEqDiff,Aa,Ab,Ac,Ae,E3,Tryz.f67,he,len]
 refine WX.mono (key _ ?_ ?_ ?_ ?_ hm) ?_
 ·simp only [A0,A1,Nat.reduceEqDiff,Aa,Ab]
 ·simp only [A0,A1,Nat.reduceEqDiff,Aa,Ab]
 ·simp only [A0,A1,Nat.reduceEqDiff,Aa,Ab]; rfl
 ·simp only [A0,A1,Nat.reduceEqDiff,Aa,Ab]; rfl
 rintro _ ⟨t2,S2,rfl,h3,hk⟩
 rw [List.drop_zero,List.drop_zero] at hk
 simp only [A6,Bk,Bw,A4,C0,Dw,Bh,A7,Be,Bd,A5,Bb,A9,A0,ofOpt,Bj,Bu,Bf,Ci,Nat.reduceLT,Nat.reduceEqDiff,Aa,Ab,Ac,h3]
 exact ⟨_,_,rfl,hk⟩
theorem zD (d:PD):(F0 d).plainC=true:=rfl
theorem zB (ds:List PD):(ds.map F0).all AV.plainC=true:=by
 rw [List.all_eq_true]
 intro a ha
 obtain ⟨d,_,rfl⟩:=List.mem_map.1 ha
 exact zD d
theorem aN {v:AV} {ds:List PD} (h:Hl 6 F0 v ds):nP v=some (ds.map F0):=by
 rcases h with ⟨rfl,rfl⟩ | ⟨tok,off,rfl⟩ <;> rfl
theorem all_is {v:AV} {nd:PN} (h:Kg v nd) (hl:nd.ins.length + nd.outs.length + nd.vars.length ≤ 3000) (S:St):∃ w,mQ [v] S=.ret w S ∧ Hl 6 F0 w (nd.ins ++ nd.outs ++ nd.vars):=by
 obtain ⟨a,b,c,d,es,rfl,ha,hb,hc,_⟩:=h
 refine ⟨rowW ((nd.ins ++ nd.outs ++ nd.vars).map F0),?_,?_⟩
 ·have hp:=zB (nd.ins ++ nd.outs ++ nd.vars)
  simp only [List.map_append] at hp ⊢
  unfold mQ Ge
  simp only [aN ha,aN hb,aN hc,hp,List.length_map,Nat.ble_eq_true_of_le hl,Bool.and_self]
 ·cases nd.ins ++ nd.outs ++ nd.vars with
  | nil=>exact .inl ⟨rfl,rfl⟩
  | cons d l=>exact .inr ⟨0,0,rfl⟩
def tsB:Code:=match Tryz.f68.body with
 | some (.seq _ (.seq _ (.seq (.seq _ (.block _ (.loop b))) _)))=>b
 | _=>.skip
theorem ldbox52 {S:St} {id:Nat} {d:PD} (h:S.mem.get id=some (.box (Fg d))):Ch Tryz.prog S 52 (.ptr id 2)=some (tyA (d.bool,d.fut)):=by
 simp [Ch,Dr,h,ag52,uV,Fg,tyA]
theorem ts_lp {a:AV} (ds:List PD) (ha:Hl 6 F0 a ds) (hl:ds.length ≤ 1000000) (S0:St) (g:Nat):∀ (n j:Nat) (acc:List (List UInt8 × (Bool × Bool))) (t:T AV) (S:St),j + n=ds.length → t.get 3=some (.map g) → t.get 8=some a → t.get 9=some (Dl ds.length) → t.get 10=some (Dl j) → Mr S0 S g (Ip tyA acc) →
  WX E9 21 (.loop tsB) ⟨t,[]⟩ S (LoopMp S0 g (Ip tyA (Rx acc (ds.drop j))))
 | 0,j,acc,t,S,hj,h3,h8,h9,h10,hk=>by
  refine D0 (Ds ?_)
  have hlt:¬ ((j:Int) < (ds.length:Int)):=by omega
  simp only [Dl] at h9 h10
  simp only [Bz,Bp,A6,Bk,Bo,Bs,C9,A4,C0,Bh,A7,Be,Bd,Cg,A5,Bb,A9,A0,ofOpt,Bt,C6,Nat.reduceLT,Nat.reduceEqDiff,Aa,Ab,Ac,Am,Aq,E3,tsB,Tryz.f68,h9,h10,hlt]
  rw [List.drop_of_length_le (by omega)]
  exact ⟨_,_,rfl,by simp only [A0,A1,Nat.reduceEqDiff,Aa,Ab,h3],hk⟩
 | n + 1,j,acc,t,S,hj,h3,h8,h9,h10,hk=>by
  refine D0 (Ds ?_)
  have hjl:j < ds.length:=by omega
  have hlt:((j:Int) < (ds.length:Int)):=by omega
  have hw:IntKind.i64.wrap ((j:Int) + 1)=((j + 1:Nat):Int):=by rw [IntKind.wrap_i64]; omega
  have hx:=xM ha j hjl
  rw [List.drop_eq_getElem_cons hjl]
  rw [wT]
  generalize ds[j]=d at hx
  have hep:=xI S d
  have al:=Xe S
  have q1:=nF (Cs S Nq) rfl d
  obtain ⟨_,g2,l2⟩:=Mq S Nq (Fg d)
  have hk2:=hk.new Nq (Fg d)
  generalize hS2:(S.newBox Nq).put S.next (Fg d)=S2 at q1 g2 l2 hk2
  have ln:Ch Tryz.prog S2 9 (.ptr S.next 0)=some (.v (.string ⟨⟨d.name⟩⟩)):=by rw [bF,g2]; rfl
  have lt:=ldbox52 g2
  have up:=mY tyA key123 hk2.1 d.name (d.bool,d.fut)
  have hk3:=hk2.upd (es2:=Ip tyA (Ve acc d.name (d.bool,d.fut)))
  simp only [Dl] at h9 h10
  generalize hS3:({ S2 with mem:=S2.mem.set g (some (.mp (Ip tyA (Ve acc d.name (d.bool,d.fut))))) }:St)=S3 at up hk3
  simp only [By,Bz,Bp,A6,Bk,Bo,Bs,C9,A4,C0,Br,Bh,A7,Be,Dm,Dy,Bd,Cf,A5,Bb,A9,A0,ofOpt,ofOptS,Ba,Bt,C6,Dh,Nat.reduceLT,Nat.reduceEqDiff,Aa,Ab,Ac,Am,Ap,E3,tsB,Tryz.f68,h3,h8,h9,h10,hlt,hx,hep,al,q1,fa54_0,bN,ln,lt,up,hw]
  refine ts_lp ds ha hl S0 g n (j + 1) _ _ S3 (by omega) ?_ ?_ ?_ ?_ hk3
  ·simp only [A0,A1,Nat.reduceEqDiff,Aa,Ab,h3]
  ·simp only [A0,A1,Nat.reduceEqDiff,Aa,Ab,h8]
  ·simp only [A0,A1,Nat.reduceEqDiff,Aa,Ab,h9]; rfl
  ·simp only [A0,A1,Nat.reduceEqDiff,Aa,Ab]; rfl
def zS (nd:PN):List PD:=nd.ins ++ nd.outs ++ nd.vars
theorem typesOf_w {v:AV} {nd:PN} (h:Kg v nd) (hl:nd.ins.length + nd.outs.length + nd.vars.length ≤ 3000) (S:St):WC E9 68 [v] S (fun r=>∃ g S',r=.ret (.map g) S' ∧ Mr S S' g (Ip tyA (Rx [] (zS nd)))):=by
 have hall:=fun S=>all_is h hl S
 obtain ⟨cs,rfl,hcl,_⟩:=jU h
 refine Do Tryz.f68 (by kernel_rfl) (by kernel_rfl) (by kernel_rfl) (by show (_:Nat) ≤ _;simp [Tryz.f68]) ?_
 obtain ⟨fn1,hf22⟩:=fng_22
 have g1:=Cs S cs
 have k1:=Ct S cs
 generalize hS1:S.newBox cs=S1 at g1 k1
 have hm:=jH S1
 have he:=wU S1
 have lt1:S.next < S1.next:=by rw [← hS1]; exact Nat.lt_succ_self _
 generalize (Mk S1).2=S2 at hm he
 have g2:S2.mem.get S.next=_:=(hm.2.2.2.2 S.next lt1).trans g1
 have lq:=ldU eE Tm g2 hcl
 obtain ⟨w,hw,hrow⟩:=hall S2
 have len:=Xw S2 hrow
 have hlen:(nd.ins ++ nd.outs ++ nd.vars).length ≤ 1000000:=by simp only [List.length_append]; omega
 have key:=fun t=>ts_lp (zS nd) hrow hlen S1 S1.next (zS nd).length 0 [] t S2 (by omega)
 unfold tsB at key
 simp only [Tryz.f68] at key
 simp only [A6,Bk,A4,Bh,A7,Be,B3,Bd,A5,Bb,A9,Cb,A0,A1,Bn,B4,ofOpt,ofOptS,Ba,Nat.reduceLT,Nat.reduceEqDiff,Aa,Ab,Ac,Ae,Aj,Ak,E3,Tryz.f68,B8,B9,hS1,he,lq,hf22]
 refine WC.mono (i9_22 _ _ (fun r=>r=.ret w S2) hw) ?_
 rintro _ rfl
 simp only [Bs,Dv,A4,Bh,A7,Be,Bd,Cn,A5,Bb,A9,A0,A1,Bn,ofOpt,Ba,Nat.reduceLT,Nat.reduceEqDiff,Aa,Ab,Ac,E3,len]
 refine WX.mono (key _ ?_ ?_ ?_ ?_ hm) ?_
 ·simp only [A0,A1,Nat.reduceEqDiff,Aa,Ab]
 ·simp only [A0,A1,Nat.reduceEqDiff,Aa,Ab]
 ·simp only [A0,A1,Nat.reduceEqDiff,Aa,Ab]; rfl
 ·simp only [A0,A1,Nat.reduceEqDiff,Aa,Ab]; rfl
 rintro _ ⟨t3,S3,rfl,h3,hk⟩
 rw [List.drop_zero] at hk
 simp only [A6,Bk,Bw,A4,C0,Dw,Bh,A7,Be,Bd,A5,Bb,A9,A0,ofOpt,Bj,Bu,Bf,Ci,Nat.reduceLT,Nat.reduceEqDiff,Aa,Ab,Ac,h3]
 obtain ⟨x1,x2,x3,x4⟩:=hk
 exact ⟨_,_,rfl,x1,Nat.le_trans k1.1 x2,x3,k1.trans x4⟩
end Go.Ax
