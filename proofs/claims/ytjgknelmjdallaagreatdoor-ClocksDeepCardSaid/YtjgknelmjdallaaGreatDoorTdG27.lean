/- Dh -/
import Derived.Test.YtjgknelmjdallaaGreatDoorTdG26
import Derived.Test.YtjgknelmjdallaaGreatDoorTdG25
set_option linter.unusedVariables false
set_option linter.unusedSimpArgs false
set_option maxHeartbeats 16000000
noncomputable section
namespace Go.Ax
open Go.RowKit Go.Proofs
set_option maxRecDepth 100000
def Jq (mm:AV) (ncs:List AV) (a e:Nat):List AV:=mm :: (ncs ++ [Dq a,Dq e])
structure Kx (s:Nat) (mm:AV) (ncs:List AV) (S:St) (f:Nat × Nat):Prop where
 box:S.mem.get s=some (.box (Jq mm ncs f.1 f.2))
 lt:s < S.next
 len:ncs.length=6
theorem Kx.keep {s:Nat} {mm:AV} {ncs:List AV} {S S':St} {f:Nat × Nat} (h:Kx s mm ncs S f) (k:En S S'):Kx s mm ncs S' f:=⟨(k.2 s h.lt).trans h.box,Nat.lt_of_lt_of_le h.lt k.1,h.len⟩
theorem fa132_1 (b:Nat):C2 Tryz.prog 132 (.ptr b 0) 1=some (.ptr b 1):=by kernel_rfl
theorem fa132_2 (b:Nat):C2 Tryz.prog 132 (.ptr b 0) 2=some (.ptr b 7):=by kernel_rfl
theorem fa33_7 (b:Nat):C2 Tryz.prog 33 (.ptr b 7) 1=some (.ptr b 8):=by kernel_rfl
theorem Uj {l:List AV} (h:l.length=6):∃ a b c d e f,l=[a,b,c,d,e,f]:=by
 match l,h with
 | [a,b,c,d,e,f],_=>exact ⟨a,b,c,d,e,f,rfl⟩
theorem st33k {S:St} {s:Nat} {mm:AV} {ncs:List AV} (hl:ncs.length=6) {a e:Nat} (h:S.mem.get s=some (.box (Jq mm ncs a e))) (a' e':Nat):Dt Tryz.prog S 33 (.ptr s 7) (.agg (Ds a' e'))=some (S.put s (Jq mm ncs a' e')):=by
 obtain ⟨x0,x1,x2,x3,x4,x5,rfl⟩:=Uj hl
 simp [Dt,h,sz33z,AV.noTup,AV.cells,Ds,Jq,St.put]
theorem lG {s:Nat} {mm:AV} {ncs:List AV} {S:St} {f:Nat × Nat} (h:Kx s mm ncs S f) (wrong:Bool) (at' err:Nat):WC E11 108 [.ptr s 0,.v (.bool wrong),Dq at',Dq err] S (fun r=>∃ S',r=.ret (.tup []) S' ∧ Kx s mm ncs S' (Hq wrong at' err f) ∧ D7 s S S' ∧ S'.next=S.next):=by
 refine Dv Tryz.f108 (by kernel_rfl) (by kernel_rfl) (by kernel_rfl) (by show (_:Nat) ≤ _;simp [Tryz.f108]) ?_
 have hb:=h.box
 have l3:Cd Tryz.prog S 31 (.ptr s 8)=some (.v (.int .i64 (f.2:Int))):=by
  obtain ⟨x0,x1,x2,x3,x4,x5,rfl⟩:=Uj h.len
  rw [ldc31,hb]; rfl
 cases wrong
 ·simp only [Bo,A6,Bk,Bl,A4,Be,A7,C0,A9,A8,B6,A5,Bc,Ba,Ce,A0,A1,ofOpt,Bb,Bz,B0,Bg,Cs,Nat.reduceLT,Nat.reduceAdd,Nat.reduceEqDiff,Aa,Ab,Ac,Ae,Af,Ag,Ah,Ai,Ar,Av,Fe,Sw,Tryz.f108,Gm]
  exact ⟨_,rfl,h,⟨Nat.le_refl _,fun _ _ _=>rfl⟩,rfl⟩
 ·by_cases hz:f.2=0
  ·have e0:((f.2:Int) == 0)=true:=by rw [beq_iff_eq]; omega
   have st:=st33k h.len hb at' err
   have bd:=bld33 at' err
   have hf:Hq true at' err f=(at',err):=by unfold Hq; rw [if_pos ⟨rfl,hz⟩]
   simp only [Bo,A6,Bk,Bl,A4,Be,A7,A9,C4,Df,A8,B8,A5,Bc,Ba,Ce,A0,A1,ofOpt,Bb,Bz,B0,Bg,Cs,B9,Nat.reduceLT,Nat.reduceAdd,Nat.reduceEqDiff,Aa,Ab,Ac,Ae,Af,Ag,Ah,Ai,Al,Am,Fe,Tryz.f108,fa132_2,fa33_7,l3,e0,Tl,bd,st,Dq,Gm]
   rw [hf]
   exact ⟨_,rfl,⟨Ed _ _ _,h.lt,h.len⟩,⟨Nat.le_refl _,fun id _ hne=>Eg hne⟩,rfl⟩
  ·have e0:((f.2:Int) == 0)=false:=by rw [beq_eq_false_iff_ne]; omega
   have hf:Hq true at' err f=f:=by unfold Hq; rw [if_neg (fun h=>hz h.2)]
   simp only [Bo,A6,Bk,Bl,A4,Be,A7,A9,A8,B6,A5,Bc,Ba,Ce,A0,A1,ofOpt,Bb,Bz,B0,Bg,Cs,B9,Nat.reduceLT,Nat.reduceAdd,Nat.reduceEqDiff,Aa,Ab,Ac,Ae,Af,Ag,Ah,Ai,Al,Am,Fe,Tryz.f108,fa132_2,fa33_7,l3,e0,Tl,Gm]
   rw [hf]
   exact ⟨_,rfl,h,⟨Nat.le_refl _,fun _ _ _=>rfl⟩,rfl⟩
def Z1 (ds:List PD) (name:List UInt8) (l:List Gd):Prop:=(∃ n ok,ofL ds n name []=some (l,ok)) ∧ l.length ≤ 1000
theorem ld49k {S:St} {s:Nat} {mm:AV} {ncs:List AV} (hl:ncs.length=6) {a e:Nat} (h:S.mem.get s=some (.box (Jq mm ncs a e))):Cd Tryz.prog S 49 (.ptr s 1)=some (.agg ncs):=by
 obtain ⟨x0,x1,x2,x3,x4,x5,rfl⟩:=Uj hl
 simp [Cd,D0,h,Vp,N4,Jq]
theorem ofK_w {s:Nat} {mm:AV} {ncs:List AV} {S:St} {f:Nat × Nat} {nd:PN} (hn:Gr (.agg ncs) nd) (hs:nd.ins.length + nd.outs.length + nd.vars.length ≤ 3000) (h:Kx s mm ncs S f) (name:List UInt8) (l:List Gd) (hc:Z1 (Kq nd) name l):WC E11 138 [.ptr s 0,Bt name] S (fun r=>r=.ret (rowG l) S):=by
 refine Dv Tryz.f138 (by kernel_rfl) (by kernel_rfl) (by kernel_rfl) (by show (_:Nat) ≤ _;simp [Tryz.f138]) ?_
 obtain ⟨fn1,hf107⟩:=fnv_107
 obtain ⟨⟨n,ok,ho⟩,_⟩:=hc
 have lq:=ld49k h.len h.box
 simp only [A6,Bk,A4,Be,A7,A9,By,A8,A5,Bc,Ba,Ce,A0,A1,Bm,B5,ofOpt,Bb,Nat.reduceLT,Nat.reduceAdd,Nat.reduceEqDiff,Aa,Ab,Ac,Ae,Aj,Ak,Fe,Tryz.f138,fa132_1,lq,hf107]
 refine WC.mono (i11_107 hn hs name n l ok ho S) ?_
 rintro _ rfl
 simp only [A6,Bk,B1,A4,Be,A7,A9,A8,Cj,A5,Bc,Ba,A0,A1,ofOpt,Bi,B0,Bg,Cs,Nat.reduceLT,Nat.reduceEqDiff,Aa,Ab,Ad,Ag,Ah,Cw]
inductive LeafK:PE → Prop where
 | num (pos:Nat) (n:Int) (name:List UInt8) (off:Bool):LeafK (.mk 1 pos n name off [])
 | tru (pos:Nat) (n:Int) (name:List UInt8) (off:Bool):LeafK (.mk 2 pos n name off [])
 | var (pos:Nat) (n:Int) (name:List UInt8) (off:Bool) (kids:List PE):LeafK (.mk 3 pos n name off kids)
def jV (clk:List UInt8 → List Gd):PE → List Gd → Nat × Nat → Nat × Nat
 | .mk kind pos _ name _ _,c,f=>if kind=3 then Hq (!(Mv (clk name) c)) pos 8 f else f
theorem zZ {s:Nat} {mm:AV} {ncs:List AV} {nd:PN} (hn:Gr (.agg ncs) nd) (hs:nd.ins.length + nd.outs.length + nd.vars.length ≤ 3000) {clk:List UInt8 → List Gd} (e:PE) (he:LeafK e) (hk:Ic e=3 → Z1 (Kq nd) (nmE e) (clk (nmE e))) (xs:List AV) (hx:RepE (.agg xs) e) {v:AV} {c:List Gd} (hv:F2 2 gA v c) (hc:c.length ≤ 2000) (S:St) (f:Nat × Nat) (h:Kx s mm ncs S f):WC E11 140 [.ptr s 0,.agg xs,v] S (fun r=>∃ S',r=.ret (.tup []) S' ∧ Kx s mm ncs S' (jV clk e c f) ∧ D7 s S S'):=by
 cases he with
 | num pos n name off =>
  cases hx with
  | mk _ _ _ _ _ kv _ hkv =>
  refine Dv Tryz.f140 (by kernel_rfl) (by kernel_rfl) (by kernel_rfl) (by show (_:Nat) ≤ _;simp [Tryz.f140]) ?_
  have g1:=Cv S (exC 1 pos n name off kv)
  have k1:=Cz S (exC 1 pos n name off kv)
  generalize hS1:S.newBox (exC 1 pos n name off kv)=S1 at g1 k1
  have h1:=h.keep k1
  have l3:Cd Tryz.prog S1 3 (.ptr S.next 0)=some (.v (.int .i64 ((1:Nat):Int))):=Je g1
  have lk:=gS g1
  have len:Fw Tryz.prog S1 28 kv=some 0:=qE S1 hkv
  have hlt:¬ ((0:Int) < ((0:Nat):Int)):=by decide
  have e3:(((1:Nat):Int) == 3)=false:=rfl
  have e14:(((1:Nat):Int) == 14)=false:=rfl
  have e11:(((1:Nat):Int) == 11)=false:=rfl
  have e12:(((1:Nat):Int) == 12)=false:=rfl
  have e13:(((1:Nat):Int) == 13)=false:=rfl
  simp only [A6,Co,Bk,Bl,Bq,Dx,A4,Be,A7,A9,A8,B6,A5,Bc,Ba,Ce,A0,A1,Bm,ofOpt,Bb,Bs,B9,Nat.reduceLT,Nat.reduceAdd,Nat.reduceEqDiff,Aa,Ab,Ac,Ae,Am,Fe,Tryz.f140,Ca,Cb,hS1,l3,fe0,fe5,lk,len,e3,e14,e11,e12,e13]
  refine Do (Dh ?_)
  simp only [Bv,Bo,A6,Bk,Bl,Bq,C1,A4,Ci,Bn,Da,Be,A7,A9,A8,B6,A5,Bc,Ba,A0,A1,ofOpt,Bs,B0,Bg,Cs,Cu,Nat.reduceLT,Nat.reduceEqDiff,Aa,Ab,Ac,Am,Aq,Fe,hlt,Gm]
  exact ⟨_,rfl,h1,k1.x s⟩
 | tru pos n name off =>
  cases hx with
  | mk _ _ _ _ _ kv _ hkv =>
  refine Dv Tryz.f140 (by kernel_rfl) (by kernel_rfl) (by kernel_rfl) (by show (_:Nat) ≤ _;simp [Tryz.f140]) ?_
  have g1:=Cv S (exC 2 pos n name off kv)
  have k1:=Cz S (exC 2 pos n name off kv)
  generalize hS1:S.newBox (exC 2 pos n name off kv)=S1 at g1 k1
  have h1:=h.keep k1
  have l3:Cd Tryz.prog S1 3 (.ptr S.next 0)=some (.v (.int .i64 ((2:Nat):Int))):=Je g1
  have lk:=gS g1
  have len:Fw Tryz.prog S1 28 kv=some 0:=qE S1 hkv
  have hlt:¬ ((0:Int) < ((0:Nat):Int)):=by decide
  have e3:(((2:Nat):Int) == 3)=false:=rfl
  have e14:(((2:Nat):Int) == 14)=false:=rfl
  have e11:(((2:Nat):Int) == 11)=false:=rfl
  have e12:(((2:Nat):Int) == 12)=false:=rfl
  have e13:(((2:Nat):Int) == 13)=false:=rfl
  simp only [A6,Co,Bk,Bl,Bq,Dx,A4,Be,A7,A9,A8,B6,A5,Bc,Ba,Ce,A0,A1,Bm,ofOpt,Bb,Bs,B9,Nat.reduceLT,Nat.reduceAdd,Nat.reduceEqDiff,Aa,Ab,Ac,Ae,Am,Fe,Tryz.f140,Ca,Cb,hS1,l3,fe0,fe5,lk,len,e3,e14,e11,e12,e13]
  refine Do (Dh ?_)
  simp only [Bv,Bo,A6,Bk,Bl,Bq,C1,A4,Ci,Bn,Da,Be,A7,A9,A8,B6,A5,Bc,Ba,A0,A1,ofOpt,Bs,B0,Bg,Cs,Cu,Nat.reduceLT,Nat.reduceEqDiff,Aa,Ab,Ac,Am,Aq,Fe,hlt,Gm]
  exact ⟨_,rfl,h1,k1.x s⟩
 | var pos n name off kids =>
  cases hx with
  | mk _ _ _ _ _ kv _ hkv =>
  refine Dv Tryz.f140 (by kernel_rfl) (by kernel_rfl) (by kernel_rfl) (by show (_:Nat) ≤ _;simp [Tryz.f140]) ?_
  obtain ⟨fn1,hf138⟩:=fnv_138
  obtain ⟨fn2,hf139⟩:=fnv_139
  obtain ⟨fn3,hf108⟩:=mL
  have g1:=Cv S (exC 3 pos n name off kv)
  have k1:=Cz S (exC 3 pos n name off kv)
  generalize hS1:S.newBox (exC 3 pos n name off kv)=S1 at g1 k1
  have h1:=h.keep k1
  have l3:Cd Tryz.prog S1 3 (.ptr S.next 0)=some (.v (.int .i64 ((3:Nat):Int))):=Je g1
  have e3:(((3:Nat):Int) == 3)=true:=rfl
  have ln:Cd Tryz.prog S1 9 (.ptr S.next 3)=some (.v (.string ⟨⟨name⟩⟩)):=by rw [Q3,g1]; rfl
  have lp:Cd Tryz.prog S1 3 (.ptr S.next 1)=some (.v (.int .i64 (pos:Int))):=by rw [Pt,g1]; rfl
  have hck:Z1 (Kq nd) name (clk name):=hk rfl
  have rv:=uQ hv
  simp only [A6,Co,Bk,Bl,Bq,A4,Be,A7,A9,A8,B8,A5,Bc,Ba,Ce,A0,A1,ofOpt,Bb,Bs,B9,Nat.reduceLT,Nat.reduceAdd,Nat.reduceEqDiff,Aa,Ab,Ac,Ae,Am,Fe,Tryz.f140,Ca,Cb,hS1,l3,fe0,e3]
  refine Fv [(0,true),(1,true),(2,true),(3,true),(5,true),(8,true),(9,true),(4,true),(9,false),(6,true),(9,false),(7,true),(10,true)] (by kernel_rfl) (by kernel_rfl) ?_
  simp only [A5,Bc,Ba,A0,A1,Bm,B5,ofOpt,Nat.reduceLT,Nat.reduceEqDiff,Aa,Ab,Ac,Af,Ag,Ah,Aj,Ak,Am,Fe,fe3,fe1,ln,lp,hf138,Dr,Ct,C3,B7,F4]
  refine WC.mono (ofK_w hn hs h1 name (clk name) hck) ?_
  rintro _ rfl
  simp only [A5,Bc,Ba,A0,A1,Bm,B5,ofOpt,Nat.reduceLT,Nat.reduceEqDiff,Aa,Ab,Ac,Aj,Ak,Fe,lp,hf139,Dr,F3,C3,B7,Dl,D6,Em,Jp]
  refine WC.mono (yU (Yv (clk name)) hv (by have:=hck.2; omega) (by omega) S1) ?_
  rintro _ rfl
  simp only [A5,Bc,Ba,A0,A1,Bm,B5,ofOpt,Bb,Db,Nat.reduceLT,Nat.reduceEqDiff,Aa,Ab,Ac,Aj,Ak,Fe,Sw,lp,Q5,hf108,Dr,F3,Ct,C3,B7,Dl,D6,Em,Jp]
  refine WC.mono (lG h1 (!(Mv (clk name) c)) pos 8) ?_
  rintro _ ⟨S2,rfl,h2,k2,n2⟩
  simp only [Bn,B0,Bg,Cs,Nat.reduceLT,Ac,Gm,D9,B7,Dl,Dj]
  exact ⟨_,rfl,h2,(k1.x s).trans k2⟩
def exF (clk:List UInt8 → List Gd):PE → List Gd → Nat × Nat → Nat × Nat
 | .mk kind pos n name off kids,c,f=>if kind=12 then (match kids with
  | [a,b]=>jV clk b (c ++ [(name,true)]) (jV clk a (c ++ [(name,false)]) (Hq (!(Mv (clk name) c)) pos 8 f))
  | _=>f) else jV clk (.mk kind pos n name off kids) c f
def NamK (ds:List PD) (clk:List UInt8 → List Gd) (e:PE):Prop:=Ic e=3 → Z1 ds (nmE e) (clk (nmE e))
inductive SimK (ds:List PD) (clk:List UInt8 → List Gd):PE → Prop where
 | leaf (e:PE) (h:LeafK e) (hn:NamK ds clk e):SimK ds clk e
 | merge (pos:Nat) (n:Int) (name:List UInt8) (off:Bool) (a b:PE) (ha:LeafK a) (hb:LeafK b) (hna:NamK ds clk a) (hnb:NamK ds clk b) (hm:Z1 ds name (clk name)):SimK ds clk (.mk 12 pos n name off [a,b])
theorem exK_w {s:Nat} {mm:AV} {ncs:List AV} {nd:PN} (hn:Gr (.agg ncs) nd) (hs:nd.ins.length + nd.outs.length + nd.vars.length ≤ 3000) {clk:List UInt8 → List Gd} (e:PE) (he:SimK (Kq nd) clk e) (xs:List AV) (hx:RepE (.agg xs) e) {v:AV} {c:List Gd} (hv:F2 2 gA v c) (hc:c.length ≤ 1000) (S:St) (f:Nat × Nat) (h:Kx s mm ncs S f):WC E11 140 [.ptr s 0,.agg xs,v] S (fun r=>∃ S',r=.ret (.tup []) S' ∧ Kx s mm ncs S' (exF clk e c f) ∧ D7 s S S'):=by
 cases he with
 | leaf e he hnm =>
  have e1:exF clk e c f=jV clk e c f:=by cases he <;> rfl
  rw [e1]
  exact zZ hn hs e he hnm xs hx hv (by omega) S f h
 | merge pos n name off a b ha hb hna hnb hck =>
  cases hx with
  | mk _ _ _ _ _ kv _ hkv =>
  refine Dv Tryz.f140 (by kernel_rfl) (by kernel_rfl) (by kernel_rfl) (by show (_:Nat) ≤ _;simp [Tryz.f140]) ?_
  obtain ⟨fn1,hf138⟩:=fnv_138
  obtain ⟨fn2,hf139⟩:=fnv_139
  obtain ⟨fn3,hf108⟩:=mL
  obtain ⟨fn4,hf140⟩:=fnv_140
  obtain ⟨fn5,hf165⟩:=fnv_165
  have g1:=Cv S (exC 12 pos n name off kv)
  have k1:=Cz S (exC 12 pos n name off kv)
  have nlt:S.next < (S.newBox (exC 12 pos n name off kv)).next:=Nat.lt_succ_self _
  generalize hS1:S.newBox (exC 12 pos n name off kv)=S1 at g1 k1 nlt
  have h1:=h.keep k1
  have hlt:=h.lt
  have l3:Cd Tryz.prog S1 3 (.ptr S.next 0)=some (.v (.int .i64 ((12:Nat):Int))):=Je g1
  have e3:(((12:Nat):Int) == 3)=false:=rfl
  have e14:(((12:Nat):Int) == 14)=false:=rfl
  have e11:(((12:Nat):Int) == 11)=false:=rfl
  have e12:(((12:Nat):Int) == 12)=true:=rfl
  have ln:Cd Tryz.prog S1 9 (.ptr S.next 3)=some (.v (.string ⟨⟨name⟩⟩)):=by rw [Q3,g1]; rfl
  have lp:Cd Tryz.prog S1 3 (.ptr S.next 1)=some (.v (.int .i64 (pos:Int))):=by rw [Pt,g1]; rfl
  obtain ⟨ya,xa,ra,la⟩:=ix28r hkv 0 (by show 0 < 2; decide)
  obtain ⟨yb,xb,rb,lb⟩:=ix28r hkv 1 (by show 1 < 2; decide)
  have xa:Cm Tryz.prog 28 kv (.v (.int .i64 0))=some (.ep ya):=xa
  have xb:Cm Tryz.prog 28 kv (.v (.int .i64 1))=some (.ep yb):=xb
  have ra:RepE (.agg ya) a:=ra
  have rb:RepE (.agg yb) b:=rb
  have rk:=RepK.refl hkv
  have rya:Gj (.agg ya) (.agg ya)=true:=RepE.refl ra
  have ryb:Gj (.agg yb) (.agg yb)=true:=RepE.refl rb
  simp only [A6,Co,Bk,Bl,Bq,A4,Be,A7,A9,A8,B8,B6,A5,Bc,Ba,Ce,A0,A1,ofOpt,Bb,Bs,B9,Nat.reduceLT,Nat.reduceAdd,Nat.reduceEqDiff,Aa,Ab,Ac,Ae,Am,Fe,Tryz.f140,Ca,Cb,hS1,l3,fe0,e3,e14,e11,e12]
  refine Fv [(0,true),(1,true),(2,true),(3,true),(5,true),(8,true),(9,true),(4,true),(9,false),(6,true),(9,false),(7,true),(10,true)] (by kernel_rfl) (by kernel_rfl) ?_
  simp only [A5,Bc,Ba,A0,A1,Bm,B5,ofOpt,Nat.reduceLT,Nat.reduceEqDiff,Aa,Ab,Ac,Af,Ag,Ah,Aj,Ak,Am,Fe,fe3,fe1,ln,lp,hf138,Dr,Ct,C3,B7,F4]
  refine WC.mono (ofK_w hn hs h1 name (clk name) hck) ?_
  rintro _ rfl
  simp only [A5,Bc,Ba,A0,A1,Bm,B5,ofOpt,Nat.reduceLT,Nat.reduceEqDiff,Aa,Ab,Ac,Aj,Ak,Fe,lp,hf139,Dr,F3,C3,B7,Dl,D6,Em,Jp]
  refine WC.mono (yU (Yv (clk name)) hv (by have:=hck.2; omega) (by omega) S1) ?_
  rintro _ rfl
  simp only [A5,Bc,Ba,A0,A1,Bm,B5,ofOpt,Bb,Db,Nat.reduceLT,Nat.reduceEqDiff,Aa,Ab,Ac,Aj,Ak,Fe,Sw,lp,Q5,hf108,Dr,F3,Ct,C3,B7,Dl,D6,Em,Jp]
  refine WC.mono (lG h1 (!(Mv (clk name) c)) pos 8) ?_
  rintro _ ⟨S2,rfl,h2,k2,n2⟩
  have g2:S2.mem.get S.next=_:=(k2.2 S.next nlt (by omega)).trans g1
  have lk2:=gS g2
  have ln2:Cd Tryz.prog S2 9 (.ptr S.next 3)=some (.v (.string ⟨⟨name⟩⟩)):=by rw [Q3,g2]; rfl
  have ea2:=Wh S2 la
  simp only [Co,Bk,A4,Nat.reduceLT,Ac,D9,B7,Dl,Dj]
  refine Fv [(0,true),(1,true),(2,true),(3,true),(4,true),(5,true),(6,true),(7,true),(8,true),(4,false),(2,false),(9,true)] (by kernel_rfl) (by kernel_rfl) ?_
  simp only [A5,Bc,Ba,A0,A1,Bm,B5,ofOpt,Bb,Nat.reduceLT,Nat.reduceEqDiff,Aa,Ab,Ac,Af,Ag,Ah,Aj,Ak,Am,Fe,fe3,fe5,lk2,ln2,xa,ea2,hf165,Dr,Ct,C3,B7,F4]
  refine WC.mono (on_gw hv (by omega) name false S2) ?_
  rintro _ ⟨va,S3,rfl,hva,k3⟩
  have h3:=h2.keep k3
  have nlt2:S.next < S2.next:=by omega
  have g3:S3.mem.get S.next=_:=(k3.2 S.next nlt2).trans g2
  have lk3:=gS g3
  have ln3:Cd Tryz.prog S3 9 (.ptr S.next 3)=some (.v (.string ⟨⟨name⟩⟩)):=by rw [Q3,g3]; rfl
  have ea3:=Wh S3 la
  simp only [A5,Bc,Ba,A0,A1,Bm,B5,ofOpt,Nat.reduceLT,Nat.reduceEqDiff,Aa,Ab,Ac,Aj,Ak,Fe,lk3,ea3,rya,rk,hf140,Dr,F3,C3,B7,Dl,D6,Em]
  refine WC.mono (zZ hn hs a ha hna ya ra hva (by simp only [List.length_append,List.length_cons,List.length_nil]; omega) S3 _ h3) ?_
  rintro _ ⟨S4,rfl,h4,k4⟩
  have nlt3:S.next < S3.next:=Nat.lt_of_lt_of_le nlt2 k3.1
  have g4:S4.mem.get S.next=_:=(k4.2 S.next nlt3 (by omega)).trans g3
  have lk4:=gS g4
  have ln4:Cd Tryz.prog S4 9 (.ptr S.next 3)=some (.v (.string ⟨⟨name⟩⟩)):=by rw [Q3,g4]; rfl
  have ea4:=Wh S4 lb
  simp only [Co,A4,Nat.reduceLT,Ac,D9,B7,Dl,Dj]
  refine Fv [(0,true),(1,true),(2,true),(3,true),(4,true),(5,true),(6,true),(7,true),(8,true),(4,false),(2,false),(9,true)] (by kernel_rfl) (by kernel_rfl) ?_
  simp only [A5,Bc,Ba,A0,A1,Bm,B5,ofOpt,Bb,Nat.reduceLT,Nat.reduceEqDiff,Aa,Ab,Ac,Af,Ag,Ah,Aj,Ak,Am,Fe,fe3,fe5,lk4,ln4,xb,ea4,hf165,Dr,Ct,C3,B7,F4]
  refine WC.mono (on_gw hv (by omega) name true S4) ?_
  rintro _ ⟨vb,S5,rfl,hvb,k5⟩
  have h5:=h4.keep k5
  have nlt4:S.next < S4.next:=Nat.lt_of_lt_of_le nlt3 k4.1
  have g5:S5.mem.get S.next=_:=(k5.2 S.next nlt4).trans g4
  have lk5:=gS g5
  have ln5:Cd Tryz.prog S5 9 (.ptr S.next 3)=some (.v (.string ⟨⟨name⟩⟩)):=by rw [Q3,g5]; rfl
  have ea5:=Wh S5 lb
  simp only [A5,Bc,Ba,A0,A1,Bm,B5,ofOpt,Nat.reduceLT,Nat.reduceEqDiff,Aa,Ab,Ac,Aj,Ak,Fe,lk5,ea5,ryb,rk,hf140,Dr,F3,C3,B7,Dl,D6,Em]
  refine WC.mono (zZ hn hs b hb hnb yb rb hvb (by simp only [List.length_append,List.length_cons,List.length_nil]; omega) S5 _ h5) ?_
  rintro _ ⟨S6,rfl,h6,k6⟩
  simp only [Bn,B0,Bg,Cs,Nat.reduceLT,Ac,Gm,D9,B7,Dl,Dj]
  exact ⟨_,rfl,h6,(((((k1.x s).trans k2).trans (k3.x s)).trans k4).trans (k5.x s)).trans k6⟩
theorem V0:∀ l:List Gd,Mv l l=true
 | []=>rfl
 | g :: l=>by
  show (eqG g g && Mv l l)=true
  rw [V0 l]
  simp [eqG]
def eqKF (clk:List UInt8 → List Gd) (q:PQ) (f:Nat × Nat):Nat × Nat:=match q.left with
 | [lf]=>exF clk q.e (clk lf.1) f
 | _=>f
def SimKQ (ds:List PD) (clk:List UInt8 → List Gd) (q:PQ):Prop:=(∃ lf,q.left=[lf] ∧ Z1 ds lf.1 (clk lf.1)) ∧ SimK ds clk q.e
theorem eqK_w {s:Nat} {mm:AV} {ncs:List AV} {nd:PN} (hn:Gr (.agg ncs) nd) (hs:nd.ins.length + nd.outs.length + nd.vars.length ≤ 3000) {clk:List UInt8 → List Gd} (q:PQ) (hq:SimKQ (Kq nd) clk q) (cs:List AV) (hx:Zl (.agg cs) q) (S:St) (f:Nat × Nat) (h:Kx s mm ncs S f):WC E11 109 [.ptr s 0,.agg cs] S (fun r=>∃ S',r=.ret (.tup []) S' ∧ Kx s mm ncs S' (eqKF clk q f) ∧ D7 s S S'):=by
 obtain ⟨⟨lf,hlf,hck⟩,hse⟩:=hq
 obtain ⟨lv,xs,heq,hrow,hxl,hrep⟩:=hx
 injection heq with heq
 subst heq
 rw [hlf] at hrow
 have he:eqKF clk q f=exF clk q.e (clk lf.1) f:=by unfold eqKF; rw [hlf]
 rw [he]
 refine Dv Tryz.f109 (by kernel_rfl) (by kernel_rfl) (by kernel_rfl) (by show (_:Nat) ≤ _;simp [Tryz.f109]) ?_
 obtain ⟨fn1,hf138⟩:=fnv_138
 obtain ⟨fn2,hf139⟩:=fnv_139
 obtain ⟨fn3,hf108⟩:=mL
 obtain ⟨fn4,hf140⟩:=fnv_140
 have g1:=Cv S (eqC lv q.async xs)
 have k1:=Cz S (eqC lv q.async xs)
 have nlt:S.next < (S.newBox (eqC lv q.async xs)).next:=Nat.lt_succ_self _
 generalize hS1:S.newBox (eqC lv q.async xs)=S1 at g1 k1 nlt
 have h1:=h.keep k1
 have hlt:=h.lt
 have l55:Cd Tryz.prog S1 55 (.ptr S.next 0)=some lv:=ldq0 g1
 have ll:Fw Tryz.prog S1 55 lv=some 1:=len55r S1 hrow
 have hl1:((0:Int) < ((1:Nat):Int)):=by decide
 have hl2:¬ ((1:Int) < ((1:Nat):Int)):=by decide
 have hw1:IntKind.i64.wrap (0 + 1)=1:=by rw [IntKind.wrap_i64]; rfl
 have ixl:Cm Tryz.prog 55 lv (.v (.int .i64 0))=some (.ep (Ib lf)):=ix55r hrow 0 (Nat.succ_pos _)
 have lep:=lep59 S1 lf
 have al:=alo59 S1
 have q2:=st59w (Cv S1 Z2) rfl lf
 obtain ⟨k2,g2,l2⟩:=Jj S1 Z2 (Ib lf)
 have p2:((S1.newBox Z2).put S1.next (Ib lf)).mem.get S.next=_:=(k2.2 S.next nlt).trans g1
 generalize hS2:(S1.newBox Z2).put S1.next (Ib lf)=S2 at q2 k2 g2 l2 p2
 have h2:=h1.keep k2
 have ln:Cd Tryz.prog S2 9 (.ptr S1.next 0)=some (.v (.string ⟨⟨lf.1⟩⟩)):=by rw [Q3,g2]; rfl
 have lp:Cd Tryz.prog S2 3 (.ptr S1.next 1)=some (.v (.int .i64 (lf.2:Int))):=by rw [Pt,g2]; rfl
 have e00:((0:Int) == 0)=true:=rfl
 have rg:=uQ (Yv (clk lf.1))
 simp only [A6,Bk,Bq,Dx,A4,Be,A7,A9,A8,A5,Bc,Ba,Ce,A0,A1,Bm,ofOpt,Bb,Nat.reduceLT,Nat.reduceAdd,Nat.reduceEqDiff,Aa,Ab,Ac,Ae,Fe,Tryz.f109,Ca,Cb,hS1,fq0,l55,ll]
 refine Do (Dh ?_)
 simp only [Bv,Bo,A6,Co,Bk,Bl,Bq,C1,A4,Ci,Da,Be,A7,A9,C4,By,Df,A8,B8,A5,Bc,Ba,A0,A1,Bm,B5,ofOpt,ofOptS,Bb,Bs,Cu,B9,Nat.reduceLT,Nat.reduceEqDiff,Aa,Ab,Ac,Aj,Ak,Al,Am,Ap,Fe,hl1,ixl,lep,al,q2,fa59_0,ln,hf138]
 refine WC.mono (ofK_w hn hs h2 lf.1 (clk lf.1) hck) ?_
 rintro _ rfl
 simp only [Co,A4,Be,A7,A9,A8,Cj,A5,Bc,Ba,A0,A1,ofOpt,Nat.reduceLT,Nat.reduceEqDiff,Aa,Ab,Ac]
 refine Fv [(0,true),(1,true),(2,true),(3,true),(5,true),(8,true),(9,true),(4,true),(9,false),(6,true),(9,false),(7,true),(10,true)] (by kernel_rfl) (by kernel_rfl) ?_
 simp only [A5,Bc,Ba,A0,A1,Bm,B5,ofOpt,Nat.reduceLT,Nat.reduceEqDiff,Aa,Ab,Ac,Af,Ag,Ah,Aj,Ak,Am,Fe,fa59_0,fa59_1,ln,lp,hf138,Dr,Ct,C3,B7,F4]
 refine WC.mono (ofK_w hn hs h2 lf.1 (clk lf.1) hck) ?_
 rintro _ rfl
 simp only [A5,Bc,Ba,A0,A1,Bm,B5,ofOpt,Nat.reduceLT,Nat.reduceEqDiff,Aa,Ab,Ac,Aj,Ak,Fe,lp,hf139,Dr,F3,C3,B7,Dl,D6,Em,Jp]
 refine WC.mono (yU (Yv (clk lf.1)) (Yv (clk lf.1)) (by have:=hck.2; omega) (by have:=hck.2; omega) S2) ?_
 rintro _ rfl
 simp only [A5,Bc,Ba,A0,A1,Bm,B5,ofOpt,Bb,Db,Nat.reduceLT,Nat.reduceEqDiff,Aa,Ab,Ac,Aj,Ak,Ar,Fe,Sw,lp,Q5,V0,hf108,Dr,F3,Ct,C3,B7,Dl,D6,Em,Jp]
 refine WC.mono (lG h2 false lf.2 8) ?_
 rintro _ ⟨S3,rfl,h3,k3,n3⟩
 have et:Hq false lf.2 8 f=f:=rfl
 rw [et] at h3
 have p3:S3.mem.get S.next=_:=(k3.2 S.next (by omega) (by omega)).trans p2
 have l30:Cd Tryz.prog S3 30 (.ptr S.next 2)=some (.agg xs):=ldq2 p3 hxl
 simp only [Bw,A6,A4,Bn,Be,A7,A9,A8,A5,Bc,Ba,A0,A1,ofOpt,Bb,Bs,Dg,Nat.reduceLT,Nat.reduceEqDiff,Aa,Ab,Ac,Am,Fe,hw1,D9,B7,Dl,Dj]
 refine Do (Dh ?_)
 simp only [Bv,Bo,A6,Bk,Bl,Bq,C1,A4,Ci,Da,Be,A7,A9,By,A8,B6,A5,Bc,Ba,A0,A1,Bm,B5,ofOpt,Bs,Cu,Nat.reduceLT,Nat.reduceEqDiff,Aa,Ab,Ac,Aj,Ak,Am,Aq,Fe,hl2,fq2,l30,hf140]
 refine WC.mono (exK_w hn hs q.e hse xs hrep (Yv (clk lf.1)) hck.2 S3 f h3) ?_
 rintro _ ⟨S4,rfl,h4,k4⟩
 simp only [Be,A8,Cj,B0,Bg,Cs,Nat.reduceLT,Ac,Gm]
 exact ⟨_,rfl,h4,(((k1.x s).trans (k2.x s)).trans k3).trans k4⟩
theorem st49k {S:St} {s:Nat} {mm:AV} {ncs:List AV} (hl:ncs.length=6) {a e:Nat} (h:S.mem.get s=some (.box (Jq mm ncs a e))) {cs:List AV} (hc:cs.length=6):Dt Tryz.prog S 49 (.ptr s 1) (.agg cs)=some (S.put s (Jq mm cs a e)):=by
 obtain ⟨x0,x1,x2,x3,x4,x5,rfl⟩:=Uj hl
 obtain ⟨y0,y1,y2,y3,y4,y5,rfl⟩:=Uj hc
 simp [Dt,h,N4,AV.noTup,AV.cells,Jq,St.put]
def dQ (clk:List UInt8 → List Gd):List PQ → Nat × Nat → Nat × Nat
 | [],f=>f
 | q :: l,f=>dQ clk l (eqKF clk q f)
def kV:Code:=match Tryz.f72.body with
 | some (.seq _ (.seq _ (.seq (.seq _ (.block _ (.loop b))) _)))=>b
 | _=>.skip
def kQ:Code:=match Tryz.f72.body with
 | some (.seq _ (.seq _ (.seq _ (.seq _ (.block _ (.loop b))))))=>b
 | _=>.skip
def LoopK (n s:Nat) (mm:AV) (ncs:List AV) (S0:St) (p:Nat) (f:Nat × Nat) (r:O):Prop:=∃ t' S',r=.out (.exit n) ⟨t',[]⟩ S' ∧ t'.get 0=some (.ptr s 0) ∧ t'.get 3=some (.ptr p 0) ∧ Kx s mm ncs S' f ∧ D7 s S0 S'
theorem kV_lp {s:Nat} {mm:AV} {ncs:List AV} {nd:PN} (hn:Gr (.agg ncs) nd) (hs:nd.ins.length + nd.outs.length + nd.vars.length ≤ 3000) {a:AV} (ds:List PD) (ha:F2 6 Fq a ds) (hof:∀ d ∈ ds,∃ n l,ofL (Kq nd) n d.name []=some (l,true)) (hl:ds.length ≤ 1000000) (p:Nat) (S0:St) (hs0:s < S0.next) (hp:p < S0.next ∧ p ≠ s) (hpm:S0.mem.get p=some (.box ncs)):∀ (n j:Nat) (f:Nat × Nat) (t:T AV) (S:St),j + n=ds.length → t.get 0=some (.ptr s 0) → t.get 3=some (.ptr p 0) → t.get 15=some a → t.get 16=some (Dq ds.length) → t.get 17=some (Dq j) → Kx s mm ncs S f → D7 s S0 S →
  WX E11 46 (.loop kV) ⟨t,[]⟩ S (LoopK 0 s mm ncs S0 p f)
 | 0,j,f,t,S,hj,h0,h3,h15,h16,h17,hc,hk=>by
  refine Do (Dh ?_)
  have hlt:¬ ((j:Int) < (ds.length:Int)):=by omega
  simp only [Dq] at h16 h17
  simp only [Bv,Bo,A6,Bk,Bl,Bq,C1,A4,Ci,Be,A7,A9,A8,B6,A5,Bc,Ba,A0,ofOpt,Bs,Cu,Nat.reduceLT,Nat.reduceEqDiff,Aa,Ab,Ac,Am,Aq,Fe,kV,Tryz.f72,h16,h17,hlt]
  exact ⟨_,_,rfl,by simp only [A0,A1,Nat.reduceEqDiff,Aa,Ab,h0],by simp only [A0,A1,Nat.reduceEqDiff,Aa,Ab,h3],hc,hk⟩
 | n + 1,j,f,t,S,hj,h0,h3,h15,h16,h17,hc,hk=>by
  refine Do (Dh ?_)
  obtain ⟨fn1,hf107⟩:=fnv_107
  obtain ⟨fn2,hf108⟩:=mL
  have hjl:j < ds.length:=by omega
  have hlt:((j:Int) < (ds.length:Int)):=by omega
  have hw:IntKind.i64.wrap ((j:Int) + 1)=((j + 1:Nat):Int):=by rw [IntKind.wrap_i64]; omega
  have hx:=qK ha j hjl
  obtain ⟨n1,l1,ho⟩:=hof _ (List.getElem_mem hjl)
  generalize ds[j]=d at hx ho
  have hep:=qD S d
  have al:=T3 S
  have q1:=Xj (Cv S J0) rfl d
  obtain ⟨k2,g2,l2⟩:=Jj S J0 (Eu d)
  have pm:S.mem.get p=_:=(hk.2 p hp.1 hp.2).trans hpm
  have pm2:((S.newBox J0).put S.next (Eu d)).mem.get p=_:=(k2.2 p (Nat.lt_of_lt_of_le hp.1 hk.1)).trans pm
  generalize hS2:(S.newBox J0).put S.next (Eu d)=S2 at q1 k2 g2 l2 pm2
  have hc2:=hc.keep k2
  have lq:=ldU Vp N4 pm2 hc.len
  have ln:Cd Tryz.prog S2 9 (.ptr S.next 0)=some (.v (.string ⟨⟨d.name⟩⟩)):=by rw [Q3,g2]; rfl
  have lp:Cd Tryz.prog S2 3 (.ptr S.next 1)=some (.v (.int .i64 (d.pos:Int))):=by rw [Pt,g2]; rfl
  simp only [Dq] at h16 h17
  simp only [Bv,Bo,A6,Bk,Bl,Bq,C1,A4,Ci,Be,A7,A9,C4,By,Df,A8,B8,A5,Bc,Ba,A0,Bm,B5,ofOpt,ofOptS,Bs,Cu,Nat.reduceLT,Nat.reduceEqDiff,Aa,Ab,Ac,Aj,Ak,Am,Ap,Fe,kV,Tryz.f72,h3,h15,h16,h17,hlt,hx,hep,al,q1,lq,fa54_0,ln,hf107]
  refine WC.mono (i11_107 hn hs d.name n1 l1 true ho S2) ?_
  rintro _ rfl
  simp only [A6,A4,Be,A7,A9,By,A8,Cj,A5,Bc,Ba,A0,Bm,B5,ofOpt,Bb,Db,Nat.reduceLT,Nat.reduceEqDiff,Aa,Ab,Ac,Ag,Ah,Aj,Ak,Ar,Fe,Sw,h0,Cw,fa54_1,lp,Q5,hf108]
  refine WC.mono (lG hc2 false d.pos 10) ?_
  rintro _ ⟨S3,rfl,h3',k3,n3⟩
  have et:Hq false d.pos 10 f=f:=rfl
  rw [et] at h3'
  simp only [Bw,A6,A4,Bn,Be,A7,A9,A8,Cj,A5,Bc,Ba,A0,ofOpt,Bb,Bs,Dg,Nat.reduceLT,Nat.reduceEqDiff,Aa,Ab,Ac,Am,Fe,h17,hw]
  refine kV_lp hn hs ds ha hof hl p S0 hs0 hp hpm n (j + 1) f _ S3 (by omega) ?_ ?_ ?_ ?_ ?_ h3' ((hk.trans (k2.x s)).trans k3)
  ·simp only [A0,A1,Nat.reduceEqDiff,Aa,Ab,h0]
  ·simp only [A0,A1,Nat.reduceEqDiff,Aa,Ab,h3]
  ·simp only [A0,A1,Nat.reduceEqDiff,Aa,Ab,h15]
  ·simp only [A0,A1,Nat.reduceEqDiff,Aa,Ab,h16]; rfl
  ·simp only [A0,A1,Nat.reduceEqDiff,Aa,Ab]; rfl
theorem kQ_lp {s:Nat} {mm:AV} {ncs:List AV} {nd:PN} (hn:Gr (.agg ncs) nd) (hs:nd.ins.length + nd.outs.length + nd.vars.length ≤ 3000) {clk:List UInt8 → List Gd} {a:AV} {es:List AV} (qs:List PQ) (ha:(a=.nils ∧ es=[]) ∨ ∃ tok,a=.sl tok 0 8 es) (hes:EqRows es qs) (hE:∀ q ∈ qs,SimKQ (Kq nd) clk q) (hl:qs.length ≤ 1000000) (p:Nat) (S0:St) (hs0:s < S0.next):∀ (n j:Nat) (f:Nat × Nat) (t:T AV) (S:St),j + n=qs.length → t.get 0=some (.ptr s 0) → t.get 3=some (.ptr p 0) → t.get 36=some a → t.get 37=some (Dq qs.length) → t.get 38=some (Dq j) → Kx s mm ncs S f → D7 s S0 S →
  WX E11 46 (.loop kQ) ⟨t,[]⟩ S (LoopK 2 s mm ncs S0 p (dQ clk (qs.drop j) f))
 | 0,j,f,t,S,hj,h0,h3,h36,h37,h38,hc,hk=>by
  refine Do (Dh ?_)
  have hlt:¬ ((j:Int) < (qs.length:Int)):=by omega
  simp only [Dq] at h37 h38
  simp only [Bv,Bo,A6,Bk,Bl,Bq,C1,A4,Ci,Be,A7,A9,A8,B6,A5,Bc,Ba,A0,ofOpt,Bs,Cu,Nat.reduceLT,Nat.reduceEqDiff,Aa,Ab,Ac,Am,Aq,Fe,kQ,Tryz.f72,h37,h38,hlt]
  rw [List.drop_of_length_le (by omega)]
  exact ⟨_,_,rfl,by simp only [A0,A1,Nat.reduceEqDiff,Aa,Ab,h0],by simp only [A0,A1,Nat.reduceEqDiff,Aa,Ab,h3],hc,hk⟩
 | n + 1,j,f,t,S,hj,h0,h3,h36,h37,h38,hc,hk=>by
  refine Do (Dh ?_)
  obtain ⟨fn1,hf109⟩:=fnv_109
  have hjl:j < qs.length:=by omega
  have hlt:((j:Int) < (qs.length:Int)):=by omega
  have hw:IntKind.i64.wrap ((j:Int) + 1)=((j + 1:Nat):Int):=by rw [IntKind.wrap_i64]; omega
  obtain ⟨cs,hx,hcl,hq⟩:=ix47r ha hes j hjl
  have hqe:=hE _ (List.getElem_mem hjl)
  rw [List.drop_eq_getElem_cons hjl]
  generalize qs[j]=q at hq hqe
  have hep:=lepU ag57 bN S cs hcl
  have al:=alo57 S
  have q1:=stU bN (Cv S sY) rfl hcl
  obtain ⟨k2,g2,l2⟩:=Jj S sY cs
  generalize hS2:(S.newBox sY).put S.next cs=S2 at q1 k2 g2 l2
  have hc2:=hc.keep k2
  have lq:=ldU ag57 bN g2 hcl
  simp only [Dq] at h37 h38
  simp only [Bv,Bo,A6,Bk,Bl,Bq,C1,A4,Ci,Be,A7,A9,C4,By,Df,A8,B8,A5,Bc,Ba,A0,Bm,B5,ofOpt,ofOptS,Bs,Cu,Nat.reduceLT,Nat.reduceEqDiff,Aa,Ab,Ac,Aj,Ak,Am,Ap,Fe,kQ,Tryz.f72,h0,h36,h37,h38,hlt,hx,hep,al,q1,lq,hf109]
  refine WC.mono (eqK_w hn hs q hqe cs hq S2 f hc2) ?_
  rintro _ ⟨S3,rfl,hc3,k3⟩
  simp only [Bw,A6,A4,Bn,Be,A7,A9,A8,Cj,A5,Bc,Ba,A0,ofOpt,Bb,Bs,Dg,Nat.reduceLT,Nat.reduceEqDiff,Aa,Ab,Ac,Am,Fe,h38,hw]
  refine kQ_lp hn hs qs ha hes hE hl p S0 hs0 n (j + 1) _ _ S3 (by omega) ?_ ?_ ?_ ?_ ?_ hc3 ((hk.trans (k2.x s)).trans k3)
  ·simp only [A0,A1,Nat.reduceEqDiff,Aa,Ab,h0]
  ·simp only [A0,A1,Nat.reduceEqDiff,Aa,Ab,h3]
  ·simp only [A0,A1,Nat.reduceEqDiff,Aa,Ab,h36]
  ·simp only [A0,A1,Nat.reduceEqDiff,Aa,Ab,h37]; rfl
  ·simp only [A0,A1,Nat.reduceEqDiff,Aa,Ab]; rfl
theorem nodeK_w {s:Nat} {mm:AV} {ncs cs:List AV} {nd:PN} (hn:Gr (.agg cs) nd) (hs:nd.ins.length + nd.outs.length + nd.vars.length ≤ 3000) {clk:List UInt8 → List Gd} (hof:∀ d ∈ nd.vars,∃ n l,ofL (Kq nd) n d.name []=some (l,true)) (hE:∀ q ∈ nd.eqs,SimKQ (Kq nd) clk q) (hlq:nd.eqs.length ≤ 1000000) (S:St) (f:Nat × Nat) (h:Kx s mm ncs S f):WC E11 72 [.ptr s 0,.agg cs] S (fun r=>∃ S',r=.ret (.tup []) S' ∧ Kx s mm cs S' (dQ clk nd.eqs f) ∧ D7 s S S'):=by
 have hn0:=hn
 obtain ⟨a,bb,c,d,es,heq,ha,hb,hcv,hd,he⟩:=hn
 injection heq with heq
 subst heq
 refine Dv Tryz.f72 (by kernel_rfl) (by kernel_rfl) (by kernel_rfl) (by show (_:Nat) ≤ _;simp [Tryz.f72]) ?_
 have g1:=Cv S (Fg nd.name nd.pos a bb c d)
 have k1:=Cz S (Fg nd.name nd.pos a bb c d)
 have n1:(S.newBox (Fg nd.name nd.pos a bb c d)).next=S.next + 1:=rfl
 generalize hS1:S.newBox (Fg nd.name nd.pos a bb c d)=S1 at g1 k1 n1
 have h1:=h.keep k1
 have hlt:=h.lt
 have lq:=ldU Vp N4 g1 rfl
 have st:=st49k h1.len h1.box (cs:=Fg nd.name nd.pos a bb c d) rfl
 have k2:D7 s S1 (S1.put s (Jq mm (Fg nd.name nd.pos a bb c d) f.1 f.2)):=⟨Nat.le_refl _,fun id _ hne=>Eg hne⟩
 have h2:Kx s mm (Fg nd.name nd.pos a bb c d) (S1.put s (Jq mm (Fg nd.name nd.pos a bb c d) f.1 f.2)) f:=⟨Ed _ _ _,h1.lt,rfl⟩
 have g2:(S1.put s (Jq mm (Fg nd.name nd.pos a bb c d) f.1 f.2)).mem.get S.next=_:=(Eg (by omega)).trans g1
 have n2:(S1.put s (Jq mm (Fg nd.name nd.pos a bb c d) f.1 f.2)).next=S1.next:=rfl
 generalize hS2:S1.put s (Jq mm (Fg nd.name nd.pos a bb c d) f.1 f.2)=S2 at st k2 h2 g2 n2
 have lv2:Cd Tryz.prog S2 46 (.ptr S.next 4)=some c:=ld46_4 g2
 have lenv:=Rj S2 hcv
 have key:=fun t=>kV_lp (s:=s) (mm:=mm) hn0 hs nd.vars hcv hof (by omega) S.next S2 (by omega) ⟨by omega,by omega⟩ g2 nd.vars.length 0 f t S2 (by omega)
 unfold kV at key
 simp only [Tryz.f72] at key
 simp only [A6,Bk,Bq,Dx,A4,Be,A7,A9,C4,Df,A8,A5,Bc,Ba,Ce,A0,A1,Bm,ofOpt,Bb,Nat.reduceLT,Nat.reduceAdd,Nat.reduceEqDiff,Aa,Ab,Ac,Ae,Fe,Tryz.f72,Ca,Cb,hS1,lq,fa132_1,st,qZ,lv2,lenv]
 refine WX.mono (key _ ?_ ?_ ?_ ?_ ?_ h2 ⟨Nat.le_refl _,fun _ _ _=>rfl⟩) ?_
 ·simp only [A0,A1,Nat.reduceEqDiff,Aa,Ab]
 ·simp only [A0,A1,Nat.reduceEqDiff,Aa,Ab]
 ·simp only [A0,A1,Nat.reduceEqDiff,Aa,Ab]
 ·simp only [A0,A1,Nat.reduceEqDiff,Aa,Ab]; rfl
 ·simp only [A0,A1,Nat.reduceEqDiff,Aa,Ab]; rfl
 rintro _ ⟨t3,S3,rfl,h30,h33,h3,k3⟩
 have g3:S3.mem.get S.next=_:=(k3.2 S.next (by omega) (by omega)).trans g2
 have lq3:Cd Tryz.prog S3 47 (.ptr S.next 5)=some d:=ld49_5 g3
 have lenq:=len47r S3 hd he
 have key2:=fun t=>kQ_lp (s:=s) (mm:=mm) hn0 hs nd.eqs hd he hE hlq S.next S3 (by have:=k3.1; omega) nd.eqs.length 0 f t S3 (by omega)
 unfold kQ at key2
 simp only [Tryz.f72] at key2
 simp only [A6,Bk,Bq,Dx,A4,Ci,Da,Be,A7,A9,A8,A5,Bc,Ba,A0,Bm,ofOpt,Bb,Nat.reduceLT,Nat.reduceEqDiff,Aa,Ab,Ac,Fe,h33,fn5,lq3,lenq]
 refine WX.mono (key2 _ ?_ ?_ ?_ ?_ ?_ h3 ⟨Nat.le_refl _,fun _ _ _=>rfl⟩) ?_
 ·simp only [A0,A1,Nat.reduceEqDiff,Aa,Ab,h30]
 ·simp only [A0,A1,Nat.reduceEqDiff,Aa,Ab,h33]
 ·simp only [A0,A1,Nat.reduceEqDiff,Aa,Ab]
 ·simp only [A0,A1,Nat.reduceEqDiff,Aa,Ab]; rfl
 ·simp only [A0,A1,Nat.reduceEqDiff,Aa,Ab]; rfl
 rintro _ ⟨t4,S4,rfl,h40,h43,h4,k4⟩
 rw [List.drop_zero] at h4
 simp only [Da,B0,Bg,Cs,Aa,Gm]
 exact ⟨_,rfl,h4,(((k1.x s).trans k2).trans k3).trans k4⟩
theorem key129:iX 129 46:=fP (by kernel_rfl)
theorem bl132 (g:Nat):Gc Tryz.prog 132 [(0,.map g)]=some (.agg (Jq (.map g) Me 0 0)):=by kernel_rfl
theorem al132 (S:St):Js Tryz.prog S 132=some (.ptr S.next 0,S.newBox (Jq .nilm Me 0 0)):=by kernel_rfl
theorem sz132:Fu Tryz.prog 132=some 9:=by kernel_rfl
theorem ld33k {S:St} {s:Nat} {mm:AV} {ncs:List AV} (hl:ncs.length=6) {a e:Nat} (h:S.mem.get s=some (.box (Jq mm ncs a e))):Cd Tryz.prog S 33 (.ptr s 7)=some (.agg (Ds a e)):=by
 obtain ⟨x0,x1,x2,x3,x4,x5,rfl⟩:=Uj hl
 simp [Cd,D0,h,ag33u,sz33z,Jq,Ds]
theorem insOf_w {v w:AV} {nd:PN} {tok off:Nat} (hv:v=.sl tok off 6 [w]) (hn:Gr w nd) (S:St):WC E11 71 [v] S (fun r=>∃ g S',r=.ret (.map g) S' ∧ En S S'):=by
 subst hv
 obtain ⟨a,bb,c,d,es,rfl,ha,hb,hcv,hd,he⟩:=hn
 refine Dv Tryz.f71 (by kernel_rfl) (by kernel_rfl) (by kernel_rfl) (by show (_:Nat) ≤ _;simp [Tryz.f71]) ?_
 have hm:=aI S
 have heq:=pU S
 generalize (Mx S).2=S1 at hm heq
 have len:Fw Tryz.prog S1 40 (.sl tok off 6 [.agg (Fg nd.name nd.pos a bb c d)])=some 1:=by simp [Fw,un40]
 have hl1:((0:Int) < ((1:Nat):Int)):=by decide
 have hl2:¬ ((1:Int) < ((1:Nat):Int)):=by decide
 have hw1:IntKind.i64.wrap (0 + 1)=1:=by rw [IntKind.wrap_i64]; rfl
 have hx:Cm Tryz.prog 40 (.sl tok off 6 [.agg (Fg nd.name nd.pos a bb c d)]) (.v (.int .i64 0))=some (.ep (Fg nd.name nd.pos a bb c d)):=idxU eu40 N4 tok off [.agg (Fg nd.name nd.pos a bb c d)] 0 (Nat.succ_pos _)
 have hep:=lepU Vp N4 S1 (Fg nd.name nd.pos a bb c d) rfl
 have al:=sM S1
 have q1:=stU N4 (Cv S1 Me) rfl (ys:=Fg nd.name nd.pos a bb c d) rfl
 obtain ⟨_,g2,l2⟩:=Jj S1 Me (Fg nd.name nd.pos a bb c d)
 have hk2:=hm.new Me (Fg nd.name nd.pos a bb c d)
 generalize hS2:(S1.newBox Me).put S1.next (Fg nd.name nd.pos a bb c d)=S2 at q1 g2 l2 hk2
 have ln:Cd Tryz.prog S2 9 (.ptr S1.next 0)=some (.v (.string ⟨⟨nd.name⟩⟩)):=by rw [Q3,g2]; rfl
 have li:Cd Tryz.prog S2 46 (.ptr S1.next 2)=some a:=gV g2
 have up:=fK (α:=AV) id key129 (l:=[]) hk2.1 nd.name a
 have hk3:=hk2.upd (es2:=I0 id (Rh [] nd.name a))
 simp only [id] at up
 generalize hS3:({ S2 with mem:=S2.mem.set S.next (some (.mp (I0 id (Rh [] nd.name a)))) }:St)=S3 at up hk3
 simp only [A6,Bk,Bq,Dx,A4,Be,A7,A9,A8,A5,Bc,Ba,Ce,A0,A1,Bm,ofOpt,ofOptS,Bb,Nat.reduceLT,Nat.reduceEqDiff,Aa,Ab,Ac,Ae,Fe,Tryz.f71,heq,len]
 refine Do (Dh ?_)
 simp only [Bw,Bv,Bo,A6,Bk,Bl,Bq,C1,B1,A4,Ci,Bn,Da,Be,A7,A9,C4,Df,A8,B8,A5,Bc,Ba,A0,A1,ofOpt,ofOptS,Bb,Bs,Bi,B0,Bg,Cs,Cu,Dg,Nat.reduceLT,Nat.reduceEqDiff,Aa,Ab,Ac,Am,Ap,Fe,hl1,hx,hep,al,q1,fa49_0,aU,ln,li,up,hw1]
 refine Do (Dh ?_)
 simp only [Bv,Bo,A6,Bk,Bl,Bq,C1,B1,A4,Ci,Da,Be,A7,A9,A8,B6,A5,Bc,Ba,A0,A1,ofOpt,Bs,Bi,B0,Bg,Cs,Cu,Nat.reduceLT,Nat.reduceEqDiff,Aa,Ab,Ac,Am,Aq,Fe,hl2]
 exact ⟨_,_,rfl,hk3.2.2.2⟩
theorem checkK_w {v w:AV} {nd:PN} {tok off:Nat} (hv:v=.sl tok off 6 [w]) (hn:Gr w nd) (hs:nd.ins.length + nd.outs.length + nd.vars.length ≤ 3000) {clk:List UInt8 → List Gd} (hof:∀ d ∈ nd.vars,∃ n l,ofL (Kq nd) n d.name []=some (l,true)) (hE:∀ q ∈ nd.eqs,SimKQ (Kq nd) clk q) (hlq:nd.eqs.length ≤ 1000000) (S:St):WC E11 33 [v] S (fun r=>∃ S',r=.ret (.agg (Ds (dQ clk nd.eqs (0,0)).1 (dQ clk nd.eqs (0,0)).2)) S'):=by
 obtain ⟨cs,hw,hcl,_⟩:=Wl hn
 subst hw
 refine Dv Tryz.f33 (by kernel_rfl) (by kernel_rfl) (by kernel_rfl) (by show (_:Nat) ≤ _;simp [Tryz.f33]) ?_
 obtain ⟨fn1,hf71⟩:=fnv_71
 obtain ⟨fn2,hf72⟩:=fnv_72
 have al:=Ov S
 have g1:=Cv S (Ds 0 0)
 have lt1:S.next < (S.newBox (Ds 0 0)).next:=Nat.lt_succ_self _
 generalize hS1:S.newBox (Ds 0 0)=S1 at al g1 lt1
 simp only [A6,Bk,A4,Be,A7,A9,By,A8,A5,Bc,Ba,Ce,A0,A1,Bm,B5,ofOpt,ofOptS,Nat.reduceLT,Nat.reduceEqDiff,Aa,Ab,Ac,Ae,Aj,Ak,Fe,Tryz.f33,al,hf71]
 refine WC.mono (insOf_w hv hn S1) ?_
 rintro _ ⟨g,S2,rfl,k2⟩
 subst hv
 have g2:S2.mem.get S.next=_:=(k2.2 S.next lt1).trans g1
 have hbl:=bl132 g
 have al2:=al132 S2
 have q3:=stU sz132 (Cv S2 (Jq .nilm Me 0 0)) rfl (ys:=Jq (.map g) Me 0 0) rfl
 obtain ⟨k3,a3,l3⟩:=Jj S2 (Jq .nilm Me 0 0) (Jq (.map g) Me 0 0)
 have lt2:=Nat.lt_of_lt_of_le lt1 k2.1
 generalize hS3:(S2.newBox (Jq .nilm Me 0 0)).put S2.next (Jq (.map g) Me 0 0)=S3 at q3 k3 a3 l3
 have g3:S3.mem.get S.next=_:=(k3.2 S.next lt2).trans g2
 have lt3:=Nat.lt_of_lt_of_le lt2 k3.1
 have h3:Kx S2.next (.map g) Me S3 (0,0):=⟨a3,l3,rfl⟩
 have len:Fw Tryz.prog S3 40 (.sl tok off 6 [.agg cs])=some 1:=by simp [Fw,un40]
 have hl1:((0:Int) < ((1:Nat):Int)):=by decide
 have hl2:¬ ((1:Int) < ((1:Nat):Int)):=by decide
 have hw1:IntKind.i64.wrap (0 + 1)=1:=by rw [IntKind.wrap_i64]; rfl
 have hx:Cm Tryz.prog 40 (.sl tok off 6 [.agg cs]) (.v (.int .i64 0))=some (.ep cs):=idxU eu40 N4 tok off [.agg cs] 0 (Nat.succ_pos _)
 have hep:=lepU Vp N4 S3 cs hcl
 have al4:=sM S3
 have q4:=stU N4 (Cv S3 Me) rfl hcl
 obtain ⟨k4,a4,l4⟩:=Jj S3 Me cs
 have g4:((S3.newBox Me).put S3.next cs).mem.get S.next=_:=(k4.2 S.next lt3).trans g3
 have lt4:=Nat.lt_of_lt_of_le lt3 k4.1
 generalize hS4:(S3.newBox Me).put S3.next cs=S4 at q4 k4 a4 l4 g4 lt4
 have h4:=h3.keep k4
 have lq4:=ldU Vp N4 a4 hcl
 simp only [A6,Bk,Bq,Dx,A4,Be,A7,A9,C4,Df,A8,Cj,A5,Bc,Ba,A0,A1,Bm,ofOpt,ofOptS,Bb,Bz,Nat.reduceLT,Nat.reduceEqDiff,Aa,Ab,Ac,Fe,hbl,al2,q3,len]
 refine Do (Dh ?_)
 simp only [Bv,Bo,A6,Bk,Bl,Bq,C1,A4,Ci,Da,Be,A7,A9,C4,By,Df,A8,B8,A5,Bc,Ba,A0,A1,Bm,B5,ofOpt,ofOptS,Bs,Cu,Nat.reduceLT,Nat.reduceEqDiff,Aa,Ab,Ac,Aj,Ak,Am,Ap,Fe,hl1,hx,hep,al4,q4,lq4,hf72]
 refine WC.mono (nodeK_w hn hs hof hE hlq S4 (0,0) h4) ?_
 rintro _ ⟨S5,rfl,h5,k5⟩
 generalize dQ clk nd.eqs (0,0)=f5 at h5 ⊢
 have g5:S5.mem.get S.next=_:=(k5.2 S.next lt4 (by omega)).trans g4
 have lf:=ld33k h5.len h5.box
 have q5:=P2 g5 rfl (rfl:(Ds f5.1 f5.2).length=2)
 have l5:=Io S5 S.next (Ds f5.1 f5.2) rfl
 simp only [Bw,A6,A4,Bn,Be,A7,A9,A8,Cj,A5,Bc,Ba,A0,A1,ofOpt,Bb,Bs,Dg,Nat.reduceLT,Nat.reduceEqDiff,Aa,Ab,Ac,Am,Fe,hw1]
 refine Do (Dh ?_)
 simp only [Bv,Bo,A6,Bk,Bl,Bq,C1,B1,A4,Ci,Da,Be,A7,A9,C4,Df,A8,B6,A5,Bc,Ba,A0,A1,ofOpt,Bs,Bi,B0,Bg,Cs,Cu,Nat.reduceLT,Nat.reduceEqDiff,Aa,Ab,Ac,Am,Aq,Fe,hl2,fa132_2,lf,q5,l5]
 exact ⟨_,rfl⟩
def Vd:Nat → List Bool → List Gd
 | _,[]=>[]
 | i,o :: l=>(cN i,o) :: Vd (i + 1) l
theorem aQ:∀ (l:List Bool) (i:Nat) (o:Bool),Vd i (l ++ [o])=Vd i l ++ [(cN (i + l.length),o)]
 | [],i,o=>rfl
 | a :: l,i,o=>by
  show (cN i,a) :: Vd (i + 1) (l ++ [o])=((cN i,a) :: Vd (i + 1) l) ++ _
  rw [aQ l (i + 1) o,show i + 1 + l.length=i + (a :: l).length by simp; omega]
  rfl
theorem gY:∀ (l:List Bool) (i:Nat),(Vd i l).length=l.length
 | [],i=>rfl
 | a :: l,i=>by show (Vd (i + 1) l).length + 1=_; rw [gY l (i + 1)]; rfl
theorem mP (i:Nat) (h:i < 10):(Hk i).toNat - 48=i:=by
 have hi:i=0 ∨ i=1 ∨ i=2 ∨ i=3 ∨ i=4 ∨ i=5 ∨ i=6 ∨ i=7 ∨ i=8 ∨ i=9:=by omega
 rcases hi with rfl | rfl | rfl | rfl | rfl | rfl | rfl | rfl | rfl | rfl <;> rfl
theorem dig_injK {i j:Nat} (hi:i < 10) (hj:j < 10) (h:Hk i=Hk j):i=j:=by
 rw [← mP i hi,← mP j hj,h]
def Lr (offs:List Bool) (name:List UInt8):List Gd:=match name with
 | [x,d]=>if x=99 ∨ x=116 then Vd 0 (offs.take (d.toNat - 48)) else []
 | _=>[]
theorem clkD_c (offs:List Bool) (i:Nat) (h:i < 10):Lr offs (cN i)=Vd 0 (offs.take i):=by
 show (if (99:UInt8)=99 ∨ (99:UInt8)=116 then Vd 0 (offs.take ((Hk i).toNat - 48)) else [])=_
 rw [if_pos (.inl rfl),mP i h]
theorem iS (offs:List Bool) (i:Nat) (h:i < 10):Lr offs (tN i)=Vd 0 (offs.take i):=by
 show (if (116:UInt8)=99 ∨ (116:UInt8)=116 then Vd 0 (offs.take ((Hk i).toNat - 48)) else [])=_
 rw [if_pos (.inr rfl),mP i h]
def wAt:Nat → List UInt8 × Bool → List Bool → Nat → List UInt8 × Bool
 | _,w,_,0=>w
 | i,_,o :: l,k + 1=>wAt (i + 1) (cN i,o) l k
 | _,w,[],_ + 1=>w
theorem wAt_succ:∀ (k:Nat) (i:Nat) (w:List UInt8 × Bool) (l:List Bool) (h:k < l.length),wAt i w l (k + 1)=(cN (i + k),l[k])
 | 0,i,w,o :: l,h=>by cases l <;> rfl
 | k + 1,i,w,o :: l,h=>by
  show wAt (i + 1) (cN i,o) l (k + 1)=_
  rw [wAt_succ k (i + 1) (cN i,o) l (by simpa using h),show i + 1 + k=i + (k + 1) by omega]
  rfl
theorem cN_ne {i j:Nat} (hi:i < 10) (hj:j < 10) (h:i ≠ j):cN i ≠ cN j:=fun e=>by
 injection e with _ e; injection e with e; exact h (dig_injK hi hj e)
theorem tN_ne {i j:Nat} (hi:i < 10) (hj:j < 10) (h:i ≠ j):tN i ≠ tN j:=fun e=>by
 injection e with _ e; injection e with e; exact h (dig_injK hi hj e)
theorem ct_ne (i j:Nat):cN i ≠ tN j:=fun e=>by
 injection e with e _; revert e; decide
theorem tc_ne (i j:Nat):tN i ≠ cN j:=fun e=>ct_ne j i e.symm
theorem find_c:∀ (l:List Bool) (i:Nat) (w:List UInt8 × Bool) (k:Nat),k < l.length → i + l.length < 10 → H7 (Ju i w l) (cN (i + k))=some ⟨cN (i + k),0,true,false,(wAt i w l k).1,(wAt i w l k).2⟩
 | o :: l,i,w,0,h,hl=>by
  show (if cN i=cN i then _ else _)=_
  rw [if_pos rfl]
  cases l <;> rfl
 | o :: l,i,w,k + 1,h,hl=>by
  simp only [List.length_cons] at h hl
  show (if cN i=cN (i + (k + 1)) then _ else if tN i=cN (i + (k + 1)) then _ else H7 (Ju (i + 1) (cN i,o) l) (cN (i + (k + 1))))=_
  rw [if_neg (cN_ne (by omega) (by omega) (by omega)),if_neg (tc_ne _ _),show i + (k + 1)=i + 1 + k by omega]
  exact find_c l (i + 1) (cN i,o) k (by omega) (by omega)
theorem find_t:∀ (l:List Bool) (i:Nat) (w:List UInt8 × Bool) (k:Nat),k ≤ l.length → i + l.length < 10 → H7 (Ju i w l) (tN (i + k))=some ⟨tN (i + k),0,false,false,(wAt i w l k).1,(wAt i w l k).2⟩
 | [],i,w,0,h,hl=>by
  show (if tN i=tN i then _ else _)=_
  rw [if_pos rfl]; rfl
 | [],i,w,k + 1,h,hl=>by simp at h
 | o :: l,i,w,0,h,hl=>by
  show (if cN i=tN i then _ else if tN i=tN i then _ else _)=_
  rw [if_neg (ct_ne _ _),if_pos rfl]
  cases l <;> rfl
 | o :: l,i,w,k + 1,h,hl=>by
  simp only [List.length_cons] at h hl
  show (if cN i=tN (i + (k + 1)) then _ else if tN i=tN (i + (k + 1)) then _ else H7 (Ju (i + 1) (cN i,o) l) (tN (i + (k + 1))))=_
  rw [if_neg (ct_ne _ _),if_neg (tN_ne (by omega) (by omega) (by omega)),show i + (k + 1)=i + 1 + k by omega]
  exact find_t l (i + 1) (cN i,o) k (by omega) (by omega)
theorem fJ:∀ (l:List Bool) (i:Nat) (w:List UInt8 × Bool),(Ju i w l).length=2 * l.length + 1
 | [],_,_=>rfl
 | o :: l,i,w=>by
  show (Ju (i + 1) (cN i,o) l).length + 1 + 1=_
  rw [fJ l]; simp only [List.length_cons]; omega
def dsK (offs:List Bool):List PD:=[⟨[98],0,true,false,[],false⟩] ++ [⟨[121],0,false,false,[],false⟩] ++ Ju 0 ([],false) offs
theorem dsK_len (offs:List Bool):(dsK offs).length=2 * offs.length + 3:=by
 unfold dsK; simp only [List.length_append,List.length_cons,List.length_nil,fJ]; omega
theorem dsK_c (offs:List Bool) (h:offs.length ≤ 9) (k:Nat) (hk:k < offs.length):H7 (dsK offs) (cN k)=some ⟨cN k,0,true,false,(wAt 0 ([],false) offs k).1,(wAt 0 ([],false) offs k).2⟩:=by
 have e:=find_c offs 0 ([],false) k hk (by omega)
 rw [Nat.zero_add] at e
 show (if ([98]:List UInt8)=cN k then _ else if ([121]:List UInt8)=cN k then _ else H7 (Ju 0 ([],false) offs) (cN k))=_
 rw [if_neg (fun e=>by injection e with _ e; cases e),if_neg (fun e=>by injection e with _ e; cases e)]
 exact e
theorem dsK_t (offs:List Bool) (h:offs.length ≤ 9) (k:Nat) (hk:k ≤ offs.length):H7 (dsK offs) (tN k)=some ⟨tN k,0,false,false,(wAt 0 ([],false) offs k).1,(wAt 0 ([],false) offs k).2⟩:=by
 have e:=find_t offs 0 ([],false) k hk (by omega)
 rw [Nat.zero_add] at e
 show (if ([98]:List UInt8)=tN k then _ else if ([121]:List UInt8)=tN k then _ else H7 (Ju 0 ([],false) offs) (tN k))=_
 rw [if_neg (fun e=>by injection e with _ e; cases e),if_neg (fun e=>by injection e with _ e; cases e)]
 exact e
theorem chain (offs:List Bool) (h:offs.length ≤ 9):∀ (i fuel:Nat) (name:List UInt8) (acc:List Gd) (d:PD),i ≤ offs.length → i < fuel → acc.length + i < (dsK offs).length → H7 (dsK offs) name=some d → (d.clock,d.off)=wAt 0 ([],false) offs i → ofL (dsK offs) fuel name acc=some (Vd 0 (offs.take i) ++ acc.reverse,true)
 | 0,fuel + 1,name,acc,d,hi,hf,ha,hd,hw=>by
  injection hw with hw _
  have e:((H7 (dsK offs) name).getD Mp).clock=[]:=by rw [hd]; exact hw
  unfold ofL
  rw [if_pos e,List.take_zero]
  rfl
 | i + 1,fuel + 1,name,acc,d,hi,hf,ha,hd,hw=>by
  rw [wAt_succ i 0 ([],false) offs (by omega),Nat.zero_add] at hw
  injection hw with h1 h2
  have e:((H7 (dsK offs) name).getD Mp)=d:=by rw [hd]; rfl
  unfold ofL
  rw [e,h1,h2,if_neg (fun e=>by cases e),if_neg (by omega)]
  have hc:=dsK_c offs h i (by omega)
  rw [chain offs h i fuel (cN i) (acc ++ [(cN i,offs[i])]) _ (by omega) (by omega) (by simp only [List.length_append,List.length_cons,List.length_nil]; omega) hc rfl]
  rw [List.take_succ_eq_append_getElem (by omega),aQ,List.length_take,Nat.min_eq_left (by omega),Nat.zero_add,List.reverse_append]
  simp
theorem clk_c (offs:List Bool) (h:offs.length ≤ 9) (k:Nat) (hk:k < offs.length):ofL (dsK offs) 20 (cN k) []=some (Lr offs (cN k),true):=by
 rw [chain offs h k 20 (cN k) [] _ (by omega) (by omega) (by rw [dsK_len]; simp; omega) (dsK_c offs h k hk) rfl,clkD_c offs k (by omega)]
 simp
theorem clk_t (offs:List Bool) (h:offs.length ≤ 9) (k:Nat) (hk:k ≤ offs.length):ofL (dsK offs) 20 (tN k) []=some (Lr offs (tN k),true):=by
 rw [chain offs h k 20 (tN k) [] _ hk (by omega) (by rw [dsK_len]; simp; omega) (dsK_t offs h k hk) rfl,iS offs k (by omega)]
 simp
theorem clk_b (offs:List Bool):ofL (dsK offs) 20 [98] []=some (Lr offs [98],true):=rfl
theorem clk_y (offs:List Bool):ofL (dsK offs) 20 [121] []=some (Lr offs [121],true):=rfl
theorem wR:∀ {l m:List PD},Each2 Md l m → ∀ n,((H7 l n).getD Mp).clock=((H7 m n).getD Mp).clock ∧ ((H7 l n).getD Mp).off=((H7 m n).getD Mp).off
 | _,_,.nil,n=>⟨rfl,rfl⟩
 | _,_,.cons a b l m h h2,n=>by
  show ((if a.name=n then some a else H7 l n).getD Mp).clock=((if b.name=n then some b else H7 m n).getD Mp).clock ∧ ((if a.name=n then some a else H7 l n).getD Mp).off=((if b.name=n then some b else H7 m n).getD Mp).off
  obtain ⟨h1,_,_,h4,h5⟩:=h
  rw [h1]
  by_cases e:b.name=n
  ·rw [if_pos e,if_pos e]; exact ⟨h4,h5⟩
  ·rw [if_neg e,if_neg e]; exact wR h2 n
theorem Sd {α β:Type} {R:α → β → Prop}:∀ {l:List α} {m:List β},Each2 R l m → l.length=m.length
 | _,_,.nil=>rfl
 | _,_,.cons _ _ _ _ _ h=>by simp [Sd h]
theorem iJ {α β:Type} {R:α → β → Prop}:∀ {l:List α} {m:List β} {l2:List α} {m2:List β},Each2 R l m → Each2 R l2 m2 → Each2 R (l ++ l2) (m ++ m2)
 | _,_,_,_,.nil,h=>h
 | _,_,_,_,.cons a b l m h h2,k=>.cons _ _ _ _ h (iJ h2 k)
theorem ofL_like {l m:List PD} (h:Each2 Md l m):∀ (n:Nat) (name:List UInt8) (acc:List Gd),ofL m n name acc=ofL l n name acc
 | 0,_,_=>rfl
 | n + 1,name,acc=>by
  obtain ⟨h1,h2⟩:=wR h name
  have hl:=Sd h
  unfold ofL
  rw [← h1,← h2,← hl]
  split
  ·rfl
  ·split
   ·rfl
   ·exact ofL_like h n _ _
theorem Qc {α β:Type} {R:α → β → Prop} {l:List β} (h:Each2 R [] l):l=[]:=by cases h; rfl
theorem Oq {α β:Type} {R:α → β → Prop} {a:α} {r:List α} {l:List β} (h:Each2 R (a :: r) l):∃ b m,l=b :: m ∧ R a b ∧ Each2 R r m:=by
 cases h with
 | cons _ b _ m h h2=>exact ⟨b,m,rfl,h,h2⟩
theorem Jz {α β:Type} {R:α → β → Prop} {a:α} {l:List β} (h:Each2 R [a] l):∃ b,l=[b] ∧ R a b:=by
 obtain ⟨b,m,rfl,h1,h2⟩:=Oq h
 obtain rfl:=Qc h2
 exact ⟨b,rfl,h1⟩
theorem My {l:List PE} (h:LikeL [] l):l=[]:=by cases h; rfl
theorem Mz {a:PE} {r l:List PE} (h:LikeL (a :: r) l):∃ b m,l=b :: m ∧ LikeE a b ∧ LikeL r m:=by
 cases h with
 | cons _ b _ m h h2=>exact ⟨b,m,rfl,h,h2⟩
theorem L7 {kind pos:Nat} {n:Int} {name:List UInt8} {off:Bool} {kids:List PE} {e:PE} (h:LikeE (.mk kind pos n name off kids) e):∃ pos' kids',e=.mk kind pos' n name off kids' ∧ LikeL kids kids':=by
 cases h with
 | mk _ _ pos' _ _ _ _ kids' hk=>exact ⟨pos',kids',rfl,hk⟩
theorem Sc {α β:Type} {R:α → β → Prop} {a c:α} {l:List β} (h:Each2 R [a,c] l):∃ b d,l=[b,d] ∧ R a b ∧ R c d:=by
 obtain ⟨b,m,rfl,h1,h2⟩:=Oq h
 obtain ⟨d,rfl,h3⟩:=Jz h2
 exact ⟨b,d,rfl,h1,h3⟩
theorem Kj {n:List UInt8} {p:Nat} {ay:Bool} {e:PE} {q:PQ} (h:Yn ⟨[(n,p)],ay,e⟩ q):∃ p' e',q=⟨[(n,p')],ay,e'⟩ ∧ LikeE e e':=by
 obtain ⟨l,as',e'⟩:=q
 obtain ⟨h1,h2,h3⟩:=h
 simp only at h1 h2 h3
 obtain ⟨⟨n',p'⟩,rfl,h4⟩:=Jz h1
 have h4:n=n':=h4
 subst h4; subst h2
 exact ⟨p',e',rfl,h3⟩
theorem U1 {n:Int} {e:PE} (h:LikeE (O8 n) e):∃ p,e=.mk 1 p n [] false []:=by
 obtain ⟨p,ks,rfl,h1⟩:=L7 (kind:=1) (pos:=0) (n:=n) (name:=[]) (off:=false) (kids:=[]) h
 obtain rfl:=My h1
 exact ⟨p,rfl⟩
theorem Q2 {n:List UInt8} {e:PE} (h:LikeE (Mn n) e):∃ p,e=.mk 3 p 0 n false []:=by
 obtain ⟨p,ks,rfl,h1⟩:=L7 (kind:=3) (pos:=0) (n:=0) (name:=n) (off:=false) (kids:=[]) h
 obtain rfl:=My h1
 exact ⟨p,rfl⟩
theorem Y3 {a:PE} {l:List PE} (h:LikeL [a] l):∃ b,l=[b] ∧ LikeE a b:=by
 obtain ⟨b,m,rfl,h1,h2⟩:=Mz h
 obtain rfl:=My h2
 exact ⟨b,rfl,h1⟩
end Go.Ax
