/- ZyC -/
import Derived.Test.YtimbgdjbggdgmaaGreatDoorNcG19
import Derived.Test.YtimbgdjbggdgmaaGreatDoorNcG18
set_option linter.unusedVariables false
set_option linter.unusedSimpArgs false
set_option maxHeartbeats 16000000
noncomputable section
open Nat (reduceLT reduceAdd reduceEqDiff reduceLeDiff)
namespace Go.Ax
open Go.RowKit Go.Proofs
set_option maxRecDepth 100000
def stL(ts:List Tk)(i:Nat)(e p:Int):List AV:=[lvA ts,.v (.int .i64 (i:Int)),.v (.int .i64 e),.v (.int .i64 p)]
def stA(ts:List Tk)(i:Nat)(e p:Int):AV:=.agg (stL ts i e p)
def IsW(ts:List Tk)(i:Nat)(w:List UInt8):Prop:=((tk ts i).kind=3∨(tk ts i).kind=4)∧(tk ts i).text=w
instance (ts:List Tk) (i:Nat) (w:List UInt8):Decidable (IsW ts i w):=by unfold IsW;infer_instance
def isB(ts:List Tk)(i:Nat)(e:Int)(w:List UInt8):Bool:=decide (e=0∧IsW ts i w)
def inS(ts:List Tk)(i:Nat)(e:Int)(ws:List (List UInt8)):List UInt8:=(ws.find? fun w=>isB ts i e w).getD []
def ExR(ts:List Tk)(i:Nat)(e:Int)(a:AV)(ok:AV→Nat→Prop):Prop :=
 ∃(j:Nat) (e' p':Int) (x0 x1 x2 x3 x4 x5:AV),a=.tup [stA ts j e' p',.agg [x0,x1,x2,x3,x4,x5]]∧j<ts.length∧i≤j∧Gm [x0,x1,x2,x3,x4,x5] [x0,x1,x2,x3,x4,x5]=true∧(e' = 0→e=0∧ok (.agg [x0,x1,x2,x3,x4,x5]) j)
def ExS(ts:List Tk)(nt:NT)(i:Nat)(e:Int)(a:AV):Prop:=ExR ts i e a fun v j=>∃x,RdX ts nt i x j∧RepE v x
def ntL:Nat→NT
 |0=>.or
 |1=>.and
 |2=>.not
 |3=>.sum
 |4=>.term
 |_=>.unary
def mQ(ts:List Tk)(i:Nat)(l:List PE)(j:Nat):Prop:=IsW ts i [40]∧((IsW ts (i+1) [41]∧l=[]∧j=i+2)∨(¬ IsW ts (i+1) [41]∧∃x m,RdX ts .expr (i+1) x m∧RestX ts .expr [x] m l j))
def SpFail(ts:List Tk)(args:List AV)(a:AV):Prop:=∀i e p,args=[stA ts i e p]→i<ts.length→∃e' p',a=stA ts i e' p'∧e'≠0
def SpIs(ts:List Tk)(args:List AV)(a:AV):Prop:=∀i e p w,args=[stA ts i e p,A2 w]→i<ts.length→a=.v (.bool (isB ts i e w))
def SpIn(ts:List Tk)(args:List AV)(a:AV):Prop:=∀i e p ws tok off,args=[stA ts i e p,.sl tok off 1 (ws.map A2)]→i<ts.length→a=A2 (inS ts i e ws)
def SpWant(ts:List Tk)(args:List AV)(a:AV):Prop:=∀i e p w,args=[stA ts i e p,A2 w]→i<ts.length→∃j e' p',a=stA ts j e' p'∧j<ts.length∧i≤j∧(e' = 0→e=0∧IsW ts i w∧j=i+1)
def SpName(ts:List Tk)(args:List AV)(a:AV):Prop:=∀i e p,args=[stA ts i e p]→i<ts.length→∃j e' p' n at_,a=.tup [stA ts j e' p',A2 n,.v (.int .i64 (at_:Nat))]∧j<ts.length∧i≤j∧(e' = 0→e=0∧(tk ts i).kind=1∧j=i+1∧n=(tk ts i).text∧at_=(tk ts i).pos)
def numE(t:Tk)(at_:Nat)(b:Bool):PE:=.mk 1 at_ (if b then IntKind.i64.wrap (0 - IntKind.i64.wrap t.num)else IntKind.i64.wrap t.num) [] false []
def SpNum(ts:List Tk)(args:List AV)(a:AV):Prop:=∀i e p (t:Tk) (at_:Nat) (b:Bool),args=[stA ts i e p,.agg (tkL t),.v (.int .i64 at_),.v (.bool b)]→i<ts.length →
 ∃(e' p':Int) (x0 x1 x2 x3 x4 x5:AV),a=.tup [stA ts i e' p',.agg [x0,x1,x2,x3,x4,x5]]∧Gm [x0,x1,x2,x3,x4,x5] [x0,x1,x2,x3,x4,x5]=true∧(e' = 0→e=0∧(b=false→t.num≠9223372036854775808)∧RepE (.agg [x0,x1,x2,x3,x4,x5]) (numE t at_ b))
def SpTruth(ts:List Tk)(args:List AV)(a:AV):Prop:=∀t:Tk,args=[.agg (tkL t)]→a=.agg [.v (.int .i64 2),.v (.int .i64 (t.pos:Int)),.v (.int .i64 (if t.text=[116,114,117,101]then 1 else 0)),A2 [],.v (.bool false),.nils]
def Sm(ts:List Tk)(nt:NT)(args:List AV)(a:AV):Prop:=∀i e p,args=[stA ts i e p]→i<ts.length→ExS ts nt i e a
def SpRow(ts:List Tk)(args:List AV)(a:AV):Prop:=∀i e p (lv:Nat),args=[stA ts i e p,.v (.int .i64 (lv:Int))]→i<ts.length→lv≤5→ExS ts (ntL lv) i e a
def SpCall(ts:List Tk)(args:List AV)(a:AV):Prop:=∀i e p n (at_:Nat),args=[stA ts i e p,A2 n,.v (.int .i64 at_)]→i<ts.length→ExR ts i e a fun v j=>∃l,RepE v (.mk 13 at_ 0 n false l)∧mQ ts i l j
def SpKids(ts:List Tk)(args:List AV)(a:AV):Prop:=∀i e p (b:Bool),args=[stA ts i e p,.v (.bool b)]→i<ts.length→∃j e' p' es,a=.tup [stA ts j e' p',.sl 0 0 6 es]∧j<ts.length∧i≤j∧Gm es es=true∧(e' = 0→e=0∧∃l x m,RepF es l∧RdX ts (if b then .lit else .expr) i x m∧RestX ts (if b then .lit else .expr) [x] m l j)
def SpDeep(ts:List Tk)(args:List AV)(a:AV):Prop:=∀xs x,args=[.agg xs]→RepE (.agg xs) x→Cp x≤1000000→a=.v (.int .i64 (dN x:Nat))
def SpDecl(ts:List Tk)(args:List AV)(a:AV):Prop:=∀i e p,args=[stA ts i e p]→i<ts.length→ExR ts i e a fun v j=>∃d,v=D7 d∧El ts i=.ok d j∧i<j
def SpDecls(ts:List Tk)(args:List AV)(a:AV):Prop:=∀i e p,args=[stA ts i e p]→i<ts.length→∃j e' p' v,a=.tup [stA ts j e' p',v]∧j<ts.length∧i≤j∧(v=.nils∨∃es,v=.sl 0 0 6 es)∧D1 v v=true∧(e' = 0→e=0∧∃l,H8 6 D7 v l∧(∃n,∀m,n≤m→Hz ts (El ts) m i=.ok l j)∧i<j)
def SpEq(ts:List Tk)(args:List AV)(a:AV):Prop:=∀i e p,args=[stA ts i e p]→i<ts.length→∃(j:Nat) (e' p':Int) (x0 x1 x2 x3 x4 x5 x6 x7:AV),a=.tup [stA ts j e' p',.agg [x0,x1,x2,x3,x4,x5,x6,x7]]∧j<ts.length∧i≤j∧Gm [x0,x1,x2,x3,x4,x5,x6,x7] [x0,x1,x2,x3,x4,x5,x6,x7]=true∧(e' = 0→e=0∧∃q,U5 (.agg [x0,x1,x2,x3,x4,x5,x6,x7]) q∧(∃n,∀m,n≤m→eqP ts m i=.ok q j)∧i<j)
def SpNode(ts:List Tk)(args:List AV)(a:AV):Prop:=∀i e p,args=[stA ts i e p]→i<ts.length→ExR ts i e a fun v j=>∃nd,Hg v nd∧(∃n,∀m,n≤m→Hk ts m i=.ok nd j)∧i<j
def SpAll(args:List AV)(a:AV):Prop:=∀l:List UInt8,args=[A2 l]→∃(v:AV) (e at_:Int),a=.tup [v,.v (.int .i64 e),.v (.int .i64 at_)]∧(e=0→∃us,v=lvA us∧Iw l=some (.inr us))
def Fv(ts:List Tk)(k:FuncId)(args:List AV)(a:AV):Prop:=match k with
 |180=>SpFail ts args a
 |118=>SpIs ts args a
 |272=>SpIn ts args a
 |115=>SpWant ts args a
 |116=>SpName ts args a
 |270=>SpNum ts args a
 |269=>SpTruth ts args a
 |182=>Sm ts .expr args a
 |223=>Sm ts .arrow args a
 |271=>Sm ts .unary args a
 |286=>Sm ts .primary args a
 |249=>Sm ts .lit args a
 |250=>SpRow ts args a
 |181=>SpCall ts args a
 |222=>SpKids ts args a
 |183=>SpDeep ts args a
 |119=>SpDecl ts args a
 |117=>SpDecls ts args a
 |120=>SpEq ts args a
 |64=>SpNode ts args a
 |63=>SpAll args a
 |_=>False
def kn3(k:Nat):Bool:=[180,118,272,115,116,270,269,182,223,271,286,249,250,181,222,183,119,117,120,64,63].any (Nat.beq k)
def E3(ts:List Tk):Env:={ P:=Tryz.prog,G:=G0,F:=E1.F,I:=fun k=>Bool.rec none (some (Ho Tryz.prog (Fv ts) k)) (kn3 k),M:=fun _=>0 }
theorem e3_P(ts:List Tk):(E3 ts).P=Tryz.prog:=_root_.id rfl
theorem e3_G(ts:List Tk):(E3 ts).G=G0:=_root_.id rfl
theorem e3_F(ts:List Tk):(E3 ts).F=E1.F:=_root_.id rfl
theorem e3_ok(ts:List Tk):(E3 ts).Ok:=⟨fun k fn h=>Kr.fn k fn h⟩
theorem e3_mix(ts:List Tk):(E3 ts).P.follows .mixedOrders=true:=Ks
theorem e3_I(ts:List Tk){k:Nat}(h:kn3 k=true):(E3 ts).I k=some (Ho Tryz.prog (Fv ts) k):=by
 show(Bool.rec none (some (Ho Tryz.prog (Fv ts) k)) (kn3 k):Option (List AV→St→R))=_
 rw[h]
theorem e3_intr(ts:List Tk):G8 (E3 ts):=fun k g hk base w0 args S hne γ w vs hS hg hv=>by
 have hk2:(Bool.rec none (some (Ho Tryz.prog (Fv ts) k)) (kn3 k):Option (List AV→St→R))=some g:=hk
 cases hb:kn3 k with
 |false=>rw[hb]at hk2;cases hk2
 |true =>
  rw[hb]at hk2;injection hk2 with hk2;subst hk2
  exact Ny base w0 args S hne γ w vs hS hv
abbrev Kn3(ts:List Tk)(k:FuncId)(args:List AV):Prop:=∃a,Kn Tryz.prog (Fv ts) k args a
theorem Jq{ts:List Tk}{k:FuncId}{args:List AV}(fn:Func)(hF:E1.F k=some fn)(hb:fn.body.isSome=true)(hl:args.length≤fn.ntmps)
  (h:W (E3 ts) fn.ntmps (fn.body.getD .skip) ⟨Cx args 0,[]⟩ St0 (U6 (E3 ts) fn.results.toList (fun r=>∃a S',r=.ret a S'∧Bw a=true∧Fv ts k args (clean a)))):Kn3 ts k args :=
 Ul (e3_ok ts) (e3_intr ts) (e3_mix ts) rfl fn hF hb hl h
theorem P9{ts:List Tk}{k:FuncId}{args args':List AV}{S:St}{Q:R→Prop}(hk:Kn3 ts k args')(hkn:kn3 k=true)(hf:C5 args=true)(hc:Be args=args')(h:∀a,Bw a=true→clean a=a→Fv ts k args' a→Q (.ret a S)):WC (E3 ts) k args S Q:=by
 subst hc;obtain⟨a,ha,hka⟩:=Me (P:=Tryz.prog) (Spec:=Fv ts) hf hk;refine Gu (e3_I ts hkn) ?_;rw[ha S];exact h a hka.free hka.cln hka.spec
theorem So:∀ts:List Tk,C5 (ts.map C6)=true∧Be (ts.map C6)=ts.map C6
 | []=>⟨rfl,rfl⟩
 |t :: r=>by
  have ih:=So r;exact⟨by rw[Jc2,C5,ih.1];rfl,by rw[Jc2,Be,ih.2];rfl⟩
theorem lv_free(ts:List Tk):Bw (lvA ts)=true:=(So ts).1
theorem lv_clean(ts:List Tk):clean (lvA ts)=lvA ts:=by show AV.sl 0 0 4 (Be _)=_;rw[(So ts).2];rfl
theorem K1(ts:List Tk)(i:Nat)(e p:Int):Bw (stA ts i e p)=true:=by
 show(Bw (lvA ts) && true)=true
 rw[lv_free];rfl
theorem Jf(ts:List Tk)(i:Nat)(e p:Int):clean (stA ts i e p)=stA ts i e p:=by
 show AV.agg [clean (lvA ts),_,_,_]=_
 rw[lv_clean];rfl
theorem vX:∀ts:List Tk,Gm (ts.map C6) (ts.map C6)=true
 | []=>rfl
 |t :: r=>by
  rw[Jc2]
  show(D1 (C6 t) (C6 t) && Gm (r.map C6) (r.map C6))=true
  rw[Tw,vX r];rfl
theorem beq_lv(ts:List Tk):D1 (lvA ts) (lvA ts)=true:=by
 show((0:Nat) == 0 && (0:Nat) == 0 && (4:Nat) == 4 && Gm (ts.map C6) (ts.map C6))=true
 rw[vX];rfl
theorem Nk(n:Int):D1 (.v (.int .i64 n)) (.v (.int .i64 n))=true:=by simp[D1,eqS]
theorem Nj(s:ByteArray):D1 (.v (.string s)) (.v (.string s))=true:=by simp[D1,eqS,Jx]
theorem Pt(b:Bool):D1 (.v (.bool b)) (.v (.bool b))=true:=by simp[D1,eqS]
theorem gN:D1 .nils .nils=true:=rfl
theorem pY(a b:List AV):D1 (.agg a) (.agg b)=Gm a b:=by simp only[D1]
theorem Qc(t o s:Nat)(a b:List AV):D1 (.sl t o s a) (.sl t o s b)=Gm a b:=by simp only[D1,Al,Bool.true_and]
theorem Jn(a b:AV)(l m:List AV):Gm (a :: l) (b :: m)=(D1 a b && Gm l m):=by simp only[Gm]
theorem Oo:Gm [] []=true:=by simp only[Gm]
theorem Dh{x0 x1 x2 x3 x4 x5:AV}(h:Gm [x0,x1,x2,x3,x4,x5] [x0,x1,x2,x3,x4,x5]=true):D1 x0 x0=true∧D1 x1 x1=true∧D1 x2 x2=true∧D1 x3 x3=true∧D1 x4 x4=true∧D1 x5 x5=true:=by
 simp only[Gm,Ja2,Ad]at h;exact⟨h.1,h.2.1,h.2.2.1,h.2.2.2.1,h.2.2.2.2.1,h.2.2.2.2.2⟩
theorem Mb{ts:List Tk}{i i':Nat}{e e' p p':Int}(h:stA ts i e p=stA ts i' e' p'):i=i'∧e=e'∧p=p':=by
 unfold stA stL at h;injection h with h
 injection h with h0 h
 injection h with h1 h
 injection h with h2 h
 injection h with h3 h
 injection h1 with h1;injection h1 with _ h1
 injection h2 with h2;injection h2 with _ h2
 injection h3 with h3;injection h3 with _ h3
 exact⟨by omega,h2,h3⟩
theorem v_inj{a b:Int}(h:AV.v (.int .i64 a)=AV.v (.int .i64 b)):a=b:=by injection h with h;injection h
theorem vb_inj{a b:Bool}(h:AV.v (.bool a)=AV.v (.bool b)):a=b:=by injection h with h;injection h
theorem Cy{α:Type}{a b:α}{l m:List α}(h:a :: l=b :: m):a=b∧l=m:=by injection h with h1 h2;exact⟨h1,h2⟩
structure Tok3(ts:List Tk):Prop extends TokOk ts where
 word:∀i,i<ts.length→(tk ts i).kind=1∨(tk ts i).kind=2→(tk ts i).text ∉ E9∧(tk ts i).text ∉ Cu
 kinds:∀i,i<ts.length→1≤(tk ts i).kind∧(tk ts i).kind≤5
 k3:∀i,i<ts.length→(tk ts i).text∈E9→(tk ts i).kind=3
 num:∀i,i<ts.length→(tk ts i).num≤9223372036854775808
theorem IsW.next{ts:List Tk}(h:Tok3 ts){i:Nat}(hi:i<ts.length){w:List UInt8}(hw:IsW ts i w):i+1<ts.length:=by
 refine h.more i hi (fun e=>?_)
 have:=hw.1;rw[Gy hi]at this;omega
theorem O2{ts:List Tk}(h:Tok3 ts){i:Nat}(hi:i<ts.length)(hk:(tk ts i).kind≠5):i+1<ts.length:=by
 refine h.more i hi (fun e=>hk ?_)
 rw[Gy hi];exact e
theorem eY{ts:List Tk}(h:Tok3 ts){i:Nat}(hi:i<ts.length){w:List UInt8}(hw:w∈E9∨w∈Cu)(he:w≠[]):(tk ts i).text∈[w]↔IsW ts i w:=by
 constructor
 ·intro ht
  have ht:=Jb5.1 ht;refine⟨?_,ht⟩;have hk:=h.kinds i hi
  have h1:(tk ts i).kind≠5:=fun e=>by
   have h5:=h.fin i hi (by rw[← Gy hi];exact e)
   rw[← Gy hi,ht]at h5;exact he h5
  have h2:¬ ((tk ts i).kind=1∨(tk ts i).kind=2):=fun e=>by
   have:=h.word i hi e;rw[ht]at this;rcases hw with hw |hw
   ·exact this.1 hw
   ·exact this.2 hw
  omega
 ·intro hw
  exact Jb5.2 hw.2
attribute [go_sem] pY Pt Nk gN Nj Qc Jn Oo beq_lv e3_F e3_G e3_P
end Go.Ax
noncomputable section
namespace Go.Ax
open Go.RowKit Go.Proofs
set_option maxRecDepth 100000
theorem J6{a b:List UInt8}(h:A2 a=A2 b):a=b:=by unfold A2 at h;injection h with h;injection h with h;injection h with h;injection h
theorem fJ{ts:List Tk}{i:Nat}{e p:Int}(e1 p1:Int)(he:e1≠0)(S':St):∃a S'',R.ret (stA ts i e1 p1) S' = R.ret a S''∧Bw a=true∧Fv ts 180 [stA ts i e p] (clean a):=by
 refine⟨_,_,rfl,K1 _ _ _ _,?_⟩;intro i' e' p' h hi;obtain⟨rfl,rfl,rfl⟩:=Mb (Cy h).1;exact⟨e1,p1,Jf _ _ _ _,he⟩
theorem fail_k{ts:List Tk}(i:Nat)(e p:Int)(hi:i<ts.length):Kn3 ts 180 [stA ts i e p]:=by
 refine Jq Tryz.f180 (by kernel_rfl) (by kernel_rfl) (by show(_:Nat)≤_;simp[Tryz.f180]) ?_
 have hx:=Ld ts i hi
 by_cases he:e=0
 ·subst he
  by_cases hk:(tk ts i).kind=5
  ·have hk2:(((tk ts i).kind:Int) == 5)=true:=by rw[hk];rfl
   simp(disch:=omega)only[go_sem,reduceLT,reduceAdd,reduceEqDiff,reduceLeDiff,Tryz.f180,stA,stL,tkL,A2,hx,hk2];exact fJ 2 _ (by decide) _
  ·have hk2:(((tk ts i).kind:Int) == 5)=false:=by rw[beq_eq_false_iff_ne];omega
   simp(disch:=omega)only[go_sem,reduceLT,reduceAdd,reduceEqDiff,reduceLeDiff,Tryz.f180,stA,stL,tkL,A2,hx,hk2];exact fJ 1 _ (by decide) _
 ·have he2:(e == 0)=false:=by rw[beq_eq_false_iff_ne];exact he
  simp(disch:=omega)only[go_sem,reduceLT,reduceAdd,reduceEqDiff,reduceLeDiff,Tryz.f180,stA,stL,he2];exact fJ e _ he _
theorem oW{ts:List Tk}{i:Nat}{e p:Int}{w:List UInt8}(S':St){b:Bool}(hb:b=isB ts i e w):∃a S'',R.ret (.v (.bool b)) S' = R.ret a S''∧Bw a=true∧Fv ts 118 [stA ts i e p,A2 w] (clean a):=by
 refine⟨_,_,rfl,rfl,?_⟩;intro i' e' p' w' h hi;obtain⟨h1,h2⟩:=Cy h;obtain⟨rfl,rfl,rfl⟩:=Mb h1;have:=J6 (Cy h2).1;subst this;rw[hb];rfl
theorem is_k{ts:List Tk}(i:Nat)(e p:Int)(w:List UInt8)(hi:i<ts.length):Kn3 ts 118 [stA ts i e p,A2 w]:=by
 refine Jq Tryz.f118 (by kernel_rfl) (by kernel_rfl) (by show(_:Nat)≤_;simp[Tryz.f118]) ?_
 have hx:=Ld ts i hi
 by_cases he:e=0
 ·subst he
  have hw:isB ts i 0 w=((((tk ts i).kind:Int) == 3 || ((tk ts i).kind:Int) == 4) && decide ((tk ts i).text=w)):=by
   unfold isB IsW;rw[Bool.eq_iff_iff];simp only[decide_eq_true_eq,Ja2,Bool.or_eq_true,beq_iff_eq,Ac];refine and_congr_left fun _=>?_
   omega
  cases h3:(((tk ts i).kind:Int) == 3)with
  |true =>
   rw[h3]at hw;simp(disch:=omega)only[go_sem,reduceLT,reduceAdd,reduceEqDiff,reduceLeDiff,Tryz.f118,stA,stL,tkL,A2,hx,h3];exact oW _ hw.symm
  |false =>
   cases h4:(((tk ts i).kind:Int) == 4)with
   |true =>
    rw[h3,h4]at hw;simp(disch:=omega)only[go_sem,reduceLT,reduceAdd,reduceEqDiff,reduceLeDiff,Tryz.f118,stA,stL,tkL,A2,hx,h3,h4];exact oW _ hw.symm
   |false =>
    rw[h3,h4]at hw;simp(disch:=omega)only[go_sem,reduceLT,reduceAdd,reduceEqDiff,reduceLeDiff,Tryz.f118,stA,stL,tkL,A2,hx,h3,h4];exact oW _ hw.symm
 ·have he2:(e == 0)=false:=by rw[beq_eq_false_iff_ne];exact he
  simp(disch:=omega)only[go_sem,reduceLT,reduceAdd,reduceEqDiff,reduceLeDiff,Tryz.f118,stA,stL,tkL,A2,hx,he2];refine oW _ ?_;unfold isB;rw[decide_eq_false (fun h=>he h.1)]
end Go.Ax
noncomputable section
namespace Go.Ax
open Go.RowKit Go.Proofs
set_option maxRecDepth 100000
theorem fD(ts:List Tk)(i:Nat)(e p:Int):C5 [stA ts i e p]=true:=by show(Bw _ && true)=true;rw[K1];rfl
theorem Wd(ts:List Tk)(i:Nat)(e p:Int):Be [stA ts i e p]=[stA ts i e p]:=by show [clean _]=_;rw[Jf]
theorem free2(ts:List Tk)(i:Nat)(e p:Int)(x:Value):C5 [stA ts i e p,.v x]=true:=by show(Bw _ && true)=true;rw[K1];rfl
theorem pS(ts:List Tk)(i:Nat)(e p:Int)(x:Value):Be [stA ts i e p,.v x]=[stA ts i e p,.v x]:=by show [clean _,_]=_;rw[Jf];rfl
theorem free3(ts:List Tk)(i:Nat)(e p:Int)(x y:Value):C5 [stA ts i e p,.v x,.v y]=true:=by show(Bw _ && true)=true;rw[K1];rfl
theorem clean3(ts:List Tk)(i:Nat)(e p:Int)(x y:Value):Be [stA ts i e p,.v x,.v y]=[stA ts i e p,.v x,.v y]:=by show [clean _,_,_]=_;rw[Jf];rfl
theorem free4(ts:List Tk)(i:Nat)(e p:Int)(t:Tk)(x y:Value):C5 [stA ts i e p,.agg (tkL t),.v x,.v y]=true:=by show(Bw _ && true)=true;rw[K1];rfl
theorem clean4(ts:List Tk)(i:Nat)(e p:Int)(t:Tk)(x y:Value):Be [stA ts i e p,.agg (tkL t),.v x,.v y]=[stA ts i e p,.agg (tkL t),.v x,.v y]:=by show [clean _,_,_,_]=_;rw[Jf];rfl
theorem Ic:∀ws:List (List UInt8),C5 (ws.map A2)=true∧Be (ws.map A2)=ws.map A2
 | []=>⟨rfl,rfl⟩
 |t :: r=>by
  have ih:=Ic r;exact⟨by rw[Jc2,C5,ih.1];rfl,by rw[Jc2,Be,ih.2];rfl⟩
theorem rF:∀{a b:List (List UInt8)},a.map A2=b.map A2→a=b
 | [],[],_=>rfl
 | [],_ :: _,h=>by cases h
 |_ :: _,[],h=>by cases h
 |x :: a,y :: b,h=>by
  obtain⟨h1,h2⟩:=Cy h;rw[J6 h1,rF h2]
section
variable {ts:List Tk} {S:St} {Q:R → Prop} {i:Nat} {e p:Int}
theorem O7(hi:i<ts.length)(h:∀e' p',e'≠0→Q (.ret (stA ts i e' p') S)):WC (E3 ts) 180 [stA ts i e p] S Q :=
 P9 (fail_k i e p hi) (by kernel_rfl) (fD _ _ _ _) (Wd _ _ _ _) fun a _ _ hs=>by
  obtain⟨e',p',rfl,he⟩:=hs i e p rfl hi;exact h e' p' he
theorem Ey{w:List UInt8}(hi:i<ts.length)(h:Q (.ret (.v (.bool (isB ts i e w))) S)):WC (E3 ts) 118 [stA ts i e p,A2 w] S Q :=
 P9 (is_k i e p w hi) (by kernel_rfl) (free2 _ _ _ _ _) (pS _ _ _ _ _) fun a _ _ hs=>by
  rw[hs i e p w rfl hi];exact h
end
theorem yn39(S:St)(tok off:Nat)(es:List AV):Eo Tryz.prog S 39 (.sl tok off 1 es)=some es.length:=by
 have h:Tryz.prog.underlying 39=some (.slice 9):=by kernel_rfl
 simp[Eo,h]
theorem yx39(tok off:Nat)(ws:List (List UInt8))(i:Nat)(h:i<ws.length):Bh Tryz.prog 39 (.sl tok off 1 (ws.map A2)) (.v (.int .i64 (i:Int)))=some (.ep [A2 ws[i]]):=by
 have h0:(0:Int)≤(i:Int):=by omega
 have he:Fs Tryz.prog 39=some (none,9):=by kernel_rfl
 simp[Bh,h0,he,yz9,h,AV.cells,A2]
def inB:Code:=match Tryz.f272.body with
 |some (.seq _ (.seq (.seq _ (.block _ (.loop c))) _))=>c
 |_=>.skip
theorem in_lp{ts:List Tk}{i:Nat}{e p:Int}(hi:i<ts.length){tok off:Nat}(ws:List (List UInt8))(hl:ws.length≤1000)(S:St)(hS:S.mem.get 2=some (.box (stL ts i e p))):∀(n j:Nat) (t:T AV),j+n=ws.length→t.get 2=some (.ptr 2 0)→t.get 7=some (.sl tok off 1 (ws.map A2))→t.get 8=some (.v (.int .i64 (ws.length:Int)))→t.get 9=some (.v (.int .i64 (j:Int))) →
  WX (E3 ts) 18 (.loop inB) ⟨t,[]⟩ S (fun r=>(∃t',r=.out (.exit 0) ⟨t',[]⟩ S∧((ws.drop j).find? fun w=>isB ts i e w)=none)∨(∃t' w,r=.out .ret ⟨t',[]⟩ S∧t'.get 4=some (A2 w)∧((ws.drop j).find? fun w=>isB ts i e w)=some w))
 |0,j,t,hj,h2,h7,h8,h9=>by
  refine Bt (Bp ?_);have hlt:¬ ((j:Int)<(ws.length:Int)):=by omega
  have hlt2:decide ((j:Int)<(ws.length:Int))=false:=decide_eq_false hlt;simp(disch:=omega)only[go_sem,reduceEqDiff,inB,Tryz.f272,h8,h9,hlt2];refine .inl ⟨_,rfl,?_⟩;rw[List.drop_of_length_le (by omega)]
  rfl
 |n+1,j,t,hj,h2,h7,h8,h9=>by
  refine Bt (Bp ?_);have hjl:j<ws.length:=by omega
  have hlt2:decide ((j:Int)<(ws.length:Int))=true:=decide_eq_true (by omega)
  have hx:=yx39 tok off ws j hjl;obtain⟨fn1,hf1⟩:=fX 118;have hw:=Fl j (by omega)
  rw[Ja6 hjl,List.find?_cons];unfold stL at hS;simp(disch:=omega)only[go_sem,reduceAdd,reduceEqDiff,reduceLeDiff,inB,Tryz.f272,h2,h7,h8,h9,hlt2,hx,hf1,hS];refine Ey hi ?_
  cases hb:isB ts i e ws[j]with
  |true =>
   simp(disch:=omega)only[go_sem,reduceLT,reduceEqDiff,h9,hw];refine .inr ⟨_,ws[j],rfl,?_,rfl⟩;simp only[A0,reduceEqDiff,Aa,Ab]
  |false =>
   simp(disch:=omega)only[go_sem,reduceLT,reduceEqDiff,h9,hw];refine in_lp (tok:=tok) (off:=off) hi ws hl S hS n (j+1) _ (by omega) ?_ ?_ ?_ ?_
   ·simp only[A0,reduceEqDiff,Ab,h2]
   ·simp only[A0,reduceEqDiff,Ab,h7]
   ·simp only[A0,reduceEqDiff,Ab,h8]
   ·simp only[A0,reduceEqDiff,Aa,Ab]
theorem fin_in{ts:List Tk}{i:Nat}{e p:Int}{ws:List (List UInt8)}{tok off:Nat}(S':St){w:List UInt8}(hw:w=inS ts i e ws):∃a S'',R.ret (A2 w) S' = R.ret a S''∧Bw a=true∧Fv ts 272 [stA ts i e p,.sl tok off 1 (ws.map A2)] (clean a):=by
 refine⟨_,_,rfl,rfl,?_⟩;intro i' e' p' ws' tok' off' h hi;obtain⟨h1,h2⟩:=Cy h;obtain⟨rfl,rfl,rfl⟩:=Mb h1;have h3:=(Cy h2).1;injection h3 with _ _ _ h3
 have:=rF h3;subst this;rw[hw];rfl
theorem in_k{ts:List Tk}(i:Nat)(e p:Int)(ws:List (List UInt8))(tok off:Nat)(hi:i<ts.length)(hl:ws.length≤1000):Kn3 ts 272 [stA ts i e p,.sl tok off 1 (ws.map A2)]:=by
 refine Jq Tryz.f272 (by kernel_rfl) (by kernel_rfl) (by show(_:Nat)≤_;simp[Tryz.f272]) ?_
 have hn:=fun S=>yn39 S tok off (ws.map A2)
 rw[Ja9]at hn;have key:=fun S hS t=>in_lp (e:=e) (p:=p) (tok:=tok) (off:=off) hi ws hl S hS ws.length 0 t (by omega)
 unfold inB at key;simp only[Tryz.f272]at key;simp(disch:=omega)only[go_sem,reduceEqDiff,Tryz.f272,stA,stL,hn];refine WX.mono (key _ ?_ _ ?_ ?_ ?_ ?_) ?_
 ·simp only[Bj,Br,Aa];rfl
 ·simp only[A0,reduceEqDiff,Aa,Ab]
 ·simp only[A0,reduceEqDiff,Aa,Ab]
 ·simp only[A0,reduceEqDiff,Aa,Ab]
 ·simp only[A0,reduceEqDiff,Aa,Ab];rfl
 rintro _ (⟨t',rfl,hf⟩ | ⟨t',w,rfl,h4,hf⟩)
 ·simp(disch:=omega)only[go_sem]
  refine fin_in (w:=[]) _ ?_;unfold inS;rw[Jd1]at hf;rw[hf];rfl
 ·simp(disch:=omega)only[go_sem,h4]
  refine fin_in (w:=w) _ ?_;unfold inS;rw[Jd1]at hf;rw[hf];rfl
theorem mX{ts:List Tk}{S:St}{Q:R→Prop}{i:Nat}{e p:Int}{ws:List (List UInt8)}{tok off:Nat}(hi:i<ts.length)(hl:ws.length≤1000)(h:Q (.ret (A2 (inS ts i e ws)) S)):WC (E3 ts) 272 [stA ts i e p,.sl tok off 1 (ws.map A2)] S Q :=
 P9 (in_k i e p ws 0 0 hi hl) (by kernel_rfl) (by show(Bw _ && (C5 (ws.map A2) && true))=true;rw[K1,(Ic ws).1];rfl) (by show [clean _,.sl 0 0 1 (Be (ws.map A2))]=_;rw[Jf,(Ic ws).2]) fun a _ _ hs=>by
  rw[hs i e p ws 0 0 rfl hi];exact h
attribute [go_sem] yn39
end Go.Ax
noncomputable section
namespace Go.Ax
open Go.RowKit Go.Proofs
set_option maxRecDepth 100000
theorem fG{ts:List Tk}{i:Nat}{e p:Int}{w:List UInt8}(j:Nat)(e1 p1:Int)(hj:j<ts.length)(hij:i≤j)(hh:e1=0→e=0∧IsW ts i w∧j=i+1)(S':St):∃a S'',R.ret (stA ts j e1 p1) S' = R.ret a S''∧Bw a=true∧Fv ts 115 [stA ts i e p,A2 w] (clean a):=by
 refine⟨_,_,rfl,K1 _ _ _ _,?_⟩;intro i' e' p' w' h hi;obtain⟨h1,h2⟩:=Cy h;obtain⟨rfl,rfl,rfl⟩:=Mb h1;have:=J6 (Cy h2).1;subst this;exact⟨j,e1,p1,Jf _ _ _ _,hj,hij,hh⟩
theorem Dy{ts:List Tk}{i:Nat}{e:Int}{w:List UInt8}(h:isB ts i e w=true):e=0∧IsW ts i w:=of_decide_eq_true h
theorem lD{ts:List Tk}{i:Nat}{w:List UInt8}(h:isB ts i 0 w=false):¬ IsW ts i w:=fun hw=>of_decide_eq_false h ⟨rfl,hw⟩
theorem isB_bad{ts:List Tk}{i:Nat}{e:Int}{w:List UInt8}(h:e≠0):isB ts i e w=false:=decide_eq_false fun hh=>h hh.1
theorem want_k{ts:List Tk}(ht:Tok3 ts)(i:Nat)(e p:Int)(w:List UInt8)(hi:i<ts.length):Kn3 ts 115 [stA ts i e p,A2 w]:=by
 refine Jq Tryz.f115 (by kernel_rfl) (by kernel_rfl) (by show(_:Nat)≤_;simp[Tryz.f115]) ?_
 have hsz:=ht.size;obtain⟨fn1,hf1⟩:=fX 118;obtain⟨fn2,hf2⟩:=fX 180
 by_cases he:e=0
 ·subst he
  have h0:((0:Int) != 0)=false:=rfl;simp(disch:=omega)only[go_sem,reduceAdd,reduceEqDiff,reduceLeDiff,Tryz.f115,stA,stL,A2,h0,hf1];refine Ey (w:=w) hi ?_
  cases hb:isB ts i 0 w with
  |true =>
   have hw:=(Dy hb).2;have hw2:=Fl i (by omega)
   simp(disch:=omega)only[go_sem,reduceLT,reduceAdd,reduceEqDiff,reduceLeDiff,hw2];exact fG (i+1) 0 p (hw.next ht hi) (by omega) (fun _=>⟨rfl,hw,rfl⟩) _
  |false =>
   simp(disch:=omega)only[go_sem,reduceLT,reduceAdd,reduceEqDiff,reduceLeDiff,hf2];refine O7 hi fun e' p' he'=>?_
   simp(disch:=omega)only[go_sem,reduceAdd,reduceEqDiff,reduceLeDiff,stA,stL];exact fG i e' p' hi (Ja1 _) (fun h=>absurd h he') _
 ·have he2:(e != 0)=true:=by rw[bne_iff_ne];exact he
  simp(disch:=omega)only[go_sem,reduceAdd,reduceEqDiff,reduceLeDiff,Tryz.f115,stA,stL,A2,he2];exact fG i e p hi (Ja1 _) (fun h=>absurd h he) _
theorem Di{ts:List Tk}{S:St}{Q:R→Prop}{i:Nat}{e p:Int}{w:List UInt8}(ht:Tok3 ts)(hi:i<ts.length)(h:∀j e' p',j<ts.length→i≤j→(e' = 0→e=0∧IsW ts i w∧j=i+1)→Q (.ret (stA ts j e' p') S)):WC (E3 ts) 115 [stA ts i e p,A2 w] S Q :=
 P9 (want_k ht i e p w hi) (by kernel_rfl) (free2 _ _ _ _ _) (pS _ _ _ _ _) fun a _ _ hs=>by
  obtain⟨j,e',p',rfl,h1,h2,h3⟩:=hs i e p w rfl hi;exact h j e' p' h1 h2 h3
theorem fI{ts:List Tk}{i:Nat}{e p:Int}(j:Nat)(e1 p1:Int)(n:List UInt8)(at_:Nat)(hj:j<ts.length)(hij:i≤j)(hh:e1=0→e=0∧(tk ts i).kind=1∧j=i+1∧n=(tk ts i).text∧at_=(tk ts i).pos)(S':St):∃a S'',R.ret (.tup [stA ts j e1 p1,A2 n,.v (.int .i64 (at_:Nat))]) S' = R.ret a S''∧Bw a=true∧Fv ts 116 [stA ts i e p] (clean a):=by
 refine⟨_,_,rfl,by show(Bw _ && true)=true;rw[K1];rfl,?_⟩
 intro i' e' p' h hi;obtain⟨rfl,rfl,rfl⟩:=Mb (Cy h).1;exact⟨j,e1,p1,n,at_,by show AV.tup [clean _,_,_]=_;rw[Jf];rfl,hj,hij,hh⟩
theorem name_k{ts:List Tk}(ht:Tok3 ts)(i:Nat)(e p:Int)(hi:i<ts.length):Kn3 ts 116 [stA ts i e p]:=by
 refine Jq Tryz.f116 (by kernel_rfl) (by kernel_rfl) (by show(_:Nat)≤_;simp[Tryz.f116]) ?_
 have hsz:=ht.size;have hx:=Ld ts i hi;obtain⟨fn2,hf2⟩:=fX 180
 by_cases he:e=0
 ·subst he
  have h0:((0:Int) != 0)=false:=rfl
  by_cases hk:(tk ts i).kind=1
  ·have hk2:(((tk ts i).kind:Int) != 1)=false:=by rw[hk];rfl
   have hw2:=Fl i (by omega)
   simp(disch:=omega)only[go_sem,reduceAdd,reduceEqDiff,reduceLeDiff,Tryz.f116,stA,stL,tkL,A2,h0,hx,hk2,hw2];refine Dd [(0,true),(1,true),(2,true),(3,true),(4,true),(5,true),(4,false),(2,false),(6,true),(7,true)] (by kernel_rfl) (by kernel_rfl) ?_
   simp(disch:=omega)only[go_sem,reduceLT,reduceAdd,reduceEqDiff,reduceLeDiff];exact fI (i+1) 0 p (tk ts i).text (tk ts i).pos (O2 ht hi (by omega)) (by omega) (fun _=>⟨rfl,hk,rfl,rfl,rfl⟩) _
  ·have hk2:(((tk ts i).kind:Int) != 1)=true:=by rw[bne_iff_ne];omega
   simp(disch:=omega)only[go_sem,reduceAdd,reduceEqDiff,reduceLeDiff,Tryz.f116,stA,stL,tkL,A2,h0,hx,hk2,hf2];refine O7 hi fun e' p' he'=>?_
   simp(disch:=omega)only[go_sem,reduceAdd,reduceEqDiff,reduceLeDiff,stA,stL];exact fI i e' p' [] 0 hi (Ja1 _) (fun h=>absurd h he') _
 ·have he2:(e != 0)=true:=by rw[bne_iff_ne];exact he
  simp(disch:=omega)only[go_sem,reduceAdd,reduceEqDiff,reduceLeDiff,Tryz.f116,stA,stL,he2];exact fI i e p [] 0 hi (Ja1 _) (fun h=>absurd h he) _
theorem J0{ts:List Tk}{S:St}{Q:R→Prop}{i:Nat}{e p:Int}(ht:Tok3 ts)(hi:i<ts.length)(h:∀j e' p' n (at_:Nat),j<ts.length→i≤j→(e' = 0→e=0∧(tk ts i).kind=1∧j=i+1∧n=(tk ts i).text∧at_=(tk ts i).pos)→Q (.ret (.tup [stA ts j e' p',A2 n,.v (.int .i64 (at_:Int))]) S)):WC (E3 ts) 116 [stA ts i e p] S Q :=
 P9 (name_k ht i e p hi) (by kernel_rfl) (fD _ _ _ _) (Wd _ _ _ _) fun a _ _ hs=>by
  obtain⟨j,e',p',n,at_,rfl,h1,h2,h3⟩:=hs i e p rfl hi;exact h j e' p' n at_ h1 h2 h3
theorem truth_k{ts:List Tk}(t:Tk):Kn3 ts 269 [.agg (tkL t)]:=by
 refine Jq Tryz.f269 (by kernel_rfl) (by kernel_rfl) (by show(_:Nat)≤_;simp[Tryz.f269]) ?_
 have fin:∀(n:Int) (S':St),n=(if t.text=[116,114,117,101]then 1 else 0)→∃a S'',R.ret (.agg [.v (.int .i64 2),.v (.int .i64 (t.pos:Int)),.v (.int .i64 n),A2 [],.v (.bool false),.nils]) S' = R.ret a S''∧Bw a=true∧Fv ts 269 [.agg (tkL t)] (clean a):=fun n S' hn=>by
  refine⟨_,_,rfl,rfl,?_⟩;intro t' h;have h:=(Cy h).1;unfold tkL at h;injection h with h
  injection h with h1 h;injection h with h2 h;injection h with h3 h
  have h2:=v_inj h2;have h3:=J6 h3;subst hn;rw[← h2,← h3];rfl
 cases hd:decide (t.text=[116,114,117,101])with
 |true =>
  simp(disch:=omega)only[go_sem,reduceLT,reduceAdd,reduceEqDiff,reduceLeDiff,Tryz.f269,tkL,A2,hd,G7];exact fin 1 _ (by rw[if_pos (of_decide_eq_true hd)])
 |false =>
  simp(disch:=omega)only[go_sem,reduceLT,reduceAdd,reduceEqDiff,reduceLeDiff,Tryz.f269,tkL,A2,hd,G7];exact fin 0 _ (by rw[if_neg (of_decide_eq_false hd)])
theorem Uc{ts:List Tk}{S:St}{Q:R→Prop}{t:Tk}(h:Q (.ret (.agg [.v (.int .i64 2),.v (.int .i64 (t.pos:Int)),.v (.int .i64 (if t.text=[116,114,117,101]then 1 else 0)),A2 [],.v (.bool false),.nils]) S)):WC (E3 ts) 269 [.agg (tkL t)] S Q :=
 P9 (truth_k t) (by kernel_rfl) rfl rfl fun a _ _ hs=>by
  rw[hs t rfl];exact h
theorem bK{ts:List Tk}{i:Nat}{e p:Int}{t:Tk}{at_:Nat}{bl:Bool}(e1 p1:Int)(v:Int)(hh:e1=0→e=0∧(bl=false→t.num≠9223372036854775808)∧v=(if bl then IntKind.i64.wrap (0 - IntKind.i64.wrap t.num)else IntKind.i64.wrap t.num))(k a:Int)(hk:e1=0→k=1∧a=at_)(S':St):
  ∃a' S'',R.ret (.tup [stA ts i e1 p1,.agg [.v (.int .i64 k),.v (.int .i64 a),.v (.int .i64 v),A2 [],.v (.bool false),.nils]]) S' = R.ret a' S''∧Bw a' = true∧Fv ts 270 [stA ts i e p,.agg (tkL t),.v (.int .i64 at_),.v (.bool bl)] (clean a'):=by
 refine⟨_,_,rfl,by show(Bw _ && true)=true;rw[K1];rfl,?_⟩
 intro i' e' p' t' a2 b2 h hi;obtain⟨h1,h⟩:=Cy h;obtain⟨h2,h⟩:=Cy h;obtain⟨h3,h⟩:=Cy h;obtain⟨h4,h⟩:=Cy h;obtain⟨rfl,rfl,rfl⟩:=Mb h1;have h3:=v_inj h3;have h3:at_=a2:=by omega
 subst h3;have h4:=vb_inj h4;subst h4;unfold tkL at h2;injection h2 with h2
 injection h2 with _ h2;injection h2 with _ h2;injection h2 with _ h2;injection h2 with h2 _
 injection h2 with h2;injection h2 with _ h2
 have h2:t.num=t'.num:=by omega
 refine⟨e1,p1,_,_,_,_,_,_,by show AV.tup [clean _,_]=_;rw[Jf];rfl,?_,fun h0=>?_⟩
 ·simp only[clean,Gm,Nk,Nj,Pt,gN,A2,Bool.and_self]
 ·obtain⟨q1,q2,q3⟩:=hh h0
  obtain⟨q4,q5⟩:=hk h0;rw[h2]at q2 q3;subst q4;subst q5;refine⟨q1,q2,?_⟩;rw[q3];exact .mk 1 at_ _ [] false .nils [] .nil
theorem number_k{ts:List Tk}(i:Nat)(e p:Int)(t:Tk)(at_:Nat)(bl:Bool):Kn3 ts 270 [stA ts i e p,.agg (tkL t),.v (.int .i64 at_),.v (.bool bl)]:=by
 refine Jq Tryz.f270 (by kernel_rfl) (by kernel_rfl) (by show(_:Nat)≤_;simp[Tryz.f270]) ?_
 cases hN:((t.num:Int) == 9223372036854775808)with
 |true =>
  have hn:t.num=9223372036854775808:=by have:=eq_of_beq hN;omega
  cases bl with
  |false =>
   simp(maxSteps:=9^7) (disch:=omega)only[go_sem,reduceLT,reduceAdd,reduceEqDiff,reduceLeDiff,Tryz.f270,stA,stL,tkL,A2,hN,Lk,U0,eH,O5];exact bK 3 _ 0 (fun h=>by cases h) 0 0 (fun h=>by cases h) _
  |true =>
   simp(maxSteps:=9^7) (disch:=omega)only[go_sem,reduceLT,reduceAdd,reduceEqDiff,reduceLeDiff,Tryz.f270,stA,stL,tkL,A2,hN,Lk,U0,eH,O5];exact bK (bl:=true) e p (-9223372036854775808) (fun h=>⟨h,fun h=>by(cases h),by rw[hn];rfl⟩) 1 _ (fun _=>⟨rfl,rfl⟩) _
 |false =>
  have hn:t.num≠9223372036854775808:=fun h=>by rw[h]at hN;cases hN
  cases bl with
  |false =>
   simp(maxSteps:=9^7) (disch:=omega)only[go_sem,reduceLT,reduceAdd,reduceEqDiff,reduceLeDiff,Tryz.f270,stA,stL,tkL,A2,hN,Lk,U0,eH,O5];exact bK (bl:=false) e p (IntKind.i64.wrap t.num) (fun h=>⟨h,fun _=>hn,rfl⟩) 1 _ (fun _=>⟨rfl,rfl⟩) _
  |true =>
   simp(maxSteps:=9^7) (disch:=omega)only[go_sem,reduceLT,reduceAdd,reduceEqDiff,reduceLeDiff,Tryz.f270,stA,stL,tkL,A2,hN,Lk,U0,eH,O5];exact bK (bl:=true) e p (IntKind.i64.wrap (0 - IntKind.i64.wrap t.num)) (fun h=>⟨h,fun _=>hn,rfl⟩) 1 _ (fun _=>⟨rfl,rfl⟩) _
theorem Wm{ts:List Tk}{S:St}{Q:R→Prop}{i:Nat}{e p:Int}{t:Tk}{at_:Nat}{bl:Bool}(hi:i<ts.length)(h:∀(e' p':Int) (x0 x1 x2 x3 x4 x5:AV),C5 [x0,x1,x2,x3,x4,x5]=true→Be [x0,x1,x2,x3,x4,x5]=[x0,x1,x2,x3,x4,x5]→Gm [x0,x1,x2,x3,x4,x5] [x0,x1,x2,x3,x4,x5]=true→(e' = 0→e=0∧(bl=false→t.num≠9223372036854775808)∧RepE (.agg [x0,x1,x2,x3,x4,x5]) (numE t at_ bl))→Q (.ret (.tup [stA ts i e' p',.agg [x0,x1,x2,x3,x4,x5]]) S)):WC (E3 ts) 270 [stA ts i e p,.agg (tkL t),.v (.int .i64 at_),.v (.bool bl)] S Q :=
 P9 (number_k i e p t at_ bl) (by kernel_rfl) (free4 _ _ _ _ _ _ _) (clean4 _ _ _ _ _ _ _) fun a hf hc hs=>by
  obtain⟨e',p',x0,x1,x2,x3,x4,x5,rfl,h1,h2⟩:=hs i e p t at_ bl rfl hi;refine h e' p' x0 x1 x2 x3 x4 x5 ?_ ?_ h1 h2
  ·have hf:(Bw _ && (C5 _ && true))=true:=hf
   simp only[Bool.and_true,Ja2]at hf;exact hf.2
  ·have hc:AV.tup [clean _,.agg (Be _)]=_:=hc
   injection hc with hc
   injection hc with _ hc
   injection hc with hc _
   injection hc
theorem eE{ts:List Tk}{i:Nat}(hi:i<ts.length)(hi1:i+1<ts.length)(h:(tk ts i).text=[45])(h2:(tk ts (i+1)).kind=2):I7 ts i=.ok (numE (tk ts (i+1)) (tk ts i).pos true) (i+2):=by
 unfold I7;rw[Ja4 hi,Ja4 hi1];rw[Gy hi]at h;rw[Gy hi1]at h2;simp only[h,Aa,h2];rw[Gy hi,Gy hi1];rfl
theorem tJ{ts:List Tk}{i:Nat}(hi:i<ts.length)(h:(tk ts i).text≠[45])(h2:(tk ts i).kind=2)(h3:(tk ts i).num≤9223372036854775808)(h4:(tk ts i).num≠9223372036854775808):I7 ts i=.ok (numE (tk ts i) (tk ts i).pos false) (i+1):=by
 unfold I7;rw[Ja4 hi];rw[Gy hi]at h h2 h3 h4 ⊢;simp only[if_neg h,h2,Aa];rw[if_neg (by omega)]
 rfl
theorem Qx(t:Tk)(a:Nat)(b:Bool):Cp (numE t a b)=1:=by simp only[numE,Cp,Ch]
theorem Y5{ts:List Tk}{i:Nat}{e p:Int}{a:AV}{ok:AV→Nat→Prop}(j:Nat)(e1 p1:Int)(x0 x1 x2 x3 x4 x5:AV)(ha:a=.tup [stA ts j e1 p1,.agg [x0,x1,x2,x3,x4,x5]])(hj:j<ts.length)(hij:i≤j)(hf:C5 [x0,x1,x2,x3,x4,x5]=true)(hb:Gm (Be [x0,x1,x2,x3,x4,x5]) (Be [x0,x1,x2,x3,x4,x5])=true)(hh:e1=0→e=0∧ok (.agg (Be [x0,x1,x2,x3,x4,x5])) j):Bw a=true∧ExR ts i e (clean a) ok:=by
 subst ha;refine⟨?_,j,e1,p1,clean x0,clean x1,clean x2,clean x3,clean x4,clean x5,?_,hj,hij,hb,hh⟩
 ·show(Bw _ && (C5 _ && true))=true
  rw[K1,hf];rfl
 ·show AV.tup [clean _,.agg (Be _)]=_
  rw[Jf];rfl
theorem exr_parts{ts:List Tk}{i:Nat}{e:Int}{a:AV}{ok:AV→Nat→Prop}(hf:Bw a=true)(hc:clean a=a)(h:ExR ts i e a ok):∃(j:Nat) (e' p':Int) (x0 x1 x2 x3 x4 x5:AV),a=.tup [stA ts j e' p',.agg [x0,x1,x2,x3,x4,x5]]∧j<ts.length∧i≤j∧C5 [x0,x1,x2,x3,x4,x5]=true∧Be [x0,x1,x2,x3,x4,x5]=[x0,x1,x2,x3,x4,x5]∧Gm [x0,x1,x2,x3,x4,x5] [x0,x1,x2,x3,x4,x5]=true∧(e' = 0→e=0∧ok (.agg [x0,x1,x2,x3,x4,x5]) j):=by
 obtain⟨j,e',p',x0,x1,x2,x3,x4,x5,rfl,h1,h2,h3,h4⟩:=h;refine⟨j,e',p',x0,x1,x2,x3,x4,x5,rfl,h1,h2,?_,?_,h3,h4⟩
 ·have hf:(Bw _ && (C5 _ && true))=true:=hf
  simp only[Bool.and_true,Ja2]at hf;exact hf.2
 ·have hc:AV.tup [clean _,.agg (Be _)]=_:=hc
  injection hc with hc
  injection hc with _ hc
  injection hc with hc _
  injection hc
theorem Ln{a:AV}{e:PE}(h:RepE a e):RepE (clean a) e:=(Iz h).2
theorem aO{ts:List Tk}{k:FuncId}{args args':List AV}{S:St}{Q:R→Prop}{i:Nat}{e:Int}{ok:AV→Nat→Prop}(hk:Kn3 ts k args')(hkn:kn3 k=true)(hf:C5 args=true)(hc:Be args=args')(hs:∀a,Fv ts k args' a→ExR ts i e a ok)
  (h:∀(j:Nat) (e' p':Int) (x0 x1 x2 x3 x4 x5:AV),j<ts.length→i≤j→C5 [x0,x1,x2,x3,x4,x5]=true→Be [x0,x1,x2,x3,x4,x5]=[x0,x1,x2,x3,x4,x5]→Gm [x0,x1,x2,x3,x4,x5] [x0,x1,x2,x3,x4,x5]=true→(e' = 0→e=0∧ok (.agg [x0,x1,x2,x3,x4,x5]) j)→Q (.ret (.tup [stA ts j e' p',.agg [x0,x1,x2,x3,x4,x5]]) S)):WC (E3 ts) k args S Q :=
 P9 hk hkn hf hc fun a h1 h2 h3=>by
  obtain⟨j,e',p',x0,x1,x2,x3,x4,x5,rfl,q1,q2,q3,q4,q5,q6⟩:=exr_parts h1 h2 (hs a h3);exact h j e' p' x0 x1 x2 x3 x4 x5 q1 q2 q3 q4 q5 q6
theorem G6{ts:List Tk}(ht:Tok3 ts){i:Nat}(hi:i<ts.length){w:List UInt8}(h:isB ts i 0 w=false)(hw:(decide (w∈E9∨w∈Cu) && decide (w≠[]))=true):(tk ts i).text≠w:=fun e=>by
 rw[Ja2,decide_eq_true_eq,decide_eq_true_eq]at hw;exact lD h ((eY ht hi hw.1 hw.2).1 (Jb5.2 e))
theorem Oy{ts:List Tk}{nt:NT}{i:Nat}{e p:Int}{k:FuncId}(hk:∀args a,Fv ts k args a=Sm ts nt args a)(S':St)(j:Nat)(e1 p1:Int)(x0 x1 x2 x3 x4 x5:AV)(hj:j<ts.length)(hij:i≤j)(hf:C5 [x0,x1,x2,x3,x4,x5]=true)(hb:Gm (Be [x0,x1,x2,x3,x4,x5]) (Be [x0,x1,x2,x3,x4,x5])=true)(hh:e1=0→e=0∧∃x,RdX ts nt i x j∧RepE (.agg (Be [x0,x1,x2,x3,x4,x5])) x):
  ∃a S'',R.ret (.tup [stA ts j e1 p1,.agg [x0,x1,x2,x3,x4,x5]]) S' = R.ret a S''∧Bw a=true∧Fv ts k [stA ts i e p] (clean a):=by
 obtain⟨q1,q2⟩:=Y5 (i:=i) (e:=e) (p:=p) (ok:=fun v j=>∃x,RdX ts nt i x j∧RepE v x) j e1 p1 x0 x1 x2 x3 x4 x5 rfl hj hij hf hb hh
 refine⟨_,_,rfl,q1,?_⟩;rw[hk];intro i' e' p' h hi;obtain⟨rfl,rfl,rfl⟩:=Mb (Cy h).1;exact q2
theorem Tv:Gm (Be [.v (.int .i64 0),.v (.int .i64 0),.v (.int .i64 0),A2 [],.v (.bool false),.nils]) (Be [.v (.int .i64 0),.v (.int .i64 0),.v (.int .i64 0),A2 [],.v (.bool false),.nils])=true:=by
 simp only[Be,clean,A2,Gm,Nk,Nj,Pt,gN,Bool.and_self]
theorem pX(a b c:Int)(s:List UInt8)(o:Bool):Gm (Be [.v (.int .i64 a),.v (.int .i64 b),.v (.int .i64 c),A2 s,.v (.bool o),.nils]) (Be [.v (.int .i64 a),.v (.int .i64 b),.v (.int .i64 c),A2 s,.v (.bool o),.nils])=true:=by
 simp only[Be,clean,A2,Gm,Nk,Nj,Pt,gN,Bool.and_self]
theorem Uk(t:Tk):RepE (.agg [.v (.int .i64 2),.v (.int .i64 (t.pos:Int)),.v (.int .i64 (if t.text=[116,114,117,101]then 1 else 0)),A2 [],.v (.bool false),.nils]) (G4 t):=.mk 2 t.pos _ [] false .nils [] .nil
theorem literal_k{ts:List Tk}(ht:Tok3 ts)(i:Nat)(e p:Int)(hi:i<ts.length):Kn3 ts 249 [stA ts i e p]:=by
 refine Jq Tryz.f249 (by kernel_rfl) (by kernel_rfl) (by show(_:Nat)≤_;simp[Tryz.f249]) ?_
 have hsz:=ht.size;have hx:=Ld ts i hi;obtain⟨fn1,hf1⟩:=fX 118;obtain⟨fn2,hf2⟩:=fX 180;obtain⟨fn3,hf3⟩:=fX 269;obtain⟨fn4,hf4⟩:=fX 270;have hsp:∀args a,Fv ts 249 args a=Sm ts .lit args a:=fun _ _=>rfl
 simp(maxSteps:=9^7) (disch:=omega)only[go_sem,reduceAdd,reduceEqDiff,reduceLeDiff,Tryz.f249,stA,stL,tkL,A2,hx,hf1,Bool.and_self];refine Ey (w:=[116,114,117,101]) hi ?_
 cases hb:isB ts i e [116,114,117,101]with
 |true =>
  obtain⟨rfl,hw⟩:=Dy hb;have hw2:=Fl i (by omega)
  have hn:=hw.next ht hi;simp(maxSteps:=9^7) (disch:=omega)only[go_sem,reduceAdd,reduceEqDiff,reduceLeDiff,hf1,hw2];refine Dd [(0,true),(1,true),(2,true),(0,false),(3,true),(4,true)] (by kernel_rfl) (by kernel_rfl) ?_
  simp(maxSteps:=9^7) (disch:=omega)only[go_sem,reduceAdd,reduceEqDiff,reduceLeDiff,hf3];refine Uc ?_;simp(maxSteps:=9^7) (disch:=omega)only[go_sem,reduceAdd,reduceEqDiff,reduceLeDiff,A2,Bool.and_self];refine Oy hsp _ (i+1) 0 p _ _ _ _ _ _ hn (by omega) rfl (pX _ _ _ _ _) (fun _=>⟨rfl,_,rd_litT ?_,Uk _⟩)
  rw[hw.2];simp
 |false =>
  simp(maxSteps:=9^7) (disch:=omega)only[go_sem,reduceAdd,reduceEqDiff,reduceLeDiff,hf1];refine Ey (w:=[102,97,108,115,101]) hi ?_
  cases hb2:isB ts i e [102,97,108,115,101]with
  |true =>
   obtain⟨rfl,hw⟩:=Dy hb2;have hw2:=Fl i (by omega)
   have hn:=hw.next ht hi;simp(maxSteps:=9^7) (disch:=omega)only[go_sem,reduceAdd,reduceEqDiff,reduceLeDiff,hf1,hw2];refine Dd [(0,true),(1,true),(2,true),(0,false),(3,true),(4,true)] (by kernel_rfl) (by kernel_rfl) ?_
   simp(maxSteps:=9^7) (disch:=omega)only[go_sem,reduceAdd,reduceEqDiff,reduceLeDiff,hf3];refine Uc ?_;simp(maxSteps:=9^7) (disch:=omega)only[go_sem,reduceAdd,reduceEqDiff,reduceLeDiff,A2,Bool.and_self];refine Oy hsp _ (i+1) 0 p _ _ _ _ _ _ hn (by omega) rfl (pX _ _ _ _ _) (fun _=>⟨rfl,_,rd_litT ?_,Uk _⟩)
   rw[hw.2];simp
  |false =>
   simp(maxSteps:=9^7) (disch:=omega)only[go_sem,reduceAdd,reduceEqDiff,reduceLeDiff,hf1];refine Ey (w:=[45]) hi ?_
   by_cases he:e=0
   ·subst he
    have n1:=G6 ht hi hb (by decide)
    have n2:=G6 ht hi hb2 (by decide)
    have h0:((0:Int) != 0)=false:=rfl
    cases hb3:isB ts i 0 [45]with
    |true =>
     obtain⟨_,hw⟩:=Dy hb3;have hw2:=Fl i (by omega)
     have hn:=hw.next ht hi;have hx1:=Ld ts (i+1) hn
     by_cases hk:(tk ts (i+1)).kind=2
     ·have hk2:(((tk ts (i+1)).kind:Int) != 2)=false:=by rw[hk];rfl
      have hn2:=O2 ht hn (by omega)
      have hw3:=Fl (i+1) (by omega)
      simp(maxSteps:=9^7) (disch:=omega)only[go_sem,reduceAdd,reduceEqDiff,reduceLeDiff,tkL,A2,hx,hx1,hf2,hf4,hk2,h0,hw2,hw3,Bool.and_self];refine Wm (at_:=(tk ts i).pos) (bl:=true) hn2 fun e' p' x0 x1 x2 x3 x4 x5 f1 c1 b1 h1=>?_
      simp(maxSteps:=9^7) (disch:=omega)only[go_sem,reduceLT,reduceAdd,reduceEqDiff,reduceLeDiff,stA,stL,Bool.and_self];refine Oy hsp _ (i+2) e' p' _ _ _ _ _ _ hn2 (by omega) f1 (by rw[c1];exact b1) (fun h=>⟨rfl,_,rd_litN ?_ (eE hi hn hw.2 hk) (by omega) (Qx _ _ _),by rw[c1];exact(h1 h).2.2⟩)
      rw[hw.2];decide
     ·have hk2:(((tk ts (i+1)).kind:Int) != 2)=true:=by rw[bne_iff_ne];omega
      simp(maxSteps:=9^7) (disch:=omega)only[go_sem,reduceAdd,reduceEqDiff,reduceLeDiff,tkL,A2,hx,hx1,hf2,hf4,hk2,h0,hw2,Bool.and_self];refine O7 hn fun e' p' he'=>?_
      simp(maxSteps:=9^7) (disch:=omega)only[go_sem,reduceAdd,reduceEqDiff,reduceLeDiff,stA,stL,A2,Bool.and_self];exact Oy hsp _ (i+1) e' p' _ _ _ _ _ _ hn (by omega) rfl Tv (fun h=>absurd h he')
    |false =>
     have n3:=G6 ht hi hb3 (by decide)
     by_cases hk:(tk ts i).kind=2
     ·have hk2:(((tk ts i).kind:Int) != 2)=false:=by rw[hk];rfl
      have hw2:=Fl i (by omega)
      have hn:=O2 ht hi (by omega)
      simp(maxSteps:=9^7) (disch:=omega)only[go_sem,reduceAdd,reduceEqDiff,reduceLeDiff,tkL,A2,hx,hf2,hf4,hk2,h0,hw2,Bool.and_self];refine Wm (at_:=(tk ts i).pos) (bl:=false) hn fun e' p' x0 x1 x2 x3 x4 x5 f1 c1 b1 h1=>?_
      simp(maxSteps:=9^7) (disch:=omega)only[go_sem,reduceLT,reduceAdd,reduceEqDiff,reduceLeDiff,stA,stL,Bool.and_self];refine Oy hsp _ (i+1) e' p' _ _ _ _ _ _ hn (by omega) f1 (by rw[c1];exact b1) (fun h=>⟨rfl,_,rd_litN ?_ (tJ hi n3 hk (ht.num i hi) ((h1 h).2.1 rfl)) (by omega) (Qx _ _ _),by rw[c1];exact(h1 h).2.2⟩)
      simp only[Jb8,Ja7,or_false,not_or];exact⟨n1,n2⟩
     ·have hk2:(((tk ts i).kind:Int) != 2)=true:=by rw[bne_iff_ne];omega
      simp(maxSteps:=9^7) (disch:=omega)only[go_sem,reduceAdd,reduceEqDiff,reduceLeDiff,tkL,A2,hx,hf2,hf4,hk2,h0,Bool.and_self];refine O7 hi fun e' p' he'=>?_
      simp(maxSteps:=9^7) (disch:=omega)only[go_sem,reduceAdd,reduceEqDiff,reduceLeDiff,stA,stL,A2,Bool.and_self];exact Oy hsp _ i e' p' _ _ _ _ _ _ hi (by omega) rfl Tv (fun h=>absurd h he')
   ·have h0:(e != 0)=true:=by rw[bne_iff_ne];exact he
    have hb3:isB ts i e [45]=false:=isB_bad he;simp(maxSteps:=9^7) (disch:=omega)only[go_sem,reduceAdd,reduceEqDiff,reduceLeDiff,tkL,A2,hx,hf2,hf4,hb3,h0,Bool.and_self];refine O7 hi fun e' p' he'=>?_
    simp(maxSteps:=9^7) (disch:=omega)only[go_sem,reduceAdd,reduceEqDiff,reduceLeDiff,stA,stL,A2,Bool.and_self];exact Oy hsp _ i e' p' _ _ _ _ _ _ hi (by omega) rfl Tv (fun h=>absurd h he')
def Gd(es:List AV):Prop:=C5 es=true∧Gm es es=true∧Gm (Be es) (Be es)=true
theorem En:Gd []:=⟨rfl,Oo,Oo⟩
theorem Ed{a:List AV}{r:List AV}(ha:Gd a)(hr:Gd r):Gd (.agg a :: r):=by
 obtain⟨h1,h2,h3⟩:=ha;obtain⟨k1,k2,k3⟩:=hr;refine⟨?_,?_,?_⟩
 ·show(C5 a && C5 r)=true
  rw[h1,k1];rfl
 ·rw[Jn,pY,h2,k2];rfl
 ·show Gm (.agg (Be a) :: Be r) (.agg (Be a) :: Be r)=true
  rw[Jn,pY,h3,k3];rfl
theorem J9:∀{a b:List AV},Gd a→Gd b→Gd (a ++ b)
 | [],b,_,hb=>hb
 |x :: a,b,ha,hb=>by
  obtain⟨h1,h2,h3⟩:=ha;rw[C5,Ja2]at h1;rw[Jn,Ja2]at h2;rw[Be,Jn,Ja2]at h3;obtain⟨k1,k2,k3⟩:=J9 (a:=a) ⟨h1.2,h2.2,h3.2⟩ hb;exact⟨by rw[List.cons_append,C5,h1.1,k1];rfl,by rw[List.cons_append,Jn,h2.1,k2];rfl,by rw[List.cons_append,Be,Jn,h3.1,k3];rfl⟩
theorem Vl(kd pos n:Int)(name:List UInt8)(off:Bool)(tok o:Nat){es:List AV}(h:Gd es):Gd [.v (.int .i64 kd),.v (.int .i64 pos),.v (.int .i64 n),A2 name,.v (.bool off),.sl tok o 6 es]:=by
 obtain⟨h1,h2,h3⟩:=h;refine⟨?_,?_,?_⟩
 ·show((C5 es) && true)=true
  rw[h1];rfl
 ·simp only[Jn,Nk,Pt,Qc,h2,Oo,A2,Nj,Bool.and_self]
 ·show Gm [_,_,_,_,_,AV.sl 0 0 6 (Be es)] [_,_,_,_,_,AV.sl 0 0 6 (Be es)]=true
  simp only[clean,Jn,Nk,Pt,Qc,h3,Oo,A2,Nj,Bool.and_self]
theorem Z3(kd pos n:Int)(name:List UInt8)(off:Bool):Gd [.v (.int .i64 kd),.v (.int .i64 pos),.v (.int .i64 n),A2 name,.v (.bool off),.nils]:=⟨rfl,by simp only[Jn,Nk,Pt,gN,Oo,A2,Nj,Bool.and_self],pX _ _ _ _ _⟩
theorem Vk{l:List AV}(h1:C5 l=true)(h2:Be l=l)(h3:Gm l l=true):Gd l:=⟨h1,h3,by rw[h2];exact h3⟩
theorem Pg:∀{es:List AV} {l:List PE} {a:AV} {e:PE},RepF es l→RepE a e→RepF (es ++ [a]) (l ++ [e])
 |_,_,_,_,.nil,h=>.cons _ _ _ _ h .nil
 |_,_,_,_,.cons a e r l h h2,h3=>.cons _ _ _ _ h (Pg h2 h3)
theorem Ju{ts:List Tk}{nt:NT}{i:Nat}{e p:Int}{k:FuncId}(hk:∀args a,Fv ts k args a=Sm ts nt args a)(S':St)(j:Nat)(e1 p1:Int){x0 x1 x2 x3 x4 x5:AV}(hj:j<ts.length)(hij:i≤j)(g:Gd [x0,x1,x2,x3,x4,x5])(hh:e1=0→e=0∧∃x,RdX ts nt i x j∧RepE (.agg [x0,x1,x2,x3,x4,x5]) x):
  ∃a S'',R.ret (.tup [stA ts j e1 p1,.agg [x0,x1,x2,x3,x4,x5]]) S' = R.ret a S''∧Bw a=true∧Fv ts k [stA ts i e p] (clean a) :=
 Oy hk S' j e1 p1 x0 x1 x2 x3 x4 x5 hj hij g.1 g.2.2 fun h=>by
  obtain⟨h1,x,h2,h3⟩:=hh h;exact⟨h1,x,h2,Ln h3⟩
theorem Y4{ts:List Tk}{nt:NT}{i:Nat}{e p:Int}{k:FuncId}(hk:∀args a,Fv ts k args a=Sm ts nt args a)(S':St)(j:Nat)(e1 p1:Int)(kd pos:Nat)(name:List UInt8)(off:Bool)(tok o:Nat)(es:List AV)(hj:j<ts.length)(hij:i≤j)(hes:Gd es)(hh:e1=0→e=0∧∃xs,RepF es xs∧RdX ts nt i (.mk kd pos 0 name off xs) j):
  ∃a S'',R.ret (.tup [stA ts j e1 p1,.agg [.v (.int .i64 (kd:Int)),.v (.int .i64 (pos:Int)),.v (.int .i64 0),A2 name,.v (.bool off),.sl tok o 6 es]]) S' = R.ret a S''∧Bw a=true∧Fv ts k [stA ts i e p] (clean a) :=
 Ju hk S' j e1 p1 hj hij (Vl _ _ _ _ _ _ _ hes) fun h=>by
  obtain⟨q1,xs,q2,q3⟩:=hh h;exact⟨q1,_,q3,.mk kd pos 0 name off _ xs (.row _ _ es xs q2)⟩
theorem rep6{x0 x1 x2 x3 x4 x5:AV}{x:PE}(h:RepE (.agg [x0,x1,x2,x3,x4,x5]) x):∃(kind pos:Nat) (n:Int) (name:List UInt8) (off:Bool) (kids:List PE),x=.mk kind pos n name off kids∧x0=.v (.int .i64 (kind:Int))∧x1=.v (.int .i64 (pos:Int))∧x2=.v (.int .i64 n)∧x3=A2 name∧x4=.v (.bool off)∧RepK x5 kids:=by
 generalize hx:AV.agg [x0,x1,x2,x3,x4,x5]=a at h
 cases h with
 |mk kind pos n name off kv kids hk =>
  injection hx with hx
  unfold exC at hx;injection hx with e0 hx;injection hx with e1 hx;injection hx with e2 hx;injection hx with e3 hx;injection hx with e4 hx;injection hx with e5 hx
  subst e0;subst e1;subst e2;subst e3;subst e4;subst e5;exact⟨kind,pos,n,name,off,kids,rfl,rfl,rfl,rfl,rfl,rfl,hk⟩
structure Hyp(ts:List Tk)(i:Nat):Prop where
 ex:∀i' e p,i'<ts.length→(i<i'∨e≠0)→Kn3 ts 182 [stA ts i' e p]
 ar:∀i' e p,i'<ts.length→(i<i'∨e≠0)→Kn3 ts 223 [stA ts i' e p]
 ro:∀i' e p (lv:Nat),i'<ts.length→lv≤5→(i<i'∨e≠0)→Kn3 ts 250 [stA ts i' e p,.v (.int .i64 (lv:Int))]
 ki:∀i' e p b,i'<ts.length→(i<i'∨e≠0)→Kn3 ts 222 [stA ts i' e p,.v (.bool b)]
theorem Ma{ts:List Tk}{nt:NT}{k:FuncId}{S:St}{Q:R→Prop}{i:Nat}{e p:Int}(hs:∀args a,Fv ts k args a=Sm ts nt args a)(hkn:kn3 k=true)(hi:i<ts.length)(hk:Kn3 ts k [stA ts i e p])
  (h:∀(j:Nat) (e' p':Int) (x0 x1 x2 x3 x4 x5:AV),j<ts.length→i≤j→Gd [x0,x1,x2,x3,x4,x5]→(e' = 0→e=0∧∃x,RdX ts nt i x j∧RepE (.agg [x0,x1,x2,x3,x4,x5]) x)→Q (.ret (.tup [stA ts j e' p',.agg [x0,x1,x2,x3,x4,x5]]) S)):WC (E3 ts) k [stA ts i e p] S Q :=
 aO (i:=i) (e:=e) (ok:=fun v j=>∃x,RdX ts nt i x j∧RepE v x) hk hkn (fD _ _ _ _) (Wd _ _ _ _) (fun a ha=>by rw[hs]at ha;exact ha i e p rfl hi) fun j e' p' x0 x1 x2 x3 x4 x5 q1 q2 q3 q4 q5 q6=>h j e' p' x0 x1 x2 x3 x4 x5 q1 q2 (Vk q3 q4 q5) q6
theorem K0{ts:List Tk}{S:St}{Q:R→Prop}{i:Nat}{e p:Int}{lv:Nat}(hl:lv≤5)(hi:i<ts.length)(hk:Kn3 ts 250 [stA ts i e p,.v (.int .i64 (lv:Int))])
  (h:∀(j:Nat) (e' p':Int) (x0 x1 x2 x3 x4 x5:AV),j<ts.length→i≤j→Gd [x0,x1,x2,x3,x4,x5]→(e' = 0→e=0∧∃x,RdX ts (ntL lv) i x j∧RepE (.agg [x0,x1,x2,x3,x4,x5]) x)→Q (.ret (.tup [stA ts j e' p',.agg [x0,x1,x2,x3,x4,x5]]) S)):WC (E3 ts) 250 [stA ts i e p,.v (.int .i64 (lv:Int))] S Q :=
 aO (i:=i) (e:=e) (ok:=fun v j=>∃x,RdX ts (ntL lv) i x j∧RepE v x) hk (by kernel_rfl) (free2 _ _ _ _ _) (pS _ _ _ _ _) (fun a ha=>ha i e p lv rfl hi hl) fun j e' p' x0 x1 x2 x3 x4 x5 q1 q2 q3 q4 q5 q6=>h j e' p' x0 x1 x2 x3 x4 x5 q1 q2 (Vk q3 q4 q5) q6
theorem fin_row{ts:List Tk}{lv:Nat}{i:Nat}{e p:Int}{a:AV}(h:Bw a=true∧ExR ts i e (clean a) fun v j=>∃x,RdX ts (ntL lv) i x j∧RepE v x)(S':St):∃a' S'',R.ret a S' = R.ret a' S''∧Bw a' = true∧Fv ts 250 [stA ts i e p,.v (.int .i64 (lv:Int))] (clean a'):=by
 refine⟨_,_,rfl,h.1,?_⟩;intro i' e' p' lv' h1 hi hl;obtain⟨h2,h3⟩:=Cy h1;obtain⟨rfl,rfl,rfl⟩:=Mb h2;have:=v_inj (Cy h3).1;have:lv=lv':=by omega
 subst this;exact h.2
theorem R7{ts:List Tk}{lv:Nat}{i:Nat}{e p:Int}(S':St)(j:Nat)(e1 p1:Int){x0 x1 x2 x3 x4 x5:AV}(hj:j<ts.length)(hij:i≤j)(g:Gd [x0,x1,x2,x3,x4,x5])(hh:e1=0→e=0∧∃x,RdX ts (ntL lv) i x j∧RepE (.agg [x0,x1,x2,x3,x4,x5]) x):∃a' S'',R.ret (.tup [stA ts j e1 p1,.agg [x0,x1,x2,x3,x4,x5]]) S' = R.ret a' S''∧Bw a' = true∧Fv ts 250 [stA ts i e p,.v (.int .i64 (lv:Int))] (clean a') :=
 fin_row (Y5 (i:=i) (e:=e) (p:=p) j e1 p1 x0 x1 x2 x3 x4 x5 rfl hj hij g.1 g.2.2 fun h=>by
  obtain⟨h1,x,h2,h3⟩:=hh h
  exact⟨h1,x,h2,Ln h3⟩) S'
theorem row_bad{ts:List Tk}(i:Nat)(e p:Int)(lv:Nat)(hi:i<ts.length)(he:e≠0):Kn3 ts 250 [stA ts i e p,.v (.int .i64 (lv:Int))]:=by
 refine Jq Tryz.f250 (by kernel_rfl) (by kernel_rfl) (by show(_:Nat)≤_;simp[Tryz.f250]) ?_
 have he2:(e != 0)=true:=by rw[bne_iff_ne];exact he
 simp(disch:=omega)only[go_sem,reduceAdd,reduceEqDiff,reduceLeDiff,Tryz.f250,stA,stL,A2,he2,Bool.and_self];exact fin_row (Y5 (i:=i) (e:=e) (p:=p) i e p _ _ _ _ _ _ rfl hi (Ja1 _) rfl Tv (fun h=>absurd h he)) _
end Go.Ax
