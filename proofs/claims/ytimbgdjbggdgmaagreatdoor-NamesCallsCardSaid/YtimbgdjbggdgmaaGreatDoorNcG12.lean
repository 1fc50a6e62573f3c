/- ZbPa -/
import Derived.Test.YtimbgdjbggdgmaaGreatDoorNcG11
set_option linter.unusedVariables false
set_option linter.unusedSimpArgs false
set_option maxHeartbeats 16000000
noncomputable section
open Nat (reduceLT reduceAdd reduceEqDiff)
namespace Go.Ax
open Go.RowKit Go.Proofs
set_option maxRecDepth 100000
section
attribute [local go_sem] Bool.false_eq_true List.append_nil List.nil_append Option.getD_some T.get_leaf T.get_set B1 Ky Dr Bz Dl Dz Db Ty Ct Ew Fi Ms Ff A6 Bg Bv B3 By Bm Cm Ge if_false if_true Cx C9 Em Gw Bo ofOpt ofOptS C8 Cc Bu Ba Cd E8 true_and D8 Bc
def Cur(S:St)(p k:Nat)(ts:List Tk)(i:Nat):Prop:=S.mem.get p=some (.box [.sl k 0 4 (ts.map C6),Bk i])
theorem Gr{S:St}{cs:List AV}{id:Nat}(h:id<S.next):(S.newBox cs).mem.get id=S.mem.get id:=by
 show(S.mem.set S.next _).get id=_
 rw[T.get_set,if_neg (by omega)]
theorem D9{S:St}{b id:Nat}{cs:List AV}(h:id≠b):(S.put b cs).mem.get id=S.mem.get id:=by
 show(S.mem.set b _).get id=_
 rw[T.get_set,if_neg h]
theorem Cur.keep{S S':St}{p k i:Nat}{ts:List Tk}(h:Cur S p k ts i)(hp:p<S.next)(hk:Dm S S'):Cur S' p k ts i:=(hk.2 p hp).trans h
theorem s144:∀p,A3 Tryz.prog 187 (.ptr p 0) 0=some (.ptr p 0)∧A3 Tryz.prog 187 (.ptr p 0) 1=some (.ptr p 1):=fun p=>⟨by kernel_rfl,by kernel_rfl⟩
theorem fc0(p:Nat):A3 Tryz.prog 187 (.ptr p 0) 0=some (.ptr p 0):=(s144 p).1
theorem fc1(p:Nat):A3 Tryz.prog 187 (.ptr p 0) 1=some (.ptr p 1):=(s144 p).2
theorem fp0(p:Nat):A3 Tryz.prog 189 (.ptr p 0) 0=some (.ptr p 0):=by kernel_rfl
theorem a63:B9 Tryz.prog 183=some false:=by kernel_rfl
theorem a3:B9 Tryz.prog 3=some false:=by kernel_rfl
theorem s3:Cl Tryz.prog 3=some 1:=by kernel_rfl
theorem Cur.ld0{S:St}{p k i:Nat}{ts:List Tk}(h:Cur S p k ts i):A8 Tryz.prog S 183 (.ptr p 0)=some (.sl k 0 4 (ts.map C6)):=by
 unfold Cur at h;simp[A8,Ca,h,a63]
theorem Cur.ld1{S:St}{p k i:Nat}{ts:List Tk}(h:Cur S p k ts i):A8 Tryz.prog S 3 (.ptr p 1)=some (Bk i):=by
 unfold Cur at h;simp[A8,Ca,h,a3]
theorem idx63(k:Nat)(ts:List Tk)(i:Nat)(h:i<ts.length):Bh Tryz.prog 183 (.sl k 0 4 (ts.map C6)) (.v (.int .i64 (i:Int)))=some (.ep (Cb ts[i])):=by
 have h0:(0:Int)≤(i:Int):=by omega
 simp[Bh,h0,e63,s68,h,C6,AV.cells]
theorem ldEp68(S:St)(t:Tk):A8 Tryz.prog S 249 (.ep (Cb t))=some (C6 t):=by
 simp[A8,Ca,a68,s68,Cb,C6]
theorem fld68(t:Tk):Oi Tryz.prog 249 (C6 t) 0=some (Bk t.kind)∧Oi Tryz.prog 249 (C6 t) 1=some (Bk t.pos)∧Oi Tryz.prog 249 (C6 t) 2=some (A2 t.text)∧Oi Tryz.prog 249 (C6 t) 3=some (Kf t.num):=⟨by kernel_rfl,by kernel_rfl,by kernel_rfl,by kernel_rfl⟩
theorem Us(t:Tk):Oi Tryz.prog 249 (C6 t) 0=some (Bk t.kind):=(fld68 t).1
theorem Xk(t:Tk):Oi Tryz.prog 249 (C6 t) 2=some (A2 t.text):=(fld68 t).2.2.1
theorem Ud(S0 S:St)(t t':Tk)(b:Nat)(h:S.mem.get b=some (.box (Cb t))):Bl Tryz.prog S 249 (.ptr b 0) (C6 t')=some (S.put b (Cb t')):=st68 h rfl rfl
theorem W4(S:St)(p k:Nat)(ts:List Tk)(i:Nat)(h:Cur S p k ts i)(hp:p<S.next)(hi:i<ts.length):WC E1 167 [.ptr p 0] S (fun r=>∃S',r=.ret (C6 ts[i]) S'∧Dm S S'):=by
 refine WCk Tryz.f167 ?_;have h1:Cur (S.newBox (Cb B5)) p k ts i:=(Gr hp).trans h;have q0:=h1.ld0;have q1:=h1.ld1;have q2:=idx63 k ts i hi;have q3:Bl Tryz.prog (S.newBox (Cb B5)) 249 (.ptr S.next 0) (C6 ts[i])=some ((S.newBox (Cb B5)).put S.next (Cb ts[i])):=Ns S (Cb B5) (Cb ts[i]) rfl rfl;have q4:A8 Tryz.prog ((S.newBox (Cb B5)).put S.next (Cb ts[i])) 249 (.ptr S.next 0)=some (C6 ts[i]):=Im _ _ _ rfl;simp only[go_sem,Eh,reduceLT,Tryz.f167];refine Dd [(0,true),(1,true),(2,true),(3,true),(4,true),(5,true),(6,true),(7,true),(8,true),(9,true),(10,true)] (by kernel_rfl) (by kernel_rfl) ?_
 unfold Bk at q1;simp only[go_sem,reduceLT,reduceEqDiff,Af,Ag,Ah,gY,Ir,I1,Jv,Js,Hw,H9,Mp,fc0,fc1,q0,q1,q2,q3,q4,ldEp68];exact⟨_,rfl,Dj (Ce S _) (Ja1 _) _⟩
def wsA(tok off:Nat)(ws:List (List UInt8)):AV:=.sl tok off 1 (ws.map A2)
theorem O9(S:St)(p k:Nat)(ts:List Tk)(i:Nat)(h:Cur S p k ts i)(hp:p<S.next)(hi:i<ts.length)(tok off:Nat)(ws:List (List UInt8))(hw:ws.length≤1000):WC E1 112 [.ptr p 0,wsA tok off ws] S (fun r=>∃S',r=.ret (.v (.bool (decide (ts[i].text∈ws)))) S'∧Dm S S'):=by
 refine WCk Tryz.f112 ?_;obtain⟨fn1,hf1⟩:=fX 167;obtain⟨fn2,hf2⟩:=fX 55;simp only[go_sem,reduceLT,reduceAdd,reduceEqDiff,Tryz.f112,hf1];refine WC.mono (W4 S p k ts i h hp hi) ?_;rintro _ ⟨S2,rfl,hk⟩;simp only[go_sem,reduceLT,reduceEqDiff,Xk,hf2];refine WC.mono (Wb tok off ws ts[i].text (by omega) S2) ?_
 rintro _ rfl;simp only[go_sem,reduceLT,reduceEqDiff];exact⟨_,rfl,hk⟩
def C4(p:Nat)(S S':St):Prop:=S.next≤S'.next∧∀id,id<S.next→id≠p→S'.mem.get id=S.mem.get id
theorem Dm.x{S S':St}(h:Dm S S')(p:Nat):C4 p S S':=⟨h.1,fun id hid _=>h.2 id hid⟩
theorem C4.trans{p:Nat}{S S1 S2:St}(h:C4 p S S1)(k:C4 p S1 S2):C4 p S S2:=⟨Jb2 h.1 k.1,fun id hid hn=>(k.2 id (Ja0 hid h.1) hn).trans (h.2 id hid hn)⟩
theorem fc68(b:Nat):A3 Tryz.prog 249 (.ptr b 0) 0=some (.ptr b 0)∧A3 Tryz.prog 249 (.ptr b 0) 1=some (.ptr b 1)∧A3 Tryz.prog 249 (.ptr b 0) 3=some (.ptr b 3):=⟨by kernel_rfl,by kernel_rfl,by kernel_rfl⟩
theorem st3cur{S:St}{p k i:Nat}{ts:List Tk}(h:Cur S p k ts i)(j:Nat):Bl Tryz.prog S 3 (.ptr p 1) (.v (.int .i64 (j:Int)))=some (S.put p [.sl k 0 4 (ts.map C6),Bk j]):=by
 unfold Cur at h;have h2:(AV.v (.int .i64 (j:Int))).noTup=true:=rfl;simp[Bl,h,s3,h2,AV.cells,St.put,Bk]
theorem wZ(S:St)(p k:Nat)(ts:List Tk)(i:Nat)(h:Cur S p k ts i)(hp:p<S.next)(hi:i<ts.length)(hl:ts.length≤1000000):WC E1 214 [.ptr p 0] S (fun r=>∃S',r=.ret (C6 ts[i]) S'∧C4 p S S'∧Cur S' p k ts (i+1)):=by
 refine WCk Tryz.f214 ?_;obtain⟨fn1,hf1⟩:=fX 167;have h1:Cur (S.newBox (Cb B5)) p k ts i:=(Gr hp).trans h;simp only[go_sem,reduceLT,reduceEqDiff,Tryz.f214,hf1];refine WC.mono (W4 _ p k ts i h1 (Jb0 hp) hi) ?_;rintro _ ⟨S2,rfl,hk⟩;have hn2:S.next<S2.next:=hk.1;have h2:Cur S2 p k ts i:=h1.keep (Jb0 hp) hk;have g2:S2.mem.get S.next=some (.box (Cb B5)):=(hk.2 _ (Ja5 _)).trans (Co S _);have q1:Bl Tryz.prog (S2.newBox (Cb B5)) 249 (.ptr S2.next 0) (C6 ts[i])=some ((S2.newBox (Cb B5)).put S2.next (Cb ts[i])):=Ns S2 (Cb B5) (Cb ts[i]) rfl rfl;have k3:Dm S2 ((S2.newBox (Cb B5)).put S2.next (Cb ts[i])):=Dj (Ce S2 _) (Ja1 _) _;have g3:=Dv (S2.newBox (Cb B5)) S2.next (Cb ts[i]);generalize hS3:(S2.newBox (Cb B5)).put S2.next (Cb ts[i])=S3 at q1 k3 g3;have h3:Cur S3 p k ts i:=h2.keep (by omega) k3
 have q2:=h3.ld1;have q3:=st3cur h3 (i+1);have hw:=Jd (i:=i) (by omega)
 have g4:(S3.put p [.sl k 0 4 (ts.map C6),Bk (i+1)]).mem.get S2.next=some (.box (Cb ts[i])):=(D9 (by omega)).trans g3
 have g5:(S3.put p [.sl k 0 4 (ts.map C6),Bk (i+1)]).mem.get S.next=some (.box (Cb B5)):=(D9 (by omega)).trans ((k3.2 _ hn2).trans g2)
 have q4:=Xc g4;have q5:Bl Tryz.prog _ 249 (.ptr S.next 0) (C6 ts[i])=some _:=Ud S _ B5 ts[i] S.next g5;have q6:A8 Tryz.prog ((S3.put p [.sl k 0 4 (ts.map C6),Bk (i+1)]).put S.next (Cb ts[i])) 249 (.ptr S.next 0)=some (C6 ts[i]):=Im _ _ _ rfl;unfold Bk at q2 q3 q4 q5 q6;simp only[go_sem,Ja,reduceLT,reduceEqDiff,q1,fc1,q2,hw,q3,q4,q5,q6];refine⟨_,rfl,⟨?_,fun id hid hne=>?_⟩,?_⟩
 ·have:=hk.1;have:=k3.1;show S.next≤S3.next;omega
 ·rw[D9 (by omega),D9 hne,k3.2 id (by omega),hk.2 id (Jb0 hid),Gr hid]
 ·exact(D9 (by omega)).trans (Dv _ _ _)
def Hc(t:Tk):Nat:=if t.kind=5 then 2 else 1
def Xj(a e:Nat):AV:=.iface 29 (.agg (D0 a e))
theorem mkI33(a e:Nat):Qh Tryz.prog 29 (.agg [.v (.int .i64 (a:Int)),.v (.int .i64 (e:Int))])=some (.iface 29 (.agg [.v (.int .i64 (a:Int)),.v (.int .i64 (e:Int))])):=by kernel_rfl
theorem ld3k{S:St}{id:Nat}{t:Tk}(h:S.mem.get id=some (.box (Cb t))):A8 Tryz.prog S 3 (.ptr id 0)=some (Bk t.kind)∧A8 Tryz.prog S 3 (.ptr id 1)=some (Bk t.pos):=by
 constructor <;> simp[A8,Ca,h,a3,Cb]
theorem dI(S:St)(p k:Nat)(ts:List Tk)(i:Nat)(h:Cur S p k ts i)(hp:p<S.next)(hi:i<ts.length):WC E1 168 [.ptr p 0] S (fun r=>∃S',r=.pan (Xj ts[i].pos (Hc ts[i])) S'∧Dm S S'):=by
 refine WCk Tryz.f168 ?_;obtain⟨fn1,hf1⟩:=fX 167;simp only[go_sem,reduceLT,reduceEqDiff,Tryz.f168,hf1];refine WC.mono (W4 _ p k ts i h hp hi) ?_;rintro _ ⟨S2,rfl,hk⟩;have q1:Bl Tryz.prog (S2.newBox (Cb B5)) 249 (.ptr S2.next 0) (C6 ts[i])=some ((S2.newBox (Cb B5)).put S2.next (Cb ts[i])):=Ns S2 (Cb B5) (Cb ts[i]) rfl rfl;have k3:Dm S2 ((S2.newBox (Cb B5)).put S2.next (Cb ts[i])):=Dj (Ce S2 _) (Ja1 _) _;obtain⟨q2,q3⟩:=ld3k (Dv (S2.newBox (Cb B5)) S2.next (Cb ts[i]));have f0:=(fc68 S2.next).1;have f1:=(fc68 S2.next).2.1;unfold Bk at q2 q3
 by_cases h5:ts[i].kind=5
 ·have e:Hc ts[i]=2:=by unfold Hc;rw[if_pos h5]
  have n5:(((ts[i].kind:Nat):Int) == 5)=true:=by rw[h5];rfl
  have m:=mkI33 ts[i].pos 2;simp only[go_sem,D6,reduceLT,reduceEqDiff,q1,f0,q2,n5,f1,q3,mI];have m:Qh Tryz.prog 29 (.agg [.v (.int .i64 (ts[i].pos:Int)),.v (.int .i64 2)])=some (.iface 29 (.agg [.v (.int .i64 (ts[i].pos:Int)),.v (.int .i64 2)])):=m;simp only[go_sem,A9,J8,A7,reduceLT,reduceEqDiff,m];rw[e];exact⟨_,rfl,hk.trans k3⟩
 ·have e:Hc ts[i]=1:=by unfold Hc;rw[if_neg h5]
  have n5:(((ts[i].kind:Nat):Int) == 5)=false:=by rw[beq_eq_false_iff_ne];omega
  have m:Qh Tryz.prog 29 (.agg [.v (.int .i64 (ts[i].pos:Int)),.v (.int .i64 1)])=some (.iface 29 (.agg [.v (.int .i64 (ts[i].pos:Int)),.v (.int .i64 1)])):=mkI33 ts[i].pos 1;simp only[go_sem,J8,A7,D6,reduceLT,reduceEqDiff,q1,f0,q2,n5,f1,q3,mI,m];rw[e];exact⟨_,rfl,hk.trans k3⟩
theorem qZ(S:St)(p k:Nat)(ts:List Tk)(i:Nat)(h:Cur S p k ts i)(hp:p<S.next)(hi:i<ts.length)(hl:ts.length≤1000000)(tok off:Nat)(ws:List (List UInt8))(hw:ws.length≤1000)(hm:ts[i].text∈ws):WC E1 173 [.ptr p 0,wsA tok off ws] S (fun r=>∃S',r=.ret (.tup [C6 ts[i],.v (.bool true)]) S'∧C4 p S S'∧Cur S' p k ts (i+1)):=by
 refine WCk Tryz.f173 ?_;obtain⟨fn1,hf1⟩:=fX 112;obtain⟨fn2,hf2⟩:=fX 214;have h1:Cur (S.newBox (Cb B5)) p k ts i:=(Gr hp).trans h;simp only[go_sem,reduceLT,reduceAdd,reduceEqDiff,Tryz.f173,hf1];refine WC.mono (O9 _ p k ts i h1 (Jb0 hp) hi tok off ws hw) ?_;rintro _ ⟨S2,rfl,hk⟩;rw[decide_eq_true hm];simp only[go_sem,reduceLT,reduceEqDiff,Ar,hf2];refine WC.mono (wZ S2 p k ts i (h1.keep (Jb0 hp) hk) (Ja0 (Jb0 hp) hk.1) hi hl) ?_;rintro _ ⟨S3,rfl,hx,hc⟩;have hn2:S.next<S2.next:=hk.1;have g3:S3.mem.get S.next=some (.box (Cb B5)):=(hx.2 _ hn2 (by omega)).trans ((hk.2 _ (Ja5 _)).trans (Co S _))
 have q1:=Ud S S3 B5 ts[i] S.next g3;have q2:A8 Tryz.prog (S3.put S.next (Cb ts[i])) 249 (.ptr S.next 0)=some (C6 ts[i]):=Im _ _ _ rfl;simp only[go_sem,reduceLT,reduceEqDiff,q1,q2];refine⟨_,rfl,⟨?_,fun id hid hne=>?_⟩,?_⟩
 ·have:=hx.1;show S.next≤S3.next;omega
 ·rw[D9 (by omega),hx.2 id (by omega) hne,hk.2 id (Jb0 hid),Gr hid]
 ·exact(D9 (by omega)).trans hc
theorem take_no(S:St)(p k:Nat)(ts:List Tk)(i:Nat)(h:Cur S p k ts i)(hp:p<S.next)(hi:i<ts.length)(tok off:Nat)(ws:List (List UInt8))(hw:ws.length≤1000)(hm:ts[i].text ∉ ws):WC E1 173 [.ptr p 0,wsA tok off ws] S (fun r=>∃S',r=.ret (.tup [C6 B5,.v (.bool false)]) S'∧Dm S S'):=by
 refine WCk Tryz.f173 ?_;obtain⟨fn1,hf1⟩:=fX 112;have h1:Cur (S.newBox (Cb B5)) p k ts i:=(Gr hp).trans h;simp only[go_sem,reduceLT,reduceAdd,reduceEqDiff,Tryz.f173,hf1];refine WC.mono (O9 _ p k ts i h1 (Jb0 hp) hi tok off ws hw) ?_;rintro _ ⟨S2,rfl,hk⟩;rw[decide_eq_false hm];have g2:S2.mem.get S.next=some (.box (Cb B5)):=(hk.2 _ (Ja5 _)).trans (Co S _);have q1:Bl Tryz.prog S2 249 (.ptr S.next 0) (.agg (Cb B5))=some (S2.put S.next (Cb B5)):=st68 g2 rfl rfl;have q2:A8 Tryz.prog (S2.put S.next (Cb B5)) 249 (.ptr S.next 0)=some (C6 B5):=Im _ _ _ rfl;simp only[go_sem,F8,reduceLT,reduceEqDiff,Au,b68_0,q1,q2];exact⟨_,rfl,Dj ((Ce S _).trans hk) (Ja1 _) _⟩
theorem need_yes(S:St)(p k:Nat)(ts:List Tk)(i:Nat)(h:Cur S p k ts i)(hp:p<S.next)(hi:i<ts.length)(hl:ts.length≤1000000)(tok off:Nat)(ws:List (List UInt8))(hw:ws.length≤1000)(hm:ts[i].text∈ws):WC E1 169 [.ptr p 0,wsA tok off ws] S (fun r=>∃S',r=.ret (C6 ts[i]) S'∧C4 p S S'∧Cur S' p k ts (i+1)):=by
 refine WCk Tryz.f169 ?_;obtain⟨fn1,hf1⟩:=fX 112;obtain⟨fn2,hf2⟩:=fX 214;have h1:Cur (S.newBox (Cb B5)) p k ts i:=(Gr hp).trans h;simp only[go_sem,reduceLT,reduceAdd,reduceEqDiff,Tryz.f169,hf1];refine WC.mono (O9 _ p k ts i h1 (Jb0 hp) hi tok off ws hw) ?_;rintro _ ⟨S2,rfl,hk⟩;rw[decide_eq_true hm];simp only[go_sem,reduceLT,reduceEqDiff,Ar,hf2];refine WC.mono (wZ S2 p k ts i (h1.keep (Jb0 hp) hk) (Ja0 (Jb0 hp) hk.1) hi hl) ?_;rintro _ ⟨S3,rfl,hx,hc⟩;have hn2:S.next<S2.next:=hk.1;have g3:S3.mem.get S.next=some (.box (Cb B5)):=(hx.2 _ hn2 (by omega)).trans ((hk.2 _ (Ja5 _)).trans (Co S _))
 have q1:=Ud S S3 B5 ts[i] S.next g3;have q2:A8 Tryz.prog (S3.put S.next (Cb ts[i])) 249 (.ptr S.next 0)=some (C6 ts[i]):=Im _ _ _ rfl;simp only[go_sem,reduceLT,reduceEqDiff,q1,q2];refine⟨_,rfl,⟨?_,fun id hid hne=>?_⟩,?_⟩
 ·have:=hx.1;show S.next≤S3.next;omega
 ·rw[D9 (by omega),hx.2 id (by omega) hne,hk.2 id (Jb0 hid),Gr hid]
 ·exact(D9 (by omega)).trans hc
theorem need_no(S:St)(p k:Nat)(ts:List Tk)(i:Nat)(h:Cur S p k ts i)(hp:p<S.next)(hi:i<ts.length)(tok off:Nat)(ws:List (List UInt8))(hw:ws.length≤1000)(hm:ts[i].text ∉ ws):WC E1 169 [.ptr p 0,wsA tok off ws] S (fun r=>∃S',r=.pan (Xj ts[i].pos (Hc ts[i])) S'∧Dm S S'):=by
 refine WCk Tryz.f169 ?_;obtain⟨fn1,hf1⟩:=fX 112;obtain⟨fn2,hf2⟩:=fX 168;have h1:Cur (S.newBox (Cb B5)) p k ts i:=(Gr hp).trans h;simp only[go_sem,reduceLT,reduceAdd,reduceEqDiff,Tryz.f169,hf1];refine WC.mono (O9 _ p k ts i h1 (Jb0 hp) hi tok off ws hw) ?_;rintro _ ⟨S2,rfl,hk⟩;rw[decide_eq_false hm];simp only[go_sem,reduceLT,reduceEqDiff,Au,hf2];refine WC.mono (dI S2 p k ts i (h1.keep (Jb0 hp) hk) (Ja0 (Jb0 hp) hk.1) hi) ?_;rintro _ ⟨S3,rfl,hx⟩;simp only[A9,Bf,A7];exact⟨_,rfl,(Ce S _).trans (hk.trans hx)⟩
theorem eU(S:St)(p k:Nat)(ts:List Tk)(i:Nat)(h:Cur S p k ts i)(hp:p<S.next)(hi:i<ts.length)(hl:ts.length≤1000000)(kind:Nat)(hm:ts[i].kind=kind):WC E1 170 [.ptr p 0,Bk kind] S (fun r=>∃S',r=.ret (C6 ts[i]) S'∧C4 p S S'∧Cur S' p k ts (i+1)):=by
 refine WCk Tryz.f170 ?_;obtain⟨fn1,hf1⟩:=fX 167;obtain⟨fn2,hf2⟩:=fX 214;have h1:Cur (S.newBox (Cb B5)) p k ts i:=(Gr hp).trans h;have hq:(((ts[i].kind:Nat):Int) != (kind:Int))=false:=by rw[hm];simp
 simp only[go_sem,reduceLT,reduceAdd,reduceEqDiff,Tryz.f170,hf1];refine WC.mono (W4 _ p k ts i h1 (Jb0 hp) hi) ?_;rintro _ ⟨S2,rfl,hk⟩;simp only[go_sem,Fb,reduceLT,reduceEqDiff,Us,Bk,hq,hf2];refine WC.mono (wZ S2 p k ts i (h1.keep (Jb0 hp) hk) (Ja0 (Jb0 hp) hk.1) hi hl) ?_;rintro _ ⟨S3,rfl,hx,hc⟩;have hn2:S.next<S2.next:=hk.1;have g3:S3.mem.get S.next=some (.box (Cb B5)):=(hx.2 _ hn2 (by omega)).trans ((hk.2 _ (Ja5 _)).trans (Co S _))
 have q1:=Ud S S3 B5 ts[i] S.next g3;have q2:A8 Tryz.prog (S3.put S.next (Cb ts[i])) 249 (.ptr S.next 0)=some (C6 ts[i]):=Im _ _ _ rfl;simp only[go_sem,reduceLT,reduceEqDiff,q1,q2];refine⟨_,rfl,⟨?_,fun id hid hne=>?_⟩,?_⟩
 ·have:=hx.1;show S.next≤S3.next;omega
 ·rw[D9 (by omega),hx.2 id (by omega) hne,hk.2 id (Jb0 hid),Gr hid]
 ·exact(D9 (by omega)).trans hc
theorem oK(S:St)(p k:Nat)(ts:List Tk)(i:Nat)(h:Cur S p k ts i)(hp:p<S.next)(hi:i<ts.length)(kind:Nat)(hm:ts[i].kind≠kind):WC E1 170 [.ptr p 0,Bk kind] S (fun r=>∃S',r=.pan (Xj ts[i].pos (Hc ts[i])) S'∧Dm S S'):=by
 refine WCk Tryz.f170 ?_;obtain⟨fn1,hf1⟩:=fX 167;obtain⟨fn2,hf2⟩:=fX 168;have h1:Cur (S.newBox (Cb B5)) p k ts i:=(Gr hp).trans h;have hq:(((ts[i].kind:Nat):Int) != (kind:Int))=true:=by rw[bne_iff_ne];omega
 simp only[go_sem,reduceLT,reduceAdd,reduceEqDiff,Tryz.f170,hf1];refine WC.mono (W4 _ p k ts i h1 (Jb0 hp) hi) ?_;rintro _ ⟨S2,rfl,hk⟩;simp only[go_sem,Fb,reduceLT,reduceEqDiff,Us,Bk,hq,hf2];refine WC.mono (dI S2 p k ts i (h1.keep (Jb0 hp) hk) (Ja0 (Jb0 hp) hk.1) hi) ?_;rintro _ ⟨S3,rfl,hx⟩;simp only[A9,Bf,A7];exact⟨_,rfl,(Ce S _).trans (hk.trans hx)⟩
end
section
attribute [local go_sem] T.get_leaf T.get_set B1 Ky Bz Dz Ff A6 Bg By if_false if_true ofOpt ofOptS Bu E8 true_and Bc
def exC(kind pos:Nat)(n:Int)(name:List UInt8)(off:Bool)(kv:AV):List AV:=[Bk kind,Bk pos,.v (.int .i64 n),A2 name,.v (.bool off),kv]
def exZ:List AV:=exC 0 0 0 [] false .nils
def iB(kv:AV):Prop:=kv=.nils∨∃tok off es,kv=.sl tok off 6 es
theorem a30:B9 Tryz.prog 57=some true:=by kernel_rfl
theorem s30:Cl Tryz.prog 57=some 6:=by kernel_rfl
theorem Sl(S:St):Ga Tryz.prog S 57=some (.ptr S.next 0,S.newBox exZ):=rfl
theorem Vt{S:St}{id:Nat}{cs ys:List AV}(h:S.mem.get id=some (.box cs))(hl:cs.length=6)(hy:ys.length=6):Bl Tryz.prog S 57 (.ptr id 0) (.agg ys)=some (S.put id ys):=by
 have h2:(AV.agg ys).noTup=true:=rfl;simp[Bl,h,s30,h2,AV.cells,hl,hy,St.put,Jc3]
theorem ld30{S:St}{id:Nat}{cs:List AV}(h:S.mem.get id=some (.box cs))(hl:cs.length=6):A8 Tryz.prog S 57 (.ptr id 0)=some (.agg cs):=by
 have e:cs.take 6=cs:=Jd2 (by omega)
 simp[A8,Ca,h,a30,s30,hl,e]
theorem b30(k a:Int)(kv:AV)(h:iB kv):Du Tryz.prog 57 [(0,.v (.int .i64 k)),(1,.v (.int .i64 a)),(5,kv)]=some (.agg [.v (.int .i64 k),.v (.int .i64 a),.v (.int .i64 0),A2 [],.v (.bool false),kv]):=by
 rcases h with rfl | ⟨tok,off,es,rfl⟩ <;> rfl
theorem ld3b{S:St}{id:Nat}{t:Tk}(h:S.mem.get id=some (.box (Cb t))):A8 Tryz.prog S 3 (.ptr id 1)=some (.v (.int .i64 (t.pos:Int))):=(ld3k h).2
theorem fd1(b:Nat):A3 Tryz.prog 249 (.ptr b 0) 1=some (.ptr b 1):=(fc68 b).2.1
theorem fd3(b:Nat):A3 Tryz.prog 249 (.ptr b 0) 3=some (.ptr b 3):=(fc68 b).2.2
theorem Qo(t:Tk):(C6 t).noTup=true:=rfl
theorem Qp(t:Tk):(C6 t).cells=Cb t:=rfl
theorem Cr(xs:List AV):(AV.agg xs).noTup=true:=rfl
theorem Cs(xs:List AV):(AV.agg xs).cells=xs:=rfl
theorem Ik(S:St)(b:Nat)(cs:List AV):(S.put b cs).next=S.next:=rfl
theorem Qi(S:St)(kind:Nat)(t:Tk)(kv:AV)(hk:iB kv):WC E1 248 [Bk kind,C6 t,kv] S (fun r=>∃S',r=.ret (.agg (exC kind t.pos 0 [] false kv)) S'∧Dm S S'):=by
 refine WCk Tryz.f248 ?_;have g1:((S.newBox (Cb t)).newBox exZ).mem.get S.next=some (.box (Cb t)):=(Gr (Ja5 _)).trans (Co S _);have g2:((S.newBox (Cb t)).newBox exZ).mem.get (S.newBox (Cb t)).next=some (.box exZ):=Co _ _;have q1:=ld3b g1;have q2:=b30 kind t.pos kv hk;have q3:=Vt g2 rfl (show([.v (.int .i64 (kind:Int)),.v (.int .i64 (t.pos:Int)),.v (.int .i64 0),A2 [],.v (.bool false),kv]:List AV).length=6 from rfl)
 have q4:=ld30 (Dv ((S.newBox (Cb t)).newBox exZ) (S.newBox (Cb t)).next [.v (.int .i64 (kind:Int)),.v (.int .i64 (t.pos:Int)),.v (.int .i64 0),A2 [],.v (.bool false),kv]) rfl;simp only[Bk];simp only[go_sem,Dl,B3,Cc,Cx,C8,Bm,Cm,Ba,D8,reduceLT,reduceAdd,reduceEqDiff,Ae,Tryz.f248,Qo,Qp,Sl,fd1,q1,q2,q3,q4];refine⟨_,rfl,Dj ((Ce S _).trans (Ce _ _)) (Jc9 _) _⟩
theorem e28:Fs Tryz.prog 55=some (none,57):=by kernel_rfl
theorem z30:Kb Tryz.prog 57=some (.agg exZ):=by kernel_rfl
theorem aU(xs ys:List AV)(hx:xs.length=6)(hy:ys.length=6):Bd Tryz.prog 55 2 [(0,.agg xs),(1,.agg ys)]=some (.sl 1 0 6 [.agg xs,.agg ys]):=by
 simp[Bd,e28,s30,z30,Cr,Cs,hx,hy];rfl
theorem Uj(xs:List AV)(hx:xs.length=6):Bd Tryz.prog 55 1 [(0,.agg xs)]=some (.sl 1 0 6 [.agg xs]):=by
 simp[Bd,e28,s30,z30,Cr,Cs,hx]
theorem row28_3(xs ys zs:List AV)(hx:xs.length=6)(hy:ys.length=6)(hz:zs.length=6):Bd Tryz.prog 55 3 [(0,.agg xs),(1,.agg ys),(2,.agg zs)]=some (.sl 1 0 6 [.agg xs,.agg ys,.agg zs]):=by
 simp[Bd,e28,s30,z30,Cr,Cs,hx,hy,hz];rfl
theorem fa30(b:Nat):A3 Tryz.prog 57 (.ptr b 0) 2=some (.ptr b 2)∧A3 Tryz.prog 57 (.ptr b 0) 3=some (.ptr b 3)∧A3 Tryz.prog 57 (.ptr b 0) 4=some (.ptr b 4):=⟨by kernel_rfl,by kernel_rfl,by kernel_rfl⟩
theorem Ue{S:St}{id kind pos:Nat}{n:Int}{name:List UInt8}{off:Bool}{kv:AV}(h:S.mem.get id=some (.box (exC kind pos n name off kv)))(s:List UInt8):Bl Tryz.prog S 9 (.ptr id 3) (.v (.string ⟨⟨s⟩⟩))=some (S.put id (exC kind pos n s off kv)):=by
 have h2:(AV.v (.string ⟨⟨s⟩⟩)).noTup=true:=rfl;simp[Bl,h,s9,h2,AV.cells,St.put,exC,A2]
theorem st30_n{S:St}{id kind pos:Nat}{n:Int}{name:List UInt8}{off:Bool}{kv:AV}(h:S.mem.get id=some (.box (exC kind pos n name off kv)))(m:Int):Bl Tryz.prog S 2 (.ptr id 2) (.v (.int .i64 m))=some (S.put id (exC kind pos m name off kv)):=by
 have h2:(AV.v (.int .i64 m)).noTup=true:=rfl;have s2:Cl Tryz.prog 2=some 1:=by kernel_rfl
 simp[Bl,h,s2,h2,AV.cells,St.put,exC]
theorem vW(S:St)(t:Tk)(xs ys:List AV)(hx:xs.length=6)(hy:ys.length=6):WC E1 290 [C6 t,.agg xs,.agg ys] S (fun r=>∃S',r=.ret (.agg (exC 6 t.pos 0 t.text false (.sl 1 0 6 [.agg xs,.agg ys]))) S'∧Dm S S'):=by
 refine WCk Tryz.f290 ?_;obtain⟨fn1,hf1⟩:=fX 248;generalize hS1:S.newBox (Cb t)=S1;generalize hS2:S1.newBox xs=S2;generalize hS3:S2.newBox ys=S3;generalize hS4:S3.newBox exZ=S4;have n1:S1.next=S.next+1:=by rw[← hS1];rfl
 have n2:S2.next=S.next+2:=by rw[← hS2];show S1.next+1=_;omega
 have n3:S3.next=S.next+3:=by rw[← hS3];show S2.next+1=_;omega
 have n4:S4.next=S.next+4:=by rw[← hS4];show S3.next+1=_;omega
 have k1:Dm S S1:=by rw[← hS1];exact Ce _ _
 have k2:Dm S1 S2:=by rw[← hS2];exact Ce _ _
 have k3:Dm S2 S3:=by rw[← hS3];exact Ce _ _
 have k4:Dm S3 S4:=by rw[← hS4];exact Ce _ _
 have gt:S4.mem.get S.next=some (.box (Cb t)):=((k2.trans (k3.trans k4)).2 _ (by omega)).trans (by rw[← hS1];exact Co _ _)
 have gx:S4.mem.get S1.next=some (.box xs):=((k3.trans k4).2 _ (by omega)).trans (by rw[← hS2];exact Co _ _)
 have gy:S4.mem.get S2.next=some (.box ys):=(k4.2 _ (by omega)).trans (by rw[← hS3];exact Co _ _)
 have gz:S4.mem.get S3.next=some (.box exZ):=by rw[← hS4];exact Co _ _
 have l1:=Xc gt;have l2:=ld30 gx hx;have l3:=ld30 gy hy;have r1:=aU xs ys hx hy;simp only[go_sem,Bv,Cx,Ct,C9,Bo,C8,reduceLT,reduceAdd,reduceEqDiff,Ae,Aj,Ak,Tryz.f290,Qo,Qp,Cr,Cs,Sl,hS1,hS2,hS3,hS4,l1,l2,l3,r1,hf1];refine WC.mono (Qi S4 6 t (.sl 1 0 6 [.agg xs,.agg ys]) (.inr ⟨_,_,_,rfl⟩)) ?_;rintro _ ⟨S5,rfl,k5⟩;have gn:(S5.newBox exZ).mem.get S5.next=some (.box exZ):=Co _ _;have q1:=Vt gn rfl (show(exC 6 t.pos 0 [] false (.sl 1 0 6 [.agg xs,.agg ys])).length=6 from rfl)
 generalize hS6:(S5.newBox exZ).put S5.next (exC 6 t.pos 0 [] false (.sl 1 0 6 [.agg xs,.agg ys]))=S6 at q1;have k6:Dm S5 S6:=by rw[← hS6];exact Dj (Ce _ _) (Ja1 _) _
 have g6:S6.mem.get S5.next=some (.box (exC 6 t.pos 0 [] false (.sl 1 0 6 [.agg xs,.agg ys]))):=by rw[← hS6];exact Dv _ _ _
 have gt6:S6.mem.get S.next=some (.box (Cb t)):=((k5.trans k6).2 _ (by omega)).trans gt
 have gz6:S6.mem.get S3.next=some (.box exZ):=((k5.trans k6).2 _ (by omega)).trans gz
 have ft:=fa68 S.next;have lt:=oI gt6;have fe:=(fa30 S5.next).2.1;have q2:=Ue g6 t.text;have g7:(S6.put S5.next (exC 6 t.pos 0 t.text false (.sl 1 0 6 [.agg xs,.agg ys]))).mem.get S5.next=some (.box (exC 6 t.pos 0 t.text false (.sl 1 0 6 [.agg xs,.agg ys]))):=Dv _ _ _;have hne:S3.next≠S5.next:=by have:=k5.1;omega
 have gz7:(S6.put S5.next (exC 6 t.pos 0 t.text false (.sl 1 0 6 [.agg xs,.agg ys]))).mem.get S3.next=some (.box exZ):=(D9 hne).trans gz6;have l7:=ld30 g7 rfl;have q3:=Vt gz7 rfl (show(exC 6 t.pos 0 t.text false (.sl 1 0 6 [.agg xs,.agg ys])).length=6 from rfl)
 have l8:=ld30 (Dv (S6.put S5.next (exC 6 t.pos 0 t.text false (.sl 1 0 6 [.agg xs,.agg ys]))) S3.next (exC 6 t.pos 0 t.text false (.sl 1 0 6 [.agg xs,.agg ys]))) rfl;unfold A2 at lt;simp only[go_sem,Dl,B3,Cc,Cd,Bm,Cm,Ba,D8,reduceLT,reduceEqDiff,Sl,q1,ft,lt,fe,q2,l7,q3,l8];refine⟨_,rfl,?_⟩;have kk:Dm S S6:=k1.trans (k2.trans (k3.trans (k4.trans (k5.trans k6))));exact Dj (Dj kk (by have:=k5.1;omega) _) (by omega) _
def convX(P:Program)(G:Gl)(f:T AV)(S:St)(o:Oper):OR:=ground P G f S o
def vS(r:OR)(S:St)(x:Option AV):OR:=match x with
 |some (.v (.int .u64 n))=>.val (.v (.int .i64 (IntKind.i64.wrap n))) S
 |_=>r
theorem O5(n:Int):Mf Tryz.prog 119 2 (.v (.int .u64 n))=none:=by
 have h1:Tryz.prog.underlying 119=some (.int .u64):=rfl;simp only[Mf,h1]
theorem Z2(f:T AV)(S:St)(dst:Option Tmp)(k:Tmp)(ty:TypeId)(pos:String)(af:Array Edge)(gd:Option (Nat × Bool)):
  ground Tryz.prog gR f S { dst:=dst,op:=.convert 119 2 (.tmp k),type:=ty,pos:=pos,after:=af,guard:=gd }=vS (convX Tryz.prog gR f S { dst:=dst,op:=.convert 119 2 (.tmp k),type:=ty,pos:=pos,after:=af,guard:=gd }) S (f.get k):=by
 unfold vS
 split
 ·rename_i n h
  have hg:B8 gR f (.tmp k)=some (.int .u64 n):=by unfold B8;simp only[A6,h];rfl
  unfold ground;simp only[Op.operands,List.all_cons,List.all_nil,hg,Option.isSome_some,Bool.and_self,Aa]
  have e:execOp (fun x=>(B8 gR f x).getD undef) { dst:=dst,op:=.convert 119 2 (.tmp k),type:=ty,pos:=pos,after:=af,guard:=gd }=execOp (fun _=>.int .u64 n) { dst:=none,op:=.convert 119 2 (.tmp 0),type:=ty,pos := "", after:=#[],guard:=none }:=by
   simp only[execOp,hg,Ae]
  rw[e];have e3:Qv Tryz.prog 4000 (execOp (fun _=>Value.int .u64 n) { dst:=none,op:=.convert 119 2 (.tmp 0),type:=ty,pos := "", after:=#[],guard:=none })=some (.int .i64 (IntKind.i64.wrap n)):=by rfl
  rw[e3];rfl
 ·rfl
theorem U0(r:OR)(S:St)(n:Int):vS r S (some (.v (.int .u64 n)))=.val (.v (.int .i64 (IntKind.i64.wrap n))) S:=rfl
def negX(P:Program)(G:Gl)(f:T AV)(S:St)(o:Oper):OR:=ground P G f S o
def negO(r:OR)(S:St)(x:Option AV):OR:=match x with
 |some (.v (.int .i64 n))=>.val (.v (.int .i64 (IntKind.i64.wrap (0 - n)))) S
 |_=>r
theorem yS(f:T AV)(S:St)(dst:Option Tmp)(k:Tmp)(ty:TypeId)(pos:String)(af:Array Edge)(gd:Option (Nat × Bool)):
  ground Tryz.prog gR f S { dst:=dst,op:=.unOp .neg 2 (.tmp k),type:=ty,pos:=pos,after:=af,guard:=gd }=negO (negX Tryz.prog gR f S { dst:=dst,op:=.unOp .neg 2 (.tmp k),type:=ty,pos:=pos,after:=af,guard:=gd }) S (f.get k):=by
 unfold negO
 split
 ·rename_i n h
  have hg:B8 gR f (.tmp k)=some (.int .i64 n):=by unfold B8;simp only[A6,h];rfl
  unfold ground;simp only[Op.operands,List.all_cons,List.all_nil,hg,Option.isSome_some,Bool.and_self,Aa]
  have e:execOp (fun x=>(B8 gR f x).getD undef) { dst:=dst,op:=.unOp .neg 2 (.tmp k),type:=ty,pos:=pos,after:=af,guard:=gd }=execOp (fun _=>.int .i64 n) { dst:=none,op:=.unOp .neg 2 (.tmp 0),type:=ty,pos := "", after:=#[],guard:=none }:=by
   simp only[execOp,hg,Ae]
  rw[e];have e3:Qv Tryz.prog 4000 (execOp (fun _=>Value.int .i64 n) { dst:=none,op:=.unOp .neg 2 (.tmp 0),type:=ty,pos := "", after:=#[],guard:=none })=some (.int .i64 (IntKind.i64.wrap (0 - n))):=by rfl
  rw[e3];rfl
 ·rfl
theorem eH(r:OR)(S:St)(n:Int):negO r S (some (.v (.int .i64 n)))=.val (.v (.int .i64 (IntKind.i64.wrap (0 - n)))) S:=rfl
theorem Hl(a:ByteArray):Bd Tryz.prog 39 1 [(0,.v (.string a))]=some (.sl 1 0 1 [.v (.string a)]):=by kernel_rfl
theorem Ui(a b:ByteArray):Bd Tryz.prog 39 2 [(0,.v (.string a)),(1,.v (.string b))]=some (.sl 1 0 1 [.v (.string a),.v (.string b)]):=by kernel_rfl
theorem row69_3(a b c:ByteArray):Bd Tryz.prog 39 3 [(0,.v (.string a)),(1,.v (.string b)),(2,.v (.string c))]=some (.sl 1 0 1 [.v (.string a),.v (.string b),.v (.string c)]):=by kernel_rfl
theorem row69_4(a b c d:ByteArray):Bd Tryz.prog 39 4 [(0,.v (.string a)),(1,.v (.string b)),(2,.v (.string c)),(3,.v (.string d))]=some (.sl 1 0 1 [.v (.string a),.v (.string b),.v (.string c),.v (.string d)]):=by kernel_rfl
theorem row69_6(a b c d e f:ByteArray):Bd Tryz.prog 39 6 [(0,.v (.string a)),(1,.v (.string b)),(2,.v (.string c)),(3,.v (.string d)),(4,.v (.string e)),(5,.v (.string f))]=some (.sl 1 0 1 [.v (.string a),.v (.string b),.v (.string c),.v (.string d),.v (.string e),.v (.string f)]):=by kernel_rfl
end
section
attribute [local go_sem] List.append_nil List.getElem?_cons_succ List.getElem?_cons_zero List.nil_append T.get_leaf T.get_set B1 Ky Dr Bz Dz Db Ty Ct Ms Ff A6 Bg Bv B3 By Ls fd1 fd3 fp0 if_false if_true C9 Bo ofOpt ofOptS C8 Cc Bu Cd E8 true_and Bc
inductive PE where
 |mk (kind pos:Nat) (n:Int) (name:List UInt8) (off:Bool) (kids:List PE)
mutual
inductive RepE:AV→PE→Prop where
 |mk (kind pos:Nat) (n:Int) (name:List UInt8) (off:Bool) (kv:AV) (kids:List PE) (h:RepK kv kids):RepE (.agg (exC kind pos n name off kv)) (.mk kind pos n name off kids)
inductive RepK:AV→List PE→Prop where
 |nil:RepK .nils []
 |row (tok off:Nat) (es:List AV) (kids:List PE) (h:RepF es kids):RepK (.sl tok off 6 es) kids
inductive RepF:List AV→List PE→Prop where
 |nil:RepF [] []
 |cons (a:AV) (e:PE) (r:List AV) (l:List PE) (h:RepE a e) (h2:RepF r l):RepF (a :: r) (e :: l)
end
theorem RepE.agg{a:AV}{e:PE}(h:RepE a e):∃xs,a=.agg xs∧xs.length=6:=by
 cases h with
 |mk kind pos n name off kv kids h=>exact⟨_,rfl,rfl⟩
theorem RepK.kids{a:AV}{l:List PE}(h:RepK a l):iB a:=by
 cases h with
 |nil=>exact .inl rfl
 |row tok off es kids h=>exact .inr ⟨_,_,_,rfl⟩
inductive PR(α:Type) where
 |ok (a:α) (i:Nat)
 |bad (a e:Nat)
 |out
def PR.bind{α β:Type}(x:PR α)(f:α→Nat→PR β):PR β:=match x with
 |.ok a i=>f a i
 |.bad a e=>.bad a e
 |.out=>.out
def Ot{α:Type}(p k:Nat)(ts:List Tk)(S:St)(Rep:AV→α→Prop)(x:PR α)(r:R):Prop:=match x with
 |.ok a j=>∃v S',r=.ret v S'∧Rep v a∧C4 p S S'∧Cur S' p k ts j∧j<ts.length
 |.bad a e=>∃S',r=.pan (Xj a e) S'∧C4 p S S'
 |.out=>False
structure TokOk(ts:List Tk):Prop where
 more:∀j (h:j<ts.length),ts[j].kind≠5→j+1<ts.length
 fin:∀j (h:j<ts.length),ts[j].kind=5→ts[j].text=[]
 size:ts.length≤1000000
theorem TokOk.next{ts:List Tk}(h:TokOk ts){j:Nat}(hj:j<ts.length)(ht:ts[j].text≠[]):j+1<ts.length:=h.more j hj (fun e=>ht (h.fin j hj e))
def I7(ts:List Tk)(i:Nat):PR PE:=match ts[i]? with
 |none=>.out
 |some t=>if t.text=[45]then(match ts[i+1]? with
   |none=>.out
   |some u=>if u.kind=2 then .ok (.mk 1 t.pos (IntKind.i64.wrap (0 - IntKind.i64.wrap u.num)) [] false []) (i+2)else .bad u.pos (Hc u))
  else if t.kind=2 then(if 9223372036854775807<t.num then .bad t.pos 3 else .ok (.mk 1 t.pos (IntKind.i64.wrap t.num) [] false []) (i+1))else .bad t.pos (Hc t)
theorem Jj{p:Nat}(S:St)(cs:List AV):C4 p S (S.newBox cs):=(Ce S cs).x p
theorem Ig{p:Nat}{S S':St}(h:C4 p S S'){b:Nat}(hb:S.next≤b)(cs:List AV):C4 p S (S'.put b cs):=⟨h.1,fun id hid hn=>(D9 (by omega)).trans (h.2 id hid hn)⟩
theorem Cur.new{S:St}{p k i:Nat}{ts:List Tk}(h:Cur S p k ts i)(hp:p<S.next)(cs:List AV):Cur (S.newBox cs) p k ts i:=(Gr hp).trans h
theorem Cur.put{S:St}{p k i:Nat}{ts:List Tk}(h:Cur S p k ts i){b:Nat}(hb:p≠b)(cs:List AV):Cur (S.put b cs) p k ts i:=(D9 hb).trans h
theorem b30n(k a n:Int):Du Tryz.prog 57 [(0,.v (.int .i64 k)),(1,.v (.int .i64 a)),(2,.v (.int .i64 n))]=some (.agg [.v (.int .i64 k),.v (.int .i64 a),.v (.int .i64 n),A2 [],.v (.bool false),.nils]):=rfl
theorem ld66{S:St}{id:Nat}{t:Tk}(h:S.mem.get id=some (.box (Cb t))):A8 Tryz.prog S 119 (.ptr id 3)=some (.v (.int .u64 (t.num:Int))):=by
 have a66:B9 Tryz.prog 119=some false:=by kernel_rfl
 simp[A8,Ca,h,a66,Cb,Kf]
theorem Xy(S:St)(t:Tk):Bl Tryz.prog (S.newBox (Cb B5)) 249 (.ptr S.next 0) (C6 t)=some ((S.newBox (Cb B5)).put S.next (Cb t)):=Ns S (Cb B5) (Cb t) rfl rfl
theorem number_p(S:St)(p k:Nat)(ts:List Tk)(i:Nat)(h:Cur S p k ts i)(hp:p<S.next)(hi:i<ts.length)(hts:TokOk ts):WC E1 297 [.ptr p 0] S (Ot p k ts S RepE (I7 ts i)):=by
 refine WCk Tryz.f297 ?_;obtain⟨fn1,hf1⟩:=fX 173;obtain⟨fn2,hf2⟩:=fX 170;have hti:ts[i]? = some ts[i]:=Ja4 hi;have h1:=h.new hp exZ;have k1:C4 p S (S.newBox exZ):=Jj S exZ;have hp1:p<(S.newBox exZ).next:=Jb0 hp;have tail:∀(S2:St) (neg:Bool) (t:Tk) (j:Nat),C4 p (S.newBox exZ) S2→Cur S2 p k ts j→(hj:j<ts.length)→True:=fun _ _ _ _ _ _ _=>trivial
 unfold I7;rw[hti];simp only
 by_cases hm:ts[i].text=[45]
 ·have hi1:i+1<ts.length:=hts.next hi (by rw[hm];simp)
  have hti1:ts[i+1]? = some ts[i+1]:=Ja4 hi1;rw[if_pos hm,hti1];simp only;simp only[go_sem,Cx,reduceLT,reduceEqDiff,Ae,Tryz.f297,Sl,Hl,hf1];refine WC.mono (qZ (S.newBox exZ) p k ts i h1 hp1 hi hts.size 1 0 [[45]] (by decide) (by rw[hm];simp)) ?_
  rintro _ ⟨S2,rfl,hx,hc⟩;have n2:S.next<S2.next:=hx.1;have q1:=Xy S2 ts[i];generalize hS3:(S2.newBox (Cb B5)).put S2.next (Cb ts[i])=S3 at q1;have n3:S3.next=S2.next+1:=by rw[← hS3];rfl
  have x3:C4 p S2 S3:=by rw[← hS3];exact Ig (Jj _ _) (Ja1 _) _
  have g3:S3.mem.get S2.next=some (.box (Cb ts[i])):=by rw[← hS3];exact Dv _ _ _
  have c3:Cur S3 p k ts (i+1):=by rw[← hS3];exact(hc.new (by omega) _).put (by omega) _
  simp only[go_sem,reduceLT,reduceEqDiff,D3,q1,hf2]
  by_cases hk:ts[i+1].kind=2
  ·rw[if_pos hk]
   refine WC.mono (eU S3 p k ts (i+1) c3 (by omega) hi1 hts.size 2 hk) ?_
   rintro _ ⟨S4,rfl,hx4,hc4⟩;have q2:=Xy S4 ts[i+1];generalize hS5:(S4.newBox (Cb B5)).put S4.next (Cb ts[i+1])=S5 at q2;have n4:=hx4.1;have n5:S5.next=S4.next+1:=by rw[← hS5];rfl
   have x5:C4 p S4 S5:=by rw[← hS5];exact Ig (Jj _ _) (Ja1 _) _
   have g5:S5.mem.get S4.next=some (.box (Cb ts[i+1])):=by rw[← hS5];exact Dv _ _ _
   have c5:Cur S5 p k ts (i+1+1):=by rw[← hS5];exact(hc4.new (by omega) _).put (by omega) _
   have g3':S5.mem.get S2.next=some (.box (Cb ts[i])):=(x5.2 _ (by omega) (by omega)).trans ((hx4.2 _ (by omega) (by omega)).trans g3)
   have g2':S5.mem.get S.next=some (.box exZ):=(x5.2 _ (by omega) (by omega)).trans ((hx4.2 _ (by omega) (by omega)).trans ((x3.2 _ (by omega) (by omega)).trans ((hx.2 _ (Ja5 _) (by omega)).trans (Co S _))))
   have l1:=ld3b g3';have l2:=ld66 g5;have q3:=Vt g2' rfl (show([.v (.int .i64 1),.v (.int .i64 (ts[i].pos:Int)),.v (.int .i64 (IntKind.i64.wrap (0 - IntKind.i64.wrap (ts[i+1].num:Int)))),A2 [],.v (.bool false),.nils]:List AV).length=6 from rfl)
   have l3:=ld30 (Dv S5 S.next [.v (.int .i64 1),.v (.int .i64 (ts[i].pos:Int)),.v (.int .i64 (IntKind.i64.wrap (0 - IntKind.i64.wrap (ts[i+1].num:Int)))),A2 [],.v (.bool false),.nils]) rfl;simp only[go_sem,Dl,F8,Fi,Bm,Cm,Ba,D8,reduceLT,reduceEqDiff,q2,l1,l2,O5,Z2,U0,yS,eH,b30n,q3,l3];have hi2:i+2<ts.length:=hts.more (i+1) hi1 (by rw[hk];decide)
   refine⟨_,_,rfl,.mk 1 ts[i].pos _ [] false .nils [] .nil,?_,c5.put (by omega) _,hi2⟩
   exact Ig (k1.trans (hx.trans (x3.trans (hx4.trans x5)))) (Ja1 _) _
  ·rw[if_neg hk]
   refine WC.mono (oK S3 p k ts (i+1) c3 (by omega) hi1 2 hk) ?_
   rintro _ ⟨S4,rfl,hx4⟩;simp only[A9,Bf,A7];exact⟨_,rfl,k1.trans (hx.trans (x3.trans (hx4.x p)))⟩
 ·rw[if_neg hm]
  simp only[go_sem,Cx,reduceLT,reduceEqDiff,Ae,Tryz.f297,Sl,Hl,hf1];refine WC.mono (take_no (S.newBox exZ) p k ts i h1 hp1 hi 1 0 [[45]] (by decide) (by simpa using hm)) ?_
  rintro _ ⟨S2,rfl,hk0⟩;have hx:=hk0.x p;have hc:=h1.keep hp1 hk0;have n2:S.next<S2.next:=hx.1;have q1:=Xy S2 B5;generalize hS3:(S2.newBox (Cb B5)).put S2.next (Cb B5)=S3 at q1;have n3:S3.next=S2.next+1:=by rw[← hS3];rfl
  have x3:C4 p S2 S3:=by rw[← hS3];exact Ig (Jj _ _) (Ja1 _) _
  have c3:Cur S3 p k ts i:=by rw[← hS3];exact(hc.new (by omega) _).put (by omega) _
  simp only[go_sem,reduceLT,reduceEqDiff,D3,q1,hf2]
  by_cases hk:ts[i].kind=2
  ·rw[if_pos hk]
   refine WC.mono (eU S3 p k ts i c3 (by omega) hi hts.size 2 hk) ?_
   rintro _ ⟨S4,rfl,hx4,hc4⟩;have q2:=Xy S4 ts[i];generalize hS5:(S4.newBox (Cb B5)).put S4.next (Cb ts[i])=S5 at q2;have n4:=hx4.1;have n5:S5.next=S4.next+1:=by rw[← hS5];rfl
   have x5:C4 p S4 S5:=by rw[← hS5];exact Ig (Jj _ _) (Ja1 _) _
   have g5:S5.mem.get S4.next=some (.box (Cb ts[i])):=by rw[← hS5];exact Dv _ _ _
   have c5:Cur S5 p k ts (i+1):=by rw[← hS5];exact(hc4.new (by omega) _).put (by omega) _
   have g2':S5.mem.get S.next=some (.box exZ):=(x5.2 _ (by omega) (by omega)).trans ((hx4.2 _ (by omega) (by omega)).trans ((x3.2 _ (by omega) (by omega)).trans ((hx.2 _ (Ja5 _) (by omega)).trans (Co S _))))
   have l1:=ld3b g5;have l2:=ld66 g5
   by_cases hb:((ts[i].num:Nat):Int) > 9223372036854775807
   ·rw[if_pos (show 9223372036854775807<ts[i].num by omega)]
    have m:Qh Tryz.prog 29 (.agg [.v (.int .i64 (ts[i].pos:Int)),.v (.int .i64 3)])=some (.iface 29 (.agg [.v (.int .i64 (ts[i].pos:Int)),.v (.int .i64 3)])):=mkI33 ts[i].pos 3;simp only[go_sem,A9,J8,Fi,Ew,A7,reduceLT,reduceEqDiff,Am,Ap,q2,l1,l2,Lk,hb,mI,m];exact⟨_,rfl,k1.trans (hx.trans (x3.trans (hx4.trans x5)))⟩
   ·rw[if_neg (show ¬ 9223372036854775807<ts[i].num by omega)]
    have q3:=Vt g2' rfl (show([.v (.int .i64 1),.v (.int .i64 (ts[i].pos:Int)),.v (.int .i64 (IntKind.i64.wrap (ts[i].num:Int))),A2 [],.v (.bool false),.nils]:List AV).length=6 from rfl)
    have l3:=ld30 (Dv S5 S.next [.v (.int .i64 1),.v (.int .i64 (ts[i].pos:Int)),.v (.int .i64 (IntKind.i64.wrap (ts[i].num:Int))),A2 [],.v (.bool false),.nils]) rfl;simp only[go_sem,Dl,Ew,Bm,Cm,Ba,D8,reduceLT,reduceEqDiff,Am,Aq,q2,l1,l2,Lk,hb,O5,Z2,U0,b30n,q3,l3];have hi2:i+1<ts.length:=hts.more i hi (by rw[hk];decide)
    refine⟨_,_,rfl,.mk 1 ts[i].pos _ [] false .nils [] .nil,?_,c5.put (by omega) _,hi2⟩
    exact Ig (k1.trans (hx.trans (x3.trans (hx4.trans x5)))) (Ja1 _) _
  ·rw[if_neg hk]
   refine WC.mono (oK S3 p k ts i c3 (by omega) hi 2 hk) ?_
   rintro _ ⟨S4,rfl,hx4⟩;simp only[A9,Bf,A7];exact⟨_,rfl,k1.trans (hx.trans (x3.trans (hx4.x p)))⟩
end
section
attribute [local go_sem] Bool.false_eq_true List.append_nil List.getElem?_cons_succ List.getElem?_cons_zero List.getElem?_toArray List.nil_append Option.bind_some Option.getD_some T.get_leaf T.get_set B1 Ky Bz Dl Dz Cs Cr Ct Ff A6 Bg Bv B3 By D6 Bm fp0 Cm if_false if_true Cx C9 Em Bo ofOpt ofOptS Cc Bu Ba Cd E8 true_and D8 Bc
structure Has(p:Nat)(S:St)(id:Nat)(cs:List AV):Prop where
 get:S.mem.get id=some (.box cs)
 lt:id<S.next
 ne:id≠p
theorem Has.keep{p id:Nat}{S S':St}{cs:List AV}(h:Has p S id cs)(x:C4 p S S'):Has p S' id cs:=⟨(x.2 id h.lt h.ne).trans h.get,Ja0 h.lt x.1,h.ne⟩
def tk(ts:List Tk)(i:Nat):Tk:=(ts[i]?).getD B5
theorem Gy{ts:List Tk}{i:Nat}(hi:i<ts.length):tk ts i=ts[i]:=by unfold tk;rw[Ja4 hi];rfl
theorem Jg{S:St}{p k i:Nat}{ts:List Tk}(h:Cur S p k ts i)(hp:p<S.next):C4 p S (S.newBox exZ)∧Cur (S.newBox exZ) p k ts i∧Has p (S.newBox exZ) S.next exZ∧p<(S.newBox exZ).next :=
 ⟨Jj S exZ,h.new hp exZ,⟨Co S _,Ja5 _,by omega⟩,Jb0 hp⟩
theorem boxIn{S:St}{p k i:Nat}{ts:List Tk}(h:Cur S p k ts i)(hp:p<S.next)(t:Tk):C4 p S (S.newBox (Cb t))∧Cur (S.newBox (Cb t)) p k ts i∧Has p (S.newBox (Cb t)) S.next (Cb t)∧p<(S.newBox (Cb t)).next :=
 ⟨Jj S _,h.new hp _,⟨Co S _,Ja5 _,by omega⟩,Jb0 hp⟩
theorem Dq{S:St}{p k i:Nat}{ts:List Tk}(h:Cur S p k ts i)(hp:p<S.next)(t:Tk):∃S',Bl Tryz.prog (S.newBox (Cb B5)) 249 (.ptr S.next 0) (C6 t)=some S'∧C4 p S S'∧Cur S' p k ts i∧Has p S' S.next (Cb t)∧p<S'.next :=
 ⟨_,Xy S t,Ig (Jj S _) (Ja1 _) _,(h.new hp _).put (by omega) _,⟨Dv _ _ _,Ja5 _,by omega⟩,Jb0 hp⟩
theorem Sj{S:St}{p k i:Nat}{ts:List Tk}(h:Cur S p k ts i)(hp:p<S.next){xs:List AV}(hx:xs.length=6):∃S',Bl Tryz.prog (S.newBox exZ) 57 (.ptr S.next 0) (.agg xs)=some S'∧C4 p S S'∧Cur S' p k ts i∧Has p S' S.next xs∧p<S'.next :=
 ⟨_,Vt (Co S _) rfl hx,Ig (Jj S _) (Ja1 _) _,(h.new hp _).put (by omega) _,⟨Dv _ _ _,Ja5 _,by omega⟩,Jb0 hp⟩
theorem Fh{S0 S:St}{p k i b:Nat}{ts:List Tk}{cs:List AV}(h:Cur S p k ts i)(hb:Has p S b cs)(hl:cs.length=6)(hs:S0.next≤b)(x:C4 p S0 S){xs:List AV}(hx:xs.length=6):
  Bl Tryz.prog S 57 (.ptr b 0) (.agg xs)=some (S.put b xs)∧A8 Tryz.prog (S.put b xs) 57 (.ptr b 0)=some (.agg xs)∧C4 p S0 (S.put b xs)∧Cur (S.put b xs) p k ts i :=
 ⟨Vt hb.get hl hx,ld30 (Dv _ _ _) hx,Ig x hs _,h.put (fun e=>hb.ne e.symm) _⟩
theorem Has.ld30{p id:Nat}{S:St}{cs:List AV}(h:Has p S id cs)(hl:cs.length=6):A8 Tryz.prog S 57 (.ptr id 0)=some (.agg cs):=Go.Ax.ld30 h.get hl
theorem Has.ld68{p id:Nat}{S:St}{t:Tk}(h:Has p S id (Cb t)):A8 Tryz.prog S 249 (.ptr id 0)=some (C6 t):=Xc h.get
theorem Has.pos{p id:Nat}{S:St}{t:Tk}(h:Has p S id (Cb t)):A8 Tryz.prog S 3 (.ptr id 1)=some (.v (.int .i64 (t.pos:Int))):=ld3b h.get
theorem Has.text{p id:Nat}{S:St}{t:Tk}(h:Has p S id (Cb t)):A8 Tryz.prog S 9 (.ptr id 2)=some (.v (.string ⟨⟨t.text⟩⟩)):=oI h.get
theorem fa2(b:Nat):A3 Tryz.prog 249 (.ptr b 0) 2=some (.ptr b 2):=fa68 b
theorem fe2(b:Nat):A3 Tryz.prog 57 (.ptr b 0) 2=some (.ptr b 2):=(fa30 b).1
theorem fe3(b:Nat):A3 Tryz.prog 57 (.ptr b 0) 3=some (.ptr b 3):=(fa30 b).2.1
theorem fe4(b:Nat):A3 Tryz.prog 57 (.ptr b 0) 4=some (.ptr b 4):=(fa30 b).2.2
theorem fe0(b:Nat):A3 Tryz.prog 57 (.ptr b 0) 0=some (.ptr b 0):=by kernel_rfl
theorem fe5(b:Nat):A3 Tryz.prog 57 (.ptr b 0) 5=some (.ptr b 5):=by kernel_rfl
theorem Bs{α β:Type}(a:α)(i:Nat)(f:α→Nat→PR β):PR.bind (.ok a i) f=f a i:=rfl
theorem Ep{α β:Type}{x:PR α}{f:α→Nat→PR β}(h:PR.bind x f≠.out):x≠.out:=fun e=>h (by rw[e];rfl)
def isTok(v:AV)(t:Tk):Prop:=v=C6 t
def B2(ts:List Tk)(ws:List (List UInt8))(i:Nat):PR Tk:=if(tk ts i).text∈ws then .ok (tk ts i) (i+1)else .bad (tk ts i).pos (Hc (tk ts i))
def Eu(ts:List Tk)(kind:Nat)(i:Nat):PR Tk:=if(tk ts i).kind=kind then .ok (tk ts i) (i+1)else .bad (tk ts i).pos (Hc (tk ts i))
theorem Fa(ts:List Tk)(ws:List (List UInt8))(i:Nat):B2 ts ws i≠.out:=by unfold B2;split <;> exact fun e=>by cases e
theorem K4(ts:List Tk)(kind i:Nat):Eu ts kind i≠.out:=by unfold Eu;split <;> exact fun e=>by cases e
section
variable {S:St} {p k i:Nat} {ts:List Tk} (h:Cur S p k ts i) (hp:p < S.next) (hi:i < ts.length) (hts:TokOk ts)
include h hp hi hts
theorem J1(tok off:Nat)(ws:List (List UInt8))(hw:ws.length≤1000)(he:[] ∉ ws)(hm:(tk ts i).text∈ws):WC E1 173 [.ptr p 0,wsA tok off ws] S (fun r=>∃S',r=.ret (.tup [C6 (tk ts i),.v (.bool true)]) S'∧C4 p S S'∧Cur S' p k ts (i+1)∧i+1<ts.length∧p<S'.next):=by
 rw[Gy hi]at hm ⊢;refine WC.mono (qZ S p k ts i h hp hi hts.size tok off ws hw hm) ?_;rintro _ ⟨S2,rfl,hx,hc⟩;exact⟨_,rfl,hx,hc,hts.next hi (fun e=>he (e ▸ hm)),Ja0 hp hx.1⟩
theorem K7(tok off:Nat)(ws:List (List UInt8))(hw:ws.length≤1000)(hm:(tk ts i).text ∉ ws):WC E1 173 [.ptr p 0,wsA tok off ws] S (fun r=>∃S',r=.ret (.tup [C6 B5,.v (.bool false)]) S'∧C4 p S S'∧Cur S' p k ts i∧i<ts.length∧p<S'.next):=by
 have _:=hts;rw[Gy hi]at hm;refine WC.mono (take_no S p k ts i h hp hi tok off ws hw hm) ?_;rintro _ ⟨S2,rfl,hx⟩;exact⟨_,rfl,hx.x p,h.keep hp hx,hi,Ja0 hp hx.1⟩
theorem Hq(tok off:Nat)(ws:List (List UInt8))(hw:ws.length≤1000)(he:[] ∉ ws):WC E1 169 [.ptr p 0,wsA tok off ws] S (Ot p k ts S isTok (B2 ts ws i)):=by
 unfold B2;rw[Gy hi]
 by_cases hm:ts[i].text∈ws
 ·rw[if_pos hm]
  refine WC.mono (need_yes S p k ts i h hp hi hts.size tok off ws hw hm) ?_;rintro _ ⟨S2,rfl,hx,hc⟩;exact⟨_,_,rfl,rfl,hx,hc,hts.next hi (fun e=>he (e ▸ hm))⟩
 ·rw[if_neg hm]
  refine WC.mono (need_no S p k ts i h hp hi tok off ws hw hm) ?_;rintro _ ⟨S2,rfl,hx⟩;exact⟨_,rfl,hx.x p⟩
theorem R3(kind:Nat)(hk5:kind≠5):WC E1 170 [.ptr p 0,Bk kind] S (Ot p k ts S isTok (Eu ts kind i)):=by
 unfold Eu;rw[Gy hi]
 by_cases hm:ts[i].kind=kind
 ·rw[if_pos hm]
  refine WC.mono (eU S p k ts i h hp hi hts.size kind hm) ?_;rintro _ ⟨S2,rfl,hx,hc⟩;exact⟨_,_,rfl,rfl,hx,hc,hts.more i hi (by omega)⟩
 ·rw[if_neg hm]
  refine WC.mono (oK S p k ts i h hp hi kind hm) ?_;rintro _ ⟨S2,rfl,hx⟩;exact⟨_,rfl,hx.x p⟩
end
theorem Tw(t:Tk):D1 (C6 t) (C6 t)=true:=by
 simp[C6,Cb,D1,Gm,Bk,A2,Kf,eqS,Jx]
mutual
theorem RepE.refl:∀{a:AV} {e:PE},RepE a e→D1 a a=true:=fun {a e} h=>by
 cases h with
 |mk kind pos n name off kv kids h =>
  have:=RepK.refl h;simp[exC,D1,Gm,Bk,A2,eqS,Jx,this]
theorem RepK.refl:∀{a:AV} {l:List PE},RepK a l→D1 a a=true:=fun {a l} h=>by
 cases h with
 |nil=>rfl
 |row tok off es kids h =>
  have:=RepF.refl h;simp[D1,this]
theorem RepF.refl:∀{a:List AV} {l:List PE},RepF a l→Gm a a=true:=fun {a l} h=>by
 cases h with
 |nil=>rfl
 |cons a e r l h h2 =>
  have h3:=RepE.refl h;have h4:=RepF.refl h2;simp[Gm,h3,h4]
end
theorem gP{xs:List AV}{e:PE}(h:RepE (.agg xs) e):Gm xs xs=true:=by
 have:=h.refl
 simpa[D1]using this
theorem beqA_ptr(p o:Nat):D1 (.ptr p o) (.ptr p o)=true:=by simp[D1]
def G4(t:Tk):PE:=.mk 2 t.pos (if t.text=[116,114,117,101]then 1 else 0) [] false []
theorem G7(a b:List UInt8):Cv .eql (.v (.string ⟨⟨a⟩⟩)) (.v (.string ⟨List.toArray b⟩))=some (.v (.bool (decide (a=b)))):=by
 have e:Ll a b=decide (a=b):=by
  rw[Ko]
  by_cases h:a=b
  ·subst h;simp
  ·rw[decide_eq_false h];simpa using h
 rw[← e];rfl
theorem fb_strN(a b:List UInt8):Cv .neq (.v (.string ⟨⟨a⟩⟩)) (.v (.string ⟨List.toArray b⟩))=some (.v (.bool (!decide (a=b)))):=by
 have e:Ll a b=decide (a=b):=by
  rw[Ko]
  by_cases h:a=b
  ·subst h;simp
  ·rw[decide_eq_false h];simpa using h
 rw[← e];rfl
section
variable {S3 S4:St} {p k i b kind pos:Nat} {n:Int} {name:List UInt8} {off:Bool} {kv:AV} {ts:List Tk} (x:C4 p S3 S4) (hb:S3.next ≤ b) (h:Has p S4 b (exC kind pos n name off kv)) (c:Cur S4 p k ts i) (hp:p < S4.next)
include x hb h c hp
theorem setCs(cs:List AV):C4 p S3 (S4.put b cs)∧Cur (S4.put b cs) p k ts i∧Has p (S4.put b cs) b cs∧p<(S4.put b cs).next :=
 ⟨Ig x hb _,c.put (fun e=>h.ne e.symm) _,⟨Dv _ _ _,h.lt,h.ne⟩,hp⟩
theorem setN(m:Int):∃S5,Bl Tryz.prog S4 2 (.ptr b 2) (.v (.int .i64 m))=some S5∧C4 p S3 S5∧Cur S5 p k ts i∧Has p S5 b (exC kind pos m name off kv)∧p<S5.next :=
 ⟨_,st30_n h.get m,setCs x hb h c hp _⟩
end
theorem nA(S:St)(p k:Nat)(ts:List Tk)(i:Nat)(h:Cur S p k ts i)(hp:p<S.next)(t:Tk):WC E1 301 [C6 t] S (fun r=>∃S',r=.ret (.agg (exC 2 t.pos (if t.text=[116,114,117,101]then 1 else 0) [] false .nils)) S'∧C4 p S S'∧Cur S' p k ts i∧p<S'.next):=by
 refine WCk Tryz.f301 ?_;obtain⟨fn1,hf1⟩:=fX 248;obtain⟨x1,c1,b1,hp1⟩:=boxIn h hp t;obtain⟨x2,c2,b2,hp2⟩:=Jg c1 hp1;have b12:=b1.keep x2;have l1:=b12.ld68;simp only[go_sem,reduceLT,reduceEqDiff,Tryz.f301,Qo,Qp,Sl,l1,hf1];refine WC.mono (Qi _ 2 t .nils (.inl rfl)) ?_;rintro _ ⟨S3,rfl,k3⟩;have x3:=k3.x p;have c3:=c2.keep hp2 k3;have hp3:p<S3.next:=Ja0 hp2 x3.1;obtain⟨S4,q4,x4,c4,b4,hp4⟩:=Sj c3 hp3 (xs:=exC 2 t.pos 0 [] false .nils) rfl;have b14:=(b12.keep x3).keep x4;have b24:=(b2.keep x3).keep x4;have l2:=b14.text;have xt:=(x1.trans x2).trans x3;have hs:S.next≤(S.newBox (Cb t)).next:=x1.1;simp only[go_sem,Db,Dr,reduceLT,reduceEqDiff,Sl,q4,fa2,l2,Gb,G7]
 by_cases hq:t.text=[116,114,117,101]
 ·rw[if_pos hq]
  obtain⟨S5,q5,x5,c5,b5,hp5⟩:=setN x4 (Ja1 _) b4 c4 hp4 1;have l5:=b5.ld30 rfl;obtain⟨g1,g2,gx,gc⟩:=Fh c5 ((b2.keep x3).keep x5) rfl hs (xt.trans x5) (xs:=exC 2 t.pos 1 [] false .nils) rfl;simp only[go_sem,Fi,reduceLT,reduceEqDiff,Ap,hq,fe2,q5,l5,g1,g2];exact⟨_,rfl,gx,gc,by have:=gx.1;omega⟩
 ·rw[if_neg hq]
  have l5:=b4.ld30 rfl;obtain⟨g1,g2,gx,gc⟩:=Fh c4 b24 rfl hs (xt.trans x4) (xs:=exC 2 t.pos 0 [] false .nils) rfl;simp only[go_sem,Ew,reduceLT,reduceEqDiff,Aq,hq,l5,g1,g2];exact⟨_,rfl,gx,gc,by have:=gx.1;omega⟩
theorem Ye(t:Tk):RepE (.agg (exC 2 t.pos (if t.text=[116,114,117,101]then 1 else 0) [] false .nils)) (G4 t):=.mk 2 t.pos _ [] false .nils [] .nil
def H5:PE→Bool
 |.mk kind _ _ _ _ _=>decide (kind=1∨kind=2)
theorem ld3e{S:St}{id kind pos:Nat}{n:Int}{name:List UInt8}{off:Bool}{kv:AV}(h:S.mem.get id=some (.box (exC kind pos n name off kv))):A8 Tryz.prog S 3 (.ptr id 0)=some (.v (.int .i64 (kind:Int))):=by
 simp[A8,Ca,h,a3,exC,Bk]
theorem const_w(S:St)(xs:List AV)(e:PE)(hr:RepE (.agg xs) e):WC E1 268 [.agg xs] S (fun r=>∃S',r=.ret (.v (.bool (H5 e))) S'∧Dm S S'):=by
 cases hr with
 |mk kind pos n name off kv kids hk =>
 refine WCk Tryz.f268 ?_;have l1:=ld3e (Co S (exC kind pos n name off kv))
 by_cases h1:kind=1
 ·have e1:((kind:Int) == 1)=true:=by rw[h1];rfl
  simp only[go_sem,J4,Ms,reduceLT,reduceEqDiff,Aw,Tryz.f268,fe0,l1,e1];refine⟨S.newBox (exC kind pos n name off kv),?_,Ce S _⟩;simp[H5,h1]
 ·have e1:((kind:Int) == 1)=false:=by rw[beq_eq_false_iff_ne];omega
  by_cases h2:kind=2
  ·have e2:((kind:Int) == 2)=true:=by rw[h2];rfl
   simp only[go_sem,reduceLT,reduceEqDiff,Al,Tryz.f268,fe0,l1,e1,e2];refine⟨S.newBox (exC kind pos n name off kv),?_,Ce S _⟩;simp[H5,h2]
  ·have e2:((kind:Int) == 2)=false:=by rw[beq_eq_false_iff_ne];omega
   simp only[go_sem,reduceLT,reduceEqDiff,Al,Tryz.f268,fe0,l1,e1,e2];refine⟨S.newBox (exC kind pos n name off kv),?_,Ce S _⟩;simp[H5,h1,h2]
def Gg(ts:List Tk)(i:Nat):PR (List UInt8 × Bool):=if(tk ts i).text∈[[110,111,116]]then(Eu ts 1 (i+1)).bind fun t j=>.ok (t.text,true) j else(Eu ts 1 i).bind fun t j=>.ok (t.text,false) j
def isClock(v:AV)(c:List UInt8 × Bool):Prop:=v=.tup [A2 c.1,.v (.bool c.2)]
theorem clock_p(S:St)(p k:Nat)(ts:List Tk)(i:Nat)(h:Cur S p k ts i)(hp:p<S.next)(hi:i<ts.length)(hts:TokOk ts):WC E1 242 [.ptr p 0] S (Ot p k ts S isClock (Gg ts i)):=by
 refine WCk Tryz.f242 ?_;obtain⟨fn1,hf1⟩:=fX 173;obtain⟨fn2,hf2⟩:=fX 170;unfold Gg
 by_cases hm:(tk ts i).text∈[[110,111,116]]
 ·
  rw[if_pos hm];simp only[go_sem,C8,reduceLT,reduceEqDiff,Tryz.f242,Hl,hf1];refine WC.mono (J1 h hp hi hts 1 0 [[110,111,116]] (by decide) (by decide) hm) ?_
  rintro _ ⟨S2,rfl,x2,c2,hi2,hp2⟩;obtain⟨S3,q3,x3,c3,b3,hp3⟩:=Dq c2 hp2 (tk ts i);simp only[go_sem,reduceLT,reduceEqDiff,D3,Ty,q3,hf2];refine WC.mono (R3 c3 hp3 hi2 hts 1 (by decide)) ?_
  cases hX:Eu ts 1 (i+1)with
  |out=>exact absurd hX (K4 _ _ _)
  |bad a e =>
   rintro _ ⟨S4,rfl,x4⟩;simp only[A9,Bf,A7];exact⟨_,rfl,x2.trans (x3.trans x4)⟩
  |ok t j =>
   rintro _ ⟨_,S4,rfl,rfl,x4,c4,hj⟩;simp only[go_sem,reduceLT,reduceEqDiff,Xk];exact⟨_,_,rfl,rfl,x2.trans (x3.trans x4),c4,hj⟩
 ·
  rw[if_neg hm];simp only[go_sem,C8,reduceLT,reduceEqDiff,Tryz.f242,Hl,hf1];refine WC.mono (K7 h hp hi hts 1 0 [[110,111,116]] (by decide) hm) ?_
  rintro _ ⟨S2,rfl,x2,c2,hi2,hp2⟩;obtain⟨S3,q3,x3,c3,b3,hp3⟩:=Dq c2 hp2 B5;simp only[go_sem,reduceLT,reduceEqDiff,D3,Ty,q3,hf2];refine WC.mono (R3 c3 hp3 hi2 hts 1 (by decide)) ?_
  cases hX:Eu ts 1 i with
  |out=>exact absurd hX (K4 _ _ _)
  |bad a e =>
   rintro _ ⟨S4,rfl,x4⟩;simp only[A9,Bf,A7];exact⟨_,rfl,x2.trans (x3.trans x4)⟩
  |ok t j =>
   rintro _ ⟨_,S4,rfl,rfl,x4,c4,hj⟩;simp only[go_sem,reduceLT,reduceEqDiff,Xk];exact⟨_,_,rfl,rfl,x2.trans (x3.trans x4),c4,hj⟩
end
end Go.Ax
