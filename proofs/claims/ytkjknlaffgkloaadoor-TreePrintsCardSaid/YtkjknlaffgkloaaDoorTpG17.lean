/- TuB -/
import Derived.Test.YtkjknlaffgkloaaDoorTpG16
import Derived.Test.YtkjknlaffgkloaaDoorTpG13
set_option linter.unusedVariables false
set_option linter.unusedSimpArgs false
set_option maxHeartbeats 16000000
noncomputable section
namespace Go.Ax
open Go.RowKit Go.Proofs
set_option maxRecDepth 100000
theorem yuFr:Tryd.prog.underlying 25=some (.slice 65):=by kernel_rfl
theorem yeFr:elemT Tryd.prog 25=some (none,65):=by kernel_rfl
theorem yzeFr:sizeT Tryd.prog 65=some 8:=by kernel_rfl
theorem yiFr:(Tryd.prog.info? 65).map (fun i=>(i.zero.map fun z=>z.cells.size,i.size,decide (i.bytes≤1000)))=some (some 8,8,true):=by kernel_rfl
theorem ytFr:∃bytes,RowT Tryd.prog 25 65 8 bytes:=rowT_of yeFr yuFr yiFr (by decide)
theorem ynFr(S:St)(tok off:Nat)(es:List AV):oLen Tryd.prog S 25 (.sl tok off 8 es)=some es.length:=by simp[oLen,yuFr]
theorem ynnFr(S:St):oLen Tryd.prog S 25 .nils=some 0:=by simp[oLen,yuFr]
theorem yxFr(tok off:Nat)(es:List AV)(i:Nat)(h:i<es.length):oIndexAddr Tryd.prog 25 (.sl tok off 8 es) (.v (.int .i64 (i:Int)))=some (.ep es[i].cells):=by
 have h0:(0:Int)≤(i:Int):=by omega
 simp[oIndexAddr,h0,yeFr,yzeFr,h]
theorem yuGr:Tryd.prog.underlying 60=some (.slice 68):=by kernel_rfl
theorem yeGr:elemT Tryd.prog 60=some (none,68):=by kernel_rfl
theorem yzeGr:sizeT Tryd.prog 68=some 2:=by kernel_rfl
theorem yiGr:(Tryd.prog.info? 68).map (fun i=>(i.zero.map fun z=>z.cells.size,i.size,decide (i.bytes≤1000)))=some (some 2,2,true):=by kernel_rfl
theorem ytGr:∃bytes,RowT Tryd.prog 60 68 2 bytes:=rowT_of yeGr yuGr yiGr (by decide)
theorem ynGr(S:St)(tok off:Nat)(es:List AV):oLen Tryd.prog S 60 (.sl tok off 2 es)=some es.length:=by simp[oLen,yuGr]
theorem ynnGr(S:St):oLen Tryd.prog S 60 .nils=some 0:=by simp[oLen,yuGr]
theorem yxGr(tok off:Nat)(es:List AV)(i:Nat)(h:i<es.length):oIndexAddr Tryd.prog 60 (.sl tok off 2 es) (.v (.int .i64 (i:Int)))=some (.ep es[i].cells):=by
 have h0:(0:Int)≤(i:Int):=by omega
 simp[oIndexAddr,h0,yeGr,yzeGr,h]
theorem yuNr:Tryd.prog.underlying 22=some (.slice 27):=by kernel_rfl
theorem yeNr:elemT Tryd.prog 22=some (none,27):=by kernel_rfl
theorem yzeNr:sizeT Tryd.prog 27=some 6:=by kernel_rfl
theorem yiNr:(Tryd.prog.info? 27).map (fun i=>(i.zero.map fun z=>z.cells.size,i.size,decide (i.bytes≤1000)))=some (some 6,6,true):=by kernel_rfl
theorem ytNr:∃bytes,RowT Tryd.prog 22 27 6 bytes:=rowT_of yeNr yuNr yiNr (by decide)
theorem yrNr_0:oBuildSlice Tryd.prog 22 0 []=some (.sl 1 0 6 []):=by kernel_rfl
theorem ynNr(S:St)(tok off:Nat)(es:List AV):oLen Tryd.prog S 22 (.sl tok off 6 es)=some es.length:=by simp[oLen,yuNr]
theorem ynnNr(S:St):oLen Tryd.prog S 22 .nils=some 0:=by simp[oLen,yuNr]
theorem yxNr(tok off:Nat)(es:List AV)(i:Nat)(h:i<es.length):oIndexAddr Tryd.prog 22 (.sl tok off 6 es) (.v (.int .i64 (i:Int)))=some (.ep es[i].cells):=by
 have h0:(0:Int)≤(i:Int):=by omega
 simp[oIndexAddr,h0,yeNr,yzeNr,h]
theorem ygAr:isAggT Tryd.prog 65=some true:=by kernel_rfl
theorem yzAr:sizeT Tryd.prog 65=some 8:=by kernel_rfl
theorem ylAr(S:St)(p k:Nat):oLoad Tryd.prog S 65 (.ptr p k)=clN (S.mem.get p) k 8:=vldG ygAr yzAr S p k
theorem yleAr(S:St)(cs:List AV):oLoad Tryd.prog S 65 (.ep cs)=if 8≤cs.length then some (.agg (cs.take 8))else none:=vldGE ygAr yzAr S cs
theorem ysAr(S:St)(p k:Nat)(v:AV):oStore Tryd.prog S 65 (.ptr p k) v=vstB S (S.mem.get p) p k v 8:=vstG yzAr S p k v
theorem yaAr(S:St):oAlloc Tryd.prog S 65=some (.ptr S.next 0,S.newBox [.nils,.v (.bool false),.v (.int .i64 0),.v (.int .i64 0),.v (.int .i64 0),.v (.string ⟨⟨[]⟩⟩),.v (.bool false),.nils]):=by kernel_rfl
theorem yfAr_0(p k:Nat):oFieldAddr Tryd.prog 65 (.ptr p k) 0=some (.ptr p (k+0)):=by kernel_rfl
theorem yfAr_1(p k:Nat):oFieldAddr Tryd.prog 65 (.ptr p k) 1=some (.ptr p (k+1)):=by kernel_rfl
theorem yfAr_2(p k:Nat):oFieldAddr Tryd.prog 65 (.ptr p k) 2=some (.ptr p (k+2)):=by kernel_rfl
theorem ygLr:isAggT Tryd.prog 68=some true:=by kernel_rfl
theorem yzLr:sizeT Tryd.prog 68=some 2:=by kernel_rfl
theorem ylLr(S:St)(p k:Nat):oLoad Tryd.prog S 68 (.ptr p k)=clN (S.mem.get p) k 2:=vldG ygLr yzLr S p k
theorem yleLr(S:St)(cs:List AV):oLoad Tryd.prog S 68 (.ep cs)=if 2≤cs.length then some (.agg (cs.take 2))else none:=vldGE ygLr yzLr S cs
theorem ysLr(S:St)(p k:Nat)(v:AV):oStore Tryd.prog S 68 (.ptr p k) v=vstB S (S.mem.get p) p k v 2:=vstG yzLr S p k v
theorem yaLr(S:St):oAlloc Tryd.prog S 68=some (.ptr S.next 0,S.newBox [.v (.string ⟨⟨[]⟩⟩),.v (.int .i64 0)]):=by kernel_rfl
theorem yfLr_0(p k:Nat):oFieldAddr Tryd.prog 68 (.ptr p k) 0=some (.ptr p (k+0)):=by kernel_rfl
theorem ygMr:isAggT Tryd.prog 27=some true:=by kernel_rfl
theorem yzMr:sizeT Tryd.prog 27=some 6:=by kernel_rfl
theorem ylMr(S:St)(p k:Nat):oLoad Tryd.prog S 27 (.ptr p k)=clN (S.mem.get p) k 6:=vldG ygMr yzMr S p k
theorem yleMr(S:St)(cs:List AV):oLoad Tryd.prog S 27 (.ep cs)=if 6≤cs.length then some (.agg (cs.take 6))else none:=vldGE ygMr yzMr S cs
theorem ysMr(S:St)(p k:Nat)(v:AV):oStore Tryd.prog S 27 (.ptr p k) v=vstB S (S.mem.get p) p k v 6:=vstG yzMr S p k v
theorem yaMr(S:St):oAlloc Tryd.prog S 27=some (.ptr S.next 0,S.newBox [.v (.string ⟨⟨[]⟩⟩),.v (.int .i64 0),.nils,.nils,.nils,.nils]):=by kernel_rfl
theorem yfMr_0(p k:Nat):oFieldAddr Tryd.prog 27 (.ptr p k) 0=some (.ptr p (k+0)):=by kernel_rfl
theorem yfMr_1(p k:Nat):oFieldAddr Tryd.prog 27 (.ptr p k) 1=some (.ptr p (k+1)):=by kernel_rfl
theorem yfMr_2(p k:Nat):oFieldAddr Tryd.prog 27 (.ptr p k) 2=some (.ptr p (k+2)):=by kernel_rfl
theorem yfMr_3(p k:Nat):oFieldAddr Tryd.prog 27 (.ptr p k) 3=some (.ptr p (k+3)):=by kernel_rfl
theorem yfMr_4(p k:Nat):oFieldAddr Tryd.prog 27 (.ptr p k) 4=some (.ptr p (k+4)):=by kernel_rfl
theorem yfMr_5(p k:Nat):oFieldAddr Tryd.prog 27 (.ptr p k) 5=some (.ptr p (k+5)):=by kernel_rfl
theorem yg24:isAggT Tryd.prog 24=some false:=by kernel_rfl
theorem yl24(S:St)(p k:Nat):oLoad Tryd.prog S 24 (.ptr p k)=cl1 (S.mem.get p) k:=vldS yg24 S p k
theorem yg25:isAggT Tryd.prog 25=some false:=by kernel_rfl
theorem yl25(S:St)(p k:Nat):oLoad Tryd.prog S 25 (.ptr p k)=cl1 (S.mem.get p) k:=vldS yg25 S p k
theorem yg60:isAggT Tryd.prog 60=some false:=by kernel_rfl
theorem yl60(S:St)(p k:Nat):oLoad Tryd.prog S 60 (.ptr p k)=cl1 (S.mem.get p) k:=vldS yg60 S p k
theorem yzs25:sizeT Tryd.prog 25=some 1:=by kernel_rfl
theorem ys25(S:St)(p k:Nat)(v:AV):oStore Tryd.prog S 25 (.ptr p k) v=vstB S (S.mem.get p) p k v 1:=vstG yzs25 S p k v
theorem yzs60:sizeT Tryd.prog 60=some 1:=by kernel_rfl
theorem ys60(S:St)(p k:Nat)(v:AV):oStore Tryd.prog S 60 (.ptr p k) v=vstB S (S.mem.get p) p k v 1:=vstG yzs60 S p k v
theorem rawQ_row{v:AV}(h:RawR 8 RawQ v):∃L,(∀S,oLen Tryd.prog S 25 v=some L)∧∀j,j<L→∃e,RawQ e∧oIndexAddr Tryd.prog 25 v (.v (.int .i64 (j:Int)))=some (.ep e.cells):=by
 rcases h with rfl | ⟨es,rfl,h⟩ | ⟨a,rfl⟩
 ·exact⟨0,fun S=>ynnFr S,fun j hj=>absurd hj (Nat.not_lt_zero _)⟩
 ·exact⟨es.length,fun S=>ynFr S 0 0 es,fun j hj=>⟨es[j],h _ (List.getElem_mem hj),yxFr 0 0 es j hj⟩⟩
 ·exact⟨0,fun S=>by simp[oLen,yuFr],fun j hj=>absurd hj (Nat.not_lt_zero _)⟩
theorem rawL_row{v:AV}(h:RawR 2 RawL v):∃L,(∀S,oLen Tryd.prog S 60 v=some L)∧∀j,j<L→∃e,RawL e∧oIndexAddr Tryd.prog 60 v (.v (.int .i64 (j:Int)))=some (.ep e.cells):=by
 rcases h with rfl | ⟨es,rfl,h⟩ | ⟨a,rfl⟩
 ·exact⟨0,fun S=>ynnGr S,fun j hj=>absurd hj (Nat.not_lt_zero _)⟩
 ·exact⟨es.length,fun S=>ynGr S 0 0 es,fun j hj=>⟨es[j],h _ (List.getElem_mem hj),yxGr 0 0 es j hj⟩⟩
 ·exact⟨0,fun S=>by simp[oLen,yuGr],fun j hj=>absurd hj (Nat.not_lt_zero _)⟩
theorem rawL_free{v:AV}(h:RawL v):freeV v=true∧clean v=v:=by
 obtain⟨s,a,rfl⟩:=h
 exact⟨rfl,rfl⟩
theorem rawQ_free{v:AV}(h:RawQ v):freeV v=true∧clean v=v:=by
 obtain⟨lv,bb,x,rfl,h1,h2⟩:=h
 obtain⟨f1,f2⟩:=rawR_free (fun _=>rawL_free) h1
 obtain⟨g1,g2⟩:=raw_free h2
 have g1:freeL x=true:=g1
 have g2:AV.agg (cleanL x)=.agg x:=g2
 injection g2 with g2
 exact⟨by show(freeV lv && (true && freeL x))=true;rw[f1,g1];rfl,by show AV.agg (clean lv :: _ :: cleanL x)=_;rw[f2,g2];rfl⟩
theorem rawN_free{v:AV}(h:RawN v):freeV v=true∧clean v=v:=by
 obtain⟨s,a,v1,v2,v3,qv,rfl,h1,h2,h3,h4⟩:=h
 obtain⟨f1,g1⟩:=rawR_free (fun _=>rawD_free) h1
 obtain⟨f2,g2⟩:=rawR_free (fun _=>rawD_free) h2
 obtain⟨f3,g3⟩:=rawR_free (fun _=>rawD_free) h3
 obtain⟨f4,g4⟩:=rawR_free (fun _=>rawQ_free) h4
 exact⟨by show(true && (true && (freeV v1 && (freeV v2 && (freeV v3 && (freeV qv && true))))))=true;rw[f1,f2,f3,f4];rfl,by show AV.agg [_,_,clean v1,clean v2,clean v3,clean qv]=_;rw[g1,g2,g3,g4];rfl⟩
theorem ybMr_5(l:List UInt8)(i:Int)(a1 a2 a3:List AV):oBuild Tryd.prog 27 [(0,.v (.string ⟨⟨l⟩⟩)),(1,.v (.int .i64 i)),(2,.sl 0 0 6 a1),(3,.sl 0 0 6 a2),(4,.sl 0 0 6 a3)]=some (.agg [.v (.string ⟨⟨l⟩⟩),.v (.int .i64 i),.sl 0 0 6 a1,.sl 0 0 6 a2,.sl 0 0 6 a3,.nils]):=by kernel_rfl
theorem ybAr_2(o:Bool)(c0 c1 c2 c3 c4 c5:AV):oBuild Tryd.prog 65 [(1,.v (.bool o)),(2,.agg [c0,c1,c2,c3,c4,c5])]=some (.agg [.nils,.v (.bool o),c0,c1,c2,c3,c4,c5]):=by kernel_rfl
theorem ybLr_2(l:List UInt8)(i:Int):oBuild Tryd.prog 68 [(0,.v (.string ⟨⟨l⟩⟩)),(1,.v (.int .i64 i))]=some (.agg [.v (.string ⟨⟨l⟩⟩),.v (.int .i64 i)]):=by kernel_rfl
theorem ybLr_1(l:List UInt8):oBuild Tryd.prog 68 [(0,.v (.string ⟨⟨l⟩⟩))]=some (.agg [.v (.string ⟨⟨l⟩⟩),.v (.int .i64 0)]):=by kernel_rfl
theorem yrGr_1(a0 a1:AV):oBuildSlice Tryd.prog 60 1 [(0,.agg [a0,a1])]=some (.sl 1 0 2 [.agg [a0,a1]]):=by kernel_rfl
theorem yrFr_1(a0 a1 a2 a3 a4 a5 a6 a7:AV):oBuildSlice Tryd.prog 25 1 [(0,.agg [a0,a1,a2,a3,a4,a5,a6,a7])]=some (.sl 1 0 8 [.agg [a0,a1,a2,a3,a4,a5,a6,a7]]):=by kernel_rfl
def nd0:Code:=match Tryd.f5.body with
 |some (.seq c _)=>c
 |_=>.skip
def nd1:Code:=match Tryd.f5.body with
 |some (.seq _ (.seq c _))=>c
 |_=>.skip
def nd2:Code:=match Tryd.f5.body with
 |some (.seq _ (.seq _ (.seq c _)))=>c
 |_=>.skip
def nd3:Code:=match Tryd.f5.body with
 |some (.seq _ (.seq _ (.seq _ (.seq (.seq c _) _))))=>c
 |_=>.skip
def ndL:Code:=match Tryd.f5.body with
 |some (.seq _ (.seq _ (.seq _ (.seq (.seq _ (.block _ (.loop c))) _))))=>c
 |_=>.skip
def ndZ:Code:=match Tryd.f5.body with
 |some (.seq _ (.seq _ (.seq _ (.seq _ c))))=>c
 |_=>.skip
theorem nd_is:Tryd.f5.body=some (.seq nd0 (.seq nd1 (.seq nd2 (.seq (.seq nd3 (.block 0 (.loop ndL))) ndZ)))):=by kernel_rfl
def nq4:Code:=match ndL with
 |.seq c _=>c
 |_=>.skip
def nq6:Code:=match ndL with
 |.seq _ (.seq (.block _ (.seq c _)) _)=>c
 |_=>.skip
def nq7:Code:=match ndL with
 |.seq _ (.seq (.block _ (.seq _ (.seq c _))) _)=>c
 |_=>.skip
def nq8:Code:=match ndL with
 |.seq _ (.seq (.block _ (.seq _ (.seq _ (.seq (.seq c _) _)))) _)=>c
 |_=>.skip
def nqL:Code:=match ndL with
 |.seq _ (.seq (.block _ (.seq _ (.seq _ (.seq (.seq _ (.block _ (.loop c))) _)))) _)=>c
 |_=>.skip
def nq12:Code:=match ndL with
 |.seq _ (.seq (.block _ (.seq _ (.seq _ (.seq _ (.seq c _))))) _)=>c
 |_=>.skip
def nq14:Code:=match ndL with
 |.seq _ (.seq (.block _ (.seq _ (.seq _ (.seq _ (.seq _ c))))) _)=>c
 |_=>.skip
def nq5:Code:=match ndL with
 |.seq _ (.seq _ c)=>c
 |_=>.skip
theorem nq_is:ndL=.seq nq4 (.seq (.block 1 (.seq nq6 (.seq nq7 (.seq (.seq nq8 (.block 2 (.loop nqL))) (.seq nq12 nq14))))) nq5):=by kernel_rfl
end Go.Ax
noncomputable section
open Nat (reduceLT reduceEqDiff)
namespace Go.Ax
open Go.RowKit Go.Proofs
set_option maxRecDepth 100000
theorem acc_push2{t e sz bytes:Nat}(TT:RowT Tryd.prog t e sz bytes){S:St}{v:AV}{es:List AV}(h:Acc sz S v es)(hn:2≤S.next)(x:AV)(hx:x.cells.length=sz)(hl:es.length≤2000000):
  ∃S',appendE EZ S t t v (.sl 1 0 sz [x])=some (.sl S.next 0 sz (es ++ [x]),S')∧Acc sz S' (.sl S.next 0 sz (es ++ [x])) (es ++ [x])∧S'.next=S.next+1∧∀id,2≤id→id<S.next→(∀es',v≠.sl id 0 sz es')→S'.mem.get id=S.mem.get id:=by
 rcases h with⟨rfl,rfl⟩ | ⟨tk,rfl,h2⟩
 ·obtain⟨S',a1,a2,a3,a4⟩:=push_nil (E:=EZ) TT rfl rfl hn x hx
  exact⟨S',a1,.inr ⟨_,rfl,a2⟩,a3,fun id h1 h2 _=>a4 id h1 h2⟩
 ·obtain⟨S',a1,a2,a3,a4⟩:=push_row (E:=EZ) TT rfl rfl h2 hn x hx hl
  exact⟨S',a1,.inr ⟨_,rfl,a2⟩,a3,fun id h1 h3 h4=>a4 id (fun e=>h4 es (by rw[e])) h3⟩
structure MemQ(ys z3 xs:List AV)(ev:AV)(es:List AV)(S:St):Prop where
 n:5≤S.next
 m2:S.mem.get 2=some (.box ys)
 m3:S.mem.get 3=some (.box z3)
 m4:S.mem.get 4=some (.box xs)
 acc:Acc 8 S ev es
 old:∀id es',ev=.sl id 0 8 es'→id<S.next
theorem MemQ.keep{ys z3 xs:List AV}{ev:AV}{es:List AV}{S S':St}(h:MemQ ys z3 xs ev es S)(hn:S.next≤S'.next)(hk:∀id,2≤id→id<S.next→S'.mem.get id=S.mem.get id):MemQ ys z3 xs ev es S':=by
 have:=h.n
 exact⟨by omega,(hk 2 (by omega) (by omega)).trans h.m2,(hk 3 (by omega) (by omega)).trans h.m3,(hk 4 (by omega) (by omega)).trans h.m4,h.acc.keep hn fun id m h1 h2 h3=>(hk id h1 h2).trans h3,fun id es' e=>by have:=h.old id es' e;omega⟩
structure InQ(lo:Nat)(ys z3 xs:List AV)(ev:AV)(es:List AV)(q:List AV)(lv:AV)(ls tl:List AV)(S0 S:St):Prop where
 m:MemQ ys z3 xs ev es S0
 n0:S0.next=lo
 n:lo+2≤S.next
 low:∀id,2≤id→id<lo→S.mem.get id=S0.mem.get id
 g1:S.mem.get lo=some (.box q)
 g2:S.mem.get (lo+1)=some (.box (lv :: tl))
 acc:Acc 2 S lv ls
 new:∀id es',lv=.sl id 0 2 es'→lo+1<id∨id=1
structure FrN(i:Nat)(t:T AV):Prop where
 t1:t.get 1=some (.ptr 2 0)
 t2:t.get 2=some (.ptr 3 0)
 t4:t.get 4=some (.ptr 4 0)
 t5:t.get 5=some (.v (.int .i64 (i:Int)))
theorem FrN.same{i:Nat}{t t':T AV}(h:FrN i t)(h1:t'.get 1=t.get 1)(h2:t'.get 2=t.get 2)(h4:t'.get 4=t.get 4)(h5:t'.get 5=t.get 5):FrN i t':=⟨h1.trans h.t1,h2.trans h.t2,h4.trans h.t4,h5.trans h.t5⟩
theorem rawL_beq{v:AV}(h:RawR 2 RawL v):beqA v v=true:=by
 have hl:∀es:List AV,(∀e∈es,RawL e)→beqL es es=true:=fun es=>by
  induction es with
  |nil=>exact fun _=>rfl
  |cons e r ih =>
   intro h
   have h1:=h e (List.mem_cons_self ..)
   have h2:=ih fun x hx=>h x (List.mem_cons_of_mem _ hx)
   obtain⟨s,a,rfl⟩:=h1
   show(beqA (.agg [strS s,i64A a]) (.agg [strS s,i64A a]) && beqL r r)=true
   rw[h2,Bool.and_true]
   show(beqA (strS s) (strS s) && (beqA (i64A a) (i64A a) && true))=true
   unfold strS i64A
   rw[beqA_st,beqA_in];rfl
 rcases h with rfl | ⟨es,rfl,h⟩ | ⟨a,rfl⟩
 ·rfl
 ·show((0:Nat) == 0 && (0:Nat) == 0 && (2:Nat) == 2 && beqL es es)=true
  rw[hl es h];rfl
 ·simp[beqA,eqS]
theorem yfeLr_1(c0 c1:AV):oFieldAddr Tryd.prog 68 (.ep [c0,c1]) 1=some (.ep [c1]):=by kernel_rfl
theorem beq_lf(tk off:Nat)(l:List (List UInt8 × Int)):beqA (.sl tk off 2 (l.map lfA)) (.sl tk off 2 (l.map lfA))=true:=by
 have h:∀l:List (List UInt8 × Int),beqL (l.map lfA) (l.map lfA)=true:=fun l=>by
  induction l with
  |nil=>rfl
  |cons x r ih =>
   rw[List.map_cons]
   show(beqA (lfA x) (lfA x) && beqL (r.map lfA) (r.map lfA))=true
   rw[ih,Bool.and_true]
   show(beqA (strS x.1) (strS x.1) && (beqA (i64A x.2) (i64A x.2) && true))=true
   unfold strS i64A
   rw[beqA_st,beqA_in];rfl
 show(tk == tk && off == off && (2:Nat) == 2 && beqL (l.map lfA) (l.map lfA))=true
 rw[h];simp
theorem nl_lp{lo i:Nat}{ys z3 xs:List AV}{ev:AV}{es:List AV}{lvr:AV}{bo:Bool}{x tl:List AV}{L:Nat}{S0:St}(h5:5≤lo)(hbr:beqA lvr lvr=true)(hL:∀S,oLen Tryd.prog S 60 lvr=some L)(hX:∀j,j<L→∃e,RawL e∧oIndexAddr Tryd.prog 60 lvr (.v (.int .i64 (j:Int)))=some (.ep e.cells)):∀(n j:Nat) (lv:AV) (l:List (List UInt8 × Int)) (t:T AV) (S:St),j+n=min L 3→l.length=j→(∀x∈l,x.1.length≤30)→(l=[]→lv=.nils)→FrN i t→t.get 6=some (.ptr lo 0)→t.get 7=some (.ptr (lo+1) 0)→t.get 8=some (.v (.int .i64 (j:Int)))→InQ lo ys z3 xs ev es (lvr :: .v (.bool bo) :: x) lv (l.map lfA) tl S0 S →
  WX EZ 102 (.loop nqL) ⟨t,[]⟩ S (fun r=>∃t' S' lv' l',r=.out (.exit 2) ⟨t',[]⟩ S'∧l'.length≤3∧(∀x∈l',x.1.length≤30)∧(l' = []→lv' = .nils)∧FrN i t'∧t'.get 6=some (.ptr lo 0)∧t'.get 7=some (.ptr (lo+1) 0)∧InQ lo ys z3 xs ev es (lvr :: .v (.bool bo) :: x) lv' (l'.map lfA) tl S0 S')
 |0,j,lv,l,t,S,hj,hl,hok,hz,hf,h6,h7,h8,hi=>by
  refine WX_loop (W_sound ?_)
  have hl3:l.length≤3:=by omega
  have g1:=hi.g1
  by_cases hlt0:j<L
  ·have hlt:decide ((j:Int)<(L:Int))=true:=by rw[decide_eq_true_eq];omega
   have hl2:decide ((j:Int)<3)=false:=by rw[decide_eq_false_iff_not];omega
   simp(maxSteps:=2000000) (disch:=omega)only[thenW_exit,W_skip,W_region,W_drawn,W_seq,W_cond,W_block,W_exit,seqQ_normal2,seqQ_exit2,WL_nil2,WL_cons,execL_val2,putL_some2,condW_f2,wantedA,exec1,evalO,T.get_set,callA,ofOpt,ofConst,neNil3,fb_lss,reduceLT,reduceEqDiff,if_true,if_false,true_and,List.getElem?_toArray,List.getElem?_cons_succ,List.getElem?_cons_zero,Option.bind_some,beq_self_eq_true,Bool.false_eq_true,cl1_box,Nat.add_zero,ez_P,neNil3,List.getElem?_cons_succ,yfAr_0,yl60,nqL,ndL,Tryd.f5,h6,h8,g1,hL,hlt,hl2]
   exact⟨_,_,lv,l,rfl,hl3,hok,hz,hf.same (by simp only[T.get_set,reduceEqDiff,if_false]) (by simp only[T.get_set,reduceEqDiff,if_false]) (by simp only[T.get_set,reduceEqDiff,if_false]) (by simp only[T.get_set,reduceEqDiff,if_false]),by simp only[T.get_set,reduceEqDiff,if_false,h6],by simp only[T.get_set,reduceEqDiff,if_false,h7],hi⟩
  ·have hlt:decide ((j:Int)<(L:Int))=false:=by rw[decide_eq_false_iff_not];omega
   simp(maxSteps:=2000000) (disch:=omega)only[thenW_exit,W_skip,W_region,W_drawn,W_seq,W_cond,W_block,W_exit,seqQ_normal2,seqQ_exit2,WL_nil2,WL_cons,execL_no,execL_val2,putL_some2,condW_f2,wantedA,exec1,evalO,T.get_set,callA,ofOpt,ofConst,neNil3,fb_lss,reduceLT,reduceEqDiff,if_true,if_false,true_and,List.getElem?_toArray,List.getElem?_cons_succ,List.getElem?_cons_zero,Option.bind_some,Bool.false_eq_true,Bool.not_true,Bool.false_beq,cl1_box,Nat.add_zero,ez_P,ez_G,neNil3,List.getElem?_cons_succ,yfAr_0,yl60,nqL,ndL,Tryd.f5,h6,h8,g1,hL,hlt]
   exact⟨_,_,lv,l,rfl,hl3,hok,hz,hf.same (by simp only[T.get_set,reduceEqDiff,if_false]) (by simp only[T.get_set,reduceEqDiff,if_false]) (by simp only[T.get_set,reduceEqDiff,if_false]) (by simp only[T.get_set,reduceEqDiff,if_false]),by simp only[T.get_set,reduceEqDiff,if_false,h6],by simp only[T.get_set,reduceEqDiff,if_false,h7],hi⟩
 |n+1,j,lv,l,t,S,hj,hl,hok,hz,hf,h6,h7,h8,hi=>by
  refine WX_loop (W_sound ?_)
  have hjl:j<L:=by omega
  have hlt:decide ((j:Int)<(L:Int))=true:=by rw[decide_eq_true_eq];omega
  have hl2:decide ((j:Int)<3)=true:=by rw[decide_eq_true_eq];omega
  have hws:=wrapS j (by omega)
  obtain⟨e,⟨s,a,rfl⟩,hx⟩:=hX j hjl
  obtain⟨fn1,hf1⟩:∃fn,EZ.F 8=some fn:=fnz_8
  obtain⟨fn2,hf2⟩:∃fn,EZ.F 7=some fn:=fnz_7
  obtain⟨nm,hnm,hng⟩:=names_get (modN a 9) (modN_is a (m:=9) (by decide)).2
  obtain⟨bytes,hrt⟩:=ytGr
  have g1:=hi.g1
  have g2:=hi.g2
  have hn:=hi.n
  simp only[cells_agg,strS,i64A]at hx
  obtain⟨S2,happ,hA2,n2,k2⟩:=acc_push2 hrt hi.acc (by omega) (lfA (nm,bits .and .i64 a 4095)) rfl (by rw[List.length_map];omega)
  have hmap:l.map lfA ++ [lfA (nm,bits .and .i64 a 4095)]=(l ++ [(nm,bits .and .i64 a 4095)]).map lfA:=by rw[List.map_append];rfl
  rw[hmap]at happ hA2
  have kk:∀id,2≤id→id<lo+2→S2.mem.get id=S.mem.get id:=fun id h1 h2=>k2 id h1 (by omega) (fun es' e=>by have:=hi.new id es' e;omega)
  have g2':S2.mem.get (lo+1)=some (.box (lv :: tl)):=(kk (lo+1) (by omega) (by omega)).trans g2
  have hi2:InQ lo ys z3 xs ev es (lvr :: .v (.bool bo) :: x) (.sl S.next 0 2 ((l ++ [(nm,bits .and .i64 a 4095)]).map lfA)) ((l ++ [(nm,bits .and .i64 a 4095)]).map lfA) tl S0 (S2.to (lo+1) (.sl S.next 0 2 ((l ++ [(nm,bits .and .i64 a 4095)]).map lfA) :: tl)) :=
   ⟨hi.m,hi.n0,by rw[to_next];omega,fun id h1 h2=>by rw[to_get,if_neg (by omega),kk id h1 (by omega)];exact hi.low id h1 h2,by rw[to_get,if_neg (by omega),kk lo (by omega) (by omega)];exact g1,by rw[to_get,if_pos rfl],acc_to hA2 g2',fun id es' e=>by injection e with e;omega⟩
  have fin:=fun(t':T AV) q1 q2 q3 q4=>nl_lp (i:=i) h5 hbr hL hX n (j+1) _ (l ++ [(nm,bits .and .i64 a 4095)]) t' _ (by omega) (by rw[List.length_append,hl];rfl) (fun x hx=>by
   rcases List.mem_append.1 hx with h |h
   ·exact hok x h
   ·rw[List.mem_singleton]at h;subst h;exact hnm.2) (fun h=>absurd h (by simp)) q1 q2 q3 q4 hi2
  generalize (l ++ [(nm,bits .and .i64 a 4095)]).map lfA=nw at *
  simp only[lfA,strS,i64A]at happ
  have hne1:¬ lo=lo+1:=by omega
  have hne2:¬ lo+1=lo:=by omega
  have hbl:beqA lv lv=true:=by
   rcases hi.acc with⟨rfl,_⟩ | ⟨tk,rfl,_⟩
   ·rfl
   ·exact beq_lf _ _ _
  simp(maxSteps:=2000000) (disch:=omega)only[thenW_exit,W_skip,W_region,W_drawn,W_seq,W_cond,W_block,W_exit,seqQ_normal2,seqQ_exit2,WL_nil2,WL_cons,execL_val2,putL_some2,condW_t2,wantedA,exec1,evalO,T.get_set,callA,ofOpt,ofConst,neNil3,fb_lss,reduceLT,reduceEqDiff,if_true,if_false,true_and,List.getElem?_toArray,List.getElem?_cons_succ,List.getElem?_cons_zero,Option.bind_some,beq_self_eq_true,Bool.false_eq_true,cl1_box,Nat.add_zero,ez_P,neNil3,List.getElem?_cons_succ,yfAr_0,yl60,nqL,ndL,Tryd.f5,h6,h8,g1,hL,hlt,hl2]
  refine WD_by [(0,true),(1,true),(3,true),(4,true),(5,true),(6,true),(7,true),(8,true),(12,true),(13,true),(14,true),(15,true),(16,true),(17,true),(18,true),(2,true),(17,false),(13,false),(8,false),(4,false),(1,false),(9,true),(17,false),(13,false),(1,false),(10,true),(11,true),(19,true),(20,true),(21,true),(22,true),(23,true)] (by kernel_rfl) (by kernel_rfl) ?_
  simp(maxSteps:=2000000) (disch:=omega)only[wantedA,exec1,evalO,T.get_set,callA,mapO,ofOpt,ofConst,neNil3,reduceLT,reduceEqDiff,if_true,if_false,true_and,List.getElem?_toArray,List.getElem?_cons_succ,List.getElem?_cons_zero,List.append_nil,Bool.false_eq_true,WR_op,execR_val2,execR_enter2,putRW_some2,rsOf,cl1_box,Nat.add_zero,ez_P,ez_G,neNil3,List.getElem?_cons_succ,yfAr_0,yl60,yle3,fb_and,eqOr_and3,andO_i,h6,h7,h8,g1,hx,hf2,g2,yfeLr_1]
  refine names_u ?_
  simp(maxSteps:=2000000) (disch:=omega)only[wantedA,exec1,evalO,T.get_set,callA,mapO,ofOpt,ofConst,reduceLT,reduceEqDiff,if_true,if_false,true_and,List.getElem?_cons_zero,List.nil_append,List.append_nil,WR_op,WR_re2,execR_enter2,putRW_some2,retRW_ret2,againO,lookV,cl1_box,ez_P,yl60,yle3,beqA_in,g1,hf1,g2,hbl,hbr]
  refine mod_u 9 (by decide) (by decide) ?_
  simp(maxSteps:=2000000) (disch:=omega)only[thenW_normal,W_region,seqQ_normal2,blockW_normal2,WL_nil2,WL_cons,execL_val2,putL_some2,wantedA,exec1,evalO,T.get_set,callA,ofOpt,ofOptS,ofConst,partsA,neNil3,fb_add,reduceLT,reduceEqDiff,if_true,if_false,true_and,List.getElem?_cons_zero,List.nil_append,Bool.false_eq_true,WR_nil2,WR_op,WR_re2,execR_val2,execR_skip2,putRW_none2,putRW_some2,retRW_ret2,fixQ_normal2,againO,lookV,cl1_box,vstB_s,List.length_cons,Nat.zero_add,Nat.add_zero,Nat.reduceLeDiff,List.drop_zero,List.drop_succ_cons,List.take_zero,ez_P,neNil3,yfAr_0,ys60,yl60,yle3,yle9,beqA_in,h7,h8,g1,hws,hng,happ,g2,g2',ybLr_2,yrGr_1,hbl,hbr]
  refine fin _ (hf.same ?_ ?_ ?_ ?_) ?_ ?_ ?_
  iterate 4 simp only[T.get_set,reduceEqDiff,if_false]
  ·simp only[T.get_set,reduceEqDiff,if_false,h6]
  ·simp only[T.get_set,reduceEqDiff,if_false,h7]
  ·simp only[T.get_set,reduceEqDiff,if_true,if_false]
end Go.Ax
noncomputable section
open Nat (reduceLT reduceAdd reduceEqDiff reduceLeDiff)
namespace Go.Ax
open Go.RowKit Go.Proofs
set_option maxRecDepth 100000
theorem eq_clean{lv:AV}{l:List (List UInt8 × Int)}{bo:Bool}{e:PX}{c0 c1 c2 c3 c4 c5:AV}(hagg:exA e=.agg [c0,c1,c2,c3,c4,c5])(hlv:freeV lv=true∧clean lv=.sl 0 0 2 (l.map lfA)):
  freeV (.agg [lv,.v (.bool bo),c0,c1,c2,c3,c4,c5])=true∧clean (.agg [lv,.v (.bool bo),c0,c1,c2,c3,c4,c5])=eqX ⟨l,bo,e⟩:=by
 obtain⟨f1,f2⟩:=exA_fr e
 rw[hagg]at f1 f2
 have f1:freeL [c0,c1,c2,c3,c4,c5]=true:=f1
 have f2:AV.agg (cleanL [c0,c1,c2,c3,c4,c5])=.agg [c0,c1,c2,c3,c4,c5]:=f2
 injection f2 with f2
 refine⟨?_,?_⟩
 ·show(freeV lv && (true && freeL [c0,c1,c2,c3,c4,c5]))=true
  rw[hlv.1,f1];rfl
 ·show AV.agg (clean lv :: .v (.bool bo) :: cleanL [c0,c1,c2,c3,c4,c5])=_
  rw[hlv.2,f2]
  unfold eqX
  rw[hagg];rfl
theorem lf_fr:∀l:List (List UInt8 × Int),freeL (l.map lfA)=true∧cleanL (l.map lfA)=l.map lfA
 | []=>⟨rfl,rfl⟩
 |x :: r=>by
  obtain⟨h1,h2⟩:=lf_fr r
  refine⟨?_,?_⟩
  ·show(freeV (lfA x) && freeL (r.map lfA))=true
   rw[h1];rfl
  ·show clean (lfA x) :: cleanL (r.map lfA)=_
   rw[h2];rfl
theorem freeL_app:∀{l m:List AV},freeL l=true→freeL m=true→freeL (l ++ m)=true
 | [],_,_,h=>h
 |a :: r,m,h,h2=>by
  have h:(freeV a && freeL r)=true:=h
  rw[Bool.and_eq_true]at h
  show(freeV a && freeL (r ++ m))=true
  rw[h.1,freeL_app h.2 h2];rfl
theorem cleanL_app:∀(l m:List AV),cleanL (l ++ m)=cleanL l ++ cleanL m
 | [],_=>rfl
 |a :: r,m=>by show clean a :: cleanL (r ++ m)=clean a :: (cleanL r ++ cleanL m);rw[cleanL_app r m]
def ndX(nm:List UInt8)(at0:Int)(a1 a2 a3:List AV)(ev:AV):List AV:=[.v (.string ⟨⟨nm⟩⟩),.v (.int .i64 at0),.sl 0 0 6 a1,.sl 0 0 6 a2,.sl 0 0 6 a3,ev]
theorem nd_push{lo:Nat}{ys z3:List AV}{nm:List UInt8}{at0:Int}{a1 a2 a3:List AV}{ev:AV}{es:List AV}{S S':St}(hm:MemQ ys z3 (ndX nm at0 a1 a2 a3 ev) ev es S)(hlo:S.next=lo)(hn:lo+2≤S'.next)(low:∀id,2≤id→id<lo→S'.mem.get id=S.mem.get id)(hl:es.length≤100)(lv b1 c0 c1 c2 c3 c4 c5:AV):
  ∃S2,appendE EZ S' 25 25 ev (.sl 1 0 8 [.agg [lv,b1,c0,c1,c2,c3,c4,c5]])=some (.sl S'.next 0 8 (es ++ [.agg [lv,b1,c0,c1,c2,c3,c4,c5]]),S2)∧S2.mem.get 4=some (.box (ndX nm at0 a1 a2 a3 ev)) ∧
   MemQ ys z3 (ndX nm at0 a1 a2 a3 (.sl S'.next 0 8 (es ++ [.agg [lv,b1,c0,c1,c2,c3,c4,c5]]))) (.sl S'.next 0 8 (es ++ [.agg [lv,b1,c0,c1,c2,c3,c4,c5]])) (es ++ [.agg [lv,b1,c0,c1,c2,c3,c4,c5]]) (S2.to 4 (ndX nm at0 a1 a2 a3 (.sl S'.next 0 8 (es ++ [.agg [lv,b1,c0,c1,c2,c3,c4,c5]])))):=by
 obtain⟨bytes,hrt⟩:=ytFr
 have hn5:=hm.n
 have M1:=hm.keep (S':=S') (by omega) (fun id h1 h2=>low id h1 (by omega))
 obtain⟨S2,happ,hA2,n2,k2⟩:=acc_push2 hrt M1.acc (by omega) (.agg [lv,b1,c0,c1,c2,c3,c4,c5]) rfl (by omega)
 have kk:∀id,2≤id→id<5→S2.mem.get id=S'.mem.get id:=fun id h1 h2=>by
  refine k2 id h1 (by omega) fun es' e=>?_
  subst e
  rcases M1.acc with⟨h,_⟩ | ⟨tk,h,hr⟩
  ·cases h
  ·injection h with h
   subst h
   rcases hr with hr | ⟨_,_,hr⟩
   ·omega
   ·have:id=2∨id=3∨id=4:=by omega
    rcases this with rfl |rfl |rfl
    ·rw[M1.m2]at hr;cases hr
    ·rw[M1.m3]at hr;cases hr
    ·rw[M1.m4]at hr;cases hr
 have m4:=(kk 4 (by omega) (by omega)).trans M1.m4
 refine⟨S2,happ,m4,⟨by rw[to_next];omega,?_,?_,by rw[to_get,if_pos rfl],acc_to hA2 m4,fun id es' e=>by injection e with e;rw[to_next];omega⟩⟩
 ·rw[to_get,if_neg (by decide),kk 2 (by omega) (by omega)];exact M1.m2
 ·rw[to_get,if_neg (by decide),kk 3 (by omega) (by omega)];exact M1.m3
theorem nd_lp{s nm:List UInt8}{a at0:Int}{v1 v2 v3 qv:AV}{z3 a1 a2 a3:List AV}{L:Nat}(hL:∀S,oLen Tryd.prog S 25 qv=some L)(hX:∀j,j<L→∃e,RawQ e∧oIndexAddr Tryd.prog 25 qv (.v (.int .i64 (j:Int)))=some (.ep e.cells)):∀(n i:Nat) (ev:AV) (es:List AV) (eqs:List EqX) (t:T AV) (S:St),i+n=min L 5→eqs.length=i→es.length=i→(∀q∈eqs,okQ q)→freeL es=true→cleanL es=eqs.map eqX→(eqs=[]→ev=.nils)→FrN i t→MemQ [.v (.string ⟨⟨s⟩⟩),.v (.int .i64 a),v1,v2,v3,qv] z3 (ndX nm at0 a1 a2 a3 ev) ev es S →
  WX EZ 102 (.loop ndL) ⟨t,[]⟩ S (fun r=>∃t' S' ev' es' eqs',r=.out (.exit 0) ⟨t',[]⟩ S'∧eqs'.length≤5∧(∀q∈eqs',okQ q)∧freeL es' = true∧cleanL es' = eqs'.map eqX∧(eqs' = []→ev' = .nils)∧t'.get 2=some (.ptr 3 0)∧t'.get 4=some (.ptr 4 0)∧MemQ [.v (.string ⟨⟨s⟩⟩),.v (.int .i64 a),v1,v2,v3,qv] z3 (ndX nm at0 a1 a2 a3 ev') ev' es' S')
 |0,i,ev,es,eqs,t,S,hj,hl,hle,hok,hfe,hcl,hz,hf,hm=>by
  refine WX_loop (W_sound ?_)
  have hl3:eqs.length≤5:=by omega
  have h1:=hf.t1;have h2:=hf.t2;have h4:=hf.t4;have h5:=hf.t5
  have m2:=hm.m2
  by_cases hlt0:i<L
  ·have hlt:decide ((i:Int)<(L:Int))=true:=by rw[decide_eq_true_eq];omega
   have hl2:decide ((i:Int)<5)=false:=by rw[decide_eq_false_iff_not];omega
   simp(maxSteps:=2000000) (disch:=omega)only[thenW_exit,W_skip,W_region,W_seq,W_cond,W_block,W_exit,seqQ_normal2,seqQ_exit2,WL_nil2,WL_cons,execL_val2,putL_some2,condW_f2,wantedA,exec1,evalO,T.get_set,callA,ofOpt,ofConst,neNil3,fb_lss,reduceLT,reduceEqDiff,if_true,if_false,true_and,List.getElem?_toArray,List.getElem?_cons_succ,List.getElem?_cons_zero,Option.bind_some,beq_self_eq_true,Bool.false_eq_true,cl1_box,Nat.zero_add,ez_P,neNil3,List.getElem?_cons_succ,yfMr_5,yl25,ndL,Tryd.f5,h1,h5,m2,hL,hlt,hl2]
   exact⟨_,_,ev,es,eqs,rfl,hl3,hok,hfe,hcl,hz,by simp only[T.get_set,reduceEqDiff,if_false,h2],by simp only[T.get_set,reduceEqDiff,if_false,h4],hm⟩
  ·have hlt:decide ((i:Int)<(L:Int))=false:=by rw[decide_eq_false_iff_not];omega
   simp(maxSteps:=2000000) (disch:=omega)only[thenW_exit,W_skip,W_region,W_seq,W_cond,W_block,W_exit,seqQ_normal2,seqQ_exit2,WL_nil2,WL_cons,execL_no,execL_val2,putL_some2,condW_f2,wantedA,exec1,evalO,T.get_set,callA,ofOpt,ofConst,neNil3,fb_lss,reduceLT,reduceEqDiff,if_true,if_false,true_and,List.getElem?_toArray,List.getElem?_cons_succ,List.getElem?_cons_zero,Option.bind_some,Bool.false_eq_true,Bool.not_true,Bool.false_beq,cl1_box,Nat.zero_add,ez_P,ez_G,neNil3,List.getElem?_cons_succ,yfMr_5,yl25,ndL,Tryd.f5,h1,h5,m2,hL,hlt]
   exact⟨_,_,ev,es,eqs,rfl,hl3,hok,hfe,hcl,hz,by simp only[T.get_set,reduceEqDiff,if_false,h2],by simp only[T.get_set,reduceEqDiff,if_false,h4],hm⟩
 |n+1,i,ev,es,eqs,t,S,hj,hl,hle,hok,hfe,hcl,hz,hf,hm=>by
  refine WX_loop (W_sound ?_)
  have key:∀Q,W EZ 102 (.seq nq4 (.seq (.block 1 (.seq nq6 (.seq nq7 (.seq (.seq nq8 (.block 2 (.loop nqL))) (.seq nq12 nq14))))) nq5)) ⟨t,[]⟩ S Q→W EZ 102 ndL ⟨t,[]⟩ S Q:=fun Q h=>by rw[nq_is];exact h
  refine key _ ?_
  clear key
  have h1:=hf.t1;have h2:=hf.t2;have h4:=hf.t4;have h5:=hf.t5
  have m2:=hm.m2
  have hn5:=hm.n
  have hjl:i<L:=by omega
  have hlt:decide ((i:Int)<(L:Int))=true:=by rw[decide_eq_true_eq];omega
  have hl2:decide ((i:Int)<5)=true:=by rw[decide_eq_true_eq];omega
  have hws:=wrapS i (by omega)
  obtain⟨e0,⟨lvr,bo,x,rfl,hlr,hxr⟩,hx⟩:=hX i hjl
  obtain⟨k0,x0,n0,s0,o0,kr,hxe,_,_⟩:=rawX_cases hxr
  injection hxe with hxe
  subst hxe
  simp only[cells_agg,rawB]at hx
  obtain⟨fn1,hf1⟩:∃fn,EZ.F 18=some fn:=fnz_18
  obtain⟨L2,hL2,hX2⟩:=rawL_row hlr
  have hbr:=rawL_beq hlr
  have fin:=fun(xa:AV) (eq1:EqX) (ev':AV) (hxa:freeV xa=true∧clean xa=eqX eq1) (hq:okQ eq1) (t':T AV) (S2:St) (hne:es ++ [xa]≠[]) (M5:MemQ [.v (.string ⟨⟨s⟩⟩),.v (.int .i64 a),v1,v2,v3,qv] z3 (ndX nm at0 a1 a2 a3 ev') ev' (es ++ [xa]) S2) (hfN:FrN (i+1) t')=>nd_lp hL hX n (i+1) ev' (es ++ [xa]) (eqs ++ [eq1]) t' S2 (by omega) (by rw[List.length_append,hl];rfl) (by rw[List.length_append,hle];rfl) (fun q hq'=>by
   rcases List.mem_append.1 hq' with h |h
   ·exact hok q h
   ·rw[List.mem_singleton]at h;subst h;exact hq) (freeL_app hfe (by show(freeV xa && true)=true;rw[hxa.1];rfl)) (by rw[cleanL_app,hcl,List.map_append];show _ ++ [clean xa]=_ ++ [eqX eq1];rw[hxa.2]) (fun h=>absurd h (by simp)) hfN M5
  simp(maxSteps:=2000000) (disch:=omega)only[thenW_exit,W_skip,W_region,W_drawn,W_seq,W_cond,W_block,W_exit,seqQ_normal2,seqQ_exit2,WL_nil2,WL_cons,execL_val2,execL_skip2,putL_none2,putL_some2,condW_t2,wantedA,exec1,evalO,T.get_set,callA,ofOpt,ofOptS,ofConst,neNil3,fb_lss,reduceLT,reduceAdd,reduceEqDiff,if_true,if_false,true_and,List.getElem?_toArray,List.getElem?_cons_succ,List.getElem?_cons_zero,Option.bind_some,List.nil_append,List.append_nil,beq_self_eq_true,Bool.false_eq_true,nb_get,cl1_box,vstB_agg,List.length_cons,List.length_nil,Nat.zero_add,reduceLeDiff,List.drop_succ_cons,List.drop_nil,List.take_succ_cons,List.take_zero,and_self,ez_P,neNil3,List.getElem?_cons_succ,yleAr,ysAr,yaAr,yfMr_5,yl25,nb_get,nq4,nq6,nq7,ndL,Tryd.f5,h1,h5,m2,hL,hlt,hl2,hx]
  refine WD_byFl (x:=⟨6,7,[0,1,2,3,4,5],[7]⟩) [(0,true),(1,true),(2,true),(3,true),(4,true),(1,false),(5,true),(6,true),(7,true)] (by kernel_rfl) (by kernel_rfl) (by decide) ?_
  simp(maxSteps:=2000000) (disch:=omega)only[wantedA,exec1,evalO,T.get_set,callA,mapO,ofOpt,ofConst,reduceLT,reduceAdd,reduceEqDiff,if_true,if_false,true_and,List.getElem?_toArray,List.getElem?_cons_succ,List.getElem?_cons_zero,List.nil_append,List.append_nil,Bool.false_eq_true,WR_op,execR_val2,execR_enter2,putRW_some2,rsOf,to_get,nb_get,cl1_box,clN_box,List.length_cons,List.length_nil,Nat.zero_add,reduceLeDiff,List.drop_zero,List.drop_succ_cons,List.take_succ_cons,List.take_zero,ez_P,yl4,clN_box,List.getElem?_cons_succ,yfAr_1,yfAr_2,ylY,to_get,nb_get,hf1]
  refine some_u hxr (fun e he=>?_)
  obtain⟨c0,c1,c2,c3,c4,c5,hagg⟩:=ex_agg e
  rw[hagg]
  have hne1:¬ S.next=S.next+1:=by omega
  have hne2:¬ S.next+1=S.next:=by omega
  simp(maxSteps:=2000000) (disch:=omega)only[W_region,W_seq,W_block,W_loop,seqQ_normal2,WL_nil2,WL_cons,execL_val2,putL_some2,wantedA,exec1,evalO,T.get_set,ofOpt,ofOptS,ofConst,partsA,reduceLT,reduceAdd,reduceEqDiff,if_true,if_false,true_and,List.getElem?_cons_succ,List.getElem?_cons_zero,List.nil_append,List.append_nil,WR_nil2,WR_op,WR_re2,execR_val2,execR_skip2,putRW_none2,putRW_some2,retRW_ret2,fixQ_normal2,againO,lookV,to_get,nb_get,to_next,nb_next,cl1_box,vstB_agg,List.length_cons,List.length_nil,Nat.zero_add,reduceLeDiff,List.drop_succ_cons,List.drop_nil,List.take_zero,and_self,ez_P,yl4,List.getElem?_cons_succ,ysAr,yaAr,beqA_bo,to_get,nb_get,to_next,nb_next,nq8,ndL,Tryd.f5,ybAr_2,hne2]
  refine WX.mono (nl_lp (lo:=S.next) (i:=i) (ys:=[.v (.string ⟨⟨s⟩⟩),.v (.int .i64 a),v1,v2,v3,qv]) (z3:=z3) (xs:=ndX nm at0 a1 a2 a3 ev) (ev:=ev) (es:=es) (tl:=[.v (.bool bo),c0,c1,c2,c3,c4,c5]) (x:=rawB k0 x0 n0 s0 o0 kr) (bo:=bo) (S0:=S) hn5 hbr hL2 hX2 (min L2 3) 0 .nils [] _ _ (by omega) rfl (fun _ h=>by cases h) (fun _=>rfl) ⟨?_,?_,?_,?_⟩ ?_ ?_ ?_ ⟨hm,rfl,?_,?_,?_,?_,Acc.none 2 _,fun id es' e=>by cases e⟩) ?_
  ·simp only[T.get_set,reduceEqDiff,if_false,h1]
  ·simp only[T.get_set,reduceEqDiff,if_false,h2]
  ·simp only[T.get_set,reduceEqDiff,if_false,h4]
  ·simp only[T.get_set,reduceEqDiff,if_false,h5]
  ·simp only[T.get_set,reduceEqDiff,if_true,if_false]
  ·simp only[T.get_set,reduceEqDiff,if_true,if_false]
  ·simp only[T.get_set,reduceEqDiff,if_true,if_false];rfl
  ·simp only[to_next,nb_next];omega
  ·intro id hid1 hid2
   simp only[to_get,nb_get,to_next,nb_next]
   rw[if_neg (by omega),if_neg (by omega),if_neg (by omega),if_neg (by omega)]
  ·simp only[to_get,nb_get,to_next,nb_next,hne1,if_true,if_false];rfl
  ·simp only[to_get,nb_get,to_next,nb_next,if_true]
  rintro _ ⟨t1,S1,lv,l,rfl,hl3,hnm,hlz,f1,T6,T7,hi⟩
  have u1:=f1.t1;have u2:=f1.t2;have u4:=f1.t4;have u5:=f1.t5
  have g2:=hi.g2
  have hn:=hi.n
  by_cases hl0:l=[]
  ·have hlv:=hlz hl0
   subst hlv
   have hlen:∀S,oLen Tryd.prog S 60 .nils=some 0:=ynnGr
   obtain⟨S2,happ,m4,M5⟩:=nd_push (S':=S1.to (S.next+1) (.sl 1 0 2 [.agg [.v (.string ⟨⟨[120]⟩⟩),.v (.int .i64 0)]] :: [.v (.bool bo),c0,c1,c2,c3,c4,c5])) hm rfl (by rw[to_next];exact hn) (fun id h1 h2=>by rw[to_get,if_neg (by omega)];exact hi.low id h1 h2) (by omega) (.sl 1 0 2 [.agg [.v (.string ⟨⟨[120]⟩⟩),.v (.int .i64 0)]]) (.v (.bool bo)) c0 c1 c2 c3 c4 c5
   have m40:S1.mem.get 4=some (.box (ndX nm at0 a1 a2 a3 ev)):=(hi.low 4 (by omega) (by omega)).trans hm.m4
   have hfr:=eq_clean (bo:=bo) (l:=[([120],0)]) (lv:=.sl 1 0 2 [.agg [.v (.string ⟨⟨[120]⟩⟩),.v (.int .i64 0)]]) hagg ⟨rfl,rfl⟩
   have fin2:=fun t' hh=>fin _ ⟨[([120],0)],bo,e⟩ _ hfr ⟨by show(1:Nat)≤1∧(1:Nat)≤3;decide,fun x hx=>by
    have hx:x∈[(([120]:List UInt8),(0:Int))]:=hx
    rw[List.mem_singleton]at hx;subst hx;show(1:Nat)≤30;decide,he⟩ t' _ (by simp) M5 hh
   have hne4:¬ 4=S.next+1:=by omega
   simp only[to_next]at happ fin2
   generalize es ++ [.agg [.sl 1 0 2 [.agg [.v (.string ⟨⟨[120]⟩⟩),.v (.int .i64 0)]],.v (.bool bo),c0,c1,c2,c3,c4,c5]]=nw at *
   simp only[ndX]at m4 m40 fin2
   simp(maxSteps:=2000000) (disch:=omega)only[thenW_normal,thenW_exit,W_skip,W_region,W_seq,W_cond,seqQ_normal2,seqQ_exit2,blockW_normal2,blockW_exit2,WL_nil2,WL_cons,execL_val2,execL_skip2,putL_none2,putL_some2,wantedA,exec1,evalO,T.get_set,callA,ofOpt,ofOptS,ofConst,partsA,neNil3,fb_add,fb_eqlI,reduceLT,reduceAdd,reduceEqDiff,if_true,if_false,true_and,List.getElem?_cons_succ,List.getElem?_cons_zero,List.nil_append,Bool.false_eq_true,to_get,cl1_box,clN_box,vstB_s,List.length_cons,List.length_nil,Nat.zero_add,Nat.add_zero,reduceLeDiff,List.drop_zero,List.drop_succ_cons,List.drop_nil,List.take_succ_cons,List.take_zero,List.cons_append,ez_P,neNil3,clN_box,List.getElem?_cons_succ,ylAr,yfAr_0,yfMr_5,ys25,ys60,yl25,yl60,to_get,nq12,nq14,nq5,ndL,Tryd.f5,u4,u5,T7,g2,hlen,ybLr_1,yrGr_1,yrFr_1,happ,m4,m40,hws,hne4]
   refine fin2 _ ⟨?_,?_,?_,?_⟩
   ·simp only[T.get_set,reduceEqDiff,if_false,u1]
   ·simp only[T.get_set,reduceEqDiff,if_false,u2]
   ·simp only[T.get_set,reduceEqDiff,if_false,u4]
   ·simp only[T.get_set,reduceEqDiff,if_true,if_false]
  ·obtain⟨tk,hlv⟩:∃tk,lv=.sl tk 0 2 (l.map lfA):=by
    rcases hi.acc with⟨_,h⟩ | ⟨tk,h,_⟩
    ·exact absurd (List.map_eq_nil_iff.1 h) hl0
    ·exact⟨tk,h⟩
   subst hlv
   have hlen:∀S,oLen Tryd.prog S 60 (.sl tk 0 2 (l.map lfA))=some l.length:=fun S=>by rw[ynGr,List.length_map]
   have hlen0:(((l.length:Nat):Int) == (0:Int))=false:=by
    have:l.length≠0:=fun h=>hl0 (List.length_eq_zero_iff.1 h)
    simp;omega
   obtain⟨S2,happ,m4,M5⟩:=nd_push (S':=S1) hm rfl hn (fun id h1 h2=>hi.low id h1 h2) (by omega) (.sl tk 0 2 (l.map lfA)) (.v (.bool bo)) c0 c1 c2 c3 c4 c5
   have m40:S1.mem.get 4=some (.box (ndX nm at0 a1 a2 a3 ev)):=(hi.low 4 (by omega) (by omega)).trans hm.m4
   have hfr:=eq_clean (bo:=bo) (l:=l) (lv:=.sl tk 0 2 (l.map lfA)) hagg ⟨(lf_fr l).1,by show AV.sl 0 0 2 (cleanL _)=_;rw[(lf_fr l).2]⟩
   have fin2:=fun t' hh=>fin _ ⟨l,bo,e⟩ _ hfr ⟨⟨show 1≤l.length by have:l.length≠0:=fun h=>hl0 (List.length_eq_zero_iff.1 h);omega,hl3⟩,hnm,he⟩ t' _ (by simp) M5 hh
   generalize es ++ [.agg [.sl tk 0 2 (l.map lfA),.v (.bool bo),c0,c1,c2,c3,c4,c5]]=nw at *
   generalize l.map lfA=lw at *
   simp only[ndX]at m4 m40 fin2
   simp(maxSteps:=2000000) (disch:=omega)only[thenW_normal,thenW_exit,W_skip,W_region,W_seq,W_cond,seqQ_normal2,seqQ_exit2,blockW_normal2,blockW_exit2,WL_nil2,WL_cons,execL_val2,execL_skip2,putL_none2,putL_some2,condW_f2,wantedA,exec1,evalO,T.get_set,callA,ofOpt,ofOptS,ofConst,partsA,neNil3,fb_add,fb_eqlI,reduceLT,reduceAdd,reduceEqDiff,if_true,if_false,true_and,List.getElem?_cons_succ,List.getElem?_cons_zero,List.nil_append,Bool.false_eq_true,cl1_box,clN_box,vstB_s,List.length_cons,List.length_nil,Nat.zero_add,Nat.add_zero,reduceLeDiff,List.drop_zero,List.drop_succ_cons,List.drop_nil,List.take_succ_cons,List.take_zero,List.cons_append,ez_P,neNil3,clN_box,List.getElem?_cons_succ,ylAr,yfAr_0,yfMr_5,ys25,yl25,yl60,nq12,nq14,nq5,ndL,Tryd.f5,u4,u5,T7,g2,hlen,hlen0,yrFr_1,happ,m4,m40,hws]
   refine fin2 _ ⟨?_,?_,?_,?_⟩
   ·simp only[T.get_set,reduceEqDiff,if_false,u1]
   ·simp only[T.get_set,reduceEqDiff,if_false,u2]
   ·simp only[T.get_set,reduceEqDiff,if_false,u4]
   ·simp only[T.get_set,reduceEqDiff,if_true,if_false]
end Go.Ax
noncomputable section
open Nat (reduceLT reduceAdd reduceEqDiff)
namespace Go.Ax
open Go.RowKit Go.Proofs
set_option maxRecDepth 100000
theorem rawR_beq{sz:Nat}{P:AV→Prop}(hP:∀e,P e→beqA e e=true){v:AV}(h:RawR sz P v):beqA v v=true:=by
 have hl:∀es:List AV,(∀e∈es,P e)→beqL es es=true:=fun es=>by
  induction es with
  |nil=>exact fun _=>rfl
  |cons e r ih =>
   intro h
   show(beqA e e && beqL r r)=true
   rw[hP e (h e (List.mem_cons_self ..)),ih fun x hx=>h x (List.mem_cons_of_mem _ hx)];rfl
 rcases h with rfl | ⟨es,rfl,h⟩ | ⟨a,rfl⟩
 ·rfl
 ·show((0:Nat) == 0 && (0:Nat) == 0 && sz == sz && beqL es es)=true
  rw[hl es h];simp
 ·simp[beqA,eqS]
theorem rawD_beq{e:AV}(h:RawD e):beqA e e=true:=by
 obtain⟨s,a,b,f,c,o,rfl⟩:=h
 show(beqA (strS s) (strS s) && (beqA (i64A a) (i64A a) && (beqA (.v (.bool b)) (.v (.bool b)) && (beqA (.v (.bool f)) (.v (.bool f)) && (beqA (strS c) (strS c) && (beqA (.v (.bool o)) (.v (.bool o)) && true))))))=true
 unfold strS i64A
 rw[beqA_st,beqA_in,beqA_bo,beqA_bo,beqA_st,beqA_bo];rfl
theorem node_k(v:AV)(hv:RawN v):KnZ 5 [v]:=by
 have fin:∀(n:NdX) (x:AV) (S':St),okNd n→freeV x=true→clean x=ndA n→∃a S'',R.ret x S' = R.ret a S''∧freeV a=true∧SpecZ 5 [v] (clean a):=fun n x S' hn h1 h2=>by
  refine⟨_,_,rfl,h1,?_⟩
  intro v' q _
  exact⟨n,hn,h2⟩
 obtain⟨s,a,v1,v2,v3,qv,rfl,h1,h2,h3,h4⟩:=hv
 obtain⟨L,hL,hX⟩:=rawQ_row h4
 have hb1:=rawR_beq (fun _=>rawD_beq) h1
 have hb2:=rawR_beq (fun _=>rawD_beq) h2
 have hb3:=rawR_beq (fun _=>rawD_beq) h3
 obtain⟨fn1,hf1⟩:∃fn,EZ.F 8=some fn:=fnz_8
 obtain⟨fn2,hf2⟩:∃fn,EZ.F 7=some fn:=fnz_7
 obtain⟨fn3,hf3⟩:∃fn,EZ.F 17=some fn:=fnz_17
 have hm3:=(modN_is a (m:=3) (by decide)).2
 obtain⟨nm,hnm,hng⟩:=names_get (6+modN a 3) (by omega)
 have hq6:IntKind.i64.wrap (6+((modN a 3:Nat):Int))=((6+modN a 3:Nat):Int):=by rw[wrap_small _ (by omega)];omega
 simp only[strS,i64A]at fin ⊢
 refine bodyZ Tryd.f5 (by kernel_rfl) (by kernel_rfl) (show(_:Nat)≤_ from by show(_:Nat)≤_;simp[Tryd.f5]) ?_
 simp only[nd_is,Option.getD_some]
 simp(maxSteps:=2000000) (disch:=omega)only[W_region,W_drawn,W_seq,seqQ_normal2,WL_nil2,WL_cons,execL_val2,putL_some2,wantedA,exec1,evalO,initT,T.get_set,T.get_leaf,ofOpt,ofOptS,reduceLT,reduceAdd,if_true,true_and,nb_next,st0_next,noTup_agg,cells_agg,ez_P,cells_agg,initT,yaMr,nb_next,nd0,nd1,nd2,Tryd.f5]
 refine WD_byFl (x:=⟨23,4,[1,2,7,8,9,10,11,12,14,15,16,18,19,20,0,3,4,5,6,13,17,21,22],[24]⟩) [(1,true),(2,true),(7,true),(8,true),(9,true),(10,true),(11,true),(12,true),(14,true),(15,true),(16,true),(18,true),(19,true),(20,true),(0,true),(20,false),(16,false),(12,false),(8,false),(2,false),(3,true),(20,false),(16,false),(12,false),(8,false),(4,true),(5,true),(6,true),(13,true),(6,false),(20,false),(16,false),(8,false),(17,true),(6,false),(20,false),(8,false),(21,true),(6,false),(8,false),(22,true),(23,true),(24,true)] (by kernel_rfl) (by kernel_rfl) (by decide) ?_
 simp(maxSteps:=2000000) (disch:=omega)only[wantedA,exec1,evalO,T.get_set,T.get_leaf,callA,mapO,ofOpt,ofConst,neNil3,reduceLT,reduceAdd,reduceEqDiff,if_true,if_false,true_and,List.getElem?_toArray,List.getElem?_cons_succ,List.getElem?_cons_zero,List.append_nil,Bool.false_eq_true,WR_op,execR_val2,execR_enter2,putRW_some2,rsOf,nb_get,nb_next,st0_get,st0_next,cl1_box,Nat.zero_add,ez_P,ez_G,neNil3,yl3,List.getElem?_cons_succ,yfMr_1,yfMr_2,yfMr_3,yfMr_4,yl24,fb_and,eqOr_and3,andO_i,nb_get,nb_next,hf2]
 refine names_u ?_
 simp(maxSteps:=2000000) (disch:=omega)only[wantedA,exec1,evalO,T.get_set,T.get_leaf,callA,mapO,ofOpt,ofConst,reduceLT,reduceAdd,reduceEqDiff,if_true,if_false,true_and,List.getElem?_cons_succ,List.getElem?_cons_zero,List.nil_append,List.append_nil,WR_op,WR_re2,execR_enter2,putRW_some2,retRW_ret2,againO,lookV,nb_get,nb_next,st0_get,st0_next,cl1_box,ez_P,yl3,List.getElem?_cons_succ,yl24,beqA_in,nb_get,nb_next,hf1,hb1,hb2,hb3]
 refine mod_u 3 (by decide) (by decide) ?_
 simp(maxSteps:=2000000) (disch:=omega)only[wantedA,exec1,evalO,T.get_set,T.get_leaf,callA,mapO,ofOpt,ofConst,neNil3,fb_add,reduceLT,reduceAdd,reduceEqDiff,if_true,if_false,true_and,List.getElem?_cons_succ,List.getElem?_cons_zero,List.nil_append,List.append_nil,Bool.false_eq_true,WR_op,WR_re2,execR_val2,execR_enter2,putRW_some2,retRW_ret2,againO,lookV,nb_get,nb_next,st0_get,st0_next,cl1_box,ez_P,neNil3,yl3,List.getElem?_cons_succ,yl24,yle9,beqA_in,nb_get,nb_next,hf3,hng,hq6,hb1,hb2,hb3]
 refine sd_u h1 (fun l1 ok1=>?_)
 simp(maxSteps:=2000000) (disch:=omega)only[wantedA,exec1,evalO,T.get_set,T.get_leaf,callA,mapO,ofOpt,reduceLT,reduceAdd,reduceEqDiff,if_true,if_false,true_and,List.getElem?_cons_succ,List.getElem?_cons_zero,List.nil_append,List.append_nil,WR_op,WR_re2,execR_enter2,putRW_some2,retRW_ret2,againO,lookV,nb_get,nb_next,st0_get,st0_next,cl1_box,ez_P,yl3,List.getElem?_cons_succ,yl24,yle9,beqA_in,nb_get,nb_next,hf3,beqA_st,hb2,hb3]
 refine sd_u h2 (fun l2 ok2=>?_)
 simp(maxSteps:=2000000) (disch:=omega)only[wantedA,exec1,evalO,T.get_set,T.get_leaf,callA,mapO,ofOpt,reduceLT,reduceAdd,reduceEqDiff,if_true,if_false,true_and,List.getElem?_cons_succ,List.getElem?_cons_zero,List.nil_append,List.append_nil,WR_op,WR_re2,execR_enter2,putRW_some2,retRW_ret2,againO,lookV,nb_get,nb_next,st0_get,st0_next,cl1_box,ez_P,yl3,List.getElem?_cons_succ,yl24,yle9,beqA_in,nb_get,nb_next,hf3,beqA_st,hb3]
 refine sd_u h3 (fun l3 ok3=>?_)
 simp(maxSteps:=2000000) (disch:=omega)only[W_region,W_seq,W_block,W_loop,seqQ_normal2,WL_nil2,WL_cons,execL_val2,putL_some2,wantedA,exec1,evalO,T.get_set,T.get_leaf,ofOpt,ofOptS,ofConst,partsA,reduceLT,reduceAdd,reduceEqDiff,if_true,if_false,true_and,List.getElem?_cons_succ,List.getElem?_cons_zero,List.nil_append,List.append_nil,WR_nil2,WR_op,WR_re2,execR_val2,execR_skip2,putRW_none2,putRW_some2,retRW_ret2,fixQ_normal2,againO,lookV,nb_get,nb_next,st0_get,st0_next,cl1_box,vstB_agg,List.length_cons,List.length_nil,Nat.zero_add,Nat.reduceLeDiff,List.drop_succ_cons,List.drop_nil,List.take_zero,and_self,ez_P,yl3,List.getElem?_cons_succ,ysMr,yaMr,yle9,beqA_in,nb_get,nb_next,nd3,Tryd.f5,beqA_st,ybMr_5]
 refine WX.mono (nd_lp (s:=s) (nm:=nm) (a:=a) (at0:=bits .and .i64 a 4095) (v1:=v1) (v2:=v2) (v3:=v3) (qv:=qv) (z3:=[.v (.string ⟨⟨[]⟩⟩),.v (.int .i64 0),.nils,.nils,.nils,.nils]) (a1:=l1.map dcA) (a2:=l2.map dcA) (a3:=l3.map dcA) hL hX (min L 5) 0 .nils [] [] _ _ (by omega) rfl rfl (fun _ h=>by cases h) rfl rfl (fun _=>rfl) ⟨?_,?_,?_,?_⟩ ⟨?_,?_,?_,?_,Acc.none 8 _,fun id es' e=>by cases e⟩) ?_
 ·simp only[T.get_set,T.get_leaf,reduceEqDiff,if_true,if_false] <;> rfl
 ·simp only[T.get_set,T.get_leaf,reduceEqDiff,if_true,if_false] <;> rfl
 ·simp only[T.get_set,T.get_leaf,reduceEqDiff,if_true,if_false] <;> rfl
 ·simp only[T.get_set,T.get_leaf,reduceEqDiff,if_true,if_false] <;> rfl
 ·simp only[to_next,nb_next,st0_next];omega
 ·simp only[to_get,nb_get,nb_next,st0_next,reduceAdd,reduceEqDiff,if_true,if_false] <;> rfl
 ·simp only[to_get,nb_get,nb_next,st0_next,reduceAdd,reduceEqDiff,if_true,if_false] <;> rfl
 ·simp only[to_get,nb_get,nb_next,st0_next,reduceAdd,reduceEqDiff,if_true,if_false] <;> rfl
 rintro _ ⟨t',S',ev,es,eqs,rfl,hl5,hok,hfe,hcl,hz,T2,T4,M⟩
 have m3:=M.m3
 have m4:=M.m4
 have hend:freeV ev=true∧clean ev=eqRow eqs:=by
  rcases M.acc with⟨rfl,h⟩ | ⟨tk,rfl,_⟩
  ·subst h
   have:eqs=[]:=by
    have h:[]=eqs.map eqX:=hcl
    exact List.map_eq_nil_iff.1 h.symm
   rw[this];exact⟨rfl,rfl⟩
  ·refine⟨hfe,?_⟩
   show AV.sl 0 0 8 (cleanL es)=_
   rw[hcl]
   cases eqs with
   |nil=>exact absurd (hz rfl) (by intro h;cases h)
   |cons x r=>rfl
 simp only[ndX]at m4
 simp(maxSteps:=2000000) (disch:=omega)only[W_region,W_seq,W_ret,seqQ_normal2,seqQ_exit2,blockW_exit2,WL_nil2,WL_cons,execL_val2,execL_skip2,putL_none2,putL_some2,wantedA,exec1,evalO,T.get_set,ofOpt,finW_ret,giveW,resultsA,tupA,reduceLT,reduceAdd,reduceEqDiff,if_true,if_false,true_and,List.nil_append,List.append_nil,to_get,clN_box,vstB_agg,List.length_cons,List.length_nil,Nat.zero_add,Nat.reduceLeDiff,List.drop_zero,List.drop_succ_cons,List.drop_nil,List.take_succ_cons,List.take_zero,and_self,ez_P,clN_box,ylMr,ysMr,to_get,ndZ,Tryd.f5,T2,T4,m3,m4]
 refine fin ⟨nm,bits .and .i64 a 4095,l1,l2,l3,eqs⟩ _ _ ⟨hnm.2,ok1,ok2,ok3,hl5,hok⟩ ?_ ?_
 ·show(true && (true && (freeL (l1.map dcA) && (freeL (l2.map dcA) && (freeL (l3.map dcA) && (freeV ev && true))))))=true
  rw[(dc_free l1).1,(dc_free l2).1,(dc_free l3).1,hend.1];rfl
 ·show AV.agg [_,_,.sl 0 0 6 (cleanL (l1.map dcA)),.sl 0 0 6 (cleanL (l2.map dcA)),.sl 0 0 6 (cleanL (l3.map dcA)),clean ev]=_
  rw[(dc_free l1).2,(dc_free l2).2,(dc_free l3).2,hend.2];rfl
theorem node_u{v:AV}{S:St}{Q:R→Prop}(hv:RawN v)(h:∀n,okNd n→Q (.ret (ndA n) S)):WC EZ 5 [v] S Q :=
 callZ (args':=[v]) (node_k v hv) (by kernel_rfl) (by show(freeV v && true)=true;rw[(rawN_free hv).1];rfl) (by show [clean v]=_;rw[(rawN_free hv).2]) fun x _ _ hs=>by
  obtain⟨n,hn,hx⟩:=hs v rfl hv
  subst hx
  exact h n hn
end Go.Ax
noncomputable section
open Nat (reduceEqDiff)
namespace Go.Ax
open Go.RowKit Go.Proofs
set_option maxRecDepth 100000
theorem ybT_01(x y:Bool):oBuild Tryd.prog 48 [(0,.v (.bool x)),(1,.v (.bool y))]=some (.agg [.v (.bool x),.v (.bool y)]):=by kernel_rfl
theorem ybD_a(l m:List UInt8)(i:Int)(x y z:Bool):oBuild Tryd.prog 50 [(0,.v (.string ⟨⟨l⟩⟩)),(1,.v (.int .i64 i)),(2,.agg [.v (.bool x),.v (.bool y)]),(3,.v (.string ⟨⟨m⟩⟩)),(4,.v (.bool z))]=some (.agg [.v (.string ⟨⟨l⟩⟩),.v (.int .i64 i),.v (.bool x),.v (.bool y),.v (.string ⟨⟨m⟩⟩),.v (.bool z)]):=by kernel_rfl
theorem yrD_1(a0 a1 a2 a3 a4 a5:AV):oBuildSlice Tryd.prog 34 1 [(0,.agg [a0,a1,a2,a3,a4,a5])]=some (.sl 1 0 6 [.agg [a0,a1,a2,a3,a4,a5]]):=by kernel_rfl
def odLB:Code:=match Tryd.f19.body with
 |some (.seq _ (.seq _ (.seq (.seq _ (.block _ (.loop c))) _)))=>c
 |_=>.skip
theorem od_lp{v:AV}{l:List PDc}(hv:isRowA 6 v (l.map dcA))(hl:l.length≤10):∀(n j tk:Nat) (t:T AV) (S:St),j+n=l.length→RowO 6 S tk ((l.take j).map dcA)→2≤S.next→t.get 3=some (.sl tk 0 6 ((l.take j).map dcA))→t.get 7=some v→t.get 8=some (.v (.int .i64 ((l.length:Nat):Int)))→t.get 9=some (.v (.int .i64 ((j:Nat):Int))) →
  WX EZ 32 (.loop odLB) ⟨t,[]⟩ S (fun r=>∃t' S' tk,r=.out (.exit 0) ⟨t',[]⟩ S'∧t'.get 3=some (.sl tk 0 6 (l.map dcA)))
 |0,j,tk,t,S,hj,RO,hn,T3,T7,T8,T9=>by
  refine WX_loop (W_sound ?_)
  have hlt:decide ((j:Int)<(l.length:Int))=false:=by rw[decide_eq_false_iff_not];omega
  rw[List.take_of_length_le (show l.length≤j by omega)]at T3
  simp(maxSteps:=2000000) (disch:=omega)only[thenW_exit,W_skip,W_region,W_seq,W_cond,W_block,W_exit,seqQ_normal2,seqQ_exit2,WL_nil2,WL_cons,execL_val2,putL_some2,condW_f2,wantedA,exec1,evalO,T.get_set,ofOpt,neNil3,fb_lss,Nat.reduceLT,reduceEqDiff,if_true,if_false,true_and,Bool.false_eq_true,ez_P,neNil3,odLB,Tryd.f19,T7,T8,T9,hlt]
  exact⟨_,_,tk,rfl,by simp only[T.get_set,reduceEqDiff,if_false,T3]⟩
 |n+1,j,tk,t,S,hj,RO,hn,T3,T7,T8,T9=>by
  refine WX_loop (W_sound ?_)
  have hjl:j<l.length:=by omega
  have hlt:decide ((j:Int)<(l.length:Int))=true:=by rw[decide_eq_true_eq];omega
  have hws:=wrapS j (by omega)
  have hx:=erow_idx hv j hjl
  have htk:(l.take j).map dcA ++ [dcA l[j]]=(l.take (j+1)).map dcA:=by rw[List.take_succ_eq_append_getElem hjl,List.map_append];rfl
  generalize l[j]=dj at *
  obtain⟨nm,at0,bb,ff,ck,off⟩:=dj
  simp only at hx
  obtain⟨bytes,hrt⟩:=ytD
  have RO2:RowO 6 (boxD S [strS nm,i64A at0,.v (.bool bb),.v (.bool ff),strS ck,.v (.bool off)]) tk ((l.take j).map dcA):=RO.keep (by rw[boxD_next];omega) fun h1 h2=>by
   unfold boxD
   simp only[to_get,nb_get]
   rw[if_neg (by omega),if_neg (by omega)]
  obtain⟨S2,happ,ro2,n2,k2⟩:=push_row (E:=EZ) hrt rfl rfl RO2 (by rw[boxD_next];omega) (dcA ⟨nm,at0,bb,ff,ck,off⟩) rfl (by rw[List.length_map,List.length_take];omega)
  rw[htk]at happ ro2
  have fin:=fun(t':T AV)=>od_lp hv hl n (j+1) _ t' S2 (by omega) ro2 (by rw[n2,boxD_next];omega)
  generalize (l.take (j+1)).map dcA=nw at *
  generalize (l.take j).map dcA=ow at *
  rw[boxD_next]at happ fin
  unfold boxD at happ
  simp only[dcA]at happ
  simp only[strS,i64A]at *
  simp(maxSteps:=2000000) (disch:=omega)only[thenW_normal,thenW_exit,W_skip,W_region,W_seq,W_cond,W_block,W_exit,seqQ_normal2,seqQ_exit2,blockW_normal2,WL_nil2,WL_cons,execL_val2,execL_skip2,putL_none2,putL_some2,condW_t2,wantedA,exec1,evalO,T.get_set,callA,ofOpt,ofOptS,ofConst,partsA,neNil3,fb_lss,fb_add,Nat.reduceLT,Nat.reduceAdd,reduceEqDiff,if_true,if_false,true_and,List.getElem?_cons_succ,List.getElem?_cons_zero,List.nil_append,List.append_nil,Bool.false_eq_true,to_get,nb_get,cl1_box,vstB_agg,List.length_cons,List.length_nil,Nat.zero_add,Nat.add_zero,Nat.reduceLeDiff,List.drop_succ_cons,List.drop_nil,List.take_succ_cons,List.take_zero,and_self,ez_P,strS,neNil3,yl3,yl4,yl9,List.getElem?_cons_succ,yleEc,ysEc,yaEc,yfEc_0,yfEc_1,yfEc_2,yfEc_3,yfEc_4,yfEc_5,to_get,nb_get,ybT_01,ybD_a,yrD_1,odLB,Tryd.f19,T3,T7,T8,T9,hlt,hx,happ,hws,yl3]
  refine fin _ ?_ ?_ ?_ ?_
  ·simp only[T.get_set,reduceEqDiff,if_true,if_false]
  ·simp only[T.get_set,reduceEqDiff,if_false,T7]
  ·simp only[T.get_set,reduceEqDiff,if_false,T8]
  ·simp only[T.get_set,reduceEqDiff,if_true,if_false]
theorem od_k(v:AV)(l:List PDc)(hv:isRowA 6 v (l.map dcA))(hl:l.length≤10):KnZ 19 [v]:=by
 have fin:∀(tk:Nat) (S':St),∃a S'',R.ret (.sl tk 0 6 (l.map dcA)) S' = R.ret a S''∧freeV a=true∧SpecZ 19 [v] (clean a):=fun tk S'=>by
  refine⟨_,_,rfl,(dc_free l).1,?_⟩
  intro v' l' q hv' _
  simp only[List.cons.injEq,and_true]at q
  subst q
  rw[← isRow_inj hv hv']
  show AV.sl 0 0 6 (cleanL _)=_
  rw[(dc_free l).2]
 have hlr:=erow_len hv
 have lp:=fun t S=>od_lp hv hl l.length 0 1 t S (by omega) (.inl rfl)
 unfold odLB at lp
 simp only[Tryd.f19,List.take_zero,List.map_nil]at lp
 generalize l.map dcA=L at *
 refine bodyZ Tryd.f19 (by kernel_rfl) (by kernel_rfl) (show(_:Nat)≤_ from by show(_:Nat)≤_;simp[Tryd.f19]) ?_
 simp(maxSteps:=2000000) (disch:=omega)only[W_region,W_seq,W_block,W_loop,seqQ_normal2,WL_nil2,WL_cons,execL_val2,putL_some2,wantedA,exec1,evalO,initT,T.get_set,T.get_leaf,callA,ofOpt,ofConst,partsA,Nat.reduceLT,reduceEqDiff,if_true,if_false,true_and,Option.getD_some,ez_P,initT,Tryd.f19,hlr,yrD_0]
 refine WX.mono (lp _ _ ?_ ?_ ?_ ?_ ?_) ?_
 ·exact Nat.le_refl _
 ·simp only[T.get_set,T.get_leaf,reduceEqDiff,if_true,if_false] <;> rfl
 ·simp only[T.get_set,T.get_leaf,reduceEqDiff,if_true,if_false] <;> rfl
 ·simp only[T.get_set,T.get_leaf,reduceEqDiff,if_true,if_false] <;> rfl
 ·simp only[T.get_set,T.get_leaf,reduceEqDiff,if_true,if_false] <;> rfl
 rintro _ ⟨t',S',tk,rfl,T3⟩
 simp(maxSteps:=2000000) (disch:=omega)only[W_region,W_seq,W_ret,seqQ_normal2,seqQ_exit2,blockW_exit2,WL_nil2,WL_cons,execL_val2,putL_some2,wantedA,exec1,evalO,T.get_set,ofOpt,finW_ret,giveW,resultsA,tupA,Nat.reduceLT,reduceEqDiff,if_true,if_false,true_and,T3]
 exact fin _ _
theorem od_u{v:AV}{l:List PDc}{S:St}{Q:R→Prop}(hv:isRowA 6 v (l.map dcA))(hl:l.length≤10)(h:Q (.ret (.sl 0 0 6 (l.map dcA)) S)):WC EZ 19 [v] S Q :=
 callZ (od_k (clean v) l (row_cl hv).2 hl) (by kernel_rfl) (by show(freeV v && true)=true;rw[(row_cl hv).1];rfl) rfl fun a _ _ hs'=>by
  have:=hs' (clean v) l rfl (row_cl hv).2 hl
  subst this
  exact h
end Go.Ax
