/- TuS -/
import Derived.Test.YtkjknlaffgkloaaDoorTpG23
import Derived.Test.YtkjknlaffgkloaaDoorTpG17
import Derived.Test.YtkjknlaffgkloaaDoorTpG19
set_option linter.unusedVariables false
set_option linter.unusedSimpArgs false
set_option maxHeartbeats 16000000
noncomputable section
namespace Go.Ax
open Go.RowKit Go.Proofs
set_option maxRecDepth 100000
theorem cellAt{γ:Gh}{w:World}{es:List AV}{sz b o:Nat}{c:Nat→Value}(hes:∀e∈es,e.cells.length=sz)(h:∀k,k<(flat es).length→γ.im b (o+k)∧w.cell? ⟨b,o+k,none⟩=some (c k))
  (hr:∀k (h:k<(flat es).length),VR γ w (flat es)[k] (c k)) {i:Nat} {x:AV} (hx:es[i]? = some x) {k:Nat} (hk:k<sz) {a:AV} (ha:x.cells[k]? = some a):∃v,w.cell? ⟨b,o+i*sz+k,none⟩=some v∧VR γ w a v:=by
 obtain⟨h1,h2⟩:=flat_at hes hx
 have hlt:i*sz+k<(flat es).length:=by omega
 have e:=h2 k hk
 rw[ha,List.getElem?_eq_getElem hlt]at e
 injection e with e
 have:=hr _ hlt
 rw[e]at this
 exact⟨_,by rw[Nat.add_assoc];exact(h _ hlt).2,this⟩
theorem vr_str{γ:Gh}{w:World}{l:List UInt8}{v:Value}(h:VR γ w (strS l) v):v=.string ⟨⟨l⟩⟩:=by cases h;rfl
theorem vr_int{γ:Gh}{w:World}{n:Int}{v:Value}(h:VR γ w (.v (.int .i64 n)) v):v=.int .i64 n:=by cases h;rfl
theorem vr_aggL{γ:Gh}{w:World}{cs:List AV}{x:List Value}(h1:∀a∈cs,a.one=true)(h:VRL γ w cs x):VR γ w (.agg cs) (.agg x.toArray):=.agg cs x h.1 h1 h.2
def tb(l:List UInt8):ByteArray:=⟨⟨l⟩⟩
theorem tb_app(l m:List UInt8):tb l ++ tb m=tb (l ++ m):=by
 apply ByteArray.ext
 apply Array.ext'
 simp[tb]
def ndOf(n:NdX):Nd:=⟨tb n.name,n.at_,n.ins,n.outs,n.vars,n.eqs⟩
theorem catB_tb{α:Type}(f:α→ByteArray)(g:α→List UInt8)(h:∀x,f x=tb (g x))(l:List α):catB (l.map f)=tb (l.map g).flatten:=by
 have key:∀(l:List α) (a:List UInt8),(l.map f).foldl (· ++ ·) (tb a)=tb (a ++ (l.map g).flatten):=fun l=>by
  induction l with
  |nil=>intro a;simp
  |cons x r ih =>
   intro a
   rw[List.map_cons,List.foldl_cons,h x,tb_app,ih,List.map_cons,List.flatten_cons,List.append_assoc]
 exact(key l []).trans (by rw[List.nil_append])
theorem head_tb(n:NdX):headB (ndOf n)=tb (headF n):=by
 show tb [110,111,100,101,32] ++ tb n.name ++ tb [40] ++ tb (Lib.join (n.ins.map declF) [44,32]) ++ tb [41,32,114,101,116,117,114,110,115,32,40] ++ tb (Lib.join (n.outs.map declF) [44,32]) ++ tb [41,10]=_
 simp only[tb_app]
 rfl
theorem var_tb(n:NdX):varB (ndOf n)=tb (varF n):=by
 unfold varB varF
 by_cases h:n.vars=[]
 ·rw[if_pos h,if_neg (by show ¬ 0<n.vars.length;rw[h];decide)];rfl
 ·rw[if_neg h,if_pos (by show 0<n.vars.length;exact List.length_pos_iff.2 h)]
  show tb [118,97,114,32] ++ tb (Lib.join (n.vars.map declF) [59,32]) ++ tb [59,10]=_
  simp only[tb_app]
theorem eq_tb(d:Nat)(q:EqX):eqL d q=tb (eqLF q):=by
 show tb [32,32] ++ tb (eqF q.left q.async q.e) ++ tb [59,10]=_
 simp only[tb_app]
 rfl
theorem node_tb(d:Nat)(n:NdX):nodeB d (ndOf n)=tb (nodeF n):=by
 have h:nodeB d (ndOf n)=headB (ndOf n) ++ varB (ndOf n) ++ tb [108,101,116,10] ++ catB (n.eqs.map (eqL d)) ++ tb [116,101,108,10]:=rfl
 rw[h,head_tb,var_tb,catB_tb (eqL d) eqLF (eq_tb d)]
 simp only[tb_app]
 have h2:=nodeF_is n []
 rw[List.nil_append,List.nil_append]at h2
 rw[h2]
theorem print_tb(d:Nat)(l:List NdX):printT d (l.map ndOf)=tb (printF l):=by
 have h:printT d (l.map ndOf)=catB ((l.map ndOf).map (nodeB d)):=rfl
 rw[h,List.map_map]
 exact catB_tb (fun n=>nodeB d (ndOf n)) nodeF (node_tb d) l
theorem rdD_of{w:World}{l:List PDc}{v:Value}(h:VR (GhW w) w (.sl 0 0 6 (l.map dcA)) v):RdD w w.heap.size v l:=by
 have h':=h
 cases h with
 |sl _ _ _ _ b o cap c hsz hes h1 hc hr ht hf hcap hb=>exact⟨_,cap,by rw[List.length_map],_,h',rfl⟩
theorem rdQ_of{w:World}{qs:List EqX}{v:Value}(h:VR (GhW w) w (eqRow qs) v):RdQ w w.heap.size 0 v qs:=by
 cases qs with
 |nil=>cases h;exact⟨_,_,rfl,.inl rfl⟩
 |cons q0 r0 =>
  have h:VR (GhW w) w (.sl 0 0 8 ((q0 :: r0).map eqX)) v:=h
  generalize q0 :: r0=qs at h ⊢
  cases h with
  |sl _ _ _ _ b o cap c hsz hes h1 hc hr ht hf hcap hb =>
   obtain⟨arr,T,fr,ha,_⟩:=hb
   have hbk:b<w.heap.size:=(Array.getElem?_eq_some_iff.1 ha).1
   refine⟨_,cap,by rw[List.length_map],.inr ⟨b,o,rfl,hbk,fun i hi=>?_⟩⟩
   have hx:(qs.map eqX)[i]? = some (eqX qs[i]):=by rw[List.getElem?_map,List.getElem?_eq_getElem hi];rfl
   generalize qs[i]=q at hx
   obtain⟨left,async,e⟩:=q
   cases e with
   |mk k a n nm off kids =>
   have he:eqX ⟨left,async,.mk k a n nm off kids⟩=.agg [.sl 0 0 2 (left.map lfA),.v (.bool async),i64A k,i64A a,i64A n,strS nm,.v (.bool off),rowX kids]:=by
    unfold eqX;rw[show(EqX.mk left async (.mk k a n nm off kids)).e=.mk k a n nm off kids from rfl,exA_mk];rfl
   have hx':=hx
   rw[he]at hx
   have at_:∀j z,(AV.agg [.sl 0 0 2 (left.map lfA),.v (.bool async),i64A k,i64A a,i64A n,strS nm,.v (.bool off),rowX kids]).cells[j]? = some z→j<8→∃v,w.cell? ⟨b,o+i*8+j,none⟩=some v∧VR (GhW w) w z v:=fun j z hka hk8=>cellAt hes hc hr hx hk8 hka
   obtain⟨v0,c0,r0⟩:=at_ 0 (.sl 0 0 2 (left.map lfA)) rfl (by omega)
   obtain⟨v1,c1,r1⟩:=at_ 1 (.v (.bool async)) rfl (by omega)
   obtain⟨v2,c2,r2⟩:=at_ 2 (i64A k) rfl (by omega)
   obtain⟨v3,c3,r3⟩:=at_ 3 (i64A a) rfl (by omega)
   obtain⟨v4,c4,r4⟩:=at_ 4 (i64A n) rfl (by omega)
   obtain⟨v5,c5,r5⟩:=at_ 5 (strS nm) rfl (by omega)
   obtain⟨v6,c6,r6⟩:=at_ 6 (.v (.bool off)) rfl (by omega)
   obtain⟨v7,c7,r7⟩:=at_ 7 (rowX kids) rfl (by omega)
   obtain⟨pL,cL,rfl⟩:∃p c,v0=.slice p left.length c:=by cases r0;exact⟨_,_,by rw[List.length_map]⟩
   have e1:v1=.bool async:=by cases r1;rfl
   have e2:=vr_int r2
   have e3:=vr_int r3
   have e4:=vr_int r4
   have e5:=vr_str r5
   have e6:v6=.bool off:=by cases r6;rfl
   subst e1;subst e2;subst e3;subst e4;subst e5;subst e6
   obtain⟨sp,sl,sc,rfl⟩:∃p n c,v7=.slice p n c:=by
    cases kids with
    |nil=>cases r7;exact⟨_,_,_,rfl⟩
    |cons x r=>cases r7;exact⟨_,_,_,rfl⟩
   refine⟨pL,cL,k,a,n,⟨⟨nm⟩⟩,off,sp,sl,sc,c0,c1,c2,c3,c4,c5,c6,c7,_,vr_aggL (fun z hz=>?_) (VRL.cons r0 (VRL.cons r1 (VRL.cons r2 (VRL.cons r3 (VRL.cons r4 (VRL.cons r5 (VRL.cons r6 (VRL.cons r7 (VRL.nil _ _)))))))))  , he.symm⟩
   simp only[List.mem_cons,List.not_mem_nil,or_false]at hz
   rcases hz with rfl |rfl |rfl |rfl |rfl |rfl |rfl |rfl
   iterate 7 rfl
   cases kids <;> rfl
theorem rdN_of{w:World}{l:List NdX}{x:Value}(h:VR (GhW w) w (ndRow l) x):RdN w w.heap.size 0 x (l.map ndOf):=by
 unfold ndRow at h
 cases h with
 |sl _ _ _ _ b o cap c hsz hes h1 hc hr ht hf hcap hb =>
  obtain⟨arr,T,fr,ha,_⟩:=hb
  have hbk:b<w.heap.size:=(Array.getElem?_eq_some_iff.1 ha).1
  refine⟨_,cap,by rw[List.length_map,List.length_map],.inr ⟨b,o,rfl,hbk,fun i hi=>?_⟩⟩
  rw[List.length_map]at hi
  have hy:(l.map ndA)[i]? = some (ndA l[i]):=by rw[List.getElem?_map,List.getElem?_eq_getElem hi];rfl
  simp only[List.getElem_map]
  generalize l[i]=n at hy
  have at_:∀k z,(ndA n).cells[k]? = some z→k<6→∃v,w.cell? ⟨b,o+i*6+k,none⟩=some v∧VR (GhW w) w z v:=fun k z hka hk8=>cellAt hes hc hr hy hk8 hka
  obtain⟨v0,c0,r0⟩:=at_ 0 (strS n.name) rfl (by omega)
  obtain⟨v1,c1,r1⟩:=at_ 1 (i64A n.at_) rfl (by omega)
  obtain⟨v2,c2,r2⟩:=at_ 2 (.sl 0 0 6 (n.ins.map dcA)) rfl (by omega)
  obtain⟨v3,c3,r3⟩:=at_ 3 (.sl 0 0 6 (n.outs.map dcA)) rfl (by omega)
  obtain⟨v4,c4,r4⟩:=at_ 4 (.sl 0 0 6 (n.vars.map dcA)) rfl (by omega)
  obtain⟨v5,c5,r5⟩:=at_ 5 (eqRow n.eqs) rfl (by omega)
  have e0:=vr_str r0;subst e0
  have e1:=vr_int r1;subst e1
  exact⟨v2,v3,v4,v5,⟨c0,c1,c2,c3,c4,c5⟩,rdD_of r2,rdD_of r3,rdD_of r4,rdQ_of r5⟩
theorem print_k(l:List NdX)(hl:l.length≤3)(hok:∀n∈l,okNd n):KnZ 11 [ndRow l]:=by
 refine⟨strS (printF l),rfl,rfl,fun w im him hg vs hv=>?_,fun l' q _ _=>?_⟩
 ·obtain⟨h1,h2⟩:=hv
  match vs,h1 with
  | [x],_ =>
   have hx:VR ⟨fun _=>none,im⟩ w (ndRow l) x:=h2 0 (by simp) (by simp)
   have him2:∀b o,im b o→(GhW w).im b o:=fun b o h=>by
    obtain⟨v,hv⟩:=him b o h
    exact⟨World.block_lt_of_cell? w _ hv,v,hv⟩
   have hx2:=hx.clean (γ':=GhW w) him2 (ndRow_fr l).1
   rw[(ndRow_fr l).2]at hx2
   have hg2:GR (GhW w) w gZ:=hg.mono ⟨fun _ _ h=>(by cases h),fun b o h=>him2 b o h,fun b o v h hv=>hv,fun b arr T fr h=>⟨arr,fr,h,rfl⟩⟩
   have hz:(printT 0 (l.map ndOf)).size≤100000000000000:=by
    rw[print_tb]
    have:=printF_len hl hok
    show(printF l).length≤_
    omega
   have:=print_any x (l.map ndOf) w w.heap.size 0 (by omega) (Nat.le_refl _) hg2 (rdN_of hx2) (fun y hy=>by
    obtain⟨n,hn,rfl⟩:=List.mem_map.1 hy
    obtain⟨_,⟨a1,a2⟩,⟨b1,b2⟩,⟨c1,c2⟩,d1,d2⟩:=hok n hn
    exact⟨⟨by show n.ins.length≤10;omega,a2⟩,⟨by show n.outs.length≤10;omega,b2⟩,⟨by show n.vars.length≤10;omega,c2⟩,by show n.eqs.length≤10;omega,d2⟩) (by rw[List.length_map];omega) hz
   refine this.mono fun e w' he=>?_
   obtain⟨rfl,hb⟩:=he
   rw[print_tb]
   exact pureQ_of him hb fun _ _=>.v _ rfl
 ·simp only[List.cons.injEq,and_true]at q
  rw[← ndRow_inj q]
theorem print_u{l:List NdX}(hl:l.length≤3)(hok:∀n∈l,okNd n){S:St}{Q:R→Prop}{tok off:Nat}(h:Q (.ret (strS (printF l)) S)):WC EZ 11 [.sl tok off 6 (l.map ndA)] S Q :=
 callZ (args':=[ndRow l]) (print_k l hl hok) (by kernel_rfl) (by show(freeL (l.map ndA) && true)=true;rw[(ndL_fr l).1];rfl) (by show [AV.sl 0 0 6 (cleanL (l.map ndA))]=_;rw[(ndL_fr l).2];rfl) fun x _ _ hs=>by
  have:=hs l rfl hok hl
  subst this
  exact h
end Go.Ax
noncomputable section
open Nat (reduceEqDiff)
namespace Go.Ax
open Go.RowKit Go.Proofs
set_option maxRecDepth 100000
theorem yrL_1(a0 a1:AV):oBuildSlice Tryd.prog 71 1 [(0,.agg [a0,a1])]=some (.sl 1 0 2 [.agg [a0,a1]]):=by kernel_rfl
theorem yrV_1(a0 a1 a2 a3 a4 a5 a6 a7:AV):oBuildSlice Tryd.prog 35 1 [(0,.agg [a0,a1,a2,a3,a4,a5,a6,a7])]=some (.sl 1 0 8 [.agg [a0,a1,a2,a3,a4,a5,a6,a7]]):=by kernel_rfl
theorem yrW_1(a0 a1 a2 a3 a4 a5:AV):oBuildSlice Tryd.prog 29 1 [(0,.agg [a0,a1,a2,a3,a4,a5])]=some (.sl 1 0 6 [.agg [a0,a1,a2,a3,a4,a5]]):=by kernel_rfl
theorem ybN_5(l:List UInt8)(i:Int)(a1 a2 a3:List AV):oBuild Tryd.prog 37 [(0,.v (.string ⟨⟨l⟩⟩)),(1,.v (.int .i64 i)),(2,.sl 0 0 6 a1),(3,.sl 0 0 6 a2),(4,.sl 0 0 6 a3)]=some (.agg [.v (.string ⟨⟨l⟩⟩),.v (.int .i64 i),.sl 0 0 6 a1,.sl 0 0 6 a2,.sl 0 0 6 a3,.nils]):=by kernel_rfl
theorem ybQ_2(o:Bool)(c0 c1 c2 c3 c4 c5:AV):oBuild Tryd.prog 73 [(1,.v (.bool o)),(2,.agg [c0,c1,c2,c3,c4,c5])]=some (.agg [.nils,.v (.bool o),c0,c1,c2,c3,c4,c5]):=by kernel_rfl
def KO(t t':T AV):Prop:=t'.get 3=t.get 3∧t'.get 6=t.get 6∧t'.get 9=t.get 9∧t'.get 13=t.get 13∧t'.get 14=t.get 14∧t'.get 15=t.get 15∧t'.get 34=t.get 34∧t'.get 35=t.get 35∧t'.get 36=t.get 36
theorem KO.trans{a b c:T AV}(h:KO a b)(h2:KO b c):KO a c:=by
 obtain⟨p3,p6,p9,p13,p14,p15,p34,p35,p36⟩:=h
 obtain⟨q3,q6,q9,q13,q14,q15,q34,q35,q36⟩:=h2
 exact⟨q3.trans p3,q6.trans p6,q9.trans p9,q13.trans p13,q14.trans p14,q15.trans p15,q34.trans p34,q35.trans p35,q36.trans p36⟩
def Low(b:Nat)(S S':St):Prop:=S.next≤S'.next∧∀id,2≤id→id<b→S'.mem.get id=S.mem.get id
theorem Low.trans{b:Nat}{x y z:St}(h:Low b x y)(h2:Low b y z):Low b x z:=⟨Nat.le_trans h.1 h2.1,fun id i1 i2=>(h2.2 id i1 i2).trans (h.2 id i1 i2)⟩
theorem Low.mono{b c:Nat}{x y:St}(h:Low b x y)(hc:c≤b):Low c x y:=⟨h.1,fun id i1 i2=>h.2 id i1 (by omega)⟩
theorem low_box(S:St)(z c:List AV):Low S.next S ((S.newBox z).to S.next c):=⟨by rw[to_next,nb_next];omega,fun id _ i2=>by rw[to_get,nb_get,if_neg (by omega),if_neg (by omega)]⟩
theorem acc_low{sz b:Nat}{S S':St}{v:AV}{es:List AV}(h:Acc sz S v es)(hb:S.next≤b)(hl:Low b S S'):Acc sz S' v es:=h.keep hl.1 fun id m h1 h2 h3=>(hl.2 id h1 (by omega)).trans h3
def on0:Code:=match Tryd.f6.body with
 |some (.seq c _)=>c
 |_=>.skip
def on1:Code:=match Tryd.f6.body with
 |some (.seq _ (.seq c _))=>c
 |_=>.skip
def on2:Code:=match Tryd.f6.body with
 |some (.seq _ (.seq _ (.seq (.seq c _) _)))=>c
 |_=>.skip
def onL:Code:=match Tryd.f6.body with
 |some (.seq _ (.seq _ (.seq (.seq _ (.block _ (.loop c))) _)))=>c
 |_=>.skip
def onZ:Code:=match Tryd.f6.body with
 |some (.seq _ (.seq _ (.seq _ c)))=>c
 |_=>.skip
theorem on_is:Tryd.f6.body=some (.seq on0 (.seq on1 (.seq (.seq on2 (.block 0 (.loop onL))) onZ))):=by kernel_rfl
def om3:Code:=match onL with
 |.seq c _=>c
 |_=>.skip
def omC:Code:=match onL with
 |.seq _ (.seq c _)=>c
 |_=>.skip
def om4:Code:=match onL with
 |.seq _ (.seq _ (.seq (.block _ (.seq c _)) _))=>c
 |_=>.skip
def om5:Code:=match onL with
 |.seq _ (.seq _ (.seq (.block _ (.seq _ (.seq c _))) _))=>c
 |_=>.skip
def om6:Code:=match onL with
 |.seq _ (.seq _ (.seq (.block _ (.seq _ (.seq _ (.seq (.seq c _) _)))) _))=>c
 |_=>.skip
def omL:Code:=match onL with
 |.seq _ (.seq _ (.seq (.block _ (.seq _ (.seq _ (.seq (.seq _ (.block _ (.loop c))) _)))) _))=>c
 |_=>.skip
def om17:Code:=match onL with
 |.seq _ (.seq _ (.seq (.block _ (.seq _ (.seq _ (.seq _ c)))) _))=>c
 |_=>.skip
def om18:Code:=match onL with
 |.seq _ (.seq _ (.seq _ c))=>c
 |_=>.skip
theorem om_is:onL=.seq om3 (.seq omC (.seq (.block 1 (.seq om4 (.seq om5 (.seq (.seq om6 (.block 2 (.loop omL))) om17)))) om18)):=by kernel_rfl
def ov7:Code:=match omL with
 |.seq c _=>c
 |_=>.skip
def ovC:Code:=match omL with
 |.seq _ (.seq c _)=>c
 |_=>.skip
def ov8:Code:=match omL with
 |.seq _ (.seq _ (.seq (.block _ (.seq c _)) _))=>c
 |_=>.skip
def ov9:Code:=match omL with
 |.seq _ (.seq _ (.seq (.block _ (.seq _ (.seq c _))) _))=>c
 |_=>.skip
def ov10:Code:=match omL with
 |.seq _ (.seq _ (.seq (.block _ (.seq _ (.seq _ (.seq (.seq c _) _)))) _))=>c
 |_=>.skip
def ovL:Code:=match omL with
 |.seq _ (.seq _ (.seq (.block _ (.seq _ (.seq _ (.seq (.seq _ (.block _ (.loop c))) _)))) _))=>c
 |_=>.skip
def ov15:Code:=match omL with
 |.seq _ (.seq _ (.seq (.block _ (.seq _ (.seq _ (.seq _ c)))) _))=>c
 |_=>.skip
def ov16:Code:=match omL with
 |.seq _ (.seq _ (.seq _ c))=>c
 |_=>.skip
theorem ov_is:omL=.seq ov7 (.seq ovC (.seq (.block 3 (.seq ov8 (.seq ov9 (.seq (.seq ov10 (.block 4 (.loop ovL))) ov15)))) ov16)):=by kernel_rfl
theorem ol_lp{l:List (List UInt8 × Int)}(hl:l.length≤3){c:Nat}{tl:List AV}{S0:St}(hc2:2≤c):∀(n k:Nat) (lv:AV) (t:T AV) (S:St),k+n=l.length→Acc 2 S lv ((l.take k).map lfA)→(l.take k=[]→lv=.nils)→c<S.next→S.mem.get c=some (.box (lv :: tl))→(∀id es',lv=.sl id 0 2 es'→c<id)→Low c S0 S→t.get 9=some (.ptr c 0)→t.get 47=some (.sl 0 0 2 (l.map lfA))→t.get 48=some (.v (.int .i64 ((l.length:Nat):Int)))→t.get 49=some (.v (.int .i64 ((k:Nat):Int))) →
  WX EZ 73 (.loop ovL) ⟨t,[]⟩ S (fun r=>∃t' S' lv',r=.out (.exit 4) ⟨t',[]⟩ S'∧KO t t'∧Acc 2 S' lv' (l.map lfA)∧(l=[]→lv' = .nils)∧c<S'.next∧S'.mem.get c=some (.box (lv' :: tl))∧Low c S0 S')
 |0,k,lv,t,S,hk,hA,hz,hcn,mc,hnew,hlow,T9,T47,T48,T49=>by
  refine WX_loop (W_sound ?_)
  have hlt:decide ((k:Int)<(l.length:Int))=false:=by rw[decide_eq_false_iff_not];omega
  rw[List.take_of_length_le (show l.length≤k by omega)]at hA hz
  simp(maxSteps:=2000000) (disch:=omega)only[thenW_exit,W_skip,W_region,W_seq,W_cond,W_block,W_exit,seqQ_normal2,seqQ_exit2,WL_nil2,WL_cons,execL_val2,putL_some2,condW_f2,wantedA,exec1,evalO,T.get_set,ofOpt,neNil3,fb_lss,Nat.reduceLT,reduceEqDiff,if_true,if_false,true_and,Bool.false_eq_true,ez_P,neNil3,ovL,omL,onL,Tryd.f6,T47,T48,T49,hlt]
  exact⟨_,_,lv,rfl,⟨by simp only[T.get_set,reduceEqDiff,if_false],by simp only[T.get_set,reduceEqDiff,if_false],by simp only[T.get_set,reduceEqDiff,if_false],by simp only[T.get_set,reduceEqDiff,if_false],by simp only[T.get_set,reduceEqDiff,if_false],by simp only[T.get_set,reduceEqDiff,if_false],by simp only[T.get_set,reduceEqDiff,if_false],by simp only[T.get_set,reduceEqDiff,if_false],by simp only[T.get_set,reduceEqDiff,if_false]⟩,hA,hz,hcn,mc,hlow⟩
 |n+1,k,lv,t,S,hk,hA,hz,hcn,mc,hnew,hlow,T9,T47,T48,T49=>by
  refine WX_loop (W_sound ?_)
  have hkl:k<l.length:=by omega
  have hlt:decide ((k:Int)<(l.length:Int))=true:=by rw[decide_eq_true_eq];omega
  have hws:=wrapS k (by omega)
  have hx:=yxGr 0 0 (l.map lfA) k (by rw[List.length_map];exact hkl)
  rw[List.getElem_map]at hx
  have hcl:(lfA l[k]).cells=[.v (.string ⟨⟨l[k].1⟩⟩),.v (.int .i64 l[k].2)]:=rfl
  rw[hcl]at hx
  have htk:(l.take k).map lfA ++ [lfA l[k]]=(l.take (k+1)).map lfA:=by rw[List.take_succ_eq_append_getElem hkl,List.map_append];rfl
  obtain⟨bytes,hrt⟩:=ytL
  have l1:=low_box S [.v (.string ⟨⟨[]⟩⟩),.v (.int .i64 0)] [.v (.string ⟨⟨l[k].1⟩⟩),.v (.int .i64 l[k].2)]
  have hA1:=acc_low hA (Nat.le_refl _) l1
  have mc1:((S.newBox [.v (.string ⟨⟨[]⟩⟩),.v (.int .i64 0)]).to S.next [.v (.string ⟨⟨l[k].1⟩⟩),.v (.int .i64 l[k].2)]).mem.get c=some (.box (lv :: tl)):=(l1.2 c hc2 hcn).trans mc
  obtain⟨S2,happ,hA2,n2,k2⟩:=acc_push2 hrt hA1 (by rw[to_next,nb_next];omega) (lfA l[k]) rfl (by rw[List.length_map,List.length_take];omega)
  rw[htk]at happ hA2
  simp only[to_next,nb_next]at happ hA2 n2 k2
  have mc2:S2.mem.get c=some (.box (lv :: tl)):=(k2 c hc2 (by omega) (fun es' e=>by have:=hnew c es' e;omega)).trans mc1
  have hlow2:Low c S0 (S2.to c (.sl (S.next+1) 0 2 ((l.take (k+1)).map lfA) :: tl)):=by
   refine hlow.trans ⟨by rw[to_next];omega,fun id i1 i2=>?_⟩
   rw[to_get,if_neg (by omega),k2 id i1 (by omega) (fun es' e=>by have:=hnew id es' e;omega)]
   exact l1.2 id i1 (by omega)
  have fin:=fun(t1:T AV) (hK:KO t t1) (h9:t1.get 9=some (.ptr c 0)) (h47:t1.get 47=some (.sl 0 0 2 (l.map lfA))) (h48:t1.get 48=some (.v (.int .i64 ((l.length:Nat):Int)))) (h49:t1.get 49=some (.v (.int .i64 ((k+1:Nat):Int))))=>WX.mono (ol_lp hl (c:=c) (tl:=tl) (S0:=S0) hc2 n (k+1) _ t1 _ (by omega) (acc_to hA2 mc2) (fun h=>absurd (congrArg List.length h) (by rw[List.length_take,List.length_nil];omega)) (by rw[to_next];omega) (by rw[to_get,if_pos rfl]) (fun id es' e=>by injection e with e;omega) hlow2 h9 h47 h48 h49) (Q':=fun r=>∃t' S' lv',r=.out (.exit 4) ⟨t',[]⟩ S'∧KO t t'∧Acc 2 S' lv' (l.map lfA)∧(l=[]→lv' = .nils)∧c<S'.next∧S'.mem.get c=some (.box (lv' :: tl))∧Low c S0 S') (fun r ⟨t',S',lv',h1,h2,h3⟩=>⟨t',S',lv',h1,hK.trans h2,h3⟩)
  have hne:¬ c=S.next:=by omega
  have hlf:lfA l[k]=.agg [.v (.string ⟨⟨l[k].1⟩⟩),.v (.int .i64 l[k].2)]:=rfl
  rw[hlf]at happ
  clear hlf
  clear htk hcl
  generalize (l.take (k+1)).map lfA=nw at *
  generalize l[k].1=nm at *
  generalize l[k].2=ap at *
  generalize l.map lfA=lw at *
  simp(maxSteps:=2000000) (disch:=omega)only[thenW_normal,thenW_exit,W_skip,W_region,W_seq,W_cond,W_block,W_exit,seqQ_normal2,seqQ_exit2,blockW_normal2,WL_nil2,WL_cons,execL_val2,execL_skip2,putL_none2,putL_some2,condW_t2,wantedA,exec1,evalO,T.get_set,callA,ofOpt,ofOptS,ofConst,partsA,neNil3,fb_lss,fb_add,Nat.reduceLT,Nat.reduceAdd,reduceEqDiff,if_true,if_false,true_and,List.getElem?_cons_zero,List.nil_append,List.append_nil,Bool.false_eq_true,to_get,nb_get,cl1_box,clN_box,vstB_agg,vstB_s,List.length_cons,List.length_nil,Nat.zero_add,Nat.add_zero,Nat.reduceLeDiff,List.drop_zero,List.drop_succ_cons,List.drop_nil,List.take_succ_cons,List.take_zero,and_self,ez_P,neNil3,clN_box,ylLr,yleLr,ysLr,yaLr,yfQ_0,yl71,ys71x,to_get,nb_get,ovL,omL,onL,Tryd.f6,T9,T47,T48,T49,hlt,hws,hx,happ,mc1,mc2,yrL_1]
  refine fin _ ⟨by simp only[T.get_set,reduceEqDiff,if_false],by simp only[T.get_set,reduceEqDiff,if_false],by simp only[T.get_set,reduceEqDiff,if_false],by simp only[T.get_set,reduceEqDiff,if_false],by simp only[T.get_set,reduceEqDiff,if_false],by simp only[T.get_set,reduceEqDiff,if_false],by simp only[T.get_set,reduceEqDiff,if_false],by simp only[T.get_set,reduceEqDiff,if_false],by simp only[T.get_set,reduceEqDiff,if_false]⟩ ?_ ?_ ?_ ?_
  ·simp only[T.get_set,reduceEqDiff,if_false,T9]
  ·simp only[T.get_set,reduceEqDiff,if_false,T47]
  ·simp only[T.get_set,reduceEqDiff,if_false,T48]
  ·simp only[T.get_set,reduceEqDiff,if_true,if_false]
end Go.Ax
noncomputable section
open Nat (reduceLT reduceEqDiff)
namespace Go.Ax
open Go.RowKit Go.Proofs
set_option maxRecDepth 100000
def KE(t t':T AV):Prop:=t'.get 3=t.get 3∧t'.get 6=t.get 6∧t'.get 13=t.get 13∧t'.get 14=t.get 14∧t'.get 15=t.get 15
theorem KE.trans{a b c:T AV}(h:KE a b)(h2:KE b c):KE a c:=⟨h2.1.trans h.1,h2.2.1.trans h.2.1,h2.2.2.1.trans h.2.2.1,h2.2.2.2.1.trans h.2.2.2.1,h2.2.2.2.2.trans h.2.2.2.2⟩
theorem oe_lp{eqs:List EqX}(hok:∀q∈eqs,okQ q)(hl:eqs.length≤5){nm:List UInt8}{at0:Int}{a1 a2 a3:List AV}{c:Nat}{S0:St}(hc2:2≤c):∀(n i:Nat) (ev:AV) (es:List AV) (t:T AV) (S:St),i+n=eqs.length→Acc 8 S ev es→es.length=i→freeL es=true→cleanL es=(eqs.take i).map eqX→(i=0→ev=.nils)→c<S.next→S.mem.get c=some (.box (ndX nm at0 a1 a2 a3 ev))→(∀id es',ev=.sl id 0 8 es'→c<id)→Low c S0 S→t.get 6=some (.ptr c 0)→t.get 34=some (eqRow eqs)→t.get 35=some (.v (.int .i64 ((eqs.length:Nat):Int)))→t.get 36=some (.v (.int .i64 ((i:Nat):Int))) →
  WX EZ 73 (.loop omL) ⟨t,[]⟩ S (fun r=>∃t' S' ev' es',r=.out (.exit 2) ⟨t',[]⟩ S'∧KE t t'∧Acc 8 S' ev' es'∧freeL es' = true∧cleanL es' = eqs.map eqX∧(eqs=[]→ev' = .nils)∧c<S'.next∧S'.mem.get c=some (.box (ndX nm at0 a1 a2 a3 ev'))∧Low c S0 S')
 |0,i,ev,es,t,S,hi,hA,hle,hfe,hce,hz,hcn,mc,hnew,hlow,T6,T34,T35,T36=>by
  refine WX_loop (W_sound ?_)
  have hlt:decide ((i:Int)<(eqs.length:Int))=false:=by rw[decide_eq_false_iff_not];omega
  rw[List.take_of_length_le (show eqs.length≤i by omega)]at hce
  have hz':eqs=[]→ev=.nils:=fun h=>hz (by rw[h]at hi;simp at hi;omega)
  simp(maxSteps:=2000000) (disch:=omega)only[thenW_exit,W_skip,W_region,W_seq,W_cond,W_block,W_exit,seqQ_normal2,seqQ_exit2,WL_nil2,WL_cons,execL_val2,putL_some2,condW_f2,wantedA,exec1,evalO,T.get_set,ofOpt,neNil3,fb_lss,reduceLT,reduceEqDiff,if_true,if_false,true_and,Bool.false_eq_true,ez_P,neNil3,omL,onL,Tryd.f6,T34,T35,T36,hlt]
  exact⟨_,_,ev,es,rfl,⟨by simp only[T.get_set,reduceEqDiff,if_false],by simp only[T.get_set,reduceEqDiff,if_false],by simp only[T.get_set,reduceEqDiff,if_false],by simp only[T.get_set,reduceEqDiff,if_false],by simp only[T.get_set,reduceEqDiff,if_false]⟩,hA,hfe,hce,hz',hcn,mc,hlow⟩
 |n+1,i,ev,es,t,S,hi,hA,hle,hfe,hce,hz,hcn,mc,hnew,hlow,T6,T34,T35,T36=>by
  refine WX_loop (W_sound ?_)
  have key:∀Q,W EZ 73 (.seq ov7 (.seq ovC (.seq (.block 3 (.seq ov8 (.seq ov9 (.seq (.seq ov10 (.block 4 (.loop ovL))) ov15)))) ov16))) ⟨t,[]⟩ S Q→W EZ 73 omL ⟨t,[]⟩ S Q:=fun Q h=>by rw[ov_is];exact h
  refine key _ ?_
  clear key
  have hil:i<eqs.length:=by omega
  have hlt:decide ((i:Int)<(eqs.length:Int))=true:=by rw[decide_eq_true_eq];omega
  have hws:=wrapS i (by omega)
  have hq:=hok _ (List.getElem_mem hil)
  have hx:=eqs_idx i hil
  have htk:(eqs.take (i+1)).map eqX=(eqs.take i).map eqX ++ [eqX eqs[i]]:=by rw[List.take_succ_eq_append_getElem hil,List.map_append];rfl
  obtain⟨q,hqe⟩:∃q,q=eqs[i]:=⟨_,rfl⟩
  rw[← hqe]at hq hx htk
  obtain⟨c0,c1,c2,c3,c4,c5,hagg,hcl⟩:=eqX_agg q
  rw[hcl]at hx
  obtain⟨hl3,hlo,hoe⟩:=hq
  have hln:∀S,oLen Tryd.prog S 60 (.sl 0 0 2 (q.left.map lfA))=some q.left.length:=fun S=>by rw[ynGr,List.length_map]
  obtain⟨fn1,hf1⟩:∃fn,EZ.F 20=some fn:=fnz_20
  have hown:=fun(S:St) (Q:R→Prop) h=>own_u (S:=S) (Q:=Q) hoe (Nat.le_refl _) h
  rw[hagg]at hown
  have hbl:=beq_lf 0 0 q.left
  have L1:=low_box S [.nils,.v (.bool false),.v (.int .i64 0),.v (.int .i64 0),.v (.int .i64 0),.v (.string ⟨⟨[]⟩⟩),.v (.bool false),.nils] [.sl 0 0 2 (q.left.map lfA),.v (.bool q.async),c0,c1,c2,c3,c4,c5]
  have L2:=low_box ((S.newBox [.nils,.v (.bool false),.v (.int .i64 0),.v (.int .i64 0),.v (.int .i64 0),.v (.string ⟨⟨[]⟩⟩),.v (.bool false),.nils]).to S.next [.sl 0 0 2 (q.left.map lfA),.v (.bool q.async),c0,c1,c2,c3,c4,c5]) [.nils,.v (.bool false),.v (.int .i64 0),.v (.int .i64 0),.v (.int .i64 0),.v (.string ⟨⟨[]⟩⟩),.v (.bool false),.nils] [.nils,.v (.bool q.async),c0,c1,c2,c3,c4,c5]
  simp only[to_next,nb_next]at L2
  have L3:=L1.trans (L2.mono (show S.next≤S.next+1 by omega))
  have fin:=fun(xa:AV) (hxa:freeV xa=true∧clean xa=eqX q) (ev':AV) (t1:T AV) (S1:St) (hK:KE t t1) (hA1:Acc 8 S1 ev' (es ++ [xa])) (hcn1:c<S1.next) (mc1:S1.mem.get c=some (.box (ndX nm at0 a1 a2 a3 ev'))) (hnew1:∀id es',ev' = .sl id 0 8 es'→c<id) (hlow1:Low c S0 S1) (h6:t1.get 6=some (.ptr c 0)) (h34:t1.get 34=some (eqRow eqs)) (h35:t1.get 35=some (.v (.int .i64 ((eqs.length:Nat):Int)))) (h36:t1.get 36=some (.v (.int .i64 ((i+1:Nat):Int))))=>WX.mono (oe_lp hok hl (nm:=nm) (at0:=at0) (a1:=a1) (a2:=a2) (a3:=a3) (c:=c) (S0:=S0) hc2 n (i+1) ev' (es ++ [xa]) t1 S1 (by omega) hA1 (by rw[List.length_append,hle];rfl) (freeL_app hfe (by show(freeV xa && true)=true;rw[hxa.1];rfl)) (by rw[cleanL_app,hce,htk];show _ ++ [clean xa]=_;rw[hxa.2]) (fun h=>absurd h (by omega)) hcn1 mc1 hnew1 hlow1 h6 h34 h35 h36) (Q':=(fun r=>∃t' S' ev' es',r=.out (.exit 2) ⟨t',[]⟩ S'∧KE t t'∧Acc 8 S' ev' es'∧freeL es' = true∧cleanL es' = eqs.map eqX∧(eqs=[]→ev' = .nils)∧c<S'.next∧S'.mem.get c=some (.box (ndX nm at0 a1 a2 a3 ev'))∧Low c S0 S')) (fun r ⟨t',S',e1,e2,h1,h2,h3⟩=>⟨t',S',e1,e2,h1,hK.trans h2,h3⟩)
  clear hqe hcl htk
  have hne1:¬ S.next=S.next+1:=by omega
  have hne2:¬ S.next+1=S.next:=by omega
  simp(maxSteps:=2000000) (disch:=omega)only[thenW_exit,W_skip,W_region,W_drawn,W_seq,W_cond,W_block,W_exit,seqQ_normal2,seqQ_exit2,WL_nil2,WL_cons,execL_val2,execL_skip2,putL_none2,putL_some2,condW_t2,wantedA,exec1,evalO,T.get_set,ofOpt,ofOptS,neNil3,fb_lss,reduceLT,Nat.reduceAdd,reduceEqDiff,if_true,if_false,true_and,List.nil_append,List.append_nil,Bool.false_eq_true,nb_get,vstB_agg,List.length_cons,List.length_nil,Nat.zero_add,Nat.reduceLeDiff,List.drop_succ_cons,List.drop_nil,List.take_succ_cons,List.take_zero,and_self,ez_P,neNil3,yleAr,ysAr,yaAr,nb_get,ov7,ovC,ov8,ov9,ov10,omL,onL,Tryd.f6,T34,T35,T36,hlt,hx]
  refine WD_byFl (x:=⟨6,9,[0,1,2,3,4,5],[7]⟩) [(0,true),(1,true),(2,true),(3,true),(4,true),(1,false),(5,true),(6,true),(7,true)] (by kernel_rfl) (by kernel_rfl) (by decide) ?_
  simp(maxSteps:=2000000) (disch:=omega)only[wantedA,exec1,evalO,T.get_set,callA,mapO,ofOpt,reduceLT,Nat.reduceAdd,reduceEqDiff,if_true,if_false,true_and,List.getElem?_toArray,List.getElem?_cons_succ,List.getElem?_cons_zero,List.nil_append,List.append_nil,Bool.false_eq_true,WR_op,execR_val2,execR_enter2,putRW_some2,rsOf,to_get,nb_get,cl1_box,clN_box,List.length_cons,List.length_nil,Nat.zero_add,Nat.reduceLeDiff,List.drop_zero,List.drop_succ_cons,List.take_succ_cons,List.take_zero,ez_P,yl4,clN_box,List.getElem?_cons_succ,yfAr_1,yfAr_2,ylY,to_get,nb_get,hf1]
  refine hown _ _ ?_
  simp(maxSteps:=2000000) (disch:=omega)only[W_region,W_seq,W_block,W_loop,seqQ_normal2,WL_nil2,WL_cons,execL_val2,putL_some2,wantedA,exec1,evalO,T.get_set,callA,ofOpt,ofOptS,ofConst,partsA,reduceLT,Nat.reduceAdd,reduceEqDiff,if_true,if_false,true_and,List.getElem?_cons_succ,List.getElem?_cons_zero,List.nil_append,List.append_nil,WR_nil2,WR_op,WR_re2,execR_val2,execR_skip2,putRW_none2,putRW_some2,retRW_ret2,fixQ_normal2,againO,lookV,to_get,nb_get,to_next,nb_next,cl1_box,vstB_agg,List.length_cons,List.length_nil,Nat.zero_add,Nat.add_zero,Nat.reduceLeDiff,List.drop_succ_cons,List.drop_nil,List.take_zero,and_self,ez_P,yl4,List.getElem?_cons_succ,yfAr_0,ysQ,yaQ,yl60,beqA_bo,to_get,nb_get,to_next,nb_next,hln,ybQ_2,hne1,hne2]
  refine WX.mono (ol_lp (l:=q.left) hl3.2 (c:=S.next+1) (tl:=[.v (.bool q.async),c0,c1,c2,c3,c4,c5]) (S0:=(((S.newBox [.nils,.v (.bool false),.v (.int .i64 0),.v (.int .i64 0),.v (.int .i64 0),.v (.string ⟨⟨[]⟩⟩),.v (.bool false),.nils]).to S.next [.sl 0 0 2 (q.left.map lfA),.v (.bool q.async),c0,c1,c2,c3,c4,c5]).newBox [.nils,.v (.bool false),.v (.int .i64 0),.v (.int .i64 0),.v (.int .i64 0),.v (.string ⟨⟨[]⟩⟩),.v (.bool false),.nils]).to (S.next+1) [.nils,.v (.bool q.async),c0,c1,c2,c3,c4,c5]) (by omega) q.left.length 0 .nils _ _ (by omega) (Acc.none 2 _) (fun _=>rfl) ?_ ?_ (fun id es' e=>by cases e) ⟨Nat.le_refl _,fun _ _ _=>rfl⟩ ?_ ?_ ?_ ?_) ?_
  ·simp only[to_next,nb_next];omega
  ·simp only[to_get,if_true]
  ·simp only[T.get_set,reduceEqDiff,if_true,if_false]
  ·simp only[T.get_set,reduceEqDiff,if_true,if_false]
  ·simp only[T.get_set,reduceEqDiff,if_true,if_false]
  ·simp only[T.get_set,reduceEqDiff,if_true,if_false];rfl
  rintro _ ⟨t1,S1,lv,rfl,⟨k3,k6,k9,k13,k14,k15,k34,k35,k36⟩,hAl,hlz,hcn1,mb1,hlow1⟩
  simp only[T.get_set,reduceEqDiff,if_true,if_false,T6,T34,T35,T36]at k3 k6 k9 k13 k14 k15 k34 k35 k36
  obtain⟨tk,rfl⟩:∃tk,lv=.sl tk 0 2 (q.left.map lfA):=by
   rcases hAl with⟨_,h⟩ | ⟨tk,h,_⟩
   ·have:=congrArg List.length h
    rw[List.length_map,List.length_nil]at this
    omega
   ·exact⟨tk,h⟩
  have L4:Low S.next S S1:=L3.trans (hlow1.mono (by omega))
  have mc1:=(L4.2 c hc2 hcn).trans mc
  obtain⟨bytes,hrt⟩:=ytV
  obtain⟨S2,happ,hA2,n2,k2⟩:=acc_push2 hrt (acc_low hA (Nat.le_refl _) L4) (by omega) (.agg [.sl tk 0 2 (q.left.map lfA),.v (.bool q.async),c0,c1,c2,c3,c4,c5]) rfl (by omega)
  have mc2:=(k2 c hc2 (by omega) (fun es' e=>by have:=hnew c es' e;omega)).trans mc1
  have hfr:=eq_clean (bo:=q.async) (l:=q.left) (lv:=.sl tk 0 2 (q.left.map lfA)) hagg ⟨(lf_fr _).1,by show AV.sl 0 0 2 (cleanL _)=_;rw[(lf_fr _).2]⟩
  have fin2:=fun(t1:T AV) hK=>fin (.agg [.sl tk 0 2 (q.left.map lfA),.v (.bool q.async),c0,c1,c2,c3,c4,c5]) hfr (.sl S1.next 0 8 (es ++ [.agg [.sl tk 0 2 (q.left.map lfA),.v (.bool q.async),c0,c1,c2,c3,c4,c5]])) t1 (S2.to c (ndX nm at0 a1 a2 a3 (.sl S1.next 0 8 (es ++ [.agg [.sl tk 0 2 (q.left.map lfA),.v (.bool q.async),c0,c1,c2,c3,c4,c5]])))) hK (acc_to hA2 mc2) (by rw[to_next];omega) (by rw[to_get,if_pos rfl]) (fun id es' e=>by injection e with e;omega) (hlow.trans ⟨by rw[to_next];have:=L4.1;omega,fun id i1 i2=>by
   rw[to_get,if_neg (by omega),k2 id i1 (by have:=L4.1;omega) (fun es' e=>by have:=hnew id es' e;omega)]
   exact L4.2 id i1 (by omega)⟩)
  clear fin hA2 hfr hAl L1 L2 L3 L4 hlow1 k2 hA hlz
  generalize es ++ [.agg [.sl tk 0 2 (q.left.map lfA),.v (.bool q.async),c0,c1,c2,c3,c4,c5]]=nw at *
  generalize q.left.map lfA=lw at *
  generalize q.async=bo at *
  simp only[ndX]at mc1 mc2 fin2
  simp(maxSteps:=2000000) (disch:=omega)only[thenW_normal,thenW_exit,W_region,seqQ_normal2,seqQ_exit2,blockW_normal2,blockW_exit2,WL_nil2,WL_cons,execL_val2,execL_skip2,putL_none2,putL_some2,wantedA,exec1,evalO,T.get_set,callA,ofOpt,ofOptS,ofConst,partsA,neNil3,fb_add,reduceLT,Nat.reduceAdd,reduceEqDiff,if_true,if_false,true_and,List.getElem?_cons_succ,List.getElem?_cons_zero,List.nil_append,Bool.false_eq_true,cl1_box,clN_box,vstB_s,List.length_cons,List.length_nil,Nat.zero_add,Nat.reduceLeDiff,List.drop_zero,List.drop_succ_cons,List.drop_nil,List.take_succ_cons,List.take_zero,List.cons_append,ez_P,neNil3,clN_box,List.getElem?_cons_succ,yfN_5,ylQ,yl35,ys35x,ov15,ov16,omL,onL,Tryd.f6,k6,k9,k36,mb1,mc1,mc2,happ,yrV_1,hws]
  refine fin2 _ ?_ ?_ ?_ ?_ ?_
  ·exact⟨by simp only[T.get_set,reduceEqDiff,if_false,k3],by simp only[T.get_set,reduceEqDiff,if_false,k6,T6],by simp only[T.get_set,reduceEqDiff,if_false,k13],by simp only[T.get_set,reduceEqDiff,if_false,k14],by simp only[T.get_set,reduceEqDiff,if_false,k15]⟩
  ·simp only[T.get_set,reduceEqDiff,if_false,k6]
  ·simp only[T.get_set,reduceEqDiff,if_false,k34]
  ·simp only[T.get_set,reduceEqDiff,if_false,k35]
  ·simp only[T.get_set,reduceEqDiff,if_true,if_false]
end Go.Ax
noncomputable section
open Nat (reduceLT reduceEqDiff)
namespace Go.Ax
open Go.RowKit Go.Proofs
set_option maxRecDepth 100000
theorem on_lp{l:List NdX}(hok:∀n∈l,okNd n)(hl:l.length≤3):∀(n j tk:Nat) (es:List AV) (t:T AV) (S:St),j+n=l.length→RowO 6 S tk es→es.length=j→freeL es=true→cleanL es=(l.take j).map ndA→2≤S.next→t.get 3=some (.sl tk 0 6 es)→t.get 14=some (.v (.int .i64 ((l.length:Nat):Int)))→t.get 13=some (.sl 0 0 6 (l.map ndA))→t.get 15=some (.v (.int .i64 ((j:Nat):Int))) →
  WX EZ 73 (.loop onL) ⟨t,[]⟩ S (fun r=>∃t' S' tk es',r=.out (.exit 0) ⟨t',[]⟩ S'∧t'.get 3=some (.sl tk 0 6 es')∧freeL es' = true∧cleanL es' = l.map ndA)
 |0,j,tk,es,t,S,hj,RO,hle,hfe,hce,hn2,T3,T14,T13,T15=>by
  refine WX_loop (W_sound ?_)
  have hlt:decide ((j:Int)<(l.length:Int))=false:=by rw[decide_eq_false_iff_not];omega
  rw[List.take_of_length_le (show l.length≤j by omega)]at hce
  simp(maxSteps:=2000000) (disch:=omega)only[thenW_exit,W_skip,W_region,W_seq,W_cond,W_block,W_exit,seqQ_normal2,seqQ_exit2,WL_nil2,WL_cons,execL_val2,putL_some2,condW_f2,wantedA,exec1,evalO,T.get_set,ofOpt,neNil3,fb_lss,reduceLT,reduceEqDiff,if_true,if_false,true_and,Bool.false_eq_true,ez_P,neNil3,onL,Tryd.f6,T13,T14,T15,hlt]
  exact⟨_,_,tk,es,rfl,by simp only[T.get_set,reduceEqDiff,if_false,T3],hfe,hce⟩
 |n+1,j,tk,es,t,S,hj,RO,hle,hfe,hce,hn2,T3,T14,T13,T15=>by
  refine WX_loop (W_sound ?_)
  have key:∀Q,W EZ 73 (.seq om3 (.seq omC (.seq (.block 1 (.seq om4 (.seq om5 (.seq (.seq om6 (.block 2 (.loop omL))) om17)))) om18))) ⟨t,[]⟩ S Q→W EZ 73 onL ⟨t,[]⟩ S Q:=fun Q h=>by rw[om_is];exact h
  refine key _ ?_
  clear key
  have hjl:j<l.length:=by omega
  have hlt:decide ((j:Int)<(l.length:Int))=true:=by rw[decide_eq_true_eq];omega
  have hws:=wrapS j (by omega)
  have hn:=hok _ (List.getElem_mem hjl)
  have hx:=ndrow_idx j hjl
  have htk:(l.take (j+1)).map ndA=(l.take j).map ndA ++ [ndA l[j]]:=by rw[List.take_succ_eq_append_getElem hjl,List.map_append];rfl
  obtain⟨m,hm⟩:∃m,m=l[j]:=⟨_,rfl⟩
  rw[← hm]at hn hx htk
  obtain⟨hnm,hd1,hd2,hd3,hq5,hoq⟩:=hn
  have hr1:=fun(S:St) (Q:R→Prop) h=>od_u (S:=S) (Q:=Q) (v:=.sl 0 0 6 (m.ins.map dcA)) (l:=m.ins) (.inr ⟨0,0,rfl⟩) (by have:=hd1.1;omega) h
  have hr2:=fun(S:St) (Q:R→Prop) h=>od_u (S:=S) (Q:=Q) (v:=.sl 0 0 6 (m.outs.map dcA)) (l:=m.outs) (.inr ⟨0,0,rfl⟩) (by have:=hd2.1;omega) h
  have hr3:=fun(S:St) (Q:R→Prop) h=>od_u (S:=S) (Q:=Q) (v:=.sl 0 0 6 (m.vars.map dcA)) (l:=m.vars) (.inr ⟨0,0,rfl⟩) (by have:=hd3.1;omega) h
  have hb1:=beqA_dc 0 0 m.ins
  have hb2:=beqA_dc 0 0 m.outs
  have hb3:=beqA_dc 0 0 m.vars
  have hlq:∀S,oLen Tryd.prog S 25 (eqRow m.eqs)=some m.eqs.length:=eqs_len
  obtain⟨fn1,hf1⟩:∃fn,EZ.F 19=some fn:=fnz_19
  have L1:=low_box S [.v (.string ⟨⟨[]⟩⟩),.v (.int .i64 0),.nils,.nils,.nils,.nils] [.v (.string ⟨⟨m.name⟩⟩),.v (.int .i64 m.at_),.sl 0 0 6 (m.ins.map dcA),.sl 0 0 6 (m.outs.map dcA),.sl 0 0 6 (m.vars.map dcA),eqRow m.eqs]
  have L2:=low_box ((S.newBox [.v (.string ⟨⟨[]⟩⟩),.v (.int .i64 0),.nils,.nils,.nils,.nils]).to S.next [.v (.string ⟨⟨m.name⟩⟩),.v (.int .i64 m.at_),.sl 0 0 6 (m.ins.map dcA),.sl 0 0 6 (m.outs.map dcA),.sl 0 0 6 (m.vars.map dcA),eqRow m.eqs]) [.v (.string ⟨⟨[]⟩⟩),.v (.int .i64 0),.nils,.nils,.nils,.nils] [.v (.string ⟨⟨m.name⟩⟩),.v (.int .i64 m.at_),.sl 0 0 6 (m.ins.map dcA),.sl 0 0 6 (m.outs.map dcA),.sl 0 0 6 (m.vars.map dcA),.nils]
  simp only[to_next,nb_next]at L2
  have L3:=L1.trans (L2.mono (show S.next≤S.next+1 by omega))
  have lp:=fun t=>oe_lp (eqs:=m.eqs) hoq hq5 (nm:=m.name) (at0:=m.at_) (a1:=m.ins.map dcA) (a2:=m.outs.map dcA) (a3:=m.vars.map dcA) (c:=S.next+1) (S0:=(((S.newBox [.v (.string ⟨⟨[]⟩⟩),.v (.int .i64 0),.nils,.nils,.nils,.nils]).to S.next [.v (.string ⟨⟨m.name⟩⟩),.v (.int .i64 m.at_),.sl 0 0 6 (m.ins.map dcA),.sl 0 0 6 (m.outs.map dcA),.sl 0 0 6 (m.vars.map dcA),eqRow m.eqs]).newBox [.v (.string ⟨⟨[]⟩⟩),.v (.int .i64 0),.nils,.nils,.nils,.nils]).to (S.next+1) [.v (.string ⟨⟨m.name⟩⟩),.v (.int .i64 m.at_),.sl 0 0 6 (m.ins.map dcA),.sl 0 0 6 (m.outs.map dcA),.sl 0 0 6 (m.vars.map dcA),.nils]) (by omega) m.eqs.length 0 .nils [] t _ (by omega) (Acc.none 8 ((((S.newBox [.v (.string ⟨⟨[]⟩⟩),.v (.int .i64 0),.nils,.nils,.nils,.nils]).to S.next [.v (.string ⟨⟨m.name⟩⟩),.v (.int .i64 m.at_),.sl 0 0 6 (m.ins.map dcA),.sl 0 0 6 (m.outs.map dcA),.sl 0 0 6 (m.vars.map dcA),eqRow m.eqs]).newBox [.v (.string ⟨⟨[]⟩⟩),.v (.int .i64 0),.nils,.nils,.nils,.nils]).to (S.next+1) [.v (.string ⟨⟨m.name⟩⟩),.v (.int .i64 m.at_),.sl 0 0 6 (m.ins.map dcA),.sl 0 0 6 (m.outs.map dcA),.sl 0 0 6 (m.vars.map dcA),.nils])) rfl rfl rfl (fun _=>rfl) (by simp only[to_next,nb_next];omega) (by rw[to_get,if_pos rfl];rfl) (fun id es' e=>by cases e) ⟨Nat.le_refl _,fun _ _ _=>rfl⟩
  have fin:=fun(xa:AV) (hxa:freeV xa=true∧clean xa=ndA m) (tk':Nat) (t1:T AV) (S1:St) (RO1:RowO 6 S1 tk' (es ++ [xa])) (hn1:2≤S1.next) h3 h14 h13 h15=>on_lp hok hl n (j+1) tk' (es ++ [xa]) t1 S1 (by omega) RO1 (by rw[List.length_append,hle];rfl) (freeL_app hfe (by show(freeV xa && true)=true;rw[hxa.1];rfl)) (by rw[cleanL_app,hce,htk];show _ ++ [clean xa]=_;rw[hxa.2]) hn1 h3 h14 h13 h15
  clear hm htk
  have hdf1:=dc_free m.ins
  have hdf2:=dc_free m.outs
  have hdf3:=dc_free m.vars
  have hnd:ndA m=.agg [.v (.string ⟨⟨m.name⟩⟩),.v (.int .i64 m.at_),.sl 0 0 6 (m.ins.map dcA),.sl 0 0 6 (m.outs.map dcA),.sl 0 0 6 (m.vars.map dcA),eqRow m.eqs]:=rfl
  rw[hnd]at fin
  have hne1:¬ S.next=S.next+1:=by omega
  have hne2:¬ S.next+1=S.next:=by omega
  have heqs:∀ev es',Acc 8 S ev es'→True:=fun _ _ _=>trivial
  generalize m.ins.map dcA=a1 at *
  generalize m.outs.map dcA=a2 at *
  generalize m.vars.map dcA=a3 at *
  obtain⟨er,her⟩:∃er,eqRow m.eqs=er:=⟨_,rfl⟩
  rw[her]at hx hlq L1 L2 L3 lp
  simp(maxSteps:=2000000) (disch:=omega)only[thenW_exit,W_skip,W_region,W_drawn,W_seq,W_cond,W_block,W_exit,seqQ_normal2,seqQ_exit2,WL_nil2,WL_cons,execL_val2,execL_skip2,putL_none2,putL_some2,condW_t2,wantedA,exec1,evalO,T.get_set,ofOpt,ofOptS,neNil3,fb_lss,reduceLT,Nat.reduceAdd,reduceEqDiff,if_true,if_false,true_and,List.nil_append,List.append_nil,Bool.false_eq_true,nb_get,vstB_agg,List.length_cons,List.length_nil,Nat.zero_add,Nat.reduceLeDiff,List.drop_succ_cons,List.drop_nil,List.take_succ_cons,List.take_zero,and_self,ez_P,neNil3,yleMr,ysMr,yaMr,nb_get,om3,omC,om4,om5,om6,onL,Tryd.f6,T13,T14,T15,hlt,hx]
  refine WD_byFl (x:=⟨14,6,[0,1,2,3,4,5,7,8,10,11,6,9,12,13],[15]⟩) [(0,true),(1,true),(2,true),(3,true),(4,true),(5,true),(7,true),(8,true),(10,true),(11,true),(6,true),(11,false),(8,false),(3,false),(1,false),(9,true),(11,false),(3,false),(1,false),(12,true),(3,false),(1,false),(13,true),(14,true),(15,true)] (by kernel_rfl) (by kernel_rfl) (by decide) ?_
  simp(maxSteps:=2000000) (disch:=omega)only[wantedA,exec1,evalO,T.get_set,callA,mapO,ofOpt,reduceLT,reduceEqDiff,if_true,if_false,true_and,List.getElem?_toArray,List.getElem?_cons_succ,List.getElem?_cons_zero,List.nil_append,List.append_nil,Bool.false_eq_true,WR_op,execR_val2,execR_enter2,putRW_some2,rsOf,to_get,nb_get,cl1_box,Nat.zero_add,Nat.add_zero,ez_P,yl3,yl9,List.getElem?_cons_succ,yfMr_0,yfMr_1,yfMr_2,yfMr_3,yfMr_4,yl24,to_get,nb_get,hf1]
  refine hr1 _ _ ?_
  simp(maxSteps:=2000000) (disch:=omega)only[wantedA,exec1,evalO,T.get_set,callA,mapO,ofOpt,reduceLT,reduceEqDiff,if_true,if_false,true_and,List.getElem?_cons_succ,List.getElem?_cons_zero,List.nil_append,List.append_nil,WR_op,WR_re2,execR_enter2,putRW_some2,retRW_ret2,againO,lookV,to_get,nb_get,cl1_box,ez_P,yl3,yl9,List.getElem?_cons_succ,yl24,beqA_in,beqA_st,to_get,nb_get,hf1,hb2,hb3]
  refine hr2 _ _ ?_
  simp(maxSteps:=2000000) (disch:=omega)only[wantedA,exec1,evalO,T.get_set,callA,mapO,ofOpt,reduceLT,reduceEqDiff,if_true,if_false,true_and,List.getElem?_cons_succ,List.getElem?_cons_zero,List.nil_append,List.append_nil,WR_op,WR_re2,execR_enter2,putRW_some2,retRW_ret2,againO,lookV,to_get,nb_get,cl1_box,ez_P,yl3,yl9,List.getElem?_cons_succ,yl24,beqA_in,beqA_st,to_get,nb_get,hf1,hb3]
  refine hr3 _ _ ?_
  simp(maxSteps:=2000000) (disch:=omega)only[W_region,W_seq,W_block,W_loop,seqQ_normal2,WL_nil2,WL_cons,execL_val2,putL_some2,wantedA,exec1,evalO,T.get_set,callA,ofOpt,ofOptS,ofConst,partsA,reduceLT,Nat.reduceAdd,reduceEqDiff,if_true,if_false,true_and,List.getElem?_cons_succ,List.getElem?_cons_zero,List.nil_append,List.append_nil,WR_nil2,WR_op,WR_re2,execR_val2,execR_skip2,putRW_none2,putRW_some2,retRW_ret2,fixQ_normal2,againO,lookV,to_get,nb_get,to_next,nb_next,cl1_box,vstB_agg,List.length_cons,List.length_nil,Nat.zero_add,Nat.reduceLeDiff,List.drop_succ_cons,List.drop_nil,List.take_zero,and_self,ez_P,yl3,yl9,List.getElem?_cons_succ,yfMr_5,ysN,yaN,yl25,beqA_in,beqA_st,to_get,nb_get,to_next,nb_next,hlq,ybN_5,hne1,hne2]
  refine WX.mono (lp _ ?_ ?_ ?_ ?_) ?_
  ·simp only[T.get_set,reduceEqDiff,if_true,if_false]
  ·simp only[T.get_set,reduceEqDiff,if_true,if_false]
  ·simp only[T.get_set,reduceEqDiff,if_true,if_false]
  ·simp only[T.get_set,reduceEqDiff,if_true,if_false];rfl
  rintro _ ⟨t1,S1,ev,es',rfl,⟨k3,k6,k13,k14,k15⟩,hA8,hfe8,hce8,hz8,hcn1,mc1,hlow1⟩
  clear lp
  simp only[T.get_set,reduceEqDiff,if_true,if_false,T3,T13,T14,T15]at k3 k6 k13 k14 k15
  have L4:Low S.next S S1:=L3.trans (hlow1.mono (by omega))
  have hev:freeV ev=true∧clean ev=er:=by
   rw[← her]
   rcases hA8 with⟨rfl,h⟩ | ⟨tk',rfl,_⟩
   ·subst h
    have:m.eqs=[]:=List.map_eq_nil_iff.1 (show m.eqs.map eqX=[] from hce8.symm)
    rw[this];exact⟨rfl,rfl⟩
   ·refine⟨hfe8,?_⟩
    show AV.sl 0 0 8 (cleanL es')=_
    rw[hce8]
    cases hme:m.eqs with
    |nil=>exact absurd (hz8 hme) (by intro h;cases h)
    |cons x r=>rfl
  obtain⟨bytes,hrt⟩:=ytW
  obtain⟨S2,happ,ro2,n2,k2⟩:=push_row (E:=EZ) hrt rfl rfl (RO.keep L4.1 fun ha hb=>L4.2 _ ha hb) (by omega) (.agg (ndX m.name m.at_ a1 a2 a3 ev)) rfl (by omega)
  have fin2:=fun t1=>fin (.agg (ndX m.name m.at_ a1 a2 a3 ev)) (by
   refine⟨?_,?_⟩
   ·show(true && (true && (freeL a1 && (freeL a2 && (freeL a3 && (freeV ev && true))))))=true
    rw[hdf1.1,hdf2.1,hdf3.1,hev.1];rfl
   ·show AV.agg [_,_,.sl 0 0 6 (cleanL a1),.sl 0 0 6 (cleanL a2),.sl 0 0 6 (cleanL a3),clean ev]=_
    rw[hdf1.2,hdf2.2,hdf3.2,hev.2,her];rfl) _ t1 S2 ro2 (by omega)
  clear fin hA8 hce8 hfe8 hz8 L1 L2 L3 L4 hlow1 RO ro2 hfe hce k2
  simp only[ndX]at mc1 happ fin2
  generalize es ++ [.agg [.v (.string ⟨⟨m.name⟩⟩),.v (.int .i64 m.at_),.sl 0 0 6 a1,.sl 0 0 6 a2,.sl 0 0 6 a3,ev]]=nw at *
  simp(maxSteps:=2000000) (disch:=omega)only[thenW_normal,thenW_exit,W_region,seqQ_normal2,seqQ_exit2,blockW_normal2,blockW_exit2,WL_nil2,WL_cons,execL_val2,putL_some2,wantedA,exec1,evalO,T.get_set,callA,ofOpt,ofOptS,ofConst,partsA,neNil3,fb_add,reduceLT,Nat.reduceAdd,reduceEqDiff,if_true,if_false,true_and,Bool.false_eq_true,clN_box,List.length_cons,List.length_nil,Nat.zero_add,Nat.reduceLeDiff,List.drop_zero,List.take_succ_cons,List.take_zero,ez_P,neNil3,clN_box,ylN,om17,om18,onL,Tryd.f6,k3,k6,k15,mc1,happ,yrW_1,hws]
  refine fin2 _ ?_ ?_ ?_ ?_
  ·simp only[T.get_set,reduceEqDiff,if_true,if_false]
  ·simp only[T.get_set,reduceEqDiff,if_false,k14]
  ·simp only[T.get_set,reduceEqDiff,if_false,k13]
  ·simp only[T.get_set,reduceEqDiff,if_true,if_false]
theorem own_nodes_k(l:List NdX)(hok:∀n∈l,okNd n)(hl:l.length≤3):KnZ 6 [ndRow l]:=by
 have fin:∀(tk:Nat) (es:List AV) (S':St),freeL es=true→cleanL es=l.map ndA→∃a S'',R.ret (.sl tk 0 6 es) S' = R.ret a S''∧freeV a=true∧SpecZ 6 [ndRow l] (clean a):=fun tk es S' h1 h2=>by
  refine⟨_,_,rfl,h1,?_⟩
  intro l' q _ _
  simp only[List.cons.injEq,and_true]at q
  rw[← ndRow_inj q]
  show AV.sl 0 0 6 (cleanL es)=_
  rw[h2];rfl
 have lp:=fun t S=>on_lp hok hl l.length 0 1 [] t S (by omega) (.inl rfl) rfl rfl rfl
 have hln:∀S,oLen Tryd.prog S 22 (.sl 0 0 6 (l.map ndA))=some l.length:=fun S=>by rw[ynNr,List.length_map]
 have hr:ndRow l=.sl 0 0 6 (l.map ndA):=rfl
 rw[hr]at fin ⊢
 refine bodyZ Tryd.f6 (by kernel_rfl) (by kernel_rfl) (show(_:Nat)≤_ from by show(_:Nat)≤_;simp[Tryd.f6]) ?_
 simp only[on_is,Option.getD_some]
 simp(maxSteps:=2000000) (disch:=omega)only[W_region,W_seq,W_block,W_loop,seqQ_normal2,WL_nil2,WL_cons,execL_val2,putL_some2,wantedA,exec1,evalO,initT,T.get_set,T.get_leaf,callA,ofOpt,ofConst,partsA,reduceLT,reduceEqDiff,if_true,if_false,true_and,ez_P,initT,on0,on1,on2,Tryd.f6,hln,yrW_0]
 refine WX.mono (lp _ _ ?_ ?_ ?_ ?_ ?_) ?_
 ·exact Nat.le_refl _
 ·simp only[T.get_set,T.get_leaf,reduceEqDiff,if_true,if_false] <;> rfl
 ·simp only[T.get_set,T.get_leaf,reduceEqDiff,if_true,if_false] <;> rfl
 ·simp only[T.get_set,T.get_leaf,reduceEqDiff,if_true,if_false] <;> rfl
 ·simp only[T.get_set,T.get_leaf,reduceEqDiff,if_true,if_false] <;> rfl
 rintro _ ⟨t',S',tk,es',rfl,T3,h1,h2⟩
 simp(maxSteps:=2000000) (disch:=omega)only[W_region,W_seq,W_ret,seqQ_normal2,seqQ_exit2,blockW_exit2,WL_nil2,WL_cons,execL_val2,putL_some2,wantedA,exec1,evalO,T.get_set,ofOpt,finW_ret,giveW,resultsA,tupA,reduceLT,reduceEqDiff,if_true,if_false,true_and,onZ,Tryd.f6,T3]
 exact fin _ _ _ h1 h2
theorem own_nodes_u{l:List NdX}(hok:∀n∈l,okNd n)(hl:l.length≤3){tok off:Nat}{es:List AV}(hf:freeL es=true)(hc:cleanL es=l.map ndA){S:St}{Q:R→Prop}(h:Q (.ret (ndRow l) S)):WC EZ 6 [.sl tok off 6 es] S Q :=
 callZ (args':=[ndRow l]) (own_nodes_k l hok hl) (by kernel_rfl) (by show(freeL es && true)=true;rw[hf];rfl) (by show [AV.sl 0 0 6 (cleanL es)]=_;rw[hc];rfl) fun x _ _ hs=>by
  have:=hs l rfl hok hl
  subst this
  exact h
end Go.Ax
noncomputable section
namespace Go.Ax
open Go.RowKit Go.Proofs
set_option maxRecDepth 100000
theorem rawN_row{v:AV}(h:RawR 6 RawN v):∃L,(∀S,oLen Tryd.prog S 22 v=some L)∧∀j,j<L→∃e,RawN e∧oIndexAddr Tryd.prog 22 v (.v (.int .i64 (j:Int)))=some (.ep e.cells):=by
 rcases h with rfl | ⟨es,rfl,h⟩ | ⟨a,rfl⟩
 ·exact⟨0,fun S=>ynnNr S,fun j hj=>absurd hj (Nat.not_lt_zero _)⟩
 ·exact⟨es.length,fun S=>ynNr S 0 0 es,fun j hj=>⟨es[j],h _ (List.getElem_mem hj),yxNr 0 0 es j hj⟩⟩
 ·exact⟨0,fun S=>by simp[oLen,yuNr],fun j hj=>absurd hj (Nat.not_lt_zero _)⟩
def neqBO(r:OR)(S:St)(x y:Option AV):OR:=match x,y with
 |some (.v (.bool a)),some (.v (.bool b))=>.val (.v (.bool (a != b))) S
 |_,_=>r
theorem neqBO_bb(r:OR)(S:St)(a b:Bool):neqBO r S (some (.v (.bool a))) (some (.v (.bool b)))=.val (.v (.bool (a != b))) S:=_root_.id rfl
theorem fastNeB(a b:Bool):fastEq Tryd.prog .neq 4 (.v (.bool a)) (.v (.bool b))=none:=by cases a <;> cases b <;> kernel_rfl
theorem eqOr_neqB(f:T AV)(S:St)(dst:Option Tmp)(k l:Tmp)(ty:TypeId)(pos:String)(af:Array Edge)(gd:Option (Nat × Bool))(a b:Bool):
  eqOr Tryd.prog gZ f S { dst:=dst,op:=.binOp .neq 4 (.tmp k) (.tmp l) 4,type:=ty,pos:=pos,after:=af,guard:=gd } .neq 4 (.v (.bool a)) (.v (.bool b))=neqBO (eqOrX Tryd.prog gZ f S { dst:=dst,op:=.binOp .neq 4 (.tmp k) (.tmp l) 4,type:=ty,pos:=pos,after:=af,guard:=gd } .neq 4 (.v (.bool a)) (.v (.bool b))) S (f.get k) (f.get l):=by
 unfold neqBO
 split
 ·rename_i x y h1 h2
  have hg1:groundO gZ f (.tmp k)=some (.bool x):=by unfold groundO;simp only[evalO,h1];rfl
  have hg2:groundO gZ f (.tmp l)=some (.bool y):=by unfold groundO;simp only[evalO,h2];rfl
  unfold eqOr
  rw[fastNeB]
  simp only
  unfold ground
  have hall:((Op.binOp .neq 4 (.tmp k) (.tmp l) 4:Op).operands.toList.all fun x=>(groundO gZ f x).isSome)=true:=by
   show([Operand.tmp k,Operand.tmp l].all fun x=>(groundO gZ f x).isSome)=true
   simp only[List.all_cons,List.all_nil,hg1,hg2,Option.isSome_some,Bool.and_self]
  refine(if_pos hall).trans ?_
  have e:execOp (fun x=>(groundO gZ f x).getD undef) { dst:=dst,op:=.binOp .neq 4 (.tmp k) (.tmp l) 4,type:=ty,pos:=pos,after:=af,guard:=gd }=execOp (maxG (.bool x) (.bool y)) { dst:=none,op:=.binOp .neq 4 (.tmp 0) (.tmp 1) 4,type:=4,pos := "", after:=#[],guard:=none }:=by
   simp only[execOp,hg1,hg2,Option.getD_some]
   rfl
  rw[e]
  cases x <;> cases y <;> rfl
 ·rfl
theorem fnbB(a b:Bool):fastBin .neq (.v (.bool a)) (.v (.bool b))=none:=by simp[fastBin]
theorem neNil4(a b:AV):neNil Tryd.prog 4 a b=false:=by
 have h:Tryd.prog.underlying 4=some (.bool):=by kernel_rfl
 unfold neNil;rw[h]
def awE:PX:=.mk 6 0 0 [42] false [.mk 6 0 0 [43] false [.mk 3 0 0 [120] false [],.mk 1 0 1 [] false []],.mk 1 0 (-2) [] false []]
theorem awE_ok:okX 4 awE:=by simp[awE,okX,okL,okI,needs]
theorem awE_txt:txt awE=[40,120,32,43,32,49,41,32,42,32,45,50]:=by kernel_rfl
theorem yb57_a:oBuild Tryd.prog 57 [(0,.v (.int .i64 3)),(3,.v (.string ⟨⟨[120]⟩⟩))]=some (.agg [.v (.int .i64 3),.v (.int .i64 0),.v (.int .i64 0),.v (.string ⟨⟨[120]⟩⟩),.v (.bool false),.nils]):=by kernel_rfl
theorem yb57_b(n:Int):oBuild Tryd.prog 57 [(0,.v (.int .i64 1)),(2,.v (.int .i64 n))]=some (.agg [.v (.int .i64 1),.v (.int .i64 0),.v (.int .i64 n),.v (.string ⟨⟨[]⟩⟩),.v (.bool false),.nils]):=by kernel_rfl
theorem yb57_c(s:List UInt8)(es:List AV):oBuild Tryd.prog 57 [(0,.v (.int .i64 6)),(3,.v (.string ⟨⟨s⟩⟩)),(5,.sl 1 0 6 es)]=some (.agg [.v (.int .i64 6),.v (.int .i64 0),.v (.int .i64 0),.v (.string ⟨⟨s⟩⟩),.v (.bool false),.sl 1 0 6 es]):=by kernel_rfl
theorem yr55_2(a0 a1 a2 a3 a4 a5 c0 c1 c2 c3 c4 c5:AV):oBuildSlice Tryd.prog 55 2 [(0,.agg [a0,a1,a2,a3,a4,a5]),(1,.agg [c0,c1,c2,c3,c4,c5])]=some (.sl 1 0 6 [.agg [a0,a1,a2,a3,a4,a5],.agg [c0,c1,c2,c3,c4,c5]]):=by kernel_rfl
theorem sp_4:EZ.I 4=none:=by
 show(Bool.rec (Bool.rec (Bool.rec none (some (growI 6)) (Nat.beq 4 50)) (some joinB) (Nat.beq 4 43)) (some (pureG gZ Tryd.prog SpecZ 4)) (knz 4):Option (List AV→St→R))=_
 rw[show knz 4=false from by decide]
 rfl
theorem fnz_4:∃fn,EZ.F 4=some fn:=Option.isSome_iff_exists.1 (by kernel_rfl)
theorem sp_3:EZ.I 3=none:=by
 show(Bool.rec (Bool.rec (Bool.rec none (some (growI 6)) (Nat.beq 3 50)) (some joinB) (Nat.beq 3 43)) (some (pureG gZ Tryd.prog SpecZ 3)) (knz 3):Option (List AV→St→R))=_
 rw[show knz 3=false from by decide]
 rfl
theorem aw_w(S:St):WC EZ 4 [] S (fun r=>∃S',r=.ret (.v (.bool true)) S'∧S.next≤S'.next):=by
 refine WC_fn Tryd.f4 sp_4 (by kernel_rfl) (by kernel_rfl) (show(_:Nat)≤_ from by show(_:Nat)≤_;simp[Tryd.f4]) ?_
 obtain⟨fn1,hf1⟩:∃fn,EZ.F 16=some fn:=fnz_16
 have htext:∀(S:St) (Q:R→Prop),Q (.ret (.v (.string ⟨⟨[40,120,32,43,32,49,41,32,42,32,45,50]⟩⟩)) S)→WC EZ 16 [.agg [.v (.int .i64 6),.v (.int .i64 0),.v (.int .i64 0),.v (.string ⟨⟨[42]⟩⟩),.v (.bool false),.sl 1 0 6 [.agg [.v (.int .i64 6),.v (.int .i64 0),.v (.int .i64 0),.v (.string ⟨⟨[43]⟩⟩),.v (.bool false),.sl 1 0 6 [.agg [.v (.int .i64 3),.v (.int .i64 0),.v (.int .i64 0),.v (.string ⟨⟨[120]⟩⟩),.v (.bool false),.nils],.agg [.v (.int .i64 1),.v (.int .i64 0),.v (.int .i64 1),.v (.string ⟨⟨[]⟩⟩),.v (.bool false),.nils]]],.agg [.v (.int .i64 1),.v (.int .i64 0),.v (.int .i64 (-2)),.v (.string ⟨⟨[]⟩⟩),.v (.bool false),.nils]]]] S Q:=fun S Q h =>
  callZ (args':=[exA awE]) (text_k 4 awE awE_ok (Nat.le_refl _)) (by kernel_rfl) rfl rfl fun x _ _ hs=>by
   have:=hs awE 4 rfl awE_ok (Nat.le_refl _)
   subst this
   rw[awE_txt]
   exact h
 simp(maxSteps:=2000000) (disch:=omega)only[W_region,W_seq,seqQ_normal2,WL_nil2,WL_cons,execL_val2,execL_skip2,execL_enter2,putL_none2,putL_some2,wantedA,exec1,evalO,initT,T.get_set,T.get_leaf,callA,mapO,ofOpt,ofOptS,ofConst,partsA,Nat.reduceLT,Nat.reduceAdd,Nat.reduceEqDiff,if_true,if_false,true_and,Option.getD_some,List.nil_append,List.append_nil,to_get,nb_get,clN_box,vstB_agg,List.length_cons,List.length_nil,Nat.zero_add,Nat.reduceLeDiff,List.drop_zero,List.drop_succ_cons,List.drop_nil,List.take_succ_cons,List.take_zero,and_self,ez_P,strS,ylX,ysX,yaX,clN_box,initT,Int.reduceNeg,to_get,nb_get,Int.reduceNeg,Tryd.f4,hf1,yb57_a,yb57_b,yb57_c,yr55_2,ylX,ysX,yaX]
 refine htext _ _ ?_
 simp(maxSteps:=2000000) (disch:=omega)only[W_ret,seqQ_normal2,WL_nil2,WL_cons,execL_val2,putL_some2,retL_ret2,wantedA,exec1,evalO,T.get_set,T.get_leaf,ofOpt,ofConst,finW_ret,giveW,resultsA,tupA,fb_eqS,neNil9,Nat.reduceLT,Nat.reduceEqDiff,if_true,if_false,true_and,Bool.false_eq_true,decide_true,ez_P,neNil9,Int.reduceNeg,Int.reduceNeg]
 exact⟨_,rfl,by simp only[to_next,nb_next];omega⟩
end Go.Ax
