/- AxS -/
import Derived.Test.YtkjknlaffgkloaaDoorTpG4
set_option linter.unusedVariables false
set_option linter.unusedSimpArgs false
noncomputable section
namespace Go.Ax
open Go.RowKit
def maskOf(ms:List Nat)(o:Oper):Nat:=o.after.toList.foldl (fun m e=>if Region.binds .any e then m ||| (2 ^ e.on ||| ms.getD e.on 0)else m) 0
def bm:List Oper→List Nat→List Nat
 | [],acc=>acc
 |o :: r,acc=>bm r (acc ++ [maskOf acc o])
def nodupB:List Nat→Bool
 | []=>true
 |x :: r=>!r.contains x && nodupB r
theorem nodupB_nodup:∀{l:List Nat},nodupB l=true→l.Nodup
 | [],_=>List.nodup_nil
 |x :: r,h=>by
  unfold nodupB at h
  simp at h
  exact List.nodup_cons.2 ⟨h.1,nodupB_nodup h.2⟩
def masksOk(ms:List Nat):List Oper→Nat→Bool
 | [],_=>true
 |o :: r,i=>(ms.getD i 0 == maskOf ms o) && (o.after.toList.all fun e=>!Region.binds .any e || decide (e.on<i)) && masksOk ms r (i+1)
theorem masksOk_at{ms:List Nat}:∀{l:List Oper} {i:Nat},masksOk ms l i=true→∀{k:Nat} {o:Oper},l[k]? = some o→ms.getD (i+k) 0=maskOf ms o∧∀e∈o.after,Region.binds .any e=true→e.on<i+k
 | [],_,_,k,o,hk=>by simp at hk
 |x :: r,i,h,k,o,hk=>by
  unfold masksOk at h
  simp only[Bool.and_eq_true,beq_iff_eq]at h
  cases k with
  |zero =>
   simp at hk;subst hk
   refine⟨h.1.1,fun e he hb=>?_⟩
   have:=List.all_eq_true.1 h.1.2 e (by simpa using he)
   simpa[hb]using this
  |succ k =>
   have:=masksOk_at (l:=r) h.2 (k:=k) (by simpa using hk)
   rwa [show i+1+k=i+(k+1) by omega]at this
theorem foldl_or(b:Edge→Bool)(g:Edge→Nat)(j:Nat):∀(l:List Edge) (m:Nat),(l.foldl (fun m e=>if b e then m ||| g e else m) m).testBit j=true→m.testBit j=true∨∃e∈l,b e=true∧(g e).testBit j=true
 | [],m,h=>.inl h
 |e :: r,m,h=>by
  rw[List.foldl_cons]at h
  rcases foldl_or b g j r _ h with h1 | ⟨e',he',h2⟩
  ·split at h1
   ·rename_i hb
    rw[Nat.testBit_or,Bool.or_eq_true]at h1
    rcases h1 with h1 |h1
    ·exact .inl h1
    ·exact .inr ⟨e,List.mem_cons_self ..,hb,h1⟩
   ·exact .inl h1
  ·exact .inr ⟨e',List.mem_cons_of_mem _ he',h2⟩
section
variable {E:Env} {callK:CallK} {n:Nat} {ops:Array Oper} {ms:List Nat}
def Dn(ops:Array Oper)(listed:Array Bool):Prop:=∀i o,ops[i]? = some o→listed.getD i false=true→∀e∈o.after,Region.binds .any e=true→listed.getD e.on false=true
theorem bit_listed(hm:masksOk ms ops.toList 0=true){listed:Array Bool}(hd:Dn ops listed){j:Nat}:∀(k:Nat) (o:Oper),ops[k]? = some o→(∀e∈o.after,Region.binds .any e=true→listed.getD e.on false=true)→(ms.getD k 0).testBit j=true→listed.getD j false=true:=by
 intro k
 induction k using Nat.strongRecOn with
 |_ k ih =>
  intro o ho hp hb
  have hk:=masksOk_at hm (k:=k) (o:=o) (by simpa using ho)
  rw[Nat.zero_add]at hk
  rw[hk.1]at hb
  unfold maskOf at hb
  rcases foldl_or _ _ j _ _ hb with h0 | ⟨e,he,hbd,hbit⟩
  ·simp at h0
  ·have hem:e∈o.after:=by simpa using he
   have hl:=hp e hem hbd
   rw[Nat.testBit_or,Bool.or_eq_true]at hbit
   rcases hbit with hbit |hbit
   ·rw[Nat.testBit_two_pow]at hbit
    have:e.on=j:=by simpa using hbit
    rw[← this];exact hl
   ·have hlt:=hk.2 e hem hbd
    cases hoe:ops[e.on]? with
    |none =>
     have hlt2:¬ e.on<ops.size:=fun h=>by rw[Array.getElem?_eq_getElem h]at hoe;cases hoe
     have hkl:k<ops.size:=(Array.getElem?_eq_some_iff.1 ho).1
     omega
    |some oe=>exact ih e.on hlt oe hoe (hd e.on oe hoe hl) hbit
structure FbOk(ops:Array Oper)(fb f:Fr):Prop where
 sub:∀t a,fb.tmps.get t=some a→f.tmps.get t=some a
 dfr:fb.dfr=f.dfr
 non:∀(i:Nat) o d,ops[i]? = some o→o.dst=some d→fb.tmps.get d=none
theorem FbOk.put{fb f:Fr}(h:FbOk ops fb f){i:Nat}{o:Oper}(ho:ops[i]? = some o)(a:AV):FbOk ops fb (putT f o.dst a):=by
 unfold putT
 split
 ·exact h
 ·rename_i d hd
  refine⟨fun t x hx=>?_,h.dfr,h.non⟩
  show(f.tmps.set d (some a)).get t=some x
  rw[T.get_set,if_neg (fun e=>by subst e;rw[h.non i o _ ho hd]at hx;cases hx)]
  exact h.sub t x hx
theorem FbOk.ar{fb f:Fr}(h:FbOk ops fb f){γ:Gh}{w:World}{act:Act}(ha:AR γ w n f act):AR γ w n fb act :=
 ⟨fun t a hta=>ha.tmps t a (h.sub t a hta),ha.size,by rw[h.dfr];exact ha.dfr⟩
theorem getD_put(listed:Array Bool)(i j:Nat)(b:Bool)(hi:i<listed.size):(listed.setIfInBounds i true).getD j b=if i=j then true else listed.getD j b:=by
 rw[Array.getD_eq_getD_getElem?,Array.getD_eq_getD_getElem?]
 by_cases h:i=j
 ·subst h;simp[hi]
 ·rw[Array.getElem?_setIfInBounds_ne h,if_neg h]
theorem getD_same{listed:Array Bool}{i:Nat}(hi:i<listed.size)(b c:Bool):listed.getD i b=listed.getD i c:=by
 simp[Array.getD_eq_getD_getElem?,hi]
theorem drawn_any{base:Nat}{w0:World}{Q:Exit→Act→World→Prop}(hE:E.Ok)(hC:CallOk E base w0 callK)(hm:masksOk ms ops.toList 0=true){fb:Fr}:∀(fuel:Nat) (rem:List Nat) (listed:Array Bool) (f:Fr) (S:St) (γ:Gh) (w:World) (act:Act),
  listed.size=ops.size→(∀i,i∈rem↔i<ops.size∧listed.getD i true=false)→rem.Nodup→rem.length≤fuel→Dn ops listed→pairsOk ops ms rem=true→SR base w0 γ S w→AR γ w n f act→GR γ w E.G→FbOk ops fb f →
  Holds base w0 n γ S w Q (drun E callK n ops ms fb rem f S [])→wpAny E.P .any ops Q fuel listed act w:=by
 intro fuel
 induction fuel with
 |zero =>
  intro rem listed f S γ w act hsz hrem hnd hlen hdn hp hS ha hg hfb hH
  have hr0:rem=[]:=List.eq_nil_of_length_eq_zero (by omega)
  subst hr0
  refine⟨?_,hH γ act w hS (.refl _ _ _) ha⟩
  rw[List.eq_nil_iff_forall_not_mem]
  intro i hi
  obtain⟨h1,o,ho,_⟩:=mem_ready.1 hi
  exact absurd ((hrem i).2 ⟨(Array.getElem?_eq_some_iff.1 ho).1,h1⟩) (by simp)
 |succ fuel ih =>
  intro rem listed f S γ w act hsz hrem hnd hlen hdn hp hS ha hg hfb hH
  have inb:∀{i},i∈rem→i<listed.size:=fun {i} hi=>by rw[hsz];exact((hrem i).1 hi).1
  refine⟨fun hready=>?_,fun i hi=>?_⟩
  ·
   have hr0:rem=[]:=by
    rw[List.eq_nil_iff_forall_not_mem]
    intro i
    induction i using Nat.strongRecOn with
    |_ i ihi =>
     intro hi
     obtain⟨hlt,hun⟩:=(hrem i).1 hi
     have hoi:ops[i]? = some ops[i]:=Array.getElem?_eq_getElem hlt
     have hk:=masksOk_at hm (k:=i) (o:=ops[i]) (by simp[hlt])
     have:i∈Region.ready .any ops listed:=mem_ready.2 ⟨hun,ops[i],hoi,fun e he hb=>by
      have hel:=hk.2 e he hb
      rw[Nat.zero_add]at hel
      have hnr:=ihi e.on hel
      rw[hrem]at hnr
      have hes:e.on<listed.size:=by omega
      cases hx:listed.getD e.on false with
      |true=>rfl
      |false=>exact absurd ⟨by omega,(getD_same hes true false).trans hx⟩ hnr⟩
     rw[hready]at this
     cases this
   subst hr0
   exact hH γ act w hS (.refl _ _ _) ha
  ·obtain⟨hun,o,ho,hpre⟩:=mem_ready.1 hi
   have hil:i<ops.size:=(Array.getElem?_eq_some_iff.1 ho).1
   have hir:i∈rem:=(hrem i).2 ⟨hil,hun⟩
   have hne:drun E callK n ops ms fb rem f S []≠.fail:=fun e=>by rw[e]at hH;exact hH
   have hfree:∀j∈rem,j≠i→(ms.getD i 0).testBit j=false:=fun j hj _=>by
    cases hb:(ms.getD i 0).testBit j with
    |false=>rfl
    |true =>
     have h1:=bit_listed hm hdn i o ho hpre hb
     have h2:=((hrem j).1 hj).2
     rw[getD_same (inb hj) true false,h1]at h2
     cases h2
   have hb:=bubble ho rem f S [] _ hir hfree hp rfl hne
   have next:∀(f':Fr) (S':St) (γ':Gh) (act':Act) (w':World),SR base w0 γ' S' w'→Ext γ S w γ' S' w'→AR γ' w' n f' act'→FbOk ops fb f'→drun E callK n ops ms fb (rem.erase i) f' S' []=drun E callK n ops ms fb rem f S [] →
     wpAny E.P .any ops Q fuel (listed.setIfInBounds i true) act' w':=fun f' S' γ' act' w' k1 k2 k3 k4 k5=>by
    refine ih (rem.erase i) (listed.setIfInBounds i true) f' S' γ' w' act' (by simpa using hsz) (fun j=>?_) (hnd.erase i) (by rw[List.length_erase_of_mem hir];omega) (fun j oj hoj hlj e he hbd=>?_) ?_ k1 k3 (hg.mono k2.ev) k4 (by rw[k5];exact hH.later k2)
    ·rw[hnd.mem_erase_iff,hrem j,getD_put _ _ _ _ (by omega)]
     by_cases hji:i=j
     ·subst hji;simp
     ·rw[if_neg hji];exact⟨fun h=>h.2,fun h=>⟨fun e=>hji e.symm,h⟩⟩
    ·rw[getD_put _ _ _ _ (by omega)]at hlj ⊢
     split
     ·rfl
     ·split at hlj
      ·rename_i hij
       subst hij
       rw[ho]at hoj;injection hoj with hoj;subst hoj
       exact hpre e he hbd
      ·exact hdn j oj hoj hlj e he hbd
    ·have sub:∀(l:List Nat),pairsOk ops ms l=true→pairsOk ops ms (l.erase i)=true:=by
      intro l
      induction l with
      |nil=>intro h;exact h
      |cons x r ihl =>
       intro h
       unfold pairsOk at h
       rw[Bool.and_eq_true]at h
       by_cases hx:x=i
       ·subst hx;rw[List.erase_cons_head];exact h.2
       ·rw[List.erase_cons_tail (by simpa using hx)]
        unfold pairsOk
        rw[Bool.and_eq_true]
        exact⟨List.all_eq_true.2 fun y hy=>List.all_eq_true.1 h.1 y (List.mem_of_mem_erase hy),ihl h.2⟩
     exact sub rem hp
   have hst:=stepO_eq (E:=E) (callK:=callK) (n:=n) (ops:=ops) o f S
   have key:Holds base w0 n γ S w (fun x a w=>match x with |.normal=>wpAny E.P .any ops Q fuel (listed.setIfInBounds i true) a w |x=>Q x a w) (stepO E callK n ops o f S):=by
    rw[hst]
    rcases hb with⟨hl,a,hv,hd,hrun⟩ | ⟨hl,⟨a,S',hv,hd,hall,hrun⟩ | ⟨a,S',hv,hR⟩⟩
    ·rw[stepR_look hl,hv]
     simp only
     rw[putA_eq,if_pos hd]
     exact fun γ' act' w' k1 k2 k3=>next _ _ γ' act' w' k1 k2 k3 (hfb.put ho a) hrun
    ·rw[hv]
     simp only
     rw[putA_eq,if_pos hd]
     exact fun γ' act' w' k1 k2 k3=>next _ _ γ' act' w' k1 k2 k3 (hfb.put ho a) hrun
    ·rw[hv]
     intro γ' act' w' k1 k2 k3 v hvr
     rw[hR]at hH
     exact hH γ' act' w' k1 k2 (hfb.ar k3) v hvr
   have:=stepO_sound hE hC hS ha hg key
   unfold wpOp
   rw[ho]
   simp only
   split
   ·rename_i hw;rw[if_pos hw]at this;exact .inl this
   ·rename_i hw;rw[if_neg hw]at this;exact this
def eager(ops:Array Oper)(ms:List Nat):Nat→List Nat→Nat→List Nat
 |0,_,_=>[]
 |k+1,rem,done =>
  match rem.find? fun i=>(match ops[i]? with |some o=>isLook o |none=>false) && (ms.getD i 0 &&& done == ms.getD i 0)with
  |some i=>i :: eager ops ms k (rem.erase i) (done ||| 2 ^ i)
  |none=>match rem.find? fun i=>ms.getD i 0 &&& done == ms.getD i 0 with
   |some i=>i :: eager ops ms k (rem.erase i) (done ||| 2 ^ i)
   |none=>[]
def static(ops:Array Oper)(ms order:List Nat):Bool :=
 masksOk ms ops.toList 0 && nodupB order && (order.all fun i=>decide (i<ops.size)) && ((List.range ops.size).all fun i=>order.contains i) && pairsOk ops ms order
def eraseT:List Oper→T AV→T AV
 | [],f=>f
 |o :: r,f=>eraseT r (match o.dst with |some d=>f.set d none |none=>f)
theorem eraseT_sub:∀(l:List Oper) (f:T AV) (t:Nat) (a:AV),(eraseT l f).get t=some a→f.get t=some a∧∀o∈l,o.dst≠some t
 | [],f,t,a,h=>⟨h,fun _ h=>by cases h⟩
 |o :: r,f,t,a,h=>by
  unfold eraseT at h
  obtain⟨h1,h2⟩:=eraseT_sub r _ t a h
  split at h1
  ·rename_i d hd
   rw[T.get_set]at h1
   split at h1
   ·cases h1
   ·rename_i hne
    refine⟨h1,fun o' ho'=>?_⟩
    rcases List.mem_cons.1 ho' with rfl |ho'
    ·rw[hd];intro e;injection e with e;exact hne e.symm
    ·exact h2 o' ho'
  ·rename_i hd
   refine⟨h1,fun o' ho'=>?_⟩
   rcases List.mem_cons.1 ho' with rfl |ho'
   ·rw[hd];intro e;cases e
   ·exact h2 o' ho'
def drawnRun(E:Env):Drawn:=fun callK n ops f S =>
 let ms:=bm ops.toList []
 let order:=eager ops ms ops.size (List.range ops.size) 0
 if static ops ms order then drun E callK n ops ms ⟨eraseT ops.toList f.tmps,f.dfr⟩ order f S []else .fail
theorem drawnRun_ok(hE:E.Ok)(hmix:E.P.follows .mixedOrders=true):DrawnOk E (drawnRun E):=by
 intro base w0 Q callK hC n id ops γ S w f act hS ha hg hH
 unfold drawnRun at hH
 simp only at hH
 split at hH
 ·rename_i hst
  generalize bm ops.toList []=ms at hst hH
  generalize eager ops ms ops.size (List.range ops.size) 0=order at hst hH
  unfold static at hst
  simp only[Bool.and_eq_true]at hst
  obtain⟨⟨⟨⟨s1,s2⟩,s3⟩,s4⟩,s5⟩:=hst
  obtain⟨d1,d2⟩:=hS.drew
  have hx:Ext γ S w γ S w.drew:=Ext.of_same (w:=w) (w':=w.drew) rfl d2
  refine wp_region_any hmix ?_
  have hlist:∀(i:Nat) (b:Bool),i<ops.size→(Array.replicate ops.size false).getD i b=false:=fun i b h=>by simp[h]
  refine drawn_any hE hC s1 (fb:=⟨eraseT ops.toList f.tmps,f.dfr⟩) ops.size order (Array.replicate ops.size false) f S γ w.drew act (by simp) (fun i=>⟨fun hi=>?_,fun hi=>?_⟩) (nodupB_nodup s2) ?_ (fun i o ho hl=>?_) s5 d1 (ha.mono d2) (hg.mono d2) ⟨fun t a h=>(eraseT_sub _ _ t a h).1,rfl,fun i o d ho hd=>?_⟩ (hH.later hx)
  ·have:=List.all_eq_true.1 s3 i hi
   have hlt:i<ops.size:=by simpa using this
   exact⟨hlt,hlist i true hlt⟩
  ·have:=List.all_eq_true.1 s4 i (List.mem_range.2 hi.1)
   simpa using this
  ·have hsub:order ⊆ List.range ops.size:=fun i hi=>by
    have:=List.all_eq_true.1 s3 i hi
    exact List.mem_range.2 (by simpa using this)
   have:=(nodupB_nodup s2).length_le_of_subset hsub
   simpa using this
  ·have hlt:=(Array.getElem?_eq_some_iff.1 ho).1
   rw[hlist i false hlt]at hl
   cases hl
  ·cases hx:(eraseT ops.toList f.tmps).get d with
   |none=>rfl
   |some a =>
    have:=(eraseT_sub _ _ d a hx).2 o (by
     have:=Array.mem_of_getElem? ho
     simpa using this)
    exact absurd hd this
 ·exact hH.elim
end
end Go.Ax
noncomputable section
namespace Go.Ax
open Go.RowKit
def isDfr(o:Oper):Bool:=match o.op with
 |.defer _=>true
 |_=>false
def fixX(fb:Fr)(r:O):O:=O.rec (motive:=fun _=>O) (fun e f S=>Ex.rec (motive:=fun _=>O) (.out .normal f S) (fun i=>.out (.exit i) f S) (.out .ret f S) (fun a=>.out (.pan a) fb S) e) .fail r
theorem exec1_dfr{E:Env}{f:T AV}{S S':St}{o:Oper}{fn:Fn}{caps args:List AV}(h:exec1 E f S o=.dfr fn caps args S'):isDfr o=true:=by
 have key:∀(x:OR),x=.dfr fn caps args S'→(∃a,x=ofOpt S a)∨x=.fail∨(∃a,x=ofOptS a)∨x=ground E.P E.G f S o∨(∃a S,x=.val a S)∨(∃S,x=.skip S)∨(∃k l S,x=.enter k l S)∨(∃a S,x=.pan a S)→False:=by
  rintro x hx (⟨a,rfl⟩ |rfl | ⟨a,rfl⟩ |rfl | ⟨a,S2,rfl⟩ | ⟨S2,rfl⟩ | ⟨k,l,S2,rfl⟩ | ⟨a,S2,rfl⟩)
  ·cases a <;> cases hx
  ·cases hx
  ·cases a with
   |none=>cases hx
   |some q=>cases q;cases hx
  ·rcases ground_ne (P:=E.P) (G:=E.G) (f:=f) (S:=S) (o:=o)with⟨a,ha⟩ |ha <;> rw[ha]at hx <;> cases hx
  ·cases hx
  ·cases hx
  ·cases hx
  ·cases hx
 unfold isDfr
 split
 ·rfl
 ·rename_i hne
  exfalso
  refine key _ h ?_
  unfold exec1
  split
  all_goals first
   | (rename_i c ho;exact absurd ho (hne c))
   |skip
  all_goals try unfold callA
  all_goals repeat' split
  all_goals try unfold eqOr
  all_goals repeat' split
  all_goals first
   |exact .inl ⟨_,rfl⟩
   |exact .inr (.inl rfl)
   |exact .inr (.inr (.inl ⟨_,rfl⟩))
   |exact .inr (.inr (.inr (.inl rfl)))
   |exact .inr (.inr (.inr (.inr (.inl ⟨_,_,rfl⟩))))
   |exact .inr (.inr (.inr (.inr (.inr (.inl ⟨_,rfl⟩)))))
   |exact .inr (.inr (.inr (.inr (.inr (.inr (.inl ⟨_,_,_,rfl⟩))))))
   |exact .inr (.inr (.inr (.inr (.inr (.inr (.inr ⟨_,_,rfl⟩))))))
inductive RS where
 |op (o:Oper)
 |re (o:Oper)
def okAp(ops:Array Oper)(o:Oper)(p:Oper):Bool:=match o.dst with
 |none=>true
 |some d=>!(p.looksAt ops).contains d && !(p.dst == some d)
def selfAp(ops:Array Oper)(o:Oper):Bool:=match o.dst with
 |none=>false
 |some d=>!(o.looksAt ops).contains d
def keepsD(ops:Array Oper)(o:Oper)(lk:List (Nat × Oper)):Bool:=lk.all fun p=>pureO p.2 || okAp ops o p.2
def againD(m:Nat)(lk:List (Nat × Oper)):List (Nat × Oper):=lk.filter fun p=>!m.testBit p.1 && !pureO p.2
def stepsD(ops:Array Oper)(ms:List Nat):List Nat→List (Nat × Oper)→Option (List RS)
 | [],_=>some []
 |i :: r,lk=>match ops[i]? with
  |none=>none
  |some o=>if keepsD ops o lk then
    if isLook o then(if pureO o || selfAp ops o then(match stepsD ops ms r ((i,o) :: lk)with
     |some l=>some (.op o :: l)
     |none=>none)else none)
    else if isDfr o then none else(match stepsD ops ms r lk with
     |some l=>some (.op o :: ((againD (ms.getD i 0) lk).map fun p=>RS.re p.2) ++ l)
     |none=>none)
   else none
def againO(E:Env)(ops:Array Oper)(o:Oper)(f:T AV)(S:St):Bool:=match lookV E ops o f S,o.dst with
 |some a,some d=>match f.get d with
  |some b=>beqA b a
  |none=>false
 |_,_=>false
def runRS(E:Env)(ck:CallK)(n:Nat)(ops:Array Oper):List RS→Fr→St→O
 | [],f,S=>.out .normal f S
 |.op o :: r,f,S=>match stepO E ck n ops o f S with
  |.out .normal f' S'=>runRS E ck n ops r f' S'
  |r=>r
 |.re o :: r,f,S=>if againO E ops o f.tmps S then runRS E ck n ops r f S else .fail
theorem runRS_re{E:Env}{ck:CallK}{n:Nat}{ops:Array Oper}(r:List RS)(f:Fr)(S:St):∀(l:List (Nat × Oper)),runRS E ck n ops ((l.map fun p=>RS.re p.2) ++ r) f S=.fail∨((∀p∈l,againO E ops p.2 f.tmps S=true)∧runRS E ck n ops ((l.map fun p=>RS.re p.2) ++ r) f S=runRS E ck n ops r f S)
 | []=>.inr ⟨fun _ h=>absurd h List.not_mem_nil,rfl⟩
 |p :: l=>by
  have e:∀l f S,runRS E ck n ops (.re p.2 :: l) f S=if againO E ops p.2 f.tmps S then runRS E ck n ops l f S else .fail:=fun _ _ _=>rfl
  rw[List.map_cons,List.cons_append,e]
  cases h:againO E ops p.2 f.tmps S with
  |false=>exact .inl rfl
  |true =>
   rw[if_pos rfl]
   rcases runRS_re r f S l with h1 | ⟨h1,h2⟩
   ·exact .inl h1
   ·refine .inr ⟨fun q hq=>?_,h2⟩
    rcases List.mem_cons.1 hq with rfl |hq
    ·exact h
    ·exact h1 q hq
def Seen(ops:Array Oper)(f:T AV)(l:Look):Prop:=pureO l.o=true∨(agree ops l.o l.f f∧∃d,l.o.dst=some d∧f.get d=some l.a)
theorem Seen.put{ops:Array Oper}{f:Fr}{l:Look}(h:Seen ops f.tmps l){o:Oper}(ho:pureO l.o=true∨okAp ops o l.o=true)(a:AV):Seen ops (putT f o.dst a).tmps l:=by
 rcases h with h | ⟨h1,d,h2,h3⟩
 ·exact .inl h
 ·rcases ho with ho |ho
  ·exact .inl ho
  ·refine .inr ?_
   unfold okAp at ho
   cases hd:o.dst with
   |none=>exact⟨h1,d,h2,h3⟩
   |some x =>
    rw[hd]at ho
    simp only[Bool.and_eq_true,Bool.not_eq_true']at ho
    obtain⟨k1,k2⟩:=ho
    refine⟨fun t ht=>?_,d,h2,?_⟩
    ·show l.f.get t=(f.tmps.set x (some a)).get t
     rw[T.get_set,if_neg (fun e=>by subst e;rw[List.contains_eq_mem,decide_eq_false_iff_not]at k1;exact k1 ht)]
     exact h1 t ht
    ·show(f.tmps.set x (some a)).get d=some l.a
     rw[T.get_set,if_neg (fun e=>by subst e;rw[h2]at k2;simp at k2)]
     exact h3
theorem drun_steps{E:Env}{ck:CallK}{n:Nat}{ops:Array Oper}{ms:List Nat}{fb:Fr}:∀(l:List Nat) (rs:List RS) (f:Fr) (S:St) (L:List Look),stepsD ops ms l (L.map fun l=>(l.idx,l.o))=some rs→(∀l∈L,Seen ops f.tmps l)→runRS E ck n ops rs f S=.fail∨drun E ck n ops ms fb l f S L=fixX fb (runRS E ck n ops rs f S)
 | [],rs,f,S,L,h,hL=>by
  injection h with h;subst h
  refine .inr ?_
  unfold drun;rfl
 |i :: r,rs,f,S,L,h,hL=>by
  unfold stepsD at h
  split at h
  ·cases h
  ·rename_i o ho
   split at h
   case isFalse=>cases h
   rename_i hk
   have hkeep:∀l∈L,pureO l.o=true∨okAp ops o l.o=true:=fun l hl=>by
    have:=List.all_eq_true.1 hk (l.idx,l.o) (List.mem_map.2 ⟨l,hl,rfl⟩)
    simpa using this
   split at h
   ·rename_i hl
    split at h
    case isFalse=>cases h
    rename_i hself
    split at h
    case h_2=>cases h
    rename_i l2 hl2
    injection h with h;subst h
    unfold drun runRS
    rw[ho]
    simp only
    rw[if_pos hl,stepO_eq,stepR_look hl]
    cases hv:lookV E ops o f.tmps S with
    |none=>exact .inl rfl
    |some a =>
     simp only
     rw[putA_eq]
     cases hd:okD n o.dst with
     |false=>exact .inl rfl
     |true =>
      refine drun_steps r l2 (putT f o.dst a) S (⟨i,o,f.tmps,a⟩ :: L) hl2 fun l hl=>?_
      rcases List.mem_cons.1 hl with rfl |hl
      ·rw[Bool.or_eq_true]at hself
       rcases hself with hself |hself
       ·exact .inl hself
       ·refine .inr ?_
        unfold selfAp at hself
        cases hd2:o.dst with
        |none=>rw[hd2]at hself;cases hself
        |some d =>
         rw[hd2]at hself
         refine⟨fun t ht=>?_,d,rfl,?_⟩
         ·show f.tmps.get t=(f.tmps.set d (some a)).get t
          rw[T.get_set,if_neg (fun e=>by subst e;rw[Bool.not_eq_true',List.contains_eq_mem,decide_eq_false_iff_not]at hself;exact hself ht)]
         ·show(f.tmps.set d (some a)).get d=some a
          rw[T.get_set,if_pos rfl]
      ·exact(hL l hl).put (hkeep l hl) a
   ·rename_i hl
    split at h
    ·cases h
    rename_i hdf
    split at h
    case h_2=>cases h
    rename_i l2 hl2
    injection h with h;subst h
    have e1:∀f S,runRS E ck n ops (.op o :: ((againD (ms.getD i 0) (L.map fun l=>(l.idx,l.o))).map fun p=>RS.re p.2) ++ l2) f S=match stepO E ck n ops o f S with
     |.out .normal f' S'=>runRS E ck n ops (((againD (ms.getD i 0) (L.map fun l=>(l.idx,l.o))).map fun p=>RS.re p.2) ++ l2) f' S'
     |r=>r:=fun _ _=>rfl
    rw[e1]
    unfold drun
    rw[ho]
    simp only
    rw[if_neg hl,stepO_eq]
    cases hs:stepR E ck ops o f.tmps S with
    |val a S' =>
     simp only
     rw[putA_eq]
     cases hd:okD n o.dst with
     |false=>exact .inl rfl
     |true =>
      rw[if_pos rfl]
      simp only
      have hseen:∀l∈L,Seen ops (putT f o.dst a).tmps l:=fun l hl=>(hL l hl).put (hkeep l hl) a
      rcases runRS_re (E:=E) (ck:=ck) (n:=n) (ops:=ops) l2 (putT f o.dst a) S' (againD (ms.getD i 0) (L.map fun l=>(l.idx,l.o)))with h1 | ⟨h1,h2⟩
      ·exact .inl h1
      ·rw[h2]
       have hall:L.all (recheck E ops (ms.getD i 0) S')=true:=by
        rw[List.all_eq_true]
        intro l hl
        unfold recheck
        cases hb:(ms.getD i 0).testBit l.idx with
        |true=>rfl
        |false =>
         cases hp:pureO l.o with
         |true=>rfl
         |false =>
          have hag:=h1 (l.idx,l.o) (by unfold againD;rw[List.mem_filter];exact⟨List.mem_map.2 ⟨l,hl,rfl⟩,by simp only[hb,hp];rfl⟩)
          rcases hseen l hl with h3 | ⟨h3,d,h4,h5⟩
          ·rw[hp]at h3;cases h3
          ·unfold againO at hag
           rw[lookV_congr (S:=S') h3]
           simp only at hag
           split at hag
           ·rename_i a2 d2 hv hd2
            rw[h4]at hd2;injection hd2 with hd2;subst hd2
            rw[h5]at hag
            rw[hv]
            exact hag
           ·cases hag
       rw[hall,Bool.true_and,if_pos rfl]
       exact drun_steps r l2 (putT f o.dst a) S' L hl2 hseen
    |dfr d S' =>
     exfalso
     unfold stepR at hs
     split at hs
     ·cases hs
     ·cases hs
     ·split at hs
      ·cases hs
      ·cases hs
      ·split at hs <;> cases hs
      ·rename_i he
       exact hdf (exec1_dfr he)
      ·cases hs
      ·cases hs
    |pan a S'=>exact .inr rfl
    |fail=>exact .inl rfl
theorem runRS_append{E:Env}{ck:CallK}{n:Nat}{ops:Array Oper}:∀(l m:List RS) (f:Fr) (S:St),runRS E ck n ops (l ++ m) f S=match runRS E ck n ops l f S with
  |.out .normal f' S'=>runRS E ck n ops m f' S'
  |r=>r
 | [],m,f,S=>rfl
 |.op o :: r,m,f,S=>by
  have e:∀l,runRS E ck n ops (.op o :: l) f S=match stepO E ck n ops o f S with
   |.out .normal f' S'=>runRS E ck n ops l f' S'
   |r=>r:=fun _=>rfl
  rw[List.cons_append,e,e]
  cases stepO E ck n ops o f S with
  |fail=>rfl
  |out e f' S'=>cases e <;> first |exact runRS_append r m f' S' |rfl
 |.re o :: r,m,f,S=>by
  have e:∀l,runRS E ck n ops (.re o :: l) f S=if againO E ops o f.tmps S then runRS E ck n ops l f S else .fail:=fun _=>rfl
  rw[List.cons_append,e,e]
  cases againO E ops o f.tmps S with
  |false=>rfl
  |true=>exact runRS_append r m f S
end Go.Ax
noncomputable section
namespace Go.Ax
open Go.RowKit
theorem wp_keep{P:Program}{o:Oper}{act:Act}{w:World}{K:Act→World→Prop}{Q:Exit→Act→World→Prop}{d:Nat}(hd:o.dst≠some d)(h:o.wp P act w (fun a w=>a.tmps[d]? = act.tmps[d]? → K a w) Q):o.wp P act w K Q:=by
 have hp:∀(act':Act) (v:Value),act'.tmps=act.tmps→(act'.put o.dst v).tmps[d]? = act.tmps[d]?:=fun act' v he=>by
  unfold Act.put
  split
  ·rename_i x hx
   show(act'.tmps.setIfInBounds x v)[d]? = _
   rw[Array.getElem?_setIfInBounds_ne (fun e=>by subst e;exact hd hx),he]
  ·rw[he]
 unfold Oper.wp at h ⊢
 generalize (execOp act.eval o).run P w=r at h ⊢
 unfold Oper.upon at h ⊢
 split at h
 ·exact h (hp act _ rfl)
 ·exact h (hp act _ rfl)
 ·exact h (hp _ _ rfl)
 ·refine h.mono fun e w' he=>?_
  cases e with
  |returned v=>exact he (hp act v rfl)
  |panicked c=>exact he
  |outgrown=>exact he
 ·exact h.mono fun v w' he=>he (hp act v rfl)
 ·exact h
 ·exact h.elim
theorem put_keep{o:Oper}{act:Act}{v:Value}{d:Nat}(hd:o.dst≠some d):(act.put o.dst v).tmps[d]? = act.tmps[d]?:=by
 unfold Act.put
 split
 ·rename_i x hx
  show(act.tmps.setIfInBounds x v)[d]? = _
  rw[Array.getElem?_setIfInBounds_ne (fun e=>by subst e;exact hd hx)]
 ·rfl
section
variable {E:Env} {callK:CallK} {n:Nat} {ops:Array Oper} {ms:List Nat}
theorem all_listed(hm:masksOk ms ops.toList 0=true){listed:Array Bool}(hsz:listed.size=ops.size)(hr:Region.ready .any ops listed=[]):∀i,i<ops.size→listed.getD i true=true:=by
 intro i
 induction i using Nat.strongRecOn with
 |_ i ihi =>
  intro hlt
  cases hun:listed.getD i true with
  |true=>rfl
  |false =>
   exfalso
   have hoi:ops[i]? = some ops[i]:=Array.getElem?_eq_getElem hlt
   have hk:=masksOk_at hm (k:=i) (o:=ops[i]) (by simp[hlt])
   have:i∈Region.ready .any ops listed:=mem_ready.2 ⟨hun,ops[i],hoi,fun e he hb=>by
    have hel:=hk.2 e he hb
    rw[Nat.zero_add]at hel
    have h1:=ihi e.on hel (by omega)
    rw[getD_same (by omega) true false]at h1
    exact h1⟩
   rw[hr]at this
   cases this
structure Pend(γ:Gh)(S:St)(w:World)(act:Act)(lo d e:Nat)(cs:Array Value)(b:Nat):Prop where
 tmp:act.tmps[d]? = some (.pointer (some ⟨b,0,none⟩))
 blk:w.heap[b]? = some (Obj.cells cs e (0,0))
 lo:lo≤b
 lt:b<w.heap.size
 non:∀id c s,S.mem.get id=some c→γ.loc id≠some (b,s)
 im:∀o,¬ γ.im b o
theorem Pend.step{γ γ':Gh}{S S':St}{w w':World}{act act':Act}{lo d e b:Nat}{cs:Array Value}(h:Pend γ S w act lo d e cs b)(x:Ext γ S w γ' S' w')(ht:act'.tmps[d]? = act.tmps[d]?):Pend γ' S' w' act' lo d e cs b:=by
 obtain⟨f1,f2⟩:=x.frame b h.lt h.non
 refine⟨ht.trans h.tmp,f1.trans h.blk,h.lo,Nat.lt_of_lt_of_le h.lt x.size,fun id c s hm hl=>?_,fun o ho=>h.im o (f2 o ho)⟩
 rcases x.liv id c b s hm hl with h1 | ⟨i0,c0,s0,e0,l0⟩
 ·have:=h.lt;omega
 ·exact h.non i0 c0 s0 e0 l0
theorem Pend.named{base:Nat}{w0 ws:World}{γ0 γ:Gh}{S0 S:St}{w:World}{act:Act}{d e b:Nat}{av:AV}{z:Value}(hS:SR base w0 γ S w)(hx:Ext γ0 S0 ws γ S w)(hlo:base≤ws.heap.size)(hz:ofConst 8 z=some av)(hnt:av.noTup=true)
  (h:Pend γ S w act ws.heap.size d e z.cells b) {f:Fr} (ha:AR γ w n f act) (hd:d<n) :
  ∃γ',SR base w0 γ' ⟨S.next+1,S.mem.set S.next (some (.box av.cells))⟩ w∧Ext γ0 S0 ws γ' ⟨S.next+1,S.mem.set S.next (some (.box av.cells))⟩ w∧Ev γ w γ' w∧AR γ' w n ⟨f.tmps.set d (some (.ptr S.next 0)),f.dfr⟩ act:=by
 have hv:=ofConst_sound (γ:=γ) (w:=w) hz
 have hf:=hS.fresh S.next (Nat.le_refl _)
 have ev:Ev γ w (γ.withLoc S.next b 0) w:=ev_loc hf.1
 obtain⟨k1,k2⟩:=hS.name b 0 (.box av.cells) (Nat.le_trans hlo h.lo) h.lt ⟨rfl,h.im,hv.ones (noTup_ne hnt),z.cells,e,z.cells.toList,[],h.blk,by simp,hv.cells⟩ (fun id c s' hm=>h.non id c s' hm)
 refine⟨γ.withLoc S.next b 0,k1,?_,ev,?_⟩
 ·refine⟨hx.ev.trans ev,Nat.le_succ_of_le hx.next,fun id hid=>?_,hx.size,fun id c b' s' hm hl=>?_,fun b' hb' hn=>?_⟩
  ·show(if id=S.next then some (b,0)else γ.loc id)=γ0.loc id
   rw[if_neg (by have:=hx.next;omega)]
   exact hx.same id hid
  ·have hm:(S.mem.set S.next (some (.box av.cells))).get id=some c:=hm
   have hl:(if id=S.next then some (b,0)else γ.loc id)=some (b',s'):=hl
   rw[T.get_set]at hm
   split at hm
   ·rename_i hid
    rw[if_pos hid]at hl
    injection hl with hl;injection hl with l1 l2;subst l1
    exact .inl h.lo
   ·rename_i hid
    rw[if_neg hid]at hl
    exact hx.liv id c b' s' hm hl
  ·exact hx.frame b' hb' hn
 ·refine⟨fun t a hta=>?_,ha.size,ha.dfr.mono ev⟩
  have hq:(f.tmps.set d (some (.ptr S.next 0))).get t=some a:=hta
  rw[T.get_set]at hq
  split at hq
  ·rename_i e;subst e
   injection hq with hq2;subst hq2
   refine⟨by rw[ha.size];exact hd,?_⟩
   rw[Array.getD_eq_getD_getElem?,h.tmp]
   exact .ptr S.next 0 b 0 (by show(if S.next=S.next then _ else _)=_;rw[if_pos rfl])
  ·obtain⟨q1,q2⟩:=ha.tmps t a hq
   exact⟨q1,q2.mono ev⟩
theorem alloc_run{P:Program}{act:Act}{o:Oper}{e:TypeId}{i:TypeInfo}{z:Value}(ho:o.op=.alloc e)(hi:P.info? e=some i)(hz:i.zero=some z)(w:World):(execOp act.eval o).run P w=.ok (.value (.pointer (some ⟨w.heap.size,0,none⟩))) (w.alloc (.cells z.cells e)):=by
 simp[execOp,ho,Instr.alloc,zeroValue,typeInfo,hi,hz,newVar,newRow]
theorem drun_tail{fb:Fr}(M:List Look)(hM:∀l∈M,pureO l.o=true):∀(rem:List Nat) (f:Fr) (S:St) (L:List Look),drun E callK n ops ms fb rem f S (L ++ M)=drun E callK n ops ms fb rem f S L
 | [],f,S,L=>by unfold drun;rfl
 |i :: r,f,S,L=>by
  unfold drun
  cases ops[i]? with
  |none=>rfl
  |some o =>
   simp only
   split
   ·cases lookV E ops o f.tmps S with
    |none=>rfl
    |some a =>
     simp only
     split
     ·exact drun_tail M hM r _ S (⟨i,o,f.tmps,a⟩ :: L)
     ·rfl
   ·cases stepR E callK ops o f.tmps S with
    |val a S' =>
     simp only
     have:(L ++ M).all (recheck E ops (ms.getD i 0) S')=L.all (recheck E ops (ms.getD i 0) S'):=by
      rw[List.all_append]
      have:M.all (recheck E ops (ms.getD i 0) S')=true:=List.all_eq_true.2 fun l hl=>by unfold recheck;rw[hM l hl];simp
      rw[this,Bool.and_true]
     rw[this]
     split
     ·exact drun_tail M hM r _ S' L
     ·rfl
    |_=>rfl
def PureAt(ops:Array Oper)(d:Nat)(k:Nat):Prop:=∃o,ops[k]? = some o∧isLook o=true∧pureO o=true∧o.dst≠some d∧d ∉ o.looksAt ops
theorem pure_tail{fb:Fr}{da:Nat}{x:AV}{S S2:St}{post:List Nat}:∀(rem:List Nat) (f:Fr) (L L2:List Look) (R:O),(∀k∈rem,PureAt ops da k)→drun E callK n ops ms fb rem f S L=R→R≠.fail →
  ∃f',R=.out .normal f' S∧∃M,(∀l∈M,pureO l.o=true)∧drun E callK n ops ms fb (rem ++ post) ⟨f.tmps.set da (some x),f.dfr⟩ S2 L2=drun E callK n ops ms fb post ⟨f'.tmps.set da (some x),f'.dfr⟩ S2 (M ++ L2)
 | [],f,L,L2,R,hp,h,hne=>by
  unfold drun at h
  exact⟨f,h.symm,[],fun _ h=>absurd h List.not_mem_nil,rfl⟩
 |i :: r,f,L,L2,R,hp,h,hne=>by
  obtain⟨o,ho,hl,hpu,hd,hn⟩:=hp i (List.mem_cons_self ..)
  unfold drun at h
  rw[ho]at h
  simp only at h
  rw[if_pos hl]at h
  split at h
  ·rename_i a hv
   split at h
   ·rename_i hok
    have hag:agree ops o (f.tmps.set da (some x)) f.tmps:=fun t ht=>by rw[T.get_set,if_neg (fun e=>by subst e;exact hn ht)]
    have hv2:lookV E ops o (f.tmps.set da (some x)) S2=some a:=by rw[lookV_congr hag,pure_lookV (S':=S) hpu];exact hv
    have hput:putT ⟨f.tmps.set da (some x),f.dfr⟩ o.dst a=⟨(putT f o.dst a).tmps.set da (some x),(putT f o.dst a).dfr⟩:=by
     unfold putT
     split
     ·rfl
     ·rename_i d hd2
      have hne2:d≠da:=fun e=>by subst e;exact hd hd2
      simp only[T.set_comm f.tmps hne2]
    obtain⟨f',k1,M,k2,k3⟩:=pure_tail (post:=post) (S2:=S2) (x:=x) r (putT f o.dst a) (⟨i,o,f.tmps,a⟩ :: L) (⟨i,o,f.tmps.set da (some x),a⟩ :: L2) R (fun k hk=>hp k (List.mem_cons_of_mem _ hk)) h hne
    refine⟨f',k1,M ++ [⟨i,o,f.tmps.set da (some x),a⟩],fun l hl=>?_,?_⟩
    ·rcases List.mem_append.1 hl with hl |hl
     ·exact k2 l hl
     ·rw[List.mem_singleton.1 hl];exact hpu
    ·have e:drun E callK n ops ms fb (i :: (r ++ post)) ⟨f.tmps.set da (some x),f.dfr⟩ S2 L2=drun E callK n ops ms fb (r ++ post) (putT ⟨f.tmps.set da (some x),f.dfr⟩ o.dst a) S2 (⟨i,o,f.tmps.set da (some x),a⟩ :: L2):=by
      rw[drun,ho]
      simp only
      rw[if_pos hl,hv2]
      simp only
      rw[if_pos hok]
     rw[List.cons_append,e,hput,k3]
     simp
   ·exact absurd h.symm hne
  ·exact absurd h.symm hne
theorem drawn_pre{base:Nat}{w0:World}{Q:Exit→Act→World→Prop}(hE:E.Ok)(hC:CallOk E base w0 callK)(hm:masksOk ms ops.toList 0=true){fb:Fr}{γ0:Gh}{S0:St}{ws:World}(hlo:base≤ws.heap.size)
  {a:Nat} {oa:Oper} {da e:Nat} {i:TypeInfo} {z:Value} (hoa:ops[a]? = some oa) (hop:oa.op=.alloc e) (hgd:oa.guard=none) (hda:oa.dst=some da) (hdn0:da<n) (hi:E.P.info? e=some i) (hz:i.zero=some z)
  {pre post:List Nat} (hap:a ∉ pre) (hpost:∀p∈post,(ms.getD p 0).testBit a=true∧∀x∈pre,(ms.getD p 0).testBit x=true∨PureAt ops da x) (hcov:∀k,k<ops.size→k∈pre∨k=a∨k∈post) (hin:∀p∈pre,p<ops.size) (hdp:∀p∈pre,∀o,ops[p]? = some o→o.dst≠some da)
  {R:O} (hne:R≠.fail) (hpan:∀x S',R=.out (.pan x) fb S'→∀γ' act' w',SR base w0 γ' S' w'→Ext γ0 S0 ws γ' S' w'→AR γ' w' n fb act'→∀v,VR γ' w' x v→Q (.panic [{ v,recovered:=false }]) act' w')
  (hcont:∀(fuel:Nat) (listed:Array Bool) (f:Fr) (S:St) (γ:Gh) (w:World) (act:Act) (b:Nat) (rem:List Nat),drun E callK n ops ms fb rem f S []=R→(∀k∈rem,PureAt ops da k∧k∈pre)→rem.Nodup→pairsOk ops ms rem=true→listed.size=ops.size→(∀k,k<ops.size→(k∈rem ++ post↔listed.getD k true=false))→rem.length+post.length≤fuel→Dn ops listed→SR base w0 γ S w→Ext γ0 S0 ws γ S w→AR γ w n f act→GR γ w E.G→FbOk ops fb f→Pend γ S w act ws.heap.size da e z.cells b→wpAny E.P .any ops Q fuel listed act w) :
  ∀(fuel:Nat) (rem:List Nat) (st:Option Nat) (listed:Array Bool) (f:Fr) (S:St) (γ:Gh) (w:World) (act:Act),
  listed.size=ops.size→(∀k,k∈rem↔k∈pre∧listed.getD k true=false)→rem.Nodup→(∀p∈post,p<ops.size→listed.getD p true=false)→(listed.getD a true=true↔st.isSome=true)→rem.length+(if st.isSome then 0 else 1)+post.length≤fuel→Dn ops listed→pairsOk ops ms rem=true →
  SR base w0 γ S w→Ext γ0 S0 ws γ S w→AR γ w n f act→GR γ w E.G→FbOk ops fb f→f.tmps.get da=none→(∀b,st=some b→Pend γ S w act ws.heap.size da e z.cells b)→drun E callK n ops ms fb rem f S []=R→wpAny E.P .any ops Q fuel listed act w:=by
 have hal:a<ops.size:=(Array.getElem?_eq_some_iff.1 hoa).1
 intro fuel
 induction fuel with
 |zero =>
  intro rem st listed f S γ w act hsz hrem hnd hpl hst hlen hdn hp hS hx ha hg hfb hfd hpd hR
  have hr0:rem=[]:=List.eq_nil_of_length_eq_zero (by omega)
  have hs0:st.isSome=true:=by
   cases hq:st.isSome with
   |true=>rfl
   |false=>rw[hq]at hlen;simp at hlen
  obtain⟨b,rfl⟩:=Option.isSome_iff_exists.1 hs0
  subst hr0
  refine hcont 0 listed f S γ w act b [] hR (fun _ h=>absurd h List.not_mem_nil) List.nodup_nil rfl hsz (fun k hk=>⟨fun h=>hpl k (by simpa using h) hk,fun h=>?_⟩) (by simpa using hlen) hdn hS hx ha hg hfb (hpd b rfl)
  rcases hcov k hk with h1 |h1 |h1
  ·exact absurd ((hrem k).2 ⟨h1,h⟩) (by simp)
  ·subst h1;rw[hst.2 rfl]at h;cases h
  ·simpa using h1
 |succ fuel ih =>
  intro rem st listed f S γ w act hsz hrem hnd hpl hst hlen hdn hp hS hx ha hg hfb hfd hpd hR
  by_cases hdone:(∀k∈rem,PureAt ops da k)∧st.isSome=true
  ·obtain⟨hr0,hs0⟩:=hdone
   obtain⟨b,rfl⟩:=Option.isSome_iff_exists.1 hs0
   refine hcont (fuel+1) listed f S γ w act b rem hR (fun k hk=>⟨hr0 k hk,((hrem k).1 hk).1⟩) hnd hp hsz (fun k hk=>⟨fun h=>?_,fun h=>?_⟩) (by simpa using hlen) hdn hS hx ha hg hfb (hpd b rfl)
   ·rcases List.mem_append.1 h with h |h
    ·exact((hrem k).1 h).2
    ·exact hpl k h hk
   ·rw[List.mem_append]
    rcases hcov k hk with h1 |h1 |h1
    ·exact .inl ((hrem k).2 ⟨h1,h⟩)
    ·subst h1;rw[hst.2 rfl]at h;cases h
    ·exact .inr h1
  have hsome:∃k,((k∈pre∧¬ PureAt ops da k)∨k=a)∧k<ops.size∧listed.getD k true=false:=by
   cases hs:st.isSome with
   |false =>
    refine⟨a,.inr rfl,hal,?_⟩
    cases hq:listed.getD a true with
    |false=>rfl
    |true=>rw[hst.1 hq]at hs;cases hs
   |true =>
    have:¬ ∀k∈rem,PureAt ops da k:=fun h=>hdone ⟨h,hs⟩
    have:∃k,k∈rem∧¬ PureAt ops da k:=Classical.byContradiction fun hc=>this fun k hk=>Classical.byContradiction fun hn=>hc ⟨k,hk,hn⟩
    obtain⟨k,hk,hnp⟩:=this
    have h2:=(hrem k).1 hk
    exact⟨k,.inl ⟨h2.1,hnp⟩,hin k h2.1,h2.2⟩
  obtain⟨k0,hk0,hk1,hk2⟩:=hsome
  refine⟨fun hready=>?_,fun j hj=>?_⟩
  ·rw[all_listed hm hsz hready k0 hk1]at hk2;cases hk2
  ·obtain⟨hun,o,ho,hpre⟩:=mem_ready.1 hj
   have hjl:j<ops.size:=(Array.getElem?_eq_some_iff.1 ho).1
   have hjp:j ∉ post:=fun h=>by
    obtain⟨p1,p2⟩:=hpost j h
    have hb:(ms.getD j 0).testBit k0=true:=by
     rcases hk0 with⟨h0,h1⟩ |h0
     ·exact(p2 k0 h0).resolve_right h1
     ·rw[h0];exact p1
    have:=bit_listed hm hdn j o ho hpre hb
    rw[getD_same (by omega) true false,this]at hk2;cases hk2
   have lists:∀k,(listed.setIfInBounds j true).getD k true=if j=k then true else listed.getD k true:=fun k=>getD_put _ _ _ _ (by omega)
   have dn':Dn ops (listed.setIfInBounds j true):=fun k ok hok hlk e0 he0 hbd=>by
    rw[getD_put _ _ _ _ (by omega)]at hlk ⊢
    split
    ·rfl
    ·split at hlk
     ·rename_i hij
      subst hij
      rw[ho]at hok;injection hok with hok;subst hok
      exact hpre e0 he0 hbd
     ·exact hdn k ok hok hlk e0 he0 hbd
   rcases hcov j hjl with hjpre |hja |h
   ·
    have hjr:j∈rem:=(hrem j).2 ⟨hjpre,hun⟩
    have hja:j≠a:=fun e=>hap (e ▸ hjpre)
    have hfree:∀k∈rem,k≠j→(ms.getD j 0).testBit k=false:=fun k hk _=>by
     cases hb:(ms.getD j 0).testBit k with
     |false=>rfl
     |true =>
      have h1:=bit_listed hm hdn j o ho hpre hb
      have h2:=((hrem k).1 hk)
      rw[getD_same (by rw[hsz];exact hin k h2.1) true false,h1]at h2
      cases h2.2
    have hb:=bubble ho rem f S [] R hjr hfree hp hR hne
    have sub:∀(l:List Nat),pairsOk ops ms l=true→pairsOk ops ms (l.erase j)=true:=by
     intro l
     induction l with
     |nil=>intro h;exact h
     |cons x r ihl =>
      intro h
      unfold pairsOk at h
      rw[Bool.and_eq_true]at h
      by_cases hx:x=j
      ·subst hx;rw[List.erase_cons_head];exact h.2
      ·rw[List.erase_cons_tail (by simpa using hx)]
       unfold pairsOk
       rw[Bool.and_eq_true]
       exact⟨List.all_eq_true.2 fun y hy=>List.all_eq_true.1 h.1 y (List.mem_of_mem_erase hy),ihl h.2⟩
    have hdo:o.dst≠some da:=hdp j hjpre o ho
    have next:∀(f':Fr) (S':St) (γ':Gh) (act':Act) (w':World),SR base w0 γ' S' w'→Ext γ S w γ' S' w'→AR γ' w' n f' act'→FbOk ops fb f'→f'.tmps.get da=none→act'.tmps[da]? = act.tmps[da]? → drun E callK n ops ms fb (rem.erase j) f' S' []=R →
      wpAny E.P .any ops Q fuel (listed.setIfInBounds j true) act' w':=fun f' S' γ' act' w' k1 k2 k3 k4 k5 k6 k7=>by
     refine ih (rem.erase j) st (listed.setIfInBounds j true) f' S' γ' w' act' (by simpa using hsz) (fun k=>?_) (hnd.erase j) (fun p hp' hlt=>?_) ?_ (by rw[List.length_erase_of_mem hjr];have:=List.length_pos_of_mem hjr;omega) dn' (sub rem hp) k1 (hx.trans k2) k3 (hg.mono k2.ev) k4 k5 (fun b hb'=>(hpd b hb').step k2 k6) k7
     ·rw[hnd.mem_erase_iff,hrem k,lists]
      by_cases hjk:j=k
      ·subst hjk;simp
      ·rw[if_neg hjk];exact⟨fun h=>h.2,fun h=>⟨fun e=>hjk e.symm,h⟩⟩
     ·rw[lists,if_neg (fun e=>by subst e;exact hjp hp')];exact hpl p hp' hlt
     ·rw[lists,if_neg hja];exact hst
    have hst2:=stepO_eq (E:=E) (callK:=callK) (n:=n) (ops:=ops) o f S
    have dset:∀x,(putT f o.dst x).tmps.get da=none:=fun x=>by
     unfold putT
     split
     ·exact hfd
     ·rename_i d hd
      show(f.tmps.set d (some x)).get da=none
      rw[T.get_set,if_neg (fun e=>by subst e;exact hdo hd)];exact hfd
    have key:Holds base w0 n γ S w (fun x a' w'=>match x with |.normal=>(a'.tmps[da]? = act.tmps[da]? → wpAny E.P .any ops Q fuel (listed.setIfInBounds j true) a' w') |x=>Q x a' w') (stepO E callK n ops o f S):=by
     rw[hst2]
     rcases hb with⟨hl,x,hv,hd,hrun⟩ | ⟨hl,⟨x,S',hv,hd,hall,hrun⟩ | ⟨x,S',hv,hRp⟩⟩
     ·rw[stepR_look hl,hv]
      simp only
      rw[putA_eq,if_pos hd]
      exact fun γ' act' w' k1 k2 k3 k6=>next _ _ γ' act' w' k1 k2 k3 (hfb.put ho x) (dset x) k6 hrun
     ·rw[hv]
      simp only
      rw[putA_eq,if_pos hd]
      exact fun γ' act' w' k1 k2 k3 k6=>next _ _ γ' act' w' k1 k2 k3 (hfb.put ho x) (dset x) k6 hrun
     ·rw[hv]
      intro γ' act' w' k1 k2 k3 v hvr
      exact hpan x S' hRp γ' act' w' k1 (hx.trans k2) (hfb.ar k3) v hvr
    have:=stepO_sound (K:=fun a' w'=>a'.tmps[da]? = act.tmps[da]? → wpAny E.P .any ops Q fuel (listed.setIfInBounds j true) a' w') hE hC hS ha hg key
    unfold wpOp
    rw[ho]
    simp only
    split
    ·rename_i hw;rw[if_pos hw]at this;exact .inl (wp_keep hdo this)
    ·rename_i hw;rw[if_neg hw]at this;exact this (put_keep hdo)
   ·
    subst hja
    rw[hoa]at ho;injection ho with ho;subst ho
    have hs0:st=none:=by
     cases hq:st with
     |none=>rfl
     |some b=>rw[hq]at hst;rw[hst.2 rfl]at hun;cases hun
    subst hs0
    unfold wpOp
    rw[hoa]
    simp only
    have hw:Region.wanted oa (yielded ops act.tmps)=true:=by unfold Region.wanted;rw[hgd]
    rw[if_pos hw]
    refine .inl ?_
    unfold Oper.wp
    rw[alloc_run hop hi hz w,Oper.upon_value]
    obtain⟨a1,a2⟩:=hS.allocIm z.cells e 0 (Nat.zero_le _)
    have hev:=ev_alloc γ w (.cells z.cells e)
    have hex:=Ext.alloc (γ:=γ) (S:=S) (w:=w) (.cells z.cells e)
    have hS2:SR base w0 γ S (w.alloc (.cells z.cells e)):=by
     refine⟨a1.below,a1.hbase,fun b o hi=>a1.imc b o (.inl hi),a1.fresh,a1.pos,a1.inb,fun id c e=>?_,a1.inj⟩
     obtain⟨b,s,l1,l2,l3⟩:=hS.live id c e
     exact⟨b,s,l1,l2,l3.keep hev (Below.heap_alloc w _ _ (hS.inb id b s l1)) (fun _ h=>h)⟩
    have hput:(act.put oa.dst (.pointer (some ⟨w.heap.size,0,none⟩))).tmps=act.tmps.setIfInBounds da (.pointer (some ⟨w.heap.size,0,none⟩)):=by rw[hda];rfl
    have hdf:(act.put oa.dst (.pointer (some ⟨w.heap.size,0,none⟩))).defers=act.defers:=by rw[hda];rfl
    refine ih rem (some w.heap.size) (listed.setIfInBounds j true) f S γ _ _ (by simpa using hsz) (fun k=>?_) hnd (fun p hp' hlt=>?_) ?_ (by simp at hlen ⊢;omega) dn' hp hS2 (hx.trans hex) ?_ (hg.mono hev) hfb hfd ?_ hR
    ·rw[hrem k,lists]
     by_cases hjk:j=k
     ·subst hjk;simp[hap]
     ·rw[if_neg hjk]
    ·rw[lists,if_neg (fun e=>by subst e;exact hjp hp')];exact hpl p hp' hlt
    ·rw[lists,if_pos rfl];simp
    ·refine⟨fun t x ht=>?_,by rw[hput];simpa using ha.size,by rw[hdf];exact ha.dfr.mono hev⟩
     obtain⟨q1,q2⟩:=ha.tmps t x ht
     have hne2:t≠da:=fun e=>by subst e;rw[hfd]at ht;cases ht
     rw[hput]
     refine⟨by simpa using q1,?_⟩
     have e1:(act.tmps.setIfInBounds da (.pointer (some ⟨w.heap.size,0,none⟩))).getD t undef=act.tmps.getD t undef:=by
      rw[Array.getD_eq_getD_getElem?,Array.getElem?_setIfInBounds_ne (fun e=>hne2 e.symm),← Array.getD_eq_getD_getElem?]
     rw[e1];exact q2.mono hev
    ·intro b hb
     injection hb with hb;subst hb
     refine⟨?_,heap_alloc_new w _,hx.size,by simp,fun id c s hm hl=>?_,fun o ho=>?_⟩
     ·rw[hput];exact Array.getElem?_setIfInBounds_self_of_lt (by rw[ha.size];exact hdn0)
     ·have:=hS.inb id _ _ hl;omega
     ·have:=imc_lt hS ho;omega
   ·exact absurd h hjp
end
end Go.Ax
noncomputable section
namespace Go.Ax
open Go.RowKit
def isFl(P:Program)(o:Oper):Option Tmp:=match o.op,o.guard,o.dst with
 |.alloc e,none,some d=>if(oAlloc P ⟨0,.leaf⟩ e).isSome then some d else none
 |_,_,_=>none
structure FlP where
 a:Nat
 d:Tmp
 pre:List Nat
 post:List Nat
def memB(l:List Nat)(x:Nat):Bool:=l.any fun y=>Nat.beq y x
theorem memB_mem{l:List Nat}{x:Nat}:memB l x=true↔x∈l:=by
 unfold memB
 rw[List.any_eq_true]
 exact⟨fun⟨y,hy,hb⟩=>(Nat.eq_of_beq_eq_true hb) ▸ hy,fun h=>⟨x,h,Nat.beq_refl x⟩⟩
def dstNe(ops:Array Oper)(d:Tmp)(p:Nat):Bool:=match ops[p]? with
 |some o=>!(o.dst == some d)
 |none=>true
def pureAt(ops:Array Oper)(d:Nat)(k:Nat):Bool:=match ops[k]? with
 |some o=>isLook o && pureO o && !(o.dst == some d) && !(o.looksAt ops).contains d
 |none=>false
theorem pureAt_spec{ops:Array Oper}{d k:Nat}(h:pureAt ops d k=true):PureAt ops d k:=by
 unfold pureAt at h
 split at h
 ·rename_i o ho
  simp only[Bool.and_eq_true,Bool.not_eq_true']at h
  obtain⟨⟨⟨h1,h2⟩,h3⟩,h4⟩:=h
  refine⟨o,ho,h1,h2,fun e=>by rw[e]at h3;simp at h3,fun e=>?_⟩
  rw[List.contains_eq_mem,decide_eq_false_iff_not]at h4
  exact h4 e
 ·cases h
theorem pairsOk_left{ops:Array Oper}{ms:List Nat}:∀{l m:List Nat},pairsOk ops ms (l ++ m)=true→pairsOk ops ms l=true
 | [],m,h=>rfl
 |j :: r,m,h=>by
  have h:((r ++ m).all (fun i=>okP ops ms j i) && pairsOk ops ms (r ++ m))=true:=h
  rw[Bool.and_eq_true,List.all_append,Bool.and_eq_true]at h
  show(r.all (fun i=>okP ops ms j i) && pairsOk ops ms r)=true
  rw[Bool.and_eq_true]
  exact⟨h.1.1,pairsOk_left h.2⟩
theorem pairsOk_sub{ops:Array Oper}{ms:List Nat}{post:List Nat}:∀{pre rem:List Nat},pairsOk ops ms (pre ++ post)=true→pairsOk ops ms rem=true→(∀k∈rem,k∈pre)→pairsOk ops ms (rem ++ post)=true:=by
 intro pre rem h hr hs
 have hpp:pairsOk ops ms post=true∧∀k∈pre,∀i∈post,okP ops ms k i=true:=by
  clear hr hs
  induction pre with
  |nil=>exact⟨h,fun k hk=>absurd hk List.not_mem_nil⟩
  |cons j r ih =>
   have h:((r ++ post).all (fun i=>okP ops ms j i) && pairsOk ops ms (r ++ post))=true:=h
   rw[Bool.and_eq_true]at h
   obtain⟨k1,k2⟩:=ih h.2
   refine⟨k1,fun k hk i hi=>?_⟩
   rcases List.mem_cons.1 hk with rfl |hk
   ·exact List.all_eq_true.1 h.1 i (List.mem_append_right _ hi)
   ·exact k2 k hk i hi
 induction rem with
 |nil=>exact hpp.1
 |cons j r ih =>
  have hr:(r.all (fun i=>okP ops ms j i) && pairsOk ops ms r)=true:=hr
  rw[Bool.and_eq_true]at hr
  show((r ++ post).all (fun i=>okP ops ms j i) && pairsOk ops ms (r ++ post))=true
  rw[Bool.and_eq_true,List.all_append,Bool.and_eq_true]
  exact⟨⟨hr.1,List.all_eq_true.2 fun i hi=>hpp.2 j (hs j (List.mem_cons_self ..)) i hi⟩,ih hr.2 fun k hk=>hs k (List.mem_cons_of_mem _ hk)⟩
def flOk(P:Program)(ops:Array Oper)(ms:List Nat)(x:FlP):Bool :=
 masksOk ms ops.toList 0 && nodupB (x.pre ++ x.post) && !memB (x.pre ++ x.post) x.a && (x.pre ++ x.post).all (fun p=>decide (p<ops.size)) && (List.range ops.size).all (fun k=>Nat.beq k x.a || memB (x.pre ++ x.post) k) &&
 pairsOk ops ms (x.pre ++ x.post) && x.post.all (fun p=>(ms.getD p 0).testBit x.a && x.pre.all fun k=>(ms.getD p 0).testBit k || pureAt ops x.d k) && x.pre.all (dstNe ops x.d) && (stepsD ops ms x.pre []).isSome && (stepsD ops ms x.post []).isSome &&
 (match ops[x.a]? with |some o=>isFl P o == some x.d |none=>false)
def flMake(P:Program)(ops:Array Oper)(ms:List Nat)(a:Nat)(d:Tmp):FlP :=
 let all:=List.range ops.size
 let pre0:=all.filter fun k=>!(k == a) && !(ms.getD k 0).testBit a
 let post0:=all.filter fun k=>(ms.getD k 0).testBit a
 let pre:=eager ops ms pre0.length pre0 0
 ⟨a,d,pre,eager ops ms post0.length post0 (pre.foldl (fun m k=>m ||| 2 ^ k) (2 ^ a))⟩
def flTry(P:Program)(ops:Array Oper)(ms:List Nat):List Nat→Option FlP
 | []=>none
 |a :: r=>match ops[a]? with
  |some o=>match isFl P o with
   |some d=>if flOk P ops ms (flMake P ops ms a d)then some (flMake P ops ms a d)else flTry P ops ms r
   |none=>flTry P ops ms r
  |none=>flTry P ops ms r
def flFind(P:Program)(ops:Array Oper):Option FlP :=
 let ms:=bm ops.toList []
 if static ops ms (eager ops ms ops.size (List.range ops.size) 0)then none else flTry P ops ms (List.range ops.size)
theorem flTry_ok{P:Program}{ops:Array Oper}{ms:List Nat}:∀{l:List Nat} {x:FlP},flTry P ops ms l=some x→flOk P ops ms x=true
 | [],x,h=>by cases h
 |a :: r,x,h=>by
  unfold flTry at h
  split at h
  ·split at h
   ·split at h
    ·rename_i hk
     injection h with h;subst h;exact hk
    ·exact flTry_ok h
   ·exact flTry_ok h
  ·exact flTry_ok h
theorem flFind_ok{P:Program}{ops:Array Oper}{x:FlP}(h:flFind P ops=some x):flOk P ops (bm ops.toList []) x=true:=by
 unfold flFind at h
 simp only at h
 split at h
 ·cases h
 ·exact flTry_ok h
def allSteps(ops:Array Oper)(x:FlP):Option (List RS):=match stepsD ops (bm ops.toList []) x.pre [],ops[x.a]?,stepsD ops (bm ops.toList []) x.post []with
 |some p,some o,some q=>some (p ++ .op o :: q)
 |_,_,_=>none
def drawnFl(E:Env)(x:FlP):Drawn:=fun ck n ops f S=>match allSteps ops x with
 |some rs=>if x.d<n then fixX ⟨eraseT ops.toList f.tmps,f.dfr⟩ (runRS E ck n ops rs ⟨f.tmps.set x.d none,f.dfr⟩ S)else .fail
 |none=>.fail
theorem isFl_spec{P:Program}{o:Oper}{d:Tmp}(h:isFl P o=some d):∃e i z av,o.op=.alloc e∧o.guard=none∧o.dst=some d∧P.info? e=some i∧i.zero=some z∧ofConst 8 z=some av∧av.noTup=true∧∀S,oAlloc P S e=some (.ptr S.next 0,S.newBox av.cells):=by
 unfold isFl at h
 split at h
 ·rename_i e d' ho hg hd
  split at h
  ·rename_i hs
   injection h with h;subst h
   unfold oAlloc at hs
   cases hi:P.info? e with
   |none=>rw[hi]at hs;cases hs
   |some i =>
    rw[hi]at hs
    cases hz:i.zero with
    |none=>simp only[hz]at hs;cases hs
    |some z =>
     simp only[hz]at hs
     cases ha:ofConst 8 z with
     |none=>simp only[ha]at hs;cases hs
     |some av =>
      simp only[ha]at hs
      split at hs
      ·rename_i hn
       exact⟨e,i,z,av,ho,hg,hd,hi,hz,ha,hn,fun S=>by simp only[oAlloc,hi,hz,ha,if_pos hn]⟩
      ·cases hs
  ·cases h
 ·cases h
theorem drawnFl_ok{E:Env}(hE:E.Ok)(hmix:E.P.follows .mixedOrders=true){x:FlP}{ops:Array Oper}(hfl:flOk E.P ops (bm ops.toList []) x=true)(base:Nat)(w0:World)(Q:Exit→Act→World→Prop)(callK:CallK)(hC:CallOk E base w0 callK)(n id:Nat)(γ:Gh)(S:St)(w:World)(f:Fr)(act:Act)(hS:SR base w0 γ S w)(ha:AR γ w n f act)(hg:GR γ w E.G)
  (hH:Holds base w0 n γ S w Q (drawnFl E x callK n ops f S)):(Code.region id ops true).wp E.P Q act w:=by
 unfold drawnFl at hH
 split at hH
 case h_2=>exact hH.elim
 rename_i rs hrs
 split at hH
 case isFalse=>exact hH.elim
 rename_i hdn
 unfold allSteps at hrs
 generalize bm ops.toList []=ms at hfl hrs
 unfold flOk at hfl
 simp only[Bool.and_eq_true]at hfl
 obtain⟨⟨⟨⟨⟨⟨⟨⟨⟨⟨s1,s2⟩,s3⟩,s4⟩,s5⟩,s6⟩,s8⟩,s9⟩,s10⟩,s11⟩,s12⟩:=hfl
 obtain⟨a,da,pre,post⟩:=x
 simp only at hH hdn hrs s2 s3 s4 s5 s6 s8 s9 s10 s11 s12
 have hnd:=nodupB_nodup s2
 have hna:a ∉ pre ++ post:=fun h=>by rw[memB_mem.2 h]at s3;cases s3
 have hlt:∀p∈pre ++ post,p<ops.size:=fun p hp=>by have:=List.all_eq_true.1 s4 p hp;simpa using this
 have hcov:∀k,k<ops.size→k∈pre∨k=a∨k∈post:=fun k hk=>by
  have:=List.all_eq_true.1 s5 k (List.mem_range.2 hk)
  rw[Bool.or_eq_true]at this
  rcases this with h |h
  ·exact .inr (.inl (Nat.eq_of_beq_eq_true h))
  ·rcases List.mem_append.1 (memB_mem.1 h)with h |h
   ·exact .inl h
   ·exact .inr (.inr h)
 have hpost:∀p∈post,(ms.getD p 0).testBit a=true∧∀x∈pre,(ms.getD p 0).testBit x=true∨PureAt ops da x:=fun p hp=>by
  have:=List.all_eq_true.1 s8 p hp
  rw[Bool.and_eq_true]at this
  refine⟨this.1,fun x hx=>?_⟩
  have h2:=List.all_eq_true.1 this.2 x hx
  rw[Bool.or_eq_true]at h2
  exact h2.imp (fun h=>h) pureAt_spec
 cases hoa:ops[a]? with
 |none=>rw[hoa]at s12;cases s12
 |some oa =>
 rw[hoa]at s12 hrs
 split at hrs
 case h_2=>cases hrs
 rename_i rp oa' rq hrp hoa' hrq
 injection hoa' with hoa';subst hoa'
 injection hrs with hrs;subst hrs
 have hfl2:isFl E.P oa=some da:=by simpa using s12
 obtain⟨e,i,z,av,hop,hgd,hda,hi,hz,hav,hnt,hal⟩:=isFl_spec hfl2
 have hdp:∀p∈pre,∀o,ops[p]? = some o→o.dst≠some da:=fun p hp o ho hd=>by
  have:=List.all_eq_true.1 s9 p hp
  unfold dstNe at this
  rw[ho]at this
  simp[hd]at this
 have hal2:a<ops.size:=(Array.getElem?_eq_some_iff.1 hoa).1
 obtain⟨d1,d2⟩:=hS.drew
 have hx0:Ext γ S w γ S w.drew:=Ext.of_same (w:=w) (w':=w.drew) rfl d2
 have hlist:∀(i:Nat) (b:Bool),i<ops.size→(Array.replicate ops.size false).getD i b=false:=fun i b h=>by simp[h]
 refine wp_region_any hmix ?_
 have hH2:=hH.later hx0
 generalize hfb:(⟨eraseT ops.toList f.tmps,f.dfr⟩:Fr)=fb at hH2
 generalize hf1:(⟨f.tmps.set da none,f.dfr⟩:Fr)=f1 at hH2
 have hfbok:FbOk ops fb f1:=by
  subst hfb;subst hf1
  refine⟨fun t y h=>?_,rfl,fun i o d ho hd=>?_⟩
  ·obtain⟨h1,h2⟩:=eraseT_sub _ _ t y h
   show(f.tmps.set da none).get t=some y
   rw[T.get_set,if_neg (fun e=>by subst e;exact h2 oa (by have:=Array.mem_of_getElem? hoa;simpa using this) hda)]
   exact h1
  ·cases hq:(eraseT ops.toList f.tmps).get d with
   |none=>rfl
   |some y =>
    have:=(eraseT_sub _ _ d y hq).2 o (by have:=Array.mem_of_getElem? ho;simpa using this)
    exact absurd hd this
 have ha1:AR γ w.drew n f1 act:=by
  subst hf1
  have:=ha.mono d2
  refine⟨fun t y h=>?_,this.size,this.dfr⟩
  have h:(f.tmps.set da none).get t=some y:=h
  rw[T.get_set]at h
  split at h
  ·cases h
  ·exact this.tmps t y h
 have hfd:f1.tmps.get da=none:=by
  subst hf1
  show(f.tmps.set da none).get da=none
  rw[T.get_set,if_pos rfl]
 rw[runRS_append]at hH2
 have hR:drun E callK n ops ms fb pre f1 S []=fixX fb (runRS E callK n ops rp f1 S):=by
  rcases drun_steps (E:=E) (ck:=callK) (n:=n) (fb:=fb) pre rp f1 S [] hrp (fun _ h=>absurd h List.not_mem_nil)with h |h
  ·rw[h]at hH2;exact hH2.elim
  ·exact h
 refine drawn_pre (Q:=Q) hE hC s1 (fb:=fb) (γ0:=γ) (S0:=S) (ws:=w.drew) d1.hbase hoa hop hgd hda hdn hi hz (pre:=pre) (post:=post) (fun h=>hna (List.mem_append_left _ h)) hpost hcov (fun p hp=>hlt p (List.mem_append_left _ hp)) hdp (R:=fixX fb (runRS E callK n ops rp f1 S)) ?_ ?_ ?_
  ops.size pre none (Array.replicate ops.size false) f1 S γ w.drew act (by simp) (fun k=>⟨fun h=>⟨h,hlist k true (hlt k (List.mem_append_left _ h))⟩,fun h=>h.1⟩) (List.nodup_append.1 hnd).1 (fun p hp hl=>hlist p true hl) ?_ ?_ (fun i o ho hl=>?_) (pairsOk_left s6) d1 (.refl _ _ _) ha1 (hg.mono d2) hfbok hfd (fun b h=>by cases h) hR
 ·
  intro hf
  cases hr:runRS E callK n ops rp f1 S with
  |fail=>rw[hr]at hH2;exact hH2
  |out e f' S'=>rw[hr]at hf;cases e <;> cases hf
 ·
  intro y S' hy γ' act' w' k1 k2 k3 v hvr
  cases hr:runRS E callK n ops rp f1 S with
  |fail=>rw[hr]at hH2;exact hH2.elim
  |out e f' S2 =>
   rw[hr]at hy hH2
   cases e with
   |pan y2 =>
    have hy:O.out (.pan y2) fb S2=.out (.pan y) fb S':=hy
    injection hy with q1 q2 q3
    injection q1 with q1
    subst q1;subst q3
    exact hH2 γ' act' w' k1 k2 k3 v hvr
   |normal=>cases hy
   |exit i=>cases hy
   |ret=>cases hy
 ·
  intro fuel listed f2 S2 γ2 w2 act2 b rem hR2 hrp2 hrn hrpair hsz hpl hlen hdn2 hS2 hx2 ha2 hg2 hfb2 hpd
  have hne2:fixX fb (runRS E callK n ops rp f1 S)≠.fail:=by
   intro hf
   cases hr:runRS E callK n ops rp f1 S with
   |fail=>rw[hr]at hH2;exact hH2
   |out e f' S'=>rw[hr]at hf;cases e <;> cases hf
  obtain⟨f',hR3,M,hM,hrun⟩:=pure_tail (E:=E) (callK:=callK) (n:=n) (ops:=ops) (ms:=ms) (fb:=fb) (da:=da) (x:=.ptr S2.next 0) (S:=S2) (S2:=S2.newBox av.cells) (post:=post) rem f2 [] [] _ (fun k hk=>(hrp2 k hk).1) hR2 hne2
  cases hr:runRS E callK n ops rp f1 S with
  |fail=>rw[hr]at hR3;cases hR3
  |out e2 f3 S' =>
   rw[hr]at hR3 hH2
   cases e2 with
   |pan y=>cases hR3
   |exit i=>cases hR3
   |ret=>cases hR3
   |normal =>
    have hR3:O.out .normal f3 S' = .out .normal f' S2:=hR3
    injection hR3 with _ q2 q3
    subst q2;subst q3
    simp only at hH2
    have hstep:stepO E callK n ops oa f3 S' = .out .normal ⟨f3.tmps.set da (some (.ptr S'.next 0)),f3.dfr⟩ (S'.newBox av.cells):=by
     unfold stepO wantedA
     rw[hgd]
     simp only[exec1,hop,hal,ofOptS,hda,putA,if_pos hdn]
    have est:runRS E callK n ops (.op oa :: rq) f3 S' = runRS E callK n ops rq ⟨f3.tmps.set da (some (.ptr S'.next 0)),f3.dfr⟩ (S'.newBox av.cells):=by
     have e:runRS E callK n ops (.op oa :: rq) f3 S' = match stepO E callK n ops oa f3 S' with
      |.out .normal f' S'=>runRS E callK n ops rq f' S'
      |r=>r:=rfl
     rw[e,hstep]
    rw[est]at hH2
    obtain⟨γ3,k1,k2,k3,k4⟩:=hpd.named (n:=n) hS2 hx2 d1.hbase hav hnt ha2 hdn
    have hpost2:drun E callK n ops ms fb post ⟨f3.tmps.set da (some (.ptr S'.next 0)),f3.dfr⟩ (S'.newBox av.cells) []=fixX fb (runRS E callK n ops rq ⟨f3.tmps.set da (some (.ptr S'.next 0)),f3.dfr⟩ (S'.newBox av.cells)):=by
     rcases drun_steps (E:=E) (ck:=callK) (n:=n) (fb:=fb) post rq ⟨f3.tmps.set da (some (.ptr S'.next 0)),f3.dfr⟩ (S'.newBox av.cells) [] hrq (fun _ h=>absurd h List.not_mem_nil)with h |h
     ·rw[h]at hH2;exact hH2.elim
     ·exact h
    have hfb3:FbOk ops fb ⟨f2.tmps.set da (some (.ptr S'.next 0)),f2.dfr⟩:=by
     have:=hfb2.put hoa (.ptr S'.next 0)
     unfold putT at this
     rw[hda]at this
     exact this
    have htail:=drun_tail (E:=E) (callK:=callK) (n:=n) (ops:=ops) (ms:=ms) (fb:=fb) M hM post ⟨f3.tmps.set da (some (.ptr S'.next 0)),f3.dfr⟩ (S'.newBox av.cells) []
    have hrp3:∀k∈rem ++ post,k<ops.size:=fun k hk=>by
     rcases List.mem_append.1 hk with h |h
     ·exact hlt k (List.mem_append_left _ (hrp2 k h).2)
     ·exact hlt k (List.mem_append_right _ h)
    refine drawn_any hE hC s1 (fb:=fb) fuel (rem ++ post) listed _ (S'.newBox av.cells) γ3 w2 act2 hsz (fun k=>⟨fun h=>⟨hrp3 k h,(hpl k (hrp3 k h)).1 h⟩,fun h=>(hpl k h.1).2 h.2⟩) ?_ (by simpa using hlen) hdn2 (pairsOk_sub s6 hrpair fun k hk=>(hrp2 k hk).2) k1 k4 (hg2.mono k3) hfb3 ?_
    ·have hn2:=List.nodup_append.1 hnd
     exact List.nodup_append.2 ⟨hrn,hn2.2.1,fun x hx y hy e=>hn2.2.2 x (hrp2 x hx).2 y hy e⟩
    ·rw[hrun,List.append_nil]
     rw[List.nil_append]at htail
     rw[htail,hpost2]
     exact hH2.later k2
 ·show((Array.replicate ops.size false).getD a true=true↔(none:Option Nat).isSome=true)
  rw[hlist a true hal2];simp
 ·show pre.length+1+post.length≤ops.size
  have hsub:(a :: (pre ++ post)) ⊆ List.range ops.size:=fun k hk=>by
   rcases List.mem_cons.1 hk with rfl |hk
   ·exact List.mem_range.2 hal2
   ·exact List.mem_range.2 (hlt k hk)
  have:=(List.nodup_cons.2 ⟨hna,hnd⟩).length_le_of_subset hsub
  simp at this;omega
 ·have hlt2:=(Array.getElem?_eq_some_iff.1 ho).1
  rw[hlist i false hlt2]at hl
  cases hl
end Go.Ax
