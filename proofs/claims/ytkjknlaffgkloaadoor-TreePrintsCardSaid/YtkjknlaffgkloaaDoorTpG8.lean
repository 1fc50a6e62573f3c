/- AxSd -/
import Derived.Test.YtkjknlaffgkloaaDoorTpG6
import Derived.Test.YtkjknlaffgkloaaDoorTpG7
import Derived.Lib.Repeat
set_option linter.unusedVariables false
set_option linter.unusedSimpArgs false
noncomputable section
namespace Go.Ax
open Go.RowKit
structure MkSpec(E:Env)(o:Oper)(src:Option Nat)(need:Option (Nat × Value))(e:TypeId)(C:Act→Array Value)(V:Act→Nat→Value):Prop where
 run:∀(act:Act) (w:World),(∀s v,need=some (s,v)→act.tmps.getD s undef=v)→(execOp act.eval o).run E.P w=.ok (.value (V act w.heap.size)) (w.alloc (.cells (C act) e))
 same:∀act act':Act,(∀s,src=some s→act'.tmps[s]? = act.tmps[s]?)→C act' = C act∧V act' = V act
 exec:∀(f:T AV) (S:St),(∀s v,need=some (s,v)→f.get s=some (.v v))→exec1 E f S o=.fail∨∃av cs,exec1 E f S o=.val av (S.newBox cs)∧∀(γ:Gh) (w:World) (act:Act),FR γ w f act.tmps→(∀c∈cs,c.one=true)∧VRL γ w cs (C act).toList ∧
  ∀(γ':Gh) (b:Nat),γ'.loc S.next=some (b,0)→w.heap[b]? = some (Obj.cells (C act) e (0,0))→VR γ' w av (V act b)
structure PendV(γ:Gh)(S:St)(w:World)(act:Act)(lo d e:Nat)(cs:Array Value)(b:Nat)(v:Value):Prop where
 tmp:act.tmps[d]? = some v
 blk:w.heap[b]? = some (Obj.cells cs e (0,0))
 lo:lo≤b
 lt:b<w.heap.size
 non:∀id c s,S.mem.get id=some c→γ.loc id≠some (b,s)
 im:∀o,¬ γ.im b o
theorem PendV.step{γ γ':Gh}{S S':St}{w w':World}{act act':Act}{lo d e b:Nat}{cs:Array Value}{v:Value}(h:PendV γ S w act lo d e cs b v)(x:Ext γ S w γ' S' w')(ht:act'.tmps[d]? = act.tmps[d]?):PendV γ' S' w' act' lo d e cs b v:=by
 obtain⟨f1,f2⟩:=x.frame b h.lt h.non
 refine⟨ht.trans h.tmp,f1.trans h.blk,h.lo,Nat.lt_of_lt_of_le h.lt x.size,fun id c s hm hl=>?_,fun o ho=>h.im o (f2 o ho)⟩
 rcases x.liv id c b s hm hl with h1 | ⟨i0,c0,s0,e0,l0⟩
 ·have:=h.lt;omega
 ·exact h.non i0 c0 s0 e0 l0
theorem PendV.pend{γ:Gh}{S:St}{w:World}{act:Act}{lo d e b:Nat}{cs:Array Value}(h:PendV γ S w act lo d e cs b (.pointer (some ⟨b,0,none⟩))):Pend γ S w act lo d e cs b:=⟨h.tmp,h.blk,h.lo,h.lt,h.non,h.im⟩
theorem PendV.namedC{base:Nat}{w0 ws:World}{γ0 γ:Gh}{S0 S:St}{w:World}{act:Act}{d e b n:Nat}{cs:List AV}{cv:Array Value}{v:Value}{av:AV}(hS:SR base w0 γ S w)(hx:Ext γ0 S0 ws γ S w)(hlo:base≤ws.heap.size)(hv:VRL γ w cs cv.toList)(h1:∀c∈cs,c.one=true)
  (h:PendV γ S w act ws.heap.size d e cv b v) {f:Fr} (ha:AR γ w n f act) (hd:d<n) (hav:∀(γ':Gh),γ'.loc S.next=some (b,0)→w.heap[b]? = some (Obj.cells cv e (0,0))→VR γ' w av v) :
  ∃γ',SR base w0 γ' (S.newBox cs) w∧Ext γ0 S0 ws γ' (S.newBox cs) w∧Ev γ w γ' w∧AR γ' w n ⟨f.tmps.set d (some av),f.dfr⟩ act∧γ' = γ.withLoc S.next b 0:=by
 have hf:=hS.fresh S.next (Nat.le_refl _)
 have ev:Ev γ w (γ.withLoc S.next b 0) w:=ev_loc hf.1
 obtain⟨k1,k2⟩:=hS.name b 0 (.box cs) (Nat.le_trans hlo h.lo) h.lt ⟨rfl,h.im,h1,cv,e,cv.toList,[],h.blk,by simp,hv⟩ (fun id c s' hm=>h.non id c s' hm)
 refine⟨γ.withLoc S.next b 0,k1,?_,ev,?_,rfl⟩
 ·refine⟨hx.ev.trans ev,Nat.le_succ_of_le hx.next,fun id hid=>?_,hx.size,fun id c b' s' hm hl=>?_,fun b' hb' hn=>?_⟩
  ·show(if id=S.next then some (b,0)else γ.loc id)=γ0.loc id
   rw[if_neg (by have:=hx.next;omega)]
   exact hx.same id hid
  ·have hm:(S.mem.set S.next (some (.box cs))).get id=some c:=hm
   have hl:(if id=S.next then some (b,0)else γ.loc id)=some (b',s'):=hl
   rw[T.get_set]at hm
   split at hm
   ·rename_i hid
    rw[if_pos hid]at hl
    injection hl with hl;injection hl with l1 l2;subst l1
    exact .inl h.lo
   ·rename_i hid
    rw[if_neg hid]at hl
    exact hx.liv id c b' s' hm hl
  ·exact hx.frame b' hb' hn
 ·refine⟨fun t a hta=>?_,ha.size,ha.dfr.mono ev⟩
  have hq:(f.tmps.set d (some av)).get t=some a:=hta
  rw[T.get_set]at hq
  split at hq
  ·rename_i e;subst e
   injection hq with hq2;subst hq2
   refine⟨by rw[ha.size];exact hd,?_⟩
   rw[Array.getD_eq_getD_getElem?,h.tmp]
   exact hav _ (by show(if S.next=S.next then _ else _)=_;rw[if_pos rfl]) h.blk
  ·obtain⟨q1,q2⟩:=ha.tmps t a hq
   exact⟨q1,q2.mono ev⟩
section
variable {E:Env} {callK:CallK} {n:Nat} {ops:Array Oper} {ms:List Nat}
theorem drun_keep{fb:Fr}{s:Nat}:∀(rem:List Nat) (f:Fr) (S:St) (L:List Look) (fR:Fr) (SR:St),drun E callK n ops ms fb rem f S L=.out .normal fR SR→(∀p∈rem,∀o,ops[p]? = some o→o.dst≠some s)→fR.tmps.get s=f.tmps.get s
 | [],f,S,L,fR,SR,h,_=>by
  unfold drun at h
  injection h with _ h1 h2;subst h1;rfl
 |i :: r,f,S,L,fR,SR,h,hp=>by
  unfold drun at h
  cases ho:ops[i]? with
  |none=>rw[ho]at h;cases h
  |some o =>
   rw[ho]at h
   simp only at h
   have hd:=hp i (List.mem_cons_self ..) o ho
   have hput:∀a,(putT f o.dst a).tmps.get s=f.tmps.get s:=fun a=>by
    unfold putT
    split
    ·rfl
    ·rename_i d hd2
     show(f.tmps.set d (some a)).get s=_
     rw[T.get_set,if_neg (fun e=>by subst e;exact hd hd2)]
   have hr:∀p∈r,∀o,ops[p]? = some o→o.dst≠some s:=fun p h=>hp p (List.mem_cons_of_mem _ h)
   split at h
   ·split at h
    ·split at h
     ·rw[drun_keep r _ _ _ fR SR h hr,hput]
     ·cases h
    ·cases h
   ·split at h
    ·split at h
     ·rw[drun_keep r _ _ _ fR SR h hr,hput]
     ·cases h
    ·cases h
    ·cases h
theorem drawn_preV{base:Nat}{w0:World}{Q:Exit→Act→World→Prop}(hE:E.Ok)(hC:CallOk E base w0 callK)(hm:masksOk ms ops.toList 0=true){fb:Fr}{γ0:Gh}{S0:St}{ws:World}(hlo:base≤ws.heap.size)
  {mk M pre post:List Nat} (D TT:Nat→Nat) (C:Nat→Act→Array Value) (V:Nat→Act→Nat→Value) (src:Nat→Option Nat) (need:Nat→Option (Nat × Value))
  (hmk:∀a∈mk,∃o,ops[a]? = some o∧o.guard=none∧o.dst=some (D a)∧MkSpec E o (src a) (need a) (TT a) (C a) (V a)) (hdn0:∀a∈mk,D a<n)
  (hpd:∀a∈mk,∀p∈pre,∀o,ops[p]? = some o→o.dst≠some (D a)) (hps:∀a∈mk,∀s,src a=some s→∀p∈pre,(ms.getD a 0).testBit p=true∨∀o,ops[p]? = some o→o.dst≠some s)
  (hmd:∀a∈mk,∀a'∈mk,a≠a'→D a≠D a') (hms:∀a∈mk,∀s,src a=some s→∀a'∈mk,D a'≠s)
  (hap:∀a∈mk,a ∉ pre) (hpost:∀p∈post,∀k,k∈pre∨k∈M→(ms.getD p 0).testBit k=true) (hM:∀a∈M,a∈mk) (hin:∀p∈pre,p<ops.size) (hinm:∀p∈mk,p<ops.size)
  {R:O} (hne:R≠.fail) (hneed:∀a∈mk,∀s v,need a=some (s,v)→src a=some s∧∃fR SR,R=.out .normal fR SR∧fR.tmps.get s=some (.v v)) (hpan:∀x S',R=.out (.pan x) fb S'→∀γ' act' w',SR base w0 γ' S' w'→Ext γ0 S0 ws γ' S' w'→AR γ' w' n fb act'→∀v,VR γ' w' x v→Q (.panic [{ v,recovered:=false }]) act' w')
  (hcont:∀(fuel:Nat) (remM:List Nat) (listed:Array Bool) (f:Fr) (S:St) (γ:Gh) (w:World) (act:Act) (B:Nat→Nat),drun E callK n ops ms fb [] f S []=R→listed.size=ops.size→(∀k,k<ops.size→listed.getD k true=false→k∈mk∨k∈post)→(∀k∈post,k<ops.size→listed.getD k true=false)→(∀k,k∈remM↔k∈mk∧listed.getD k true=false)→remM.Nodup→(∀a∈M,listed.getD a true=true)→remM.length+post.length≤fuel→Dn ops listed→SR base w0 γ S w→Ext γ0 S0 ws γ S w→AR γ w n f act→GR γ w E.G→FbOk ops fb f →
   (∀a∈mk,f.tmps.get (D a)=none)→(∀a∈mk,listed.getD a true=true→PendV γ S w act ws.heap.size (D a) (TT a) (C a act) (B a) (V a act (B a)))→(∀a∈mk,∀a'∈mk,a≠a'→listed.getD a true=true→listed.getD a' true=true→B a≠B a')→wpAny E.P .any ops Q fuel listed act w) :
  ∀(fuel:Nat) (rem remM:List Nat) (B:Nat→Nat) (listed:Array Bool) (f:Fr) (S:St) (γ:Gh) (w:World) (act:Act),
  listed.size=ops.size→(∀k,k∈rem↔k∈pre∧listed.getD k true=false)→rem.Nodup→(∀k,k∈remM↔k∈mk∧listed.getD k true=false)→remM.Nodup→(∀p∈post,p<ops.size→listed.getD p true=false)→(∀k,k<ops.size→listed.getD k true=false→k∈pre∨k∈mk∨k∈post)→rem.length+remM.length+post.length≤fuel→Dn ops listed→pairsOk ops ms rem=true →
  SR base w0 γ S w→Ext γ0 S0 ws γ S w→AR γ w n f act→GR γ w E.G→FbOk ops fb f→(∀a∈mk,f.tmps.get (D a)=none)→(∀a∈mk,listed.getD a true=true→PendV γ S w act ws.heap.size (D a) (TT a) (C a act) (B a) (V a act (B a)))→(∀a∈mk,∀a'∈mk,a≠a'→listed.getD a true=true→listed.getD a' true=true→B a≠B a') →
  drun E callK n ops ms fb rem f S []=R→wpAny E.P .any ops Q fuel listed act w:=by
 intro fuel
 induction fuel with
 |zero =>
  intro rem remM B listed f S γ w act hsz hrem hnd hremM hndM hpl hcov hlen hdn hp hS hx ha hg hfb hfd hpd2 hB hR
  have hr0:rem=[]:=List.eq_nil_of_length_eq_zero (by omega)
  have hs0:remM=[]:=List.eq_nil_of_length_eq_zero (by omega)
  subst hr0;subst hs0
  have hml:∀a∈mk,listed.getD a true=true:=fun a ha=>by
   cases hq:listed.getD a true with
   |true=>rfl
   |false=>exact absurd ((hremM a).2 ⟨ha,hq⟩) List.not_mem_nil
  exact hcont 0 [] listed f S γ w act B hR hsz (fun k hk h=>(hcov k hk h).resolve_left fun h1=>absurd ((hrem k).2 ⟨h1,h⟩) (by simp)) hpl hremM List.nodup_nil (fun a ha=>hml a (hM a ha)) (by simpa using hlen) hdn hS hx ha hg hfb hfd hpd2 hB
 |succ fuel ih =>
  intro rem remM B listed f S γ w act hsz hrem hnd hremM hndM hpl hcov hlen hdn hp hS hx ha hg hfb hfd hpd2 hB hR
  by_cases hdone:rem=[]∧∀a∈M,listed.getD a true=true
  ·obtain⟨hr0,hs0⟩:=hdone
   subst hr0
   exact hcont (fuel+1) remM listed f S γ w act B hR hsz (fun k hk h=>(hcov k hk h).resolve_left fun h1=>absurd ((hrem k).2 ⟨h1,h⟩) (by simp)) hpl hremM hndM hs0 (by simpa using hlen) hdn hS hx ha hg hfb hfd hpd2 hB
  have hsome:∃k,(k∈pre∨k∈M)∧k<ops.size∧listed.getD k true=false:=by
   cases hr:rem with
   |cons k r =>
    have h2:=(hrem k).1 (by rw[hr];exact List.mem_cons_self ..)
    exact⟨k,.inl h2.1,hin k h2.1,h2.2⟩
   |nil =>
    refine Classical.byContradiction fun hc=>hdone ⟨hr,fun a haM=>?_⟩
    cases hq:listed.getD a true with
    |true=>rfl
    |false=>exact absurd ⟨a,.inr haM,hinm a (hM a haM),hq⟩ hc
  obtain⟨k0,hk0,hk1,hk2⟩:=hsome
  refine⟨fun hready=>?_,fun j hj=>?_⟩
  ·rw[all_listed hm hsz hready k0 hk1]at hk2;cases hk2
  ·obtain⟨hun,o,ho,hpre⟩:=mem_ready.1 hj
   have hjl:j<ops.size:=(Array.getElem?_eq_some_iff.1 ho).1
   have hjp:j ∉ post:=fun h=>by
    have hb:=hpost j h k0 hk0
    have:=bit_listed hm hdn j o ho hpre hb
    rw[getD_same (by omega) true false,this]at hk2;cases hk2
   have lists:∀k,(listed.setIfInBounds j true).getD k true=if j=k then true else listed.getD k true:=fun k=>getD_put _ _ _ _ (by omega)
   have dn':Dn ops (listed.setIfInBounds j true):=fun k ok hok hlk e0 he0 hbd=>by
    rw[getD_put _ _ _ _ (by omega)]at hlk ⊢
    split
    ·rfl
    ·split at hlk
     ·rename_i hij
      subst hij
      rw[ho]at hok;injection hok with hok;subst hok
      exact hpre e0 he0 hbd
     ·exact hdn k ok hok hlk e0 he0 hbd
   have keepC:∀a∈mk,listed.getD a true=true→∀act':Act,(∀d,o.dst≠some d→act'.tmps[d]? = act.tmps[d]?)→j∈pre∨j∈mk→C a act' = C a act∧V a act' = V a act∧(o.dst≠some (D a)→act'.tmps[D a]? = act.tmps[D a]?):=fun a ham hal act' hk hjm=>by
    obtain⟨oA,_,_,_,hsp⟩:=hmk a ham
    have hsm:=hsp.same act act' fun s hs=>hk s ?_
    refine⟨hsm.1,hsm.2,fun h=>hk _ h⟩
    rcases hjm with hjm |hjm
    ·rcases hps a ham s hs j hjm with h |h
     ·
      exfalso
      obtain⟨oa,hoa,_⟩:=hmk a ham
      have hlt:=hinm a ham
      have:=bit_listed hm hdn a oa hoa (fun e he hb=>hdn a oa hoa (by rw[getD_same (by omega) false true];exact hal) e he hb) h
      rw[getD_same (by omega) false true,hun]at this;cases this
     ·exact h o ho
    ·obtain⟨oj,hoj,_,hdj,_⟩:=hmk j hjm
     rw[ho]at hoj;injection hoj with hoj;subst hoj
     rw[hdj]
     intro e;injection e with e
     exact hms a ham s hs j hjm e
   have cov':∀k,k<ops.size→(listed.setIfInBounds j true).getD k true=false→k∈pre∨k∈mk∨k∈post:=fun k hk h=>by
    rw[lists]at h
    split at h
    ·cases h
    ·exact hcov k hk h
   rcases hcov j hjl hun with hjpre |hjm |h
   ·
    have hjr:j∈rem:=(hrem j).2 ⟨hjpre,hun⟩
    have hjnm:j ∉ mk:=fun h=>hap j h hjpre
    have hfree:∀k∈rem,k≠j→(ms.getD j 0).testBit k=false:=fun k hk _=>by
     cases hb:(ms.getD j 0).testBit k with
     |false=>rfl
     |true =>
      have h1:=bit_listed hm hdn j o ho hpre hb
      have h2:=((hrem k).1 hk)
      rw[getD_same (by rw[hsz];exact hin k h2.1) true false,h1]at h2
      cases h2.2
    have hb:=bubble ho rem f S [] R hjr hfree hp hR hne
    have hdo:∀a∈mk,o.dst≠some (D a):=fun a ham=>hpd a ham j hjpre o ho
    have next:∀(f':Fr) (S':St) (γ':Gh) (act':Act) (w':World),SR base w0 γ' S' w'→Ext γ S w γ' S' w'→AR γ' w' n f' act'→FbOk ops fb f'→(∀a∈mk,f'.tmps.get (D a)=none)→(∀d,o.dst≠some d→act'.tmps[d]? = act.tmps[d]?)→drun E callK n ops ms fb (rem.erase j) f' S' []=R →
      wpAny E.P .any ops Q fuel (listed.setIfInBounds j true) act' w':=fun f' S' γ' act' w' k1 k2 k3 k4 k5 k6 k7=>by
     have lm:∀a∈mk,(listed.setIfInBounds j true).getD a true=listed.getD a true:=fun a ham=>by rw[lists,if_neg (fun e=>by subst e;exact hjnm ham)]
     refine ih (rem.erase j) remM B (listed.setIfInBounds j true) f' S' γ' w' act' (by simpa using hsz) (fun k=>?_) (hnd.erase j) (fun k=>?_) hndM (fun p hp' hlt=>?_) cov' (by rw[List.length_erase_of_mem hjr];have:=List.length_pos_of_mem hjr;omega) dn' (pairs_erase rem hp) k1 (hx.trans k2) k3 (hg.mono k2.ev) k4 k5 (fun a ham hal=>?_) (fun a ham a' ham' hn h1 h2=>hB a ham a' ham' hn (by rw[← lm a ham];exact h1) (by rw[← lm a' ham'];exact h2)) k7
     ·rw[hnd.mem_erase_iff,hrem k,lists]
      by_cases hjk:j=k
      ·subst hjk;simp
      ·rw[if_neg hjk];exact⟨fun h=>h.2,fun h=>⟨fun e=>hjk e.symm,h⟩⟩
     ·rw[hremM k,lists]
      by_cases hjk:j=k
      ·subst hjk;simp[hjnm]
      ·rw[if_neg hjk]
     ·rw[lists,if_neg (fun e=>by subst e;exact hjp hp')];exact hpl p hp' hlt
     ·rw[lm a ham]at hal
      obtain⟨c1,c3,c2⟩:=keepC a ham hal act' k6 (.inl hjpre)
      rw[c1,c3]
      exact(hpd2 a ham hal).step k2 (c2 (hdo a ham))
    have hst2:=stepO_eq (E:=E) (callK:=callK) (n:=n) (ops:=ops) o f S
    have dset:∀x,∀a∈mk,(putT f o.dst x).tmps.get (D a)=none:=fun x a ham=>by
     unfold putT
     split
     ·exact hfd a ham
     ·rename_i d hd
      show(f.tmps.set d (some x)).get (D a)=none
      rw[T.get_set,if_neg (fun e=>by subst e;exact hdo a ham hd)];exact hfd a ham
    have key:Holds base w0 n γ S w (fun x a' w'=>match x with |.normal=>((∀d,o.dst≠some d→a'.tmps[d]? = act.tmps[d]?)→wpAny E.P .any ops Q fuel (listed.setIfInBounds j true) a' w') |x=>Q x a' w') (stepO E callK n ops o f S):=by
     rw[hst2]
     rcases hb with⟨hl,x,hv,hd,hrun⟩ | ⟨hl,⟨x,S',hv,hd,hall,hrun⟩ | ⟨x,S',hv,hRp⟩⟩
     ·rw[stepR_look hl,hv]
      simp only
      rw[putA_eq,if_pos hd]
      exact fun γ' act' w' k1 k2 k3 k6=>next _ _ γ' act' w' k1 k2 k3 (hfb.put ho x) (dset x) k6 hrun
     ·rw[hv]
      simp only
      rw[putA_eq,if_pos hd]
      exact fun γ' act' w' k1 k2 k3 k6=>next _ _ γ' act' w' k1 k2 k3 (hfb.put ho x) (dset x) k6 hrun
     ·rw[hv]
      intro γ' act' w' k1 k2 k3 v hvr
      exact hpan x S' hRp γ' act' w' k1 (hx.trans k2) (hfb.ar k3) v hvr
    have:=stepO_sound (K:=fun a' w'=>(∀d,o.dst≠some d→a'.tmps[d]? = act.tmps[d]?)→wpAny E.P .any ops Q fuel (listed.setIfInBounds j true) a' w') hE hC hS ha hg key
    unfold wpOp
    rw[ho]
    simp only
    split
    ·rename_i hw;rw[if_pos hw]at this;exact .inl (wp_keepAll this)
    ·rename_i hw;rw[if_neg hw]at this;exact this (fun d hd=>put_keep hd)
   ·
    obtain⟨oj,hoj,hgd,hda,hrun⟩:=hmk j hjm
    rw[ho]at hoj;injection hoj with hoj;subst hoj
    have hjrM:j∈remM:=(hremM j).2 ⟨hjm,hun⟩
    have hjnp:j ∉ pre:=hap j hjm
    unfold wpOp
    rw[ho]
    simp only
    have hw:Region.wanted o (yielded ops act.tmps)=true:=by unfold Region.wanted;rw[hgd]
    rw[if_pos hw]
    refine .inl ?_
    unfold Oper.wp
    have hknown:∀s v,need j=some (s,v)→act.tmps.getD s undef=v:=fun s v hs=>by
     obtain⟨hsrc,fR,SR',hRn,hfR⟩:=hneed j hjm s v hs
     have hfin:f.tmps.get s=some (.v v):=by
      rw[← hfR]
      refine(drun_keep rem f S [] fR SR' (hR.trans hRn) fun p hpr op hop=>?_).symm
      have hpp:=(hrem p).1 hpr
      rcases hps j hjm s hsrc p hpp.1 with hb |hb
      ·exfalso
       have:=bit_listed hm hdn j o ho hpre hb
       rw[getD_same (by rw[hsz];exact hin p hpp.1) true false]at hpp
       rw[hpp.2]at this;cases this
      ·exact hb op hop
     obtain⟨_,hvr⟩:=ha.tmps s _ hfin
     cases hvr
     rfl
    rw[hrun.run act w hknown,Oper.upon_value]
    obtain⟨a1,a2⟩:=hS.allocIm (C j act) (TT j) 0 (Nat.zero_le _)
    have hev:=ev_alloc γ w (.cells (C j act) (TT j))
    have hex:=Ext.alloc (γ:=γ) (S:=S) (w:=w) (.cells (C j act) (TT j))
    have hS2:SR base w0 γ S (w.alloc (.cells (C j act) (TT j))):=by
     refine⟨a1.below,a1.hbase,fun b o hi=>a1.imc b o (.inl hi),a1.fresh,a1.pos,a1.inb,fun id c e=>?_,a1.inj⟩
     obtain⟨b,s,l1,l2,l3⟩:=hS.live id c e
     exact⟨b,s,l1,l2,l3.keep hev (Below.heap_alloc w _ _ (hS.inb id b s l1)) (fun _ h=>h)⟩
    have hput:(act.put o.dst (V j act w.heap.size)).tmps=act.tmps.setIfInBounds (D j) (V j act w.heap.size):=by rw[hda];rfl
    have hdf:(act.put o.dst (V j act w.heap.size)).defers=act.defers:=by rw[hda];rfl
    have hkeep:∀d,o.dst≠some d→(act.put o.dst (V j act w.heap.size)).tmps[d]? = act.tmps[d]?:=fun d hd=>put_keep hd
    refine ih rem (remM.erase j) (fun k=>if k=j then w.heap.size else B k) (listed.setIfInBounds j true) f S γ _ _ (by simpa using hsz) (fun k=>?_) hnd (fun k=>?_) (hndM.erase j) (fun p hp' hlt=>?_) cov' (by rw[List.length_erase_of_mem hjrM];have:=List.length_pos_of_mem hjrM;omega) dn' hp hS2 (hx.trans hex) ?_ (hg.mono hev) hfb hfd (fun a ham hal=>?_) (fun a ham a' ham' hn h1 h2=>?_) hR
    ·rw[hrem k,lists]
     by_cases hjk:j=k
     ·subst hjk;simp[hjnp]
     ·rw[if_neg hjk]
    ·rw[hndM.mem_erase_iff,hremM k,lists]
     by_cases hjk:j=k
     ·subst hjk;simp
     ·rw[if_neg hjk];exact⟨fun h=>h.2,fun h=>⟨fun e=>hjk e.symm,h⟩⟩
    ·rw[lists,if_neg (fun e=>by subst e;exact hjp hp')];exact hpl p hp' hlt
    ·refine⟨fun t x ht=>?_,by rw[hput];simpa using ha.size,by rw[hdf];exact ha.dfr.mono hev⟩
     obtain⟨q1,q2⟩:=ha.tmps t x ht
     have hne2:t≠D j:=fun e=>by subst e;rw[hfd j hjm]at ht;cases ht
     rw[hput]
     refine⟨by simpa using q1,?_⟩
     have e1:(act.tmps.setIfInBounds (D j) (V j act w.heap.size)).getD t undef=act.tmps.getD t undef:=by
      rw[Array.getD_eq_getD_getElem?,Array.getElem?_setIfInBounds_ne (fun e=>hne2 e.symm),← Array.getD_eq_getD_getElem?]
     rw[e1];exact q2.mono hev
    ·obtain⟨oA,_,_,_,hsp⟩:=hmk a ham
     obtain⟨hCj,hVj⟩:=hsp.same act (act.put o.dst (V j act w.heap.size)) fun s hs=>hkeep s (by
      rw[hda];intro e;injection e with e;exact hms a ham s hs j hjm e)
     by_cases haj:a=j
     ·subst haj
      rw[hCj,hVj,if_pos rfl]
      refine⟨?_,heap_alloc_new w _,hx.size,by simp,fun id c s hm hl=>?_,fun o ho=>?_⟩
      ·rw[hput];exact Array.getElem?_setIfInBounds_self_of_lt (by rw[ha.size];exact hdn0 a hjm)
      ·have:=hS.inb id _ _ hl;omega
      ·have:=imc_lt hS ho;omega
     ·rw[lists,if_neg (fun e=>haj e.symm)]at hal
      rw[hCj,hVj,if_neg haj]
      exact(hpd2 a ham hal).step hex (hkeep _ (by rw[hda];intro e;injection e with e;exact hmd j hjm a ham (fun e=>haj e.symm) e))
    ·have old:∀x∈mk,x≠j→(listed.setIfInBounds j true).getD x true=true→B x<w.heap.size:=fun x hxm hxj hxl=>by
      rw[lists,if_neg (fun e=>hxj e.symm)]at hxl
      exact(hpd2 x hxm hxl).lt
     show(if a=j then w.heap.size else B a)≠(if a' = j then w.heap.size else B a')
     by_cases haj:a=j
     ·have ha'j:a'≠j:=fun e=>hn (haj.trans e.symm)
      rw[if_pos haj,if_neg ha'j]
      have:=old a' ham' ha'j h2;omega
     ·rw[if_neg haj]
      by_cases ha'j:a' = j
      ·rw[if_pos ha'j];have:=old a ham haj h1;omega
      ·rw[if_neg ha'j]
       rw[lists,if_neg (fun e=>haj e.symm)]at h1
       rw[lists,if_neg (fun e=>ha'j e.symm)]at h2
       exact hB a ham a' ham' hn h1 h2
   ·exact absurd h hjp
theorem named_allV{base:Nat}{w0 ws:World}{γ0:Gh}{S0:St}{w:World}{act:Act}(hlo:base≤ws.heap.size){fb:Fr}(D TT:Nat→Nat)(C:Nat→Act→Array Value)(V:Nat→Act→Nat→Value)(src:Nat→Option Nat)(need:Nat→Option (Nat × Value))(B:Nat→Nat):∀(l:List Nat) (rs:List RS) (f:Fr) (S:St) (γ:Gh) (rest:List RS),opsOf ops l=some rs→l.Nodup →
  (∀a∈l,∃o,ops[a]? = some o∧o.guard=none∧o.dst=some (D a)∧D a<n∧MkSpec E o (src a) (need a) (TT a) (C a) (V a))→(∀a∈l,∀s v,need a=some (s,v)→f.tmps.get s=some (.v v)∧∀b∈l,D b≠s) →
  SR base w0 γ S w→Ext γ0 S0 ws γ S w→AR γ w n f act→FbOk ops fb f→(∀a∈l,PendV γ S w act ws.heap.size (D a) (TT a) (C a act) (B a) (V a act (B a)))→(∀a∈l,∀a'∈l,a≠a'→B a≠B a')→runRS E callK n ops (rs ++ rest) f S≠.fail →
  ∃f' S' γ',runRS E callK n ops (rs ++ rest) f S=runRS E callK n ops rest f' S'∧SR base w0 γ' S' w∧Ext γ0 S0 ws γ' S' w∧Ev γ w γ' w∧AR γ' w n f' act∧FbOk ops fb f'∧(∀k,(∀a∈l,D a≠k)→f'.tmps.get k=f.tmps.get k)∧∀d e cs b v,PendV γ S w act ws.heap.size d e cs b v→(∀a∈l,B a≠b)→PendV γ' S' w act ws.heap.size d e cs b v
 | [],rs,f,S,γ,rest,hrs,hnd,hmk,hnv,hS,hx,ha,hfb,hp,hB,hne=>by
  injection hrs with hrs;subst hrs
  exact⟨f,S,γ,rfl,hS,hx,.refl _ _,ha,hfb,fun _ _=>rfl,fun _ _ _ _ _ h _=>h⟩
 |a :: l,rs,f,S,γ,rest,hrs,hnd,hmk,hnv,hS,hx,ha,hfb,hp,hB,hne=>by
  obtain⟨o,ho,hg,hd,hdn,hex⟩:=hmk a (List.mem_cons_self ..)
  unfold opsOf at hrs
  rw[ho]at hrs
  cases hl:opsOf ops l with
  |none=>rw[hl]at hrs;cases hrs
  |some rs' =>
   rw[hl]at hrs
   injection hrs with hrs;subst hrs
   have hw:wantedA ops o f.tmps=some true:=by unfold wantedA;rw[hg]
   rcases hex.exec f.tmps S (fun s v h=>(hnv a (List.mem_cons_self ..) s v h).1)with hf | ⟨av,cs,hcs,hc⟩
   ·exfalso;apply hne
    rw[List.cons_append,runRS_op']
    unfold stepO
    simp only[hw,hf]
   ·obtain⟨h1,hv,hav⟩:=hc γ w act ha.tmps
    have hstep:stepO E callK n ops o f S=.out .normal ⟨f.tmps.set (D a) (some av),f.dfr⟩ (S.newBox cs):=by
     unfold stepO
     simp only[hw,hcs,hd,putA,if_pos hdn]
    have hpa:=hp a (List.mem_cons_self ..)
    obtain⟨γ1,k1,k2,k3,k4,k5⟩:=hpa.namedC hS hx hlo hv h1 ha hdn (fun γ2=>hav γ2 (B a))
    have hnd2:=List.nodup_cons.1 hnd
    have hfb2:FbOk ops fb ⟨f.tmps.set (D a) (some av),f.dfr⟩:=by
     have:=hfb.put ho av
     unfold putT at this
     rw[hd]at this
     exact this
    rw[List.cons_append,runRS_op',hstep]at hne
    simp only at hne
    have hkeep:∀d e cs' b v,PendV γ S w act ws.heap.size d e cs' b v→B a≠b→PendV γ1 (S.newBox cs) w act ws.heap.size d e cs' b v:=fun d e cs' b v hpb hne=>by
     refine⟨hpb.tmp,hpb.blk,hpb.lo,hpb.lt,fun id c s hm hl=>?_,fun o ho=>?_⟩
     ·have hm:(S.mem.set S.next (some (.box cs))).get id=some c:=hm
      rw[k5]at hl
      have hl:(if id=S.next then some (B a,0)else γ.loc id)=some (b,s):=hl
      rw[T.get_set]at hm
      split at hm
      ·rename_i hid
       rw[if_pos hid]at hl
       injection hl with hl;injection hl with l1 l2
       exact hne l1
      ·rename_i hid
       rw[if_neg hid]at hl
       exact hpb.non id c s hm hl
     ·rw[k5]at ho
      exact hpb.im o ho
    have hpend:∀b∈l,PendV γ1 (S.newBox cs) w act ws.heap.size (D b) (TT b) (C b act) (B b) (V b act (B b)):=fun b hb =>
     hkeep _ _ _ _ _ (hp b (List.mem_cons_of_mem _ hb)) (hB a (List.mem_cons_self ..) b (List.mem_cons_of_mem _ hb) (fun e=>hnd2.1 (e ▸ hb)))
    obtain⟨f',S',γ',q1,q2,q3,q4,q5,q6,q7,q8⟩:=named_allV hlo D TT C V src need B l rs' _ (S.newBox cs) γ1 rest hl hnd2.2 (fun b hb=>hmk b (List.mem_cons_of_mem _ hb)) (fun b hb s v h=>⟨by
     obtain⟨q1,q2⟩:=hnv b (List.mem_cons_of_mem _ hb) s v h
     show(f.tmps.set (D a) _).get s=_
     rw[T.get_set,if_neg (fun e=>q2 a (List.mem_cons_self ..) e.symm)];exact q1,fun c hc=>(hnv b (List.mem_cons_of_mem _ hb) s v h).2 c (List.mem_cons_of_mem _ hc)⟩) k1 k2 k4 hfb2 hpend (fun b hb b' hb'=>hB b (List.mem_cons_of_mem _ hb) b' (List.mem_cons_of_mem _ hb')) hne
    refine⟨f',S',γ',?_,q2,q3,k3.trans q4,q5,q6,fun k hk=>?_,fun d e cs' b v hpb hnb=>?_⟩
    ·rw[← q1,List.cons_append,runRS_op',hstep]
    ·rw[q7 k (fun b hb=>hk b (List.mem_cons_of_mem _ hb))]
     show(f.tmps.set (D a) _).get k=_
     rw[T.get_set,if_neg (fun e=>hk a (List.mem_cons_self ..) e.symm)]
    ·exact q8 d e cs' b v (hkeep d e cs' b v hpb (hnb a (List.mem_cons_self ..))) (fun b' hb'=>hnb b' (List.mem_cons_of_mem _ hb'))
end
theorem oMake_any{P:Program}{t:TypeId}{k:IntKind}{n:Int}{x y m sz:Nat}{S':St}(h:oMake P ⟨0,.leaf⟩ t (.v (.int k n)) (.v (.int k n))=some (.bs x y m sz,S')):
  ∃(e:TypeId) (cv:Array Value) (cs:List AV),(∀w:World,(Instr.makeSlice t (.int k n) (.int k n)).run P w=.ok (.slice (some ⟨w.heap.size,0,none⟩) m m) (w.alloc (.cells cv e))) ∧
   (∀S:St,oMake P S t (.v (.int k n)) (.v (.int k n))=some (.bs S.next 0 m sz,S.newBox cs))∧(∀(γ:Gh) (w:World),(∀c∈cs,c.one=true)∧VRL γ w cs cv.toList)∧0<sz∧cv.size=m*sz:=by
 unfold oMake at h
 simp only at h
 split at h
 ·rename_i e ht
  split at h
  ·rename_i i hi
   split at h
   ·rename_i z hz
    split at h
    ·rename_i za hza
     split at h
     ·rename_i hc
      obtain⟨c1,c2,c3,c4,c5,c6,c7⟩:=hc
      split at h
      ·injection h with h;injection h with h1 h2;cases h1
      ·rename_i hl
       injection h with h;injection h with h1 h2
       injection h1 with e1 e2 e3 e4
       subst e3;subst e4
       refine⟨e,madeCells z.cells (n.toNat*i.size),repA za.cells n.toNat,fun w=>run_make (P:=P) w t e i z ht hi hz k k n n c1 c2 c3 c4,fun S=>?_,fun γ w=>?_,c7,by rw[size_madeCells]⟩
       ·unfold oMake
        simp only[ht,hi,hz,hza]
        rw[if_pos ⟨c1,c2,c3,c4,c5,c6,c7⟩,if_neg hl]
       ·have hzv:=ofConst_sound (w:=w) (γ:=γ) hza
        have hm:=made_VRL hzv.cells (by omega) n.toNat
        rw[c6]at hm
        exact⟨repA_one (hzv.ones (noTup_ne c5)) n.toNat,hm⟩
     ·cases h
    ·cases h
   ·cases h
  ·cases h
 ·cases h
def isMkS(o:Oper):Option (Nat × Nat):=match o.op,o.guard,o.dst with
 |.makeSlice _ (.tmp s) (.tmp s'),none,some d=>if Nat.beq s s' then some (d,s)else none
 |_,_,_=>none
def goodS(P:Program)(o:Oper)(f:T AV):Bool:=match o.op with
 |.makeSlice t (.tmp s) _=>match f.get s with
  |some (.v (.int k n))=>match oMake P ⟨0,.leaf⟩ t (.v (.int k n)) (.v (.int k n))with
   |some (.bs _ _ _ _,_)=>true
   |_=>false
  |_=>false
 |_=>false
theorem goodS_spec{E:Env}{o:Oper}{d s:Nat}(h:isMkS o=some (d,s)){f:T AV}(hg:goodS E.P o f=true):o.guard=none∧o.dst=some d∧∃(v:Value) (e:TypeId) (C:Act→Array Value) (V:Act→Nat→Value),f.get s=some (.v v)∧MkSpec E o (some s) (some (s,v)) e C V:=by
 unfold isMkS at h
 split at h
 ·rename_i t s1 s2 d1 ho hgd hd
  split at h
  ·rename_i hs
   injection h with h;injection h with h1 h2;subst h1;subst h2
   have hs:s1=s2:=Nat.eq_of_beq_eq_true hs
   subst hs
   refine⟨hgd,hd,?_⟩
   unfold goodS at hg
   rw[ho]at hg
   simp only at hg
   split at hg
   ·rename_i k n hfs
    split at hg
    ·rename_i x y m sz S' hm
     obtain⟨e,cv,cs,r1,r2,r3,r4,r5⟩:=oMake_any hm
     refine⟨.int k n,e,fun _=>cv,fun _ b=>.slice (some ⟨b,0,none⟩) m m,hfs,fun act w hk=>?_,fun _ _ _=>⟨rfl,rfl⟩,fun f S hf=>.inr ⟨.bs S.next 0 m sz,cs,?_,fun γ w act _=>⟨(r3 γ w).1,(r3 γ w).2,fun γ' b hl hb=>?_⟩⟩⟩
     ·have hk:=hk s1 _ rfl
      have e1:act.eval (.tmp s1)=.int k n:=hk
      simp only[execOp,ho,e1]
      have:=r1 w
      simp[this]
     ·have hf:=hf s1 _ rfl
      simp only[exec1,ho,evalO,hf]
      rw[r2 S];rfl
     ·have key:=VR.bs (γ:=γ') (w:=w) S.next 0 m sz b 0 m hl (Nat.le_refl _) r4 ⟨cv,e,(0,0),hb,by rw[r5];omega⟩
      exact key
    ·cases hg
   ·cases hg
  ·cases h
 ·cases h
def mkDst2(P:Program)(ops:Array Oper)(a:Nat):Option (Nat × Option Nat):=match mkDst P ops a with
 |some x=>some x
 |none=>match ops[a]? with
  |some o=>match isMkS o with
   |some (d,s)=>some (d,some s)
   |none=>none
  |none=>none
def mkFree2(P:Program)(ops:Array Oper)(ms:List Nat)(a p:Nat):Bool:=match mkDst2 P ops a with
 |some (d,src)=>dstNe ops d p && (match src with
  |none=>true
  |some s=>(ms.getD a 0).testBit p || dstNe ops s p)
 |none=>false
def mkTwo2(P:Program)(ops:Array Oper)(a b:Nat):Bool:=match mkDst2 P ops a with
 |some (d,src)=>(b == a || dstNe ops d b) && (match src with
  |none=>true
  |some s=>dstNe ops s b)
 |none=>false
def mk2Ok(P:Program)(ops:Array Oper)(ms:List Nat)(x:MkX):Bool:=match x.ph with
 | []=>false
 | (L,M) :: r =>
  masksOk ms ops.toList 0 && nodupB (opsIn x.ph ++ mksOf x.ph) && (opsIn x.ph ++ mksOf x.ph).all (fun p=>decide (p<ops.size)) && (List.range ops.size).all (fun k=>memB (opsIn x.ph ++ mksOf x.ph) k) &&
  (pairsOk ops ms L && (opsIn r).all (fun p=>(L ++ M).all fun k=>(ms.getD p 0).testBit k) && (M ++ mksOf r).all (fun a=>L.all fun p=>mkFree2 P ops ms a p) && phOk P ops ms r) && ((mksOf x.ph).all fun a=>(mksOf x.ph).all fun b=>mkTwo2 P ops a b) && (mksOf r).all fun a=>(mkDst P ops a).isSome
def mkMake2(P:Program)(ops:Array Oper)(ms:List Nat):MkX :=
 let all:=List.range ops.size
 let mk:=all.filter fun a=>(mkDst2 P ops a).isSome
 ⟨mkRounds ops ms mk (mk.length+1) (all.filter fun k=>!memB mk k) mk 0⟩
def mk2Find(P:Program)(ops:Array Oper):Option MkX :=
 let ms:=bm ops.toList []
 if static ops ms (eager ops ms ops.size (List.range ops.size) 0)then none else if mk2Ok P ops ms (mkMake2 P ops ms)then some (mkMake2 P ops ms)else none
theorem mk2Find_ok{P:Program}{ops:Array Oper}{x:MkX}(h:mk2Find P ops=some x):mk2Ok P ops (bm ops.toList []) x=true:=by
 unfold mk2Find at h
 simp only at h
 split at h
 ·cases h
 ·split at h
  ·rename_i hk;injection h with h;subst h;exact hk
  ·cases h
def clearT2(P:Program)(ops:Array Oper):List Nat→T AV→T AV
 | [],t=>t
 |a :: r,t=>match mkDst2 P ops a with
  |some (d,_)=>(clearT2 P ops r t).set d none
  |none=>clearT2 P ops r t
theorem clearT2_get(P:Program)(ops:Array Oper):∀(l:List Nat) (t:T AV) (k:Nat),((clearT2 P ops l t).get k=none∧∃a∈l,∃s,mkDst2 P ops a=some (k,s))∨((clearT2 P ops l t).get k=t.get k∧∀a∈l,∀s,mkDst2 P ops a≠some (k,s))
 | [],t,k=>.inr ⟨rfl,fun a h=>absurd h List.not_mem_nil⟩
 |a :: r,t,k=>by
  unfold clearT2
  cases hd:mkDst2 P ops a with
  |none =>
   rcases clearT2_get P ops r t k with⟨h1,b,hb,s,hs⟩ | ⟨h1,h2⟩
   ·exact .inl ⟨h1,b,List.mem_cons_of_mem _ hb,s,hs⟩
   ·refine .inr ⟨h1,fun b hb s=>?_⟩
    rcases List.mem_cons.1 hb with rfl |hb
    ·rw[hd];exact fun e=>by cases e
    ·exact h2 b hb s
  |some p =>
   obtain⟨d,s0⟩:=p
   simp only
   by_cases hk:k=d
   ·subst hk
    exact .inl ⟨by rw[T.get_set,if_pos rfl],a,List.mem_cons_self ..,s0,hd⟩
   ·rcases clearT2_get P ops r t k with⟨h1,b,hb,s,hs⟩ | ⟨h1,h2⟩
    ·exact .inl ⟨by rw[T.get_set,if_neg hk];exact h1,b,List.mem_cons_of_mem _ hb,s,hs⟩
    ·refine .inr ⟨by rw[T.get_set,if_neg hk];exact h1,fun b hb s=>?_⟩
     rcases List.mem_cons.1 hb with rfl |hb
     ·rw[hd];intro e;injection e with e;injection e with e1 e2;exact hk e1.symm
     ·exact h2 b hb s
def mkFit2(P:Program)(n:Nat)(ops:Array Oper)(x:MkX):Bool:=x.mks.all (fun a=>match mkDst2 P ops a with |some (d,_)=>decide (d<n) |none=>false)
def goodM(P:Program)(ops:Array Oper)(f:T AV)(a:Nat):Bool:=match mkDst P ops a with
 |some _=>true
 |none=>match ops[a]? with
  |some o=>goodS P o f
  |none=>false
def mk2Steps(ops:Array Oper)(x:MkX):Option (List RS × List Nat × List RS):=match x.ph with
 | []=>none
 | (L,M) :: r=>match stepsD ops (bm ops.toList []) L [],opsOf ops M,phSteps ops (bm ops.toList []) r with
  |some p,some m,some q=>some (p,M,m ++ q)
  |_,_,_=>none
def thenG(P:Program)(ops:Array Oper)(M:List Nat)(K:T AV→List Dfr→St→O):O→O
 |.out .normal f S=>if M.all (goodM P ops f.tmps)=true then K f.tmps f.dfr S else .fail
 |_=>.fail
def drawnMk2(E:Env)(x:MkX):Drawn:=fun ck n ops f S=>match mk2Steps ops x with
 |some (p,M,q)=>if mkFit2 E.P n ops x=true then
   thenG E.P ops M (fun t d S1=>fixX ⟨eraseT ops.toList f.tmps,f.dfr⟩ (runRS E ck n ops q ⟨t,d⟩ S1)) (runRS E ck n ops p ⟨clearT2 E.P ops x.mks f.tmps,f.dfr⟩ S)else .fail
 |none=>.fail
theorem drawnMk2_ok{E:Env}(hE:E.Ok)(hmix:E.P.follows .mixedOrders=true){x:MkX}{ops:Array Oper}(hok:mk2Ok E.P ops (bm ops.toList []) x=true)(base:Nat)(w0:World)(Q:Exit→Act→World→Prop)(callK:CallK)(hC:CallOk E base w0 callK)(n id:Nat)(γ:Gh)(S:St)(w:World)(f:Fr)(act:Act)(hS:SR base w0 γ S w)(ha:AR γ w n f act)(hg:GR γ w E.G)
  (hH:Holds base w0 n γ S w Q (drawnMk2 E x callK n ops f S)):(Code.region id ops true).wp E.P Q act w:=by
 unfold drawnMk2 at hH
 split at hH
 case h_2=>exact hH.elim
 rename_i rp M rmq hrs
 split at hH
 case isFalse=>exact hH.elim
 rename_i hdn
 unfold mkFit2 at hdn
 obtain⟨ph⟩:=x
 unfold mk2Steps at hrs
 generalize bm ops.toList []=ms at hok hrs
 cases ph with
 |nil=>cases hrs
 |cons p0 r =>
 obtain⟨L,M'⟩:=p0
 simp only at hrs
 split at hrs
 case h_2=>cases hrs
 rename_i rp' rm rq hrp hrm hrq
 injection hrs with hrs;injection hrs with e1 e2;injection e2 with e2 e3
 subst e1;subst e2;subst e3
 unfold mk2Ok at hok
 simp only[Bool.and_eq_true]at hok
 obtain⟨⟨⟨⟨⟨⟨s1,s2⟩,s3⟩,s4⟩,⟨⟨t1,t2⟩,t3⟩,t4⟩,s6⟩,s7⟩:=hok
 have hnd:=nodupB_nodup s2
 have eo:opsIn ((L,M') :: r)=L ++ opsIn r:=rfl
 have em:mksOf ((L,M') :: r)=M' ++ mksOf r:=rfl
 have hlt:∀p∈opsIn ((L,M') :: r) ++ mksOf ((L,M') :: r),p<ops.size:=fun p hp=>by have:=List.all_eq_true.1 s3 p hp;simpa using this
 have hcov:∀k,k<ops.size→k∈opsIn ((L,M') :: r) ++ mksOf ((L,M') :: r):=fun k hk=>memB_mem.1 (List.all_eq_true.1 s4 k (List.mem_range.2 hk))
 rw[eo,em]at hnd hlt hcov
 rw[em]at s6
 have ex:(MkX.mk ((L,M') :: r)).mks=M' ++ mksOf r:=rfl
 rw[ex]at hdn hH
 generalize hA:M' ++ mksOf r=A at hnd hlt hcov s6 hdn hH t3
 have hnd1:=List.nodup_append.1 hnd
 have hndo:=List.nodup_append.1 hnd1.1
 have hndm:(M' ++ mksOf r).Nodup:=by rw[hA];exact hnd1.2.1
 have hndm:=List.nodup_append.1 hndm
 obtain⟨d1,d2⟩:=hS.drew
 have hx0:Ext γ S w γ S w.drew:=Ext.of_same (w:=w) (w':=w.drew) rfl d2
 have hH2:=hH.later hx0
 generalize hf1:(⟨clearT2 E.P ops A f.tmps,f.dfr⟩:Fr)=f1 at hH2
 generalize hfb:(⟨eraseT ops.toList f.tmps,f.dfr⟩:Fr)=fb at hH2
 cases hr:runRS E callK n ops rp' f1 S with
 |fail=>rw[hr]at hH2;exact hH2.elim
 |out e fE SE =>
 rw[hr]at hH2
 cases e with
 |exit i=>exact hH2.elim
 |ret=>exact hH2.elim
 |pan a=>exact hH2.elim
 |normal =>
 have hH2:Holds base w0 n γ S w.drew Q (if M'.all (goodM E.P ops fE.tmps)=true then fixX fb (runRS E callK n ops (rm ++ rq) ⟨fE.tmps,fE.dfr⟩ SE)else .fail):=hH2
 split at hH2
 case isFalse=>exact hH2.elim
 rename_i hgood
 have hspec:∀a,∃(o:Oper) (d:Nat) (src:Option Nat) (need:Option (Nat × Value)) (e:TypeId) (C:Act→Array Value) (V:Act→Nat→Value),a∈A→ops[a]? = some o∧mkDst2 E.P ops a=some (d,src)∧d<n∧o.guard=none∧o.dst=some d∧MkSpec E o src need e C V ∧
   (∀s v,need=some (s,v)→src=some s∧fE.tmps.get s=some (.v v)) ∧
   (a∈mksOf r→mkDst E.P ops a=some (d,src)∧(V=fun _ b=>.pointer (some ⟨b,0,none⟩))∧need=none∧MkRun E.P o e C∧(∀act act':Act,(∀s,src=some s→act'.tmps[s]? = act.tmps[s]?)→C act' = C act) ∧
    (∀(f:T AV) (S:St),exec1 E f S o=.fail∨∃cs,exec1 E f S o=.val (.ptr S.next 0) (S.newBox cs)∧∀(γ:Gh) (w:World) (act:Act),FR γ w f act.tmps→(∀c∈cs,c.one=true)∧VRL γ w cs (C act).toList)):=fun a=>by
  by_cases ham:a∈A
  ·have h1:=List.all_eq_true.1 hdn a ham
   cases hq0:mkDst E.P ops a with
   |some p =>
    obtain⟨d,src⟩:=p
    have hq:mkDst2 E.P ops a=some (d,src):=by unfold mkDst2;rw[hq0]
    rw[hq]at h1
    have h1':=hq0
    unfold mkDst at h1'
    split at h1'
    ·rename_i o ho
     obtain⟨e,C,k1,k2,k3,k4,k5⟩:=isMk_spec h1'
     have k5:=fun f S=>k5 E f S rfl
     refine⟨o,d,src,none,e,C,fun _ b=>.pointer (some ⟨b,0,none⟩),fun _=>⟨ho,hq,by simpa using h1,k1,k2,⟨fun act w _=>k3 act w,fun act act' h=>⟨k4 act act' h,rfl⟩,fun f S _=>?_⟩,fun s v h=>(by cases h),fun _=>⟨rfl,rfl,rfl,k3,k4,k5⟩⟩⟩
     rcases k5 f S with h | ⟨cs,h,hcs⟩
     ·exact .inl h
     ·refine .inr ⟨_,cs,h,fun γ w act hF=>⟨(hcs γ w act hF).1,(hcs γ w act hF).2,fun γ' b hl _=>?_⟩⟩
      have:=VR.ptr (γ:=γ') (w:=w) S.next 0 b 0 hl
      exact this
    ·cases h1'
   |none =>
    have hnr:a ∉ mksOf r:=fun h=>by
     have:=List.all_eq_true.1 s7 a h
     rw[hq0]at this;cases this
    have haM:a∈M':=by
     rw[← hA]at ham
     exact(List.mem_append.1 ham).resolve_right hnr
    have hgd:=List.all_eq_true.1 hgood a haM
    unfold goodM at hgd
    rw[hq0]at hgd
    cases ho:ops[a]? with
    |none=>rw[ho]at hgd;cases hgd
    |some o =>
     rw[ho]at hgd
     cases hm:isMkS o with
     |none =>
      have hq:mkDst2 E.P ops a=none:=by unfold mkDst2;rw[hq0];simp only[ho,hm]
      rw[hq]at h1;cases h1
     |some q =>
      obtain⟨d,s⟩:=q
      have hq:mkDst2 E.P ops a=some (d,some s):=by unfold mkDst2;rw[hq0];simp only[ho,hm]
      rw[hq]at h1
      obtain⟨k1,k2,v,e,C,V,k3,k4⟩:=goodS_spec (E:=E) hm hgd
      exact⟨o,d,some s,some (s,v),e,C,V,fun _=>⟨rfl,hq,by simpa using h1,k1,k2,k4,fun s' v' h=>(by injection h with h;injection h with h1 h2;subst h1;subst h2;exact⟨rfl,k3⟩),fun h=>absurd h hnr⟩⟩
  ·exact⟨default,0,none,none,0,fun _=>#[],fun _ _=>undef,fun h=>absurd h ham⟩
 obtain⟨oF,hspec⟩:=Classical.axiomOfChoice hspec
 obtain⟨D,hspec⟩:=Classical.axiomOfChoice hspec
 obtain⟨src,hspec⟩:=Classical.axiomOfChoice hspec
 obtain⟨need,hspec⟩:=Classical.axiomOfChoice hspec
 obtain⟨TT,hspec⟩:=Classical.axiomOfChoice hspec
 obtain⟨C,hspec⟩:=Classical.axiomOfChoice hspec
 obtain⟨V,hspec⟩:=Classical.axiomOfChoice hspec
 have hdne:∀d p o,dstNe ops d p=true→ops[p]? = some o→o.dst≠some d:=fun d p o h ho hd=>by
  unfold dstNe at h
  rw[ho]at h
  simp[hd]at h
 have htwo:∀a∈A,∀b∈A,(b≠a→dstNe ops (D a) b=true)∧∀s,src a=some s→dstNe ops s b=true:=fun a ham b hbm=>by
  have h1:=List.all_eq_true.1 (List.all_eq_true.1 s6 a ham) b hbm
  unfold mkTwo2 at h1
  rw[(hspec a ham).2.1]at h1
  simp only[Bool.and_eq_true]at h1
  refine⟨fun hne=>?_,fun s hs=>?_⟩
  ·have:=h1.1
   rw[Bool.or_eq_true]at this
   exact this.resolve_left (by simpa using hne)
  ·have h2:=h1.2
   rw[hs]at h2
   exact h2
 have hmd:∀a∈A,∀b∈A,a≠b→D a≠D b:=fun a ham b hbm hn e=>hdne _ b (oF b) ((htwo a ham b hbm).1 (fun e=>hn e.symm)) (hspec b hbm).1 (by rw[(hspec b hbm).2.2.2.2.1,e])
 have hms:∀a∈A,∀s,src a=some s→∀b∈A,D b≠s:=fun a ham s hs b hbm e=>hdne _ b (oF b) ((htwo a ham b hbm).2 s hs) (hspec b hbm).1 (by rw[(hspec b hbm).2.2.2.2.1,e])
 have hlist:∀(i:Nat) (b:Bool),i<ops.size→(Array.replicate ops.size false).getD i b=false:=fun i b h=>by simp[h]
 refine wp_region_any hmix ?_
 have hclr:∀k,((clearT2 E.P ops A f.tmps).get k=none∧∃a∈A,D a=k)∨((clearT2 E.P ops A f.tmps).get k=f.tmps.get k∧∀a∈A,D a≠k):=fun k=>by
  rcases clearT2_get E.P ops A f.tmps k with⟨h1,a,ham,s,hs⟩ | ⟨h1,h2⟩
  ·refine .inl ⟨h1,a,ham,?_⟩
   have:=(hspec a ham).2.1
   rw[hs]at this;injection this with this;injection this with e1 e2;exact e1.symm
  ·exact .inr ⟨h1,fun a ham e=>h2 a ham (src a) (by rw[(hspec a ham).2.1,e])⟩
 have hfbok:FbOk ops fb f1:=by
  subst hfb;subst hf1
  refine⟨fun t y h=>?_,rfl,fun i o d ho hd=>?_⟩
  ·obtain⟨h1,h2⟩:=eraseT_sub _ _ t y h
   show(clearT2 E.P ops A f.tmps).get t=some y
   rcases hclr t with⟨_,a,ham,hDa⟩ | ⟨h3,_⟩
   ·have hh:=hspec a ham
    exact absurd (by rw[hh.2.2.2.2.1,hDa]) (h2 (oF a) (by have:=Array.mem_of_getElem? hh.1;simpa using this))
   ·rw[h3];exact h1
  ·cases hq:(eraseT ops.toList f.tmps).get d with
   |none=>rfl
   |some y =>
    have:=(eraseT_sub _ _ d y hq).2 o (by have:=Array.mem_of_getElem? ho;simpa using this)
    exact absurd hd this
 have ha1:AR γ w.drew n f1 act:=by
  subst hf1
  have:=ha.mono d2
  refine⟨fun t y h=>?_,this.size,this.dfr⟩
  have h:(clearT2 E.P ops A f.tmps).get t=some y:=h
  rcases hclr t with⟨h3,_⟩ | ⟨h3,_⟩
  ·rw[h3]at h;cases h
  ·rw[h3]at h;exact this.tmps t y h
 have hfd:∀a∈A,f1.tmps.get (D a)=none:=fun a ham=>by
  subst hf1
  show(clearT2 E.P ops A f.tmps).get (D a)=none
  rcases hclr (D a)with⟨h3,_⟩ | ⟨_,h4⟩
  ·exact h3
  ·exact absurd rfl (h4 a ham)
 have unl:∀a∈A,(Array.replicate ops.size false).getD a true=true→False:=fun a ham hl=>by
  rw[hlist a true (hlt a (List.mem_append_right _ ham))]at hl;cases hl
 have hfree2:∀a∈A,∀p∈L,dstNe ops (D a) p=true∧∀s,src a=some s→(ms.getD a 0).testBit p=true∨dstNe ops s p=true:=fun a ham p hp=>by
  have h1:=List.all_eq_true.1 (List.all_eq_true.1 t3 a ham) p hp
  unfold mkFree2 at h1
  rw[(hspec a ham).2.1]at h1
  simp only[Bool.and_eq_true]at h1
  refine⟨h1.1,fun s hs=>?_⟩
  have h2:=h1.2
  rw[hs]at h2
  simpa using h2
 have hnf0:runRS E callK n ops rp' f1 S≠.fail:=by rw[hr];exact fun e=>by cases e
 have hR:drun E callK n ops ms fb L f1 S []=.out .normal fE SE:=by
  rcases drun_steps (E:=E) (ck:=callK) (n:=n) (fb:=fb) L rp' f1 S [] hrp (fun _ h=>absurd h List.not_mem_nil)with h |h
  ·exact absurd h hnf0
  ·rw[h,hr];rfl
 have inM:∀a∈M',a∈A:=fun a h=>by rw[← hA];exact List.mem_append_left _ h
 have inR:∀a∈mksOf r,a∈A:=fun a h=>by rw[← hA];exact List.mem_append_right _ h
 refine drawn_preV (Q:=Q) hE hC s1 (fb:=fb) (γ0:=γ) (S0:=S) (ws:=w.drew) d1.hbase (mk:=A) (M:=M') (pre:=L) (post:=opsIn r) D TT C V src need (fun a ham=>⟨oF a,(hspec a ham).1,(hspec a ham).2.2.2.1,(hspec a ham).2.2.2.2.1,(hspec a ham).2.2.2.2.2.1⟩) (fun a ham=>(hspec a ham).2.2.1)
  (fun a ham p hp o ho=>hdne _ p o (hfree2 a ham p hp).1 ho) (fun a ham s hs p hp=>((hfree2 a ham p hp).2 s hs).imp (fun h=>h) fun h o ho=>hdne _ p o h ho)
  hmd hms (fun a ham hp=>hnd1.2.2 a (List.mem_append_left _ hp) a ham rfl) (fun p hp k hk=>List.all_eq_true.1 (List.all_eq_true.1 t2 p hp) k (List.mem_append.2 hk)) inM
  (fun p hp=>hlt p (List.mem_append_left _ (List.mem_append_left _ hp))) (fun p hp=>hlt p (List.mem_append_right _ hp)) (R:=.out .normal fE SE) (fun e=>by cases e) (fun a ham s v h=>⟨((hspec a ham).2.2.2.2.2.2.1 s v h).1,fE,SE,rfl,((hspec a ham).2.2.2.2.2.2.1 s v h).2⟩) (fun x S' h=>by cases h) ?_
  ops.size L A (fun _=>0) (Array.replicate ops.size false) f1 S γ w.drew act (by simp) (fun k=>⟨fun h=>⟨h,hlist k true (hlt k (List.mem_append_left _ (List.mem_append_left _ h)))⟩,fun h=>h.1⟩) hndo.1
  (fun k=>⟨fun h=>⟨h,hlist k true (hlt k (List.mem_append_right _ h))⟩,fun h=>h.1⟩) hnd1.2.1 (fun p hp hq=>hlist p true hq) (fun k hk _=>?_) ?_ (fun i o ho hl=>?_) t1 d1 (.refl _ _ _) ha1 (hg.mono d2) hfbok hfd
  (fun a ham hl=>(unl a ham hl).elim) (fun a ham b hbm hn hl=>(unl a ham hl).elim) hR
 ·intro fuel2 remM2 listed2 f2 S2 γ2 w2 act2 B2 hR2 hsz2 hcov2 hpl2 hremM2 hndM2 hM2 hlen2 hdn2 hS2 hx2 ha2 hg2 hfb2 hfd2 hpd2 hBB
  have hR3:O.out .normal f2 S2=.out .normal fE SE:=by rw[← hR2];unfold drun;rfl
  injection hR3 with _ q2 q3
  subst q2;subst q3
  have hnf:runRS E callK n ops (rm ++ rq) f2 S2≠.fail:=fun e=>by rw[e]at hH2;exact hH2.elim
  have nMR:∀a∈M',∀b∈mksOf r,a≠b:=fun a ha b hb e=>hndm.2.2 a ha b hb e
  obtain⟨f4,S4,γ4,e4,k1,k2,k3,k4,k5,k6,k7⟩:=named_allV (E:=E) (callK:=callK) (n:=n) (ops:=ops) (base:=base) (w0:=w0) (ws:=w.drew) (γ0:=γ) (S0:=S) (w:=w2) (act:=act2) d1.hbase (fb:=fb) D TT C V src need B2 M' rm f2 S2 γ2 rq hrm hndm.1
   (fun a ham=>⟨oF a,(hspec a (inM a ham)).1,(hspec a (inM a ham)).2.2.2.1,(hspec a (inM a ham)).2.2.2.2.1,(hspec a (inM a ham)).2.2.1,(hspec a (inM a ham)).2.2.2.2.2.1⟩)
   (fun a ham s v h=>⟨((hspec a (inM a ham)).2.2.2.2.2.2.1 s v h).2,fun b hb=>hms a (inM a ham) s ((hspec a (inM a ham)).2.2.2.2.2.2.1 s v h).1 b (inM b hb)⟩) hS2 hx2 ha2 hfb2 (fun a ham=>hpd2 a (inM a ham) (hM2 a ham)) (fun a ham b hbm hn=>hBB a (inM a ham) b (inM b hbm) hn (hM2 a ham) (hM2 b hbm)) hnf
  rw[e4]at hH2
  refine drawn_ph hE hC s1 d1.hbase (A:=mksOf r) D TT C src (fun a ham=>⟨oF a,(hspec a (inR a ham)).1,(hspec a (inR a ham)).2.2.2.1,(hspec a (inR a ham)).2.2.2.2.1,((hspec a (inR a ham)).2.2.2.2.2.2.2 ham).2.2.2.1,((hspec a (inR a ham)).2.2.2.2.2.2.2 ham).2.2.2.2.2⟩) (fun a ham=>((hspec a (inR a ham)).2.2.2.2.2.2.2 ham).1) (fun a ham=>(hspec a (inR a ham)).2.2.1) (fun a ham=>((hspec a (inR a ham)).2.2.2.2.2.2.2 ham).2.2.2.2.1)
   (fun a ham b hbm=>hmd a (inR a ham) b (inR b hbm)) (fun a ham s hs b hbm=>hms a (inR a ham) s hs b (inR b hbm)) r rq fuel2 remM2 B2 listed2 f4 S4 γ4 w2 act2 hrq t4 (List.nodup_append.2 ⟨hndo.2.1,hndm.2.1,fun x hx y hy e=>hnd1.2.2 x (List.mem_append_right _ hx) y (inR y hy) e⟩) (fun a ham=>ham) (fun k hk=>?_) hsz2 (fun k hk h=>?_) (fun k hk=>hpl2 k hk (hlt k (List.mem_append_left _ (List.mem_append_right _ hk)))) (fun k=>?_) hndM2 hlen2 hdn2 k1 k2 k4 (hg2.mono k3) k5 (fun a ham=>?_) (fun a ham hal=>?_) (fun a ham b hbm hn=>hBB a (inR a ham) b (inR b hbm) hn) hH2
  ·rcases List.mem_append.1 hk with h |h
   ·exact hlt k (List.mem_append_left _ (List.mem_append_right _ h))
   ·exact hlt k (List.mem_append_right _ (inR k h))
  ·rcases hcov2 k hk h with h1 |h1
   ·rw[← hA]at h1
    rcases List.mem_append.1 h1 with h1 |h1
    ·rw[hM2 k h1]at h;cases h
    ·exact List.mem_append_right _ h1
   ·exact List.mem_append_left _ h1
  ·rw[hremM2 k]
   refine⟨fun⟨h1,h2⟩=>⟨?_,h2⟩,fun⟨h1,h2⟩=>⟨inR k h1,h2⟩⟩
   rw[← hA]at h1
   rcases List.mem_append.1 h1 with h1 |h1
   ·rw[hM2 k h1]at h2;cases h2
   ·exact h1
  ·rw[k6 (D a) (fun b hb=>hmd b (inM b hb) a (inR a ham) (nMR b hb a ham))]
   exact hfd2 a (inR a ham)
  ·have hq:=k7 _ _ _ _ _ (hpd2 a (inR a ham) hal) (fun b hb=>hBB b (inM b hb) a (inR a ham) (nMR b hb a ham) (hM2 b hb) hal)
   rw[((hspec a (inR a ham)).2.2.2.2.2.2.2 ham).2.1]at hq
   exact hq.pend
 ·rcases List.mem_append.1 (hcov k hk)with h1 |h1
  ·rcases List.mem_append.1 h1 with h1 |h1
   ·exact .inl h1
   ·exact .inr (.inr h1)
  ·exact .inr (.inl h1)
 ·have hsub:((L ++ opsIn r) ++ A) ⊆ List.range ops.size:=fun k hk=>List.mem_range.2 (hlt k hk)
  have:=hnd.length_le_of_subset hsub
  simp at this;omega
 ·have hlt2:=(Array.getElem?_eq_some_iff.1 ho).1
  rw[hlist i false hlt2]at hl
  cases hl
def drawnNew(E:Env):Drawn:=fun ck n ops f S=>match flFind E.P ops with
 |some x=>drawnFl E x ck n ops f S
 |none=>match mkFind E.P ops with
  |some x=>drawnMk E x ck n ops f S
  |none=>match mk2Find E.P ops with
   |some x=>drawnMk2 E x ck n ops f S
   |none=>if isTwo ops=true then drawnTwo E ck n ops f S else drawnRun E ck n ops f S
theorem drawnNew_ok{E:Env}(hE:E.Ok)(hmix:E.P.follows .mixedOrders=true):DrawnOk E (drawnNew E):=by
 intro base w0 Q callK hC n id ops γ S w f act hS ha hg hH
 unfold drawnNew at hH
 split at hH
 ·rename_i x hx
  exact drawnFl_ok hE hmix (flFind_ok hx) base w0 Q callK hC n id γ S w f act hS ha hg hH
 ·split at hH
  ·rename_i x hx
   exact drawnMk_ok hE hmix (mkFind_ok hx) base w0 Q callK hC n id γ S w f act hS ha hg hH
  ·split at hH
   ·rename_i x hx
    exact drawnMk2_ok hE hmix (mk2Find_ok hx) base w0 Q callK hC n id γ S w f act hS ha hg hH
   ·split at hH
    ·rename_i h2
     exact drawnTwo_ok hE hmix hC h2 hS ha hg hH
    ·exact drawnRun_ok hE hmix base w0 Q callK hC n id ops γ S w f act hS ha hg hH
end Go.Ax
noncomputable section
namespace Go.Ax
open Go.RowKit
abbrev X1:=Env→T AV→St→Oper→OR
end Go.Ax
noncomputable section
namespace Go.Ax
open Go.RowKit
theorem SR.after{base:Nat}{w0 w w':World}{γ:Gh}{S:St}(h:SR base w0 γ S w)(hb:Below w.heap.size w w'):SR base w0 γ S w'∧Ext γ S w γ S w':=by
 have hc:∀b o v,w.cell? ⟨b,o,none⟩=some v→w'.cell? ⟨b,o,none⟩=some v:=fun b o v hv=>(hb.cell (World.block_lt_of_cell? w _ hv)).trans hv
 have ev:Ev γ w γ w':=⟨fun _ _ h=>h,fun _ _ h=>h,fun b o v _ hv=>hc b o v hv,fun b arr T fr ha=>⟨arr,fr,(hb.block b (Array.getElem?_eq_some_iff.1 ha).1).trans ha,rfl⟩⟩
 refine⟨⟨h.below.trans (hb.mono h.hbase),Nat.le_trans h.hbase hb.size,fun b o hi=>?_,h.fresh,h.pos,fun id b s e=>Nat.lt_of_lt_of_le (h.inb id b s e) hb.size,fun id c e=>?_,h.inj⟩,
  ⟨ev,Nat.le_refl _,fun _ _=>rfl,hb.size,fun id c b s h l=>.inr ⟨id,c,s,h,l⟩,fun b hl _=>⟨hb.block b hl,fun _ h=>h⟩⟩⟩
 ·obtain⟨v,hv⟩:=h.imc b o hi;exact⟨v,hc b o v hv⟩
 ·obtain⟨b,s,h1,h2,h3⟩:=h.live id c e
  exact⟨b,s,h1,h2,h3.keep ev (hb.block b (h.inb id b s h1)) (fun _ h=>h)⟩
theorem VRL.two{γ:Gh}{w:World}{a b:AV}{vs:List Value}(h:VRL γ w [a,b] vs):∃x y,vs=[x,y]∧VR γ w a x∧VR γ w b y:=by
 obtain⟨h1,h2⟩:=h
 match vs,h1 with
 | [x,y],_=>exact⟨x,y,rfl,h2 0 (by simp) (by simp),h2 1 (by simp) (by simp)⟩
def St0:St:={ next:=2,mem:=.leaf }
theorem GR.none{γ:Gh}{w:World}:GR γ w (fun _=>Option.none):=fun _ _ h=>(by cases h)
section
variable {E:Env}
end
end Go.Ax
noncomputable section
namespace Go.Ax
open Go.RowKit
abbrev Ck:=CallK→T AV→List Dfr→St→O
structure Bx where
 c:Ck
structure GB where
 g:T AV→Option AV
structure SB where
 s:T AV→AV→T AV
structure VB where
 v:T AV→St→Option AV
structure FB where
 f:CallK→List AV→St→R
inductive SV where
 |b (x:Bool)
 |i (k:IntKind) (x:Int)
 |s (l:List UInt8)
 |no
inductive PV where
 |p (id off:Nat)
 |e (cs:List AV)
 |n
 |l (tok off sz:Nat) (es:List AV)
 |a (cs:List AV)
 |t (cs:List AV)
 |no
 |w (id off n sz:Nat)
def svV(x:Value):SV:=Value.rec (motive_1:=fun _=>SV) (motive_2:=fun _=>Unit) (motive_3:=fun _=>Unit) SV.b SV.i (fun _ _=>.no) (fun _ _ _=>.no) (fun s=>.s s.data.toList) (fun _=>.no) (fun _ _ _=>.no) (fun _=>.no) (fun _=>.no) (fun _ _ _ _ _=>.no) .no (fun _ _ _=>.no) .no (fun _ _=>.no) (fun _ _=>.no) (fun _ _=>()) () (fun _ _ _ _=>()) x
def AV.sv(a:AV):SV:=AV.rec (motive_1:=fun _=>SV) (motive_2:=fun _=>Unit) svV .no (fun _ _=>.no) (fun _ _=>.no) .no (fun _ _ _ _ _=>.no) .no (fun _=>.no) (fun _ _ _ _ _=>.no) (fun _ _ _=>.no) (fun _ _=>.no) (fun _ _=>.no) (fun _ _ _ _=>.no) () (fun _ _ _ _=>()) a
def kI8(k:IntKind):Bool:=IntKind.rec (motive:=fun _=>Bool) true false false false false false false false k
def kI16(k:IntKind):Bool:=IntKind.rec (motive:=fun _=>Bool) false true false false false false false false k
def kI32(k:IntKind):Bool:=IntKind.rec (motive:=fun _=>Bool) false false true false false false false false k
def kI64(k:IntKind):Bool:=IntKind.rec (motive:=fun _=>Bool) false false false true false false false false k
def kU8(k:IntKind):Bool:=IntKind.rec (motive:=fun _=>Bool) false false false false true false false false k
def kU16(k:IntKind):Bool:=IntKind.rec (motive:=fun _=>Bool) false false false false false true false false k
def kU32(k:IntKind):Bool:=IntKind.rec (motive:=fun _=>Bool) false false false false false false true false k
def kU64(k:IntKind):Bool:=IntKind.rec (motive:=fun _=>Bool) false false false false false false false true k
def eqK(k k':IntKind):Bool:=IntKind.rec (motive:=fun _=>IntKind→Bool) kI8 kI16 kI32 kI64 kU8 kU16 kU32 kU64 k k'
def in64(x:Int):Bool:=Int.rec (motive:=fun _=>Bool) (fun n=>Nat.ble n 9223372036854775807) (fun n=>Nat.ble n 9223372036854775807) x
def wrap64R(x:Int):Int:=Bool.rec (motive:=fun _=>Int) (IntKind.i64.wrap x) x (in64 x)
theorem wrap64R_eq(x:Int):wrap64R x=IntKind.i64.wrap x:=by
 unfold wrap64R
 cases h:in64 x with
 |false=>rfl
 |true =>
  show x=_
  have hb:-9223372036854775808≤x∧x≤9223372036854775807:=by
   cases x with
   |ofNat n=>have:=Nat.le_of_ble_eq_true h;simp only[Int.ofNat_eq_natCast];omega
   |negSucc n=>have:=Nat.le_of_ble_eq_true h;omega
  show x=(if(true && decide (x % (2 ^ 64:Int) ≥ (2 ^ (64 - 1):Int)))=true then x % (2 ^ 64:Int) - (2 ^ 64:Int)else x % (2 ^ 64:Int))
  simp only[Bool.true_and,decide_eq_true_iff]
  have e1:(2 ^ 64:Int)=18446744073709551616:=by decide
  have e2:(2 ^ (64 - 1):Int)=9223372036854775808:=by decide
  rw[e1,e2]
  split <;> omega
end Go.Ax
noncomputable section
namespace Go.Ax
open Go.RowKit
def ib2(h:IntKind→Int→Int→AV)(k:IntKind)(x:Int)(s:SV):Option AV:=SV.rec (motive:=fun _=>Option AV) (fun _=>none) (fun k' y=>Bool.rec (motive:=fun _=>Option AV) none (some (h k x y)) (eqK k k')) (fun _=>none) none s
def ib(h:IntKind→Int→Int→AV)(a b:AV):Option AV:=SV.rec (motive:=fun _=>SV→Option AV) (fun _ _=>none) (ib2 h) (fun _ _=>none) (fun _=>none) a.sv b.sv
end Go.Ax
noncomputable section
namespace Go.Ax
open Go.RowKit
structure PB where
 off:Nat
 size:Nat
 g:GB
structure NB where
 n:T AV→Nat→Option Nat
end Go.Ax
noncomputable section
namespace Go.Ax
open Go.RowKit
def Rf(x y:O):Prop:=x=.fail∨x=y
theorem Rf.refl(x:O):Rf x x:=.inr rfl
section
variable {E:Env} {n:Nat} {o:Oper} {s:SB} {k:Bx} {ck:CallK} {t:T AV} {d:List Dfr} {S:St}
end
end Go.Ax
noncomputable section
namespace Go.Ax
open Go.RowKit
def defers(l:List Oper):Bool:=l.any fun o=>match o.op with |.defer _=>true |_=>false
end Go.Ax
noncomputable section
namespace Go.Ax
open Go.RowKit
section
variable {E:Env}
end
end Go.Ax
