/- AxSc -/
import Derived.Test.YtkjknlaffgkloaaDoorTpG5
set_option linter.unusedVariables false
set_option linter.unusedSimpArgs false
noncomputable section
namespace Go.Ax
open Go.RowKit
theorem wp_keepAll{P:Program}{o:Oper}{act:Act}{w:World}{K:Act→World→Prop}{Q:Exit→Act→World→Prop}(h:o.wp P act w (fun a w=>(∀d,o.dst≠some d→a.tmps[d]? = act.tmps[d]?)→K a w) Q):o.wp P act w K Q:=by
 have hp:∀(act':Act) (v:Value),act'.tmps=act.tmps→∀d,o.dst≠some d→(act'.put o.dst v).tmps[d]? = act.tmps[d]?:=fun act' v he d hd=>by
  unfold Act.put
  split
  ·rename_i x hx
   show(act'.tmps.setIfInBounds x v)[d]? = _
   rw[Array.getElem?_setIfInBounds_ne (fun e=>by subst e;exact hd hx),he]
  ·rw[he]
 unfold Oper.wp at h ⊢
 generalize (execOp act.eval o).run P w=r at h ⊢
 unfold Oper.upon at h ⊢
 split at h
 ·exact h (hp act _ rfl)
 ·exact h (hp act _ rfl)
 ·exact h (hp _ _ rfl)
 ·refine h.mono fun e w' he=>?_
  cases e with
  |returned v=>exact he (hp act v rfl)
  |panicked c=>exact he
  |outgrown=>exact he
 ·exact h.mono fun v w' he=>he (hp act v rfl)
 ·exact h
 ·exact h.elim
def MkRun(P:Program)(o:Oper)(e:TypeId)(C:Act→Array Value):Prop:=∀act w,(execOp act.eval o).run P w=.ok (.value (.pointer (some ⟨w.heap.size,0,none⟩))) (w.alloc (.cells (C act) e))
theorem Pend.namedC{base:Nat}{w0 ws:World}{γ0 γ:Gh}{S0 S:St}{w:World}{act:Act}{d e b n:Nat}{cs:List AV}{cv:Array Value}(hS:SR base w0 γ S w)(hx:Ext γ0 S0 ws γ S w)(hlo:base≤ws.heap.size)(hv:VRL γ w cs cv.toList)(h1:∀c∈cs,c.one=true)
  (h:Pend γ S w act ws.heap.size d e cv b) {f:Fr} (ha:AR γ w n f act) (hd:d<n) :
  ∃γ',SR base w0 γ' (S.newBox cs) w∧Ext γ0 S0 ws γ' (S.newBox cs) w∧Ev γ w γ' w∧AR γ' w n ⟨f.tmps.set d (some (.ptr S.next 0)),f.dfr⟩ act∧γ' = γ.withLoc S.next b 0:=by
 have hf:=hS.fresh S.next (Nat.le_refl _)
 have ev:Ev γ w (γ.withLoc S.next b 0) w:=ev_loc hf.1
 obtain⟨k1,k2⟩:=hS.name b 0 (.box cs) (Nat.le_trans hlo h.lo) h.lt ⟨rfl,h.im,h1,cv,e,cv.toList,[],h.blk,by simp,hv⟩ (fun id c s' hm=>h.non id c s' hm)
 refine⟨γ.withLoc S.next b 0,k1,?_,ev,?_,rfl⟩
 ·refine⟨hx.ev.trans ev,Nat.le_succ_of_le hx.next,fun id hid=>?_,hx.size,fun id c b' s' hm hl=>?_,fun b' hb' hn=>?_⟩
  ·show(if id=S.next then some (b,0)else γ.loc id)=γ0.loc id
   rw[if_neg (by have:=hx.next;omega)]
   exact hx.same id hid
  ·have hm:(S.mem.set S.next (some (.box cs))).get id=some c:=hm
   have hl:(if id=S.next then some (b,0)else γ.loc id)=some (b',s'):=hl
   rw[T.get_set]at hm
   split at hm
   ·rename_i hid
    rw[if_pos hid]at hl
    injection hl with hl;injection hl with l1 l2;subst l1
    exact .inl h.lo
   ·rename_i hid
    rw[if_neg hid]at hl
    exact hx.liv id c b' s' hm hl
  ·exact hx.frame b' hb' hn
 ·refine⟨fun t a hta=>?_,ha.size,ha.dfr.mono ev⟩
  have hq:(f.tmps.set d (some (.ptr S.next 0))).get t=some a:=hta
  rw[T.get_set]at hq
  split at hq
  ·rename_i e;subst e
   injection hq with hq2;subst hq2
   refine⟨by rw[ha.size];exact hd,?_⟩
   rw[Array.getD_eq_getD_getElem?,h.tmp]
   exact .ptr S.next 0 b 0 (by show(if S.next=S.next then _ else _)=_;rw[if_pos rfl])
  ·obtain⟨q1,q2⟩:=ha.tmps t a hq
   exact⟨q1,q2.mono ev⟩
section
variable {E:Env} {callK:CallK} {n:Nat} {ops:Array Oper} {ms:List Nat}
theorem pairs_erase{j:Nat}:∀(l:List Nat),pairsOk ops ms l=true→pairsOk ops ms (l.erase j)=true:=by
 intro l
 induction l with
 |nil=>intro h;exact h
 |cons x r ihl =>
  intro h
  unfold pairsOk at h
  rw[Bool.and_eq_true]at h
  by_cases hx:x=j
  ·subst hx;rw[List.erase_cons_head];exact h.2
  ·rw[List.erase_cons_tail (by simpa using hx)]
   unfold pairsOk
   rw[Bool.and_eq_true]
   exact⟨List.all_eq_true.2 fun y hy=>List.all_eq_true.1 h.1 y (List.mem_of_mem_erase hy),ihl h.2⟩
theorem drawn_preM{base:Nat}{w0:World}{Q:Exit→Act→World→Prop}(hE:E.Ok)(hC:CallOk E base w0 callK)(hm:masksOk ms ops.toList 0=true){fb:Fr}{γ0:Gh}{S0:St}{ws:World}(hlo:base≤ws.heap.size)
  {mk M pre post:List Nat} (D TT:Nat→Nat) (C:Nat→Act→Array Value) (src:Nat→Option Nat)
  (hmk:∀a∈mk,∃o,ops[a]? = some o∧o.guard=none∧o.dst=some (D a)∧MkRun E.P o (TT a) (C a)) (hdn0:∀a∈mk,D a<n)
  (hcs:∀a∈mk,∀act act':Act,(∀s,src a=some s→act'.tmps[s]? = act.tmps[s]?)→C a act' = C a act)
  (hpd:∀a∈mk,∀p∈pre,∀o,ops[p]? = some o→o.dst≠some (D a)) (hps:∀a∈mk,∀s,src a=some s→∀p∈pre,(ms.getD a 0).testBit p=true∨∀o,ops[p]? = some o→o.dst≠some s)
  (hmd:∀a∈mk,∀a'∈mk,a≠a'→D a≠D a') (hms:∀a∈mk,∀s,src a=some s→∀a'∈mk,D a'≠s)
  (hap:∀a∈mk,a ∉ pre) (hpost:∀p∈post,∀k,k∈pre∨k∈M→(ms.getD p 0).testBit k=true) (hM:∀a∈M,a∈mk) (hin:∀p∈pre,p<ops.size) (hinm:∀p∈mk,p<ops.size)
  {R:O} (hne:R≠.fail) (hpan:∀x S',R=.out (.pan x) fb S'→∀γ' act' w',SR base w0 γ' S' w'→Ext γ0 S0 ws γ' S' w'→AR γ' w' n fb act'→∀v,VR γ' w' x v→Q (.panic [{ v,recovered:=false }]) act' w')
  (hcont:∀(fuel:Nat) (remM:List Nat) (listed:Array Bool) (f:Fr) (S:St) (γ:Gh) (w:World) (act:Act) (B:Nat→Nat),drun E callK n ops ms fb [] f S []=R→listed.size=ops.size→(∀k,k<ops.size→listed.getD k true=false→k∈mk∨k∈post)→(∀k∈post,k<ops.size→listed.getD k true=false)→(∀k,k∈remM↔k∈mk∧listed.getD k true=false)→remM.Nodup→(∀a∈M,listed.getD a true=true)→remM.length+post.length≤fuel→Dn ops listed→SR base w0 γ S w→Ext γ0 S0 ws γ S w→AR γ w n f act→GR γ w E.G→FbOk ops fb f →
   (∀a∈mk,f.tmps.get (D a)=none)→(∀a∈mk,listed.getD a true=true→Pend γ S w act ws.heap.size (D a) (TT a) (C a act) (B a))→(∀a∈mk,∀a'∈mk,a≠a'→listed.getD a true=true→listed.getD a' true=true→B a≠B a')→wpAny E.P .any ops Q fuel listed act w) :
  ∀(fuel:Nat) (rem remM:List Nat) (B:Nat→Nat) (listed:Array Bool) (f:Fr) (S:St) (γ:Gh) (w:World) (act:Act),
  listed.size=ops.size→(∀k,k∈rem↔k∈pre∧listed.getD k true=false)→rem.Nodup→(∀k,k∈remM↔k∈mk∧listed.getD k true=false)→remM.Nodup→(∀p∈post,p<ops.size→listed.getD p true=false)→(∀k,k<ops.size→listed.getD k true=false→k∈pre∨k∈mk∨k∈post)→rem.length+remM.length+post.length≤fuel→Dn ops listed→pairsOk ops ms rem=true →
  SR base w0 γ S w→Ext γ0 S0 ws γ S w→AR γ w n f act→GR γ w E.G→FbOk ops fb f→(∀a∈mk,f.tmps.get (D a)=none)→(∀a∈mk,listed.getD a true=true→Pend γ S w act ws.heap.size (D a) (TT a) (C a act) (B a))→(∀a∈mk,∀a'∈mk,a≠a'→listed.getD a true=true→listed.getD a' true=true→B a≠B a') →
  drun E callK n ops ms fb rem f S []=R→wpAny E.P .any ops Q fuel listed act w:=by
 intro fuel
 induction fuel with
 |zero =>
  intro rem remM B listed f S γ w act hsz hrem hnd hremM hndM hpl hcov hlen hdn hp hS hx ha hg hfb hfd hpd2 hB hR
  have hr0:rem=[]:=List.eq_nil_of_length_eq_zero (by omega)
  have hs0:remM=[]:=List.eq_nil_of_length_eq_zero (by omega)
  subst hr0;subst hs0
  have hml:∀a∈mk,listed.getD a true=true:=fun a ha=>by
   cases hq:listed.getD a true with
   |true=>rfl
   |false=>exact absurd ((hremM a).2 ⟨ha,hq⟩) List.not_mem_nil
  exact hcont 0 [] listed f S γ w act B hR hsz (fun k hk h=>(hcov k hk h).resolve_left fun h1=>absurd ((hrem k).2 ⟨h1,h⟩) (by simp)) hpl hremM List.nodup_nil (fun a ha=>hml a (hM a ha)) (by simpa using hlen) hdn hS hx ha hg hfb hfd hpd2 hB
 |succ fuel ih =>
  intro rem remM B listed f S γ w act hsz hrem hnd hremM hndM hpl hcov hlen hdn hp hS hx ha hg hfb hfd hpd2 hB hR
  by_cases hdone:rem=[]∧∀a∈M,listed.getD a true=true
  ·obtain⟨hr0,hs0⟩:=hdone
   subst hr0
   exact hcont (fuel+1) remM listed f S γ w act B hR hsz (fun k hk h=>(hcov k hk h).resolve_left fun h1=>absurd ((hrem k).2 ⟨h1,h⟩) (by simp)) hpl hremM hndM hs0 (by simpa using hlen) hdn hS hx ha hg hfb hfd hpd2 hB
  have hsome:∃k,(k∈pre∨k∈M)∧k<ops.size∧listed.getD k true=false:=by
   cases hr:rem with
   |cons k r =>
    have h2:=(hrem k).1 (by rw[hr];exact List.mem_cons_self ..)
    exact⟨k,.inl h2.1,hin k h2.1,h2.2⟩
   |nil =>
    refine Classical.byContradiction fun hc=>hdone ⟨hr,fun a haM=>?_⟩
    cases hq:listed.getD a true with
    |true=>rfl
    |false=>exact absurd ⟨a,.inr haM,hinm a (hM a haM),hq⟩ hc
  obtain⟨k0,hk0,hk1,hk2⟩:=hsome
  refine⟨fun hready=>?_,fun j hj=>?_⟩
  ·rw[all_listed hm hsz hready k0 hk1]at hk2;cases hk2
  ·obtain⟨hun,o,ho,hpre⟩:=mem_ready.1 hj
   have hjl:j<ops.size:=(Array.getElem?_eq_some_iff.1 ho).1
   have hjp:j ∉ post:=fun h=>by
    have hb:=hpost j h k0 hk0
    have:=bit_listed hm hdn j o ho hpre hb
    rw[getD_same (by omega) true false,this]at hk2;cases hk2
   have lists:∀k,(listed.setIfInBounds j true).getD k true=if j=k then true else listed.getD k true:=fun k=>getD_put _ _ _ _ (by omega)
   have dn':Dn ops (listed.setIfInBounds j true):=fun k ok hok hlk e0 he0 hbd=>by
    rw[getD_put _ _ _ _ (by omega)]at hlk ⊢
    split
    ·rfl
    ·split at hlk
     ·rename_i hij
      subst hij
      rw[ho]at hok;injection hok with hok;subst hok
      exact hpre e0 he0 hbd
     ·exact hdn k ok hok hlk e0 he0 hbd
   have keepC:∀a∈mk,listed.getD a true=true→∀act':Act,(∀d,o.dst≠some d→act'.tmps[d]? = act.tmps[d]?)→j∈pre∨j∈mk→C a act' = C a act∧(o.dst≠some (D a)→act'.tmps[D a]? = act.tmps[D a]?):=fun a ham hal act' hk hjm=>by
    refine⟨hcs a ham act act' fun s hs=>hk s ?_,fun h=>hk _ h⟩
    rcases hjm with hjm |hjm
    ·rcases hps a ham s hs j hjm with h |h
     ·
      exfalso
      obtain⟨oa,hoa,_⟩:=hmk a ham
      have hlt:=hinm a ham
      have:=bit_listed hm hdn a oa hoa (fun e he hb=>hdn a oa hoa (by rw[getD_same (by omega) false true];exact hal) e he hb) h
      rw[getD_same (by omega) false true,hun]at this;cases this
     ·exact h o ho
    ·obtain⟨oj,hoj,_,hdj,_⟩:=hmk j hjm
     rw[ho]at hoj;injection hoj with hoj;subst hoj
     rw[hdj]
     intro e;injection e with e
     exact hms a ham s hs j hjm e
   have cov':∀k,k<ops.size→(listed.setIfInBounds j true).getD k true=false→k∈pre∨k∈mk∨k∈post:=fun k hk h=>by
    rw[lists]at h
    split at h
    ·cases h
    ·exact hcov k hk h
   rcases hcov j hjl hun with hjpre |hjm |h
   ·
    have hjr:j∈rem:=(hrem j).2 ⟨hjpre,hun⟩
    have hjnm:j ∉ mk:=fun h=>hap j h hjpre
    have hfree:∀k∈rem,k≠j→(ms.getD j 0).testBit k=false:=fun k hk _=>by
     cases hb:(ms.getD j 0).testBit k with
     |false=>rfl
     |true =>
      have h1:=bit_listed hm hdn j o ho hpre hb
      have h2:=((hrem k).1 hk)
      rw[getD_same (by rw[hsz];exact hin k h2.1) true false,h1]at h2
      cases h2.2
    have hb:=bubble ho rem f S [] R hjr hfree hp hR hne
    have hdo:∀a∈mk,o.dst≠some (D a):=fun a ham=>hpd a ham j hjpre o ho
    have next:∀(f':Fr) (S':St) (γ':Gh) (act':Act) (w':World),SR base w0 γ' S' w'→Ext γ S w γ' S' w'→AR γ' w' n f' act'→FbOk ops fb f'→(∀a∈mk,f'.tmps.get (D a)=none)→(∀d,o.dst≠some d→act'.tmps[d]? = act.tmps[d]?)→drun E callK n ops ms fb (rem.erase j) f' S' []=R →
      wpAny E.P .any ops Q fuel (listed.setIfInBounds j true) act' w':=fun f' S' γ' act' w' k1 k2 k3 k4 k5 k6 k7=>by
     have lm:∀a∈mk,(listed.setIfInBounds j true).getD a true=listed.getD a true:=fun a ham=>by rw[lists,if_neg (fun e=>by subst e;exact hjnm ham)]
     refine ih (rem.erase j) remM B (listed.setIfInBounds j true) f' S' γ' w' act' (by simpa using hsz) (fun k=>?_) (hnd.erase j) (fun k=>?_) hndM (fun p hp' hlt=>?_) cov' (by rw[List.length_erase_of_mem hjr];have:=List.length_pos_of_mem hjr;omega) dn' (pairs_erase rem hp) k1 (hx.trans k2) k3 (hg.mono k2.ev) k4 k5 (fun a ham hal=>?_) (fun a ham a' ham' hn h1 h2=>hB a ham a' ham' hn (by rw[← lm a ham];exact h1) (by rw[← lm a' ham'];exact h2)) k7
     ·rw[hnd.mem_erase_iff,hrem k,lists]
      by_cases hjk:j=k
      ·subst hjk;simp
      ·rw[if_neg hjk];exact⟨fun h=>h.2,fun h=>⟨fun e=>hjk e.symm,h⟩⟩
     ·rw[hremM k,lists]
      by_cases hjk:j=k
      ·subst hjk;simp[hjnm]
      ·rw[if_neg hjk]
     ·rw[lists,if_neg (fun e=>by subst e;exact hjp hp')];exact hpl p hp' hlt
     ·rw[lm a ham]at hal
      obtain⟨c1,c2⟩:=keepC a ham hal act' k6 (.inl hjpre)
      rw[c1]
      exact(hpd2 a ham hal).step k2 (c2 (hdo a ham))
    have hst2:=stepO_eq (E:=E) (callK:=callK) (n:=n) (ops:=ops) o f S
    have dset:∀x,∀a∈mk,(putT f o.dst x).tmps.get (D a)=none:=fun x a ham=>by
     unfold putT
     split
     ·exact hfd a ham
     ·rename_i d hd
      show(f.tmps.set d (some x)).get (D a)=none
      rw[T.get_set,if_neg (fun e=>by subst e;exact hdo a ham hd)];exact hfd a ham
    have key:Holds base w0 n γ S w (fun x a' w'=>match x with |.normal=>((∀d,o.dst≠some d→a'.tmps[d]? = act.tmps[d]?)→wpAny E.P .any ops Q fuel (listed.setIfInBounds j true) a' w') |x=>Q x a' w') (stepO E callK n ops o f S):=by
     rw[hst2]
     rcases hb with⟨hl,x,hv,hd,hrun⟩ | ⟨hl,⟨x,S',hv,hd,hall,hrun⟩ | ⟨x,S',hv,hRp⟩⟩
     ·rw[stepR_look hl,hv]
      simp only
      rw[putA_eq,if_pos hd]
      exact fun γ' act' w' k1 k2 k3 k6=>next _ _ γ' act' w' k1 k2 k3 (hfb.put ho x) (dset x) k6 hrun
     ·rw[hv]
      simp only
      rw[putA_eq,if_pos hd]
      exact fun γ' act' w' k1 k2 k3 k6=>next _ _ γ' act' w' k1 k2 k3 (hfb.put ho x) (dset x) k6 hrun
     ·rw[hv]
      intro γ' act' w' k1 k2 k3 v hvr
      exact hpan x S' hRp γ' act' w' k1 (hx.trans k2) (hfb.ar k3) v hvr
    have:=stepO_sound (K:=fun a' w'=>(∀d,o.dst≠some d→a'.tmps[d]? = act.tmps[d]?)→wpAny E.P .any ops Q fuel (listed.setIfInBounds j true) a' w') hE hC hS ha hg key
    unfold wpOp
    rw[ho]
    simp only
    split
    ·rename_i hw;rw[if_pos hw]at this;exact .inl (wp_keepAll this)
    ·rename_i hw;rw[if_neg hw]at this;exact this (fun d hd=>put_keep hd)
   ·
    obtain⟨oj,hoj,hgd,hda,hrun⟩:=hmk j hjm
    rw[ho]at hoj;injection hoj with hoj;subst hoj
    have hjrM:j∈remM:=(hremM j).2 ⟨hjm,hun⟩
    have hjnp:j ∉ pre:=hap j hjm
    unfold wpOp
    rw[ho]
    simp only
    have hw:Region.wanted o (yielded ops act.tmps)=true:=by unfold Region.wanted;rw[hgd]
    rw[if_pos hw]
    refine .inl ?_
    unfold Oper.wp
    rw[hrun act w,Oper.upon_value]
    obtain⟨a1,a2⟩:=hS.allocIm (C j act) (TT j) 0 (Nat.zero_le _)
    have hev:=ev_alloc γ w (.cells (C j act) (TT j))
    have hex:=Ext.alloc (γ:=γ) (S:=S) (w:=w) (.cells (C j act) (TT j))
    have hS2:SR base w0 γ S (w.alloc (.cells (C j act) (TT j))):=by
     refine⟨a1.below,a1.hbase,fun b o hi=>a1.imc b o (.inl hi),a1.fresh,a1.pos,a1.inb,fun id c e=>?_,a1.inj⟩
     obtain⟨b,s,l1,l2,l3⟩:=hS.live id c e
     exact⟨b,s,l1,l2,l3.keep hev (Below.heap_alloc w _ _ (hS.inb id b s l1)) (fun _ h=>h)⟩
    have hput:(act.put o.dst (.pointer (some ⟨w.heap.size,0,none⟩))).tmps=act.tmps.setIfInBounds (D j) (.pointer (some ⟨w.heap.size,0,none⟩)):=by rw[hda];rfl
    have hdf:(act.put o.dst (.pointer (some ⟨w.heap.size,0,none⟩))).defers=act.defers:=by rw[hda];rfl
    have hkeep:∀d,o.dst≠some d→(act.put o.dst (.pointer (some ⟨w.heap.size,0,none⟩))).tmps[d]? = act.tmps[d]?:=fun d hd=>put_keep hd
    refine ih rem (remM.erase j) (fun k=>if k=j then w.heap.size else B k) (listed.setIfInBounds j true) f S γ _ _ (by simpa using hsz) (fun k=>?_) hnd (fun k=>?_) (hndM.erase j) (fun p hp' hlt=>?_) cov' (by rw[List.length_erase_of_mem hjrM];have:=List.length_pos_of_mem hjrM;omega) dn' hp hS2 (hx.trans hex) ?_ (hg.mono hev) hfb hfd (fun a ham hal=>?_) (fun a ham a' ham' hn h1 h2=>?_) hR
    ·rw[hrem k,lists]
     by_cases hjk:j=k
     ·subst hjk;simp[hjnp]
     ·rw[if_neg hjk]
    ·rw[hndM.mem_erase_iff,hremM k,lists]
     by_cases hjk:j=k
     ·subst hjk;simp
     ·rw[if_neg hjk];exact⟨fun h=>h.2,fun h=>⟨fun e=>hjk e.symm,h⟩⟩
    ·rw[lists,if_neg (fun e=>by subst e;exact hjp hp')];exact hpl p hp' hlt
    ·refine⟨fun t x ht=>?_,by rw[hput];simpa using ha.size,by rw[hdf];exact ha.dfr.mono hev⟩
     obtain⟨q1,q2⟩:=ha.tmps t x ht
     have hne2:t≠D j:=fun e=>by subst e;rw[hfd j hjm]at ht;cases ht
     rw[hput]
     refine⟨by simpa using q1,?_⟩
     have e1:(act.tmps.setIfInBounds (D j) (.pointer (some ⟨w.heap.size,0,none⟩))).getD t undef=act.tmps.getD t undef:=by
      rw[Array.getD_eq_getD_getElem?,Array.getElem?_setIfInBounds_ne (fun e=>hne2 e.symm),← Array.getD_eq_getD_getElem?]
     rw[e1];exact q2.mono hev
    ·have hCj:C a (act.put o.dst (.pointer (some ⟨w.heap.size,0,none⟩)))=C a act:=hcs a ham act _ fun s hs=>hkeep s (by
      rw[hda];intro e;injection e with e;exact hms a ham s hs j hjm e)
     by_cases haj:a=j
     ·subst haj
      rw[hCj,if_pos rfl]
      refine⟨?_,heap_alloc_new w _,hx.size,by simp,fun id c s hm hl=>?_,fun o ho=>?_⟩
      ·rw[hput];exact Array.getElem?_setIfInBounds_self_of_lt (by rw[ha.size];exact hdn0 a hjm)
      ·have:=hS.inb id _ _ hl;omega
      ·have:=imc_lt hS ho;omega
     ·rw[lists,if_neg (fun e=>haj e.symm)]at hal
      rw[hCj,if_neg haj]
      exact(hpd2 a ham hal).step hex (hkeep _ (by rw[hda];intro e;injection e with e;exact hmd j hjm a ham (fun e=>haj e.symm) e))
    ·have old:∀x∈mk,x≠j→(listed.setIfInBounds j true).getD x true=true→B x<w.heap.size:=fun x hxm hxj hxl=>by
      rw[lists,if_neg (fun e=>hxj e.symm)]at hxl
      exact(hpd2 x hxm hxl).lt
     show(if a=j then w.heap.size else B a)≠(if a' = j then w.heap.size else B a')
     by_cases haj:a=j
     ·have ha'j:a'≠j:=fun e=>hn (haj.trans e.symm)
      rw[if_pos haj,if_neg ha'j]
      have:=old a' ham' ha'j h2;omega
     ·rw[if_neg haj]
      by_cases ha'j:a' = j
      ·rw[if_pos ha'j];have:=old a ham haj h1;omega
      ·rw[if_neg ha'j]
       rw[lists,if_neg (fun e=>haj e.symm)]at h1
       rw[lists,if_neg (fun e=>ha'j e.symm)]at h2
       exact hB a ham a' ham' hn h1 h2
   ·exact absurd h hjp
end
def isMk(P:Program)(o:Oper):Option (Nat × Option Nat):=match o.op,o.guard,o.dst with
 |.alloc e,none,some d=>if(oAlloc P ⟨0,.leaf⟩ e).isSome then some (d,none)else none
 |.box e (.tmp x),none,some d=>some (d,some x)
 |_,_,_=>none
theorem isMk_spec{P:Program}{o:Oper}{d:Nat}{src:Option Nat}(h:isMk P o=some (d,src)):∃(e:TypeId) (C:Act→Array Value),o.guard=none∧o.dst=some d∧MkRun P o e C∧(∀act act':Act,(∀s,src=some s→act'.tmps[s]? = act.tmps[s]?)→C act' = C act) ∧
  ∀(E:Env) (f:T AV) (S:St),E.P=P→exec1 E f S o=.fail∨∃cs,exec1 E f S o=.val (.ptr S.next 0) (S.newBox cs)∧∀(γ:Gh) (w:World) (act:Act),FR γ w f act.tmps→(∀c∈cs,c.one=true)∧VRL γ w cs (C act).toList:=by
 unfold isMk at h
 split at h
 ·rename_i e d' ho hg hd
  split at h
  ·rename_i hs
   injection h with h;injection h with h1 h2;subst h1;subst h2
   obtain⟨e',i,z,av,hop,_,_,hi,hz,hav,hnt,hal⟩:=isFl_spec (P:=P) (o:=o) (d:=d') (by unfold isFl;rw[ho,hg,hd];simp only[if_pos hs])
   rw[ho]at hop;injection hop with hop;subst hop
   refine⟨e,fun _=>z.cells,hg,hd,fun act w=>alloc_run ho hi hz w,fun _ _ _=>rfl,fun E f S hE=>.inr ⟨av.cells,?_,fun γ w act _=>⟨(ofConst_sound (γ:=γ) (w:=w) hav).ones (noTup_ne hnt),(ofConst_sound hav).cells⟩⟩⟩
   simp only[exec1,ho,hE,hal,ofOptS]
  ·cases h
 ·rename_i e x d' ho hg hd
  injection h with h;injection h with h1 h2;subst h1;subst h2
  refine⟨e,fun act=>(act.tmps.getD x undef).cells,hg,hd,fun act w=>?_,fun act act' h=>?_,fun E f S hE=>?_⟩
  ·simp[execOp,ho,Instr.box,newVar,newRow,Act.eval]
  ·have:=h x rfl
   show(act'.tmps.getD x undef).cells=_
   rw[Array.getD_eq_getD_getElem?,this,← Array.getD_eq_getD_getElem?]
  ·simp only[exec1,ho,evalO]
   cases hf:f.get x with
   |none=>exact .inl rfl
   |some a =>
    simp only
    cases hn:a.noTup with
    |false=>exact .inl (by simp)
    |true =>
     exact .inr ⟨a.cells,by simp,fun γ w act hF=>⟨(hF x a hf).2.ones (noTup_ne hn),(hF x a hf).2.cells⟩⟩
 ·cases h
structure MkX where
 ph:List (List Nat × List Nat)
def opsIn:List (List Nat × List Nat)→List Nat
 | []=>[]
 |p :: r=>p.1 ++ opsIn r
def mksOf:List (List Nat × List Nat)→List Nat
 | []=>[]
 |p :: r=>p.2 ++ mksOf r
def MkX.mks(x:MkX):List Nat:=mksOf x.ph
def mkDst(P:Program)(ops:Array Oper)(a:Nat):Option (Nat × Option Nat):=match ops[a]? with
 |some o=>isMk P o
 |none=>none
def mkFree(P:Program)(ops:Array Oper)(ms:List Nat)(a p:Nat):Bool:=match mkDst P ops a with
 |some (d,src)=>dstNe ops d p && (match src with
  |none=>true
  |some s=>(ms.getD a 0).testBit p || dstNe ops s p)
 |none=>false
def phOk(P:Program)(ops:Array Oper)(ms:List Nat):List (List Nat × List Nat)→Bool
 | []=>true
 | (L,M) :: r=>pairsOk ops ms L && (opsIn r).all (fun p=>(L ++ M).all fun k=>(ms.getD p 0).testBit k) && (M ++ mksOf r).all (fun a=>L.all fun p=>mkFree P ops ms a p) && phOk P ops ms r
def mkTwo(P:Program)(ops:Array Oper)(a b:Nat):Bool:=match mkDst P ops a with
 |some (d,src)=>(b == a || dstNe ops d b) && (match src with
  |none=>true
  |some s=>dstNe ops s b)
 |none=>false
def mkOk(P:Program)(ops:Array Oper)(ms:List Nat)(x:MkX):Bool :=
 masksOk ms ops.toList 0 && nodupB (opsIn x.ph ++ mksOf x.ph) && (opsIn x.ph ++ mksOf x.ph).all (fun p=>decide (p<ops.size)) && (List.range ops.size).all (fun k=>memB (opsIn x.ph ++ mksOf x.ph) k) &&
 phOk P ops ms x.ph && (mksOf x.ph).all fun a=>(mksOf x.ph).all fun b=>mkTwo P ops a b
def mkRounds(ops:Array Oper)(ms:List Nat)(mk:List Nat):Nat→List Nat→List Nat→Nat→List (List Nat × List Nat)
 |0,_,_,_=>[]
 |n+1,rem,mks,done =>
  let now:=rem.filter fun k=>mks.all fun a=>!(ms.getD k 0).testBit a
  let later:=rem.filter fun k=>!memB now k
  let L:=eager ops ms now.length now done
  let done2:=L.foldl (fun m k=>m ||| 2 ^ k) done
  match later with
  | []=>[(L,mks)]
  |k0 :: r =>
   let few:=r.foldl (fun b k=>if(mks.filter fun a=>(ms.getD k 0).testBit a).length<(mks.filter fun a=>(ms.getD b 0).testBit a).length then k else b) k0
   let M:=mks.filter fun a=>(ms.getD few 0).testBit a
   (L,M) :: mkRounds ops ms mk n later (mks.filter fun a=>!memB M a) (M.foldl (fun m k=>m ||| 2 ^ k) done2)
def mkMake(P:Program)(ops:Array Oper)(ms:List Nat):MkX :=
 let all:=List.range ops.size
 let mk:=all.filter fun a=>(mkDst P ops a).isSome
 ⟨mkRounds ops ms mk (mk.length+1) (all.filter fun k=>!memB mk k) mk 0⟩
def mkFind(P:Program)(ops:Array Oper):Option MkX :=
 let ms:=bm ops.toList []
 if static ops ms (eager ops ms ops.size (List.range ops.size) 0)then none else if mkOk P ops ms (mkMake P ops ms)then some (mkMake P ops ms)else none
theorem mkFind_ok{P:Program}{ops:Array Oper}{x:MkX}(h:mkFind P ops=some x):mkOk P ops (bm ops.toList []) x=true:=by
 unfold mkFind at h
 simp only at h
 split at h
 ·cases h
 ·split at h
  ·rename_i hk;injection h with h;subst h;exact hk
  ·cases h
def opsOf(ops:Array Oper):List Nat→Option (List RS)
 | []=>some []
 |a :: r=>match ops[a]?,opsOf ops r with
  |some o,some l=>some (.op o :: l)
  |_,_=>none
def phSteps(ops:Array Oper)(ms:List Nat):List (List Nat × List Nat)→Option (List RS)
 | []=>some []
 | (L,M) :: r=>match stepsD ops ms L [],opsOf ops M,phSteps ops ms r with
  |some p,some m,some q=>some (p ++ (m ++ q))
  |_,_,_=>none
def mkSteps(ops:Array Oper)(x:MkX):Option (List RS):=phSteps ops (bm ops.toList []) x.ph
def clearT(P:Program)(ops:Array Oper):List Nat→T AV→T AV
 | [],t=>t
 |a :: r,t=>match mkDst P ops a with
  |some (d,_)=>(clearT P ops r t).set d none
  |none=>clearT P ops r t
theorem clearT_get(P:Program)(ops:Array Oper):∀(l:List Nat) (t:T AV) (k:Nat),((clearT P ops l t).get k=none∧∃a∈l,∃s,mkDst P ops a=some (k,s))∨((clearT P ops l t).get k=t.get k∧∀a∈l,∀s,mkDst P ops a≠some (k,s))
 | [],t,k=>.inr ⟨rfl,fun a h=>absurd h List.not_mem_nil⟩
 |a :: r,t,k=>by
  unfold clearT
  cases hd:mkDst P ops a with
  |none =>
   rcases clearT_get P ops r t k with⟨h1,b,hb,s,hs⟩ | ⟨h1,h2⟩
   ·exact .inl ⟨h1,b,List.mem_cons_of_mem _ hb,s,hs⟩
   ·refine .inr ⟨h1,fun b hb s=>?_⟩
    rcases List.mem_cons.1 hb with rfl |hb
    ·rw[hd];exact fun e=>by cases e
    ·exact h2 b hb s
  |some p =>
   obtain⟨d,s0⟩:=p
   simp only
   by_cases hk:k=d
   ·subst hk
    exact .inl ⟨by rw[T.get_set,if_pos rfl],a,List.mem_cons_self ..,s0,hd⟩
   ·rcases clearT_get P ops r t k with⟨h1,b,hb,s,hs⟩ | ⟨h1,h2⟩
    ·exact .inl ⟨by rw[T.get_set,if_neg hk];exact h1,b,List.mem_cons_of_mem _ hb,s,hs⟩
    ·refine .inr ⟨by rw[T.get_set,if_neg hk];exact h1,fun b hb s=>?_⟩
     rcases List.mem_cons.1 hb with rfl |hb
     ·rw[hd];intro e;injection e with e;injection e with e1 e2;exact hk e1.symm
     ·exact h2 b hb s
def mkFit(P:Program)(n:Nat)(ops:Array Oper)(x:MkX):Bool:=x.mks.all (fun a=>match mkDst P ops a with |some (d,_)=>decide (d<n) |none=>false)
def drawnMk(E:Env)(x:MkX):Drawn:=fun ck n ops f S=>match mkSteps ops x with
 |some rs=>if mkFit E.P n ops x=true then fixX ⟨eraseT ops.toList f.tmps,f.dfr⟩ (runRS E ck n ops rs ⟨clearT E.P ops x.mks f.tmps,f.dfr⟩ S)else .fail
 |none=>.fail
section
variable {E:Env} {callK:CallK} {n:Nat} {ops:Array Oper} {ms:List Nat}
theorem runRS_op'{o:Oper}{r:List RS}{f:Fr}{S:St}:runRS E callK n ops (.op o :: r) f S=match stepO E callK n ops o f S with
  |.out .normal f' S'=>runRS E callK n ops r f' S'
  |x=>x:=rfl
theorem named_all{base:Nat}{w0 ws:World}{γ0:Gh}{S0:St}{w:World}{act:Act}(hlo:base≤ws.heap.size){fb:Fr}(D TT:Nat→Nat)(C:Nat→Act→Array Value)(B:Nat→Nat):∀(l:List Nat) (rs:List RS) (f:Fr) (S:St) (γ:Gh) (rest:List RS),opsOf ops l=some rs→l.Nodup →
  (∀a∈l,∃o,ops[a]? = some o∧o.guard=none∧o.dst=some (D a)∧D a<n∧∀(f:T AV) (S:St),exec1 E f S o=.fail∨∃cs,exec1 E f S o=.val (.ptr S.next 0) (S.newBox cs)∧∀(γ:Gh) (w:World) (act:Act),FR γ w f act.tmps→(∀c∈cs,c.one=true)∧VRL γ w cs (C a act).toList) →
  SR base w0 γ S w→Ext γ0 S0 ws γ S w→AR γ w n f act→FbOk ops fb f→(∀a∈l,Pend γ S w act ws.heap.size (D a) (TT a) (C a act) (B a))→(∀a∈l,∀a'∈l,a≠a'→B a≠B a')→runRS E callK n ops (rs ++ rest) f S≠.fail →
  ∃f' S' γ',runRS E callK n ops (rs ++ rest) f S=runRS E callK n ops rest f' S'∧SR base w0 γ' S' w∧Ext γ0 S0 ws γ' S' w∧Ev γ w γ' w∧AR γ' w n f' act∧FbOk ops fb f'∧(∀k,(∀a∈l,D a≠k)→f'.tmps.get k=f.tmps.get k)∧∀d e cs b,Pend γ S w act ws.heap.size d e cs b→(∀a∈l,B a≠b)→Pend γ' S' w act ws.heap.size d e cs b
 | [],rs,f,S,γ,rest,hrs,hnd,hmk,hS,hx,ha,hfb,hp,hB,hne=>by
  injection hrs with hrs;subst hrs
  exact⟨f,S,γ,rfl,hS,hx,.refl _ _,ha,hfb,fun _ _=>rfl,fun _ _ _ _ h _=>h⟩
 |a :: l,rs,f,S,γ,rest,hrs,hnd,hmk,hS,hx,ha,hfb,hp,hB,hne=>by
  obtain⟨o,ho,hg,hd,hdn,hex⟩:=hmk a (List.mem_cons_self ..)
  unfold opsOf at hrs
  rw[ho]at hrs
  cases hl:opsOf ops l with
  |none=>rw[hl]at hrs;cases hrs
  |some rs' =>
   rw[hl]at hrs
   injection hrs with hrs;subst hrs
   have hw:wantedA ops o f.tmps=some true:=by unfold wantedA;rw[hg]
   rcases hex f.tmps S with hf | ⟨cs,hcs,hc⟩
   ·exfalso;apply hne
    rw[List.cons_append,runRS_op']
    unfold stepO
    simp only[hw,hf]
   ·obtain⟨h1,hv⟩:=hc γ w act ha.tmps
    have hstep:stepO E callK n ops o f S=.out .normal ⟨f.tmps.set (D a) (some (.ptr S.next 0)),f.dfr⟩ (S.newBox cs):=by
     unfold stepO
     simp only[hw,hcs,hd,putA,if_pos hdn]
    have hpa:=hp a (List.mem_cons_self ..)
    obtain⟨γ1,k1,k2,k3,k4,k5⟩:=hpa.namedC hS hx hlo hv h1 ha hdn
    have hnd2:=List.nodup_cons.1 hnd
    have hfb2:FbOk ops fb ⟨f.tmps.set (D a) (some (.ptr S.next 0)),f.dfr⟩:=by
     have:=hfb.put ho (.ptr S.next 0)
     unfold putT at this
     rw[hd]at this
     exact this
    rw[List.cons_append,runRS_op',hstep]at hne
    simp only at hne
    have hkeep:∀d e cs' b,Pend γ S w act ws.heap.size d e cs' b→B a≠b→Pend γ1 (S.newBox cs) w act ws.heap.size d e cs' b:=fun d e cs' b hpb hne=>by
     refine⟨hpb.tmp,hpb.blk,hpb.lo,hpb.lt,fun id c s hm hl=>?_,fun o ho=>?_⟩
     ·have hm:(S.mem.set S.next (some (.box cs))).get id=some c:=hm
      rw[k5]at hl
      have hl:(if id=S.next then some (B a,0)else γ.loc id)=some (b,s):=hl
      rw[T.get_set]at hm
      split at hm
      ·rename_i hid
       rw[if_pos hid]at hl
       injection hl with hl;injection hl with l1 l2
       exact hne l1
      ·rename_i hid
       rw[if_neg hid]at hl
       exact hpb.non id c s hm hl
     ·rw[k5]at ho
      exact hpb.im o ho
    have hpend:∀b∈l,Pend γ1 (S.newBox cs) w act ws.heap.size (D b) (TT b) (C b act) (B b):=fun b hb =>
     hkeep _ _ _ _ (hp b (List.mem_cons_of_mem _ hb)) (hB a (List.mem_cons_self ..) b (List.mem_cons_of_mem _ hb) (fun e=>hnd2.1 (e ▸ hb)))
    obtain⟨f',S',γ',q1,q2,q3,q4,q5,q6,q7,q8⟩:=named_all hlo D TT C B l rs' _ (S.newBox cs) γ1 rest hl hnd2.2 (fun b hb=>hmk b (List.mem_cons_of_mem _ hb)) k1 k2 k4 hfb2 hpend (fun b hb b' hb'=>hB b (List.mem_cons_of_mem _ hb) b' (List.mem_cons_of_mem _ hb')) hne
    refine⟨f',S',γ',?_,q2,q3,k3.trans q4,q5,q6,fun k hk=>?_,fun d e cs' b hpb hnb=>?_⟩
    ·rw[← q1,List.cons_append,runRS_op',hstep]
    ·rw[q7 k (fun b hb=>hk b (List.mem_cons_of_mem _ hb))]
     show(f.tmps.set (D a) _).get k=_
     rw[T.get_set,if_neg (fun e=>hk a (List.mem_cons_self ..) e.symm)]
    ·exact q8 d e cs' b (hkeep d e cs' b hpb (hnb a (List.mem_cons_self ..))) (fun b' hb'=>hnb b' (List.mem_cons_of_mem _ hb'))
theorem drawn_ph{base:Nat}{w0:World}{Q:Exit→Act→World→Prop}(hE:E.Ok)(hC:CallOk E base w0 callK)(hm:masksOk ms ops.toList 0=true){fb:Fr}{γ0:Gh}{S0:St}{ws:World}(hlo:base≤ws.heap.size)
  {A:List Nat} (D TT:Nat→Nat) (C:Nat→Act→Array Value) (src:Nat→Option Nat)
  (hmk:∀a∈A,∃o,ops[a]? = some o∧o.guard=none∧o.dst=some (D a)∧MkRun E.P o (TT a) (C a)∧(∀(f:T AV) (S:St),exec1 E f S o=.fail∨∃cs,exec1 E f S o=.val (.ptr S.next 0) (S.newBox cs)∧∀(γ:Gh) (w:World) (act:Act),FR γ w f act.tmps→(∀c∈cs,c.one=true)∧VRL γ w cs (C a act).toList))
  (hds:∀a∈A,mkDst E.P ops a=some (D a,src a)) (hdn0:∀a∈A,D a<n)
  (hcs:∀a∈A,∀act act':Act,(∀s,src a=some s→act'.tmps[s]? = act.tmps[s]?)→C a act' = C a act)
  (hmd:∀a∈A,∀a'∈A,a≠a'→D a≠D a') (hms:∀a∈A,∀s,src a=some s→∀a'∈A,D a'≠s) :
  ∀(ph:List (List Nat × List Nat)) (rs:List RS) (fuel:Nat) (remM:List Nat) (B:Nat→Nat) (listed:Array Bool) (f:Fr) (S:St) (γ:Gh) (w:World) (act:Act),
  phSteps ops ms ph=some rs→phOk E.P ops ms ph=true→(opsIn ph ++ mksOf ph).Nodup→(∀a∈mksOf ph,a∈A)→(∀k∈opsIn ph ++ mksOf ph,k<ops.size) →
  listed.size=ops.size→(∀k,k<ops.size→listed.getD k true=false→k∈opsIn ph ++ mksOf ph)→(∀k∈opsIn ph,listed.getD k true=false)→(∀k,k∈remM↔k∈mksOf ph∧listed.getD k true=false)→remM.Nodup→remM.length+(opsIn ph).length≤fuel→Dn ops listed →
  SR base w0 γ S w→Ext γ0 S0 ws γ S w→AR γ w n f act→GR γ w E.G→FbOk ops fb f→(∀a∈mksOf ph,f.tmps.get (D a)=none)→(∀a∈mksOf ph,listed.getD a true=true→Pend γ S w act ws.heap.size (D a) (TT a) (C a act) (B a))→(∀a∈mksOf ph,∀a'∈mksOf ph,a≠a'→listed.getD a true=true→listed.getD a' true=true→B a≠B a') →
  Holds base w0 n γ0 S0 ws Q (fixX fb (runRS E callK n ops rs f S))→wpAny E.P .any ops Q fuel listed act w
 | [],rs,fuel,remM,B,listed,f,S,γ,w,act,hrs,hok,hnd,hA,hlt,hsz,hcov,hpl,hremM,hndM,hlen,hdn,hS,hx,ha,hg,hfb,hfd,hpd,hB,hH=>by
  injection hrs with hrs;subst hrs
  have hH:Holds base w0 n γ0 S0 ws Q (.out .normal f S):=hH
  have hq:=hH γ act w hS hx ha
  have hno:∀i∈Region.ready .any ops listed,False:=fun i hi=>by
   obtain⟨h1,o,ho,_⟩:=mem_ready.1 hi
   exact absurd (hcov i (Array.getElem?_eq_some_iff.1 ho).1 h1) (by simp[opsIn,mksOf])
  cases fuel with
  |zero =>
   refine⟨?_,hq⟩
   rw[List.eq_nil_iff_forall_not_mem]
   exact fun i hi=>hno i hi
  |succ fuel=>exact⟨fun _=>hq,fun i hi=>(hno i hi).elim⟩
 | (L,M) :: r,rs,fuel,remM,B,listed,f,S,γ,w,act,hrs,hok,hnd,hA,hlt,hsz,hcov,hpl,hremM,hndM,hlen,hdn,hS,hx,ha,hg,hfb,hfd,hpd,hB,hH=>by
  unfold phSteps at hrs
  split at hrs
  case h_2=>cases hrs
  rename_i rp rm rq hrp hrm hrq
  injection hrs with hrs;subst hrs
  unfold phOk at hok
  simp only[Bool.and_eq_true]at hok
  obtain⟨⟨⟨s1,s2⟩,s3⟩,s4⟩:=hok
  have eo:opsIn ((L,M) :: r)=L ++ opsIn r:=rfl
  have em:mksOf ((L,M) :: r)=M ++ mksOf r:=rfl
  rw[eo,em]at hnd hlt hcov
  rw[em]at hA hremM hfd hpd hB
  rw[eo]at hpl hlen
  have hnd1:=List.nodup_append.1 hnd
  have hndo:=List.nodup_append.1 hnd1.1
  have hndm:=List.nodup_append.1 hnd1.2.1
  rw[runRS_append]at hH
  have hne1:fixX fb (runRS E callK n ops rp f S)≠.fail:=by
   intro hf
   cases hr:runRS E callK n ops rp f S with
   |fail=>rw[hr]at hH;exact hH
   |out e f' S'=>rw[hr]at hf;cases e <;> cases hf
  have hR:drun E callK n ops ms fb L f S []=fixX fb (runRS E callK n ops rp f S):=by
   rcases drun_steps (E:=E) (ck:=callK) (n:=n) (fb:=fb) L rp f S [] hrp (fun _ h=>absurd h List.not_mem_nil)with h |h
   ·rw[h]at hH;exact hH.elim
   ·exact h
  have hfree:∀a∈M ++ mksOf r,∀p∈L,mkFree E.P ops ms a p=true:=fun a ham p hp=>List.all_eq_true.1 (List.all_eq_true.1 s3 a ham) p hp
  have hfree2:∀a∈M ++ mksOf r,∀p∈L,dstNe ops (D a) p=true∧∀s,src a=some s→(ms.getD a 0).testBit p=true∨dstNe ops s p=true:=fun a ham p hp=>by
   have h1:=hfree a ham p hp
   unfold mkFree at h1
   rw[hds a (hA a ham)]at h1
   simp only[Bool.and_eq_true]at h1
   refine⟨h1.1,fun s hs=>?_⟩
   have h2:=h1.2
   rw[hs]at h2
   simpa using h2
  have hdne:∀d p o,dstNe ops d p=true→ops[p]? = some o→o.dst≠some d:=fun d p o h ho hd=>by
   unfold dstNe at h
   rw[ho]at h
   simp[hd]at h
  refine drawn_preM (Q:=Q) hE hC hm (fb:=fb) (γ0:=γ0) (S0:=S0) (ws:=ws) hlo (mk:=M ++ mksOf r) (M:=M) (pre:=L) (post:=opsIn r) D TT C src (fun a ham=>?_) (fun a ham=>hdn0 a (hA a ham)) (fun a ham=>hcs a (hA a ham))
   (fun a ham p hp o ho=>hdne _ p o (hfree2 a ham p hp).1 ho) (fun a ham s hs p hp=>((hfree2 a ham p hp).2 s hs).imp (fun h=>h) fun h o ho=>hdne _ p o h ho)
   (fun a ham b hbm hn=>hmd a (hA a ham) b (hA b hbm) hn) (fun a ham s hs b hbm=>hms a (hA a ham) s hs b (hA b hbm)) (fun a ham hp=>hnd1.2.2 a (List.mem_append_left _ hp) a ham rfl) (fun p hp k hk=>List.all_eq_true.1 (List.all_eq_true.1 s2 p hp) k (List.mem_append.2 hk)) (fun a ham=>List.mem_append_left _ ham)
   (fun p hp=>hlt p (List.mem_append_left _ (List.mem_append_left _ hp))) (fun p hp=>hlt p (List.mem_append_right _ hp)) (R:=fixX fb (runRS E callK n ops rp f S)) hne1 ?_ ?_
   fuel L remM B listed f S γ w act hsz (fun k=>⟨fun h=>⟨h,hpl k (List.mem_append_left _ h)⟩,fun h=>h.1⟩) hndo.1 hremM hndM (fun p hp _=>hpl p (List.mem_append_right _ hp)) (fun k hk h=>?_) (by simp at hlen;omega) hdn s1 hS hx ha hg hfb hfd hpd hB hR
  ·obtain⟨o,h1,h2,h3,h4,_⟩:=hmk a (hA a ham)
   exact⟨o,h1,h2,h3,h4⟩
  ·
   intro y S' hy γ' act' w' k1 k2 k3 v hvr
   cases hr:runRS E callK n ops rp f S with
   |fail=>rw[hr]at hH;exact hH.elim
   |out e f' S2 =>
    rw[hr]at hy hH
    cases e with
    |pan y2 =>
     have hy:O.out (.pan y2) fb S2=.out (.pan y) fb S':=hy
     injection hy with q1 q2 q3
     injection q1 with q1
     subst q1;subst q3
     exact hH γ' act' w' k1 k2 k3 v hvr
    |normal=>cases hy
    |exit i=>cases hy
    |ret=>cases hy
  ·
   intro fuel2 remM2 listed2 f2 S2 γ2 w2 act2 B2 hR2 hsz2 hcov2 hpl2 hremM2 hndM2 hM2 hlen2 hdn2 hS2 hx2 ha2 hg2 hfb2 hfd2 hpd2 hBB
   have hR3:fixX fb (runRS E callK n ops rp f S)=.out .normal f2 S2:=by rw[← hR2];unfold drun;rfl
   cases hr:runRS E callK n ops rp f S with
   |fail=>rw[hr]at hR3;cases hR3
   |out e2 f3 S' =>
    rw[hr]at hR3 hH
    cases e2 with
    |pan y=>cases hR3
    |exit i=>cases hR3
    |ret=>cases hR3
    |normal =>
     have hR3:O.out .normal f3 S' = .out .normal f2 S2:=hR3
     injection hR3 with _ q2 q3
     subst q2;subst q3
     simp only at hH
     have hnf:runRS E callK n ops (rm ++ rq) f3 S'≠.fail:=fun e=>by rw[e]at hH;exact hH.elim
     have inM:∀a∈M,a∈M ++ mksOf r:=fun a h=>List.mem_append_left _ h
     have inR:∀a∈mksOf r,a∈M ++ mksOf r:=fun a h=>List.mem_append_right _ h
     have nMR:∀a∈M,∀b∈mksOf r,a≠b:=fun a ha b hb e=>hndm.2.2 a ha b hb e
     obtain⟨f4,S4,γ4,e4,k1,k2,k3,k4,k5,k6,k7⟩:=named_all (E:=E) (callK:=callK) (n:=n) (ops:=ops) (base:=base) (w0:=w0) (ws:=ws) (γ0:=γ0) (S0:=S0) (w:=w2) (act:=act2) hlo (fb:=fb) D TT C B2 M rm f3 S' γ2 rq hrm hndm.1
      (fun a ham=>by
       obtain⟨o,h1,h2,h3,_,h5⟩:=hmk a (hA a (inM a ham))
       exact⟨o,h1,h2,h3,hdn0 a (hA a (inM a ham)),h5⟩) hS2 hx2 ha2 hfb2 (fun a ham=>hpd2 a (inM a ham) (hM2 a ham)) (fun a ham b hbm hn=>hBB a (inM a ham) b (inM b hbm) hn (hM2 a ham) (hM2 b hbm)) hnf
     rw[e4]at hH
     refine drawn_ph hE hC hm hlo D TT C src hmk hds hdn0 hcs hmd hms r rq fuel2 remM2 B2 listed2 f4 S4 γ4 w2 act2 hrq s4 (List.nodup_append.2 ⟨hndo.2.1,hndm.2.1,fun x hx y hy e=>hnd1.2.2 x (List.mem_append_right _ hx) y (List.mem_append_right _ hy) e⟩) (fun a ham=>hA a (inR a ham)) (fun k hk=>?_) hsz2 (fun k hk h=>?_) (fun k hk=>hpl2 k hk (hlt k (List.mem_append_left _ (List.mem_append_right _ hk)))) (fun k=>?_) hndM2 hlen2 hdn2 k1 k2 k4 (hg2.mono k3) k5 (fun a ham=>?_) (fun a ham hal=>?_) (fun a ham b hbm hn=>hBB a (inR a ham) b (inR b hbm) hn) hH
     ·rcases List.mem_append.1 hk with h |h
      ·exact hlt k (List.mem_append_left _ (List.mem_append_right _ h))
      ·exact hlt k (List.mem_append_right _ (inR k h))
     ·rcases hcov2 k hk h with h1 |h1
      ·rcases List.mem_append.1 h1 with h1 |h1
       ·rw[hM2 k h1]at h;cases h
       ·exact List.mem_append_right _ h1
      ·exact List.mem_append_left _ h1
     ·rw[hremM2 k]
      refine⟨fun⟨h1,h2⟩=>⟨?_,h2⟩,fun⟨h1,h2⟩=>⟨inR k h1,h2⟩⟩
      rcases List.mem_append.1 h1 with h1 |h1
      ·rw[hM2 k h1]at h2;cases h2
      ·exact h1
     ·rw[k6 (D a) (fun b hb=>hmd b (hA b (inM b hb)) a (hA a (inR a ham)) (nMR b hb a ham))]
      exact hfd2 a (inR a ham)
     ·exact k7 _ _ _ _ (hpd2 a (inR a ham) hal) (fun b hb=>hBB b (inM b hb) a (inR a ham) (nMR b hb a ham) (hM2 b hb) hal)
  ·rcases List.mem_append.1 (hcov k hk h)with h1 |h1
   ·rcases List.mem_append.1 h1 with h1 |h1
    ·exact .inl h1
    ·exact .inr (.inr h1)
   ·exact .inr (.inl h1)
end
theorem drawnMk_ok{E:Env}(hE:E.Ok)(hmix:E.P.follows .mixedOrders=true){x:MkX}{ops:Array Oper}(hok:mkOk E.P ops (bm ops.toList []) x=true)(base:Nat)(w0:World)(Q:Exit→Act→World→Prop)(callK:CallK)(hC:CallOk E base w0 callK)(n id:Nat)(γ:Gh)(S:St)(w:World)(f:Fr)(act:Act)(hS:SR base w0 γ S w)(ha:AR γ w n f act)(hg:GR γ w E.G)
  (hH:Holds base w0 n γ S w Q (drawnMk E x callK n ops f S)):(Code.region id ops true).wp E.P Q act w:=by
 unfold drawnMk at hH
 split at hH
 case h_2=>exact hH.elim
 rename_i rs hrs
 split at hH
 case isFalse=>exact hH.elim
 rename_i hdn
 unfold mkFit at hdn
 unfold mkSteps at hrs
 generalize bm ops.toList []=ms at hok hrs
 unfold mkOk at hok
 simp only[Bool.and_eq_true]at hok
 obtain⟨⟨⟨⟨⟨s1,s2⟩,s3⟩,s4⟩,s5⟩,s6⟩:=hok
 have hnd:=nodupB_nodup s2
 have hnd1:=List.nodup_append.1 hnd
 have hlt:∀p∈opsIn x.ph ++ mksOf x.ph,p<ops.size:=fun p hp=>by have:=List.all_eq_true.1 s3 p hp;simpa using this
 have hcov:∀k,k<ops.size→k∈opsIn x.ph ++ mksOf x.ph:=fun k hk=>memB_mem.1 (List.all_eq_true.1 s4 k (List.mem_range.2 hk))
 generalize hA:mksOf x.ph=A at hnd hnd1 hlt hcov s6
 have hdn:∀a∈A,(match mkDst E.P ops a with |some (d,_)=>decide (d<n) |none=>false)=true:=fun a ham=>List.all_eq_true.1 hdn a (by show a∈mksOf x.ph;rw[hA];exact ham)
 have hspec:∀a,∃(o:Oper) (d:Nat) (src:Option Nat) (e:TypeId) (C:Act→Array Value),a∈A→ops[a]? = some o∧mkDst E.P ops a=some (d,src)∧d<n∧o.guard=none∧o.dst=some d∧MkRun E.P o e C∧(∀act act':Act,(∀s,src=some s→act'.tmps[s]? = act.tmps[s]?)→C act' = C act) ∧
   (∀(f:T AV) (S:St),exec1 E f S o=.fail∨∃cs,exec1 E f S o=.val (.ptr S.next 0) (S.newBox cs)∧∀(γ:Gh) (w:World) (act:Act),FR γ w f act.tmps→(∀c∈cs,c.one=true)∧VRL γ w cs (C act).toList):=fun a=>by
  by_cases ham:a∈A
  ·have h1:=hdn a ham
   cases hq:mkDst E.P ops a with
   |none=>rw[hq]at h1;cases h1
   |some p =>
    obtain⟨d,src⟩:=p
    rw[hq]at h1
    have h1':=hq
    unfold mkDst at h1'
    split at h1'
    ·rename_i o ho
     obtain⟨e,C,k1,k2,k3,k4,k5⟩:=isMk_spec h1'
     exact⟨o,d,src,e,C,fun _=>⟨ho,rfl,by simpa using h1,k1,k2,k3,k4,fun f S=>k5 E f S rfl⟩⟩
    ·cases h1'
  ·exact⟨default,0,none,0,fun _=>#[],fun h=>absurd h ham⟩
 obtain⟨oF,hspec⟩:=Classical.axiomOfChoice hspec
 obtain⟨D,hspec⟩:=Classical.axiomOfChoice hspec
 obtain⟨src,hspec⟩:=Classical.axiomOfChoice hspec
 obtain⟨TT,hspec⟩:=Classical.axiomOfChoice hspec
 obtain⟨C,hspec⟩:=Classical.axiomOfChoice hspec
 have hdne:∀d p o,dstNe ops d p=true→ops[p]? = some o→o.dst≠some d:=fun d p o h ho hd=>by
  unfold dstNe at h
  rw[ho]at h
  simp[hd]at h
 have htwo:∀a∈A,∀b∈A,(b≠a→dstNe ops (D a) b=true)∧∀s,src a=some s→dstNe ops s b=true:=fun a ham b hbm=>by
  have h1:=List.all_eq_true.1 (List.all_eq_true.1 s6 a ham) b hbm
  unfold mkTwo at h1
  rw[(hspec a ham).2.1]at h1
  simp only[Bool.and_eq_true]at h1
  refine⟨fun hne=>?_,fun s hs=>?_⟩
  ·have:=h1.1
   rw[Bool.or_eq_true]at this
   exact this.resolve_left (by simpa using hne)
  ·have h2:=h1.2
   rw[hs]at h2
   exact h2
 obtain⟨d1,d2⟩:=hS.drew
 have hx0:Ext γ S w γ S w.drew:=Ext.of_same (w:=w) (w':=w.drew) rfl d2
 have hlist:∀(i:Nat) (b:Bool),i<ops.size→(Array.replicate ops.size false).getD i b=false:=fun i b h=>by simp[h]
 refine wp_region_any hmix ?_
 have hH2:=hH.later hx0
 generalize hfb:(⟨eraseT ops.toList f.tmps,f.dfr⟩:Fr)=fb at hH2
 have eA:x.mks=A:=hA
 rw[eA]at hH2
 generalize hf1:(⟨clearT E.P ops A f.tmps,f.dfr⟩:Fr)=f1 at hH2
 have hclr:∀k,((clearT E.P ops A f.tmps).get k=none∧∃a∈A,D a=k)∨((clearT E.P ops A f.tmps).get k=f.tmps.get k∧∀a∈A,D a≠k):=fun k=>by
  rcases clearT_get E.P ops A f.tmps k with⟨h1,a,ham,s,hs⟩ | ⟨h1,h2⟩
  ·refine .inl ⟨h1,a,ham,?_⟩
   have:=(hspec a ham).2.1
   rw[hs]at this;injection this with this;injection this with e1 e2;exact e1.symm
  ·exact .inr ⟨h1,fun a ham e=>h2 a ham (src a) (by rw[(hspec a ham).2.1,e])⟩
 have hfbok:FbOk ops fb f1:=by
  subst hfb;subst hf1
  refine⟨fun t y h=>?_,rfl,fun i o d ho hd=>?_⟩
  ·obtain⟨h1,h2⟩:=eraseT_sub _ _ t y h
   show(clearT E.P ops A f.tmps).get t=some y
   rcases hclr t with⟨_,a,ham,hDa⟩ | ⟨h3,_⟩
   ·have hh:=hspec a ham
    exact absurd (by rw[hh.2.2.2.2.1,hDa]) (h2 (oF a) (by have:=Array.mem_of_getElem? hh.1;simpa using this))
   ·rw[h3];exact h1
  ·cases hq:(eraseT ops.toList f.tmps).get d with
   |none=>rfl
   |some y =>
    have:=(eraseT_sub _ _ d y hq).2 o (by have:=Array.mem_of_getElem? ho;simpa using this)
    exact absurd hd this
 have ha1:AR γ w.drew n f1 act:=by
  subst hf1
  have:=ha.mono d2
  refine⟨fun t y h=>?_,this.size,this.dfr⟩
  have h:(clearT E.P ops A f.tmps).get t=some y:=h
  rcases hclr t with⟨h3,_⟩ | ⟨h3,_⟩
  ·rw[h3]at h;cases h
  ·rw[h3]at h;exact this.tmps t y h
 have hfd:∀a∈A,f1.tmps.get (D a)=none:=fun a ham=>by
  subst hf1
  show(clearT E.P ops A f.tmps).get (D a)=none
  rcases hclr (D a)with⟨h3,_⟩ | ⟨_,h4⟩
  ·exact h3
  ·exact absurd rfl (h4 a ham)
 have unl:∀a∈A,(Array.replicate ops.size false).getD a true=true→False:=fun a ham hl=>by
  rw[hlist a true (hlt a (List.mem_append_right _ ham))]at hl;cases hl
 refine drawn_ph (Q:=Q) hE hC s1 (fb:=fb) (γ0:=γ) (S0:=S) (ws:=w.drew) d1.hbase (A:=A) D TT C src (fun a ham=>⟨oF a,(hspec a ham).1,(hspec a ham).2.2.2.1,(hspec a ham).2.2.2.2.1,(hspec a ham).2.2.2.2.2.1,(hspec a ham).2.2.2.2.2.2.2⟩) (fun a ham=>(hspec a ham).2.1) (fun a ham=>(hspec a ham).2.2.1) (fun a ham=>(hspec a ham).2.2.2.2.2.2.1)
  (fun a ham b hbm hn e=>hdne _ b (oF b) ((htwo a ham b hbm).1 (fun e=>hn e.symm)) (hspec b hbm).1 (by rw[(hspec b hbm).2.2.2.2.1,e])) (fun a ham s hs b hbm e=>hdne _ b (oF b) ((htwo a ham b hbm).2 s hs) (hspec b hbm).1 (by rw[(hspec b hbm).2.2.2.2.1,e]))
  x.ph rs ops.size A (fun _=>0) (Array.replicate ops.size false) f1 S γ w.drew act hrs s5 (by rw[hA];exact hnd) (fun a h=>by rw[hA]at h;exact h) (by rw[hA];exact hlt) (by simp) (fun k hk _=>by rw[hA];exact hcov k hk) (fun k hk=>hlist k true (hlt k (List.mem_append_left _ hk))) (fun k=>?_) hnd1.2.1 ?_ (fun i o ho hl=>?_) d1 (.refl _ _ _) ha1 (hg.mono d2) hfbok (by rw[hA];exact hfd)
  (fun a ham hl=>by rw[hA]at ham;exact(unl a ham hl).elim) (fun a ham b hbm hn hl=>by rw[hA]at ham;exact(unl a ham hl).elim) hH2
 ·rw[hA];exact⟨fun h=>⟨h,hlist k true (hlt k (List.mem_append_right _ h))⟩,fun h=>h.1⟩
 ·have hsub:(opsIn x.ph ++ A) ⊆ List.range ops.size:=fun k hk=>List.mem_range.2 (hlt k hk)
  have:=hnd.length_le_of_subset hsub
  simp at this;omega
 ·have hlt2:=(Array.getElem?_eq_some_iff.1 ho).1
  rw[hlist i false hlt2]at hl
  cases hl
end Go.Ax
