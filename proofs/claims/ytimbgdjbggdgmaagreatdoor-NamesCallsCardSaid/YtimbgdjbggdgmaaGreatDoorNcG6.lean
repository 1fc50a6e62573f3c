/- Sa -/
import Derived.Test.YtimbgdjbggdgmaaGreatDoorNcG5
set_option linter.unusedVariables false
set_option linter.unusedSimpArgs false
noncomputable section
namespace Go.Ax
open Go.RowKit
theorem wp_keep{P:Program}{o:Oper}{act:Act}{w:World}{K:Act→World→Prop}{Q:Exit→Act→World→Prop}{d:Nat}(hd:o.dst≠some d)(h:o.wp P act w (fun a w=>a.tmps[d]? = act.tmps[d]? → K a w) Q):o.wp P act w K Q:=by
 have hp:∀(act':Act) (v:Value),act'.tmps=act.tmps→(act'.put o.dst v).tmps[d]? = act.tmps[d]?:=fun act' v he=>by
  unfold Act.put
  split
  ·rename_i x hx
   show(act'.tmps.setIfInBounds x v)[d]? = _
   rw[Array.getElem?_setIfInBounds_ne (fun e=>by subst e;exact hd hx),he]
  ·rw[he]
 unfold Oper.wp at h ⊢;generalize (execOp act.eval o).run P w=r at h ⊢;unfold Oper.upon at h ⊢
 split at h
 ·exact h (hp act _ rfl)
 ·exact h (hp act _ rfl)
 ·exact h (hp _ _ rfl)
 ·refine h.mono fun e w' he=>?_
  cases e with
  |returned v=>exact he (hp act v rfl)
  |panicked c=>exact he
  |outgrown=>exact he
 ·exact h.mono fun v w' he=>he (hp act v rfl)
 ·exact h
 ·exact h.elim
theorem put_keep{o:Oper}{act:Act}{v:Value}{d:Nat}(hd:o.dst≠some d):(act.put o.dst v).tmps[d]? = act.tmps[d]?:=by
 unfold Act.put
 split
 ·rename_i x hx
  show(act.tmps.setIfInBounds x v)[d]? = _
  rw[Array.getElem?_setIfInBounds_ne (fun e=>by subst e;exact hd hx)]
 ·rfl
section
variable {E:Env} {callK:Dk} {n:Nat} {ops:Array Oper} {ms:List Nat}
theorem zW(hm:Mh ms ops.toList 0=true){listed:Array Bool}(hsz:listed.size=ops.size)(hr:Region.ready .any ops listed=[]):∀i,i<ops.size→listed.getD i true=true:=by
 intro i
 induction i using Nat.strongRecOn with
 |_ i ihi =>
  intro hlt
  cases hun:listed.getD i true with
  |true=>rfl
  |false =>
   exfalso;have hoi:ops[i]? = some ops[i]:=Jc6 hlt;have hk:=Ph hm (k:=i) (o:=ops[i]) (by simp[hlt])
   have:i∈Region.ready .any ops listed:=mem_ready.2 ⟨hun,ops[i],hoi,fun e he hb=>by
    have hel:=hk.2 e he hb;rw[Nat.zero_add]at hel;have h1:=ihi e.on hel (by omega)
    rw[Nd (by omega) true false]at h1
    exact h1⟩
   rw[hr]at this;cases this
structure Pend(γ:Gh)(S:St)(w:World)(act:Act)(lo d e:Nat)(cs:Array Value)(b:Nat):Prop where
 tmp:act.tmps[d]? = some (.pointer (some ⟨b,0,none⟩))
 blk:w.heap[b]? = some (Obj.cells cs e (0,0))
 lo:lo≤b
 lt:b<w.heap.size
 non:∀id c s,S.mem.get id=some c→γ.loc id≠some (b,s)
 im:∀o,¬ γ.im b o
theorem Pend.step{γ γ':Gh}{S S':St}{w w':World}{act act':Act}{lo d e b:Nat}{cs:Array Value}(h:Pend γ S w act lo d e cs b)(x:Ext γ S w γ' S' w')(ht:act'.tmps[d]? = act.tmps[d]?):Pend γ' S' w' act' lo d e cs b:=by
 obtain⟨f1,f2⟩:=x.frame b h.lt h.non;refine⟨ht.trans h.tmp,f1.trans h.blk,h.lo,Ja0 h.lt x.size,fun id c s hm hl=>?_,fun o ho=>h.im o (f2 o ho)⟩
 rcases x.liv id c b s hm hl with h1 | ⟨i0,c0,s0,e0,l0⟩
 ·have:=h.lt;omega
 ·exact h.non i0 c0 s0 e0 l0
theorem Pend.named{base:Nat}{w0 ws:World}{γ0 γ:Gh}{S0 S:St}{w:World}{act:Act}{d e b:Nat}{av:AV}{z:Value}(hS:SR base w0 γ S w)(hx:Ext γ0 S0 ws γ S w)(hlo:base≤ws.heap.size)(hz:Bo 8 z=some av)(hnt:av.noTup=true)
  (h:Pend γ S w act ws.heap.size d e z.cells b) {f:Fr} (ha:AR γ w n f act) (hd:d<n) :
  ∃γ',SR base w0 γ' ⟨S.next+1,S.mem.set S.next (some (.box av.cells))⟩ w∧Ext γ0 S0 ws γ' ⟨S.next+1,S.mem.set S.next (some (.box av.cells))⟩ w∧Ev γ w γ' w∧AR γ' w n ⟨f.tmps.set d (some (.ptr S.next 0)),f.dfr⟩ act:=by
 have hv:=Hm (γ:=γ) (w:=w) hz;have hf:=hS.fresh S.next (Ja1 _);have ev:Ev γ w (γ.withLoc S.next b 0) w:=pC hf.1;obtain⟨k1,k2⟩:=hS.name b 0 (.box av.cells) (Jb2 hlo h.lo) h.lt ⟨rfl,h.im,hv.ones (N4 hnt),z.cells,e,z.cells.toList,[],h.blk,by simp,hv.cells⟩ (fun id c s' hm=>h.non id c s' hm)
 refine⟨γ.withLoc S.next b 0,k1,?_,ev,?_⟩
 ·refine⟨hx.ev.trans ev,Nat.le_succ_of_le hx.next,fun id hid=>?_,hx.size,fun id c b' s' hm hl=>?_,fun b' hb' hn=>?_⟩
  ·show(if id=S.next then some (b,0)else γ.loc id)=γ0.loc id
   rw[if_neg (by have:=hx.next;omega)]
   exact hx.same id hid
  ·have hm:(S.mem.set S.next (some (.box av.cells))).get id=some c:=hm
   have hl:(if id=S.next then some (b,0)else γ.loc id)=some (b',s'):=hl
   rw[T.get_set]at hm
   split at hm
   ·rename_i hid
    rw[if_pos hid]at hl;injection hl with hl;injection hl with l1 l2;subst l1
    exact .inl h.lo
   ·rename_i hid
    rw[if_neg hid]at hl;exact hx.liv id c b' s' hm hl
  ·exact hx.frame b' hb' hn
 ·refine⟨fun t a hta=>?_,ha.size,ha.dfr.mono ev⟩
  have hq:(f.tmps.set d (some (.ptr S.next 0))).get t=some a:=hta;rw[T.get_set]at hq
  split at hq
  ·rename_i e;subst e
   injection hq with hq2;subst hq2
   refine⟨by rw[ha.size];exact hd,?_⟩
   rw[Jd5,h.tmp];exact .ptr S.next 0 b 0 (by show(if S.next=S.next then _ else _)=_;rw[if_pos rfl])
  ·obtain⟨q1,q2⟩:=ha.tmps t a hq
   exact⟨q1,q2.mono ev⟩
theorem alloc_run{P:Program}{act:Act}{o:Oper}{e:TypeId}{i:TypeInfo}{z:Value}(ho:o.op=.alloc e)(hi:P.info? e=some i)(hz:i.zero=some z)(w:World):(execOp act.eval o).run P w=.ok (.value (.pointer (some ⟨w.heap.size,0,none⟩))) (w.alloc (.cells z.cells e)):=by
 simp[execOp,ho,Instr.alloc,zeroValue,typeInfo,hi,hz,newVar,newRow]
theorem Za{fb:Fr}(M:List Look)(hM:∀l∈M,Lg l.o=true):∀(rem:List Nat) (f:Fr) (S:St) (L:List Look),Gx E callK n ops ms fb rem f S (L ++ M)=Gx E callK n ops ms fb rem f S L
 | [],f,S,L=>by unfold Gx;rfl
 |i :: r,f,S,L=>by
  unfold Gx
  cases ops[i]? with
  |none=>rfl
  |some o =>
   simp only
   split
   ·cases Fq E ops o f.tmps S with
    |none=>rfl
    |some a =>
     simp only
     split
     ·exact Za M hM r _ S (⟨i,o,f.tmps,a⟩ :: L)
     ·rfl
   ·cases Mu E callK ops o f.tmps S with
    |val a S' =>
     simp only
     have:(L ++ M).all (Iu E ops (ms.getD i 0) S')=L.all (Iu E ops (ms.getD i 0) S'):=by
      rw[List.all_append];have:M.all (Iu E ops (ms.getD i 0) S')=true:=Jb6.2 fun l hl=>by unfold Iu;rw[hM l hl];simp
      rw[this,Bool.and_true]
     rw[this]
     split
     ·exact Za M hM r _ S' L
     ·rfl
    |_=>rfl
def Sf(ops:Array Oper)(d:Nat)(k:Nat):Prop:=∃o,ops[k]? = some o∧Gc o=true∧Lg o=true∧o.dst≠some d∧d ∉ o.looksAt ops
theorem jX{fb:Fr}{da:Nat}{x:AV}{S S2:St}{post:List Nat}:∀(rem:List Nat) (f:Fr) (L L2:List Look) (R:O),(∀k∈rem,Sf ops da k)→Gx E callK n ops ms fb rem f S L=R→R≠.fail →
  ∃f',R=.out .normal f' S∧∃M,(∀l∈M,Lg l.o=true)∧Gx E callK n ops ms fb (rem ++ post) ⟨f.tmps.set da (some x),f.dfr⟩ S2 L2=Gx E callK n ops ms fb post ⟨f'.tmps.set da (some x),f'.dfr⟩ S2 (M ++ L2)
 | [],f,L,L2,R,hp,h,hne=>by
  unfold Gx at h;exact⟨f,h.symm,[],fun _ h=>absurd h Ja7,rfl⟩
 |i :: r,f,L,L2,R,hp,h,hne=>by
  obtain⟨o,ho,hl,hpu,hd,hn⟩:=hp i (Jb1 ..);unfold Gx at h;rw[ho]at h;simp only at h;rw[if_pos hl]at h
  split at h
  ·rename_i a hv
   split at h
   ·rename_i hok
    have hag:Tz ops o (f.tmps.set da (some x)) f.tmps:=fun t ht=>by rw[T.get_set,if_neg (fun e=>by subst e;exact hn ht)]
    have hv2:Fq E ops o (f.tmps.set da (some x)) S2=some a:=by rw[Jp hag,V0 (S':=S) hpu];exact hv
    have hput:Hs ⟨f.tmps.set da (some x),f.dfr⟩ o.dst a=⟨(Hs f o.dst a).tmps.set da (some x),(Hs f o.dst a).dfr⟩:=by
     unfold Hs
     split
     ·rfl
     ·rename_i d hd2
      have hne2:d≠da:=fun e=>by subst e;exact hd hd2
      simp only[T.set_comm f.tmps hne2]
    obtain⟨f',k1,M,k2,k3⟩:=jX (post:=post) (S2:=S2) (x:=x) r (Hs f o.dst a) (⟨i,o,f.tmps,a⟩ :: L) (⟨i,o,f.tmps.set da (some x),a⟩ :: L2) R (fun k hk=>hp k (Ja8 _ hk)) h hne
    refine⟨f',k1,M ++ [⟨i,o,f.tmps.set da (some x),a⟩],fun l hl=>?_,?_⟩
    ·rcases Jc7.1 hl with hl |hl
     ·exact k2 l hl
     ·rw[Jb5.1 hl];exact hpu
    ·have e:Gx E callK n ops ms fb (i :: (r ++ post)) ⟨f.tmps.set da (some x),f.dfr⟩ S2 L2=Gx E callK n ops ms fb (r ++ post) (Hs ⟨f.tmps.set da (some x),f.dfr⟩ o.dst a) S2 (⟨i,o,f.tmps.set da (some x),a⟩ :: L2):=by
      rw[Gx,ho];simp only;rw[if_pos hl,hv2];simp only;rw[if_pos hok]
     rw[List.cons_append,e,hput,k3];simp
   ·exact absurd h.symm hne
  ·exact absurd h.symm hne
theorem drawn_pre{base:Nat}{w0:World}{Q:Exit→Act→World→Prop}(hE:E.Ok)(hC:Nm E base w0 callK)(hm:Mh ms ops.toList 0=true){fb:Fr}{γ0:Gh}{S0:St}{ws:World}(hlo:base≤ws.heap.size)
  {a:Nat} {oa:Oper} {da e:Nat} {i:TypeInfo} {z:Value} (hoa:ops[a]? = some oa) (hop:oa.op=.alloc e) (hgd:oa.guard=none) (hda:oa.dst=some da) (hdn0:da<n) (hi:E.P.info? e=some i) (hz:i.zero=some z)
  {pre post:List Nat} (hap:a ∉ pre) (hpost:∀p∈post,(ms.getD p 0).testBit a=true∧∀x∈pre,(ms.getD p 0).testBit x=true∨Sf ops da x) (hcov:∀k,k<ops.size→k∈pre∨k=a∨k∈post) (hin:∀p∈pre,p<ops.size) (hdp:∀p∈pre,∀o,ops[p]? = some o→o.dst≠some da)
  {R:O} (hne:R≠.fail) (hpan:∀x S',R=.out (.pan x) fb S'→∀γ' act' w',SR base w0 γ' S' w'→Ext γ0 S0 ws γ' S' w'→AR γ' w' n fb act'→∀v,VR γ' w' x v→Q (.panic [{ v,recovered:=false }]) act' w')
  (hcont:∀(fuel:Nat) (listed:Array Bool) (f:Fr) (S:St) (γ:Gh) (w:World) (act:Act) (b:Nat) (rem:List Nat),Gx E callK n ops ms fb rem f S []=R→(∀k∈rem,Sf ops da k∧k∈pre)→rem.Nodup→Dx ops ms rem=true→listed.size=ops.size→(∀k,k<ops.size→(k∈rem ++ post↔listed.getD k true=false))→rem.length+post.length≤fuel→Dn ops listed→SR base w0 γ S w→Ext γ0 S0 ws γ S w→AR γ w n f act→GR γ w E.G→FbOk ops fb f→Pend γ S w act ws.heap.size da e z.cells b→wpAny E.P .any ops Q fuel listed act w) :
  ∀(fuel:Nat) (rem:List Nat) (st:Option Nat) (listed:Array Bool) (f:Fr) (S:St) (γ:Gh) (w:World) (act:Act),
  listed.size=ops.size→(∀k,k∈rem↔k∈pre∧listed.getD k true=false)→rem.Nodup→(∀p∈post,p<ops.size→listed.getD p true=false)→(listed.getD a true=true↔st.isSome=true)→rem.length+(if st.isSome then 0 else 1)+post.length≤fuel→Dn ops listed→Dx ops ms rem=true →
  SR base w0 γ S w→Ext γ0 S0 ws γ S w→AR γ w n f act→GR γ w E.G→FbOk ops fb f→f.tmps.get da=none→(∀b,st=some b→Pend γ S w act ws.heap.size da e z.cells b)→Gx E callK n ops ms fb rem f S []=R→wpAny E.P .any ops Q fuel listed act w:=by
 have hal:a<ops.size:=(Jb9.1 hoa).1;intro fuel
 induction fuel with
 |zero =>
  intro rem st listed f S γ w act hsz hrem hnd hpl hst hlen hdn hp hS hx ha hg hfb hfd hpd hR;have hr0:rem=[]:=List.eq_nil_of_length_eq_zero (by omega)
  have hs0:st.isSome=true:=by
   cases hq:st.isSome with
   |true=>rfl
   |false=>rw[hq]at hlen;simp at hlen
  obtain⟨b,rfl⟩:=Jc0.1 hs0;subst hr0;refine hcont 0 listed f S γ w act b [] hR (fun _ h=>absurd h Ja7) List.nodup_nil rfl hsz (fun k hk=>⟨fun h=>hpl k (by simpa using h) hk,fun h=>?_⟩) (by simpa using hlen) hdn hS hx ha hg hfb (hpd b rfl)
  rcases hcov k hk with h1 |h1 |h1
  ·exact absurd ((hrem k).2 ⟨h1,h⟩) (by simp)
  ·subst h1;rw[hst.2 rfl]at h;cases h
  ·simpa using h1
 |succ fuel ih =>
  intro rem st listed f S γ w act hsz hrem hnd hpl hst hlen hdn hp hS hx ha hg hfb hfd hpd hR
  by_cases hdone:(∀k∈rem,Sf ops da k)∧st.isSome=true
  ·obtain⟨hr0,hs0⟩:=hdone
   obtain⟨b,rfl⟩:=Jc0.1 hs0;refine hcont (fuel+1) listed f S γ w act b rem hR (fun k hk=>⟨hr0 k hk,((hrem k).1 hk).1⟩) hnd hp hsz (fun k hk=>⟨fun h=>?_,fun h=>?_⟩) (by simpa using hlen) hdn hS hx ha hg hfb (hpd b rfl)
   ·rcases Jc7.1 h with h |h
    ·exact((hrem k).1 h).2
    ·exact hpl k h hk
   ·rw[Jc7]
    rcases hcov k hk with h1 |h1 |h1
    ·exact .inl ((hrem k).2 ⟨h1,h⟩)
    ·subst h1;rw[hst.2 rfl]at h;cases h
    ·exact .inr h1
  have hsome:∃k,((k∈pre∧¬ Sf ops da k)∨k=a)∧k<ops.size∧listed.getD k true=false:=by
   cases hs:st.isSome with
   |false =>
    refine⟨a,.inr rfl,hal,?_⟩
    cases hq:listed.getD a true with
    |false=>rfl
    |true=>rw[hst.1 hq]at hs;cases hs
   |true =>
    have:¬ ∀k∈rem,Sf ops da k:=fun h=>hdone ⟨h,hs⟩
    have:∃k,k∈rem∧¬ Sf ops da k:=Classical.byContradiction fun hc=>this fun k hk=>Classical.byContradiction fun hn=>hc ⟨k,hk,hn⟩
    obtain⟨k,hk,hnp⟩:=this;have h2:=(hrem k).1 hk;exact⟨k,.inl ⟨h2.1,hnp⟩,hin k h2.1,h2.2⟩
  obtain⟨k0,hk0,hk1,hk2⟩:=hsome;refine⟨fun hready=>?_,fun j hj=>?_⟩
  ·rw[zW hm hsz hready k0 hk1]at hk2;cases hk2
  ·obtain⟨hun,o,ho,hpre⟩:=mem_ready.1 hj
   have hjl:j<ops.size:=(Jb9.1 ho).1
   have hjp:j ∉ post:=fun h=>by
    obtain⟨p1,p2⟩:=hpost j h
    have hb:(ms.getD j 0).testBit k0=true:=by
     rcases hk0 with⟨h0,h1⟩ |h0
     ·exact(p2 k0 h0).resolve_right h1
     ·rw[h0];exact p1
    have:=Sd hm hdn j o ho hpre hb;rw[Nd (by omega) true false,this]at hk2;cases hk2
   have lists:∀k,(listed.setIfInBounds j true).getD k true=if j=k then true else listed.getD k true:=fun k=>Q4 _ _ _ _ (by omega)
   have dn':Dn ops (listed.setIfInBounds j true):=fun k ok hok hlk e0 he0 hbd=>by
    rw[Q4 _ _ _ _ (by omega)]at hlk ⊢
    split
    ·rfl
    ·split at hlk
     ·rename_i hij
      subst hij;rw[ho]at hok;injection hok with hok;subst hok
      exact hpre e0 he0 hbd
     ·exact hdn k ok hok hlk e0 he0 hbd
   rcases hcov j hjl with hjpre |hja |h
   ·
    have hjr:j∈rem:=(hrem j).2 ⟨hjpre,hun⟩;have hja:j≠a:=fun e=>hap (e ▸ hjpre)
    have hfree:∀k∈rem,k≠j→(ms.getD j 0).testBit k=false:=fun k hk _=>by
     cases hb:(ms.getD j 0).testBit k with
     |false=>rfl
     |true =>
      have h1:=Sd hm hdn j o ho hpre hb;have h2:=((hrem k).1 hk);rw[Nd (by rw[hsz];exact hin k h2.1) true false,h1]at h2
      cases h2.2
    have hb:=zS ho rem f S [] R hjr hfree hp hR hne
    have sub:∀(l:List Nat),Dx ops ms l=true→Dx ops ms (l.erase j)=true:=by
     intro l
     induction l with
     |nil=>intro h;exact h
     |cons x r ihl =>
      intro h;unfold Dx at h;rw[Ja2]at h
      by_cases hx:x=j
      ·subst hx;rw[List.erase_cons_head];exact h.2
      ·rw[List.erase_cons_tail (by simpa using hx)]
       unfold Dx;rw[Ja2];exact⟨Jb6.2 fun y hy=>Jb6.1 h.1 y (List.mem_of_mem_erase hy),ihl h.2⟩
    have hdo:o.dst≠some da:=hdp j hjpre o ho
    have next:∀(f':Fr) (S':St) (γ':Gh) (act':Act) (w':World),SR base w0 γ' S' w'→Ext γ S w γ' S' w'→AR γ' w' n f' act'→FbOk ops fb f'→f'.tmps.get da=none→act'.tmps[da]? = act.tmps[da]? → Gx E callK n ops ms fb (rem.erase j) f' S' []=R →
      wpAny E.P .any ops Q fuel (listed.setIfInBounds j true) act' w':=fun f' S' γ' act' w' k1 k2 k3 k4 k5 k6 k7=>by
     refine ih (rem.erase j) st (listed.setIfInBounds j true) f' S' γ' w' act' (by simpa using hsz) (fun k=>?_) (hnd.erase j) (fun p hp' hlt=>?_) ?_ (by rw[List.length_erase_of_mem hjr];have:=List.length_pos_of_mem hjr;omega) dn' (sub rem hp) k1 (hx.trans k2) k3 (hg.mono k2.ev) k4 k5 (fun b hb'=>(hpd b hb').step k2 k6) k7
     ·rw[hnd.mem_erase_iff,hrem k,lists]
      by_cases hjk:j=k
      ·subst hjk;simp
      ·rw[if_neg hjk];exact⟨fun h=>h.2,fun h=>⟨fun e=>hjk e.symm,h⟩⟩
     ·rw[lists,if_neg (fun e=>by subst e;exact hjp hp')];exact hpl p hp' hlt
     ·rw[lists,if_neg hja];exact hst
    have hst2:=Qq (E:=E) (callK:=callK) (n:=n) (ops:=ops) o f S
    have dset:∀x,(Hs f o.dst x).tmps.get da=none:=fun x=>by
     unfold Hs
     split
     ·exact hfd
     ·rename_i d hd
      show(f.tmps.set d (some x)).get da=none
      rw[T.get_set,if_neg (fun e=>by subst e;exact hdo hd)];exact hfd
    have key:L8 base w0 n γ S w (fun x a' w'=>match x with |.normal=>(a'.tmps[da]? = act.tmps[da]? → wpAny E.P .any ops Q fuel (listed.setIfInBounds j true) a' w') |x=>Q x a' w') (Fj E callK n ops o f S):=by
     rw[hst2];rcases hb with⟨hl,x,hv,hd,hrun⟩ | ⟨hl,⟨x,S',hv,hd,hall,hrun⟩ | ⟨x,S',hv,hRp⟩⟩
     ·rw[O8 hl,hv]
      simp only;rw[Ov,if_pos hd];exact fun γ' act' w' k1 k2 k3 k6=>next _ _ γ' act' w' k1 k2 k3 (hfb.put ho x) (dset x) k6 hrun
     ·rw[hv]
      simp only;rw[Ov,if_pos hd];exact fun γ' act' w' k1 k2 k3 k6=>next _ _ γ' act' w' k1 k2 k3 (hfb.put ho x) (dset x) k6 hrun
     ·rw[hv]
      intro γ' act' w' k1 k2 k3 v hvr;exact hpan x S' hRp γ' act' w' k1 (hx.trans k2) (hfb.ar k3) v hvr
    have:=P1 (K:=fun a' w'=>a'.tmps[da]? = act.tmps[da]? → wpAny E.P .any ops Q fuel (listed.setIfInBounds j true) a' w') hE hC hS ha hg key
    unfold wpOp;rw[ho];simp only
    split
    ·rename_i hw;rw[if_pos hw]at this;exact .inl (wp_keep hdo this)
    ·rename_i hw;rw[if_neg hw]at this;exact this (put_keep hdo)
   ·
    subst hja;rw[hoa]at ho;injection ho with ho;subst ho
    have hs0:st=none:=by
     cases hq:st with
     |none=>rfl
     |some b=>rw[hq]at hst;rw[hst.2 rfl]at hun;cases hun
    subst hs0;unfold wpOp;rw[hoa];simp only;have hw:Region.wanted oa (yielded ops act.tmps)=true:=by unfold Region.wanted;rw[hgd]
    rw[if_pos hw];refine .inl ?_;unfold Oper.wp;rw[alloc_run hop hi hz w,Oper.upon_value];obtain⟨a1,a2⟩:=hS.allocIm z.cells e 0 (Nat.zero_le _);have hev:=Li γ w (.cells z.cells e);have hex:=Ext.alloc (γ:=γ) (S:=S) (w:=w) (.cells z.cells e)
    have hS2:SR base w0 γ S (w.alloc (.cells z.cells e)):=by
     refine⟨a1.below,a1.hbase,fun b o hi=>a1.imc b o (.inl hi),a1.fresh,a1.pos,a1.inb,fun id c e=>?_,a1.inj⟩
     obtain⟨b,s,l1,l2,l3⟩:=hS.live id c e;exact⟨b,s,l1,l2,l3.keep hev (Below.heap_alloc w _ _ (hS.inb id b s l1)) (fun _ h=>h)⟩
    have hput:(act.put oa.dst (.pointer (some ⟨w.heap.size,0,none⟩))).tmps=act.tmps.setIfInBounds da (.pointer (some ⟨w.heap.size,0,none⟩)):=by rw[hda];rfl
    have hdf:(act.put oa.dst (.pointer (some ⟨w.heap.size,0,none⟩))).defers=act.defers:=by rw[hda];rfl
    refine ih rem (some w.heap.size) (listed.setIfInBounds j true) f S γ _ _ (by simpa using hsz) (fun k=>?_) hnd (fun p hp' hlt=>?_) ?_ (by simp at hlen ⊢;omega) dn' hp hS2 (hx.trans hex) ?_ (hg.mono hev) hfb hfd ?_ hR
    ·rw[hrem k,lists]
     by_cases hjk:j=k
     ·subst hjk;simp[hap]
     ·rw[if_neg hjk]
    ·rw[lists,if_neg (fun e=>by subst e;exact hjp hp')];exact hpl p hp' hlt
    ·rw[lists,if_pos rfl];simp
    ·refine⟨fun t x ht=>?_,by rw[hput];simpa using ha.size,by rw[hdf];exact ha.dfr.mono hev⟩
     obtain⟨q1,q2⟩:=ha.tmps t x ht;have hne2:t≠da:=fun e=>by subst e;rw[hfd]at ht;cases ht
     rw[hput];refine⟨by simpa using q1,?_⟩
     have e1:(act.tmps.setIfInBounds da (.pointer (some ⟨w.heap.size,0,none⟩))).getD t undef=act.tmps.getD t undef:=by
      rw[Jd5,Array.getElem?_setIfInBounds_ne (fun e=>hne2 e.symm),← Jd5]
     rw[e1];exact q2.mono hev
    ·intro b hb
     injection hb with hb;subst hb
     refine⟨?_,heap_alloc_new w _,hx.size,by simp,fun id c s hm hl=>?_,fun o ho=>?_⟩
     ·rw[hput];exact Array.getElem?_setIfInBounds_self_of_lt (by rw[ha.size];exact hdn0)
     ·have:=hS.inb id _ _ hl;omega
     ·have:=Y2 hS ho;omega
   ·exact absurd h hjp
end
end Go.Ax
noncomputable section
namespace Go.Ax
open Go.RowKit
def isFl(P:Program)(o:Oper):Option Tmp:=match o.op,o.guard,o.dst with
 |.alloc e,none,some d=>if(Ga P ⟨0,.leaf⟩ e).isSome then some d else none
 |_,_,_=>none
structure FlP where
 a:Nat
 d:Tmp
 pre:List Nat
 post:List Nat
def memB(l:List Nat)(x:Nat):Bool:=l.any fun y=>Nat.beq y x
theorem tM{l:List Nat}{x:Nat}:memB l x=true↔x∈l:=by
 unfold memB;rw[List.any_eq_true];exact⟨fun⟨y,hy,hb⟩=>(Jc1 hb) ▸ hy,fun h=>⟨x,h,Nat.beq_refl x⟩⟩
def dstNe(ops:Array Oper)(d:Tmp)(p:Nat):Bool:=match ops[p]? with
 |some o=>!(o.dst == some d)
 |none=>true
def xO(ops:Array Oper)(d:Nat)(k:Nat):Bool:=match ops[k]? with
 |some o=>Gc o && Lg o && !(o.dst == some d) && !(o.looksAt ops).contains d
 |none=>false
theorem sQ{ops:Array Oper}{d k:Nat}(h:xO ops d k=true):Sf ops d k:=by
 unfold xO at h
 split at h
 ·rename_i o ho
  simp only[Ja2,Bool.not_eq_true']at h;obtain⟨⟨⟨h1,h2⟩,h3⟩,h4⟩:=h;refine⟨o,ho,h1,h2,fun e=>by rw[e]at h3;simp at h3,fun e=>?_⟩
  rw[List.contains_eq_mem,decide_eq_false_iff_not]at h4;exact h4 e
 ·cases h
theorem W0{ops:Array Oper}{ms:List Nat}:∀{l m:List Nat},Dx ops ms (l ++ m)=true→Dx ops ms l=true
 | [],m,h=>rfl
 |j :: r,m,h=>by
  have h:((r ++ m).all (fun i=>okP ops ms j i) && Dx ops ms (r ++ m))=true:=h
  rw[Ja2,List.all_append,Ja2]at h
  show(r.all (fun i=>okP ops ms j i) && Dx ops ms r)=true
  rw[Ja2];exact⟨h.1.1,W0 h.2⟩
theorem tC{ops:Array Oper}{ms:List Nat}{post:List Nat}:∀{pre rem:List Nat},Dx ops ms (pre ++ post)=true→Dx ops ms rem=true→(∀k∈rem,k∈pre)→Dx ops ms (rem ++ post)=true:=by
 intro pre rem h hr hs
 have hpp:Dx ops ms post=true∧∀k∈pre,∀i∈post,okP ops ms k i=true:=by
  clear hr hs
  induction pre with
  |nil=>exact⟨h,fun k hk=>absurd hk Ja7⟩
  |cons j r ih =>
   have h:((r ++ post).all (fun i=>okP ops ms j i) && Dx ops ms (r ++ post))=true:=h
   rw[Ja2]at h;obtain⟨k1,k2⟩:=ih h.2;refine⟨k1,fun k hk i hi=>?_⟩
   rcases Jb8.1 hk with rfl |hk
   ·exact Jb6.1 h.1 i (List.mem_append_right _ hi)
   ·exact k2 k hk i hi
 induction rem with
 |nil=>exact hpp.1
 |cons j r ih =>
  have hr:(r.all (fun i=>okP ops ms j i) && Dx ops ms r)=true:=hr
  rw[Ja2]at hr
  show((r ++ post).all (fun i=>okP ops ms j i) && Dx ops ms (r ++ post))=true
  rw[Ja2,List.all_append,Ja2];exact⟨⟨hr.1,Jb6.2 fun i hi=>hpp.2 j (hs j (Jb1 ..)) i hi⟩,ih hr.2 fun k hk=>hs k (Ja8 _ hk)⟩
def flOk(P:Program)(ops:Array Oper)(ms:List Nat)(x:FlP):Bool :=
 Mh ms ops.toList 0 && Yu (x.pre ++ x.post) && !memB (x.pre ++ x.post) x.a && (x.pre ++ x.post).all (fun p=>decide (p<ops.size)) && (List.range ops.size).all (fun k=>Nat.beq k x.a || memB (x.pre ++ x.post) k) &&
 Dx ops ms (x.pre ++ x.post) && x.post.all (fun p=>(ms.getD p 0).testBit x.a && x.pre.all fun k=>(ms.getD p 0).testBit k || xO ops x.d k) && x.pre.all (dstNe ops x.d) && (Lm ops ms x.pre []).isSome && (Lm ops ms x.post []).isSome &&
 (match ops[x.a]? with |some o=>isFl P o == some x.d |none=>false)
def flMake(P:Program)(ops:Array Oper)(ms:List Nat)(a:Nat)(d:Tmp):FlP :=
 let all:=List.range ops.size
 let pre0:=all.filter fun k=>!(k == a) && !(ms.getD k 0).testBit a
 let post0:=all.filter fun k=>(ms.getD k 0).testBit a
 let pre:=Kp ops ms pre0.length pre0 0
 ⟨a,d,pre,Kp ops ms post0.length post0 (pre.foldl (fun m k=>m ||| 2 ^ k) (2 ^ a))⟩
def lL(P:Program)(ops:Array Oper)(ms:List Nat):List Nat→Option FlP
 | []=>none
 |a :: r=>match ops[a]? with
  |some o=>match isFl P o with
   |some d=>if flOk P ops ms (flMake P ops ms a d)then some (flMake P ops ms a d)else lL P ops ms r
   |none=>lL P ops ms r
  |none=>lL P ops ms r
def Ol(P:Program)(ops:Array Oper):Option FlP :=
 let ms:=bm ops.toList []
 if Rp ops ms (Kp ops ms ops.size (List.range ops.size) 0)then none else lL P ops ms (List.range ops.size)
theorem Xl{P:Program}{ops:Array Oper}{ms:List Nat}:∀{l:List Nat} {x:FlP},lL P ops ms l=some x→flOk P ops ms x=true
 | [],x,h=>by cases h
 |a :: r,x,h=>by
  unfold lL at h
  split at h
  ·split at h
   ·split at h
    ·rename_i hk
     injection h with h;subst h;exact hk
    ·exact Xl h
   ·exact Xl h
  ·exact Xl h
theorem flFind_ok{P:Program}{ops:Array Oper}{x:FlP}(h:Ol P ops=some x):flOk P ops (bm ops.toList []) x=true:=by
 unfold Ol at h;simp only at h
 split at h
 ·cases h
 ·exact Xl h
def Re(ops:Array Oper)(x:FlP):Option (List RS):=match Lm ops (bm ops.toList []) x.pre [],ops[x.a]?,Lm ops (bm ops.toList []) x.post []with
 |some p,some o,some q=>some (p ++ .op o :: q)
 |_,_,_=>none
def R9(E:Env)(x:FlP):Lj:=fun ck n ops f S=>match Re ops x with
 |some rs=>if x.d<n then Tm ⟨Gf ops.toList f.tmps,f.dfr⟩ (Fm E ck n ops rs ⟨f.tmps.set x.d none,f.dfr⟩ S)else .fail
 |none=>.fail
theorem isFl_spec{P:Program}{o:Oper}{d:Tmp}(h:isFl P o=some d):∃e i z av,o.op=.alloc e∧o.guard=none∧o.dst=some d∧P.info? e=some i∧i.zero=some z∧Bo 8 z=some av∧av.noTup=true∧∀S,Ga P S e=some (.ptr S.next 0,S.newBox av.cells):=by
 unfold isFl at h
 split at h
 ·rename_i e d' ho hg hd
  split at h
  ·rename_i hs
   injection h with h;subst h
   unfold Ga at hs
   cases hi:P.info? e with
   |none=>rw[hi]at hs;cases hs
   |some i =>
    rw[hi]at hs
    cases hz:i.zero with
    |none=>simp only[hz]at hs;cases hs
    |some z =>
     simp only[hz]at hs
     cases ha:Bo 8 z with
     |none=>simp only[ha]at hs;cases hs
     |some av =>
      simp only[ha]at hs
      split at hs
      ·rename_i hn
       exact⟨e,i,z,av,ho,hg,hd,hi,hz,ha,hn,fun S=>by simp only[Ga,hi,hz,ha,if_pos hn]⟩
      ·cases hs
  ·cases h
 ·cases h
theorem zI{E:Env}(hE:E.Ok)(hmix:E.P.follows .mixedOrders=true){x:FlP}{ops:Array Oper}(hfl:flOk E.P ops (bm ops.toList []) x=true)(base:Nat)(w0:World)(Q:Exit→Act→World→Prop)(callK:Dk)(hC:Nm E base w0 callK)(n id:Nat)(γ:Gh)(S:St)(w:World)(f:Fr)(act:Act)(hS:SR base w0 γ S w)(ha:AR γ w n f act)(hg:GR γ w E.G)
  (hH:L8 base w0 n γ S w Q (R9 E x callK n ops f S)):(Code.region id ops true).wp E.P Q act w:=by
 unfold R9 at hH
 split at hH
 case h_2=>exact hH.elim
 rename_i rs hrs
 split at hH
 case isFalse=>exact hH.elim
 rename_i hdn;unfold Re at hrs;generalize bm ops.toList []=ms at hfl hrs;unfold flOk at hfl;simp only[Ja2]at hfl;obtain⟨⟨⟨⟨⟨⟨⟨⟨⟨⟨s1,s2⟩,s3⟩,s4⟩,s5⟩,s6⟩,s8⟩,s9⟩,s10⟩,s11⟩,s12⟩:=hfl;obtain⟨a,da,pre,post⟩:=x;simp only at hH hdn hrs s2 s3 s4 s5 s6 s8 s9 s10 s11 s12;have hnd:=K3 s2;have hna:a ∉ pre ++ post:=fun h=>by rw[tM.2 h]at s3;cases s3
 have hlt:∀p∈pre ++ post,p<ops.size:=fun p hp=>by have:=Jb6.1 s4 p hp;simpa using this
 have hcov:∀k,k<ops.size→k∈pre∨k=a∨k∈post:=fun k hk=>by
  have:=Jb6.1 s5 k (List.mem_range.2 hk);rw[Bool.or_eq_true]at this;rcases this with h |h
  ·exact .inr (.inl (Jc1 h))
  ·rcases Jc7.1 (tM.1 h)with h |h
   ·exact .inl h
   ·exact .inr (.inr h)
 have hpost:∀p∈post,(ms.getD p 0).testBit a=true∧∀x∈pre,(ms.getD p 0).testBit x=true∨Sf ops da x:=fun p hp=>by
  have:=Jb6.1 s8 p hp;rw[Ja2]at this;refine⟨this.1,fun x hx=>?_⟩
  have h2:=Jb6.1 this.2 x hx;rw[Bool.or_eq_true]at h2;exact h2.imp (fun h=>h) sQ
 cases hoa:ops[a]? with
 |none=>rw[hoa]at s12;cases s12
 |some oa =>
 rw[hoa]at s12 hrs
 split at hrs
 case h_2=>cases hrs
 rename_i rp oa' rq hrp hoa' hrq;injection hoa' with hoa';subst hoa'
 injection hrs with hrs;subst hrs
 have hfl2:isFl E.P oa=some da:=by simpa using s12
 obtain⟨e,i,z,av,hop,hgd,hda,hi,hz,hav,hnt,hal⟩:=isFl_spec hfl2
 have hdp:∀p∈pre,∀o,ops[p]? = some o→o.dst≠some da:=fun p hp o ho hd=>by
  have:=Jb6.1 s9 p hp;unfold dstNe at this;rw[ho]at this;simp[hd]at this
 have hal2:a<ops.size:=(Jb9.1 hoa).1;obtain⟨d1,d2⟩:=hS.drew;have hx0:Ext γ S w γ S w.drew:=Ext.of_same (w:=w) (w':=w.drew) rfl d2;have hlist:∀(i:Nat) (b:Bool),i<ops.size→(Array.replicate ops.size false).getD i b=false:=fun i b h=>by simp[h]
 refine wp_region_any hmix ?_;have hH2:=hH.later hx0;generalize hfb:(⟨Gf ops.toList f.tmps,f.dfr⟩:Fr)=fb at hH2;generalize hf1:(⟨f.tmps.set da none,f.dfr⟩:Fr)=f1 at hH2
 have hfbok:FbOk ops fb f1:=by
  subst hfb;subst hf1;refine⟨fun t y h=>?_,rfl,fun i o d ho hd=>?_⟩
  ·obtain⟨h1,h2⟩:=Lt _ _ t y h
   show(f.tmps.set da none).get t=some y
   rw[T.get_set,if_neg (fun e=>by subst e;exact h2 oa (by have:=Array.mem_of_getElem? hoa;simpa using this) hda)]
   exact h1
  ·cases hq:(Gf ops.toList f.tmps).get d with
   |none=>rfl
   |some y =>
    have:=(Lt _ _ d y hq).2 o (by have:=Array.mem_of_getElem? ho;simpa using this)
    exact absurd hd this
 have ha1:AR γ w.drew n f1 act:=by
  subst hf1;have:=ha.mono d2;refine⟨fun t y h=>?_,this.size,this.dfr⟩
  have h:(f.tmps.set da none).get t=some y:=h;rw[T.get_set]at h
  split at h
  ·cases h
  ·exact this.tmps t y h
 have hfd:f1.tmps.get da=none:=by
  subst hf1
  show(f.tmps.set da none).get da=none
  rw[T.get_set,if_pos rfl]
 rw[Rr]at hH2
 have hR:Gx E callK n ops ms fb pre f1 S []=Tm fb (Fm E callK n ops rp f1 S):=by
  rcases Jb (E:=E) (ck:=callK) (n:=n) (fb:=fb) pre rp f1 S [] hrp (fun _ h=>absurd h Ja7)with h |h
  ·rw[h]at hH2;exact hH2.elim
  ·exact h
 refine drawn_pre (Q:=Q) hE hC s1 (fb:=fb) (γ0:=γ) (S0:=S) (ws:=w.drew) d1.hbase hoa hop hgd hda hdn hi hz (pre:=pre) (post:=post) (fun h=>hna (List.mem_append_left _ h)) hpost hcov (fun p hp=>hlt p (List.mem_append_left _ hp)) hdp (R:=Tm fb (Fm E callK n ops rp f1 S)) ?_ ?_ ?_
  ops.size pre none (Array.replicate ops.size false) f1 S γ w.drew act (by simp) (fun k=>⟨fun h=>⟨h,hlist k true (hlt k (List.mem_append_left _ h))⟩,fun h=>h.1⟩) (List.nodup_append.1 hnd).1 (fun p hp hl=>hlist p true hl) ?_ ?_ (fun i o ho hl=>?_) (W0 s6) d1 (.refl _ _ _) ha1 (hg.mono d2) hfbok hfd (fun b h=>by cases h) hR
 ·
  intro hf
  cases hr:Fm E callK n ops rp f1 S with
  |fail=>rw[hr]at hH2;exact hH2
  |out e f' S'=>rw[hr]at hf;cases e <;> cases hf
 ·
  intro y S' hy γ' act' w' k1 k2 k3 v hvr
  cases hr:Fm E callK n ops rp f1 S with
  |fail=>rw[hr]at hH2;exact hH2.elim
  |out e f' S2 =>
   rw[hr]at hy hH2
   cases e with
   |pan y2 =>
    have hy:O.out (.pan y2) fb S2=.out (.pan y) fb S':=hy;injection hy with q1 q2 q3
    injection q1 with q1
    subst q1;subst q3;exact hH2 γ' act' w' k1 k2 k3 v hvr
   |normal=>cases hy
   |exit i=>cases hy
   |ret=>cases hy
 ·
  intro fuel listed f2 S2 γ2 w2 act2 b rem hR2 hrp2 hrn hrpair hsz hpl hlen hdn2 hS2 hx2 ha2 hg2 hfb2 hpd
  have hne2:Tm fb (Fm E callK n ops rp f1 S)≠.fail:=by
   intro hf
   cases hr:Fm E callK n ops rp f1 S with
   |fail=>rw[hr]at hH2;exact hH2
   |out e f' S'=>rw[hr]at hf;cases e <;> cases hf
  obtain⟨f',hR3,M,hM,hrun⟩:=jX (E:=E) (callK:=callK) (n:=n) (ops:=ops) (ms:=ms) (fb:=fb) (da:=da) (x:=.ptr S2.next 0) (S:=S2) (S2:=S2.newBox av.cells) (post:=post) rem f2 [] [] _ (fun k hk=>(hrp2 k hk).1) hR2 hne2
  cases hr:Fm E callK n ops rp f1 S with
  |fail=>rw[hr]at hR3;cases hR3
  |out e2 f3 S' =>
   rw[hr]at hR3 hH2
   cases e2 with
   |pan y=>cases hR3
   |exit i=>cases hR3
   |ret=>cases hR3
   |normal =>
    have hR3:O.out .normal f3 S' = .out .normal f' S2:=hR3;injection hR3 with _ q2 q3
    subst q2;subst q3;simp only at hH2
    have hstep:Fj E callK n ops oa f3 S' = .out .normal ⟨f3.tmps.set da (some (.ptr S'.next 0)),f3.dfr⟩ (S'.newBox av.cells):=by
     unfold Fj Bc;rw[hgd];simp only[Bg,hop,hal,ofOptS,hda,M9,if_pos hdn]
    have est:Fm E callK n ops (.op oa :: rq) f3 S' = Fm E callK n ops rq ⟨f3.tmps.set da (some (.ptr S'.next 0)),f3.dfr⟩ (S'.newBox av.cells):=by
     have e:Fm E callK n ops (.op oa :: rq) f3 S' = match Fj E callK n ops oa f3 S' with
      |.out .normal f' S'=>Fm E callK n ops rq f' S'
      |r=>r:=rfl
     rw[e,hstep]
    rw[est]at hH2;obtain⟨γ3,k1,k2,k3,k4⟩:=hpd.named (n:=n) hS2 hx2 d1.hbase hav hnt ha2 hdn
    have hpost2:Gx E callK n ops ms fb post ⟨f3.tmps.set da (some (.ptr S'.next 0)),f3.dfr⟩ (S'.newBox av.cells) []=Tm fb (Fm E callK n ops rq ⟨f3.tmps.set da (some (.ptr S'.next 0)),f3.dfr⟩ (S'.newBox av.cells)):=by
     rcases Jb (E:=E) (ck:=callK) (n:=n) (fb:=fb) post rq ⟨f3.tmps.set da (some (.ptr S'.next 0)),f3.dfr⟩ (S'.newBox av.cells) [] hrq (fun _ h=>absurd h Ja7)with h |h
     ·rw[h]at hH2;exact hH2.elim
     ·exact h
    have hfb3:FbOk ops fb ⟨f2.tmps.set da (some (.ptr S'.next 0)),f2.dfr⟩:=by
     have:=hfb2.put hoa (.ptr S'.next 0);unfold Hs at this;rw[hda]at this;exact this
    have htail:=Za (E:=E) (callK:=callK) (n:=n) (ops:=ops) (ms:=ms) (fb:=fb) M hM post ⟨f3.tmps.set da (some (.ptr S'.next 0)),f3.dfr⟩ (S'.newBox av.cells) []
    have hrp3:∀k∈rem ++ post,k<ops.size:=fun k hk=>by
     rcases Jc7.1 hk with h |h
     ·exact hlt k (List.mem_append_left _ (hrp2 k h).2)
     ·exact hlt k (List.mem_append_right _ h)
    refine Uv hE hC s1 (fb:=fb) fuel (rem ++ post) listed _ (S'.newBox av.cells) γ3 w2 act2 hsz (fun k=>⟨fun h=>⟨hrp3 k h,(hpl k (hrp3 k h)).1 h⟩,fun h=>(hpl k h.1).2 h.2⟩) ?_ (by simpa using hlen) hdn2 (tC s6 hrpair fun k hk=>(hrp2 k hk).2) k1 k4 (hg2.mono k3) hfb3 ?_
    ·have hn2:=List.nodup_append.1 hnd
     exact List.nodup_append.2 ⟨hrn,hn2.2.1,fun x hx y hy e=>hn2.2.2 x (hrp2 x hx).2 y hy e⟩
    ·rw[hrun,List.append_nil]
     rw[List.nil_append]at htail;rw[htail,hpost2];exact hH2.later k2
 ·show((Array.replicate ops.size false).getD a true=true↔(none:Option Nat).isSome=true)
  rw[hlist a true hal2];simp
 ·show pre.length+1+post.length≤ops.size
  have hsub:(a :: (pre ++ post)) ⊆ List.range ops.size:=fun k hk=>by
   rcases Jb8.1 hk with rfl |hk
   ·exact List.mem_range.2 hal2
   ·exact List.mem_range.2 (hlt k hk)
  have:=(List.nodup_cons.2 ⟨hna,hnd⟩).length_le_of_subset hsub;simp at this;omega
 ·have hlt2:=(Jb9.1 ho).1
  rw[hlist i false hlt2]at hl;cases hl
end Go.Ax
noncomputable section
namespace Go.Ax
open Go.RowKit
open Classical
section
variable {E:Env} {callK:Dk} {n:Nat} {ops:Array Oper} {ms:List Nat}
def befOk(ops:Array Oper)(ms:List Nat)(i:Nat):List Nat→Prop
 | []=>True
 |j :: r=>j=i∨(okP ops ms j i=true∧befOk ops ms i r)
theorem gQ{i:Nat}:∀{l r:List Nat},Dx ops ms (l ++ [i])=true→befOk ops ms i (l ++ i :: r)
 | [],r,h=>.inl rfl
 |j :: l,r,h=>by
  rw[List.cons_append]at h;unfold Dx at h;rw[Ja2]at h;exact .inr ⟨Jb6.1 h.1 i (List.mem_append_right _ (Jb5.2 rfl)),gQ h.2⟩
theorem Zi{i:Nat}:∀{l r:List Nat},i∈l→Dx ops ms l=true→befOk ops ms i (l ++ r)
 |j :: l,r,hi,h=>by
  unfold Dx at h;rw[Ja2]at h
  by_cases hj:j=i
  ·exact .inl hj
  ·have hil:i∈l:=(Jb8.1 hi).resolve_left (fun e=>hj e.symm)
   exact .inr ⟨Jb6.1 h.1 i hil,Zi hil h.2⟩
theorem Xx{fb:Fr}{i:Nat}{o:Oper}(ho:ops[i]? = some o):∀(rem:List Nat) (f:Fr) (S:St) (L:List Look) (R:O),i∈rem→(∀j∈rem,j≠i→(ms.getD i 0).testBit j=false)→befOk ops ms i rem →
  Gx E callK n ops ms fb rem f S L=R→R≠.fail→Yb E callK n ops ms fb rem f S L i o R
 | [],f,S,L,R,hi,_,_,_,_=>by cases hi
 |j :: r,f,S,L,R,hi,hfree,hp,h,hne=>by
  by_cases hji:j=i
  ·subst hji
   unfold Gx at h;rw[ho]at h;simp only at h;unfold Yb;rw[List.erase_cons_head]
   split at h
   ·rename_i hl
    refine .inl ⟨hl,?_⟩
    split at h
    ·rename_i a hv
     split at h
     ·rename_i hd
      exact⟨a,hv,hd,Q8 r _ S _ _ R h hne (fun l hl=>⟨l,Ja8 _ hl,rfl,rfl,rfl,fun _=>rfl⟩)⟩
     ·exact absurd h.symm hne
    ·exact absurd h.symm hne
   ·rename_i hl
    refine .inr ⟨by simpa using hl,?_⟩
    split at h
    ·rename_i a S' hv
     split at h
     ·rename_i hd
      rw[Ja2]at hd;exact .inl ⟨a,S',hv,hd.1,hd.2,h⟩
     ·exact absurd h.symm hne
    ·rename_i a S' hv
     exact .inr ⟨a,S',hv,h.symm⟩
    ·exact absurd h.symm hne
  ·have hir:i∈r:=(Jb8.1 hi).resolve_left (fun e=>hji e.symm)
   have hbit:=hfree j (Jb1 ..) hji;obtain⟨hok,hp2⟩:=hp.resolve_left hji;unfold okP at hok;rw[hbit,Bool.false_or]at hok;unfold Gx at h
   split at h
   ·exact absurd h.symm hne
   ·rename_i oj hoj
    rw[hoj,ho]at hok;simp only[Ja2]at hok;obtain⟨hlj,hap⟩:=hok;obtain⟨p1,p2,p3⟩:=Oper.apart_spec hap;rw[if_pos hlj]at h
    split at h
    ·rename_i aj hvj
     split at h
     ·rename_i hdj
      have ih:=Xx ho r (Hs f oj.dst aj) S (⟨j,oj,f.tmps,aj⟩ :: L) R hir (fun k hk hki=>hfree k (Ja8 _ hk) hki) hp2 h hne
      have hag:Tz ops o (Hs f oj.dst aj).tmps f.tmps:=U2 p1;have hera:(j :: r).erase i=j :: r.erase i:=by rw[List.erase_cons_tail (by simpa using hji)]
      have hswap:∀(a:AV),Hs (Hs f oj.dst aj) o.dst a=Hs (Hs f o.dst a) oj.dst aj:=fun a=>jW f p2 aj a
      have back:∀(a:AV) (S':St) (L0:List Look),Fq E ops oj f.tmps S' = some aj→Gx E callK n ops ms fb (r.erase i) (Hs (Hs f oj.dst aj) o.dst a) S' (⟨j,oj,f.tmps,aj⟩ :: L0)=R→Gx E callK n ops ms fb (j :: r.erase i) (Hs f o.dst a) S' L0=R:=fun a S' L0 hv hd=>by
       have hagj:Tz ops oj (Hs f o.dst a).tmps f.tmps:=U2 p3;unfold Gx;rw[hoj];simp only;rw[if_pos hlj,Jp hagj,hv];simp only;rw[if_pos hdj,← hswap];refine Q8 _ _ _ _ _ R hd hne (fun l hl=>?_)
       rcases Jb8.1 hl with rfl |hl
       ·exact⟨_,Jb1 ..,rfl,rfl,rfl,fun S=>(Jp hagj).symm⟩
       ·exact⟨l,Ja8 _ hl,rfl,rfl,rfl,fun _=>rfl⟩
      unfold Yb at ih ⊢;rw[hera];rcases ih with⟨hl,a,hv,hd,hrun⟩ | ⟨hl,⟨a,S',hv,hd,hall,hrun⟩ | ⟨a,S',hv,hR⟩⟩
      ·rw[Jp hag]at hv
       exact .inl ⟨hl,a,hv,hd,back a S L hvj hrun⟩
      ·rw[P0 hag]at hv
       rw[List.all_cons,Ja2]at hall;have hre:=hall.1;unfold Iu at hre;simp only[hbit,Bool.false_or]at hre
       cases hpu:Lg oj with
       |true=>exact .inr ⟨hl,.inl ⟨a,S',hv,hd,hall.2,back a S' L ((V0 hpu).trans hvj) hrun⟩⟩
       |false =>
       simp only[hpu,Bool.false_or]at hre
       split at hre
       ·rename_i b hb
        have hb2:Fq E ops oj f.tmps S' = some aj:=by rw[U1 _ _ hre];exact hb
        exact .inr ⟨hl,.inl ⟨a,S',hv,hd,hall.2,back a S' L hb2 hrun⟩⟩
       ·cases hre
      ·rw[P0 hag]at hv
       exact .inr ⟨hl,.inr ⟨a,S',hv,hR⟩⟩
     ·exact absurd h.symm hne
    ·exact absurd h.symm hne
theorem P3{i:Nat}:∀(l:List Nat),Dx ops ms l=true→Dx ops ms (l.erase i)=true
 | [],h=>h
 |x :: r,h=>by
  unfold Dx at h;rw[Ja2]at h
  by_cases hx:x=i
  ·subst hx;rw[List.erase_cons_head];exact h.2
  ·rw[List.erase_cons_tail (by simpa using hx)]
   unfold Dx;rw[Ja2];exact⟨Jb6.2 fun y hy=>Jb6.1 h.1 y (List.mem_of_mem_erase hy),P3 r h.2⟩
theorem zH{base:Nat}{w0:World}{Q:Exit→Act→World→Prop}(hE:E.Ok)(hC:Nm E base w0 callK)(hm:Mh ms ops.toList 0=true){fb:Fr}(ia ib:Nat):∀(fuel:Nat) (pre:List Nat) (listed:Array Bool) (f:Fr) (S:St) (γ:Gh) (w:World) (act:Act) (R:O),
  listed.size=ops.size→(∀i,i∈pre ++ [ia,ib]↔i<ops.size∧listed.getD i true=false)→(pre ++ [ia,ib]).Nodup→(pre ++ [ia,ib]).length≤fuel→Dn ops listed→Dx ops ms (pre ++ [ia])=true→Dx ops ms (pre ++ [ib])=true→SR base w0 γ S w→AR γ w n f act→GR γ w E.G→FbOk ops fb f →
  Gx E callK n ops ms fb (pre ++ [ia,ib]) f S []=R→Gx E callK n ops ms fb (pre ++ [ib,ia]) f S []=R→L8 base w0 n γ S w Q R→wpAny E.P .any ops Q fuel listed act w:=by
 intro fuel
 induction fuel with
 |zero =>
  intro pre listed f S γ w act R hsz hrem hnd hlen hdn hpa hpb hS ha hg hfb hR1 hR2 hH;simp at hlen
 |succ fuel ih =>
  intro pre listed f S γ w act R hsz hrem hnd hlen hdn hpa hpb hS ha hg hfb hR1 hR2 hH;have inb:∀{i},i∈pre ++ [ia,ib]→i<listed.size:=fun {i} hi=>by rw[hsz];exact((hrem i).1 hi).1
  refine⟨fun hready=>?_,fun i hi=>?_⟩
  ·exfalso
   have hr0:∀i,i ∉ pre ++ [ia,ib]:=by
    intro i
    induction i using Nat.strongRecOn with
    |_ i ihi =>
     intro hi;obtain⟨hlt,hun⟩:=(hrem i).1 hi;have hoi:ops[i]? = some ops[i]:=Jc6 hlt;have hk:=Ph hm (k:=i) (o:=ops[i]) (by simp[hlt])
     have:i∈Region.ready .any ops listed:=mem_ready.2 ⟨hun,ops[i],hoi,fun e he hb=>by
      have hel:=hk.2 e he hb;rw[Nat.zero_add]at hel;have hnr:=ihi e.on hel;rw[hrem]at hnr;have hes:e.on<listed.size:=by omega
      cases hx:listed.getD e.on false with
      |true=>rfl
      |false=>exact absurd ⟨by omega,(Nd hes true false).trans hx⟩ hnr⟩
     rw[hready]at this;cases this
   exact hr0 ia (by simp)
  ·obtain⟨hun,o,ho,hpre⟩:=mem_ready.1 hi
   have hil:i<ops.size:=(Jb9.1 ho).1;have hir:i∈pre ++ [ia,ib]:=(hrem i).2 ⟨hil,hun⟩;have pm:(pre ++ [ia,ib]).Perm (pre ++ [ib,ia]):=List.Perm.append_left _ (List.Perm.swap _ _ _);have hir2:i∈pre ++ [ib,ia]:=pm.mem_iff.1 hir;have hne:R≠.fail:=fun e=>by rw[e]at hH;exact hH
   have hfree:∀j∈pre ++ [ia,ib],j≠i→(ms.getD i 0).testBit j=false:=fun j hj _=>by
    cases hb:(ms.getD i 0).testBit j with
    |false=>rfl
    |true =>
     have h1:=Sd hm hdn i o ho hpre hb;have h2:=((hrem j).1 hj).2;rw[Nd (inb hj) true false,h1]at h2;cases h2
   have hfree2:∀j∈pre ++ [ib,ia],j≠i→(ms.getD i 0).testBit j=false:=fun j hj hh=>hfree j (pm.mem_iff.2 hj) hh
   have lst:∀(l:List Nat),(pre ++ [ia,ib]).Perm l→∀j,j∈l.erase i↔j<ops.size∧(listed.setIfInBounds i true).getD j true=false:=fun l hl j=>by
    rw[(hl.nodup_iff.1 hnd).mem_erase_iff,← hl.mem_iff,hrem j,Q4 _ _ _ _ (by omega)]
    by_cases hji:i=j
    ·subst hji;simp
    ·rw[if_neg hji];exact⟨fun h=>h.2,fun h=>⟨fun e=>hji e.symm,h⟩⟩
   have dn:Dn ops (listed.setIfInBounds i true):=fun j oj hoj hlj e he hbd=>by
    rw[Q4 _ _ _ _ (by omega)]at hlj ⊢
    split
    ·rfl
    ·split at hlj
     ·rename_i hij
      subst hij;rw[ho]at hoj;injection hoj with hoj;subst hoj
      exact hpre e he hbd
     ·exact hdn j oj hoj hlj e he hbd
   have lenE:∀(l:List Nat),(pre ++ [ia,ib]).Perm l→(l.erase i).length≤fuel:=fun l hl=>by
    rw[List.length_erase_of_mem (hl.mem_iff.1 hir),← hl.length_eq];omega
   have hnd0:=List.nodup_append.1 hnd;have hab:ia≠ib:=by have:=hnd0.2.1;simp at this;exact this
   have hap:∀x∈pre,x≠ia∧x≠ib:=fun x hx=>⟨fun e=>hnd0.2.2 x hx ia (by simp) e,fun e=>hnd0.2.2 x hx ib (by simp) e⟩
   have key:(∃a,Gc o=true∧Fq E ops o f.tmps S=some a∧okD n o.dst=true∧∀(γ':Gh) (act':Act) (w':World),SR base w0 γ' S w'→Ext γ S w γ' S w'→AR γ' w' n (Hs f o.dst a) act'→wpAny E.P .any ops Q fuel (listed.setIfInBounds i true) act' w') ∨
     (Gc o=false∧((∃a S',Mu E callK ops o f.tmps S=.val a S'∧okD n o.dst=true∧∀(γ':Gh) (act':Act) (w':World),SR base w0 γ' S' w'→Ext γ S w γ' S' w'→AR γ' w' n (Hs f o.dst a) act'→wpAny E.P .any ops Q fuel (listed.setIfInBounds i true) act' w')∨∃a S',Mu E callK ops o f.tmps S=.pan a S'∧R=.out (.pan a) fb S')):=by
    by_cases hia:i=ia
    ·subst hia
     have he:=Xx (E:=E) (callK:=callK) (n:=n) (fb:=fb) ho (pre ++ [i,ib]) f S [] R hir hfree (gQ hpa) hR1 hne
     have hera:(pre ++ [i,ib]).erase i=pre ++ [ib]:=by
      rw[List.erase_append_right _ (fun h=>(hap i h).1 rfl),List.erase_cons_head]
     have go:∀(f':Fr) (S':St) (γ':Gh) (act':Act) (w':World),Gx E callK n ops ms fb (pre ++ [ib]) f' S' []=R→FbOk ops fb f'→SR base w0 γ' S' w'→Ext γ S w γ' S' w'→AR γ' w' n f' act'→wpAny E.P .any ops Q fuel (listed.setIfInBounds i true) act' w':=fun f' S' γ' act' w' hr hf k1 k2 k3=>by
      refine Uv hE hC hm (fb:=fb) fuel (pre ++ [ib]) (listed.setIfInBounds i true) f' S' γ' w' act' (by simpa using hsz) (by rw[← hera];exact lst _ (List.Perm.refl _)) (by rw[← hera];exact hnd.erase i) (by rw[← hera];exact lenE _ (List.Perm.refl _)) dn hpb k1 k3 (hg.mono k2.ev) hf (by rw[hr];exact hH.later k2)
     unfold Yb at he;rw[hera]at he;rcases he with⟨hl,a,hv,hd,hrun⟩ | ⟨hl,⟨a,S',hv,hd,hall,hrun⟩ | ⟨a,S',hv,hRR⟩⟩
     ·exact .inl ⟨a,hl,hv,hd,fun γ' act' w' k1 k2 k3=>go _ _ γ' act' w' hrun (hfb.put ho a) k1 k2 k3⟩
     ·exact .inr ⟨hl,.inl ⟨a,S',hv,hd,fun γ' act' w' k1 k2 k3=>go _ _ γ' act' w' hrun (hfb.put ho a) k1 k2 k3⟩⟩
     ·exact .inr ⟨hl,.inr ⟨a,S',hv,hRR⟩⟩
    ·by_cases hib:i=ib
     ·subst hib
      have he:=Xx (E:=E) (callK:=callK) (n:=n) (fb:=fb) ho (pre ++ [i,ia]) f S [] R hir2 hfree2 (gQ hpb) hR2 hne
      have hera:(pre ++ [i,ia]).erase i=pre ++ [ia]:=by
       rw[List.erase_append_right _ (fun h=>(hap i h).2 rfl),List.erase_cons_head]
      have go:∀(f':Fr) (S':St) (γ':Gh) (act':Act) (w':World),Gx E callK n ops ms fb (pre ++ [ia]) f' S' []=R→FbOk ops fb f'→SR base w0 γ' S' w'→Ext γ S w γ' S' w'→AR γ' w' n f' act'→wpAny E.P .any ops Q fuel (listed.setIfInBounds i true) act' w':=fun f' S' γ' act' w' hr hf k1 k2 k3=>by
       refine Uv hE hC hm (fb:=fb) fuel (pre ++ [ia]) (listed.setIfInBounds i true) f' S' γ' w' act' (by simpa using hsz) (by rw[← hera];exact lst _ pm) (by rw[← hera];exact(pm.nodup_iff.1 hnd).erase i) (by rw[← hera];exact lenE _ pm) dn hpa k1 k3 (hg.mono k2.ev) hf (by rw[hr];exact hH.later k2)
      unfold Yb at he;rw[hera]at he;rcases he with⟨hl,a,hv,hd,hrun⟩ | ⟨hl,⟨a,S',hv,hd,hall,hrun⟩ | ⟨a,S',hv,hRR⟩⟩
      ·exact .inl ⟨a,hl,hv,hd,fun γ' act' w' k1 k2 k3=>go _ _ γ' act' w' hrun (hfb.put ho a) k1 k2 k3⟩
      ·exact .inr ⟨hl,.inl ⟨a,S',hv,hd,fun γ' act' w' k1 k2 k3=>go _ _ γ' act' w' hrun (hfb.put ho a) k1 k2 k3⟩⟩
      ·exact .inr ⟨hl,.inr ⟨a,S',hv,hRR⟩⟩
     ·have hip:i∈pre:=by
       simp at hir;rcases hir with h |h |h
       ·exact h
       ·exact absurd h hia
       ·exact absurd h hib
      have hpp:Dx ops ms pre=true:=by
       have:=P3 (i:=ia) _ hpa
       rwa [List.erase_append_right _ (fun h=>(hap ia h).1 rfl),List.erase_cons_head,List.append_nil]at this
      have he1:=Xx (E:=E) (callK:=callK) (n:=n) (fb:=fb) ho (pre ++ [ia,ib]) f S [] R hir hfree (Zi hip hpp) hR1 hne;have he2:=Xx (E:=E) (callK:=callK) (n:=n) (fb:=fb) ho (pre ++ [ib,ia]) f S [] R hir2 hfree2 (Zi hip hpp) hR2 hne;have hera1:(pre ++ [ia,ib]).erase i=pre.erase i ++ [ia,ib]:=List.erase_append_left _ hip;have hera2:(pre ++ [ib,ia]).erase i=pre.erase i ++ [ib,ia]:=List.erase_append_left _ hip;have ea:(pre ++ [ia]).erase i=pre.erase i ++ [ia]:=List.erase_append_left _ hip;have eb:(pre ++ [ib]).erase i=pre.erase i ++ [ib]:=List.erase_append_left _ hip
      have go:∀(f':Fr) (S':St) (γ':Gh) (act':Act) (w':World),Gx E callK n ops ms fb (pre.erase i ++ [ia,ib]) f' S' []=R→Gx E callK n ops ms fb (pre.erase i ++ [ib,ia]) f' S' []=R→FbOk ops fb f'→SR base w0 γ' S' w'→Ext γ S w γ' S' w'→AR γ' w' n f' act'→wpAny E.P .any ops Q fuel (listed.setIfInBounds i true) act' w':=fun f' S' γ' act' w' hr1 hr2 hf k1 k2 k3=>by
       refine ih (pre.erase i) (listed.setIfInBounds i true) f' S' γ' w' act' R (by simpa using hsz) (by rw[← hera1];exact lst _ (List.Perm.refl _)) (by rw[← hera1];exact hnd.erase i) (by rw[← hera1];exact lenE _ (List.Perm.refl _)) dn (by rw[← ea];exact P3 _ hpa) (by rw[← eb];exact P3 _ hpb) k1 k3 (hg.mono k2.ev) hf hr1 hr2 (hH.later k2)
      unfold Yb at he1 he2;rw[hera1]at he1;rw[hera2]at he2;rcases he1 with⟨hl,a,hv,hd,hrun⟩ | ⟨hl,⟨a,S',hv,hd,hall,hrun⟩ | ⟨a,S',hv,hRR⟩⟩
      ·rcases he2 with⟨_,a2,hv2,_,hrun2⟩ | ⟨hl2,_⟩
       ·rw[hv]at hv2
        injection hv2 with hv2
        subst hv2;exact .inl ⟨a,hl,hv,hd,fun γ' act' w' k1 k2 k3=>go _ _ γ' act' w' hrun hrun2 (hfb.put ho a) k1 k2 k3⟩
       ·rw[hl]at hl2;cases hl2
      ·rcases he2 with⟨hl2,_⟩ | ⟨_,⟨a2,S2,hv2,_,_,hrun2⟩ | ⟨a2,S2,hv2,_⟩⟩
       ·rw[hl]at hl2;cases hl2
       ·rw[hv]at hv2
        injection hv2 with e1 e2
        subst e1;subst e2;exact .inr ⟨hl,.inl ⟨a,S',hv,hd,fun γ' act' w' k1 k2 k3=>go _ _ γ' act' w' hrun hrun2 (hfb.put ho a) k1 k2 k3⟩⟩
       ·rw[hv]at hv2;cases hv2
      ·exact .inr ⟨hl,.inr ⟨a,S',hv,hRR⟩⟩
   have hst:=Qq (E:=E) (callK:=callK) (n:=n) (ops:=ops) o f S
   have key2:L8 base w0 n γ S w (fun x a w=>match x with |.normal=>wpAny E.P .any ops Q fuel (listed.setIfInBounds i true) a w |x=>Q x a w) (Fj E callK n ops o f S):=by
    rw[hst];rcases key with⟨a,hl,hv,hd,hgo⟩ | ⟨hl,⟨a,S',hv,hd,hgo⟩ | ⟨a,S',hv,hRR⟩⟩
    ·rw[O8 hl,hv]
     simp only;rw[Ov,if_pos hd];exact fun γ' act' w' k1 k2 k3=>hgo γ' act' w' k1 k2 k3
    ·rw[hv]
     simp only;rw[Ov,if_pos hd];exact fun γ' act' w' k1 k2 k3=>hgo γ' act' w' k1 k2 k3
    ·rw[hv]
     intro γ' act' w' k1 k2 k3 v hvr;rw[hRR]at hH;exact hH γ' act' w' k1 k2 (hfb.ar k3) v hvr
   have:=P1 hE hC hS ha hg key2;unfold wpOp;rw[ho];simp only
   split
   ·rename_i hw;rw[if_pos hw]at this;exact .inl this
   ·rename_i hw;rw[if_neg hw]at this;exact this
def qX(order:List Nat):Option (List Nat × Nat × Nat):=match order.reverse with
 |b :: a :: r=>some (r.reverse,a,b)
 |_=>none
theorem twoOf_is{order pre:List Nat}{a b:Nat}(h:qX order=some (pre,a,b)):order=pre ++ [a,b]:=by
 unfold qX at h
 split at h
 ·rename_i b' a' r hr
  injection h with h
  injection h with h1 h2
  injection h2 with h2 h3
  subst h1;subst h2;subst h3;have:=congrArg List.reverse hr
  simpa using this
 ·cases h
def twoOk(ops:Array Oper)(ms order:List Nat):Bool:=Mh ms ops.toList 0 && Yu order && (order.all fun i=>decide (i<ops.size)) && ((List.range ops.size).all fun i=>order.contains i) && (match qX order with
 |some (pre,a,b)=>Dx ops ms (pre ++ [a]) && Dx ops ms (pre ++ [b])
 |none=>false)
def Vh(ops:Array Oper):Bool :=
 let ms:=bm ops.toList []
 let order:=Kp ops ms ops.size (List.range ops.size) 0
 if Rp ops ms order then false else twoOk ops ms order
def jC:List Nat→List Nat:=fun order=>match qX order with
 |some (pre,a,b)=>pre ++ [b,a]
 |none=>order
def Ob(E:Env):Lj:=fun callK n ops f S =>
 let ms:=bm ops.toList []
 let order:=Kp ops ms ops.size (List.range ops.size) 0
 let R1:=Gx E callK n ops ms ⟨Gf ops.toList f.tmps,f.dfr⟩ order f S []
 let R2:=Gx E callK n ops ms ⟨Gf ops.toList f.tmps,f.dfr⟩ (jC order) f S []
 if R1=R2 then R1 else .fail
theorem vK(hE:E.Ok)(hmix:E.P.follows .mixedOrders=true){base:Nat}{w0:World}{Q:Exit→Act→World→Prop}(hC:Nm E base w0 callK)(h2:Vh ops=true){id:Nat}{γ:Gh}{S:St}{w:World}{f:Fr}{act:Act}(hS:SR base w0 γ S w)(ha:AR γ w n f act)(hg:GR γ w E.G)
  (hH:L8 base w0 n γ S w Q (Ob E callK n ops f S)):(Code.region id ops true).wp E.P Q act w:=by
 unfold Ob at hH;unfold Vh at h2;simp only at hH h2
 split at h2
 ·cases h2
 split at hH
 ·rename_i hRR
  generalize bm ops.toList []=ms at h2 hH hRR;generalize Kp ops ms ops.size (List.range ops.size) 0=order at h2 hH hRR;unfold twoOk at h2;simp only[Ja2]at h2;obtain⟨⟨⟨⟨s1,s2⟩,s3⟩,s4⟩,s5⟩:=h2
  cases ht:qX order with
  |none=>rw[ht]at s5;cases s5
  |some x =>
   obtain⟨pre,a,b⟩:=x;rw[ht]at s5;simp only[Ja2]at s5;have hor:=twoOf_is ht;have hsw:jC order=pre ++ [b,a]:=by unfold jC;rw[ht]
   rw[hsw]at hRR;subst hor;obtain⟨d1,d2⟩:=hS.drew;have hx:Ext γ S w γ S w.drew:=Ext.of_same (w:=w) (w':=w.drew) rfl d2;refine wp_region_any hmix ?_;have hlist:∀(i:Nat) (b:Bool),i<ops.size→(Array.replicate ops.size false).getD i b=false:=fun i b h=>by simp[h]
   refine zH hE hC s1 (fb:=⟨Gf ops.toList f.tmps,f.dfr⟩) a b ops.size pre (Array.replicate ops.size false) f S γ w.drew act _ (by simp) (fun i=>⟨fun hi=>?_,fun hi=>?_⟩) (K3 s2) ?_ (fun i o ho hl=>?_) s5.1 s5.2 d1 (ha.mono d2) (hg.mono d2) ⟨fun t a h=>(Lt _ _ t a h).1,rfl,fun i o d ho hd=>?_⟩ rfl hRR.symm (hH.later hx)
   ·have:=Jb6.1 s3 i hi
    have hlt:i<ops.size:=by simpa using this
    exact⟨hlt,hlist i true hlt⟩
   ·have:=Jb6.1 s4 i (List.mem_range.2 hi.1)
    simpa using this
   ·have hsub:(pre ++ [a,b]) ⊆ List.range ops.size:=fun i hi=>by
     have:=Jb6.1 s3 i hi;exact List.mem_range.2 (by simpa using this)
    have:=(K3 s2).length_le_of_subset hsub
    simpa using this
   ·have hlt:=(Jb9.1 ho).1
    rw[hlist i false hlt]at hl;cases hl
   ·cases hx:(Gf ops.toList f.tmps).get d with
    |none=>rfl
    |some a =>
     have:=(Lt _ _ d a hx).2 o (by
      have:=Array.mem_of_getElem? ho
      simpa using this)
     exact absurd hd this
 ·exact hH.elim
end
end Go.Ax
noncomputable section
namespace Go.Ax
open Go.RowKit
def Bb(E:Env):Lj:=fun ck n ops f S=>match Ol E.P ops with
 |some x=>R9 E x ck n ops f S
 |none=>if Vh ops=true then Ob E ck n ops f S else H1 E ck n ops f S
theorem Gk{E:Env}(hE:E.Ok)(hmix:E.P.follows .mixedOrders=true):Sg E (Bb E):=by
 intro base w0 Q callK hC n id ops γ S w f act hS ha hg hH;unfold Bb at hH
 split at hH
 ·rename_i x hx
  exact zI hE hmix (flFind_ok hx) base w0 Q callK hC n id γ S w f act hS ha hg hH
 ·split at hH
  ·rename_i h2
   exact vK hE hmix hC h2 hS ha hg hH
  ·exact Tr hE hmix base w0 Q callK hC n id ops γ S w f act hS ha hg hH
end Go.Ax
