/- AxSe -/
import Derived.Test.YtkjknlaffgkloaaDoorTpG5
set_option linter.unusedVariables false
set_option linter.unusedSimpArgs false
noncomputable section
namespace Go.Ax
open Go.RowKit
open Classical
section
variable {E:Env} {callK:CallK} {n:Nat} {ops:Array Oper} {ms:List Nat}
def befOk(ops:Array Oper)(ms:List Nat)(i:Nat):List Nat→Prop
 | []=>True
 |j :: r=>j=i∨(okP ops ms j i=true∧befOk ops ms i r)
theorem befOk_of{i:Nat}:∀{l r:List Nat},pairsOk ops ms (l ++ [i])=true→befOk ops ms i (l ++ i :: r)
 | [],r,h=>.inl rfl
 |j :: l,r,h=>by
  rw[List.cons_append]at h
  unfold pairsOk at h
  rw[Bool.and_eq_true]at h
  exact .inr ⟨List.all_eq_true.1 h.1 i (List.mem_append_right _ (List.mem_singleton.2 rfl)),befOk_of h.2⟩
theorem befOk_mem{i:Nat}:∀{l r:List Nat},i∈l→pairsOk ops ms l=true→befOk ops ms i (l ++ r)
 |j :: l,r,hi,h=>by
  unfold pairsOk at h
  rw[Bool.and_eq_true]at h
  by_cases hj:j=i
  ·exact .inl hj
  ·have hil:i∈l:=(List.mem_cons.1 hi).resolve_left (fun e=>hj e.symm)
   exact .inr ⟨List.all_eq_true.1 h.1 i hil,befOk_mem hil h.2⟩
theorem bubble2{fb:Fr}{i:Nat}{o:Oper}(ho:ops[i]? = some o):∀(rem:List Nat) (f:Fr) (S:St) (L:List Look) (R:O),i∈rem→(∀j∈rem,j≠i→(ms.getD i 0).testBit j=false)→befOk ops ms i rem →
  drun E callK n ops ms fb rem f S L=R→R≠.fail→Early E callK n ops ms fb rem f S L i o R
 | [],f,S,L,R,hi,_,_,_,_=>by cases hi
 |j :: r,f,S,L,R,hi,hfree,hp,h,hne=>by
  by_cases hji:j=i
  ·subst hji
   unfold drun at h
   rw[ho]at h
   simp only at h
   unfold Early
   rw[List.erase_cons_head]
   split at h
   ·rename_i hl
    refine .inl ⟨hl,?_⟩
    split at h
    ·rename_i a hv
     split at h
     ·rename_i hd
      exact⟨a,hv,hd,drun_sub r _ S _ _ R h hne (fun l hl=>⟨l,List.mem_cons_of_mem _ hl,rfl,rfl,rfl,fun _=>rfl⟩)⟩
     ·exact absurd h.symm hne
    ·exact absurd h.symm hne
   ·rename_i hl
    refine .inr ⟨by simpa using hl,?_⟩
    split at h
    ·rename_i a S' hv
     split at h
     ·rename_i hd
      rw[Bool.and_eq_true]at hd
      exact .inl ⟨a,S',hv,hd.1,hd.2,h⟩
     ·exact absurd h.symm hne
    ·rename_i a S' hv
     exact .inr ⟨a,S',hv,h.symm⟩
    ·exact absurd h.symm hne
  ·have hir:i∈r:=(List.mem_cons.1 hi).resolve_left (fun e=>hji e.symm)
   have hbit:=hfree j (List.mem_cons_self ..) hji
   obtain⟨hok,hp2⟩:=hp.resolve_left hji
   unfold okP at hok
   rw[hbit,Bool.false_or]at hok
   unfold drun at h
   split at h
   ·exact absurd h.symm hne
   ·rename_i oj hoj
    rw[hoj,ho]at hok
    simp only[Bool.and_eq_true]at hok
    obtain⟨hlj,hap⟩:=hok
    obtain⟨p1,p2,p3⟩:=Oper.apart_spec hap
    rw[if_pos hlj]at h
    split at h
    ·rename_i aj hvj
     split at h
     ·rename_i hdj
      have ih:=bubble2 ho r (putT f oj.dst aj) S (⟨j,oj,f.tmps,aj⟩ :: L) R hir (fun k hk hki=>hfree k (List.mem_cons_of_mem _ hk) hki) hp2 h hne
      have hag:agree ops o (putT f oj.dst aj).tmps f.tmps:=agree_put p1
      have hera:(j :: r).erase i=j :: r.erase i:=by rw[List.erase_cons_tail (by simpa using hji)]
      have hswap:∀(a:AV),putT (putT f oj.dst aj) o.dst a=putT (putT f o.dst a) oj.dst aj:=fun a=>putT_comm f p2 aj a
      have back:∀(a:AV) (S':St) (L0:List Look),lookV E ops oj f.tmps S' = some aj→drun E callK n ops ms fb (r.erase i) (putT (putT f oj.dst aj) o.dst a) S' (⟨j,oj,f.tmps,aj⟩ :: L0)=R→drun E callK n ops ms fb (j :: r.erase i) (putT f o.dst a) S' L0=R:=fun a S' L0 hv hd=>by
       have hagj:agree ops oj (putT f o.dst a).tmps f.tmps:=agree_put p3
       unfold drun
       rw[hoj]
       simp only
       rw[if_pos hlj,lookV_congr hagj,hv]
       simp only
       rw[if_pos hdj,← hswap]
       refine drun_sub _ _ _ _ _ R hd hne (fun l hl=>?_)
       rcases List.mem_cons.1 hl with rfl |hl
       ·exact⟨_,List.mem_cons_self ..,rfl,rfl,rfl,fun S=>(lookV_congr hagj).symm⟩
       ·exact⟨l,List.mem_cons_of_mem _ hl,rfl,rfl,rfl,fun _=>rfl⟩
      unfold Early at ih ⊢
      rw[hera]
      rcases ih with⟨hl,a,hv,hd,hrun⟩ | ⟨hl,⟨a,S',hv,hd,hall,hrun⟩ | ⟨a,S',hv,hR⟩⟩
      ·rw[lookV_congr hag]at hv
       exact .inl ⟨hl,a,hv,hd,back a S L hvj hrun⟩
      ·rw[stepR_congr hag]at hv
       rw[List.all_cons,Bool.and_eq_true]at hall
       have hre:=hall.1
       unfold recheck at hre
       simp only[hbit,Bool.false_or]at hre
       cases hpu:pureO oj with
       |true=>exact .inr ⟨hl,.inl ⟨a,S',hv,hd,hall.2,back a S' L ((pure_lookV hpu).trans hvj) hrun⟩⟩
       |false =>
       simp only[hpu,Bool.false_or]at hre
       split at hre
       ·rename_i b hb
        have hb2:lookV E ops oj f.tmps S' = some aj:=by rw[beqA_eq _ _ hre];exact hb
        exact .inr ⟨hl,.inl ⟨a,S',hv,hd,hall.2,back a S' L hb2 hrun⟩⟩
       ·cases hre
      ·rw[stepR_congr hag]at hv
       exact .inr ⟨hl,.inr ⟨a,S',hv,hR⟩⟩
     ·exact absurd h.symm hne
    ·exact absurd h.symm hne
theorem pairs_eraseT{i:Nat}:∀(l:List Nat),pairsOk ops ms l=true→pairsOk ops ms (l.erase i)=true
 | [],h=>h
 |x :: r,h=>by
  unfold pairsOk at h
  rw[Bool.and_eq_true]at h
  by_cases hx:x=i
  ·subst hx;rw[List.erase_cons_head];exact h.2
  ·rw[List.erase_cons_tail (by simpa using hx)]
   unfold pairsOk
   rw[Bool.and_eq_true]
   exact⟨List.all_eq_true.2 fun y hy=>List.all_eq_true.1 h.1 y (List.mem_of_mem_erase hy),pairs_eraseT r h.2⟩
theorem drawn_any2{base:Nat}{w0:World}{Q:Exit→Act→World→Prop}(hE:E.Ok)(hC:CallOk E base w0 callK)(hm:masksOk ms ops.toList 0=true){fb:Fr}(ia ib:Nat):∀(fuel:Nat) (pre:List Nat) (listed:Array Bool) (f:Fr) (S:St) (γ:Gh) (w:World) (act:Act) (R:O),
  listed.size=ops.size→(∀i,i∈pre ++ [ia,ib]↔i<ops.size∧listed.getD i true=false)→(pre ++ [ia,ib]).Nodup→(pre ++ [ia,ib]).length≤fuel→Dn ops listed→pairsOk ops ms (pre ++ [ia])=true→pairsOk ops ms (pre ++ [ib])=true→SR base w0 γ S w→AR γ w n f act→GR γ w E.G→FbOk ops fb f →
  drun E callK n ops ms fb (pre ++ [ia,ib]) f S []=R→drun E callK n ops ms fb (pre ++ [ib,ia]) f S []=R→Holds base w0 n γ S w Q R→wpAny E.P .any ops Q fuel listed act w:=by
 intro fuel
 induction fuel with
 |zero =>
  intro pre listed f S γ w act R hsz hrem hnd hlen hdn hpa hpb hS ha hg hfb hR1 hR2 hH
  simp at hlen
 |succ fuel ih =>
  intro pre listed f S γ w act R hsz hrem hnd hlen hdn hpa hpb hS ha hg hfb hR1 hR2 hH
  have inb:∀{i},i∈pre ++ [ia,ib]→i<listed.size:=fun {i} hi=>by rw[hsz];exact((hrem i).1 hi).1
  refine⟨fun hready=>?_,fun i hi=>?_⟩
  ·exfalso
   have hr0:∀i,i ∉ pre ++ [ia,ib]:=by
    intro i
    induction i using Nat.strongRecOn with
    |_ i ihi =>
     intro hi
     obtain⟨hlt,hun⟩:=(hrem i).1 hi
     have hoi:ops[i]? = some ops[i]:=Array.getElem?_eq_getElem hlt
     have hk:=masksOk_at hm (k:=i) (o:=ops[i]) (by simp[hlt])
     have:i∈Region.ready .any ops listed:=mem_ready.2 ⟨hun,ops[i],hoi,fun e he hb=>by
      have hel:=hk.2 e he hb
      rw[Nat.zero_add]at hel
      have hnr:=ihi e.on hel
      rw[hrem]at hnr
      have hes:e.on<listed.size:=by omega
      cases hx:listed.getD e.on false with
      |true=>rfl
      |false=>exact absurd ⟨by omega,(getD_same hes true false).trans hx⟩ hnr⟩
     rw[hready]at this
     cases this
   exact hr0 ia (by simp)
  ·obtain⟨hun,o,ho,hpre⟩:=mem_ready.1 hi
   have hil:i<ops.size:=(Array.getElem?_eq_some_iff.1 ho).1
   have hir:i∈pre ++ [ia,ib]:=(hrem i).2 ⟨hil,hun⟩
   have pm:(pre ++ [ia,ib]).Perm (pre ++ [ib,ia]):=List.Perm.append_left _ (List.Perm.swap _ _ _)
   have hir2:i∈pre ++ [ib,ia]:=pm.mem_iff.1 hir
   have hne:R≠.fail:=fun e=>by rw[e]at hH;exact hH
   have hfree:∀j∈pre ++ [ia,ib],j≠i→(ms.getD i 0).testBit j=false:=fun j hj _=>by
    cases hb:(ms.getD i 0).testBit j with
    |false=>rfl
    |true =>
     have h1:=bit_listed hm hdn i o ho hpre hb
     have h2:=((hrem j).1 hj).2
     rw[getD_same (inb hj) true false,h1]at h2
     cases h2
   have hfree2:∀j∈pre ++ [ib,ia],j≠i→(ms.getD i 0).testBit j=false:=fun j hj hh=>hfree j (pm.mem_iff.2 hj) hh
   have lst:∀(l:List Nat),(pre ++ [ia,ib]).Perm l→∀j,j∈l.erase i↔j<ops.size∧(listed.setIfInBounds i true).getD j true=false:=fun l hl j=>by
    rw[(hl.nodup_iff.1 hnd).mem_erase_iff,← hl.mem_iff,hrem j,getD_put _ _ _ _ (by omega)]
    by_cases hji:i=j
    ·subst hji;simp
    ·rw[if_neg hji];exact⟨fun h=>h.2,fun h=>⟨fun e=>hji e.symm,h⟩⟩
   have dn:Dn ops (listed.setIfInBounds i true):=fun j oj hoj hlj e he hbd=>by
    rw[getD_put _ _ _ _ (by omega)]at hlj ⊢
    split
    ·rfl
    ·split at hlj
     ·rename_i hij
      subst hij
      rw[ho]at hoj;injection hoj with hoj;subst hoj
      exact hpre e he hbd
     ·exact hdn j oj hoj hlj e he hbd
   have lenE:∀(l:List Nat),(pre ++ [ia,ib]).Perm l→(l.erase i).length≤fuel:=fun l hl=>by
    rw[List.length_erase_of_mem (hl.mem_iff.1 hir),← hl.length_eq];omega
   have hnd0:=List.nodup_append.1 hnd
   have hab:ia≠ib:=by have:=hnd0.2.1;simp at this;exact this
   have hap:∀x∈pre,x≠ia∧x≠ib:=fun x hx=>⟨fun e=>hnd0.2.2 x hx ia (by simp) e,fun e=>hnd0.2.2 x hx ib (by simp) e⟩
   have key:(∃a,isLook o=true∧lookV E ops o f.tmps S=some a∧okD n o.dst=true∧∀(γ':Gh) (act':Act) (w':World),SR base w0 γ' S w'→Ext γ S w γ' S w'→AR γ' w' n (putT f o.dst a) act'→wpAny E.P .any ops Q fuel (listed.setIfInBounds i true) act' w') ∨
     (isLook o=false∧((∃a S',stepR E callK ops o f.tmps S=.val a S'∧okD n o.dst=true∧∀(γ':Gh) (act':Act) (w':World),SR base w0 γ' S' w'→Ext γ S w γ' S' w'→AR γ' w' n (putT f o.dst a) act'→wpAny E.P .any ops Q fuel (listed.setIfInBounds i true) act' w')∨∃a S',stepR E callK ops o f.tmps S=.pan a S'∧R=.out (.pan a) fb S')):=by
    by_cases hia:i=ia
    ·subst hia
     have he:=bubble2 (E:=E) (callK:=callK) (n:=n) (fb:=fb) ho (pre ++ [i,ib]) f S [] R hir hfree (befOk_of hpa) hR1 hne
     have hera:(pre ++ [i,ib]).erase i=pre ++ [ib]:=by
      rw[List.erase_append_right _ (fun h=>(hap i h).1 rfl),List.erase_cons_head]
     have go:∀(f':Fr) (S':St) (γ':Gh) (act':Act) (w':World),drun E callK n ops ms fb (pre ++ [ib]) f' S' []=R→FbOk ops fb f'→SR base w0 γ' S' w'→Ext γ S w γ' S' w'→AR γ' w' n f' act'→wpAny E.P .any ops Q fuel (listed.setIfInBounds i true) act' w':=fun f' S' γ' act' w' hr hf k1 k2 k3=>by
      refine drawn_any hE hC hm (fb:=fb) fuel (pre ++ [ib]) (listed.setIfInBounds i true) f' S' γ' w' act' (by simpa using hsz) (by rw[← hera];exact lst _ (List.Perm.refl _)) (by rw[← hera];exact hnd.erase i) (by rw[← hera];exact lenE _ (List.Perm.refl _)) dn hpb k1 k3 (hg.mono k2.ev) hf (by rw[hr];exact hH.later k2)
     unfold Early at he
     rw[hera]at he
     rcases he with⟨hl,a,hv,hd,hrun⟩ | ⟨hl,⟨a,S',hv,hd,hall,hrun⟩ | ⟨a,S',hv,hRR⟩⟩
     ·exact .inl ⟨a,hl,hv,hd,fun γ' act' w' k1 k2 k3=>go _ _ γ' act' w' hrun (hfb.put ho a) k1 k2 k3⟩
     ·exact .inr ⟨hl,.inl ⟨a,S',hv,hd,fun γ' act' w' k1 k2 k3=>go _ _ γ' act' w' hrun (hfb.put ho a) k1 k2 k3⟩⟩
     ·exact .inr ⟨hl,.inr ⟨a,S',hv,hRR⟩⟩
    ·by_cases hib:i=ib
     ·subst hib
      have he:=bubble2 (E:=E) (callK:=callK) (n:=n) (fb:=fb) ho (pre ++ [i,ia]) f S [] R hir2 hfree2 (befOk_of hpb) hR2 hne
      have hera:(pre ++ [i,ia]).erase i=pre ++ [ia]:=by
       rw[List.erase_append_right _ (fun h=>(hap i h).2 rfl),List.erase_cons_head]
      have go:∀(f':Fr) (S':St) (γ':Gh) (act':Act) (w':World),drun E callK n ops ms fb (pre ++ [ia]) f' S' []=R→FbOk ops fb f'→SR base w0 γ' S' w'→Ext γ S w γ' S' w'→AR γ' w' n f' act'→wpAny E.P .any ops Q fuel (listed.setIfInBounds i true) act' w':=fun f' S' γ' act' w' hr hf k1 k2 k3=>by
       refine drawn_any hE hC hm (fb:=fb) fuel (pre ++ [ia]) (listed.setIfInBounds i true) f' S' γ' w' act' (by simpa using hsz) (by rw[← hera];exact lst _ pm) (by rw[← hera];exact(pm.nodup_iff.1 hnd).erase i) (by rw[← hera];exact lenE _ pm) dn hpa k1 k3 (hg.mono k2.ev) hf (by rw[hr];exact hH.later k2)
      unfold Early at he
      rw[hera]at he
      rcases he with⟨hl,a,hv,hd,hrun⟩ | ⟨hl,⟨a,S',hv,hd,hall,hrun⟩ | ⟨a,S',hv,hRR⟩⟩
      ·exact .inl ⟨a,hl,hv,hd,fun γ' act' w' k1 k2 k3=>go _ _ γ' act' w' hrun (hfb.put ho a) k1 k2 k3⟩
      ·exact .inr ⟨hl,.inl ⟨a,S',hv,hd,fun γ' act' w' k1 k2 k3=>go _ _ γ' act' w' hrun (hfb.put ho a) k1 k2 k3⟩⟩
      ·exact .inr ⟨hl,.inr ⟨a,S',hv,hRR⟩⟩
     ·have hip:i∈pre:=by
       simp at hir
       rcases hir with h |h |h
       ·exact h
       ·exact absurd h hia
       ·exact absurd h hib
      have hpp:pairsOk ops ms pre=true:=by
       have:=pairs_eraseT (i:=ia) _ hpa
       rwa [List.erase_append_right _ (fun h=>(hap ia h).1 rfl),List.erase_cons_head,List.append_nil]at this
      have he1:=bubble2 (E:=E) (callK:=callK) (n:=n) (fb:=fb) ho (pre ++ [ia,ib]) f S [] R hir hfree (befOk_mem hip hpp) hR1 hne
      have he2:=bubble2 (E:=E) (callK:=callK) (n:=n) (fb:=fb) ho (pre ++ [ib,ia]) f S [] R hir2 hfree2 (befOk_mem hip hpp) hR2 hne
      have hera1:(pre ++ [ia,ib]).erase i=pre.erase i ++ [ia,ib]:=List.erase_append_left _ hip
      have hera2:(pre ++ [ib,ia]).erase i=pre.erase i ++ [ib,ia]:=List.erase_append_left _ hip
      have ea:(pre ++ [ia]).erase i=pre.erase i ++ [ia]:=List.erase_append_left _ hip
      have eb:(pre ++ [ib]).erase i=pre.erase i ++ [ib]:=List.erase_append_left _ hip
      have go:∀(f':Fr) (S':St) (γ':Gh) (act':Act) (w':World),drun E callK n ops ms fb (pre.erase i ++ [ia,ib]) f' S' []=R→drun E callK n ops ms fb (pre.erase i ++ [ib,ia]) f' S' []=R→FbOk ops fb f'→SR base w0 γ' S' w'→Ext γ S w γ' S' w'→AR γ' w' n f' act'→wpAny E.P .any ops Q fuel (listed.setIfInBounds i true) act' w':=fun f' S' γ' act' w' hr1 hr2 hf k1 k2 k3=>by
       refine ih (pre.erase i) (listed.setIfInBounds i true) f' S' γ' w' act' R (by simpa using hsz) (by rw[← hera1];exact lst _ (List.Perm.refl _)) (by rw[← hera1];exact hnd.erase i) (by rw[← hera1];exact lenE _ (List.Perm.refl _)) dn (by rw[← ea];exact pairs_eraseT _ hpa) (by rw[← eb];exact pairs_eraseT _ hpb) k1 k3 (hg.mono k2.ev) hf hr1 hr2 (hH.later k2)
      unfold Early at he1 he2
      rw[hera1]at he1
      rw[hera2]at he2
      rcases he1 with⟨hl,a,hv,hd,hrun⟩ | ⟨hl,⟨a,S',hv,hd,hall,hrun⟩ | ⟨a,S',hv,hRR⟩⟩
      ·rcases he2 with⟨_,a2,hv2,_,hrun2⟩ | ⟨hl2,_⟩
       ·rw[hv]at hv2
        injection hv2 with hv2
        subst hv2
        exact .inl ⟨a,hl,hv,hd,fun γ' act' w' k1 k2 k3=>go _ _ γ' act' w' hrun hrun2 (hfb.put ho a) k1 k2 k3⟩
       ·rw[hl]at hl2;cases hl2
      ·rcases he2 with⟨hl2,_⟩ | ⟨_,⟨a2,S2,hv2,_,_,hrun2⟩ | ⟨a2,S2,hv2,_⟩⟩
       ·rw[hl]at hl2;cases hl2
       ·rw[hv]at hv2
        injection hv2 with e1 e2
        subst e1
        subst e2
        exact .inr ⟨hl,.inl ⟨a,S',hv,hd,fun γ' act' w' k1 k2 k3=>go _ _ γ' act' w' hrun hrun2 (hfb.put ho a) k1 k2 k3⟩⟩
       ·rw[hv]at hv2;cases hv2
      ·exact .inr ⟨hl,.inr ⟨a,S',hv,hRR⟩⟩
   have hst:=stepO_eq (E:=E) (callK:=callK) (n:=n) (ops:=ops) o f S
   have key2:Holds base w0 n γ S w (fun x a w=>match x with |.normal=>wpAny E.P .any ops Q fuel (listed.setIfInBounds i true) a w |x=>Q x a w) (stepO E callK n ops o f S):=by
    rw[hst]
    rcases key with⟨a,hl,hv,hd,hgo⟩ | ⟨hl,⟨a,S',hv,hd,hgo⟩ | ⟨a,S',hv,hRR⟩⟩
    ·rw[stepR_look hl,hv]
     simp only
     rw[putA_eq,if_pos hd]
     exact fun γ' act' w' k1 k2 k3=>hgo γ' act' w' k1 k2 k3
    ·rw[hv]
     simp only
     rw[putA_eq,if_pos hd]
     exact fun γ' act' w' k1 k2 k3=>hgo γ' act' w' k1 k2 k3
    ·rw[hv]
     intro γ' act' w' k1 k2 k3 v hvr
     rw[hRR]at hH
     exact hH γ' act' w' k1 k2 (hfb.ar k3) v hvr
   have:=stepO_sound hE hC hS ha hg key2
   unfold wpOp
   rw[ho]
   simp only
   split
   ·rename_i hw;rw[if_pos hw]at this;exact .inl this
   ·rename_i hw;rw[if_neg hw]at this;exact this
def twoOf(order:List Nat):Option (List Nat × Nat × Nat):=match order.reverse with
 |b :: a :: r=>some (r.reverse,a,b)
 |_=>none
theorem twoOf_is{order pre:List Nat}{a b:Nat}(h:twoOf order=some (pre,a,b)):order=pre ++ [a,b]:=by
 unfold twoOf at h
 split at h
 ·rename_i b' a' r hr
  injection h with h
  injection h with h1 h2
  injection h2 with h2 h3
  subst h1;subst h2;subst h3
  have:=congrArg List.reverse hr
  simpa using this
 ·cases h
def twoOk(ops:Array Oper)(ms order:List Nat):Bool:=masksOk ms ops.toList 0 && nodupB order && (order.all fun i=>decide (i<ops.size)) && ((List.range ops.size).all fun i=>order.contains i) && (match twoOf order with
 |some (pre,a,b)=>pairsOk ops ms (pre ++ [a]) && pairsOk ops ms (pre ++ [b])
 |none=>false)
def isTwo(ops:Array Oper):Bool :=
 let ms:=bm ops.toList []
 let order:=eager ops ms ops.size (List.range ops.size) 0
 if static ops ms order then false else twoOk ops ms order
def swapE:List Nat→List Nat:=fun order=>match twoOf order with
 |some (pre,a,b)=>pre ++ [b,a]
 |none=>order
def drawnTwo(E:Env):Drawn:=fun callK n ops f S =>
 let ms:=bm ops.toList []
 let order:=eager ops ms ops.size (List.range ops.size) 0
 let R1:=drun E callK n ops ms ⟨eraseT ops.toList f.tmps,f.dfr⟩ order f S []
 let R2:=drun E callK n ops ms ⟨eraseT ops.toList f.tmps,f.dfr⟩ (swapE order) f S []
 if R1=R2 then R1 else .fail
theorem drawnTwo_ok(hE:E.Ok)(hmix:E.P.follows .mixedOrders=true){base:Nat}{w0:World}{Q:Exit→Act→World→Prop}(hC:CallOk E base w0 callK)(h2:isTwo ops=true){id:Nat}{γ:Gh}{S:St}{w:World}{f:Fr}{act:Act}(hS:SR base w0 γ S w)(ha:AR γ w n f act)(hg:GR γ w E.G)
  (hH:Holds base w0 n γ S w Q (drawnTwo E callK n ops f S)):(Code.region id ops true).wp E.P Q act w:=by
 unfold drawnTwo at hH
 unfold isTwo at h2
 simp only at hH h2
 split at h2
 ·cases h2
 split at hH
 ·rename_i hRR
  generalize bm ops.toList []=ms at h2 hH hRR
  generalize eager ops ms ops.size (List.range ops.size) 0=order at h2 hH hRR
  unfold twoOk at h2
  simp only[Bool.and_eq_true]at h2
  obtain⟨⟨⟨⟨s1,s2⟩,s3⟩,s4⟩,s5⟩:=h2
  cases ht:twoOf order with
  |none=>rw[ht]at s5;cases s5
  |some x =>
   obtain⟨pre,a,b⟩:=x
   rw[ht]at s5
   simp only[Bool.and_eq_true]at s5
   have hor:=twoOf_is ht
   have hsw:swapE order=pre ++ [b,a]:=by unfold swapE;rw[ht]
   rw[hsw]at hRR
   subst hor
   obtain⟨d1,d2⟩:=hS.drew
   have hx:Ext γ S w γ S w.drew:=Ext.of_same (w:=w) (w':=w.drew) rfl d2
   refine wp_region_any hmix ?_
   have hlist:∀(i:Nat) (b:Bool),i<ops.size→(Array.replicate ops.size false).getD i b=false:=fun i b h=>by simp[h]
   refine drawn_any2 hE hC s1 (fb:=⟨eraseT ops.toList f.tmps,f.dfr⟩) a b ops.size pre (Array.replicate ops.size false) f S γ w.drew act _ (by simp) (fun i=>⟨fun hi=>?_,fun hi=>?_⟩) (nodupB_nodup s2) ?_ (fun i o ho hl=>?_) s5.1 s5.2 d1 (ha.mono d2) (hg.mono d2) ⟨fun t a h=>(eraseT_sub _ _ t a h).1,rfl,fun i o d ho hd=>?_⟩ rfl hRR.symm (hH.later hx)
   ·have:=List.all_eq_true.1 s3 i hi
    have hlt:i<ops.size:=by simpa using this
    exact⟨hlt,hlist i true hlt⟩
   ·have:=List.all_eq_true.1 s4 i (List.mem_range.2 hi.1)
    simpa using this
   ·have hsub:(pre ++ [a,b]) ⊆ List.range ops.size:=fun i hi=>by
     have:=List.all_eq_true.1 s3 i hi
     exact List.mem_range.2 (by simpa using this)
    have:=(nodupB_nodup s2).length_le_of_subset hsub
    simpa using this
   ·have hlt:=(Array.getElem?_eq_some_iff.1 ho).1
    rw[hlist i false hlt]at hl
    cases hl
   ·cases hx:(eraseT ops.toList f.tmps).get d with
    |none=>rfl
    |some a =>
     have:=(eraseT_sub _ _ d a hx).2 o (by
      have:=Array.mem_of_getElem? ho
      simpa using this)
     exact absurd hd this
 ·exact hH.elim
end
end Go.Ax
