/- AxI -/
import Derived.Test.YtkjknlaffgkloaaDoorTpG1
import Derived.Laws.IdiomStrings
import Derived.Laws.StructEq
import Derived.Laws.Strings
set_option linter.unusedVariables false
set_option linter.unusedSimpArgs false
noncomputable section
namespace Go.Ax
open Go.RowKit
variable {P:Program} {base:Nat} {w0:World}
def boundA:Option AV→Nat→Option Nat
 |none,n=>some n
 |some (.v (.int _ i)),_=>if 0≤i then some i.toNat else none
 |_,_=>none
def oSlice(P:Program)(t:TypeId)(a:AV)(lo hi:Option AV):Option AV :=
 match elemT P t with
 |some (none,e)=>match a,sizeT P e with
  |.sl tok off sz es,some n=>match boundA lo 0,boundA hi es.length with
   |some l,some h=>if n == sz && decide (l≤h) && decide (h≤es.length)then
     if l == h then some (.sl 0 0 sz [])
     else if h == es.length then some (.sl tok (off+l*sz) sz (es.drop l))
     else some (.sl 0 0 sz ((es.drop l).take (h - l)))
    else none
   |_,_=>none
  |.nils,some _=>match boundA lo 0,boundA hi 0 with
   |some 0,some 0=>some .nils
   |_,_=>none
  |.bs id off n0 sz,some n=>match boundA lo 0,boundA hi n0 with
   |some l,some h=>if n == sz && decide (l<h) && decide (h≤n0)then some (.bs id (off+l*sz) (h - l) sz)else none
   |_,_=>none
  |_,_=>none
 |_=>none
def oSlice3(P:Program)(t:TypeId)(a hi mx:AV):Option AV :=
 match elemT P t with
 |some (none,e)=>match a,sizeT P e with
  |.sl _ _ sz es,some n=>match boundA (some hi) 0,boundA (some mx) 0 with
   |some h,some m=>if n == sz && h == m && decide (h≤es.length)then some (.sl 1 0 sz (es.take h))else none
   |_,_=>none
  |.nils,some _=>match boundA (some hi) 0,boundA (some mx) 0 with
   |some 0,some 0=>some .nils
   |_,_=>none
  |_,_=>none
 |_=>none
theorem bound_at{γ:Gh}{w:World}{a:AV}{v:Value}{n:Nat}(h:boundA (some a) 0=some n)(hv:VR γ w a v):∃k,v=.int k (n:Int):=by
 unfold boundA at h
 split at h
 ·cases ‹some a=none›
 ·rename_i heq;injection heq with heq;subst heq
  cases hv
  split at h
  ·injection h with h
   exact⟨_,by congr 1;omega⟩
  ·cases h
 ·cases h
theorem bounds_run{γ:Gh}{w:World}{lo hi:Option AV}{vlo vhi:Option Value}(hlo:∀a,lo=some a→∃v,vlo=some v∧VR γ w a v)(hlo0:lo=none→vlo=none)(hhi:∀a,hi=some a→∃v,vhi=some v∧VR γ w a v)(hhi0:hi=none→vhi=none)
  {isS:Bool} {len cap l h:Nat} (h1:boundA lo 0=some l) (h2:boundA hi len=some h) (hlh:l≤h) (hhl:h≤len) (hc:len≤cap):(Instr.sliceBounds isS len cap vlo vhi none).run P w=.ok (l,h,cap) w:=by
 have H:(vhi=none∧h=len)∨∃k,vhi=some (.int k (h:Int)):=by
  cases hi with
  |none=>injection h2 with h2;exact .inl ⟨hhi0 rfl,h2.symm⟩
  |some a =>
   obtain⟨v,hv,hr⟩:=hhi a rfl
   unfold boundA at h2
   split at h2
   ·cases ‹some a=none›
   ·rename_i heq;injection heq with heq;subst heq
    cases hr
    split at h2
    ·injection h2 with h2
     exact .inr ⟨_,by rw[hv];congr 2;omega⟩
    ·cases h2
   ·cases h2
 have L:(vlo=none∧l=0)∨∃k,vlo=some (.int k (l:Int)):=by
  cases lo with
  |none=>injection h1 with h1;exact .inl ⟨hlo0 rfl,h1.symm⟩
  |some a =>
   obtain⟨v,hv,hr⟩:=hlo a rfl
   unfold boundA at h1
   split at h1
   ·cases ‹some a=none›
   ·rename_i heq;injection heq with heq;subst heq
    cases hr
    split at h1
    ·injection h1 with h1
     exact .inr ⟨_,by rw[hv];congr 2;omega⟩
    ·cases h1
   ·cases h1
 have hb:(0:Int)≤(h:Int)∧(h:Int)≤(cap:Int):=by omega
 have lb:(0:Int)≤(l:Int)∧(l:Int)≤(h:Int):=by omega
 rcases H with⟨rfl,rfl⟩ | ⟨k,rfl⟩ <;> rcases L with⟨rfl,rfl⟩ | ⟨k',rfl⟩ <;> simp[Instr.sliceBounds,Instr.sliceBound,asIntOf,hb,lb,hlh] <;> omega
theorem flat_drop{sz:Nat}:∀{es:List AV} (h:∀e∈es,e.cells.length=sz) (l:Nat),flat (es.drop l)=(flat es).drop (l*sz)
 | [],_,l=>by simp[flat]
 |e :: r,h,0=>by simp
 |e :: r,h,l+1=>by
  have he:=h e (List.mem_cons_self ..)
  rw[List.drop_succ_cons,flat_drop (es:=r) (fun y hy=>h y (List.mem_cons_of_mem _ hy)) l,flat_cons,Nat.succ_mul,show l*sz+sz=e.cells.length+l*sz by omega,List.drop_length_add_append]
theorem flat_take{sz:Nat}:∀{es:List AV} (h:∀e∈es,e.cells.length=sz) (l:Nat),flat (es.take l)=(flat es).take (l*sz)
 | [],_,l=>by simp[flat]
 |e :: r,h,0=>by simp[flat]
 |e :: r,h,l+1=>by
  have he:=h e (List.mem_cons_self ..)
  rw[List.take_succ_cons,flat_cons,flat_take (es:=r) (fun y hy=>h y (List.mem_cons_of_mem _ hy)) l,flat_cons,Nat.succ_mul,show l*sz+sz=e.cells.length+l*sz by omega,List.take_length_add_append]
theorem oSlice3_sound{γ:Gh}{S:St}{w:World}(hS:SR base w0 γ S w){t:TypeId}{a hi mx:AV}{v vh vm:Value}(hv:VR γ w a v)(hh:VR γ w hi vh)(hm:VR γ w mx vm){r:AV}(ho:oSlice3 P t a hi mx=some r):OkV P base w0 γ S w (Instr.sliceAt t v none (some vh) (some vm)) r S:=by
 unfold oSlice3 at ho
 split at ho
 ·rename_i e he
  have hu:=elemT_slice he
  split at ho
  ·rename_i tok off sz es n hn
   split at ho
   ·rename_i h m h1 h2
    obtain⟨k1,rfl⟩:=bound_at h1 hh
    obtain⟨k2,rfl⟩:=bound_at h2 hm
    split at ho
    ·rename_i hc
     simp only[Bool.and_eq_true,beq_iff_eq,decide_eq_true_eq]at hc
     obtain⟨⟨hns,hhm⟩,hhl⟩:=hc
     subst hns;subst hhm
     injection ho with ho;subst ho
     cases hv with
     |sl _ _ _ _ b o cap c hs hes hone hcl hr ht hf hcp hblk =>
     have hcap:(0:Int)≤(h:Int)∧(h:Int)≤(cap:Int):=by omega
     have hself:(0:Int)≤(h:Int)∧(h:Int)≤(h:Int):=by omega
     have hrun:(Instr.sliceAt t (.slice (some ⟨b,o,none⟩) es.length cap) none (some (.int k1 (h:Int))) (some (.int k2 (h:Int)))).run P w=.ok (.slice (some ⟨b,o,none⟩) h h) w:=by
      simp[Instr.sliceAt,Instr.slice,run_underlying hu,Instr.sliceBounds,Instr.sliceBound,asIntOf,hcap,sizeT_run hn,Addr.add_mid]
      intro hlt;omega
     refine OkV.pure hS hrun ?_
     obtain⟨arr,T,fr,harr,hle⟩:=hblk
     have hd:=flat_take hes h
     have hlen:(es.take h).length=h:=by simp;omega
     have hfl:(flat es).length=es.length*n:=flat_length hes
     have hmul:h*n≤es.length*n:=Nat.mul_le_mul_right _ hhl
     have hmul2:es.length*n≤cap*n:=Nat.mul_le_mul_right _ hcp
     have hq:=VR.sl (γ:=γ) (w:=w) 1 0 n (es.take h) b o h c hs (fun e he=>hes e (List.mem_of_mem_take he)) (fun x hx=>hone x (by rw[hd]at hx;exact List.mem_of_mem_take hx)) (fun k hk=>by
       rw[hd]at hk;simp at hk
       exact hcl k (by omega)) (fun k hk=>by
       have hk2:=hk
       rw[hd]at hk2;simp at hk2
       have:=hr k (by omega)
       have e:(flat (es.take h))[k]=(flat es)[k]'(by omega):=by simp only[hd];rw[List.getElem_take]
       rw[e];exact this) (fun h2=>by omega) (fun _=>hlen.symm) (by rw[hlen];exact Nat.le_refl _) ⟨arr,T,fr,harr,by omega⟩
     rwa [hlen]at hq
    ·cases ho
   ·cases ho
  ·rename_i n hn
   split at ho
   ·rename_i h1 h2
    obtain⟨k1,rfl⟩:=bound_at h1 hh
    obtain⟨k2,rfl⟩:=bound_at h2 hm
    injection ho with ho;subst ho
    cases hv
    refine OkV.pure hS (v:=.slice none 0 0) ?_ .nils
    simp[Instr.sliceAt,Instr.slice,run_underlying hu,Instr.sliceBounds,Instr.sliceBound,asIntOf,sizeT_run hn]
   ·cases ho
  ·cases ho
 ·cases ho
theorem oSlice_sound{γ:Gh}{S:St}{w:World}(hS:SR base w0 γ S w){t:TypeId}{a:AV}{v:Value}(hv:VR γ w a v){lo hi:Option AV}{vlo vhi:Option Value}(hlo:∀a,lo=some a→∃v,vlo=some v∧VR γ w a v)(hlo0:lo=none→vlo=none)
  (hhi:∀a,hi=some a→∃v,vhi=some v∧VR γ w a v) (hhi0:hi=none→vhi=none) {r:AV} (ho:oSlice P t a lo hi=some r):OkV P base w0 γ S w (Instr.sliceAt t v vlo vhi none) r S:=by
 unfold oSlice at ho
 split at ho
 ·rename_i e he
  have hu:=elemT_slice he
  split at ho
  ·rename_i tok off sz es n hn
   split at ho
   ·rename_i l h h1 h2
    split at ho
    ·rename_i hc
     simp only[Bool.and_eq_true,beq_iff_eq,decide_eq_true_eq]at hc
     obtain⟨⟨hns,hlh⟩,hhl⟩:=hc
     subst hns
     cases hv with
     |sl _ _ _ _ b o cap c hs hes hone hcl hr ht hf hcp hblk =>
     have hb:=bounds_run (P:=P) (isS:=true) hlo hlo0 hhi hhi0 h1 h2 hlh hhl hcp
     have hrun:(Instr.sliceAt t (.slice (some ⟨b,o,none⟩) es.length cap) vlo vhi none).run P w=.ok (.slice (if cap=l then some ⟨b,o,none⟩else some ⟨b,o+l*n,none⟩) (h - l) (cap - l)) w:=by
      simp[Instr.sliceAt,Instr.slice,run_underlying hu,hb,sizeT_run hn,Addr.add_mid]
     obtain⟨arr,T,fr,harr,hle⟩:=hblk
     split at ho
     ·rename_i heq
      have heq:l=h:=by simpa using heq
      subst heq
      injection ho with ho;subst ho
      by_cases hcl2:cap=l
      ·rw[if_pos hcl2]at hrun
       refine OkV.pure hS hrun ?_
       have hq:=VR.sl (γ:=γ) (w:=w) 0 0 n [] b o (cap - l) (fun _=>undef) hs (fun _ h=>by cases h) (fun _ h=>by simp[flat]at h) (fun k hk=>by simp[flat]at hk) (fun k hk=>by simp[flat]at hk) (fun h=>by omega) (fun h=>by omega) (Nat.zero_le _)
        ⟨arr,T,fr,harr,by rw[hcl2,Nat.sub_self,Nat.zero_mul];omega⟩
       simpa using hq
      ·rw[if_neg hcl2]at hrun
       refine OkV.pure hS hrun ?_
       have hmul:l*n+(cap - l)*n=cap*n:=by rw[← Nat.add_mul];congr 1;omega
       have hq:=VR.sl (γ:=γ) (w:=w) 0 0 n [] b (o+l*n) (cap - l) (fun _=>undef) hs (fun _ h=>by cases h) (fun _ h=>by simp[flat]at h) (fun k hk=>by simp[flat]at hk) (fun k hk=>by simp[flat]at hk) (fun h=>by omega) (fun h=>by omega) (Nat.zero_le _)
        ⟨arr,T,fr,harr,by omega⟩
       simpa using hq
     ·rename_i hne
      have hne:l≠h:=by simpa using hne
      have hcl2:¬ cap=l:=by omega
      rw[if_neg hcl2]at hrun
      have hmul:l*n+(cap - l)*n=cap*n:=by rw[← Nat.add_mul];congr 1;omega
      have hfl:(flat es).length=es.length*n:=flat_length hes
      have hd:=flat_drop hes l
      have hlmul:l*n≤es.length*n:=Nat.mul_le_mul_right _ (by omega)
      split at ho
      ·rename_i hh
       have hh:h=es.length:=by simpa using hh
       injection ho with ho;subst ho
       refine OkV.pure hS hrun ?_
       have hlen:(es.drop l).length=h - l:=by simp;omega
       rw[← hlen]
       refine .sl tok (off+l*n) n (es.drop l) b (o+l*n) (cap - l) (fun k=>c (l*n+k)) hs (fun e he=>hes e (List.mem_of_mem_drop he)) (fun x hx=>hone x (by rw[hd]at hx;exact List.mem_of_mem_drop hx)) (fun k hk=>?_) (fun k hk=>?_) (fun h2=>?_) (fun h1=>?_) (by rw[hlen];omega) ⟨arr,T,fr,harr,by omega⟩
       ·rw[hd]at hk;simp at hk
        have:=hcl (l*n+k) (by omega)
        rwa [← Nat.add_assoc]at this
       ·have hk2:=hk
        rw[hd]at hk2;simp at hk2
        have:=hr (l*n+k) (by omega)
        have e:(flat (es.drop l))[k]=(flat es)[l*n+k]'(by omega):=by simp only[hd];rw[List.getElem_drop]
        rw[e];exact this
       ·obtain⟨s,hs1,hs2⟩:=ht h2
        exact⟨s,hs1,by omega⟩
       ·have:=hf h1;omega
      ·rename_i hh
       have hh:h≠es.length:=by simpa using hh
       injection ho with ho;subst ho
       refine OkV.pure hS hrun ?_
       have hlen:((es.drop l).take (h - l)).length=h - l:=by simp;omega
       have hes2:∀e∈es.drop l,e.cells.length=n:=fun e he=>hes e (List.mem_of_mem_drop he)
       have hd2:=flat_take hes2 (h - l)
       rw[hd]at hd2
       have hmul2:(h - l)*n+l*n=h*n:=by rw[← Nat.add_mul];congr 1;omega
       have hmul3:h*n≤es.length*n:=Nat.mul_le_mul_right _ hhl
       have hq:=VR.sl (γ:=γ) (w:=w) 0 0 n ((es.drop l).take (h - l)) b (o+l*n) (cap - l) (fun k=>c (l*n+k)) hs (fun e he=>hes2 e (List.mem_of_mem_take he)) (fun x hx=>hone x (by rw[hd2]at hx;exact List.mem_of_mem_drop (List.mem_of_mem_take hx))) (fun k hk=>by
         rw[hd2]at hk;simp at hk
         have:=hcl (l*n+k) (by omega)
         rwa [← Nat.add_assoc]at this) (fun k hk=>by
         have hk2:=hk
         rw[hd2]at hk2;simp at hk2
         have:=hr (l*n+k) (by omega)
         have e:(flat ((es.drop l).take (h - l)))[k]=(flat es)[l*n+k]'(by omega):=by simp only[hd2];rw[List.getElem_take,List.getElem_drop]
         rw[e];exact this) (fun h2=>by omega) (fun h1=>by omega) (by rw[hlen];omega) ⟨arr,T,fr,harr,by omega⟩
       rwa [hlen]at hq
    ·cases ho
   ·cases ho
  ·rename_i n hn
   split at ho
   ·rename_i h1 h2
    injection ho with ho;subst ho
    cases hv
    have hb:=bounds_run (P:=P) (isS:=true) (len:=0) (cap:=0) hlo hlo0 hhi hhi0 h1 h2 (Nat.le_refl _) (Nat.le_refl _) (Nat.le_refl _)
    refine OkV.pure hS (v:=.slice none 0 0) ?_ .nils
    simp[Instr.sliceAt,Instr.slice,run_underlying hu,hb,sizeT_run hn]
   ·cases ho
  ·rename_i id off n0 sz n hn
   split at ho
   ·rename_i l h h1 h2
    split at ho
    ·rename_i hc
     simp only[Bool.and_eq_true,beq_iff_eq,decide_eq_true_eq]at hc
     obtain⟨⟨hns,hlh⟩,hhl⟩:=hc
     subst hns
     injection ho with ho;subst ho
     cases hv with
     |bs _ _ _ _ b s cap hloc hcp hsz hblk =>
     have hb:=bounds_run (P:=P) (isS:=true) hlo hlo0 hhi hhi0 h1 h2 (Nat.le_of_lt hlh) hhl hcp
     have hcl2:¬ cap=l:=by omega
     have hrun:(Instr.sliceAt t (.slice (some ⟨b,s+off,none⟩) n0 cap) vlo vhi none).run P w=.ok (.slice (some ⟨b,s+off+l*n,none⟩) (h - l) (cap - l)) w:=by
      simp[Instr.sliceAt,Instr.slice,run_underlying hu,hb,sizeT_run hn,Addr.add_mid,hcl2]
     obtain⟨arr,T,fr,harr,hle⟩:=hblk
     refine OkV.pure hS hrun ?_
     have hmul:l*n+(cap - l)*n=cap*n:=by rw[← Nat.add_mul];congr 1;omega
     have:=VR.bs (γ:=γ) (w:=w) id (off+l*n) (h - l) n b s (cap - l) hloc (by omega) hsz ⟨arr,T,fr,harr,by omega⟩
     rw[← Nat.add_assoc]at this
     exact this
    ·cases ho
   ·cases ho
  ·cases ho
 ·cases ho
def oExtract(a:AV)(i:Nat):Option AV:=match a with
 |.tup vs=>vs[i]?
 |_=>none
theorem oExtract_sound{γ:Gh}{S:St}{w:World}(hS:SR base w0 γ S w){a:AV}{v:Value}(hv:VR γ w a v){i:Nat}{r:AV}(ho:oExtract a i=some r):OkV P base w0 γ S w (Instr.extract v i) r S:=by
 unfold oExtract at ho
 split at ho
 ·cases hv with
  |tup vs x hx hk =>
  obtain⟨y,hy,hr⟩:=VRL.get (γ:=γ) (w:=w) ⟨hx,hk⟩ ho
  exact OkV.pure hS (by simp[Instr.extract,hy]) hr
 ·cases ho
def oMakeI(P:Program)(t:TypeId)(a:AV):Option AV:=match P.underlying t with
 |some (.interface _)=>none
 |some _=>some (.iface t a)
 |none=>none
theorem oMakeI_sound{γ:Gh}{S:St}{w:World}(hS:SR base w0 γ S w){a:AV}{v:Value}(hv:VR γ w a v){t:TypeId}{r:AV}(ho:oMakeI P t a=some r):OkV P base w0 γ S w (Instr.makeInterface t v) r S:=by
 unfold oMakeI at ho
 split at ho
 ·cases ho
 ·rename_i d hd hu
  injection ho with ho;subst ho
  refine OkV.pure hS (v:=.iface t v) ?_ (.iface t a v hv)
  simp only[Instr.makeInterface,Sem.run_bind,run_underlying hu,Result.andThen_ok]
  try (split; · rename_i ms;exact absurd rfl (hd ms))
  all_goals rfl
 ·cases ho
def neNil(P:Program)(t:TypeId)(a b:AV):Bool :=
 match P.underlying t,a,b with
 |some (.slice _),.sl _ _ _ _,.nils=>true
 |some (.slice _),.nils,.sl _ _ _ _=>true
 |some (.slice _),.bs _ _ _ _,.nils=>true
 |some (.slice _),.nils,.bs _ _ _ _=>true
 |some (.pointer _),.ptr _ _,.nilp=>true
 |some (.pointer _),.nilp,.ptr _ _=>true
 |some (.pointer _),.ep _,.nilp=>true
 |some (.pointer _),.nilp,.ep _=>true
 |some (.map _ _),.map _,.nilm=>true
 |some (.map _ _),.nilm,.map _=>true
 |some (.func _ _ _),.fn _ _ _,.v .nilFunc=>true
 |some (.func _ _ _),.v .nilFunc,.fn _ _ _=>true
 |some (.interface _),.iface _ _,.v .nilIface=>true
 |some (.interface _),.v .nilIface,.iface _ _=>true
 |_,_,_=>false
theorem neNil_sound{γ:Gh}{w:World}{t:TypeId}{a b:AV}{v u:Value}(hv:VR γ w a v)(hu:VR γ w b u)(h:neNil P t a b=true)(x y:Operand)(op:BinOp)(hop:op=.eql∨op=.neq):
  (do eqGuard op t x y v u;binOp op t v u:Sem Value).run P w=.ok (.bool (op == .neq)) w:=by
 have e:∃r,(Op.equal t v u).run P w=.ok r w∧r=false:=by
  refine⟨false,?_,rfl⟩
  suffices H:∀d,(Op.equalIn (d+1) t v u).run P w=.ok false w from H 9999
  intro d
  unfold neNil at h
  split at h <;> first | (rename_i hd;cases hv;cases hu;simp[Op.equalIn,run_underlying hd];done) | (cases h;done) |skip
  all_goals (rename_i hd;cases hv <;> cases hu <;> simp[Op.equalIn,run_underlying hd])
 obtain⟨r,hr,rfl⟩:=e
 unfold neNil at h
 rcases hop with rfl |rfl <;> (split at h <;> first | (cases hv;cases hu;simp[eqGuard,binOp,hr];done) | (cases h;done))
end Go.Ax
noncomputable section
namespace Go.Ax
open Go.RowKit
variable {P:Program} {base:Nat} {w0:World}
def srcA(P:Program)(tx:TypeId)(sz:Nat)(x:AV):Option (List AV) :=
 match P.underlying tx,x with
 |some (.slice _),.nils=>some []
 |some (.slice _),.sl _ _ sz' ns=>if sz' == sz then some ns else none
 |some .string,.v (.string s)=>if sz == 1 then some (s.data.toList.map fun b=>.v (.int .u8 b.toNat))else none
 |_,_=>none
def tipOk(S:St)(tok m:Nat):Bool:=match tok with
 |0=>false
 |1=>true
 |k+2=>match S.mem.get (k+2)with
  |some (.tip n)=>n == m
  |_=>false
theorem tipOk_spec{S:St}{tok m:Nat}(h:tipOk S tok m=true):tok=1∨2≤tok∧S.mem.get tok=some (.tip m):=by
 unfold tipOk at h
 split at h
 ·cases h
 ·exact .inl rfl
 ·rename_i k
  split at h
  ·rename_i n hn
   have:n=m:=by simpa using h
   subst this
   exact .inr ⟨by omega,hn⟩
  ·cases h
def oAppend(P:Program)(S:St)(t tx:TypeId)(a x:AV):Option (AV × St) :=
 match elemT P t with
 |some (none,e)=>match P.info? e with
  |some i=>match i.zero with
   |some z=>if z.cells.size == i.size && decide (0<i.size)then
     match srcA P tx i.size x with
     |some []=>match a with
      |.nils=>some (a,S)
      |.sl _ _ sz _=>if sz == i.size then some (a,S)else none
      |_=>none
     |some (n :: ns)=>match a with
      |.nils=>if decide ((n :: ns).length*i.bytes≤140737488355328) && decide ((n :: ns).length≤9223372036854775807)then some (.sl S.next 0 i.size (n :: ns),S.grown 1 ((n :: ns).length*i.size))else none
      |.sl tok off sz es=>if sz == i.size && decide ((es.length+(n :: ns).length)*i.bytes≤140737488355328) && decide (es.length+(n :: ns).length≤9223372036854775807) && tipOk S tok (off+es.length*i.size)then
        some (.sl S.next 0 i.size (es ++ n :: ns),S.grown tok ((es ++ n :: ns).length*i.size))else none
      |_=>none
     |none=>none
    else none
   |none=>none
  |none=>none
 |_=>none
theorem flat_bytes(l:List UInt8):flat (l.map fun b=>AV.v (.int .u8 b.toNat))=l.map fun b=>AV.v (.int .u8 b.toNat):=by
 induction l with
 |nil=>rfl
 |cons b r ih=>rw[List.map_cons,flat_cons,ih];rfl
theorem srcA_sound{γ:Gh}{w:World}{tx:TypeId}{sz:Nat}{x:AV}{v:Value}(hv:VR γ w x v){ns:List AV}(h:srcA P tx sz x=some ns):
  ∃news,Src P sz tx v ns.length news w∧(∀e∈ns,e.cells.length=sz)∧(∀x∈flat ns,x.one=true)∧VRL γ w (flat ns) news:=by
 unfold srcA at h
 split at h
 ·rename_i e' hu
  injection h with h;subst h
  cases hv
  exact⟨[],Src.ofNil w hu 0,fun _ h=>(by cases h),fun _ h=>(by simp[flat]at h),VRL.nil γ w⟩
 ·rename_i e' tok off sz' ns' hu
  split at h
  ·rename_i hs
   have hs:sz' = sz:=by simpa using hs
   subst hs
   injection h with h;subst h
   cases hv with
   |sl _ _ _ _ b o cap c hsz hes h1 hcl hr ht hf hc hb =>
   obtain⟨k1,k2⟩:=sl_cells hcl hr
   refine⟨_,Src.ofSlice w hu ⟨b,o,none⟩ ns'.length cap _ (by simp[flat_length hes]) (fun j u hu=>by rw[Addr.add_mid];exact k2 j u hu) (k1.ones h1),hes,h1,k1⟩
  ·cases h
 ·rename_i s hu
  split at h
  ·rename_i hs
   have hs:sz=1:=by simpa using hs
   subst hs
   injection h with h;subst h
   cases hv
   have hl:(s.data.toList.map fun b=>AV.v (.int .u8 b.toNat)).length=s.size:=by rw[List.length_map,Array.length_toList];rfl
   have:=Src.ofString (P:=P) w hu s
   refine⟨byteCells s,by rw[hl];exact this,fun e he=>?_,fun e he=>?_,?_⟩
   ·obtain⟨b,_,rfl⟩:=List.mem_map.1 he;rfl
   ·rw[flat_bytes]at he
    obtain⟨b,_,rfl⟩:=List.mem_map.1 he;rfl
   ·rw[flat_bytes]
    refine⟨by simp[byteCells],fun k hk hk'=>?_⟩
    simp[byteCells]
    exact .v _ rfl
  ·cases h
 ·cases h
theorem append_none{w:World}{t tx ty e:TypeId}{i:TypeInfo}(ht:P.underlying t=some (.slice e))(hi:P.info? e=some i){x:Value}(hs:Src P i.size tx x 0 [] w)(bs:Option Addr)(n c:Nat)(hc:n≤c):
  (Builtin.append_ #[t,tx] ty #[.slice bs n c,x]).run P w=.ok (.slice bs n c) w:=by
 rcases hs.kind with⟨e',hk⟩ |hk <;> cases bs <;> simp[Builtin.append_,run_underlying ht,run_underlying hk,sizeOf,typeInfo,hi,hs.len,hc,hs.cells,storeCells]
theorem oAppend_sound{γ:Gh}{S S':St}{w:World}(hS:SR base w0 γ S w){t tx ty:TypeId}{a x r:AV}{v u:Value}(hv:VR γ w a v)(hu:VR γ w x u)(ho:oAppend P S t tx a x=some (r,S')):
  OkV P base w0 γ S w (Builtin.append_ #[t,tx] ty #[v,u]) r S':=by
 unfold oAppend at ho
 split at ho
 ·rename_i e he
  have ht:=elemT_slice he
  split at ho
  ·rename_i i hi
   split at ho
   ·rename_i z hz
    split at ho
    ·rename_i hc
     simp only[Bool.and_eq_true,beq_iff_eq,decide_eq_true_eq]at hc
     split at ho
     ·rename_i hsrc
      obtain⟨news,s1,s2,s3,s4⟩:=srcA_sound hu hsrc
      have hn:news=[]:=List.eq_nil_of_length_eq_zero s4.1
      subst hn
      split at ho
      ·injection ho with ho;injection ho with h1 h2;subst h1;subst h2
       cases hv
       exact OkV.pure hS (append_none ht hi s1 none 0 0 (Nat.le_refl _)) .nils
      ·rename_i tok off sz es
       split at ho
       ·injection ho with ho;injection ho with h1 h2;subst h1;subst h2
        have hv':=hv
        cases hv with
        |sl _ _ _ _ b o cap c hsz hes h1 hcl hr ht2 hf hcp hb =>
        exact OkV.pure hS (append_none ht hi s1 (some ⟨b,o,none⟩) es.length cap hcp) hv'
       ·cases ho
      ·cases ho
     ·rename_i n ns hsrc
      obtain⟨news,s1,s2,s3,s4⟩:=srcA_sound hu hsrc
      split at ho
      ·split at ho
       ·rename_i hb
        simp only[Bool.and_eq_true,decide_eq_true_eq]at hb
        injection ho with ho;injection ho with h1 h2;subst h1;subst h2
        have:=append_sound hS t tx ty e i z i.size ht hi hz rfl hc.1 hc.2 u (n :: ns) news s1 s2 s3 s4 (Nat.succ_pos _) .nils v hv 1 [] (.inl ⟨rfl,rfl⟩) (by simpa using hb.1) (by simpa using hb.2)
        obtain⟨v',w',γ',k1,k2,k3,k4⟩:=this
        exact⟨v',w',γ',k1,by simpa using k2,by simpa using k3,by simpa using k4⟩
       ·cases ho
      ·rename_i tok off sz es
       split at ho
       ·rename_i hb
        simp only[Bool.and_eq_true,decide_eq_true_eq,beq_iff_eq]at hb
        obtain⟨⟨⟨hsz,hb1⟩,hb2⟩,hb3⟩:=hb
        subst hsz
        injection ho with ho;injection ho with h1 h2;subst h1;subst h2
        have:=append_sound hS t tx ty e i z i.size ht hi hz rfl hc.1 hc.2 u (n :: ns) news s1 s2 s3 s4 (Nat.succ_pos _) (.sl tok off i.size es) v hv tok es (.inr ⟨off,rfl,tipOk_spec hb3⟩) hb1 hb2
        obtain⟨v',w',γ',k1,k2,k3,k4⟩:=this
        exact⟨v',w',γ',k1,k2,k3,k4⟩
       ·cases ho
      ·cases ho
     ·cases ho
    ·cases ho
   ·cases ho
  ·cases ho
 ·cases ho
theorem getMap_run{w:World}{r:Nat}{es:Array MapEntry}{clock:Nat}(hb:w.heap[r]? = some (.map es clock)):(getObj r).run P w=.ok (.map es clock) w:=by
 simp[getObj,Sem.run,hb]
theorem setMap_run{w:World}{r:Nat}{es:Array MapEntry}{clock:Nat}(o:Obj)(hb:w.heap[r]? = some (.map es clock)):(setObj r o).run P w=.ok () { w with heap:=w.heap.setIfInBounds r o }:=by
 simp[setObj,Sem.run,hb]
def oLen(P:Program)(S:St)(t:TypeId)(a:AV):Option Nat :=
 match P.underlying t,a with
 |some (.slice _),.nils=>some 0
 |some (.slice _),.sl _ _ _ es=>some es.length
 |some (.slice _),.bs _ _ n _=>some n
 |some (.map _ _),.nilm=>some 0
 |some (.map _ _),.map id=>match S.mem.get id with
  |some (.mp es)=>some es.length
  |_=>none
 |some .string,.v (.string s)=>some s.size
 |some (.slice _),.v (.slice (some _) 0 0)=>some 0
 |_,_=>none
theorem oLen_sound{γ:Gh}{S:St}{w:World}(hS:SR base w0 γ S w){t ty:TypeId}{a:AV}{v:Value}(hv:VR γ w a v){n:Nat}(ho:oLen P S t a=some n):(Builtin.len_ #[t] ty #[v]).run P w=.ok (goInt n) w:=by
 unfold oLen at ho
 split at ho
 ·rename_i e hu;injection ho with ho;subst ho;cases hv;simp[Builtin.len_,run_underlying hu]
 ·rename_i e tok off sz es hu;injection ho with ho;subst ho;cases hv;simp[Builtin.len_,run_underlying hu]
 ·rename_i e id off m sz hu;injection ho with ho;subst ho;cases hv;simp[Builtin.len_,run_underlying hu]
 ·rename_i e e2 hu;injection ho with ho;subst ho;cases hv;simp[Builtin.len_,run_underlying hu]
 ·rename_i e e2 id hu
  split at ho
  ·rename_i es hm
   injection ho with ho;subst ho
   cases hv with
   |map _ b s hl =>
   obtain⟨b2,s2,l1,l2,l3⟩:=hS.live id _ hm
   rw[hl]at l1;injection l1 with l1;injection l1 with e1 e2;subst e1;subst e2
   obtain⟨_,ms,clock,ha,hr⟩:=l3
   have hl2:=hr.1
   have hl3:ms.size=es.length:=by simpa using hl2
   simp[Builtin.len_,run_underlying hu,getMap_run ha,hl3]
  ·cases ho
 ·rename_i s hu;injection ho with ho;subst ho;cases hv;simp[Builtin.len_,run_underlying hu]
 ·rename_i e a hu;injection ho with ho;subst ho;cases hv;simp[Builtin.len_,run_underlying hu]
 ·cases ho
theorem SR.mapSet{γ:Gh}{S:St}{w:World}(h:SR base w0 γ S w){id b s:Nat}{es es':List (Value × AV)}(hm:S.mem.get id=some (.mp es))(hl:γ.loc id=some (b,s)){ms:Array MapEntry}{clock:Nat}(hr:MapR γ w es' ms.toList):
  SR base w0 γ { S with mem:=S.mem.set id (some (.mp es')) } { w with heap:=w.heap.setIfInBounds b (.map ms clock) }∧Ext γ S w γ { S with mem:=S.mem.set id (some (.mp es')) } { w with heap:=w.heap.setIfInBounds b (.map ms clock) }:=by
 obtain⟨b2,s2,l1,l2,l3⟩:=h.live id _ hm
 rw[hl]at l1;injection l1 with l1;injection l1 with e1 e2;subst e1;subst e2
 obtain⟨hs0,ms0,clock0,ha,hr0⟩:=l3
 have hblt:=h.inb id b s hl
 have hne:∀k,k≠b→(w.heap.setIfInBounds b (.map ms clock))[k]? = w.heap[k]?:=fun k hk=>Array.getElem?_setIfInBounds_ne (by omega)
 have hself:(w.heap.setIfInBounds b (.map ms clock))[b]? = some (.map ms clock):=Array.getElem?_setIfInBounds_self_of_lt hblt
 have hnoim:∀o,¬ γ.im b o:=fun o ho=>by
  obtain⟨v,hv⟩:=h.imc b o ho
  simp[World.cell?,ha]at hv
 have ev:Ev γ w γ { w with heap:=w.heap.setIfInBounds b (.map ms clock) }:=by
  refine⟨fun _ _ h=>h,fun _ _ h=>h,fun b' o v hi hv=>?_,fun b' arr T fr h2=>?_⟩
  ·by_cases e:b' = b
   ·subst e;exact absurd hi (hnoim o)
   ·exact(World.cell?_of_block (a:=⟨b',o,none⟩) (w:=w) (hne b' e)).trans hv
  ·by_cases e:b' = b
   ·subst e;rw[ha]at h2;cases h2
   ·exact⟨arr,fr,(hne b' e).trans h2,rfl⟩
 have G:∀i,(S.mem.set id (some (.mp es'))).get i=if i=id then some (.mp es')else S.mem.get i:=fun i=>Go.Ax.T.get_set _ _ _ _
 have sub:∀i c,(S.mem.set id (some (.mp es'))).get i=some c→∃d,S.mem.get i=some d:=fun i c e=>by
  rw[G]at e
  split at e
  ·rename_i hq;exact⟨_,hq ▸ hm⟩
  ·exact⟨_,e⟩
 refine⟨⟨⟨h.below.os,h.below.tape,h.below.output,by simpa using h.below.size,fun k hk=>(hne k (by omega)).trans (h.below.block k hk)⟩,by simpa using h.hbase,fun b' o hi=>?_,fun i hi=>?_,h.pos,fun i b' s' e=>by simpa using h.inb i b' s' e,fun i c e=>?_,fun i i' c1 c2 b' s1 s2 e1 e2 q1 q2=>?_⟩,Ext.store (b:=b) ev (by simp) hne rfl ⟨id,_,s,hm,hl⟩ (fun i ⟨c,hc⟩=>sub i c hc)⟩
 ·obtain⟨v,hv⟩:=h.imc b' o hi;exact⟨v,ev.cell b' o v hi hv⟩
 ·have:=h.fresh i hi
  refine⟨this.1,?_⟩
  show(S.mem.set id _).get i=none
  rw[G,if_neg (fun e=>by subst e;rw[hl]at this;cases this.1)]
  exact this.2
 ·have e:(S.mem.set id _).get i=some c:=e
  rw[G]at e
  split at e
  ·rename_i hid
   injection e with e;subst e;subst hid
   exact⟨b,s,hl,l2,hs0,ms,clock,hself,hr.1,fun k h1 h2=>⟨(hr.2 k h1 h2).1,(hr.2 k h1 h2).2.mono ev⟩⟩
  ·rename_i hid
   obtain⟨b',s',q1,q2,q3⟩:=h.live i c e
   have hbb:b'≠b:=fun eb=>by subst eb;exact hid (h.inj i id c _ b' s' s e hm q1 hl)
   exact⟨b',s',q1,q2,q3.keep ev (hne b' hbb) (fun _ h=>h)⟩
 ·obtain⟨d1,E1⟩:=sub i c1 e1
  obtain⟨d2,E2⟩:=sub i' c2 e2
  exact h.inj i i' d1 d2 b' s1 s2 E1 E2 q1 q2
def findA(d:TypeDesc)(k:Value):List (Value × AV)→Nat→Option (Option (Nat × AV))
 | [],_=>some none
 | (k',a) :: es,i=>match Instr.sameNow d k k' with
  |some true=>some (some (i,a))
  |some false=>findA d k es (i+1)
  |none=>none
theorem MapR.tail{γ:Gh}{w:World}{k:Value}{a:AV}{es:List (Value × AV)}{m:MapEntry}{ms:List MapEntry}(h:MapR γ w ((k,a) :: es) (m :: ms)):m.key=k∧VR γ w a m.val∧MapR γ w es ms:=by
 have h0:=h.2 0 (by simp) (by simp)
 exact⟨h0.1,h0.2,by simpa using h.1,fun j h1 h2=>h.2 (j+1) (by simpa using h1) (by simpa using h2)⟩
theorem findA_sound{γ:Gh}{w:World}{d:TypeDesc}{k:Value}:∀{es:List (Value × AV)} {ms:List MapEntry} {i:Nat} {r:Option (Nat × AV)},MapR γ w es ms→findA d k es i=some r →
  (r=none∧Instr.findNow d k ms i=some none)∨∃j a v,r=some (i+j,a)∧Instr.findNow d k ms i=some (some (i+j,v))∧VR γ w a v∧(∃k',es[j]? = some (k',a)∧Instr.sameNow d k k' = some true)
 | [],ms,i,r,hm,h=>by
  have:ms=[]:=List.eq_nil_of_length_eq_zero hm.1
  subst this
  injection h with h
  exact .inl ⟨h.symm,rfl⟩
 | (k',a) :: es,ms,i,r,hm,h=>by
  cases ms with
  |nil=>have:=hm.1;simp at this
  |cons m ms =>
  obtain⟨h1,h2,h3⟩:=hm.tail
  unfold findA at h
  split at h
  ·rename_i hs
   injection h with h
   exact .inr ⟨0,a,m.val,by simpa using h.symm,by simp[Instr.findNow,h1,hs],h2,k',rfl,hs⟩
  ·rename_i hs
   rcases findA_sound h3 h with⟨e1,e2⟩ | ⟨j,a',v,e1,e2,e3,k2,e4,e5⟩
   ·exact .inl ⟨e1,by simp[Instr.findNow,h1,hs,e2]⟩
   ·exact .inr ⟨j+1,a',v,by rw[e1];congr 2;omega,by simp[Instr.findNow,h1,hs,e2];omega,e3,k2,by simpa using e4,e5⟩
  ·cases h
def plainKey:TypeDesc→Bool
 |.string=>true
 |.int _=>true
 |.bool=>true
 |_=>false
theorem checkKey_run{t:TypeId}{d:TypeDesc}(hu:P.underlying t=some d)(hd:plainKey d=true)(e:Bool)(n:Nat)(v:Value)(w:World):(Instr.checkKey e (n+1) t v).run P w=.ok () w:=by
 cases d <;> first | (cases hd;done) |simp[Instr.checkKey,run_underlying hu]
def mapT(P:Program)(t:TypeId):Option (TypeId × TypeDesc × TypeId):=match P.underlying t with
 |some (.map k e)=>match P.underlying k with
  |some d=>if plainKey d then some (k,d,e)else none
  |none=>none
 |_=>none
theorem mapT_spec{t k e:TypeId}{d:TypeDesc}(h:mapT P t=some (k,d,e)):P.underlying t=some (.map k e)∧P.underlying k=some d∧plainKey d=true:=by
 unfold mapT at h
 split at h
 ·rename_i k' e' hu
  split at h
  ·rename_i d' hd
   split at h
   ·rename_i hp
    injection h with h;injection h with h1 h2;injection h2 with h2 h3;subst h1;subst h2;subst h3
    exact⟨hu,hd,hp⟩
   ·cases h
  ·cases h
 ·cases h
def entriesA(S:St):AV→Option (List (Value × AV))
 |.nilm=>some []
 |.map id=>match S.mem.get id with
  |some (.mp es)=>some es
  |_=>none
 |_=>none
def oLookup(P:Program)(S:St)(t:TypeId)(m k:AV)(ok:Bool):Option AV :=
 match mapT P t,entriesA S m,toVal 8 k with
 |some (kt,d,et),some es,some kv=>match findA d kv es 0 with
  |some (some (_,a))=>some (if ok then .tup [a,.v (.bool true)]else a)
  |some none=>match zeroA P et with
   |some z=>some (if ok then .tup [z,.v (.bool false)]else z)
   |none=>none
  |none=>none
 |_,_,_=>none
theorem vr_pair{γ:Gh}{w:World}{a:AV}{v:Value}(h:VR γ w a v)(b:Bool):VR γ w (.tup [a,.v (.bool b)]) (.tuple #[v,.bool b]):=by
 have:=VRL.cons h (VRL.cons (.v (.bool b) rfl) (VRL.nil γ w))
 exact .tup [a,.v (.bool b)] [v,.bool b] this.1 this.2
theorem oLookup_sound{γ:Gh}{S:St}{w:World}(hS:SR base w0 γ S w){t:TypeId}{m k:AV}{vm vk:Value}(hm:VR γ w m vm)(hk:VR γ w k vk){ok:Bool}{r:AV}(ho:oLookup P S t m k ok=some r):OkV P base w0 γ S w (Instr.lookup t vm vk ok) r S:=by
 unfold oLookup at ho
 split at ho
 ·rename_i kt d et es kv ht hes hkv
  obtain⟨u1,u2,u3⟩:=mapT_spec ht
  have hkk:=toVal_sound hkv hk
  subst hkk
  have key:∃ms:Array MapEntry,MapR γ w es ms.toList∧((vm=.map none∧ms=#[])∨∃b clock,vm=.map (some b)∧w.heap[b]? = some (.map ms clock)):=by
   unfold entriesA at hes
   split at hes
   ·injection hes with hes;subst hes
    cases hm
    exact⟨#[],⟨rfl,fun _ h=>by cases h⟩,.inl ⟨rfl,rfl⟩⟩
   ·rename_i id
    split at hes
    ·rename_i es' hme
     injection hes with hes;subst hes
     cases hm with
     |map _ b s hl =>
     obtain⟨b2,s2,l1,l2,l3⟩:=hS.live id _ hme
     rw[hl]at l1;injection l1 with l1;injection l1 with e1 e2;subst e1;subst e2
     obtain⟨_,ms,clock,ha,hr⟩:=l3
     exact⟨ms,hr,.inr ⟨b,clock,rfl,ha⟩⟩
    ·cases hes
   ·cases hes
  obtain⟨ms,hmr,hcase⟩:=key
  have hck:=fun e=>checkKey_run (P:=P) u2 u3 e 9999 vk w
  split at ho
  ·rename_i j a hfa
   injection ho with ho;subst ho
   rcases findA_sound hmr hfa with⟨e1,e2⟩ | ⟨j',a',v,e1,e2,e3,_⟩
   ·cases e1
   ·injection e1 with e1;injection e1 with e11 e12;subst e12
    have hfk:(Instr.findKey kt vk ms.toList).run P w=.ok (some (0+j',v)) w:=by
     simp only[Instr.findKey,Sem.run_bind,run_underlying u2,Result.andThen_ok,e2,Sem.run_pure]
    have hr:(Instr.lookup t vm vk ok).run P w=.ok (if ok then .tuple #[v,.bool true]else v) w:=by
     rcases hcase with⟨rfl,rfl⟩ | ⟨b,clock,rfl,hb⟩
     ·have hfk':=hfk
      simp only[Array.toList_empty]at hfk'
      simp[Instr.lookup,run_underlying u1,hck,hfk']
     ·simp[Instr.lookup,run_underlying u1,getMap_run hb,hck,hfk]
    refine OkV.pure hS hr ?_
    cases ok
    ·exact e3
    ·exact vr_pair e3 true
  ·rename_i hfa
   split at ho
   ·rename_i z hz
    injection ho with ho;subst ho
    obtain⟨zv,hzr,hzv⟩:=zeroA_sound (γ:=γ) (w:=w) hz
    rcases findA_sound hmr hfa with⟨e1,e2⟩ | ⟨j',a',v,e1,_⟩
    ·have hfk:(Instr.findKey kt vk ms.toList).run P w=.ok none w:=by
      simp only[Instr.findKey,Sem.run_bind,run_underlying u2,Result.andThen_ok,e2,Sem.run_pure]
     have hr:(Instr.lookup t vm vk ok).run P w=.ok (if ok then .tuple #[zv,.bool false]else zv) w:=by
      rcases hcase with⟨rfl,rfl⟩ | ⟨b,clock,rfl,hb⟩
      ·have hfk':=hfk
       simp only[Array.toList_empty]at hfk'
       simp[Instr.lookup,run_underlying u1,hck,hfk',hzr]
      ·simp[Instr.lookup,run_underlying u1,getMap_run hb,hck,hfk,hzr]
     refine OkV.pure hS hr ?_
     cases ok
     ·exact hzv
     ·exact vr_pair hzv false
    ·cases e1
   ·cases ho
  ·cases ho
 ·cases ho
end Go.Ax
noncomputable section
namespace Go.Ax
open Go.RowKit
variable {P:Program} {base:Nat} {w0:World}
def oMakeMap(S:St):AV × St:=(.map S.next,{ next:=S.next+1,mem:=S.mem.set S.next (some (.mp [])) })
theorem oMakeMap_sound{γ:Gh}{S:St}{w:World}(hS:SR base w0 γ S w)(t:TypeId):OkV P base w0 γ S w (Instr.makeMap t none) (oMakeMap S).1 (oMakeMap S).2:=by
 obtain⟨k1,k2⟩:=hS.newMap
 exact⟨.map (some w.heap.size),w.alloc (.map #[] 0),_,by simp[Instr.makeMap],k1,Ext.newBox hS _ _,.map S.next w.heap.size 0 (by show(if S.next=S.next then _ else _)=_;rw[if_pos rfl])⟩
theorem bytes_beq{a b:ByteArray}(h:(a == b)=true):a=b:=by
 obtain⟨a⟩:=a
 obtain⟨b⟩:=b
 have h:(a == b)=true:=h
 rw[eq_of_beq h]
theorem bytes_refl(a:ByteArray):(a == a)=true:=by
 obtain⟨a⟩:=a
 show(a == a)=true
 simp
theorem sameNow_eq{d:TypeDesc}{k k':Value}(h:Instr.sameNow d k k' = some true):k' = k∧∀n,Instr.sameBits n k' k=true:=by
 unfold Instr.sameNow at h
 split at h
 ·rename_i kd a kd' b
  split at h
  ·rename_i hk
   subst hk
   injection h with h
   have:a=b:=by simpa using h
   subst this
   exact⟨rfl,fun n=>by simp[Instr.sameBits]⟩
  ·cases h
 ·rename_i a b
  injection h with h
  have:a=b:=bytes_beq h
  subst this
  exact⟨rfl,fun n=>by simp[Instr.sameBits,bytes_refl]⟩
 ·rename_i a b
  injection h with h
  have:a=b:=by simpa using h
  subst this
  exact⟨rfl,fun n=>by simp[Instr.sameBits]⟩
 ·cases h
theorem MapR.snoc{γ:Gh}{w:World}{es:List (Value × AV)}{ms:Array MapEntry}(h:MapR γ w es ms.toList){k:Value}{a:AV}{v:Value}(hv:VR γ w a v)(born:Nat):MapR γ w (es ++ [(k,a)]) (ms.push { key:=k,val:=v,born }).toList:=by
 obtain⟨hl,hk⟩:=h
 refine⟨by simp at hl ⊢;exact hl,fun i h1 h2=>?_⟩
 simp only[Array.toList_push]at h2 ⊢
 by_cases hi:i<es.length
 ·rw[List.getElem_append_left (by omega),List.getElem_append_left hi]
  exact hk i hi (by omega)
 ·have hi2:i=es.length:=by simp at h1;omega
  subst hi2
  rw[List.getElem_append_right (by omega),List.getElem_append_right (by omega)]
  simp[hl]
  exact hv
theorem MapR.put{γ:Gh}{w:World}{es:List (Value × AV)}{ms:Array MapEntry}(h:MapR γ w es ms.toList){k:Value}{a:AV}{v:Value}(hv:VR γ w a v)(j:Nat):MapR γ w (es.set j (k,a)) (ms.modify j fun e=>{ e with key:=k,val:=v }).toList:=by
 obtain⟨hl,hk⟩:=h
 refine⟨by simp at hl ⊢;exact hl,fun i h1 h2=>?_⟩
 have h1':i<es.length:=by simpa using h1
 have h2':i<ms.size:=by simp at hl;omega
 have:=hk i h1' (by simpa using h2')
 rw[List.getElem_set]
 have e:(ms.modify j fun e=>{ e with key:=k,val:=v }).toList[i]=if j=i then { ms[i]with key:=k,val:=v } else ms[i]:=by
  rw[Array.getElem_toList,Array.getElem_modify]
 rw[e]
 split
 ·exact⟨rfl,hv⟩
 ·simpa using this
def oMapUpdate(P:Program)(S:St)(t:TypeId)(m k x:AV):Option St :=
 match m with
 |.map id=>match mapT P t,S.mem.get id,toVal 8 k with
  |some (_,d,_),some (.mp es),some kv=>match findA d kv es 0 with
   |some (some (j,_))=>some { S with mem:=S.mem.set id (some (.mp (es.set j (kv,x)))) }
   |some none=>some { S with mem:=S.mem.set id (some (.mp (es ++ [(kv,x)]))) }
   |none=>none
  |_,_,_=>none
 |_=>none
theorem oMapUpdate_sound{γ:Gh}{S S':St}{w:World}(hS:SR base w0 γ S w){t:TypeId}{m k x:AV}{vm vk vx:Value}(hm:VR γ w m vm)(hk:VR γ w k vk)(hx:VR γ w x vx)(ho:oMapUpdate P S t m k x=some S'):
  ∃w' γ',(Instr.mapUpdate t vm vk vx).run P w=.ok () w'∧SR base w0 γ' S' w'∧Ext γ S w γ' S' w':=by
 unfold oMapUpdate at ho
 split at ho
 ·rename_i id
  split at ho
  ·rename_i kt d et es kv ht hme hkv
   obtain⟨u1,u2,u3⟩:=mapT_spec ht
   have hkk:=toVal_sound hkv hk
   subst hkk
   cases hm with
   |map _ b s hl =>
   obtain⟨b2,s2,l1,l2,l3⟩:=hS.live id _ hme
   rw[hl]at l1;injection l1 with l1;injection l1 with e1 e2;subst e1;subst e2
   obtain⟨_,ms,clock,ha,hr⟩:=l3
   have hck:=checkKey_run (P:=P) u2 u3 false 9999 vk w
   split at ho
   ·rename_i j a hfa
    injection ho with ho;subst ho
    rcases findA_sound hr hfa with⟨e1,e2⟩ | ⟨j',a',v,e1,e2,e3,k',e4,e5⟩
    ·cases e1
    ·injection e1 with e1;injection e1 with e11 e12;subst e12
     have hj:j=j':=by omega
     subst hj
     have hfk:(Instr.findKey kt vk ms.toList).run P w=.ok (some (j,v)) w:=by
      simp only[Instr.findKey,Sem.run_bind,run_underlying u2,Result.andThen_ok,e2,Sem.run_pure,Nat.zero_add]
     obtain⟨q1,q2⟩:=sameNow_eq e5
     subst q1
     obtain⟨hjl,hje⟩:=List.getElem?_eq_some_iff.1 e4
     have hjm:j<ms.size:=by have:=hr.1;simp at this;omega
     have hkey:ms[j].key=k':=by
      have:=(hr.2 j hjl (by simpa using hjm)).1
      rw[hje]at this
      simpa using this
     have hb:Instr.sameBits 10000 k' k' = true:=q2 10000
     obtain⟨r1,r2⟩:=hS.mapSet (es':=es.set j (k',x)) (clock:=clock) hme hl (hr.put (k:=k') hx j)
     refine⟨_,γ,?_,r1,r2⟩
     simp[Instr.mapUpdate,run_underlying u1,getMap_run ha,hck,hfk,Instr.keyThatStays,hjm,hkey,hb,setMap_run _ ha]
   ·rename_i hfa
    injection ho with ho;subst ho
    rcases findA_sound hr hfa with⟨e1,e2⟩ | ⟨j',a',v,e1,_⟩
    ·have hfk:(Instr.findKey kt vk ms.toList).run P w=.ok none w:=by
      simp only[Instr.findKey,Sem.run_bind,run_underlying u2,Result.andThen_ok,e2,Sem.run_pure]
     obtain⟨r1,r2⟩:=hS.mapSet (es':=es ++ [(vk,x)]) (clock:=clock+1) hme hl (hr.snoc (k:=vk) hx clock)
     refine⟨_,γ,?_,r1,r2⟩
     simp[Instr.mapUpdate,run_underlying u1,getMap_run ha,hck,hfk,setMap_run _ ha]
    ·cases e1
   ·cases ho
  ·cases ho
 ·cases ho
def oAssert(P:Program)(t:TypeId)(ok:Bool)(a:AV):Option AV :=
 match P.underlying t with
 |none=>none
 |some (.interface _)=>none
 |some _=>match a with
  |.iface u x=>if u == t then some (if ok then .tup [x,.v (.bool true)]else x)
   else if ok then(match zeroA P t with |some z=>some (.tup [z,.v (.bool false)]) |none=>none)else none
  |.v .nilIface=>if ok then(match zeroA P t with |some z=>some (.tup [z,.v (.bool false)]) |none=>none)else none
  |_=>none
theorem oAssert_sound{γ:Gh}{S:St}{w:World}(hS:SR base w0 γ S w){t xt:TypeId}{ok:Bool}{a:AV}{v:Value}(hv:VR γ w a v){r:AV}(ho:oAssert P t ok a=some r):OkV P base w0 γ S w (Instr.typeAssert v xt t ok) r S:=by
 unfold oAssert at ho
 split at ho
 ·cases ho
 ·cases ho
 ·rename_i d hd hu
  have hnot:∀ms,d≠.interface ms:=fun ms e=>hd ms e
  split at ho
  ·rename_i u x
   cases hv with
   |iface _ _ xv hx =>
   split at ho
   ·rename_i hut
    have hut:u=t:=by simpa using hut
    subst hut
    injection ho with ho;subst ho
    cases ok
    ·refine OkV.pure hS (v:=xv) ?_ hx
     simp only[Instr.typeAssert,Sem.run_bind,run_underlying hu,Result.andThen_ok]
     cases d <;> first |exact absurd rfl (hnot _) |simp
    ·refine OkV.pure hS (v:=.tuple #[xv,.bool true]) ?_ (vr_pair hx true)
     simp only[Instr.typeAssert,Sem.run_bind,run_underlying hu,Result.andThen_ok]
     cases d <;> first |exact absurd rfl (hnot _) |simp
   ·rename_i hut
    have hut:¬ u=t:=by simpa using hut
    split at ho
    ·rename_i hok
     split at ho
     ·rename_i z hz
      injection ho with ho;subst ho
      obtain⟨zv,hzr,hzv⟩:=zeroA_sound (γ:=γ) (w:=w) hz
      refine OkV.pure hS (v:=.tuple #[zv,.bool false]) ?_ (vr_pair hzv false)
      simp only[Instr.typeAssert,Sem.run_bind,run_underlying hu,Result.andThen_ok]
      cases d <;> first |exact absurd rfl (hnot _) |simp[hut,hok,hzr]
     ·cases ho
    ·cases ho
  ·cases hv
   split at ho
   ·rename_i hok
    split at ho
    ·rename_i z hz
     injection ho with ho;subst ho
     obtain⟨zv,hzr,hzv⟩:=zeroA_sound (γ:=γ) (w:=w) hz
     refine OkV.pure hS (v:=.tuple #[zv,.bool false]) ?_ (vr_pair hzv false)
     simp only[Instr.typeAssert,Sem.run_bind,run_underlying hu,Result.andThen_ok]
     cases d <;> first |exact absurd rfl (hnot _) |simp[hok,hzr]
    ·cases ho
   ·cases ho
  ·cases ho
end Go.Ax
noncomputable section
namespace Go.Ax
open Go.RowKit
variable {P:Program} {base:Nat} {w0:World}
def byteA(b:UInt8):AV:=.v (.int .u8 b.toNat)
def intsA:List AV→Option (List Int)
 | []=>some []
 |.v (.int .u8 n) :: r=>match intsA r with
  |some l=>some (n :: l)
  |none=>none
 |_=>none
def oConvert(P:Program)(src dst:TypeId)(a:AV):Option AV :=
 match P.underlying src,P.underlying dst,a with
 |some .string,some (.slice e),.v (.string s)=>match P.underlying e with
  |some (.int .u8)=>some (.sl 0 0 1 (s.data.toList.map byteA))
  |_=>none
 |some (.slice e),some .string,.sl _ _ sz es=>match P.underlying e with
  |some (.int .u8)=>if sz == 1 then match intsA es with
    |some l=>some (.v (.string (l.foldl (fun r n=>r.push (UInt8.ofNat n.toNat)) ByteArray.empty)))
    |none=>none
   else none
  |_=>none
 |_,_,_=>none
theorem intsA_sound{γ:Gh}{w:World}:∀{es:List AV} {l:List Int} {vs:List Value},intsA es=some l→VRL γ w (flat es) vs→vs=l.map (Value.int .u8)
 | [],l,vs,h,hv=>by
  injection h with h;subst h
  exact List.eq_nil_of_length_eq_zero hv.1
 |a :: r,l,vs,h,hv=>by
  cases a with
  |v x =>
   cases x with
   |int k n =>
    cases k <;> simp only[intsA]at h <;> try (cases h;done)
    split at h
    ·rename_i l' hl
     injection h with h;subst h
     rw[flat_cons]at hv
     obtain⟨y,ys,rfl,hy,hys⟩:=VRL.head (as:=flat r) hv
     cases hy
     rw[intsA_sound hl hys];rfl
    ·cases h
   |_=>simp[intsA]at h
  |_=>simp[intsA]at h
theorem oConvert_sound{γ:Gh}{S:St}{w:World}(hS:SR base w0 γ S w){src dst:TypeId}{a:AV}{v:Value}(hv:VR γ w a v){r:AV}(ho:oConvert P src dst a=some r):OkV P base w0 γ S w (convert src dst v) r S:=by
 unfold oConvert at ho
 split at ho
 ·rename_i e s h1 h2
  split at ho
  ·rename_i h3
   injection ho with ho;subst ho
   cases hv
   obtain⟨d1,d2⟩:=hS.drew
   have hrun:=run_bytes_of_string w src dst e s h1 h2 h3
   have hge:=grownCap_ge w s.size 0 e
   generalize grownCap w s.size 0 e=cap at hrun hge
   obtain⟨arr,harr⟩:∃arr:Array Value,arr=bytesRow s cap:=⟨_,rfl⟩
   rw[← harr]at hrun
   have hds:s.data.size=s.size:=rfl
   have hal:arr.size=cap:=by rw[harr];simp[bytesRow];omega
   obtain⟨k1,k2⟩:=d1.allocIm arr e s.size (by omega) (arr.size,arr.size+1)
   have hx:=Ext.allocIm (S:=S) arr e s.size k2
   have hx2:Ext γ S w _ S _:=Ext.trans (S1:=S) (w1:=w.drew) (Ext.of_same (w:=w) (w':=w.drew) rfl d2) hx
   have e1:w.drew.heap.size=w.heap.size:=rfl
   refine⟨.slice (some ⟨w.heap.size,0,none⟩) s.size cap,_,_,hrun,k1,hx2,?_⟩
   have hl:(s.data.toList.map byteA).length=s.size:=by rw[List.length_map,Array.length_toList];rfl
   have hfl:flat (s.data.toList.map byteA)=s.data.toList.map byteA:=flat_bytes _
   have hcell:∀k,k<s.data.size→arr[k]? = some (.int .u8 ((s.data[k]?.getD 0).toNat:Int)):=fun k hk=>by
    rw[harr]
    unfold bytesRow
    rw[Array.getElem?_append_left (by simpa using hk),Array.getElem?_map,Array.getElem?_eq_getElem hk]
    rfl
   have:=VR.sl (γ:=γ.withIm w.drew.heap.size 0 s.size) (w:=w.drew.alloc (.cells arr e (arr.size,arr.size+1))) 0 0 1 (s.data.toList.map byteA) w.heap.size 0 cap (fun k=>.int .u8 ((s.data[k]?.getD 0).toNat:Int)) (by decide) (fun x hx=>by obtain⟨b,_,rfl⟩:=List.mem_map.1 hx;rfl) (fun x hx=>by
     rw[hfl]at hx;obtain⟨b,_,rfl⟩:=List.mem_map.1 hx;rfl) (fun k hk=>by
     rw[hfl,hl]at hk
     refine⟨.inr ⟨rfl,by omega,by omega⟩,?_⟩
     have:=alloc_new_cell w.drew arr e (fr:=(arr.size,arr.size+1)) (hcell k hk)
     rw[e1]at this
     rw[Nat.zero_add]
     exact this) (fun k hk=>by
     have hk2:=hk
     rw[hfl,hl]at hk2
     have h5:k<s.data.size:=by omega
     have:(flat (s.data.toList.map byteA))[k]=byteA s.data[k]:=by simp only[hfl];simp
     rw[this]
     have h6:(s.data[k]?.getD 0)=s.data[k]:=by rw[Array.getElem?_eq_getElem h5];rfl
     rw[h6]
     exact .v _ rfl) (fun h=>by omega) (fun h=>by omega) (by omega) ⟨arr,e,(arr.size,arr.size+1),by
      have:=heap_alloc_new w.drew (.cells arr e (arr.size,arr.size+1))
      rwa [e1]at this,by omega⟩
   rw[hl]at this
   exact this
  ·cases ho
 ·rename_i e tok off sz es h1 h2
  split at ho
  ·rename_i h3
   split at ho
   ·rename_i hsz
    have hsz:sz=1:=by simpa using hsz
    subst hsz
    split at ho
    ·rename_i l hl
     injection ho with ho;subst ho
     cases hv with
     |sl _ _ _ _ b o cap c hs hes hone hcl hr ht hf hc hb =>
     obtain⟨s1,s2⟩:=sl_cells hcl hr
     have hvs:=intsA_sound hl s1
     have hfe:(flat es).length=es.length:=by rw[flat_length hes];simp
     have hld:(loadCells ⟨b,o,none⟩ es.length).run P w=.ok (l.map (Value.int .u8)).toArray w:=by
      have:=run_loadCells_list (P:=P) w ⟨b,o,none⟩ ((List.range (flat es).length).map c) (fun j u hu=>by rw[Addr.add_mid];exact s2 j u hu)
      rw[hvs]at this
      have hll:(l.map (Value.int .u8)).length=es.length:=by rw[← hvs];simp[hfe]
      rwa [hll]at this
     refine OkV.pure hS (v:=.string (l.foldl (fun r n=>r.push (UInt8.ofNat n.toNat)) ByteArray.empty)) ?_ (.v _ rfl)
     rw[run_convert_bytes_string w src dst e (some ⟨b,o,none⟩) es.length cap h1 h3 h2]
     exact run_bytesToString w ⟨b,o,none⟩ es.length cap l hld
    ·cases ho
   ·cases ho
  ·cases ho
 ·cases ho
end Go.Ax
noncomputable section
namespace Go.Ax
open Go.RowKit
variable {P:Program}
def eqBytes:List UInt8→List UInt8→Bool:=List.rec (fun m=>List.rec true (fun _ _ _=>false) m) (fun a _ ih m=>List.rec false (fun b r _=>Bool.rec false (ih r) (Nat.beq a.toNat b.toNat)) m)
theorem eqBytes_eq:∀(l m:List UInt8),eqBytes l m=(l == m)
 | [],[]=>rfl
 | [],_ :: _=>rfl
 |_ :: _,[]=>rfl
 |a :: l,b :: m=>by
  have ih:=eqBytes_eq l m
  show Bool.rec false (eqBytes l m) (Nat.beq a.toNat b.toNat)=(a :: l == b :: m)
  rw[ih]
  have h:Nat.beq a.toNat b.toNat=(a == b):=by
   rw[Bool.eq_iff_iff,Nat.beq_eq,beq_iff_eq]
   exact⟨fun h=>UInt8.toNat_inj.1 h,fun h=>by rw[h]⟩
  rw[h]
  show _=(a == b && l == m)
  cases a == b <;> rfl
def fastBin(op:BinOp)(a b:AV):Option AV :=
 match a,b with
 |.v (.int k x),.v (.int k' y)=>if k=k' then(match op with
   |.add=>some (.v (.int k (k.wrap (x+y))))
   |.sub=>some (.v (.int k (k.wrap (x - y))))
   |.mul=>some (.v (.int k (k.wrap (x*y))))
   |.eql=>some (.v (.bool (x == y)))
   |.neq=>some (.v (.bool (x != y)))
   |.lss=>some (.v (.bool (x<y)))
   |.leq=>some (.v (.bool (x≤y)))
   |.gtr=>some (.v (.bool (x > y)))
   |.geq=>some (.v (.bool (x ≥ y)))
   |.rem=>if 0<y then some (.v (.int k (x.tmod y)))else none
   |_=>none)else none
 |.v (.string s),.v (.string u)=>(match op with
   |.add=>if s.size+u.size≤4611686018427387904 then some (.v (.string ⟨⟨s.data.toList ++ u.data.toList⟩⟩))else none
   |.eql=>some (.v (.bool (eqBytes s.data.toList u.data.toList)))
   |.neq=>some (.v (.bool (!eqBytes s.data.toList u.data.toList)))
   |_=>none)
 |_,_=>none
theorem cat_eq(s u:ByteArray):(⟨⟨s.data.toList ++ u.data.toList⟩⟩:ByteArray)=s ++ u:=by
 apply ByteArray.ext
 apply Array.ext'
 simp
theorem add_sound{γ:Gh}{w:World}{t:TypeId}{x y:Operand}{s s':ByteArray}{r:AV}(h:(if s.size+s'.size≤4611686018427387904 then some (AV.v (.string ⟨⟨s.data.toList ++ s'.data.toList⟩⟩))else none)=some r):∃z,(do eqGuard .add t x y (.string s) (.string s');binOp .add t (.string s) (.string s'):Sem Value).run P w=.ok z w∧VR γ w r z:=by
 by_cases hsz:s.size+s'.size≤4611686018427387904
 ·rw[if_pos hsz]at h;injection h with h;subst h
  refine⟨.string (s ++ s'),?_,?_⟩
  ·simp[eqGuard,binOp,Op.stringOp];omega
  ·rw[cat_eq];exact .v _ rfl
 ·rw[if_neg hsz]at h;cases h
theorem fastBin_sound{γ:Gh}{w:World}{op:BinOp}{a b r:AV}{v u:Value}(hv:VR γ w a v)(hu:VR γ w b u)(h:fastBin op a b=some r)(t:TypeId)(x y:Operand):∃z,(do eqGuard op t x y v u;binOp op t v u:Sem Value).run P w=.ok z w∧VR γ w r z:=by
 unfold fastBin at h
 split at h
 ·rename_i k i k' j
  cases hv;cases hu
  split at h
  ·rename_i hk
   subst hk
   cases op <;> simp only at h <;> first | (cases h;done) | (injection h with h;subst h;exact⟨_,by simp[eqGuard,binOp,Op.intArith,Op.intCmp],.v _ rfl⟩) | (by_cases hp:0<j;(rw[if_pos hp]at h;injection h with h;subst h;exact⟨_,by simp[eqGuard,binOp,Op.intDiv,show j≠0 by omega],.v _ rfl⟩);(rw[if_neg hp]at h;cases h))
  ·cases h
 ·rename_i s s'
  cases hv;cases hu
  cases op <;> simp only at h <;> first | (cases h;done) |exact add_sound h | (injection h with h;subst h;exact⟨_,by simp[eqGuard,binOp,Op.stringOp];rfl,by rw[eqBytes_eq,← ByteArray.toList_eq,← ByteArray.toList_eq];exact .v _ rfl⟩)
 ·cases h
def fastSlice(P:Program)(t:TypeId)(a:AV)(lo hi:Option AV):Option AV :=
 match a with
 |.v (.string s)=>match P.underlying t with
  |some .string=>match boundA lo 0,boundA hi s.size with
   |some l,some h=>Bool.rec (motive:=fun _=>Option AV) none (Bool.rec (motive:=fun _=>Option AV) none (some (.v (.string ⟨⟨(s.data.toList.drop l).take (Nat.sub h l)⟩⟩))) (Nat.ble h s.size)) (Nat.ble l h)
   |_,_=>none
  |_=>none
 |_=>none
theorem extract_cut(s:ByteArray)(l h:Nat):s.extract l h=⟨⟨(s.data.toList.drop l).take (h - l)⟩⟩:=by
 apply ByteArray.ext
 apply Array.toList_inj.1
 simp[ByteArray.data_extract,Array.toList_extract]
theorem fastSlice_sound{base:Nat}{w0:World}{γ:Gh}{S:St}{w:World}(hS:SR base w0 γ S w){t:TypeId}{a:AV}{v:Value}(hv:VR γ w a v){lo hi:Option AV}{vlo vhi:Option Value}(hlo:∀a,lo=some a→∃v,vlo=some v∧VR γ w a v)(hlo0:lo=none→vlo=none)
  (hhi:∀a,hi=some a→∃v,vhi=some v∧VR γ w a v) (hhi0:hi=none→vhi=none) {r:AV} (ho:fastSlice P t a lo hi=some r):OkV P base w0 γ S w (Instr.sliceAt t v vlo vhi none) r S:=by
 unfold fastSlice at ho
 split at ho
 ·rename_i s
  cases hv
  split at ho
  ·rename_i hu
   split at ho
   ·rename_i l h h1 h2
    cases hlh:Nat.ble l h with
    |false=>rw[hlh]at ho;cases ho
    |true =>
     cases hhs:Nat.ble h s.size with
     |false=>rw[hlh,hhs]at ho;cases ho
     |true =>
      rw[hlh,hhs]at ho
      injection ho with ho;subst ho
      have hb:=bounds_run (P:=P) (isS:=false) hlo hlo0 hhi hhi0 h1 h2 (Nat.le_of_ble_eq_true hlh) (Nat.le_of_ble_eq_true hhs) (Nat.le_refl _)
      refine OkV.pure hS (v:=.string (s.extract l h)) ?_ (by rw[extract_cut];exact .v _ rfl)
      simp[Instr.sliceAt,Instr.slice,run_underlying hu,hb]
   ·cases ho
  ·cases ho
 ·cases ho
def fastIndex(P:Program)(t:TypeId)(a i:AV):Option AV :=
 match a,i with
 |.v (.string s),.v (.int _ n)=>match P.underlying t with
  |some .string=>if 0≤n then match s.data.toList[n.toNat]? with
    |some b=>some (.v (.int .u8 b.toNat))
    |none=>none
   else none
  |_=>none
 |.agg cs,.v (.int _ n)=>match elemT P t with
  |some (some len,e)=>match sizeT P e with
   |some sz=>if 0≤n∧n<len then oPart P e cs (n.toNat*sz)else none
   |none=>none
  |_=>none
 |_,_=>none
theorem fastIndex_sound{γ:Gh}{w:World}{t:TypeId}{a i r:AV}{v u:Value}(hv:VR γ w a v)(hu:VR γ w i u)(h:fastIndex P t a i=some r):∃z,(Instr.index t v u).run P w=.ok z w∧VR γ w r z:=by
 unfold fastIndex at h
 split at h
 ·rename_i s k n
  cases hv;cases hu
  split at h
  ·rename_i ht
   split at h
   ·rename_i hn
    split at h
    ·rename_i b hb
     injection h with h;subst h
     have hb2:s[n.toNat]? = some b:=by
      have h1:s.data[n.toNat]? = some b:=by simpa using hb
      obtain⟨hlt,he⟩:=Array.getElem?_eq_some_iff.1 h1
      have:n.toNat<s.size:=hlt
      rw[getElem?_pos s n.toNat this]
      exact congrArg some he
     exact⟨.int .u8 b.toNat,by simp[Instr.index,asIntOf,run_underlying ht,hn,hb2],.v _ rfl⟩
    ·cases h
   ·cases h
  ·cases h
 ·rename_i cs k n
  cases hu
  split at h
  ·rename_i len e he
   split at h
   ·rename_i sz hs
    split at h
    ·rename_i hn
     cases hv with
     |agg _ x hx h1 hr =>
      obtain⟨z,hz,hzv⟩:=oPart_sound (P:=P) ⟨hx,hr⟩ h1 h
      exact⟨z,by simp[Instr.index,asIntOf,run_underlying (elemT_array he),hn,sizeT_run hs,hz],hzv⟩
    ·cases h
   ·cases h
  ·cases h
 ·cases h
def eqCell(P:Program)(t:TypeId)(a b:AV):Option Bool:=match P.underlying t,a,b with
 |some .bool,.v (.bool x),.v (.bool y)=>some (x == y)
 |some (.int _),.v (.int k x),.v (.int k' y)=>if k=k' then some (x == y)else none
 |some .string,.v (.string s),.v (.string u)=>some (eqBytes s.data.toList u.data.toList)
 |_,_,_=>none
def eqFlds(P:Program)(cs ds:List AV):List Field→Option Bool
 | []=>some true
 |f :: r=>if f.name ≠ "_" then(match isAggT P f.type,cs[f.offset]?,ds[f.offset]? with
   |some false,some a,some b=>(match eqCell P f.type a b with
    |some true=>eqFlds P cs ds r
    |some false=>some false
    |none=>none)
   |_,_,_=>none)else none
def fastEq(P:Program)(op:BinOp)(t:TypeId)(a b:AV):Option AV:=match a,b with
 |.agg cs,.agg ds=>match fieldsOf P t with
  |some fs=>if P.stoodInHeld t=false∧P.eqGuardType P.depth t=false then(match eqFlds P cs ds fs.toList with
    |some r=>(match op with
     |.eql=>some (.v (.bool r))
     |.neq=>some (.v (.bool (!r)))
     |_=>none)
    |none=>none)else none
  |none=>none
 |_,_=>none
theorem eqCell_sound{P:Program}{γ:Gh}{w:World}{t:TypeId}{a b:AV}{v u:Value}{r:Bool}(hv:VR γ w a v)(hu:VR γ w b u)(h:eqCell P t a b=some r)(d:Nat):(Op.equalIn (d+1) t v u).run P w=.ok r w:=by
 unfold eqCell at h
 split at h
 ·rename_i x y ht
  injection h with h;subst h
  cases hv;cases hu
  exact run_equalIn_bool' w d t x y ht
 ·rename_i k0 k x k' y ht
  split at h
  ·rename_i hk
   subst hk
   injection h with h;subst h
   cases hv;cases hu
   exact run_equalIn_int w d t k _ x y ht
  ·cases h
 ·rename_i s u ht
  injection h with h;subst h
  cases hv;cases hu
  rw[run_equalIn_string w d t s u ht,ByteArray.toList_eq,ByteArray.toList_eq,eqBytes_eq]
 ·cases h
theorem eqFlds_sound{P:Program}{γ:Gh}{w:World}{cs ds:List AV}{xs ys:Array Value}(hc:VRL γ w cs xs.toList)(hd:VRL γ w ds ys.toList)(d:Nat):∀{fs:List Field} {r:Bool},eqFlds P cs ds fs=some r→(Op.eqFields (d+1) xs ys fs).run P w=.ok r w
 | [],r,h=>by injection h with h;subst h;simp[Op.eqFields]
 |f :: fs,r,h=>by
  unfold eqFlds at h
  split at h
  ·rename_i hn
   split at h
   ·rename_i a b ht ha hb
    obtain⟨x,hx,hxv⟩:=hc.get ha
    obtain⟨y,hy,hyv⟩:=hd.get hb
    have hx2:xs[f.offset]? = some x:=by simpa using hx
    have hy2:ys[f.offset]? = some y:=by simpa using hy
    have px:(part f.type xs f.offset).run P w=.ok x w:=by simp[part,isAggT_run ht,hx2]
    have py:(part f.type ys f.offset).run P w=.ok y w:=by simp[part,isAggT_run ht,hy2]
    split at h
    ·rename_i he
     have:=eqFlds_sound hc hd d (fs:=fs) h
     simp only[Op.eqFields,Sem.run_ite,Sem.run_bind,px,py,Result.andThen_ok,eqCell_sound hxv hyv he d]
     rw[if_pos hn]
     simpa using this
    ·rename_i he
     injection h with h;subst h
     simp only[Op.eqFields,Sem.run_ite,Sem.run_bind,px,py,Result.andThen_ok,eqCell_sound hxv hyv he d]
     rw[if_pos hn]
     simp
    ·cases h
   ·cases h
  ·cases h
theorem fastEq_sound{P:Program}{γ:Gh}{w:World}{op:BinOp}{t:TypeId}{a b r:AV}{v u:Value}(hv:VR γ w a v)(hu:VR γ w b u)(h:fastEq P op t a b=some r)(x y:Operand):∃z,(do eqGuard op t x y v u;binOp op t v u:Sem Value).run P w=.ok z w∧VR γ w r z:=by
 unfold fastEq at h
 split at h
 ·rename_i cs ds
  cases hv with
  |agg _ xs hx h1 hxr =>
  cases hu with
  |agg _ ys hy h2 hyr =>
  split at h
  ·rename_i fs hfs
   split at h
   ·rename_i hst
    obtain⟨hs1,hs2⟩:=hst
    split at h
    ·rename_i q hq
     have hu2:P.underlying t=some (.struct fs):=by
      unfold fieldsOf at hfs
      split at hfs
      ·rename_i fs' hu';injection hfs with hfs;subst hfs;exact hu'
      ·cases hfs
     have hf2:P.fieldsOf t=fs:=by unfold Program.fieldsOf;rw[hu2]
     have heq:(Op.equalIn 10000 t (.agg xs.toArray) (.agg ys.toArray)).run P w=.ok q w:=by
      rw[run_equalIn_struct w 9999 t xs.toArray ys.toArray (by rw[hf2];exact hu2) hs1,hf2]
      exact eqFlds_sound (xs:=xs.toArray) (ys:=ys.toArray) ⟨by simpa using hx,by simpa using hxr⟩ ⟨by simpa using hy,by simpa using hyr⟩ 9998 hq
     split at h
     ·injection h with h;subst h
      exact⟨.bool q,by simp only[Sem.run_bind,run_eqGuard_agg w _ t x y _ _ hs2,Result.andThen_ok,run_eql_struct,heq],.v _ rfl⟩
     ·injection h with h;subst h
      exact⟨.bool (!q),by simp only[Sem.run_bind,run_eqGuard_agg w _ t x y _ _ hs2,Result.andThen_ok,run_neq_struct,heq],.v _ rfl⟩
     ·cases h
    ·cases h
   ·cases h
  ·cases h
 ·cases h
end Go.Ax
