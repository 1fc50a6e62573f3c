/- AxK4 -/
import Derived.Test.YtkjknlaffgkloaaDoorTpG2
import Derived.Laws.MakeOwn
import Derived.Laws.IdiomCopy
set_option linter.unusedVariables false
set_option linter.unusedSimpArgs false
noncomputable section
namespace Go.Ax
open Go.RowKit
variable {P:Program} {base:Nat} {w0:World}
def repA(cs:List AV)(c:Nat):List AV:=Nat.rec (motive:=fun _=>List AV) [] (fun _ ih=>cs ++ ih) c
theorem repA_len(cs:List AV):∀c,(repA cs c).length=c*cs.length
 |0=>by show([]:List AV).length=_;simp
 |c+1=>by show(cs ++ repA cs c).length=_;rw[List.length_append,repA_len cs c,Nat.add_mul];omega
theorem repA_one{cs:List AV}(h:∀x∈cs,x.one=true):∀c,∀x∈repA cs c,x.one=true
 |0,x,hx=>by cases hx
 |c+1,x,hx=>by
  have hx:x∈cs ++ repA cs c:=hx
  rcases List.mem_append.1 hx with hx |hx
  ·exact h x hx
  ·exact repA_one h c x hx
theorem repA_get(cs:List AV)(hp:0<cs.length):∀(c k:Nat),k<c*cs.length→(repA cs c)[k]? = cs[k % cs.length]?
 |0,k,h=>by simp at h
 |c+1,k,h=>by
  show(cs ++ repA cs c)[k]? = _
  by_cases hk:k<cs.length
  ·rw[List.getElem?_append_left hk,Nat.mod_eq_of_lt hk]
  ·rw[List.getElem?_append_right (by omega),repA_get cs hp c (k - cs.length) (by rw[Nat.add_mul]at h;omega),← Nat.mod_eq_sub_mod (by omega)]
theorem made_VRL{γ:Gh}{w:World}{cs:List AV}{z:Array Value}(h:VRL γ w cs z.toList)(hp:0<z.size)(c:Nat):VRL γ w (repA cs c) (madeCells z (c*z.size)).toList:=by
 have hl:cs.length=z.size:=by have:=h.1;simp at this;exact this.symm
 refine⟨by rw[repA_len,hl];simp[size_madeCells],fun k hk hk'=>?_⟩
 have hk2:k<c*cs.length:=by rw[repA_len]at hk;exact hk
 have hm:k % z.size<z.size:=Nat.mod_lt _ hp
 have e1:(repA cs c)[k]=cs[k % z.size]'(by omega):=by
  have h1:=repA_get cs (by omega) c k hk2
  rw[List.getElem?_eq_getElem hk,hl,List.getElem?_eq_getElem (by omega)]at h1
  injection h1
 have e2:(madeCells z (c*z.size)).toList[k]=z.toList[k % z.size]'(by simp;exact hm):=by
  simp[madeCells,hm]
 rw[e1,e2]
 exact h.2 _ _ _
def oMake(P:Program)(S:St)(t:TypeId)(l c:AV):Option (AV × St):=match l,c with
 |.v (.int _ l),.v (.int _ c)=>match P.underlying t with
  |some (.slice e)=>match P.info? e with
   |some i=>match i.zero with
    |some z=>match ofConst 8 z with
     |some za=>if 0≤l∧l≤c∧(i.bytes:Int)*c≤281474976710656∧c≤9223372036854775807∧za.noTup=true∧z.cells.size=i.size∧0<i.size then
       (if l=0 then some (.sl S.next 0 i.size [],⟨S.next+1,S.mem.set S.next (some (.tip 0))⟩)else some (.bs S.next 0 l.toNat i.size,S.newBox (repA za.cells c.toNat)))else none
     |none=>none
    |none=>none
   |none=>none
  |_=>none
 |_,_=>none
theorem oMake_sound{γ:Gh}{S S':St}{w:World}(hS:SR base w0 γ S w){t:TypeId}{l c:AV}{v u:Value}(hv:VR γ w l v)(hu:VR γ w c u){r:AV}(ho:oMake P S t l c=some (r,S')):OkV P base w0 γ S w (Instr.makeSlice t v u) r S':=by
 unfold oMake at ho
 split at ho
 ·rename_i kl l kc c
  cases hv;cases hu
  split at ho
  ·rename_i e ht
   split at ho
   ·rename_i i hi
    split at ho
    ·rename_i z hz
     split at ho
     ·rename_i za hza
      split at ho
      ·rename_i hc
       obtain⟨c1,c2,c3,c4,c5,c6,c7⟩:=hc
       have hrun:=run_make (P:=P) w t e i z ht hi hz kl kc l c c1 c2 c3 c4
       have hzv:=ofConst_sound (w:=w) (γ:=γ) hza
       have hcs:=hzv.cells
       have hm:=made_VRL hcs (by omega) c.toNat
       rw[c6]at hm
       have hones:=repA_one (hzv.ones (noTup_ne c5)) c.toNat
       split at ho
       ·rename_i hl
        injection ho with ho;injection ho with h1 h2;subst h1;subst h2
        subst hl
        obtain⟨k1,k2⟩:=hS.allocIm (madeCells z.cells (c.toNat*i.size)) e 0 (Nat.zero_le _)
        have k1:SR base w0 γ S (w.alloc (.cells (madeCells z.cells (c.toNat*i.size)) e)):=by
         refine⟨k1.below,k1.hbase,fun b o hi=>k1.imc b o (.inl hi),k1.fresh,k1.pos,k1.inb,fun id c e=>?_,k1.inj⟩
         obtain⟨b,s,l1,l2,l3⟩:=hS.live id c e
         exact⟨b,s,l1,l2,l3.keep (ev_alloc γ w _) (Below.heap_alloc w _ _ (hS.inb id b s l1)) (fun _ h=>h)⟩
        have hf:=k1.fresh S.next (Nat.le_refl _)
        have hnew:∀id c s',S.mem.get id=some c→γ.loc id≠some (w.heap.size,s'):=fun id c s' hm hl=>by
         have:=hS.inb id _ _ hl;omega
        obtain⟨j1,j2⟩:=k1.name w.heap.size 0 (.tip 0) hS.hbase (by simp) ⟨_,e,heap_alloc_new w _,fun o ho=>by have:=imc_lt hS ho;omega,Nat.zero_le _⟩ hnew
        have hx2:Ext γ S w _ _ _:=(Ext.alloc (.cells (madeCells z.cells (c.toNat*i.size)) e)).newName (s:=0) (c:=.tip 0) hf.1 hf.2 rfl
        refine⟨_,_,γ.withLoc S.next w.heap.size 0,hrun,j1,hx2,?_⟩
        refine .sl S.next 0 i.size [] w.heap.size 0 c.toNat (fun _=>undef) c7 (fun _ h=>absurd h List.not_mem_nil) (fun _ h=>absurd h List.not_mem_nil) (fun k h=>absurd h (Nat.not_lt_zero k)) (fun k h=>absurd h (Nat.not_lt_zero k)) (fun _=>⟨0,?_,rfl⟩) (fun h=>?_) (Nat.zero_le _) ⟨_,e,(0,0),heap_alloc_new w _,by rw[size_madeCells];omega⟩
        ·show(if S.next=S.next then _ else _)=_;rw[if_pos rfl]
        ·have:=hS.pos;omega
       ·rename_i hl
        injection ho with ho;injection ho with h1 h2;subst h1;subst h2
        obtain⟨k1,k2⟩:=hS.newBox e hm hones
        have hx:Ext γ S w (γ.withLoc S.next w.heap.size 0) (S.newBox (repA za.cells c.toNat)) (w.alloc (.cells (madeCells z.cells (c.toNat*i.size)).toList.toArray e)):=Ext.newBox hS _ _
        refine⟨_,_,γ.withLoc S.next w.heap.size 0,hrun,by simpa[St.newBox]using k1,by simpa[St.newBox]using hx,?_⟩
        exact .bs S.next 0 l.toNat i.size w.heap.size 0 c.toNat (by show(if S.next=S.next then _ else _)=_;rw[if_pos rfl]) (by omega) c7 ⟨_,e,(0,0),heap_alloc_new w _,by rw[size_madeCells];omega⟩
      ·cases ho
     ·cases ho
    ·cases ho
   ·cases ho
  ·cases ho
 ·cases ho
end Go.Ax
noncomputable section
namespace Go.Ax
open Go.RowKit
variable {P:Program} {base:Nat} {w0:World}
theorem SR.scribble{w:World}{γ:Gh}{S:St}(h:SR base w0 γ S w){b o:Nat}(hb:base≤b)(hn:∀id c s,S.mem.get id=some c→γ.loc id≠some (b,s))(him:∀o,¬ γ.im b o){arr:Array Value}{T:TypeId}{fr:Nat × Nat}(ha:w.heap[b]? = some (Obj.cells arr T fr))(y:List Value):
  SR base w0 γ S (w.setCells b o y)∧Ev γ w γ (w.setCells b o y):=by
 obtain⟨⟨arr',ha',hs'⟩,hk⟩:=setCells_block b y o w arr T fr ha
 obtain⟨r1,r2,r3,r4⟩:=setCells_rest b y o w
 have ev:Ev γ w γ (w.setCells b o y):=by
  refine⟨fun _ _ h=>h,fun _ _ h=>h,fun b' o' v hi hv=>?_,fun b' arr2 T2 fr2 h2=>?_⟩
  ·by_cases e:b' = b
   ·subst e;exact absurd hi (him o')
   ·exact(World.cell?_of_block (a:=⟨b',o',none⟩) (hk b' e)).trans hv
  ·by_cases e:b' = b
   ·subst e
    rw[ha]at h2;injection h2 with h2;injection h2 with q1 q2 q3;subst q1;subst q2;subst q3
    exact⟨arr',_,ha',hs'⟩
   ·exact⟨arr2,fr2,(hk b' e).trans h2,rfl⟩
 refine⟨⟨below_setCells h.below b _ y hb hk,by rw[r4];exact h.hbase,fun b' o' hi=>?_,h.fresh,h.pos,fun id b' s' e=>by rw[r4];exact h.inb id b' s' e,fun id c e=>?_,h.inj⟩,ev⟩
 ·obtain⟨v,hv⟩:=h.imc b' o' hi;exact⟨v,ev.cell b' o' v hi hv⟩
 ·obtain⟨b',s',q1,q2,q3⟩:=h.live id c e
  have hbb:b'≠b:=fun eb=>by subst eb;exact hn id c s' e q1
  exact⟨b',s',q1,q2,q3.keep ev (hk b' hbb) (fun _ h=>h)⟩
theorem SR.newBoxP{w:World}{γ:Gh}{S:St}(h:SR base w0 γ S w)(T:TypeId){cs:List AV}{x y:List Value}(hr:VRL γ w cs x)(h1:∀c∈cs,c.one=true){arr:Array Value}(harr:arr.toList=x ++ y):
  SR base w0 (γ.withLoc S.next w.heap.size 0) (S.newBox cs) (w.alloc (.cells arr T))∧Ext γ S w (γ.withLoc S.next w.heap.size 0) (S.newBox cs) (w.alloc (.cells arr T)):=by
 obtain⟨a1,a2⟩:=h.allocIm arr T 0 (Nat.zero_le _)
 have h0:SR base w0 γ S (w.alloc (.cells arr T)):=by
  refine⟨a1.below,a1.hbase,fun b o hi=>a1.imc b o (.inl hi),a1.fresh,a1.pos,a1.inb,fun id c e=>?_,a1.inj⟩
  obtain⟨b,s,l1,l2,l3⟩:=h.live id c e
  exact⟨b,s,l1,l2,l3.keep (ev_alloc γ w _) (Below.heap_alloc w _ _ (h.inb id b s l1)) (fun _ h=>h)⟩
 have key:=h0.name w.heap.size 0 (.box cs) h.hbase (by simp) ⟨rfl,fun o ho=>by have:=imc_lt h ho;omega,h1,arr,T,x,y,heap_alloc_new w _,harr,hr.mono (ev_alloc γ w _)⟩
  (fun id c s' e l=>by have:=h.inb id _ _ l;omega)
 exact⟨key.1,Ext.newBox h _ _⟩
def St.moved(S:St)(tok:Nat)(cs:List AV):St:={ next:=S.next+1,mem:=(S.kill tok).mem.set S.next (some (.box cs)) }
def chunksA(sz:Nat):Nat→List AV→List AV
 |0,_=>[]
 |n+1,cs=>.agg (cs.take sz) :: chunksA sz n (cs.drop sz)
theorem chunks_flat(sz:Nat):∀(n:Nat) (cs:List AV),flat (chunksA sz n cs)=cs.take (n*sz)
 |0,cs=>by rw[Nat.zero_mul,List.take_zero];rfl
 |n+1,cs=>by
  show cs.take sz ++ flat (chunksA sz n (cs.drop sz))=_
  rw[chunks_flat sz n,Nat.add_mul,Nat.one_mul,Nat.add_comm,List.take_add]
theorem chunks_len(sz:Nat):∀(n:Nat) (cs:List AV),(chunksA sz n cs).length=n
 |0,cs=>rfl
 |n+1,cs=>by
  show(chunksA sz n (cs.drop sz)).length+1=n+1
  rw[chunks_len sz n]
theorem chunks_size(sz:Nat):∀(n:Nat) (cs:List AV),n*sz≤cs.length→∀e∈chunksA sz n cs,e.cells.length=sz
 |0,cs,_,e,he=>by cases he
 |n+1,cs,h,e,he=>by
  rw[Nat.add_mul,Nat.one_mul]at h
  rcases List.mem_cons.1 he with rfl |he
  ·show(cs.take sz).length=sz
   rw[List.length_take];omega
  ·exact chunks_size sz n (cs.drop sz) (by rw[List.length_drop];omega) e he
def srcM(P:Program)(S:St)(tx:TypeId)(sz:Nat)(x:AV):Option (List AV) :=
 match x with
 |.bs id off n sz'=>match P.underlying tx,S.mem.get id with
  |some (.slice _),some (.box cs)=>if sz' == sz && decide (off+n*sz≤cs.length)then some (chunksA sz n (cs.drop off))else none
  |_,_=>none
 |x=>srcA P tx sz x
theorem srcM_sound{γ:Gh}{S:St}{w:World}(hS:SR base w0 γ S w){tx:TypeId}{sz:Nat}{x:AV}{v:Value}(hv:VR γ w x v){ns:List AV}(h:srcM P S tx sz x=some ns):
  ∃news,Src P sz tx v ns.length news w∧(∀e∈ns,e.cells.length=sz)∧(∀x∈flat ns,x.one=true)∧VRL γ w (flat ns) news:=by
 unfold srcM at h
 split at h
 ·rename_i id off n sz'
  split at h
  ·rename_i e' cs hu hm
   split at h
   ·rename_i hc
    simp only[Bool.and_eq_true,beq_iff_eq,decide_eq_true_eq]at hc
    obtain⟨hsz,hle⟩:=hc
    subst hsz
    injection h with h;subst h
    cases hv with
    |bs _ _ _ _ b s cap hl hcp hszp hblk =>
    obtain⟨b2,s2',l1,l2,l3⟩:=hS.live _ _ hm
    rw[hl]at l1;injection l1 with l1;injection l1 with e1 e2;subst e1;subst e2
    obtain⟨rfl,him,hone,arr,T,xx,yy,ha,hx,hr⟩:=l3
    have hxl:xx.length=cs.length:=hr.1
    have hcell:∀k,w.cell? ⟨b,k,none⟩=arr[k]?:=cells_at ha
    have hR:VRL γ w ((cs.drop off).take (n*sz')) ((xx.drop off).take (n*sz')):=by
     refine⟨by simp only[List.length_take,List.length_drop,hxl],fun k h1 h2=>?_⟩
     simp only[List.getElem_take,List.getElem_drop]
     exact hr.2 _ _ _
    have hO:∀c∈(cs.drop off).take (n*sz'),c.one=true:=fun c hc=>hone c (List.mem_of_mem_drop (List.mem_of_mem_take hc))
    refine⟨(xx.drop off).take (n*sz'),?_,chunks_size sz' n _ (by rw[List.length_drop];omega),by rw[chunks_flat];exact hO,by rw[chunks_flat];exact hR⟩
    rw[chunks_len]
    refine Src.ofSlice w hu ⟨b,0+off,none⟩ n cap _ (by rw[List.length_take,List.length_drop];omega) (fun j u hj=>?_) (hR.ones hO)
    rw[Addr.add_mid,hcell]
    have h1:j<n*sz':=by
     have:=(List.getElem?_eq_some_iff.1 hj).1
     rw[List.length_take]at this;omega
    rw[List.getElem?_take_of_lt h1,List.getElem?_drop]at hj
    have h2:off+j<xx.length:=(List.getElem?_eq_some_iff.1 hj).1
    rw[← Array.getElem?_toList,hx,List.getElem?_append_left (by omega),show 0+off+j=off+j by omega]
    exact hj
   ·cases h
  ·cases h
 ·exact srcA_sound hv h
def oAppendM(P:Program)(S:St)(t tx:TypeId)(all:Bool)(a x:AV):Option (AV × St) :=
 match elemT P t with
 |some (none,e)=>match P.info? e with
  |some i=>match i.zero with
   |some z=>if z.cells.size == i.size && decide (0<i.size)then
     match srcM P S tx i.size x with
     |some (n :: ns)=>if decide ((n :: ns).length*i.bytes≤140737488355328) && decide ((n :: ns).length≤9223372036854775807)then(match a with
      |.nils=>if all then some (.bs S.next 0 (n :: ns).length i.size,S.newBox (flat (n :: ns)))else none
      |.sl 1 _ sz []=>if sz == i.size then some (.bs S.next 0 (n :: ns).length i.size,S.newBox (flat (n :: ns)))else none
      |.bs (id+2) 0 len sz=>match S.mem.get (id+2)with
       |some (.box cs)=>if sz == i.size && decide (len*sz≤cs.length) && decide ((len+(n :: ns).length)*i.bytes≤140737488355328) && decide (len+(n :: ns).length≤9223372036854775807)then
         some (.bs S.next 0 (len+(n :: ns).length) i.size,S.moved (id+2) (cs.take (len*sz) ++ flat (n :: ns)))else none
       |_=>none
      |_=>none)else none
     |_=>none
    else none
   |none=>none
  |none=>none
 |_=>none
theorem firstCells_nil(w:World)(size:Nat)(b o cap:Nat):(Builtin.firstCells size 0 (.slice (some ⟨b,o,none⟩) 0 cap)).run P w=.ok #[] w :=
 run_firstCells_some w size 0 ⟨b,o,none⟩ 0 cap [] (by simp) (fun j u h=>by cases h)
theorem oAppendM_sound{γ:Gh}{S S':St}{w:World}(hS:SR base w0 γ S w){t tx ty:TypeId}{all:Bool}{a x r:AV}{v u:Value}(hv:VR γ w a v)(hu:VR γ w x u)(ho:oAppendM P S t tx all a x=some (r,S')):
  OkV P base w0 γ S w (Builtin.append_ #[t,tx] ty #[v,u]) r S':=by
 unfold oAppendM at ho
 split at ho
 case h_2=>cases ho
 rename_i e he
 have ht:=elemT_slice he
 split at ho
 case h_2=>cases ho
 rename_i i hi
 split at ho
 case h_2=>cases ho
 rename_i z hz
 split at ho
 case isFalse=>cases ho
 rename_i hc
 simp only[Bool.and_eq_true,beq_iff_eq,decide_eq_true_eq]at hc
 obtain⟨hzs,hsz0⟩:=hc
 split at ho
 case h_2=>cases ho
 rename_i n ns hsrc
 obtain⟨news,s1,s2,s3,s4⟩:=srcM_sound hS hu hsrc
 generalize hN:n :: ns=N at ho s1 s2 s3 s4
 have hN0:0<N.length:=by rw[← hN];simp
 have hnl:news.length=N.length*i.size:=by rw[s4.1,flat_length s2]
 split at ho
 case isFalse=>cases ho
 rename_i hbd
 simp only[Bool.and_eq_true,decide_eq_true_eq]at hbd
 obtain⟨hb1,hb2⟩:=hbd
 obtain⟨d1,d2⟩:=hS.drew
 have hxd:Ext γ S w γ S w.drew:=Ext.of_same (w:=w) (w':=w.drew) rfl d2
 have fresh:∀(bs:Option Addr) (sCap:Nat),v=.slice bs 0 sCap→(Builtin.firstCells i.size 0 (.slice bs 0 sCap)).run P w.drew=.ok #[] w.drew→sCap<N.length →
   OkV P base w0 γ S w (Builtin.append_ #[t,tx] ty #[v,u]) (.bs S.next 0 N.length i.size) (S.newBox (flat N)):=fun bs sCap hve hfc hcap=>by
  subst hve
  have hrun:=run_append_grow_src w t tx ty e i z ht hi hz bs 0 sCap [] hfc u N.length news s1 (by omega) (by omega) (growslice_fits (by omega) (by simpa using hb1))
  simp only[List.nil_append,Nat.zero_add]at hrun
  have hge:=grownCap_ge w N.length sCap e
  obtain⟨k1,k2⟩:=d1.newBoxP e (s4.mono d2) s3 (y:=(Builtin.zeroCells z.cells (grownCap w N.length sCap e - N.length)).toList) (arr:=news.toArray ++ Builtin.zeroCells z.cells (grownCap w N.length sCap e - N.length)) (by simp)
  refine⟨_,_,γ.withLoc S.next w.heap.size 0,hrun,k1,hxd.trans k2,?_⟩
  refine .bs S.next 0 N.length i.size w.heap.size 0 _ (by show(if S.next=S.next then _ else _)=_;rw[if_pos rfl]) hge hsz0 ⟨_,e,(0,0),heap_alloc_new w.drew _,?_⟩
  rw[Array.size_append,size_zeroCells,hzs]
  simp only[List.size_toArray,hnl]
  rw[← Nat.add_mul]
  have:N.length+(grownCap w N.length sCap e - N.length)=grownCap w N.length sCap e:=by omega
  rw[this];omega
 split at ho
 ·split at ho
  ·injection ho with ho;injection ho with h1 h2;subst h1;subst h2
   cases hv
   exact fresh none 0 rfl (run_firstCells_none w.drew i.size 0 0 0) hN0
  ·cases ho
 ·rename_i off sz
  split at ho
  ·injection ho with ho;injection ho with h1 h2;subst h1;subst h2
   cases hv with
   |sl _ _ _ _ b o cap c hsz hes h1 hcl hr ht2 hf hcp hb =>
   have hcap:cap=0:=by have:=hf rfl;simpa using this
   subst hcap
   exact fresh (some ⟨b,o,none⟩) 0 rfl (firstCells_nil w.drew i.size b o 0) hN0
  ·cases ho
 ·rename_i id len sz
  split at ho
  case h_2=>cases ho
  rename_i cs hm
  split at ho
  case isFalse=>cases ho
  rename_i hq
  simp only[Bool.and_eq_true,beq_iff_eq,decide_eq_true_eq]at hq
  obtain⟨⟨⟨hsz,hlen⟩,hq1⟩,hq2⟩:=hq
  subst hsz
  injection ho with ho;injection ho with h1 h2;subst h1;subst h2
  cases hv with
  |bs _ _ _ _ b s cap hl hcp hszp hblk =>
  obtain⟨b2,s2',l1,l2,l3⟩:=hS.live _ _ hm
  rw[hl]at l1;injection l1 with l1;injection l1 with e1 e2;subst e1;subst e2
  obtain⟨rfl,him,hone,arr,T,xx,yy,ha,hx,hr⟩:=l3
  obtain⟨arr2,T2,fr2,ha2,hle⟩:=hblk
  rw[ha]at ha2;injection ha2 with ha2;injection ha2 with q1 q2 q3;subst q1;subst q2;subst q3
  simp only[Nat.zero_add]at hle
  have hxl:xx.length=cs.length:=hr.1
  have hcell:∀k,w.cell? ⟨b,k,none⟩=arr[k]?:=cells_at ha
  have holds:VRL γ w (cs.take (len*i.size)) (xx.take (len*i.size)):=hr.take _
  have hol:(xx.take (len*i.size)).length=len*i.size:=by simp;omega
  have hones:∀c∈cs.take (len*i.size) ++ flat N,c.one=true:=fun c hc=>by
   rcases List.mem_append.1 hc with h |h
   ·exact hone c (List.mem_of_mem_take h)
   ·exact s3 c h
  have hkn:=St.kill_next S (id+2)
  have hK:=hS.kill (id+2)
  have hkx:=Ext.kill γ S w (id+2)
  have hnon:∀i' c s',(S.kill (id+2)).mem.get i' = some c→γ.loc i'≠some (b,s'):=fun i' c s' e l=>by
   rw[St.kill_get S (id+2) i' (by omega)]at e
   split at e
   ·cases e
   ·rename_i hid
    exact hid (hS.inj i' (id+2) c _ b s' 0 e hm l hl)
  by_cases hroom:len+N.length≤cap
  ·
   have hmul:(len+N.length)*i.size≤cap*i.size:=Nat.mul_le_mul_right _ hroom
   rw[Nat.add_mul]at hmul
   have hrun:=run_append_room_src w t tx ty e i ht hi b (0+0) len cap u N.length news s1 hroom (fun j hj=>by rw[hcell];simp;omega) (fun j hj=>by simp[World.frozen?,ha])
   obtain⟨p1,p2⟩:=hK.scribble (o:=0+0+len*i.size) l2 hnon him ha news
   obtain⟨⟨arr',ha',hs'⟩,hk⟩:=setCells_block b news (0+0+len*i.size) w arr T (0,0) ha
   have hbl:=hS.inb (id+2) b 0 hl
   have harr':arr'.toList=(xx.take (len*i.size) ++ news) ++ arr'.toList.drop (len*i.size+news.length):=by
    have h0:arr'.toList=arr'.toList.take (len*i.size+news.length) ++ arr'.toList.drop (len*i.size+news.length):=(List.take_append_drop _ _).symm
    have h1:arr'.toList.take (len*i.size+news.length)=xx.take (len*i.size) ++ news:=by
     apply List.ext_getElem
     ·simp;omega
     ·intro k hk1 hk2
      have hk3:k<arr'.size:=by simp at hk1;omega
      have hcl:(w.setCells b (0+0+len*i.size) news).cell? ⟨b,k,none⟩=some arr'[k]:=by rw[cells_at ha'];simp[hk3]
      rw[List.getElem_take]
      by_cases hlt:k<len*i.size
      ·rw[List.getElem_append_left (by omega),List.getElem_take]
       have hc:=World.cell?_setCells_out b news (0+0+len*i.size) w ⟨b,k,none⟩ (fun _ _=>by show k<_∨_≤k;omega)
       rw[hcl,hcell,Array.getElem?_eq_getElem (by omega)]at hc
       injection hc with hc
       have h9:arr.toList[k]'(by simp;omega)=(xx ++ yy)[k]'(by rw[← hx];simp;omega):=by simp only[hx]
       rw[List.getElem_append_left (by omega)]at h9
       simp only[Array.getElem_toList]at h9 ⊢
       rw[hc,h9]
      ·rw[List.getElem_append_right (by omega)]
       have hc:=World.cell?_setCells_in b news (0+0+len*i.size) w (fun j hj=>by rw[hcell];simp;omega) (k - len*i.size) (by simp at hk1;omega)
       rw[show 0+0+len*i.size+(k - len*i.size)=k by omega,hcl]at hc
       injection hc with hc
       simp only[Array.getElem_toList,hol]
       exact hc
    exact h0.trans (by rw[h1])
   obtain⟨q1,q2⟩:=p1.name b 0 (.box (cs.take (len*i.size) ++ flat N)) l2 (by rw[(setCells_rest b news _ w).2.2.2];exact hbl) ⟨rfl,him,hones,arr',T,_,_,ha',harr',(holds.append s4).mono p2⟩ hnon
   rw[hkn]at q1 q2
   have hev:=p2.trans q2
   refine⟨_,_,γ.withLoc S.next b 0,hrun,q1,?_,?_⟩
   ·refine⟨hev,Nat.le_succ _,fun id' hid=>?_,by rw[(setCells_rest b news _ w).2.2.2];exact Nat.le_refl _,fun id' c' b' s' e l=>?_,fun b' hb' hnot=>?_⟩
    ·show(if id' = S.next then _ else γ.loc id')=γ.loc id'
     rw[if_neg (by omega)]
    ·have e:((S.kill (id+2)).mem.set S.next _).get id' = some c':=e
     have l:(if id' = S.next then some (b,0)else γ.loc id')=some (b',s'):=l
     rw[Go.Ax.T.get_set]at e
     split at e
     ·rename_i hid
      rw[if_pos hid]at l
      injection l with l;injection l with l1 l2;subst l1
      exact .inr ⟨id+2,_,0,hm,hl⟩
     ·rename_i hid
      rw[if_neg hid]at l
      exact .inr ⟨id',c',s',kill_sub S _ id' c' e,l⟩
    ·have hbb:b'≠b:=fun e=>by subst e;exact hnot (id+2) _ 0 hm hl
     exact⟨hk b' hbb,fun _ ho=>ho⟩
   ·refine .bs S.next 0 (len+N.length) i.size b 0 cap (by show(if S.next=S.next then _ else _)=_;rw[if_pos rfl]) hroom hszp ⟨arr',T,(0,0),ha',by omega⟩
  ·
   have hfirst:(Builtin.firstCells i.size len (.slice (some ⟨b,0+0,none⟩) len cap)).run P w.drew=.ok (xx.take (len*i.size)).toArray w.drew :=
    run_firstCells_some w.drew i.size len ⟨b,0+0,none⟩ len cap _ hol (fun j v hj=>by
     rw[Addr.add_mid]
     show w.cell? ⟨b,0+0+j,none⟩=_
     rw[hcell]
     obtain⟨hjl,hje⟩:=List.getElem?_eq_some_iff.1 hj
     have hj2:j<xx.length:=by simp at hjl;omega
     have hj3:j<arr.size:=by have:=congrArg List.length hx;simp at this;omega
     have h9:arr.toList[j]'(by simpa using hj3)=(xx ++ yy)[j]'(by rw[← hx];simpa using hj3):=by simp only[hx]
     rw[List.getElem_append_left hj2]at h9
     rw[List.getElem_take]at hje
     rw[show 0+0+j=j by omega,Array.getElem?_eq_getElem hj3]
     simp only[Array.getElem_toList]at h9
     rw[h9,hje])
   have hrun:=run_append_grow_src w t tx ty e i z ht hi hz (some ⟨b,0+0,none⟩) len cap _ hfirst u N.length news s1 (by omega) (by omega) (growslice_fits (by omega) hq1)
   have hge:=grownCap_ge w (len+N.length) cap e
   obtain⟨d3,d4⟩:=hK.drew
   obtain⟨k1,k2⟩:=d3.newBoxP e ((holds.append s4).mono d4) hones (y:=(Builtin.zeroCells z.cells (grownCap w (len+N.length) cap e - (len+N.length))).toList) (arr:=(xx.take (len*i.size) ++ news).toArray ++ Builtin.zeroCells z.cells (grownCap w (len+N.length) cap e - (len+N.length))) (by simp)
   have ek:(S.kill (id+2)).newBox (cs.take (len*i.size) ++ flat N)=S.moved (id+2) (cs.take (len*i.size) ++ flat N):=by
    unfold St.newBox St.moved;rw[hkn]
   rw[ek,hkn]at k1 k2
   have hkd:Ext γ (S.kill (id+2)) w γ (S.kill (id+2)) w.drew:=Ext.of_same (w:=w) (w':=w.drew) rfl d4
   refine⟨_,_,γ.withLoc S.next w.heap.size 0,hrun,k1,hkx.trans (hkd.trans k2),?_⟩
   refine .bs S.next 0 (len+N.length) i.size w.heap.size 0 _ (by show(if S.next=S.next then _ else _)=_;rw[if_pos rfl]) hge hszp ⟨_,e,(0,0),heap_alloc_new w.drew _,?_⟩
   rw[Array.size_append,size_zeroCells,hzs]
   simp only[List.size_toArray,List.length_append,hol,hnl]
   rw[← Nat.add_mul,← Nat.add_mul]
   have:len+N.length+(grownCap w (len+N.length) cap e - (len+N.length))=grownCap w (len+N.length) cap e:=by omega
   rw[this];omega
 ·cases ho
end Go.Ax
noncomputable section
namespace Go.Ax
open Go.RowKit
variable {P:Program} {base:Nat} {w0:World}
def rowA(x:AV):Option (List AV):=match x with
 |.nils=>some []
 |.sl _ _ 1 es=>some es
 |_=>none
def oCopy(P:Program)(S:St)(t:TypeId)(a x:AV):Option (AV × St):=match elemT P t with
 |some (none,e)=>if(P.info? e).map (·.size)=some 1 then(match a,rowA x with
  |.bs id off n 1,some es=>match S.mem.get id with
   |some (.box cs)=>if off+min es.length n≤cs.length then
     (if min es.length n=0 then some (.v (.int .i64 0),S)else
      some (.v (.int .i64 (min es.length n:Nat)),{ S with mem:=S.mem.set id (some (.box (cs.take off ++ (flat es).take (min es.length n) ++ cs.drop (off+min es.length n)))) }))
     else none
   |_=>none
  |_,_=>none)else none
 |_=>none
theorem oCopy_sound{γ:Gh}{S S':St}{w:World}(hS:SR base w0 γ S w){t tx ty:TypeId}{a x r:AV}{v u:Value}(hv:VR γ w a v)(hu:VR γ w x u)(ho:oCopy P S t a x=some (r,S')):
  OkV P base w0 γ S w (Builtin.copy_ #[t,tx] ty #[v,u]) r S':=by
 unfold oCopy at ho
 split at ho
 case h_2=>cases ho
 rename_i e he
 have ht:=elemT_slice he
 split at ho
 case isFalse=>cases ho
 rename_i hi
 split at ho
 case h_2=>cases ho
 rename_i id off n es hrow
 split at ho
 case h_2=>cases ho
 rename_i cs hm
 split at ho
 case isFalse=>cases ho
 rename_i hfit
 cases hv with
 |bs _ _ _ _ b s cap hl hcp hszp hblk =>
 obtain⟨b2,s2',l1,l2,l3⟩:=hS.live _ _ hm
 rw[hl]at l1;injection l1 with l1;injection l1 with e1 e2;subst e1;subst e2
 obtain⟨rfl,him,hone,arr,T,xx,yy,ha,hx,hr⟩:=l3
 have src:∃sp sCap,u=.slice sp es.length sCap∧(0<es.length→∃ad,sp=some ad∧∃vs:List Value,VRL γ w (flat es) vs∧vs.length=es.length∧(∀j v,vs[j]? = some v→w.cell? (ad.add j)=some v)∧∀c∈flat es,c.one=true):=by
  unfold rowA at hrow
  split at hrow
  ·injection hrow with hrow;subst hrow
   cases hu
   exact⟨none,0,rfl,fun h=>absurd h (by simp)⟩
  ·rename_i tok off2 es2
   injection hrow with hrow;subst hrow
   cases hu with
   |sl _ _ _ _ b' o' cap' c hsz hes h1 h hr' ht' hf' hc' hb' =>
   have hfl:=(flat_length hes).trans (Nat.mul_one _)
   refine⟨_,_,rfl,fun _=>⟨_,rfl,(List.range (flat es2).length).map c,⟨by simp,fun k hk hk'=>?_⟩,by simp[hfl],fun j v hj=>?_,h1⟩⟩
   ·simp only[List.getElem_map,List.getElem_range];exact hr' k hk
   ·obtain⟨hj1,hj2⟩:=List.getElem?_eq_some_iff.1 hj
    simp only[List.length_map,List.length_range]at hj1
    simp only[List.getElem_map,List.getElem_range]at hj2
    rw[Addr.add_mid,(h j hj1).2,hj2]
  ·cases hrow
 obtain⟨sp,sCap,rfl,hsrc⟩:=src
 split at ho
 ·rename_i h0
  injection ho with ho;injection ho with h1 h2;subst h1;subst h2
  exact OkV.pure hS (run_copy_none w t tx ty e _ _ _ _ _ _ ht hi h0) (.v _ rfl)
 ·rename_i h0
  injection ho with ho;injection ho with h1 h2;subst h1;subst h2
  obtain⟨ad,rfl,vs,hvs,hvl,hvc,hones⟩:=hsrc (Nat.lt_of_lt_of_le (Nat.pos_of_ne_zero h0) (Nat.min_le_left _ _))
  clear hblk
  obtain⟨m,hM,hm1,hm2⟩:∃m,min es.length n=m∧m≤es.length∧m≤n:=⟨_,rfl,Nat.min_le_left _ _,Nat.min_le_right _ _⟩
  rw[hM]at hfit h0 ⊢
  have hM2:Nat.min es.length n=m:=hM
  clear hM
  have hfl:(flat es).length=vs.length:=hvs.1.symm
  have hxl:xx.length=cs.length:=hr.1
  have hal:cs.length≤arr.size:=by have:=congrArg List.length hx;simp at this;omega
  have hrun:=run_copy_cells (P:=P) w t tx ty e b (0+off) n cap ad es.length sCap (vs.take m) ht hi (by rw[hM2,List.length_take,hvl];exact Nat.min_eq_left hm1)
   (fun j v hj=>hvc j v (by
    obtain⟨q1,q2⟩:=List.getElem?_eq_some_iff.1 hj
    simp at q1
    rw[List.getElem_take]at q2
    exact List.getElem?_eq_some_iff.2 ⟨by omega,q2⟩))
   (fun j hj=>by rw[cells_at ha];simp at hj;simp;omega) (fun j hj=>by simp[World.frozen?,ha])
   ((hvs.take m).ones fun c hc=>hones c (List.mem_of_mem_take hc))
  have hl2:((flat es).take m).length=m:=by simp;omega
  obtain⟨k1,k2⟩:=hS.store hm hl (hvs.take m) (fun c hc=>hones c (List.mem_of_mem_take hc)) (off:=off) (by rw[hl2];exact hfit)
  obtain⟨_,hk⟩:=setCells_block b (vs.take m) (0+off) w arr T (0,0) ha
  rw[hl2]at k1
  have hlen:(vs.take m).length=m:=by simp;omega
  rw[hlen]at hrun
  refine⟨_,_,γ,hrun,k1,Ext.store (b:=b) k2 (setCells_rest b _ _ w).2.2.2 hk rfl ⟨id,_,0,hm,hl⟩ (fun i hi=>?_),.v _ rfl⟩
  obtain⟨c,hc⟩:=hi
  have hc:(S.mem.set id _).get i=some c:=hc
  rw[Go.Ax.T.get_set]at hc
  split at hc
  ·rename_i e;exact⟨_,e ▸ hm⟩
  ·exact⟨c,hc⟩
end Go.Ax
noncomputable section
namespace Go.Ax
open Go.RowKit
inductive R where
 |ret (a:AV) (S:St)
 |pan (a:AV) (S:St)
 |fail
structure Env where
 P:Program
 G:Gl
 F:FuncId→Option Func
 I:FuncId→Option (List AV→St→R):=fun _=>none
 M:TypeId→Nat:=fun _=>0
structure Env.Ok(E:Env):Prop where
 fn:∀k fn,E.F k=some fn→E.P.funcs[k]? = some fn∧(fn.name == "runtime.NumGoroutine")=false∧∃c,fn.body=some c
def ofOpt(S:St):Option AV→OR
 |some a=>.val a S
 |none=>.fail
def ofOptS:Option (AV × St)→OR
 |some (a,S)=>.val a S
 |none=>.fail
def partsA(G:Gl)(f:T AV):List (Nat × Operand)→Option (List (Nat × AV))
 | []=>some []
 | (i,x) :: r=>match evalO G f x with
  |some a=>match partsA G f r with
   |some l=>some ((i,a) :: l)
   |none=>none
  |none=>none
def appendE(E:Env)(S:St)(t tx:TypeId)(a b:AV):Option (AV × St):=match E.M t with
 |0=>oAppend E.P S t tx a b
 |n+1=>match oAppendM E.P S t tx (Nat.beq n 1) a b with
  |some r=>some r
  |none=>oAppend E.P S t tx a b
def callA(E:Env)(f:T AV)(S:St)(c:Call)(o:Oper):OR :=
 match c.callee with
 |.builtin .append=>match c.args.toList,c.argTypes.toList with
  | [s,x],[t,tx]=>match evalO E.G f s,evalO E.G f x with
   |some a,some b=>ofOptS (appendE E S t tx a b)
   |_,_=>.fail
  |_,_=>.fail
 |.builtin .copy=>match c.args.toList,c.argTypes.toList with
  | [s,x],[t,_]=>match evalO E.G f s,evalO E.G f x with
   |some a,some b=>ofOptS (oCopy E.P S t a b)
   |_,_=>.fail
  |_,_=>.fail
 |.builtin .len=>match c.args.toList,c.argTypes.toList with
  | [x],[t]=>match evalO E.G f x with
   |some a=>match oLen E.P S t a with
    |some n=>.val (.v (.int .i64 n)) S
    |none=>.fail
   |none=>.fail
  |_,_=>.fail
 |.builtin _=>ground E.P E.G f S o
 |.value fo=>match evalO E.G f fo with
  |some (.fn (.func k) first caps)=>match mapO (evalO E.G f) c.args.toList with
   |some args=>match E.F k with
    |some _=>.enter k (first ++ args ++ caps) S
    |none=>.fail
   |none=>.fail
  |_=>.fail
 |_=>.fail
def deferA(E:Env)(f:T AV)(S:St)(c:Call):OR :=
 match c.callee with
 |.value fo=>match evalO E.G f fo with
  |some (.fn fn first caps)=>match mapO (evalO E.G f) c.args.toList with
   |some args=>.dfr fn caps (first ++ args) S
   |none=>.fail
  |_=>.fail
 |_=>.fail
def eqOr(P:Program)(G:Gl)(f:T AV)(S:St)(o:Oper)(op:BinOp)(t:TypeId)(a b:AV):OR:=match fastEq P op t a b with
 |some r=>.val r S
 |none=>ground P G f S o
theorem eqOr_ne{P:Program}{G:Gl}{f:T AV}{S:St}{o:Oper}{op:BinOp}{t:TypeId}{a b:AV}:(∃r,eqOr P G f S o op t a b=.val r S)∨eqOr P G f S o op t a b=.fail:=by
 unfold eqOr
 split
 ·exact .inl ⟨_,rfl⟩
 ·exact ground_ne
def slice3A(E:Env)(f:T AV)(t:TypeId)(x:Operand)(lo hi:Option Operand)(m:Operand):Option AV:=match lo,hi with
 |none,some h=>match evalO E.G f x,evalO E.G f h,evalO E.G f m with
  |some a,some b,some c=>oSlice3 E.P t a b c
  |_,_,_=>none
 |_,_=>none
def exec1(E:Env)(f:T AV)(S:St)(o:Oper):OR :=
 match o.op with
 |.move x=>ofOpt S (evalO E.G f x)
 |.assign x=>ofOpt S (evalO E.G f x)
 |.pick c a b=>match evalO E.G f c with
  |some (.v (.bool true))=>ofOpt S (evalO E.G f a)
  |some (.v (.bool false))=>ofOpt S (evalO E.G f b)
  |_=>.fail
 |.alloc e=>ofOptS (oAlloc E.P S e)
 |.box e x=>match evalO E.G f x with
  |some a=>if a.noTup then .val (.ptr S.next 0) (S.newBox a.cells)else .fail
  |none=>.fail
 |.build t parts=>match partsA E.G f parts.toList with
  |some ps=>ofOpt S (oBuild E.P t ps)
  |none=>.fail
 |.buildSlice t len parts=>match partsA E.G f parts.toList with
  |some ps=>ofOpt S (oBuildSlice E.P t len ps)
  |none=>.fail
 |.load t x=>match evalO E.G f x with
  |some a=>ofOpt S (oLoad E.P S t a)
  |none=>.fail
 |.store t x y=>match evalO E.G f x,evalO E.G f y with
  |some a,some b=>match oStore E.P S t a b with
   |some S'=>.skip S'
   |none=>.fail
  |_,_=>.fail
 |.nilCheck x=>match evalO E.G f x with
  |some (.ptr id off)=>.val (.ptr id off) S
  |some (.ep cs)=>.val (.ep cs) S
  |some (.fn (.func k) a b)=>.val (.fn (.func k) a b) S
  |some (.iface t a)=>.val (.iface t a) S
  |_=>.fail
 |.makeInterface t x=>match evalO E.G f x with
  |some a=>ofOpt S (oMakeI E.P t a)
  |none=>.fail
 |.makeFunc fn first caps=>match mapO (evalO E.G f) first.toList,mapO (evalO E.G f) caps.toList with
  |some a,some b=>.val (.fn fn a b) S
  |_,_=>.fail
 |.makeMap _ none=>ofOptS (some (oMakeMap S))
 |.makeSlice t l c=>match evalO E.G f l,evalO E.G f c with
  |some a,some b=>ofOptS (oMake E.P S t a b)
  |_,_=>.fail
 |.slice t x lo hi none=>match evalO E.G f x with
  |some (.sl tok off sz es)=>match mapO (evalO E.G f) lo.toList,mapO (evalO E.G f) hi.toList with
   |some l,some h=>ofOpt S (oSlice E.P t (.sl tok off sz es) l.head? h.head?)
   |_,_=>.fail
  |some .nils=>match mapO (evalO E.G f) lo.toList,mapO (evalO E.G f) hi.toList with
   |some l,some h=>ofOpt S (oSlice E.P t .nils l.head? h.head?)
   |_,_=>.fail
  |some (.bs id off n0 sz)=>match mapO (evalO E.G f) lo.toList,mapO (evalO E.G f) hi.toList with
   |some l,some h=>ofOpt S (oSlice E.P t (.bs id off n0 sz) l.head? h.head?)
   |_,_=>.fail
  |some (.v s)=>match mapO (evalO E.G f) lo.toList,mapO (evalO E.G f) hi.toList with
   |some l,some h=>ofOpt S (fastSlice E.P t (.v s) l.head? h.head?)
   |_,_=>.fail
  |_=>.fail
 |.slice t x lo hi (some m)=>ofOpt S (slice3A E f t x lo hi m)
 |.fieldAddr s x i=>match evalO E.G f x with
  |some a=>ofOpt S (oFieldAddr E.P s a i)
  |none=>.fail
 |.field t x i=>match evalO E.G f x with
  |some a=>ofOpt S (oField E.P t a i)
  |none=>.fail
 |.indexAddr t x i=>match evalO E.G f x,evalO E.G f i with
  |some a,some b=>ofOpt S (oIndexAddr E.P t a b)
  |_,_=>.fail
 |.lookup t m k ok=>match evalO E.G f m,evalO E.G f k with
  |some a,some b=>ofOpt S (oLookup E.P S t a b ok)
  |_,_=>.fail
 |.mapUpdate t m k x=>match evalO E.G f m,evalO E.G f k,evalO E.G f x with
  |some a,some b,some c=>match oMapUpdate E.P S t a b c with
   |some S'=>.skip S'
   |none=>.fail
  |_,_,_=>.fail
 |.insert t m k x=>match evalO E.G f m,evalO E.G f k,evalO E.G f x with
  |some a,some b,some c=>match oMapUpdate E.P S t a b c with
   |some S'=>.skip S'
   |none=>.fail
  |_,_,_=>.fail
 |.typeAssert x xt t ok=>match evalO E.G f x with
  |some a=>ofOpt S (oAssert E.P t ok a)
  |none=>.fail
 |.extract t i=>match evalO E.G f t with
  |some a=>ofOpt S (oExtract a i)
  |none=>.fail
 |.binOp op t x y _=>match evalO E.G f x,evalO E.G f y with
  |some a,some b=>if neNil E.P t a b then(match op with
    |.eql=>.val (.v (.bool false)) S
    |.neq=>.val (.v (.bool true)) S
    |_=>.fail)else match fastBin op a b with
    |some r=>.val r S
    |none=>eqOr E.P E.G f S o op t a b
  |_,_=>.fail
 |.call c=>callA E f S c o
 |.defer c=>deferA E f S c
 |.panic x=>match evalO E.G f x with
  |some (.iface t a)=>.pan (.iface t a) S
  |_=>.fail
 |.unOp _ _ _=>ground E.P E.G f S o
 |.convert src dst x=>match evalO E.G f x with
  |some a=>match oConvert E.P src dst a with
   |some r=>.val r S
   |none=>ground E.P E.G f S o
  |none=>.fail
 |.index t x i=>match evalO E.G f x,evalO E.G f i with
  |some a,some b=>match fastIndex E.P t a b with
   |some r=>.val r S
   |none=>ground E.P E.G f S o
  |_,_=>.fail
 |_=>.fail
def OkO(E:Env)(base:Nat)(w0:World)(γ:Gh)(S:St)(w:World)(act:Act)(o:Oper):OR→Prop
 |.val a S'=>∃v w' γ',(execOp act.eval o).run E.P w=.ok (.value v) w'∧SR base w0 γ' S' w'∧Ext γ S w γ' S' w'∧VR γ' w' a v
 |.skip S'=>∃w' γ',(execOp act.eval o).run E.P w=.ok .skip w'∧SR base w0 γ' S' w'∧Ext γ S w γ' S' w'
 |.enter k args S'=>S' = S∧(E.F k).isSome=true∧∃vs:List Value,(execOp act.eval o).run E.P w=.ok (.enter k vs.toArray) w∧VRL γ w args vs
 |.dfr fn caps args S'=>S' = S∧∃cv av:List Value,(execOp act.eval o).run E.P w=.ok (.defer { target:=.fn fn cv.toArray,args:=av.toArray }) w∧VRL γ w caps cv∧VRL γ w args av
 |.pan a S'=>S' = S∧∃v,(execOp act.eval o).run E.P w=.halt (.panic v) w∧VR γ w a v
 |.fail=>True
section
variable {E:Env} {base:Nat} {w0:World} {γ:Gh} {S:St} {w:World} {f:T AV} {act:Act} {o:Oper}
theorem OkO.ofOpt{s:Sem Value}(he:(execOp act.eval o)=(do pure (.value (← s)))){r:Option AV}(h:∀a,r=some a→OkV E.P base w0 γ S w s a S):OkO E base w0 γ S w act o (ofOpt S r):=by
 cases r with
 |none=>trivial
 |some a =>
  obtain⟨v,w',γ',hr,h1,h2,h3⟩:=h a rfl
  exact⟨v,w',γ',by rw[he];simp[hr],h1,h2,h3⟩
theorem OkO.ofOptS{s:Sem Value}(he:(execOp act.eval o)=(do pure (.value (← s)))){r:Option (AV × St)}(h:∀a S',r=some (a,S')→OkV E.P base w0 γ S w s a S'):OkO E base w0 γ S w act o (ofOptS r):=by
 cases r with
 |none=>trivial
 |some p =>
  obtain⟨a,S'⟩:=p
  obtain⟨v,w',γ',hr,h1,h2,h3⟩:=h a S' rfl
  exact⟨v,w',γ',by rw[he];simp[hr],h1,h2,h3⟩
theorem OkO.ofVal{a:AV}{v:Value}(hS:SR base w0 γ S w)(he:(execOp act.eval o).run E.P w=.ok (.value v) w)(hv:VR γ w a v):OkO E base w0 γ S w act o (.val a S):=⟨v,w,γ,he,hS,.refl _ _ _,hv⟩
theorem OkO.ground(hS:SR base w0 γ S w)(hf:FR γ w f act.tmps)(hg:GR γ w E.G)(hs:Op.noSel o.op=true):OkO E base w0 γ S w act o (ground E.P E.G f S o):=by
 rcases ground_ne (P:=E.P) (G:=E.G) (f:=f) (S:=S) (o:=o)with⟨a,ha⟩ |hfail
 ·obtain⟨_,v,hr,hv⟩:=ground_sound hf hg hs ha
  rw[ha]
  exact OkO.ofVal hS hr hv
 ·rw[hfail];trivial
theorem mapO_eval(hf:FR γ w f act.tmps)(hg:GR γ w E.G){xs:List Operand}{as:List AV}(h:mapO (evalO E.G f) xs=some as):VRL γ w as (xs.map act.eval):=by
 obtain⟨h1,h2⟩:=mapO_spec h
 exact⟨by simp[h1],fun k hk hk'=>by
  have:=evalO_sound hf hg (h2 k (by omega) hk)
  simpa using this⟩
theorem partsA_sound(hf:FR γ w f act.tmps)(hg:GR γ w E.G):∀{l:List (Nat × Operand)} {ps:List (Nat × AV)},partsA E.G f l=some ps →
  (l.map fun p=>(p.1,act.eval p.2)).map (·.1)=ps.map (·.1)∧VRL γ w (ps.map (·.2)) ((l.map fun p=>(p.1,act.eval p.2)).map (·.2))
 | [],ps,h=>by injection h with h;subst h;exact⟨rfl,VRL.nil γ w⟩
 | (i,x) :: r,ps,h=>by
  unfold partsA at h
  split at h
  ·rename_i a ha
   split at h
   ·rename_i l hl
    injection h with h;subst h
    obtain⟨h1,h2⟩:=partsA_sound hf hg hl
    exact⟨by simp only[List.map_cons,h1],VRL.cons (evalO_sound hf hg ha) h2⟩
   ·cases h
  ·cases h
theorem opt_eval(hf:FR γ w f act.tmps)(hg:GR γ w E.G){x:Option Operand}{l:List AV}(h:mapO (evalO E.G f) x.toList=some l):
  (∀a,l.head? = some a→∃v,x.map act.eval=some v∧VR γ w a v)∧(l.head? = none→x.map act.eval=none):=by
 have:=mapO_eval hf hg h
 cases x with
 |none =>
  have hl:l=[]:=List.eq_nil_of_length_eq_zero (by have:=this.1;simpa using this.symm)
  subst hl
  exact⟨fun a h=>(by cases h),fun _=>rfl⟩
 |some x =>
  cases l with
  |nil=>have:=this.1;simp at this
  |cons a l =>
   obtain⟨y,ys,hy,hv,_⟩:=this.head
   simp at hy
   refine⟨fun b hb=>?_,fun h=>by simp at h⟩
   simp at hb;subst hb
   exact⟨y,by simp[hy.1],hv⟩
theorem list2{α:Type}{a:Array α}{x y:α}(h:a.toList=[x,y]):a=#[x,y]:=by
 rw[← Array.toArray_toList (xs:=a),h]
theorem list1{α:Type}{a:Array α}{x:α}(h:a.toList=[x]):a=#[x]:=by
 rw[← Array.toArray_toList (xs:=a),h]
theorem callA_sound(hE:E.Ok)(hS:SR base w0 γ S w)(hf:FR γ w f act.tmps)(hg:GR γ w E.G){c:Call}(ho:o.op=.call c):OkO E base w0 γ S w act o (callA E f S c o):=by
 unfold callA
 split
 ·rename_i hc
  split
  ·rename_i s x t tx hargs htys
   split
   ·rename_i a b ha hb
    refine OkO.ofOptS (s:=Builtin.append_ c.argTypes o.type (c.args.map act.eval)) (by simp[execOp,ho,resolve,hc,invoke,builtin]) fun r S' hr=>?_
    rw[list2 hargs,list2 htys]
    have:OkV E.P base w0 γ S w (Builtin.append_ #[t,tx] o.type #[act.eval s,act.eval x]) r S':=by
     unfold appendE at hr
     split at hr
     ·exact oAppend_sound (ty:=o.type) hS (evalO_sound hf hg ha) (evalO_sound hf hg hb) hr
     ·split at hr
      ·rename_i hm;injection hr with hr;subst hr
       exact oAppendM_sound (ty:=o.type) hS (evalO_sound hf hg ha) (evalO_sound hf hg hb) hm
      ·exact oAppend_sound (ty:=o.type) hS (evalO_sound hf hg ha) (evalO_sound hf hg hb) hr
    simpa using this
   ·trivial
  ·trivial
 ·rename_i hc
  split
  ·rename_i s x t tx hargs htys
   split
   ·rename_i a b ha hb
    refine OkO.ofOptS (s:=Builtin.copy_ c.argTypes o.type (c.args.map act.eval)) (by simp[execOp,ho,resolve,hc,invoke,builtin]) fun r S' hr=>?_
    rw[list2 hargs,list2 htys]
    simpa using oCopy_sound (tx:=tx) (ty:=o.type) hS (evalO_sound hf hg ha) (evalO_sound hf hg hb) hr
   ·trivial
  ·trivial
 ·rename_i hc
  split
  ·rename_i x t hargs htys
   split
   ·rename_i a ha
    split
    ·rename_i n hn
     have:=oLen_sound (ty:=o.type) hS (evalO_sound hf hg ha) hn
     refine OkO.ofVal hS (v:=goInt n) ?_ (.v _ rfl)
     simp[execOp,ho,resolve,hc,invoke,builtin,list1 hargs,list1 htys,this]
    ·trivial
   ·trivial
  ·trivial
 ·exact OkO.ground hS hf hg (by rw[ho];rfl)
 ·rename_i fo hc
  split
  ·rename_i k first caps hfo
   split
   ·rename_i args hargs
    split
    ·rename_i fn hfn
     have hv:=evalO_sound hf hg hfo
     obtain⟨h1,h2,body,h3⟩:=hE.fn k fn hfn
     generalize hq:act.eval fo=q at hv
     cases hv with
     |fn _ _ _ x y hx hy hx1 hy1 =>
     refine⟨rfl,by rw[hfn];rfl,x ++ c.args.toList.map act.eval ++ y,?_,(VRL.append (VRL.append ⟨hx,hx1⟩ (mapO_eval hf hg hargs)) ⟨hy,hy1⟩)⟩
     have h2':¬ fn.name = "runtime.NumGoroutine" := by simpa using h2
     simp[execOp,ho,resolve,hc,hq,Deferred.ofValue,invoke,callFunc,h1,h2',h3]
    ·trivial
   ·trivial
  ·trivial
 ·trivial
theorem deferA_sound(hf:FR γ w f act.tmps)(hg:GR γ w E.G){c:Call}(ho:o.op=.defer c):OkO E base w0 γ S w act o (deferA E f S c):=by
 unfold deferA
 split
 ·rename_i fo hc
  split
  ·rename_i fn first caps hfo
   split
   ·rename_i args hargs
    have hv:=evalO_sound hf hg hfo
    generalize hq:act.eval fo=q at hv
    cases hv with
    |fn _ _ _ x y hx hy hx1 hy1 =>
    refine⟨rfl,y,x ++ c.args.toList.map act.eval,?_,⟨hy,hy1⟩,(VRL.append ⟨hx,hx1⟩ (mapO_eval hf hg hargs))⟩
    simp[execOp,ho,resolve,hc,hq,Deferred.ofValue]
   ·trivial
  ·trivial
 ·trivial
theorem exec1_sound(hE:E.Ok)(hS:SR base w0 γ S w)(hf:FR γ w f act.tmps)(hg:GR γ w E.G):OkO E base w0 γ S w act o (exec1 E f S o):=by
 have ev:∀{x a},evalO E.G f x=some a→VR γ w a (act.eval x):=fun h=>evalO_sound hf hg h
 have hpure:∀{x},(execOp act.eval o)=pure (.value (act.eval x))→OkO E base w0 γ S w act o (ofOpt S (evalO E.G f x)):=fun {x} he=>by
  cases hx:evalO E.G f x with
  |none=>trivial
  |some a=>exact OkO.ofVal hS (by rw[he];rfl) (ev hx)
 unfold exec1
 split
 ·rename_i x ho;exact hpure (by simp[execOp,ho])
 ·rename_i x ho;exact hpure (by simp[execOp,ho])
 ·rename_i c a b ho
  split
  ·rename_i hc
   have hv:=ev hc
   generalize hq:act.eval c=q at hv
   cases hv
   exact hpure (by simp[execOp,ho,hq,asBool])
  ·rename_i hc
   have hv:=ev hc
   generalize hq:act.eval c=q at hv
   cases hv
   exact hpure (by simp[execOp,ho,hq,asBool])
  ·trivial
 ·rename_i e ho;exact OkO.ofOptS (by simp only[execOp,ho]) fun a S' h=>oAlloc_sound hS h
 ·rename_i e x ho
  split
  ·rename_i a ha
   split
   ·rename_i hnt
    have:=newBox_sound (P:=E.P) hS (ev ha) hnt e
    exact OkO.ofOptS (r:=some (.ptr S.next 0,S.newBox a.cells)) (s:=Instr.box e (act.eval x)) (by simp only[execOp,ho]) fun a S' h=>by
     injection h with h;injection h with h1 h2;subst h1;subst h2;exact this
   ·trivial
  ·trivial
 ·rename_i t parts ho
  split
  ·rename_i ps hps
   obtain⟨h1,h2⟩:=partsA_sound hf hg hps
   exact OkO.ofOpt (s:=Instr.build t (parts.map fun(i,x)=>(i,act.eval x))) (by simp only[execOp,ho]) fun a h=>oBuild_sound hS (by simpa using h1) (by simpa using h2) h
  ·trivial
 ·rename_i t len parts ho
  split
  ·rename_i ps hps
   obtain⟨h1,h2⟩:=partsA_sound hf hg hps
   exact OkO.ofOpt (s:=Instr.buildSlice t len (parts.map fun(i,x)=>(i,act.eval x))) (by simp only[execOp,ho]) fun a h=>oBuildSlice_sound hS (by simpa using h1) (by simpa using h2) h
  ·trivial
 ·rename_i t x ho
  split
  ·rename_i a ha;exact OkO.ofOpt (by simp only[execOp,ho]) fun r h=>oLoad_sound hS (ev ha) h
  ·trivial
 ·rename_i t x y ho
  split
  ·rename_i a b ha hb
   split
   ·rename_i S' hst
    obtain⟨w',γ',h1,h2,h3⟩:=oStore_sound hS (ev ha) (ev hb) hst
    exact⟨w',γ',by simp[execOp,ho,h1],h2,h3⟩
   ·trivial
  ·trivial
 ·rename_i x ho
  split
  ·rename_i id off hx
   have hv:=ev hx
   have hv':=hv
   generalize hq:act.eval x=q at hv hv'
   cases hv
   exact OkO.ofVal hS (by simp[execOp,ho,hq]) hv'
  ·rename_i cs hx
   have hv:=ev hx
   have hv':=hv
   generalize hq:act.eval x=q at hv hv'
   cases hv
   exact OkO.ofVal hS (by simp[execOp,ho,hq]) hv'
  ·rename_i k a b hx
   have hv:=ev hx
   have hv':=hv
   generalize hq:act.eval x=q at hv hv'
   cases hv
   exact OkO.ofVal hS (by simp[execOp,ho,hq]) hv'
  ·rename_i t a hx
   have hv:=ev hx
   have hv':=hv
   generalize hq:act.eval x=q at hv hv'
   cases hv
   exact OkO.ofVal hS (by simp[execOp,ho,hq]) hv'
  ·trivial
 ·rename_i t x ho
  split
  ·rename_i a ha;exact OkO.ofOpt (by simp only[execOp,ho]) fun r h=>oMakeI_sound hS (ev ha) h
  ·trivial
 ·rename_i fn first caps ho
  split
  ·rename_i a b ha hb
   have h1:=mapO_eval hf hg ha
   have h2:=mapO_eval hf hg hb
   refine OkO.ofVal hS (v:=.func fn (first.map act.eval) (caps.map act.eval)) (by simp[execOp,ho,Instr.makeFunc]) ?_
   have:=VR.fn (γ:=γ) (w:=w) fn a b _ _ h1.1 h2.1 h1.2 h2.2
   have e:∀(l:Array Operand),l.map act.eval=(l.toList.map act.eval).toArray:=fun l=>by rw[← Array.toList_map,Array.toArray_toList]
   rw[e,e]
   exact this
  ·trivial
 ·rename_i t ho
  refine OkO.ofOptS (s:=Instr.makeMap t none) (by simp[execOp,ho]) fun a S' h=>?_
  injection h with h
  have:=oMakeMap_sound (P:=E.P) hS t
  rw[h]at this
  exact this
 ·rename_i t l c ho
  split
  ·rename_i a b ha hb;exact OkO.ofOptS (by simp only[execOp,ho]) fun r S' h=>oMake_sound hS (ev ha) (ev hb) h
  ·trivial
 ·rename_i t x lo hi ho
  split
  ·rename_i tok off sz es hx
   split
   ·rename_i l h hl hh
    obtain⟨l1,l2⟩:=opt_eval hf hg hl
    obtain⟨h1,h2⟩:=opt_eval hf hg hh
    exact OkO.ofOpt (s:=Instr.sliceAt t (act.eval x) (lo.map act.eval) (hi.map act.eval) none) (by simp[execOp,ho]) fun r hr=>oSlice_sound hS (ev hx) l1 l2 h1 h2 hr
   ·trivial
  ·rename_i hx
   split
   ·rename_i l h hl hh
    obtain⟨l1,l2⟩:=opt_eval hf hg hl
    obtain⟨h1,h2⟩:=opt_eval hf hg hh
    exact OkO.ofOpt (s:=Instr.sliceAt t (act.eval x) (lo.map act.eval) (hi.map act.eval) none) (by simp[execOp,ho]) fun r hr=>oSlice_sound hS (ev hx) l1 l2 h1 h2 hr
   ·trivial
  ·rename_i id off n0 sz hx
   split
   ·rename_i l h hl hh
    obtain⟨l1,l2⟩:=opt_eval hf hg hl
    obtain⟨h1,h2⟩:=opt_eval hf hg hh
    exact OkO.ofOpt (s:=Instr.sliceAt t (act.eval x) (lo.map act.eval) (hi.map act.eval) none) (by simp[execOp,ho]) fun r hr=>oSlice_sound hS (ev hx) l1 l2 h1 h2 hr
   ·trivial
  ·rename_i s hx
   split
   ·rename_i l h hl hh
    obtain⟨l1,l2⟩:=opt_eval hf hg hl
    obtain⟨h1,h2⟩:=opt_eval hf hg hh
    exact OkO.ofOpt (s:=Instr.sliceAt t (act.eval x) (lo.map act.eval) (hi.map act.eval) none) (by simp[execOp,ho]) fun r hr=>fastSlice_sound hS (ev hx) l1 l2 h1 h2 hr
   ·trivial
  ·trivial
 ·rename_i t x lo hi m ho
  unfold slice3A
  cases lo with
  |some l=>trivial
  |none =>
   cases hi with
   |none=>trivial
   |some h =>
    simp only
    split
    ·rename_i a b c hx hh hm
     exact OkO.ofOpt (s:=Instr.sliceAt t (act.eval x) none (some (act.eval h)) (some (act.eval m))) (by simp[execOp,ho]) fun r hr=>oSlice3_sound hS (ev hx) (ev hh) (ev hm) hr
    ·trivial
 ·rename_i s x i ho
  split
  ·rename_i a ha;exact OkO.ofOpt (by simp only[execOp,ho]) fun r h=>oFieldAddr_sound hS (ev ha) h
  ·trivial
 ·rename_i t x i ho
  split
  ·rename_i a ha;exact OkO.ofOpt (by simp only[execOp,ho]) fun r h=>oField_sound hS (ev ha) h
  ·trivial
 ·rename_i t x i ho
  split
  ·rename_i a b ha hb;exact OkO.ofOpt (by simp only[execOp,ho]) fun r h=>oIndexAddr_sound hS (ev ha) (ev hb) h
  ·trivial
 ·rename_i t m k ok ho
  split
  ·rename_i a b ha hb;exact OkO.ofOpt (by simp only[execOp,ho]) fun r h=>oLookup_sound hS (ev ha) (ev hb) h
  ·trivial
 ·rename_i t m k x ho
  split
  ·rename_i a b c ha hb hc
   split
   ·rename_i S' hst
    obtain⟨w',γ',h1,h2,h3⟩:=oMapUpdate_sound hS (ev ha) (ev hb) (ev hc) hst
    exact⟨w',γ',by simp[execOp,ho,h1],h2,h3⟩
   ·trivial
  ·trivial
 ·rename_i t m k x ho
  split
  ·rename_i a b c ha hb hc
   split
   ·rename_i S' hst
    obtain⟨w',γ',h1,h2,h3⟩:=oMapUpdate_sound hS (ev ha) (ev hb) (ev hc) hst
    exact⟨w',γ',by simp[execOp,ho,h1],h2,h3⟩
   ·trivial
  ·trivial
 ·rename_i x xt t ok ho
  split
  ·rename_i a ha;exact OkO.ofOpt (by simp only[execOp,ho]) fun r h=>oAssert_sound (xt:=xt) hS (ev ha) h
  ·trivial
 ·rename_i x i ho
  split
  ·rename_i a ha;exact OkO.ofOpt (by simp only[execOp,ho]) fun r h=>oExtract_sound hS (ev ha) h
  ·trivial
 ·rename_i op t x y yt ho
  split
  ·rename_i a b ha hb
   split
   ·rename_i hn
    split
    ·have:=neNil_sound (ev ha) (ev hb) hn x y .eql (.inl rfl)
     exact OkO.ofVal hS (v:=.bool false) (by
      have e:execOp act.eval o=(do pure (.value (← (do eqGuard .eql t x y (act.eval x) (act.eval y);binOp .eql t (act.eval x) (act.eval y):Sem Value)))):=by simp only[execOp,ho]
      rw[e,Sem.run_bind,this];rfl) (.v _ rfl)
    ·have:=neNil_sound (ev ha) (ev hb) hn x y .neq (.inr rfl)
     exact OkO.ofVal hS (v:=.bool true) (by
      have e:execOp act.eval o=(do pure (.value (← (do eqGuard .neq t x y (act.eval x) (act.eval y);binOp .neq t (act.eval x) (act.eval y):Sem Value)))):=by simp only[execOp,ho]
      rw[e,Sem.run_bind,this];rfl) (.v _ rfl)
    ·trivial
   ·split
    ·rename_i r hr
     obtain⟨z,hz,hv⟩:=fastBin_sound (P:=E.P) (ev ha) (ev hb) hr t x y
     exact OkO.ofVal hS (v:=z) (by
      have e:execOp act.eval o=(do pure (.value (← (do eqGuard op t x y (act.eval x) (act.eval y);binOp op t (act.eval x) (act.eval y):Sem Value)))):=by simp only[execOp,ho]
      rw[e,Sem.run_bind,hz];rfl) hv
    ·unfold eqOr
     split
     ·rename_i r hr
      obtain⟨z,hz,hv⟩:=fastEq_sound (P:=E.P) (ev ha) (ev hb) hr x y
      exact OkO.ofVal hS (v:=z) (by
       have e:execOp act.eval o=(do pure (.value (← (do eqGuard op t x y (act.eval x) (act.eval y);binOp op t (act.eval x) (act.eval y):Sem Value)))):=by simp only[execOp,ho]
       rw[e,Sem.run_bind,hz];rfl) hv
     ·exact OkO.ground hS hf hg (by rw[ho];rfl)
  ·trivial
 ·rename_i c ho;exact callA_sound hE hS hf hg ho
 ·rename_i c ho;exact deferA_sound hf hg ho
 ·rename_i x ho
  split
  ·rename_i t a hx
   have hv:=ev hx
   have hv':=hv
   generalize hq:act.eval x=q at hv hv'
   cases hv
   exact⟨rfl,_,by simp[execOp,ho,hq,Instr.panic],hv'⟩
  ·trivial
 ·rename_i ho;exact OkO.ground hS hf hg (by rw[ho];rfl)
 ·rename_i src dst x ho
  split
  ·rename_i a ha
   split
   ·rename_i r hr
    exact OkO.ofOpt (r:=some r) (s:=convert src dst (act.eval x)) (by simp only[execOp,ho]) fun a h=>by
     injection h with h;subst h;exact oConvert_sound hS (ev ha) hr
   ·exact OkO.ground hS hf hg (by rw[ho];rfl)
  ·trivial
 ·rename_i t x i ho
  split
  ·rename_i a b ha hb
   split
   ·rename_i r hr
    obtain⟨z,hz,hv⟩:=fastIndex_sound (P:=E.P) (ev ha) (ev hb) hr
    exact OkO.ofVal hS (v:=z) (by simp[execOp,ho,hz]) hv
   ·exact OkO.ground hS hf hg (by rw[ho];rfl)
  ·trivial
 ·trivial
end
end Go.Ax
