/- AxD -/
import Derived.Test.YtkjknlaffgkloaaDoorTpG0
set_option linter.unusedVariables false
set_option linter.unusedSimpArgs false
noncomputable section
namespace Go.Ax
open Go.RowKit
def mapO{α β:Type}(f:α→Option β):List α→Option (List β)
 | []=>some []
 |x :: r=>match f x with
  |none=>none
  |some y=>match mapO f r with
   |none=>none
   |some ys=>some (y :: ys)
theorem mapO_spec{α β:Type}{f:α→Option β}:∀{l:List α} {r:List β},mapO f l=some r→r.length=l.length∧∀k (h:k<l.length) (h':k<r.length),f l[k]=some r[k]
 | [],r,h=>by
  have:r=[]:=by simpa[mapO]using h.symm
  subst this;exact⟨rfl,fun k h=>by cases h⟩
 |x :: l,r,h=>by
  unfold mapO at h
  split at h
  ·cases h
  ·rename_i y hy
   split at h
   ·cases h
   ·rename_i ys hys
    injection h with h;subst h
    obtain⟨h1,h2⟩:=mapO_spec hys
    refine⟨by simp[h1],fun k hk hk'=>?_⟩
    cases k with
    |zero=>exact hy
    |succ k=>exact h2 k (by simpa using hk) (by simpa using hk')
def ofConst:Nat→Value→Option AV
 |0,_=>none
 |n+1,v=>match v with
  |.pointer none=>some .nilp
  |.slice none 0 0=>some .nils
  |.map none=>some .nilm
  |.agg cs=>match mapO (ofConst n) cs.toList with
   |some l=>if l.all AV.one then some (.agg l)else none
   |none=>none
  |.tuple vs=>match mapO (ofConst n) vs.toList with
   |some l=>some (.tup l)
   |none=>none
  |.iface t x=>match ofConst n x with
   |some a=>some (.iface t a)
   |none=>none
  |.bool b=>some (.v (.bool b))
  |.int k i=>some (.v (.int k i))
  |.string s=>some (.v (.string s))
  |.float k b=>some (.v (.float k b))
  |.nilFunc=>some (.v .nilFunc)
  |.nilIface=>some (.v .nilIface)
  |_=>none
theorem ofConst_sound{γ:Gh}{w:World}:∀{n:Nat} {v:Value} {a:AV},ofConst n v=some a→VR γ w a v
 |0,_,_,h=>by cases h
 |n+1,v,a,h=>by
  unfold ofConst at h
  split at h <;> try (injection h with h;subst h;first |exact .nilp |exact .nils |exact .nilm |exact .v _ rfl)
  ·rename_i cs
   split at h
   ·rename_i l hl
    split at h
    ·rename_i h1
     injection h with h;subst h
     obtain⟨e1,e2⟩:=mapO_spec hl
     rw[← Array.toArray_toList (xs:=cs)]
     exact .agg l cs.toList e1.symm (by simpa using h1) (fun k hk hk'=>ofConst_sound (e2 k hk' hk))
    ·cases h
   ·cases h
  ·rename_i vs
   split at h
   ·rename_i l hl
    injection h with h;subst h
    obtain⟨e1,e2⟩:=mapO_spec hl
    rw[← Array.toArray_toList (xs:=vs)]
    exact .tup l vs.toList e1.symm (fun k hk hk'=>ofConst_sound (e2 k hk' hk))
   ·cases h
  ·split at h
   ·rename_i a' ha
    injection h with h;subst h
    exact .iface _ _ _ (ofConst_sound ha)
   ·cases h
  ·cases h
def toVal:Nat→AV→Option Value
 |0,_=>none
 |n+1,a=>match a with
  |.v x=>some x
  |.nilp=>some (.pointer none)
  |.nils=>some (.slice none 0 0)
  |.nilm=>some (.map none)
  |.agg cs=>match mapO (toVal n) cs with
   |some l=>some (.agg l.toArray)
   |none=>none
  |.tup cs=>match mapO (toVal n) cs with
   |some l=>some (.tuple l.toArray)
   |none=>none
  |.iface t x=>match toVal n x with
   |some v=>some (.iface t v)
   |none=>none
  |_=>none
theorem list_eq_of{x y:List Value}(hl:x.length=y.length)(h:∀k (h1:k<x.length) (h2:k<y.length),x[k]=y[k]):x=y:=List.ext_getElem hl h
theorem toVal_sound{γ:Gh}{w:World}:∀{n:Nat} {a:AV} {v v':Value},toVal n a=some v→VR γ w a v'→v' = v
 |0,_,_,_,h,_=>by cases h
 |n+1,a,v,v',h,hr=>by
  unfold toVal at h
  split at h
  ·injection h with h;subst h;cases hr;rfl
  ·injection h with h;subst h;cases hr;rfl
  ·injection h with h;subst h;cases hr;rfl
  ·injection h with h;subst h;cases hr;rfl
  ·split at h
   ·rename_i l hl
    injection h with h;subst h
    obtain⟨e1,e2⟩:=mapO_spec hl
    cases hr with
    |agg _ x hx _ hk =>
    have:x=l:=list_eq_of (by omega) (fun k h1 h2=>toVal_sound (e2 k (by omega) h2) (hk k (by omega) h1))
    rw[this]
   ·cases h
  ·split at h
   ·rename_i l hl
    injection h with h;subst h
    obtain⟨e1,e2⟩:=mapO_spec hl
    cases hr with
    |tup _ x hx hk =>
    have:x=l:=list_eq_of (by omega) (fun k h1 h2=>toVal_sound (e2 k (by omega) h2) (hk k (by omega) h1))
    rw[this]
   ·cases h
  ·split at h
   ·rename_i x' hx'
    injection h with h;subst h
    cases hr with
    |iface _ _ _ hk=>rw[toVal_sound hx' hk]
   ·cases h
  ·cases h
abbrev Gl:=Nat→Option (List AV)
def evalO(G:Gl)(f:T AV):Operand→Option AV
 |.tmp t=>f.get t
 |.const v=>ofConst 8 v
 |.global g=>match G g with
  |some cs=>some (.ep cs)
  |none=>none
 |.func k=>some (.fn (.func k) [] [])
def FR(γ:Gh)(w:World)(f:T AV)(tmps:Array Value):Prop:=∀t a,f.get t=some a→t<tmps.size∧VR γ w a (tmps.getD t undef)
def GR(γ:Gh)(w:World)(G:Gl):Prop:=∀g cs,G g=some cs→VR γ w (.ep cs) (.pointer (some ⟨g,0,none⟩))∧(2≤cs.length→∃(arr:Array Value) (T:TypeId) (fr:Nat × Nat),w.heap[g]? = some (Obj.cells arr T fr)∧arr.size=cs.length)
theorem FR.mono{γ γ':Gh}{w w':World}(e:Ev γ w γ' w'){f:T AV}{tmps:Array Value}(h:FR γ w f tmps):FR γ' w' f tmps:=fun t a ht=>⟨(h t a ht).1,(h t a ht).2.mono e⟩
theorem GR.mono{γ γ':Gh}{w w':World}(e:Ev γ w γ' w'){G:Gl}(h:GR γ w G):GR γ' w' G:=fun g cs hg=>⟨(h g cs hg).1.mono e,fun h2=>by
 obtain⟨arr,T,fr,ha,hs⟩:=(h g cs hg).2 h2
 obtain⟨a1,f1,e1,s1⟩:=e.blk _ _ _ _ ha
 exact⟨a1,T,f1,e1,s1.trans hs⟩⟩
theorem evalO_sound{γ:Gh}{w:World}{G:Gl}{f:T AV}{act:Act}(hf:FR γ w f act.tmps)(hg:GR γ w G){x:Operand}{a:AV}(h:evalO G f x=some a):VR γ w a (act.eval x):=by
 cases x with
 |tmp t=>exact(hf t a h).2
 |const v=>exact ofConst_sound h
 |global g =>
  cases hG:G g with
  |none=>simp[evalO,hG]at h
  |some cs =>
   simp[evalO,hG]at h
   subst h
   exact(hg g cs hG).1
 |func k =>
  injection h with h;subst h
  exact .fn (.func k) [] [] [] [] rfl rfl (fun k h=>by cases h) (fun k h=>by cases h)
theorem FR.put{γ:Gh}{w:World}{f:T AV}{act:Act}(h:FR γ w f act.tmps)(dst:Option Tmp)(n:Nat)(hn:n=act.tmps.size){a:AV}{v:Value}(hv:VR γ w a v)(hd:∀d,dst=some d→d<n):
  FR γ w (match dst with |some d=>f.set d (some a) |none=>f) (act.put dst v).tmps:=by
 cases dst with
 |none=>exact h
 |some d =>
  intro t b hb
  have hb:(f.set d (some a)).get t=some b:=hb
  rw[T.get_set]at hb
  have hd:=hd d rfl
  show t<(act.tmps.setIfInBounds d v).size∧VR γ w b ((act.tmps.setIfInBounds d v).getD t undef)
  split at hb
  ·rename_i e
   injection hb with hb;subst hb;subst e
   refine⟨by rw[Array.size_setIfInBounds,← hn];exact hd,?_⟩
   rw[Array.getD_eq_getD_getElem?,Array.getElem?_setIfInBounds_self_of_lt (by rw[← hn];exact hd)]
   exact hv
  ·rename_i e
   have:=h t b hb
   refine⟨by simp;exact this.1,?_⟩
   rw[Array.getD_eq_getD_getElem?,Array.getElem?_setIfInBounds_ne (by omega),← Array.getD_eq_getD_getElem?]
   exact this.2
inductive OR where
 |val (a:AV) (S:St)
 |skip (S:St)
 |enter (k:FuncId) (args:List AV) (S:St)
 |dfr (f:Fn) (caps args:List AV) (S:St)
 |pan (a:AV) (S:St)
 |fail
def pureN(P:Program):Nat→Sem Next→Option Value
 |0,_=>none
 |n+1,s=>match s with
  |.program k=>pureN P n (k P)
  |.pure (.value v)=>some v
  |_=>none
theorem pureN_sound{P:Program}:∀{n:Nat} {s:Sem Next} {v:Value} (w:World),pureN P n s=some v→s.run P w=.ok (.value v) w
 |0,_,_,_,h=>by cases h
 |n+1,s,v,w,h=>by
  unfold pureN at h
  split at h
  ·rename_i k
   exact(pureN_sound w h:(k P).run P w=_)
  ·injection h with h;subst h;rfl
  ·cases h
def groundO(G:Gl)(f:T AV)(x:Operand):Option Value:=match evalO G f x with
 |some a=>toVal 8 a
 |none=>none
theorem groundO_sound{γ:Gh}{w:World}{G:Gl}{f:T AV}{act:Act}(hf:FR γ w f act.tmps)(hg:GR γ w G){x:Operand}{v:Value}(h:groundO G f x=some v):act.eval x=v:=by
 unfold groundO at h
 split at h
 ·rename_i a ha;exact toVal_sound h (evalO_sound hf hg ha)
 ·cases h
def ground(P:Program)(G:Gl)(f:T AV)(S:St)(o:Oper):OR :=
 if o.op.operands.toList.all (fun x=>(groundO G f x).isSome)then
  match pureN P 4000 (execOp (fun x=>(groundO G f x).getD undef) o)with
  |some v=>match ofConst 8 v with
   |some a=>.val a S
   |none=>.fail
  |none=>.fail
 else .fail
def Op.noSel:Op→Bool
 |.select _ _=>false
 |_=>true
theorem ground_sound{P:Program}{γ:Gh}{w:World}{G:Gl}{f:T AV}{act:Act}{S S':St}{o:Oper}{a:AV}(hf:FR γ w f act.tmps)(hg:GR γ w G)(hs:Op.noSel o.op=true)(h:ground P G f S o=.val a S'):
  S' = S∧∃v,(execOp act.eval o).run P w=.ok (.value v) w∧VR γ w a v:=by
 unfold ground at h
 split at h
 ·rename_i hall
  split at h
  ·rename_i v hv
   split at h
   ·rename_i a' ha
    injection h with h1 h2;subst h1;subst h2
    refine⟨rfl,v,?_,ofConst_sound ha⟩
    rw[execOp_congr (ρ':=fun x=>(groundO G f x).getD undef) o (fun cs b e=>by rw[e]at hs;cases hs) (fun x hx=>?_)]
    ·exact pureN_sound w hv
    ·have:=List.all_eq_true.1 hall x (by simpa using hx)
     obtain⟨u,hu⟩:=Option.isSome_iff_exists.1 this
     rw[groundO_sound hf hg hu,hu];rfl
   ·cases h
  ·cases h
 ·cases h
theorem ground_ne{P:Program}{G:Gl}{f:T AV}{S:St}{o:Oper}:(∃a,ground P G f S o=.val a S)∨ground P G f S o=.fail:=by
 unfold ground
 split
 ·split
  ·split
   ·exact .inl ⟨_,rfl⟩
   ·exact .inr rfl
  ·exact .inr rfl
 ·exact .inr rfl
end Go.Ax
noncomputable section
namespace Go.Ax
open Go.RowKit
variable {P:Program} {base:Nat} {w0:World}
def OkV(P:Program)(base:Nat)(w0:World)(γ:Gh)(S:St)(w:World)(s:Sem Value)(a:AV)(S':St):Prop :=
 ∃v w' γ',s.run P w=.ok v w'∧SR base w0 γ' S' w'∧Ext γ S w γ' S' w'∧VR γ' w' a v
theorem OkV.pure{γ:Gh}{S:St}{w:World}{s:Sem Value}{a:AV}{v:Value}(h:SR base w0 γ S w)(hr:s.run P w=.ok v w)(hv:VR γ w a v):OkV P base w0 γ S w s a S :=
 ⟨v,w,γ,hr,h,.refl _ _ _,hv⟩
def isAggT(P:Program)(t:TypeId):Option Bool:=match P.underlying t with
 |some (.struct _)=>some true
 |some (.array _ _)=>some true
 |some _=>some false
 |none=>none
def sizeT(P:Program)(t:TypeId):Option Nat:=match P.info? t with
 |some i=>some i.size
 |none=>none
theorem isAggT_run{t:TypeId}{b:Bool}(h:isAggT P t=some b)(w:World):(isAgg t).run P w=.ok b w:=by
 unfold isAggT at h
 unfold isAgg
 split at h
 ·rename_i fs hu;injection h with h;subst h;rw[Sem.run_bind,run_underlying hu w];simp
 ·rename_i n e hu;injection h with h;subst h;rw[Sem.run_bind,run_underlying hu w];simp
 ·rename_i d h1 h2 hu;injection h with h;subst h;rw[Sem.run_bind,run_underlying hu w]
  cases d <;> simp_all
 ·cases h
theorem sizeT_run{t:TypeId}{n:Nat}(h:sizeT P t=some n)(w:World):(sizeOf t).run P w=.ok n w:=by
 unfold sizeT at h
 split at h
 ·rename_i i hi;injection h with h;subst h;simp[sizeOf,typeInfo,hi]
 ·cases h
def behind(S:St):AV→Option (List AV)
 |.ptr id off=>match S.mem.get id with
  |some (.box cs)=>if off≤cs.length then some (cs.drop off)else none
  |_=>none
 |.ep cs=>some cs
 |_=>none
theorem behind_sound{γ:Gh}{S:St}{w:World}(h:SR base w0 γ S w){a:AV}{v:Value}(hv:VR γ w a v){cs:List AV}(hb:behind S a=some cs):
  ∃b o xs,v=.pointer (some ⟨b,o,none⟩)∧VRL γ w cs xs∧w.rangeAt b o xs∧∀c∈cs,c.one=true:=by
 cases hv with
 |ptr id off b s hl =>
  simp only[behind]at hb
  split at hb
  ·rename_i cs0 hm
   split at hb
   ·rename_i hle
    injection hb with hb;subst hb
    obtain⟨b2,s2,l1,l2,l3⟩:=h.live id _ hm
    rw[hl]at l1;injection l1 with l1;injection l1 with e1 e2;subst e1;subst e2
    obtain⟨rfl,ho,h1,arr,T,x,y,ha,hx,hr⟩:=l3
    refine⟨b,0+off,x.drop off,rfl,hr.drop off,fun j u hu=>?_,fun c hc=>h1 c (List.mem_of_mem_drop hc)⟩
    rw[cells_at ha]
    rw[List.getElem?_drop]at hu
    have h9:arr.toList[off+j]? = some u:=by rw[hx,List.getElem?_append_left (List.getElem?_eq_some_iff.1 hu).1];exact hu
    simpa[Nat.add_assoc]using h9
   ·cases hb
  ·cases hb
 |ep cs0 b o c hc h1 hr =>
  injection hb with hb;subst hb
  refine⟨b,o,(List.range cs0.length).map c,rfl,⟨by simp,fun k hk hk'=>by simpa using hr k hk⟩,fun j u hu=>?_,h1⟩
  obtain⟨hj,rfl⟩:=List.getElem?_eq_some_iff.1 hu
  simp at hj
  simpa using (hc j hj).2
 |_=>simp[behind]at hb
def oLoad(P:Program)(S:St)(t:TypeId)(a:AV):Option AV :=
 match behind S a with
 |none=>none
 |some cs=>match isAggT P t with
  |some true=>match sizeT P t with
   |some n=>if n≤cs.length then some (.agg (cs.take n))else none
   |none=>none
  |some false=>cs.head?
  |none=>none
theorem oLoad_same{γ:Gh}{S:St}{w:World}(h:SR base w0 γ S w){a:AV}{v:Value}(hv:VR γ w a v){t:TypeId}{r:AV}(ho:oLoad P S t a=some r):∃u,(Instr.loadAt t v).run P w=.ok u w∧VR γ w r u:=by
 unfold oLoad at ho
 split at ho
 ·cases ho
 ·rename_i cs hb
  obtain⟨b,o,xs,rfl,hr,hc,h1⟩:=behind_sound h hv hb
  split at ho
  ·rename_i ha
   split at ho
   ·rename_i n hn
    split at ho
    ·rename_i hle
     injection ho with ho;subst ho
     have hl:(loadCells ⟨b,o,none⟩ n).run P w=.ok (xs.take n).toArray w:=by
      have:=run_loadCells_list (P:=P) w ⟨b,o,none⟩ (xs.take n) (fun j u hu=>by
       rw[Addr.add_mid]
       rw[List.getElem?_take]at hu
       split at hu
       ·exact hc j u hu
       ·cases hu)
      rwa [List.length_take,Nat.min_eq_left (by rw[hr.1];exact hle)]at this
     refine⟨.agg (xs.take n).toArray,?_,(.agg (cs.take n) (xs.take n) (by simp[hr.1]) (fun c hc=>h1 c (List.mem_of_mem_take hc)) (hr.take n).2)⟩
     simp[Instr.loadAt,Instr.sureAddr,loadVar,isAggT_run ha,sizeT_run hn,hl]
    ·cases ho
   ·cases ho
  ·rename_i ha
   cases cs with
   |nil=>cases ho
   |cons c cs =>
    injection ho with ho;subst ho
    obtain⟨x,xs',rfl,hx,_⟩:=hr.head
    have:=hc 0 x rfl
    refine⟨x,?_,hx⟩
    simp at this
    simp[Instr.loadAt,Instr.sureAddr,loadVar,isAggT_run ha,this]
  ·cases ho
theorem oLoad_sound{γ:Gh}{S:St}{w:World}(h:SR base w0 γ S w){a:AV}{v:Value}(hv:VR γ w a v){t:TypeId}{r:AV}(ho:oLoad P S t a=some r):OkV P base w0 γ S w (Instr.loadAt t v) r S:=by
 obtain⟨u,h1,h2⟩:=oLoad_same h hv ho
 exact OkV.pure h h1 h2
def AV.noTup:AV→Bool
 |.tup _=>false
 |_=>true
theorem noTup_ne{a:AV}(h:a.noTup=true):∀vs,a≠.tup vs:=fun vs e=>by subst e;cases h
def oStore(P:Program)(S:St)(t:TypeId)(a x:AV):Option St :=
 match a with
 |.ptr id off=>match S.mem.get id with
  |some (.box cs)=>match sizeT P t with
   |some n=>if x.noTup && n == x.cells.length && decide (off+x.cells.length≤cs.length)then some { S with mem:=S.mem.set id (some (.box (cs.take off ++ x.cells ++ cs.drop (off+x.cells.length)))) } else none
   |none=>none
  |_=>none
 |_=>none
theorem run_storeVar_any(w:World)(b o:Nat)(t:TypeId)(v:Value)(n:Nat)(hn:(sizeOf t).run P w=.ok n w)(hs:v.cells.size=n)(ht:∀j,j<n→(w.cell? ⟨b,o+j,none⟩).isSome=true∧w.frozen? ⟨b,o+j,none⟩=false)(h1:∀u∈v.cells.toList,u.oneCell' = true):
  (storeVar t ⟨b,o,none⟩ v).run P w=.ok () (w.setCells b o v.cells.toList):=by
 have:=run_storeCells_cells (P:=P) b o v.cells.toList 0 w (fun j hj=>by simpa using (ht j (by simp at hj;omega)).1) (fun j hj=>by simpa using (ht j (by simp at hj;omega)).2) h1
 simp only[Nat.add_zero]at this
 simp[storeVar,hn,hs,this]
theorem oStore_sound{γ:Gh}{S S':St}{w:World}(h:SR base w0 γ S w){a x:AV}{v u:Value}(hv:VR γ w a v)(hu:VR γ w x u){t:TypeId}(ho:oStore P S t a x=some S'):
  ∃w' γ',(Instr.storeAt t v u).run P w=.ok () w'∧SR base w0 γ' S' w'∧Ext γ S w γ' S' w':=by
 unfold oStore at ho
 split at ho
 ·rename_i id off
  split at ho
  ·rename_i cs hm
   split at ho
   ·rename_i n hn
    split at ho
    ·rename_i hc
     simp only[Bool.and_eq_true,beq_iff_eq,decide_eq_true_eq]at hc
     obtain⟨⟨hnt,hn2⟩,hfit⟩:=hc
     injection ho with ho;subst ho
     cases hv with
     |ptr _ _ b s hl =>
     have hcells:=hu.cells
     have hones:=hu.ones (noTup_ne hnt)
     have hlen:=hcells.1
     obtain⟨b2,s2,l1,l2,l3⟩:=h.live id _ hm
     rw[hl]at l1;injection l1 with l1;injection l1 with e1 e2;subst e1;subst e2
     obtain⟨k1,k2⟩:=h.store hm hl hcells hones hfit
     obtain⟨rfl,hno,hone,arr,T,xx,yy,ha,hx,hr⟩:=l3
     have hal:cs.length≤arr.size:=by rw[← hr.1];have:=congrArg List.length hx;simp at this;omega
     obtain⟨_,hk⟩:=setCells_block b u.cells.toList (0+off) w arr T (0,0) ha
     refine⟨_,γ,?_,k1,Ext.store (b:=b) k2 (setCells_rest b _ _ w).2.2.2 hk rfl ⟨id,_,0,hm,hl⟩ (fun i hi=>?_)⟩
     ·have:=run_storeVar_any (P:=P) w b (0+off) t u n (sizeT_run hn w) (by simp at hlen;omega) (fun j hj=>by
       rw[cells_at ha]
       refine⟨by simp;omega,by simp[World.frozen?,ha]⟩) (hcells.ones hones)
      simp only[Nat.zero_add]at this ⊢
      simp[Instr.storeAt,Instr.sureAddr,this]
     ·obtain⟨c,hc⟩:=hi
      have hc:(S.mem.set id _).get i=some c:=hc
      rw[Go.Ax.T.get_set]at hc
      split at hc
      ·rename_i e;exact⟨_,e ▸ hm⟩
      ·exact⟨c,hc⟩
    ·cases ho
   ·cases ho
  ·cases ho
 ·cases ho
def St.newBox(S:St)(cs:List AV):St:={ next:=S.next+1,mem:=S.mem.set S.next (some (.box cs)) }
def oAlloc(P:Program)(S:St)(e:TypeId):Option (AV × St) :=
 match P.info? e with
 |some i=>match i.zero with
  |some z=>match ofConst 8 z with
   |some a=>if a.noTup then some (.ptr S.next 0,S.newBox a.cells)else none
   |none=>none
  |none=>none
 |none=>none
theorem newBox_sound{γ:Gh}{S:St}{w:World}(h:SR base w0 γ S w){a:AV}{v:Value}(hv:VR γ w a v)(hnt:a.noTup=true)(e:TypeId):
  OkV P base w0 γ S w (do pure (.pointer (some (← newVar e v)))) (.ptr S.next 0) (S.newBox a.cells):=by
 obtain⟨k1,k2⟩:=h.newBox e hv.cells (hv.ones (noTup_ne hnt))
 have hx:Ext γ S w (γ.withLoc S.next w.heap.size 0) (S.newBox a.cells) (w.alloc (.cells v.cells.toList.toArray e)):=Ext.newBox h _ _
 refine⟨.pointer (some ⟨w.heap.size,0,none⟩),w.alloc (.cells v.cells e),γ.withLoc S.next w.heap.size 0,by simp[newVar,newRow],by simpa[St.newBox]using k1,by simpa[St.newBox]using hx,?_⟩
 exact .ptr S.next 0 w.heap.size 0 (by show(if S.next=S.next then _ else _)=_;rw[if_pos rfl])
theorem oAlloc_sound{γ:Gh}{S S':St}{w:World}(h:SR base w0 γ S w){e:TypeId}{a:AV}(ho:oAlloc P S e=some (a,S')):OkV P base w0 γ S w (Instr.alloc e true (.tuple #[])) a S':=by
 unfold oAlloc at ho
 split at ho
 ·rename_i i hi
  split at ho
  ·rename_i z hz
   split at ho
   ·rename_i z' hz'
    split at ho
    ·rename_i hnt
     injection ho with ho;injection ho with h1 h2;subst h1;subst h2
     obtain⟨v,w',γ',hr,r⟩:=newBox_sound (P:=P) h (ofConst_sound (w:=w) (γ:=γ) hz') hnt e
     exact⟨v,w',γ',by simpa[Instr.alloc,zeroValue,typeInfo,hi,hz]using hr,r⟩
    ·cases ho
   ·cases ho
  ·cases ho
 ·cases ho
def oPart(P:Program)(t:TypeId)(cs:List AV)(off:Nat):Option AV :=
 match isAggT P t with
 |some true=>match sizeT P t with
  |some n=>if off+n≤cs.length then some (.agg ((cs.drop off).take n))else none
  |none=>none
 |some false=>cs[off]?
 |none=>none
theorem oPart_sound{γ:Gh}{w:World}{t:TypeId}{cs:List AV}{xs:List Value}(hr:VRL γ w cs xs)(h1:∀c∈cs,c.one=true){off:Nat}{r:AV}(ho:oPart P t cs off=some r):∃v,(part t xs.toArray off).run P w=.ok v w∧VR γ w r v:=by
 unfold oPart at ho
 split at ho
 ·rename_i ha
  split at ho
  ·rename_i n hn
   split at ho
   ·rename_i hle
    injection ho with ho;subst ho
    refine⟨.agg ((xs.drop off).take n).toArray,?_,.agg _ _ (by simp[hr.1]) (fun c hc=>h1 c (List.mem_of_mem_drop (List.mem_of_mem_take hc))) ((hr.drop off).take n).2⟩
    simp[part,isAggT_run ha,sizeT_run hn]
   ·cases ho
  ·cases ho
 ·rename_i ha
  obtain⟨y,hy,hv⟩:=hr.get ho
  exact⟨y,by simp[part,isAggT_run ha,hy],hv⟩
 ·cases ho
def fieldsOf(P:Program)(t:TypeId):Option (Array Field):=match P.underlying t with
 |some (.struct fs)=>some fs
 |_=>none
theorem fieldsOf_run{t:TypeId}{fs:Array Field}(h:fieldsOf P t=some fs)(w:World):(underlying t).run P w=.ok (.struct fs) w:=by
 unfold fieldsOf at h
 split at h
 ·rename_i fs' hu;injection h with h;subst h;exact run_underlying hu w
 ·cases h
def oField(P:Program)(t:TypeId)(a:AV)(f:Nat):Option AV :=
 match a with
 |.agg cs=>match fieldsOf P t with
  |some fs=>match fs[f]? with
   |some fd=>oPart P fd.type cs fd.offset
   |none=>none
  |none=>none
 |_=>none
theorem oField_sound{γ:Gh}{S:St}{w:World}(h:SR base w0 γ S w){a:AV}{v:Value}(hv:VR γ w a v){t:TypeId}{f:Nat}{r:AV}(ho:oField P t a f=some r):OkV P base w0 γ S w (Instr.field t v f) r S:=by
 unfold oField at ho
 split at ho
 ·split at ho
  ·rename_i fs hfs
   split at ho
   ·rename_i fd hfd
    cases hv with
    |agg cs x hx h1 hk =>
    obtain⟨u,hu,hru⟩:=oPart_sound ⟨hx,hk⟩ h1 ho
    exact OkV.pure h (by simp[Instr.field,fieldsOf_run hfs,hfd,asAgg,hu]) hru
   ·cases ho
  ·cases ho
 ·cases ho
def shift:AV→Nat→Option AV
 |.ptr id off,n=>some (.ptr id (off+n))
 |.ep cs,n=>if n≤cs.length then some (.ep (cs.drop n))else none
 |_,_=>none
theorem shift_sound{γ:Gh}{w:World}{a:AV}{v:Value}(hv:VR γ w a v){n:Nat}{r:AV}(ho:shift a n=some r):∃b o,v=.pointer (some ⟨b,o,none⟩)∧VR γ w r (.pointer (some ⟨b,o+n,none⟩)):=by
 cases hv with
 |ptr id off b s hl =>
  injection ho with ho;subst ho
  exact⟨b,s+off,rfl,by rw[Nat.add_assoc];exact .ptr id (off+n) b s hl⟩
 |ep cs b o c hc h1 hr =>
  simp only[shift]at ho
  split at ho
  ·rename_i hle
   injection ho with ho;subst ho
   refine⟨b,o,rfl,.ep (cs.drop n) b (o+n) (fun k=>c (n+k)) (fun k hk=>?_) (fun x hx=>h1 x (List.mem_of_mem_drop hx)) (fun k hk=>?_)⟩
   ·have:=hc (n+k) (by simp at hk;omega)
    rwa [← Nat.add_assoc]at this
   ·rw[List.getElem_drop]
    exact hr (n+k) (by simp at hk;omega)
  ·cases ho
 |_=>simp[shift]at ho
def oFieldAddr(P:Program)(s:TypeId)(a:AV)(f:Nat):Option AV :=
 match fieldsOf P s with
 |some fs=>match fs[f]? with
  |some fd=>match sizeT P fd.type with
   |some (_+1)=>shift a fd.offset
   |_=>none
  |none=>none
 |none=>none
theorem oFieldAddr_sound{γ:Gh}{S:St}{w:World}(h:SR base w0 γ S w){a:AV}{v:Value}(hv:VR γ w a v){s:TypeId}{f:Nat}{r:AV}(ho:oFieldAddr P s a f=some r):OkV P base w0 γ S w (Instr.fieldAt s v f) r S:=by
 unfold oFieldAddr at ho
 split at ho
 ·rename_i fs hfs
  split at ho
  ·rename_i fd hfd
   split at ho
   ·rename_i n hn
    obtain⟨b,o,rfl,hr⟩:=shift_sound hv ho
    exact OkV.pure h (by simp[Instr.fieldAt,fieldsOf_run hfs,hfd,Instr.sureAddr,fieldPlace,sizeT_run hn,Addr.add_mid]) hr
   ·cases ho
  ·cases ho
 ·cases ho
def elemT(P:Program)(t:TypeId):Option (Option Nat × TypeId):=match P.underlying t with
 |some (.slice e)=>some (none,e)
 |some (.array n e)=>some (some n,e)
 |_=>none
def oIndexAddr(P:Program)(t:TypeId)(a:AV)(ix:AV):Option AV :=
 match ix with
 |.v (.int _ i)=>if 0≤i then
   match elemT P t with
   |some (none,e)=>match a,sizeT P e with
    |.sl _ _ sz es,some n=>if n == sz then match es[i.toNat]? with
      |some x=>some (.ep x.cells)
      |none=>none
     else none
    |.bs id off len sz,some n=>if n == sz && decide (i<(len:Int))then some (.ptr id (off+i.toNat*sz))else none
    |_,_=>none
   |some (some len,e)=>match sizeT P e with
    |some n=>if i<len then shift a (i.toNat*n)else none
    |none=>none
   |none=>none
  else none
 |_=>none
theorem flat_cons(e:AV)(r:List AV):flat (e :: r)=e.cells ++ flat r:=by simp[flat]
theorem flat_at{sz:Nat}:∀{es:List AV} (h:∀e∈es,e.cells.length=sz) {i:Nat} {x:AV} (hx:es[i]? = some x),i*sz+sz≤(flat es).length∧∀k,k<sz→(flat es)[i*sz+k]? = x.cells[k]?
 | [],h,i,x,hx=>by simp at hx
 |e :: r,h,i,x,hx=>by
  have he:=h e (List.mem_cons_self ..)
  rw[flat_cons]
  cases i with
  |zero =>
   simp at hx;subst hx
   exact⟨by simp;omega,fun k hk=>by rw[Nat.zero_mul,Nat.zero_add,List.getElem?_append_left (by omega)]⟩
  |succ i =>
   obtain⟨h1,h2⟩:=flat_at (es:=r) (fun y hy=>h y (List.mem_cons_of_mem _ hy)) (by simpa using hx)
   rw[Nat.succ_mul]
   refine⟨by simp;omega,fun k hk=>?_⟩
   rw[List.getElem?_append_right (by omega),show i*sz+sz+k - e.cells.length=i*sz+k by omega]
   exact h2 k hk
theorem elem_ep{γ:Gh}{w:World}{es:List AV}{sz b o:Nat}{c:Nat→Value}(hes:∀e∈es,e.cells.length=sz)(h1:∀x∈flat es,x.one=true)(h:∀k,k<(flat es).length→γ.im b (o+k)∧w.cell? ⟨b,o+k,none⟩=some (c k))(hr:∀k (h:k<(flat es).length),VR γ w (flat es)[k] (c k))
  {i:Nat} {x:AV} (hx:es[i]? = some x):VR γ w (.ep x.cells) (.pointer (some ⟨b,o+i*sz,none⟩)):=by
 obtain⟨f1,f2⟩:=flat_at hes hx
 have hxm:x∈es:=List.mem_of_getElem? hx
 have hxl:=hes x hxm
 refine .ep x.cells b (o+i*sz) (fun k=>c (i*sz+k)) (fun k hk=>?_) (fun y hy=>h1 y ?_) (fun k hk=>?_)
 ·have:=h (i*sz+k) (by omega)
  rwa [← Nat.add_assoc]at this
 ·exact List.mem_flatMap.2 ⟨x,hxm,hy⟩
 ·have:=hr (i*sz+k) (by omega)
  have e:=f2 k (by omega)
  rw[List.getElem?_eq_getElem (by omega),List.getElem?_eq_getElem (by omega)]at e
  injection e with e
  rw[e]at this;exact this
theorem oIndexAddr_sound{γ:Gh}{S:St}{w:World}(h:SR base w0 γ S w){a ix:AV}{v u:Value}(hv:VR γ w a v)(hu:VR γ w ix u){t:TypeId}{r:AV}(ho:oIndexAddr P t a ix=some r):OkV P base w0 γ S w (Instr.indexAt t v u) r S:=by
 unfold oIndexAddr at ho
 split at ho
 ·rename_i k i
  cases hu
  split at ho
  ·rename_i hi0
   split at ho
   ·rename_i e he
    have hu:P.underlying t=some (.slice e):=by
     unfold elemT at he
     split at he <;> simp_all
    split at ho
    ·rename_i tok off sz es n hn
     split at ho
     ·rename_i hsz
      have hsz:n=sz:=by simpa using hsz
      subst hsz
      split at ho
      ·rename_i x hx
       injection ho with ho;subst ho
       cases hv with
       |sl _ _ _ _ b o cap c hs hes h1 hc hr ht hf hcp hblk =>
       have hlt:i.toNat<es.length:=(List.getElem?_eq_some_iff.1 hx).1
       have hil:i<(es.length:Int):=by omega
       have hia:(0≤i∧i<(es.length:Int)):=⟨hi0,hil⟩
       refine OkV.pure h (v:=.pointer (some ⟨b,o+i.toNat*n,none⟩)) ?_ (elem_ep hes h1 hc hr hx)
       simp[Instr.indexAt,asIntOf,run_underlying hu,hia,sizeT_run hn,Addr.add_mid]
      ·cases ho
     ·cases ho
    ·rename_i id off len sz n hn
     split at ho
     ·rename_i hc
      simp only[Bool.and_eq_true,beq_iff_eq,decide_eq_true_eq]at hc
      obtain⟨hsz,hil⟩:=hc
      subst hsz
      injection ho with ho;subst ho
      cases hv with
      |bs _ _ _ _ b s cap hl hc2 hsz2 hb2 =>
      have hia:(0≤i∧i<(len:Int)):=⟨hi0,hil⟩
      refine OkV.pure h (v:=.pointer (some ⟨b,s+(off+i.toNat*n),none⟩)) ?_ (.ptr _ _ _ _ hl)
      simp[Instr.indexAt,asIntOf,run_underlying hu,hia,sizeT_run hn,Addr.add_mid,Nat.add_assoc]
     ·cases ho
    ·cases ho
   ·rename_i len e he
    have hu:P.underlying t=some (.array len e):=by
     unfold elemT at he
     split at he <;> simp_all
    split at ho
    ·rename_i n hn
     split at ho
     ·rename_i hil
      obtain⟨b,o,rfl,hr⟩:=shift_sound hv ho
      have hia:(0≤i∧i<(len:Int)):=⟨hi0,hil⟩
      refine OkV.pure h ?_ hr
      simp[Instr.indexAt,Instr.sureAddr,asIntOf,run_underlying hu,hia,sizeT_run hn,Addr.add_mid]
     ·cases ho
    ·cases ho
   ·cases ho
  ·cases ho
 ·cases ho
end Go.Ax
noncomputable section
namespace Go.Ax
open Go.RowKit
variable {P:Program} {base:Nat} {w0:World}
def splice{α:Type}(cs:List α)(off:Nat)(ys:List α):List α:=cs.take off ++ ys ++ cs.drop (off+ys.length)
theorem splice_length{α:Type}{cs:List α}{off:Nat}{ys:List α}(h:off+ys.length≤cs.length):(splice cs off ys).length=cs.length:=by simp[splice];omega
theorem splice_cons{α:Type}{cs:List α}{off:Nat}{y:α}{ys:List α}(h:off+ys.length+1≤cs.length):splice (cs.set off y) (off+1) ys=splice cs off (y :: ys):=by
 unfold splice
 apply List.ext_getElem?
 intro k
 simp only[List.getElem?_append,List.length_append,List.length_take,List.length_set,List.length_cons,List.getElem?_take,List.getElem?_set,List.getElem?_drop]
 by_cases h1:k<off
 ·have:k<min (off+1) cs.length:=by omega
  have h3:k<min off cs.length:=by omega
  have h4:off≠k:=by omega
  simp[h1,this,h3,h4,show k<off+1 by omega,show k<min (off+1) cs.length+ys.length by omega,show k<min off cs.length+(ys.length+1) by omega]
 ·by_cases h2:k=off
  ·subst h2
   have:k<min (k+1) cs.length:=by omega
   have h3:¬ k<min k cs.length:=by omega
   simp[this,h3,show k<cs.length by omega,show k<min (k+1) cs.length+ys.length by omega,show k<min k cs.length+(ys.length+1) by omega,show k - min k cs.length=0 by omega]
  ·have a1:¬ k<min (off+1) cs.length:=by omega
   have a2:¬ k<min off cs.length:=by omega
   by_cases h5:k<off+1+ys.length
   ·have a3:k<min (off+1) cs.length+ys.length:=by omega
    have a4:k<min off cs.length+(ys.length+1):=by omega
    obtain⟨j,hj⟩:∃j,k - min off cs.length=j+1:=⟨k - min off cs.length - 1,by omega⟩
    have hj2:k - min (off+1) cs.length=j:=by omega
    simp[a1,a2,a3,a4,hj,hj2]
   ·have a3:¬ k<min (off+1) cs.length+ys.length:=by omega
    have a4:¬ k<min off cs.length+(ys.length+1):=by omega
    have e1:off+1+ys.length+(k - (min (off+1) cs.length+ys.length))=k:=by omega
    have e2:off+(ys.length+1)+(k - (min off cs.length+(ys.length+1)))=k:=by omega
    have h4:off≠k:=by omega
    simp[a3,a4,e1,e2,h4]
theorem splice_nil{α:Type}(cs:List α)(off:Nat):splice cs off []=cs:=by simp[splice]
theorem fold_set:∀(xs:List Value) (n off:Nat) (cs:Array Value),off+n+xs.length≤cs.size →
  ((xs.zipIdx n).foldl (fun cs (p:Value × Nat)=>cs.setIfInBounds (off+p.2) p.1) cs).toList=splice cs.toList (off+n) xs
 | [],n,off,cs,_=>by simp[splice_nil]
 |x :: xs,n,off,cs,h=>by
  simp only[List.length_cons]at h
  rw[List.zipIdx_cons,List.foldl_cons,fold_set xs (n+1) off _ (by simp;omega)]
  rw[Array.toList_setIfInBounds]
  exact splice_cons (by simp;omega)
theorem VRL.splice{γ:Gh}{w:World}{cs:List AV}{xs:List Value}(h:VRL γ w cs xs){off:Nat}{ys:List AV}{zs:List Value}(hy:VRL γ w ys zs):VRL γ w (splice cs off ys) (splice xs off zs):=by
 unfold Ax.splice
 rw[hy.1]
 exact((h.take off).append hy).append (h.drop _)
def fillA(place:Nat→Option (Nat × Nat))(cs:List AV):List (Nat × AV)→Option (List AV)
 | []=>some cs
 | (i,a) :: r=>match place i with
  |none=>none
  |some (off,size)=>if a.noTup && a.cells.length == size && decide (off+size≤cs.length)then fillA place (splice cs off a.cells) r else none
theorem fillA_sound{γ:Gh}{w:World}(place:Nat→Option (Nat × Nat)):∀(ps:List (Nat × AV)) (vs:List (Nat × Value)) (cs r:List AV) (xs:Array Value),
  VRL γ w cs xs.toList→(∀c∈cs,c.one=true)→vs.map (·.1)=ps.map (·.1)→VRL γ w (ps.map (·.2)) (vs.map (·.2))→fillA place cs ps=some r→∃ys,Instr.fill place xs vs=some ys∧VRL γ w r ys.toList∧∀c∈r,c.one=true
 | [],vs,cs,r,xs,hc,h1,hi,hv,h=>by
  injection h with h;subst h
  have:vs=[]:=by simpa using hi
  subst this
  exact⟨xs,rfl,hc,h1⟩
 | (i,a) :: ps,vs,cs,r,xs,hc,h1,hi,hv,h=>by
  cases vs with
  |nil=>simp at hi
  |cons p vs =>
  obtain⟨j,v⟩:=p
  simp only[List.map_cons,List.cons.injEq]at hi
  obtain⟨hi1,hi2⟩:=hi
  subst hi1
  obtain⟨x,xs',he,hx,hxs⟩:=hv.head
  simp only[List.map_cons,List.cons.injEq]at he
  obtain⟨rfl,rfl⟩:=he
  unfold fillA at h
  split at h
  ·cases h
  ·rename_i off size hp
   split at h
   ·rename_i hcond
    simp only[Bool.and_eq_true,beq_iff_eq,decide_eq_true_eq]at hcond
    obtain⟨⟨hnt,hs⟩,hfit⟩:=hcond
    have hcells:=hx.cells
    have hvs:v.cells.size=size:=by have:=hcells.1;simp at this;omega
    have hsz:xs.size=cs.length:=by have:=hc.1;simpa using this
    have hfold:=fold_set v.cells.toList 0 off xs (by simp;omega)
    have hz:v.cells.zipIdx.foldl (fun(cs:Array Value) (p:Value × Nat)=>cs.setIfInBounds (off+p.2) p.1) xs=(v.cells.toList.zipIdx 0).foldl (fun(cs:Array Value) (p:Value × Nat)=>cs.setIfInBounds (off+p.2) p.1) xs:=by
     rw[← Array.foldl_toList]
     simp
    obtain⟨ys,e1,e2,e3⟩:=fillA_sound place ps vs (splice cs off a.cells) r (v.cells.zipIdx.foldl (fun cs (p:Value × Nat)=>cs.setIfInBounds (off+p.2) p.1) xs) (by
      rw[hz,hfold];exact hc.splice hcells) (fun c hm=>by
      simp only[splice,List.mem_append]at hm
      rcases hm with(hm |hm) |hm
      ·exact h1 c (List.mem_of_mem_take hm)
      ·exact hx.ones (noTup_ne hnt) c hm
      ·exact h1 c (List.mem_of_mem_drop hm)) hi2 hxs h
    refine⟨ys,?_,e2,e3⟩
    have hno:¬ (v.cells.size≠size∨off+v.cells.size > xs.size):=by omega
    simp only[Instr.fill,hp]
    rw[if_neg (by simpa using (by omega:v.cells.size=size∧off+v.cells.size≤xs.size))]
    exact e1
   ·cases h
def zeroA(P:Program)(t:TypeId):Option AV:=match P.info? t with
 |some i=>match i.zero with
  |some z=>ofConst 8 z
  |none=>none
 |none=>none
theorem zeroA_sound{γ:Gh}{w:World}{t:TypeId}{a:AV}(h:zeroA P t=some a):∃z,(zeroValue t).run P w=.ok z w∧VR γ w a z:=by
 unfold zeroA at h
 split at h
 ·rename_i i hi
  split at h
  ·rename_i z hz
   exact⟨z,by simp[zeroValue,typeInfo,hi,hz],ofConst_sound h⟩
  ·cases h
 ·cases h
def placesA(P:Program):List Field→Option (List (Nat × Nat))
 | []=>some []
 |f :: r=>match sizeT P f.type with
  |some n=>match placesA P r with
   |some l=>some ((f.offset,n) :: l)
   |none=>none
  |none=>none
theorem places_run{fs:Array Field}{l:List (Nat × Nat)}(h:placesA P fs.toList=some l)(w:World):(fs.mapM fun(f:Field)=>(Functor.map (Prod.mk f.offset) (sizeOf f.type):Sem (Nat × Nat))).run P w=.ok l.toArray w:=by
 rw[Array.mapM_eq_mapM_toList]
 have key:∀(fs:List Field) (l:List (Nat × Nat)),placesA P fs=some l→(fs.mapM fun(f:Field)=>(Functor.map (Prod.mk f.offset) (sizeOf f.type):Sem (Nat × Nat))).run P w=.ok l w:=by
  intro fs
  induction fs with
  |nil=>intro l h;injection h with h;subst h;simp
  |cons f r ih =>
   intro l h
   unfold placesA at h
   split at h
   ·rename_i n hn
    split at h
    ·rename_i l' hl
     injection h with h;subst h
     have:=ih l' hl
     simp[List.mapM_cons,sizeT_run hn,this]
    ·cases h
   ·cases h
 have:=key fs.toList l h
 simp[this]
theorem elemT_array{t e:TypeId}{len:Nat}(h:elemT P t=some (some len,e)):P.underlying t=some (.array len e):=by
 unfold elemT at h
 split at h
 ·injection h with h;injection h with h1 h2;cases h1
 ·rename_i n e' hu
  injection h with h;injection h with h1 h2
  injection h1 with h1
  subst h1;subst h2;exact hu
 ·cases h
def oBuildA(P:Program)(t:TypeId)(z:AV)(parts:List (Nat × AV)):Option AV:=match elemT P t with
 |some (some _,e)=>match sizeT P e with
  |some n=>match fillA (fun i=>some (i*n,n)) z.cells parts with
   |some cs=>if z.noTup then some (.agg cs)else none
   |none=>none
  |none=>none
 |_=>none
def oBuild(P:Program)(t:TypeId)(parts:List (Nat × AV)):Option AV :=
 match zeroA P t,fieldsOf P t with
 |some z,some fs=>match placesA P fs.toList with
  |some pl=>match fillA (fun i=>pl[i]?) z.cells parts with
   |some cs=>if z.noTup then some (.agg cs)else none
   |none=>none
  |none=>none
 |some z,none=>oBuildA P t z parts
 |_,_=>none
theorem oBuild_sound{γ:Gh}{S:St}{w:World}(h:SR base w0 γ S w){t:TypeId}{parts:List (Nat × AV)}{vs:Array (Nat × Value)}(hi:vs.toList.map (·.1)=parts.map (·.1))(hv:VRL γ w (parts.map (·.2)) (vs.toList.map (·.2))){r:AV}(ho:oBuild P t parts=some r):
  OkV P base w0 γ S w (Instr.build t vs) r S:=by
 unfold oBuild at ho
 split at ho
 ·rename_i z fs hz hfs
  split at ho
  ·rename_i pl hpl
   split at ho
   ·rename_i cs hcs
    split at ho
    ·rename_i hnt
     injection ho with ho;subst ho
     obtain⟨zv,hzr,hzv⟩:=zeroA_sound (γ:=γ) (w:=w) hz
     obtain⟨ys,e1,e2,e3⟩:=fillA_sound (γ:=γ) (w:=w) (fun i=>pl[i]?) parts vs.toList z.cells cs zv.cells hzv.cells (hzv.ones (noTup_ne hnt)) hi hv hcs
     have hp:=places_run hpl w
     refine OkV.pure h (v:=.agg ys) ?_ ?_
     ·simp[Instr.build,hzr,fieldsOf_run hfs,hp,e1]
     ·rw[← Array.toArray_toList (xs:=ys)]
      exact .agg cs ys.toList e2.1 e3 e2.2
    ·cases ho
   ·cases ho
  ·cases ho
 ·rename_i z hz hfs
  unfold oBuildA at ho
  split at ho
  ·rename_i len e he
   split at ho
   ·rename_i n hn
    split at ho
    ·rename_i cs hcs
     split at ho
     ·rename_i hnt
      injection ho with ho;subst ho
      obtain⟨zv,hzr,hzv⟩:=zeroA_sound (γ:=γ) (w:=w) hz
      obtain⟨ys,e1,e2,e3⟩:=fillA_sound (γ:=γ) (w:=w) (fun i=>some (i*n,n)) parts vs.toList z.cells cs zv.cells hzv.cells (hzv.ones (noTup_ne hnt)) hi hv hcs
      refine OkV.pure h (v:=.agg ys) ?_ ?_
      ·simp[Instr.build,hzr,run_underlying (elemT_array he),sizeT_run hn,e1]
      ·rw[← Array.toArray_toList (xs:=ys)]
       exact .agg cs ys.toList e2.1 e3 e2.2
     ·cases ho
    ·cases ho
   ·cases ho
  ·cases ho
 ·cases ho
end Go.Ax
noncomputable section
namespace Go.Ax
open Go.RowKit
variable {P:Program} {base:Nat} {w0:World}
theorem fill_seq(sz:Nat):∀(vs:List Value) (k:Nat) (xs:Array Value),(∀v∈vs,v.cells.size=sz)→(k+vs.length)*sz≤xs.size →
  ∃ys,Instr.fill (fun i=>some (i*sz,sz)) xs ((vs.zipIdx k).map fun p=>(p.2,p.1))=some ys∧ys.toList=splice xs.toList (k*sz) (vs.flatMap fun v=>v.cells.toList)
 | [],k,xs,_,_=>⟨xs,rfl,by simp[splice_nil]⟩
 |v :: vs,k,xs,hs,hl=>by
  have hv:=hs v (List.mem_cons_self ..)
  have hmul:(k+(vs.length+1))*sz=k*sz+sz+vs.length*sz:=by rw[show k+(vs.length+1)=k+1+vs.length by omega,Nat.add_mul,Nat.succ_mul]
  simp only[List.length_cons]at hl
  have hfold:=fold_set v.cells.toList 0 (k*sz) xs (by simp;omega)
  have hz:v.cells.zipIdx.foldl (fun(cs:Array Value) (p:Value × Nat)=>cs.setIfInBounds (k*sz+p.2) p.1) xs=(v.cells.toList.zipIdx 0).foldl (fun(cs:Array Value) (p:Value × Nat)=>cs.setIfInBounds (k*sz+p.2) p.1) xs:=by
   rw[← Array.foldl_toList]
   simp
  have hlen:(v.cells.zipIdx.foldl (fun(cs:Array Value) (p:Value × Nat)=>cs.setIfInBounds (k*sz+p.2) p.1) xs).size=xs.size:=by
   have:=congrArg List.length (hz ▸ hfold)
   rw[splice_length (by simp;omega)]at this
   simpa using this
  obtain⟨ys,e1,e2⟩:=fill_seq sz vs (k+1) (v.cells.zipIdx.foldl (fun(cs:Array Value) (p:Value × Nat)=>cs.setIfInBounds (k*sz+p.2) p.1) xs) (fun u hu=>hs u (List.mem_cons_of_mem _ hu)) (by rw[hlen,show k+1+vs.length=k+(vs.length+1) by omega];exact hl)
  refine⟨ys,?_,?_⟩
  ·rw[List.zipIdx_cons,List.map_cons]
   simp only[Instr.fill]
   rw[if_neg (by simp;omega)]
   exact e1
  ·rw[e2,hz,hfold,List.flatMap_cons]
   have hfl:(vs.flatMap fun v=>v.cells.toList).length=vs.length*sz:=by
    have:∀l:List Value,(∀v∈l,v.cells.size=sz)→(l.flatMap fun v=>v.cells.toList).length=l.length*sz:=by
     intro l
     induction l with
     |nil=>intro _;simp
     |cons x r ih=>intro h;simp only[List.flatMap_cons,List.length_append,List.length_cons,Nat.succ_mul];rw[ih (fun u hu=>h u (List.mem_cons_of_mem _ hu))];have:=h x (List.mem_cons_self ..);simp;omega
    exact this vs (fun u hu=>hs u (List.mem_cons_of_mem _ hu))
   unfold splice
   have hvl:v.cells.toList.length=sz:=by simpa using hv
   rw[Nat.add_zero,Nat.succ_mul]
   apply List.ext_getElem?
   intro j
   simp only[List.getElem?_append,List.length_append,List.length_take,List.getElem?_take,List.getElem?_drop,List.length_drop]
   have hxl:xs.toList.length=xs.size:=by simp
   by_cases h1:j<k*sz
   ·simp[h1,hxl,hvl,hfl,show j<min (k*sz) xs.size by omega,show j<k*sz+sz by omega,show j<min (k*sz) xs.size+sz by omega,show j<min (k*sz+sz) (min (k*sz) xs.size+sz+(xs.size - (k*sz+sz))) by omega,show j<min (k*sz+sz) (min (k*sz) xs.size+sz+(xs.size - (k*sz+sz)))+vs.length*sz by omega,show j<min (k*sz) xs.size+(sz+vs.length*sz) by omega]
   ·by_cases h2:j<k*sz+sz
    ·simp[h1,h2,hxl,hvl,hfl,show ¬ j<min (k*sz) xs.size by omega,show j<min (k*sz) xs.size+sz by omega,show j<min (k*sz+sz) (min (k*sz) xs.size+sz+(xs.size - (k*sz+sz))) by omega,show j<min (k*sz+sz) (min (k*sz) xs.size+sz+(xs.size - (k*sz+sz)))+vs.length*sz by omega,show j<min (k*sz) xs.size+(sz+vs.length*sz) by omega,show j - min (k*sz) xs.size<sz by omega]
    ·by_cases h3:j<k*sz+sz+vs.length*sz
     ·simp[h1,h2,hxl,hvl,hfl,show ¬ j<min (k*sz) xs.size by omega,show ¬ j<min (k*sz+sz) (min (k*sz) xs.size+sz+(xs.size - (k*sz+sz))) by omega,show j<min (k*sz+sz) (min (k*sz) xs.size+sz+(xs.size - (k*sz+sz)))+vs.length*sz by omega,show j<min (k*sz) xs.size+(sz+vs.length*sz) by omega,show ¬ j - min (k*sz) xs.size<sz by omega,show j - min (k*sz+sz) (min (k*sz) xs.size+sz+(xs.size - (k*sz+sz)))=j - min (k*sz) xs.size - sz by omega]
     ·have a1:¬ j<min (k*sz+sz) (min (k*sz) xs.size+sz+(xs.size - (k*sz+sz)))+vs.length*sz:=by omega
      have a2:¬ j<min (k*sz) xs.size+(sz+vs.length*sz):=by omega
      have a3:∀q,¬ k*sz+sz+vs.length*sz+q<min (k*sz) xs.size:=by omega
      have a4:∀q,¬ k*sz+sz+vs.length*sz+q<min (k*sz) xs.size+sz:=by omega
      have a5:k*sz+sz+(k*sz+sz+vs.length*sz+(j - (min (k*sz+sz) (min (k*sz) xs.size+sz+(xs.size - (k*sz+sz)))+vs.length*sz)) - (min (k*sz) xs.size+sz))=j:=by omega
      have a6:k*sz+(sz+vs.length*sz)+(j - (min (k*sz) xs.size+(sz+vs.length*sz)))=j:=by omega
      simp[h1,h2,hxl,hvl,hfl,a1,a2,a3,a4,a5,a6]
theorem cells_flat{γ:Gh}{w:World}:∀{as:List AV} {vs:List Value},VRL γ w as vs→VRL γ w (flat as) (vs.flatMap fun v=>v.cells.toList)
 | [],vs,h=>by
  have:vs=[]:=List.eq_nil_of_length_eq_zero h.1
  subst this;exact VRL.nil γ w
 |a :: as,vs,h=>by
  obtain⟨x,xs,rfl,hx,hr⟩:=h.head
  rw[flat_cons,List.flatMap_cons]
  exact hx.cells.append (cells_flat hr)
theorem ones_flat{γ:Gh}{w:World}{as:List AV}{vs:List Value}(h:VRL γ w as vs)(hn:as.all AV.noTup=true):∀x∈flat as,x.one=true:=fun x hx=>by
 obtain⟨a,ha,hxa⟩:=List.mem_flatMap.1 hx
 obtain⟨k,hk,rfl⟩:=List.getElem_of_mem ha
 exact(h.2 k hk (by rw[h.1];exact hk)).ones (noTup_ne (List.all_eq_true.1 hn _ ha)) x hxa
def oBuildSlice(P:Program)(t:TypeId)(len:Nat)(parts:List (Nat × AV)):Option AV :=
 match elemT P t with
 |some (none,e)=>match sizeT P e,zeroA P e with
  |some (k+1),some _=>if(parts.map (·.1) == List.range len) && (parts.all fun p=>p.2.noTup && p.2.cells.length == k+1) && decide (len*(k+1)≤16777216)then some (.sl 1 0 (k+1) (parts.map (·.2)))else none
  |_,_=>none
 |_=>none
theorem elemT_slice{t e:TypeId}(h:elemT P t=some (none,e)):P.underlying t=some (.slice e):=by
 unfold elemT at h
 split at h <;> simp_all
theorem zip_range:∀(l:List (Nat × Value)) (n:Nat),l.map (·.1)=List.range' n l.length→l=((l.map (·.2)).zipIdx n).map fun p=>(p.2,p.1)
 | [],_,_=>rfl
 | (i,v) :: r,n,h=>by
  simp only[List.map_cons,List.length_cons,List.range'_succ,List.cons.injEq]at h
  rw[List.map_cons,List.zipIdx_cons,List.map_cons,← zip_range r (n+1) h.2,h.1]
theorem oBuildSlice_sound{γ:Gh}{S:St}{w:World}(h:SR base w0 γ S w){t:TypeId}{len:Nat}{parts:List (Nat × AV)}{vs:Array (Nat × Value)}(hi:vs.toList.map (·.1)=parts.map (·.1))(hv:VRL γ w (parts.map (·.2)) (vs.toList.map (·.2))){r:AV}(ho:oBuildSlice P t len parts=some r):
  OkV P base w0 γ S w (Instr.buildSlice t len vs) r S:=by
 unfold oBuildSlice at ho
 split at ho
 ·rename_i e he
  have hu:=elemT_slice he
  split at ho
  ·rename_i k z hk hz
   split at ho
   ·rename_i hc
    simp only[Bool.and_eq_true,beq_iff_eq,decide_eq_true_eq]at hc
    obtain⟨⟨hr,hall⟩,hsz⟩:=hc
    injection ho with ho;subst ho
    obtain⟨zv,hzr,hzv⟩:=zeroA_sound (γ:=γ) (w:=w) hz
    have hpl:parts.length=len:=by have:=congrArg List.length hr;simpa using this
    have hcell:∀p∈parts,p.2.noTup=true∧p.2.cells.length=k+1:=fun p hp=>by simpa using List.all_eq_true.1 hall p hp
    have hes:∀x∈parts.map (·.2),x.cells.length=k+1:=fun x hx=>by
     obtain⟨p,hp,rfl⟩:=List.mem_map.1 hx;exact(hcell p hp).2
    have hnt:(parts.map (·.2)).all AV.noTup=true:=List.all_eq_true.2 fun x hx=>by
     obtain⟨p,hp,rfl⟩:=List.mem_map.1 hx;exact(hcell p hp).1
    have hvl:(vs.toList.map (·.2)).length=len:=by rw[hv.1];simpa using hpl
    have hvs:∀u∈vs.toList.map (·.2),u.cells.size=k+1:=fun u hu=>by
     obtain⟨j,hj,rfl⟩:=List.getElem_of_mem hu
     have hj2:j<(parts.map (·.2)).length:=by rw[← hv.1];exact hj
     have h1:=(hv.2 j hj2 hj).cells.1
     rw[hes _ (List.getElem_mem hj2)]at h1
     simpa using h1
    have hzip:=zip_range vs.toList 0 (by
     rw[hi,hr,List.range_eq_range']
     congr 1
     simpa using hvl.symm)
    obtain⟨Z,hZ⟩:∃Z:Array Value,Z=(Array.range (len*(k+1))).map (fun i=>(if len*(k+1)=0 then #[]else zv.cells:Array Value)[i % (if len*(k+1)=0 then #[]else zv.cells:Array Value).size]!):=⟨_,rfl⟩
    have hZs:Z.size=len*(k+1):=by rw[hZ];simp
    obtain⟨ys,e1,e2⟩:=fill_seq (k+1) (vs.toList.map (·.2)) 0 Z hvs (by rw[hvl,hZs];simp)
    rw[← hzip]at e1
    have hfr:=cells_flat hv
    have hfl:(flat (parts.map (·.2))).length=len*(k+1):=by rw[flat_length hes];simp[hpl]
    have hys:ys.toList=(vs.toList.map (·.2)).flatMap fun v=>v.cells.toList:=by
     rw[e2]
     unfold splice
     have:((vs.toList.map (·.2)).flatMap fun v=>v.cells.toList).length=len*(k+1):=by rw[hfr.1,hfl]
     rw[Nat.zero_mul,List.take_zero,List.nil_append,Nat.zero_add,this,List.drop_eq_nil_of_le (by rw[Array.length_toList,hZs];exact Nat.le_refl _),List.append_nil]
    have hyl:ys.size=len*(k+1):=by rw[← Array.length_toList,hys,hfr.1,hfl]
    obtain⟨k1,k2⟩:=h.allocIm ys e ys.size (Nat.le_refl _)
    have hx:=Ext.allocIm (S:=S) ys e ys.size k2
    refine⟨.slice (some ⟨w.heap.size,0,none⟩) len len,w.alloc (.cells ys e),_,?_,k1,hx,?_⟩
    ·have h24:¬ (16777216<len*(k+1)):=by omega
     by_cases h0:len*(k+1)=0
     ·rw[if_pos h0]at hZ
      have hl0:len=0:=by
       rcases Nat.mul_eq_zero.1 h0 with h |h
       ·exact h
       ·omega
      subst hl0
      simp at hZ
      subst hZ
      simp[Instr.buildSlice,run_underlying hu,sizeT_run hk,e1,newRow]
     ·rw[if_neg h0]at hZ
      have hl0:¬ len=0:=fun e=>h0 (by rw[e,Nat.zero_mul])
      have e1':=e1
      rw[hZ]at e1'
      simp[Instr.buildSlice,run_underlying hu,sizeT_run hk,h24,hl0,hzr,e1',newRow]
      exact fun hq=>absurd hq h0
    ·have hpm:(parts.map (·.2)).length=len:=by simpa using hpl
     have:=VR.sl (γ:=γ.withIm w.heap.size 0 ys.size) (w:=w.alloc (.cells ys e)) 1 0 (k+1) (parts.map (·.2)) w.heap.size 0 len (fun j=>ys.getD j undef) (Nat.succ_pos _) hes (ones_flat hv hnt) (fun j hj=>by
       refine⟨.inr ⟨rfl,by omega,by omega⟩,?_⟩
       rw[Nat.zero_add]
       refine alloc_new_cell w ys e ?_
       have:j<ys.size:=by omega
       simp[this]) (fun j hj=>by
       have hj2:j<((vs.toList.map (·.2)).flatMap fun v=>v.cells.toList).length:=by rw[hfr.1];exact hj
       have:=(hfr.2 j hj hj2).mono k2
       have hj3:j<ys.size:=by omega
       have e:ys.getD j undef=((vs.toList.map (·.2)).flatMap fun v=>v.cells.toList)[j]:=by
        have:ys.toList[j]'(by simpa using hj3)=((vs.toList.map (·.2)).flatMap fun v=>v.cells.toList)[j]:=by simp only[hys]
        rw[← this];simp[hj3]
       rw[e];exact this) (fun h=>by omega) (fun _=>hpm.symm) (by omega) ⟨ys,e,(0,0),heap_alloc_new w _,by omega⟩
     rw[hpm]at this
     exact this
   ·cases ho
  ·cases ho
 ·cases ho
end Go.Ax
