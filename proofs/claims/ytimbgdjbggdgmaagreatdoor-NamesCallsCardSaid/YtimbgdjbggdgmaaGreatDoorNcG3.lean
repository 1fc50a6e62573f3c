/- K3 -/
import Derived.Test.YtimbgdjbggdgmaaGreatDoorNcG2
import Derived.Laws.StructEq
import Derived.Laws.Strings
import Derived.Laws.MakeOwn
import Derived.Laws.IdiomCopy
set_option linter.unusedVariables false
set_option linter.unusedSimpArgs false
noncomputable section
namespace Go.Ax
open Go.RowKit
variable {P:Program}
def Ll:List UInt8→List UInt8→Bool:=List.rec (fun m=>List.rec true (fun _ _ _=>false) m) (fun a _ ih m=>List.rec false (fun b r _=>Bool.rec false (ih r) (Nat.beq a.toNat b.toNat)) m)
theorem Ko:∀(l m:List UInt8),Ll l m=(l == m)
 | [],[]=>rfl
 | [],_ :: _=>rfl
 |_ :: _,[]=>rfl
 |a :: l,b :: m=>by
  have ih:=Ko l m
  show Bool.rec false (Ll l m) (Nat.beq a.toNat b.toNat)=(a :: l == b :: m)
  rw[ih]
  have h:Nat.beq a.toNat b.toNat=(a == b):=by
   rw[Bool.eq_iff_iff,Nat.beq_eq,beq_iff_eq];exact⟨fun h=>UInt8.toNat_inj.1 h,fun h=>by rw[h]⟩
  rw[h]
  show _=(a == b && l == m)
  cases a == b <;> rfl
def Cv(op:BinOp)(a b:AV):Option AV :=
 match a,b with
 |.v (.int k x),.v (.int k' y)=>if k=k' then(match op with
   |.add=>some (.v (.int k (k.wrap (x+y))))
   |.sub=>some (.v (.int k (k.wrap (x - y))))
   |.mul=>some (.v (.int k (k.wrap (x*y))))
   |.eql=>some (.v (.bool (x == y)))
   |.neq=>some (.v (.bool (x != y)))
   |.lss=>some (.v (.bool (x<y)))
   |.leq=>some (.v (.bool (x≤y)))
   |.gtr=>some (.v (.bool (x > y)))
   |.geq=>some (.v (.bool (x ≥ y)))
   |.rem=>if 0<y then some (.v (.int k (x.tmod y)))else none
   |_=>none)else none
 |.v (.string s),.v (.string u)=>(match op with
   |.add=>if s.size+u.size≤4611686018427387904 then some (.v (.string ⟨⟨s.data.toList ++ u.data.toList⟩⟩))else none
   |.eql=>some (.v (.bool (Ll s.data.toList u.data.toList)))
   |.neq=>some (.v (.bool (!Ll s.data.toList u.data.toList)))
   |_=>none)
 |_,_=>none
theorem cat_eq(s u:ByteArray):(⟨⟨s.data.toList ++ u.data.toList⟩⟩:ByteArray)=s ++ u:=by
 apply ByteArray.ext;apply Array.ext';simp
theorem add_sound{γ:Gh}{w:World}{t:TypeId}{x y:Operand}{s s':ByteArray}{r:AV}(h:(if s.size+s'.size≤4611686018427387904 then some (AV.v (.string ⟨⟨s.data.toList ++ s'.data.toList⟩⟩))else none)=some r):∃z,(do eqGuard .add t x y (.string s) (.string s');binOp .add t (.string s) (.string s'):Sem Value).run P w=.ok z w∧VR γ w r z:=by
 by_cases hsz:s.size+s'.size≤4611686018427387904
 ·rw[if_pos hsz]at h;injection h with h;subst h
  refine⟨.string (s ++ s'),?_,?_⟩
  ·simp[eqGuard,binOp,Op.stringOp];omega
  ·rw[cat_eq];exact .v _ rfl
 ·rw[if_neg hsz]at h;cases h
theorem iP{γ:Gh}{w:World}{op:BinOp}{a b r:AV}{v u:Value}(hv:VR γ w a v)(hu:VR γ w b u)(h:Cv op a b=some r)(t:TypeId)(x y:Operand):∃z,(do eqGuard op t x y v u;binOp op t v u:Sem Value).run P w=.ok z w∧VR γ w r z:=by
 unfold Cv at h
 split at h
 ·rename_i k i k' j
  cases hv;cases hu
  split at h
  ·rename_i hk
   subst hk;cases op <;> simp only at h <;> first | (cases h;done) | (injection h with h;subst h;exact⟨_,by simp[eqGuard,binOp,Op.intArith,Op.intCmp],.v _ rfl⟩) | (by_cases hp:0<j;(rw[if_pos hp]at h;injection h with h;subst h;exact⟨_,by simp[eqGuard,binOp,Op.intDiv,show j≠0 by omega],.v _ rfl⟩);(rw[if_neg hp]at h;cases h))
  ·cases h
 ·rename_i s s'
  cases hv;cases hu;cases op <;> simp only at h <;> first | (cases h;done) |exact add_sound h | (injection h with h;subst h;exact⟨_,by simp[eqGuard,binOp,Op.stringOp];rfl,by rw[Ko,← ByteArray.toList_eq,← ByteArray.toList_eq];exact .v _ rfl⟩)
 ·cases h
def Jl(P:Program)(t:TypeId)(a:AV)(lo hi:Option AV):Option AV :=
 match a with
 |.v (.string s)=>match P.underlying t with
  |some .string=>match Ip lo 0,Ip hi s.size with
   |some l,some h=>Bool.rec (motive:=fun _=>Option AV) none (Bool.rec (motive:=fun _=>Option AV) none (some (.v (.string ⟨⟨(s.data.toList.drop l).take (Nat.sub h l)⟩⟩))) (Nat.ble h s.size)) (Nat.ble l h)
   |_,_=>none
  |_=>none
 |_=>none
theorem vE(s:ByteArray)(l h:Nat):s.extract l h=⟨⟨(s.data.toList.drop l).take (h - l)⟩⟩:=by
 apply ByteArray.ext;apply Array.toList_inj.1;simp[ByteArray.data_extract,Array.toList_extract]
theorem aK{base:Nat}{w0:World}{γ:Gh}{S:St}{w:World}(hS:SR base w0 γ S w){t:TypeId}{a:AV}{v:Value}(hv:VR γ w a v){lo hi:Option AV}{vlo vhi:Option Value}(hlo:∀a,lo=some a→∃v,vlo=some v∧VR γ w a v)(hlo0:lo=none→vlo=none)
  (hhi:∀a,hi=some a→∃v,vhi=some v∧VR γ w a v) (hhi0:hi=none→vhi=none) {r:AV} (ho:Jl P t a lo hi=some r):OkV P base w0 γ S w (Instr.sliceAt t v vlo vhi none) r S:=by
 unfold Jl at ho
 split at ho
 ·rename_i s
  cases hv
  split at ho
  ·rename_i hu
   split at ho
   ·rename_i l h h1 h2
    cases hlh:Nat.ble l h with
    |false=>rw[hlh]at ho;cases ho
    |true =>
     cases hhs:Nat.ble h s.size with
     |false=>rw[hlh,hhs]at ho;cases ho
     |true =>
      rw[hlh,hhs]at ho;injection ho with ho;subst ho
      have hb:=Sc (P:=P) (isS:=false) hlo hlo0 hhi hhi0 h1 h2 (Jd3 hlh) (Jd3 hhs) (Ja1 _);refine OkV.pure hS (v:=.string (s.extract l h)) ?_ (by rw[vE];exact .v _ rfl)
      simp[Instr.sliceAt,Instr.slice,run_underlying hu,hb]
   ·cases ho
  ·cases ho
 ·cases ho
def K6(P:Program)(t:TypeId)(a i:AV):Option AV :=
 match a,i with
 |.v (.string s),.v (.int _ n)=>match P.underlying t with
  |some .string=>if 0≤n then match s.data.toList[n.toNat]? with
    |some b=>some (.v (.int .u8 b.toNat))
    |none=>none
   else none
  |_=>none
 |.agg cs,.v (.int _ n)=>match Fs P t with
  |some (some len,e)=>match Cl P e with
   |some sz=>if 0≤n∧n<len then kF P e cs (n.toNat*sz)else none
   |none=>none
  |_=>none
 |_,_=>none
theorem aL{γ:Gh}{w:World}{t:TypeId}{a i r:AV}{v u:Value}(hv:VR γ w a v)(hu:VR γ w i u)(h:K6 P t a i=some r):∃z,(Instr.index t v u).run P w=.ok z w∧VR γ w r z:=by
 unfold K6 at h
 split at h
 ·rename_i s k n
  cases hv;cases hu
  split at h
  ·rename_i ht
   split at h
   ·rename_i hn
    split at h
    ·rename_i b hb
     injection h with h;subst h
     have hb2:s[n.toNat]? = some b:=by
      have h1:s.data[n.toNat]? = some b:=by simpa using hb
      obtain⟨hlt,he⟩:=Jb9.1 h1;have:n.toNat<s.size:=hlt;rw[getElem?_pos s n.toNat this];exact congrArg some he
     exact⟨.int .u8 b.toNat,by simp[Instr.index,asIntOf,run_underlying ht,hn,hb2],.v _ rfl⟩
    ·cases h
   ·cases h
  ·cases h
 ·rename_i cs k n
  cases hu
  split at h
  ·rename_i len e he
   split at h
   ·rename_i sz hs
    split at h
    ·rename_i hn
     cases hv with
     |agg _ x hx h1 hr =>
      obtain⟨z,hz,hzv⟩:=Zv (P:=P) ⟨hx,hr⟩ h1 h;exact⟨z,by simp[Instr.index,asIntOf,run_underlying (Z8 he),hn,Gi hs,hz],hzv⟩
    ·cases h
   ·cases h
  ·cases h
 ·cases h
def zD(P:Program)(t:TypeId)(a b:AV):Option Bool:=match P.underlying t,a,b with
 |some .bool,.v (.bool x),.v (.bool y)=>some (x == y)
 |some (.int _),.v (.int k x),.v (.int k' y)=>if k=k' then some (x == y)else none
 |some .string,.v (.string s),.v (.string u)=>some (Ll s.data.toList u.data.toList)
 |_,_,_=>none
def pH(P:Program)(cs ds:List AV):List Field→Option Bool
 | []=>some true
 |f :: r=>if f.name ≠ "_" then(match B9 P f.type,cs[f.offset]?,ds[f.offset]? with
   |some false,some a,some b=>(match zD P f.type a b with
    |some true=>pH P cs ds r
    |some false=>some false
    |none=>none)
   |_,_,_=>none)else none
def Y7(P:Program)(op:BinOp)(t:TypeId)(a b:AV):Option AV:=match a,b with
 |.agg cs,.agg ds=>match fieldsOf P t with
  |some fs=>if P.stoodInHeld t=false∧P.eqGuardType P.depth t=false then(match pH P cs ds fs.toList with
    |some r=>(match op with
     |.eql=>some (.v (.bool r))
     |.neq=>some (.v (.bool (!r)))
     |_=>none)
    |none=>none)else none
  |none=>none
 |_,_=>none
theorem Xp{P:Program}{γ:Gh}{w:World}{t:TypeId}{a b:AV}{v u:Value}{r:Bool}(hv:VR γ w a v)(hu:VR γ w b u)(h:zD P t a b=some r)(d:Nat):(Op.equalIn (d+1) t v u).run P w=.ok r w:=by
 unfold zD at h
 split at h
 ·rename_i x y ht
  injection h with h;subst h
  cases hv;cases hu;exact run_equalIn_bool' w d t x y ht
 ·rename_i k0 k x k' y ht
  split at h
  ·rename_i hk
   subst hk;injection h with h;subst h
   cases hv;cases hu;exact run_equalIn_int w d t k _ x y ht
  ·cases h
 ·rename_i s u ht
  injection h with h;subst h
  cases hv;cases hu;rw[run_equalIn_string w d t s u ht,ByteArray.toList_eq,ByteArray.toList_eq,Ko]
 ·cases h
theorem Xo{P:Program}{γ:Gh}{w:World}{cs ds:List AV}{xs ys:Array Value}(hc:VRL γ w cs xs.toList)(hd:VRL γ w ds ys.toList)(d:Nat):∀{fs:List Field} {r:Bool},pH P cs ds fs=some r→(Op.eqFields (d+1) xs ys fs).run P w=.ok r w
 | [],r,h=>by injection h with h;subst h;simp[Op.eqFields]
 |f :: fs,r,h=>by
  unfold pH at h
  split at h
  ·rename_i hn
   split at h
   ·rename_i a b ht ha hb
    obtain⟨x,hx,hxv⟩:=hc.get ha;obtain⟨y,hy,hyv⟩:=hd.get hb;have hx2:xs[f.offset]? = some x:=by simpa using hx
    have hy2:ys[f.offset]? = some y:=by simpa using hy
    have px:(part f.type xs f.offset).run P w=.ok x w:=by simp[part,Nb ht,hx2]
    have py:(part f.type ys f.offset).run P w=.ok y w:=by simp[part,Nb ht,hy2]
    split at h
    ·rename_i he
     have:=Xo hc hd d (fs:=fs) h;simp only[Op.eqFields,Sem.run_ite,Sem.run_bind,px,py,Result.andThen_ok,Xp hxv hyv he d];rw[if_pos hn]
     simpa using this
    ·rename_i he
     injection h with h;subst h
     simp only[Op.eqFields,Sem.run_ite,Sem.run_bind,px,py,Result.andThen_ok,Xp hxv hyv he d];rw[if_pos hn];simp
    ·cases h
   ·cases h
  ·cases h
theorem pA{P:Program}{γ:Gh}{w:World}{op:BinOp}{t:TypeId}{a b r:AV}{v u:Value}(hv:VR γ w a v)(hu:VR γ w b u)(h:Y7 P op t a b=some r)(x y:Operand):∃z,(do eqGuard op t x y v u;binOp op t v u:Sem Value).run P w=.ok z w∧VR γ w r z:=by
 unfold Y7 at h
 split at h
 ·rename_i cs ds
  cases hv with
  |agg _ xs hx h1 hxr =>
  cases hu with
  |agg _ ys hy h2 hyr =>
  split at h
  ·rename_i fs hfs
   split at h
   ·rename_i hst
    obtain⟨hs1,hs2⟩:=hst
    split at h
    ·rename_i q hq
     have hu2:P.underlying t=some (.struct fs):=by
      unfold fieldsOf at hfs
      split at hfs
      ·rename_i fs' hu';injection hfs with hfs;subst hfs;exact hu'
      ·cases hfs
     have hf2:P.fieldsOf t=fs:=by unfold Program.fieldsOf;rw[hu2]
     have heq:(Op.equalIn 10000 t (.agg xs.toArray) (.agg ys.toArray)).run P w=.ok q w:=by
      rw[run_equalIn_struct w 9999 t xs.toArray ys.toArray (by rw[hf2];exact hu2) hs1,hf2]
      exact Xo (xs:=xs.toArray) (ys:=ys.toArray) ⟨by simpa using hx,by simpa using hxr⟩ ⟨by simpa using hy,by simpa using hyr⟩ 9998 hq
     split at h
     ·injection h with h;subst h
      exact⟨.bool q,by simp only[Sem.run_bind,run_eqGuard_agg w _ t x y _ _ hs2,Result.andThen_ok,run_eql_struct,heq],.v _ rfl⟩
     ·injection h with h;subst h
      exact⟨.bool (!q),by simp only[Sem.run_bind,run_eqGuard_agg w _ t x y _ _ hs2,Result.andThen_ok,run_neq_struct,heq],.v _ rfl⟩
     ·cases h
    ·cases h
   ·cases h
  ·cases h
 ·cases h
end Go.Ax
noncomputable section
namespace Go.Ax
open Go.RowKit
variable {P:Program} {base:Nat} {w0:World}
def iH(cs:List AV)(c:Nat):List AV:=Nat.rec (motive:=fun _=>List AV) [] (fun _ ih=>cs ++ ih) c
theorem dH(cs:List AV):∀c,(iH cs c).length=c*cs.length
 |0=>by show([]:List AV).length=_;simp
 |c+1=>by show(cs ++ iH cs c).length=_;rw[Ja3,dH cs c,Nat.add_mul];omega
theorem sI{cs:List AV}(h:∀x∈cs,x.one=true):∀c,∀x∈iH cs c,x.one=true
 |0,x,hx=>by cases hx
 |c+1,x,hx=>by
  have hx:x∈cs ++ iH cs c:=hx;rcases Jc7.1 hx with hx |hx
  ·exact h x hx
  ·exact sI h c x hx
theorem sJ(cs:List AV)(hp:0<cs.length):∀(c k:Nat),k<c*cs.length→(iH cs c)[k]? = cs[k % cs.length]?
 |0,k,h=>by simp at h
 |c+1,k,h=>by
  show(cs ++ iH cs c)[k]? = _
  by_cases hk:k<cs.length
  ·rw[List.getElem?_append_left hk,Nat.mod_eq_of_lt hk]
  ·rw[List.getElem?_append_right (by omega),sJ cs hp c (k - cs.length) (by rw[Nat.add_mul]at h;omega),← Nat.mod_eq_sub_mod (by omega)]
theorem made_VRL{γ:Gh}{w:World}{cs:List AV}{z:Array Value}(h:VRL γ w cs z.toList)(hp:0<z.size)(c:Nat):VRL γ w (iH cs c) (madeCells z (c*z.size)).toList:=by
 have hl:cs.length=z.size:=by have:=h.1;simp at this;exact this.symm
 refine⟨by rw[dH,hl];simp[size_madeCells],fun k hk hk'=>?_⟩
 have hk2:k<c*cs.length:=by rw[dH]at hk;exact hk
 have hm:k % z.size<z.size:=Nat.mod_lt _ hp
 have e1:(iH cs c)[k]=cs[k % z.size]'(by omega):=by
  have h1:=sJ cs (by omega) c k hk2
  rw[Ja4 hk,hl,Ja4 (by omega)]at h1
  injection h1
 have e2:(madeCells z (c*z.size)).toList[k]=z.toList[k % z.size]'(by simp;exact hm):=by
  simp[madeCells,hm]
 rw[e1,e2];exact h.2 _ _ _
def oMake(P:Program)(S:St)(t:TypeId)(l c:AV):Option (AV × St):=match l,c with
 |.v (.int _ l),.v (.int _ c)=>match P.underlying t with
  |some (.slice e)=>match P.info? e with
   |some i=>match i.zero with
    |some z=>match Bo 8 z with
     |some za=>if 0≤l∧l≤c∧(i.bytes:Int)*c≤281474976710656∧c≤9223372036854775807∧za.noTup=true∧z.cells.size=i.size∧0<i.size then
       (if l=0 then some (.sl S.next 0 i.size [],⟨S.next+1,S.mem.set S.next (some (.tip 0))⟩)else some (.bs S.next 0 l.toNat i.size,S.newBox (iH za.cells c.toNat)))else none
     |none=>none
    |none=>none
   |none=>none
  |_=>none
 |_,_=>none
theorem tG{γ:Gh}{S S':St}{w:World}(hS:SR base w0 γ S w){t:TypeId}{l c:AV}{v u:Value}(hv:VR γ w l v)(hu:VR γ w c u){r:AV}(ho:oMake P S t l c=some (r,S')):OkV P base w0 γ S w (Instr.makeSlice t v u) r S':=by
 unfold oMake at ho
 split at ho
 ·rename_i kl l kc c
  cases hv;cases hu
  split at ho
  ·rename_i e ht
   split at ho
   ·rename_i i hi
    split at ho
    ·rename_i z hz
     split at ho
     ·rename_i za hza
      split at ho
      ·rename_i hc
       obtain⟨c1,c2,c3,c4,c5,c6,c7⟩:=hc;have hrun:=run_make (P:=P) w t e i z ht hi hz kl kc l c c1 c2 c3 c4;have hzv:=Hm (w:=w) (γ:=γ) hza;have hcs:=hzv.cells;have hm:=made_VRL hcs (by omega) c.toNat
       rw[c6]at hm;have hones:=sI (hzv.ones (N4 c5)) c.toNat
       split at ho
       ·rename_i hl
        injection ho with ho;injection ho with h1 h2;subst h1;subst h2
        subst hl;obtain⟨k1,k2⟩:=hS.allocIm (madeCells z.cells (c.toNat*i.size)) e 0 (Nat.zero_le _)
        have k1:SR base w0 γ S (w.alloc (.cells (madeCells z.cells (c.toNat*i.size)) e)):=by
         refine⟨k1.below,k1.hbase,fun b o hi=>k1.imc b o (.inl hi),k1.fresh,k1.pos,k1.inb,fun id c e=>?_,k1.inj⟩
         obtain⟨b,s,l1,l2,l3⟩:=hS.live id c e;exact⟨b,s,l1,l2,l3.keep (Li γ w _) (Below.heap_alloc w _ _ (hS.inb id b s l1)) (fun _ h=>h)⟩
        have hf:=k1.fresh S.next (Ja1 _)
        have hnew:∀id c s',S.mem.get id=some c→γ.loc id≠some (w.heap.size,s'):=fun id c s' hm hl=>by
         have:=hS.inb id _ _ hl;omega
        obtain⟨j1,j2⟩:=k1.name w.heap.size 0 (.tip 0) hS.hbase (by simp) ⟨_,e,heap_alloc_new w _,fun o ho=>by have:=Y2 hS ho;omega,Nat.zero_le _⟩ hnew
        have hx2:Ext γ S w _ _ _:=(Ext.alloc (.cells (madeCells z.cells (c.toNat*i.size)) e)).newName (s:=0) (c:=.tip 0) hf.1 hf.2 rfl;refine⟨_,_,γ.withLoc S.next w.heap.size 0,hrun,j1,hx2,?_⟩;refine .sl S.next 0 i.size [] w.heap.size 0 c.toNat (fun _=>undef) c7 (fun _ h=>absurd h Ja7) (fun _ h=>absurd h Ja7) (fun k h=>absurd h (Jb3 k)) (fun k h=>absurd h (Jb3 k)) (fun _=>⟨0,?_,rfl⟩) (fun h=>?_) (Nat.zero_le _) ⟨_,e,(0,0),heap_alloc_new w _,by rw[size_madeCells];omega⟩
        ·show(if S.next=S.next then _ else _)=_;rw[if_pos rfl]
        ·have:=hS.pos;omega
       ·rename_i hl
        injection ho with ho;injection ho with h1 h2;subst h1;subst h2
        obtain⟨k1,k2⟩:=hS.newBox e hm hones;have hx:Ext γ S w (γ.withLoc S.next w.heap.size 0) (S.newBox (iH za.cells c.toNat)) (w.alloc (.cells (madeCells z.cells (c.toNat*i.size)).toList.toArray e)):=Ext.newBox hS _ _;refine⟨_,_,γ.withLoc S.next w.heap.size 0,hrun,by simpa[St.newBox]using k1,by simpa[St.newBox]using hx,?_⟩
        exact .bs S.next 0 l.toNat i.size w.heap.size 0 c.toNat (by show(if S.next=S.next then _ else _)=_;rw[if_pos rfl]) (by omega) c7 ⟨_,e,(0,0),heap_alloc_new w _,by rw[size_madeCells];omega⟩
      ·cases ho
     ·cases ho
    ·cases ho
   ·cases ho
  ·cases ho
 ·cases ho
end Go.Ax
noncomputable section
namespace Go.Ax
open Go.RowKit
variable {P:Program} {base:Nat} {w0:World}
theorem SR.scribble{w:World}{γ:Gh}{S:St}(h:SR base w0 γ S w){b o:Nat}(hb:base≤b)(hn:∀id c s,S.mem.get id=some c→γ.loc id≠some (b,s))(him:∀o,¬ γ.im b o){arr:Array Value}{T:TypeId}{fr:Nat × Nat}(ha:w.heap[b]? = some (Obj.cells arr T fr))(y:List Value):
  SR base w0 γ S (w.setCells b o y)∧Ev γ w γ (w.setCells b o y):=by
 obtain⟨⟨arr',ha',hs'⟩,hk⟩:=Hn b y o w arr T fr ha;obtain⟨r1,r2,r3,r4⟩:=F7 b y o w
 have ev:Ev γ w γ (w.setCells b o y):=by
  refine⟨fun _ _ h=>h,fun _ _ h=>h,fun b' o' v hi hv=>?_,fun b' arr2 T2 fr2 h2=>?_⟩
  ·by_cases e:b' = b
   ·subst e;exact absurd hi (him o')
   ·exact(World.cell?_of_block (a:=⟨b',o',none⟩) (hk b' e)).trans hv
  ·by_cases e:b' = b
   ·subst e
    rw[ha]at h2;injection h2 with h2;injection h2 with q1 q2 q3;subst q1;subst q2;subst q3
    exact⟨arr',_,ha',hs'⟩
   ·exact⟨arr2,fr2,(hk b' e).trans h2,rfl⟩
 refine⟨⟨Pu h.below b _ y hb hk,by rw[r4];exact h.hbase,fun b' o' hi=>?_,h.fresh,h.pos,fun id b' s' e=>by rw[r4];exact h.inb id b' s' e,fun id c e=>?_,h.inj⟩,ev⟩
 ·obtain⟨v,hv⟩:=h.imc b' o' hi;exact⟨v,ev.cell b' o' v hi hv⟩
 ·obtain⟨b',s',q1,q2,q3⟩:=h.live id c e
  have hbb:b'≠b:=fun eb=>by subst eb;exact hn id c s' e q1
  exact⟨b',s',q1,q2,q3.keep ev (hk b' hbb) (fun _ h=>h)⟩
theorem SR.newBoxP{w:World}{γ:Gh}{S:St}(h:SR base w0 γ S w)(T:TypeId){cs:List AV}{x y:List Value}(hr:VRL γ w cs x)(h1:∀c∈cs,c.one=true){arr:Array Value}(harr:arr.toList=x ++ y):
  SR base w0 (γ.withLoc S.next w.heap.size 0) (S.newBox cs) (w.alloc (.cells arr T))∧Ext γ S w (γ.withLoc S.next w.heap.size 0) (S.newBox cs) (w.alloc (.cells arr T)):=by
 obtain⟨a1,a2⟩:=h.allocIm arr T 0 (Nat.zero_le _)
 have h0:SR base w0 γ S (w.alloc (.cells arr T)):=by
  refine⟨a1.below,a1.hbase,fun b o hi=>a1.imc b o (.inl hi),a1.fresh,a1.pos,a1.inb,fun id c e=>?_,a1.inj⟩
  obtain⟨b,s,l1,l2,l3⟩:=h.live id c e;exact⟨b,s,l1,l2,l3.keep (Li γ w _) (Below.heap_alloc w _ _ (h.inb id b s l1)) (fun _ h=>h)⟩
 have key:=h0.name w.heap.size 0 (.box cs) h.hbase (by simp) ⟨rfl,fun o ho=>by have:=Y2 h ho;omega,h1,arr,T,x,y,heap_alloc_new w _,harr,hr.mono (Li γ w _)⟩
  (fun id c s' e l=>by have:=h.inb id _ _ l;omega)
 exact⟨key.1,Ext.newBox h _ _⟩
def St.moved(S:St)(tok:Nat)(cs:List AV):St:={ next:=S.next+1,mem:=(S.kill tok).mem.set S.next (some (.box cs)) }
def Jh(P:Program)(S:St)(t tx:TypeId)(all:Bool)(a x:AV):Option (AV × St) :=
 match Fs P t with
 |some (none,e)=>match P.info? e with
  |some i=>match i.zero with
   |some z=>if z.cells.size == i.size && decide (0<i.size)then
     match K9 P tx i.size x with
     |some (n :: ns)=>if decide ((n :: ns).length*i.bytes≤140737488355328) && decide ((n :: ns).length≤9223372036854775807)then(match a with
      |.nils=>if all then some (.bs S.next 0 (n :: ns).length i.size,S.newBox (B4 (n :: ns)))else none
      |.sl 1 _ sz []=>if sz == i.size then some (.bs S.next 0 (n :: ns).length i.size,S.newBox (B4 (n :: ns)))else none
      |.bs (id+2) 0 len sz=>match S.mem.get (id+2)with
       |some (.box cs)=>if sz == i.size && decide (len*sz≤cs.length) && decide ((len+(n :: ns).length)*i.bytes≤140737488355328) && decide (len+(n :: ns).length≤9223372036854775807)then
         some (.bs S.next 0 (len+(n :: ns).length) i.size,S.moved (id+2) (cs.take (len*sz) ++ B4 (n :: ns)))else none
       |_=>none
      |_=>none)else none
     |_=>none
    else none
   |none=>none
  |none=>none
 |_=>none
theorem fF(w:World)(size:Nat)(b o cap:Nat):(Builtin.firstCells size 0 (.slice (some ⟨b,o,none⟩) 0 cap)).run P w=.ok #[] w :=
 run_firstCells_some w size 0 ⟨b,o,none⟩ 0 cap [] (by simp) (fun j u h=>by cases h)
theorem dY{γ:Gh}{S S':St}{w:World}(hS:SR base w0 γ S w){t tx ty:TypeId}{all:Bool}{a x r:AV}{v u:Value}(hv:VR γ w a v)(hu:VR γ w x u)(ho:Jh P S t tx all a x=some (r,S')):
  OkV P base w0 γ S w (Builtin.append_ #[t,tx] ty #[v,u]) r S':=by
 unfold Jh at ho
 split at ho
 case h_2=>cases ho
 rename_i e he;have ht:=L6 he
 split at ho
 case h_2=>cases ho
 rename_i i hi
 split at ho
 case h_2=>cases ho
 rename_i z hz
 split at ho
 case isFalse=>cases ho
 rename_i hc;simp only[Ja2,beq_iff_eq,decide_eq_true_eq]at hc;obtain⟨hzs,hsz0⟩:=hc
 split at ho
 case h_2=>cases ho
 rename_i n ns hsrc;obtain⟨news,s1,s2,s3,s4⟩:=Vu hu hsrc;generalize hN:n :: ns=N at ho s1 s2 s3 s4;have hN0:0<N.length:=by rw[← hN];simp
 have hnl:news.length=N.length*i.size:=by rw[s4.1,F5 s2]
 split at ho
 case isFalse=>cases ho
 rename_i hbd;simp only[Ja2,decide_eq_true_eq]at hbd;obtain⟨hb1,hb2⟩:=hbd;obtain⟨d1,d2⟩:=hS.drew;have hxd:Ext γ S w γ S w.drew:=Ext.of_same (w:=w) (w':=w.drew) rfl d2
 have fresh:∀(bs:Option Addr) (sCap:Nat),v=.slice bs 0 sCap→(Builtin.firstCells i.size 0 (.slice bs 0 sCap)).run P w.drew=.ok #[] w.drew→sCap<N.length →
   OkV P base w0 γ S w (Builtin.append_ #[t,tx] ty #[v,u]) (.bs S.next 0 N.length i.size) (S.newBox (B4 N)):=fun bs sCap hve hfc hcap=>by
  subst hve;have hrun:=run_append_grow_src w t tx ty e i z ht hi hz bs 0 sCap [] hfc u N.length news s1 (by omega) (by omega) (growslice_fits (by omega) (by simpa using hb1))
  simp only[List.nil_append,Nat.zero_add]at hrun;have hge:=N7 w N.length sCap e;obtain⟨k1,k2⟩:=d1.newBoxP e (s4.mono d2) s3 (y:=(Builtin.zeroCells z.cells (grownCap w N.length sCap e - N.length)).toList) (arr:=news.toArray ++ Builtin.zeroCells z.cells (grownCap w N.length sCap e - N.length)) (by simp)
  refine⟨_,_,γ.withLoc S.next w.heap.size 0,hrun,k1,hxd.trans k2,?_⟩;refine .bs S.next 0 N.length i.size w.heap.size 0 _ (by show(if S.next=S.next then _ else _)=_;rw[if_pos rfl]) hge hsz0 ⟨_,e,(0,0),heap_alloc_new w.drew _,?_⟩
  rw[Array.size_append,size_zeroCells,hzs];simp only[List.size_toArray,hnl];rw[← Nat.add_mul];have:N.length+(grownCap w N.length sCap e - N.length)=grownCap w N.length sCap e:=by omega
  rw[this];omega
 split at ho
 ·split at ho
  ·injection ho with ho;injection ho with h1 h2;subst h1;subst h2
   cases hv;exact fresh none 0 rfl (run_firstCells_none w.drew i.size 0 0 0) hN0
  ·cases ho
 ·rename_i off sz
  split at ho
  ·injection ho with ho;injection ho with h1 h2;subst h1;subst h2
   cases hv with
   |sl _ _ _ _ b o cap c hsz hes h1 hcl hr ht2 hf hcp hb =>
   have hcap:cap=0:=by have:=hf rfl;simpa using this
   subst hcap;exact fresh (some ⟨b,o,none⟩) 0 rfl (fF w.drew i.size b o 0) hN0
  ·cases ho
 ·rename_i id len sz
  split at ho
  case h_2=>cases ho
  rename_i cs hm
  split at ho
  case isFalse=>cases ho
  rename_i hq;simp only[Ja2,beq_iff_eq,decide_eq_true_eq]at hq;obtain⟨⟨⟨hsz,hlen⟩,hq1⟩,hq2⟩:=hq;subst hsz;injection ho with ho;injection ho with h1 h2;subst h1;subst h2
  cases hv with
  |bs _ _ _ _ b s cap hl hcp hszp hblk =>
  obtain⟨b2,s2',l1,l2,l3⟩:=hS.live _ _ hm;rw[hl]at l1;injection l1 with l1;injection l1 with e1 e2;subst e1;subst e2
  obtain⟨rfl,him,hone,arr,T,xx,yy,ha,hx,hr⟩:=l3;obtain⟨arr2,T2,fr2,ha2,hle⟩:=hblk;rw[ha]at ha2;injection ha2 with ha2;injection ha2 with q1 q2 q3;subst q1;subst q2;subst q3
  simp only[Nat.zero_add]at hle;have hxl:xx.length=cs.length:=hr.1;have hcell:∀k,w.cell? ⟨b,k,none⟩=arr[k]?:=Kw ha;have holds:VRL γ w (cs.take (len*i.size)) (xx.take (len*i.size)):=hr.take _;have hol:(xx.take (len*i.size)).length=len*i.size:=by simp;omega
  have hones:∀c∈cs.take (len*i.size) ++ B4 N,c.one=true:=fun c hc=>by
   rcases Jc7.1 hc with h |h
   ·exact hone c (List.mem_of_mem_take h)
   ·exact s3 c h
  have hkn:=St.kill_next S (id+2);have hK:=hS.kill (id+2);have hkx:=Ext.kill γ S w (id+2)
  have hnon:∀i' c s',(S.kill (id+2)).mem.get i' = some c→γ.loc i'≠some (b,s'):=fun i' c s' e l=>by
   rw[St.kill_get S (id+2) i' (by omega)]at e
   split at e
   ·cases e
   ·rename_i hid
    exact hid (hS.inj i' (id+2) c _ b s' 0 e hm l hl)
  by_cases hroom:len+N.length≤cap
  ·
   have hmul:(len+N.length)*i.size≤cap*i.size:=Nat.mul_le_mul_right _ hroom;rw[Nat.add_mul]at hmul;have hrun:=run_append_room_src w t tx ty e i ht hi b (0+0) len cap u N.length news s1 hroom (fun j hj=>by rw[hcell];simp;omega) (fun j hj=>by simp[World.frozen?,ha])
   obtain⟨p1,p2⟩:=hK.scribble (o:=0+0+len*i.size) l2 hnon him ha news;obtain⟨⟨arr',ha',hs'⟩,hk⟩:=Hn b news (0+0+len*i.size) w arr T (0,0) ha;have hbl:=hS.inb (id+2) b 0 hl
   have harr':arr'.toList=(xx.take (len*i.size) ++ news) ++ arr'.toList.drop (len*i.size+news.length):=by
    have h0:arr'.toList=arr'.toList.take (len*i.size+news.length) ++ arr'.toList.drop (len*i.size+news.length):=(List.take_append_drop _ _).symm
    have h1:arr'.toList.take (len*i.size+news.length)=xx.take (len*i.size) ++ news:=by
     apply List.ext_getElem
     ·simp;omega
     ·intro k hk1 hk2
      have hk3:k<arr'.size:=by simp at hk1;omega
      have hcl:(w.setCells b (0+0+len*i.size) news).cell? ⟨b,k,none⟩=some arr'[k]:=by rw[Kw ha'];simp[hk3]
      rw[List.getElem_take]
      by_cases hlt:k<len*i.size
      ·rw[Jc5 (by omega),List.getElem_take]
       have hc:=World.cell?_setCells_out b news (0+0+len*i.size) w ⟨b,k,none⟩ (fun _ _=>by show k<_∨_≤k;omega)
       rw[hcl,hcell,Jc6 (by omega)]at hc
       injection hc with hc
       have h9:arr.toList[k]'(by simp;omega)=(xx ++ yy)[k]'(by rw[← hx];simp;omega):=by simp only[hx]
       rw[Jc5 (by omega)]at h9
       simp only[Array.getElem_toList]at h9 ⊢;rw[hc,h9]
      ·rw[List.getElem_append_right (by omega)]
       have hc:=World.cell?_setCells_in b news (0+0+len*i.size) w (fun j hj=>by rw[hcell];simp;omega) (k - len*i.size) (by simp at hk1;omega)
       rw[show 0+0+len*i.size+(k - len*i.size)=k by omega,hcl]at hc
       injection hc with hc
       simp only[Array.getElem_toList,hol];exact hc
    exact h0.trans (by rw[h1])
   obtain⟨q1,q2⟩:=p1.name b 0 (.box (cs.take (len*i.size) ++ B4 N)) l2 (by rw[(F7 b news _ w).2.2.2];exact hbl) ⟨rfl,him,hones,arr',T,_,_,ha',harr',(holds.append s4).mono p2⟩ hnon
   rw[hkn]at q1 q2;have hev:=p2.trans q2;refine⟨_,_,γ.withLoc S.next b 0,hrun,q1,?_,?_⟩
   ·refine⟨hev,Jc9 _,fun id' hid=>?_,by rw[(F7 b news _ w).2.2.2];exact Ja1 _,fun id' c' b' s' e l=>?_,fun b' hb' hnot=>?_⟩
    ·show(if id' = S.next then _ else γ.loc id')=γ.loc id'
     rw[if_neg (by omega)]
    ·have e:((S.kill (id+2)).mem.set S.next _).get id' = some c':=e
     have l:(if id' = S.next then some (b,0)else γ.loc id')=some (b',s'):=l
     rw[Go.Ax.T.get_set]at e
     split at e
     ·rename_i hid
      rw[if_pos hid]at l;injection l with l;injection l with l1 l2;subst l1
      exact .inr ⟨id+2,_,0,hm,hl⟩
     ·rename_i hid
      rw[if_neg hid]at l;exact .inr ⟨id',c',s',Ti S _ id' c' e,l⟩
    ·have hbb:b'≠b:=fun e=>by subst e;exact hnot (id+2) _ 0 hm hl
     exact⟨hk b' hbb,fun _ ho=>ho⟩
   ·refine .bs S.next 0 (len+N.length) i.size b 0 cap (by show(if S.next=S.next then _ else _)=_;rw[if_pos rfl]) hroom hszp ⟨arr',T,(0,0),ha',by omega⟩
  ·
   have hfirst:(Builtin.firstCells i.size len (.slice (some ⟨b,0+0,none⟩) len cap)).run P w.drew=.ok (xx.take (len*i.size)).toArray w.drew :=
    run_firstCells_some w.drew i.size len ⟨b,0+0,none⟩ len cap _ hol (fun j v hj=>by
     rw[Addr.add_mid]
     show w.cell? ⟨b,0+0+j,none⟩=_
     rw[hcell];obtain⟨hjl,hje⟩:=Jc4.1 hj;have hj2:j<xx.length:=by simp at hjl;omega
     have hj3:j<arr.size:=by have:=congrArg List.length hx;simp at this;omega
     have h9:arr.toList[j]'(by simpa using hj3)=(xx ++ yy)[j]'(by rw[← hx];simpa using hj3):=by simp only[hx]
     rw[Jc5 hj2]at h9;rw[List.getElem_take]at hje;rw[show 0+0+j=j by omega,Jc6 hj3]
     simp only[Array.getElem_toList]at h9
     rw[h9,hje])
   have hrun:=run_append_grow_src w t tx ty e i z ht hi hz (some ⟨b,0+0,none⟩) len cap _ hfirst u N.length news s1 (by omega) (by omega) (growslice_fits (by omega) hq1)
   have hge:=N7 w (len+N.length) cap e;obtain⟨d3,d4⟩:=hK.drew;obtain⟨k1,k2⟩:=d3.newBoxP e ((holds.append s4).mono d4) hones (y:=(Builtin.zeroCells z.cells (grownCap w (len+N.length) cap e - (len+N.length))).toList) (arr:=(xx.take (len*i.size) ++ news).toArray ++ Builtin.zeroCells z.cells (grownCap w (len+N.length) cap e - (len+N.length))) (by simp)
   have ek:(S.kill (id+2)).newBox (cs.take (len*i.size) ++ B4 N)=S.moved (id+2) (cs.take (len*i.size) ++ B4 N):=by
    unfold St.newBox St.moved;rw[hkn]
   rw[ek,hkn]at k1 k2;have hkd:Ext γ (S.kill (id+2)) w γ (S.kill (id+2)) w.drew:=Ext.of_same (w:=w) (w':=w.drew) rfl d4;refine⟨_,_,γ.withLoc S.next w.heap.size 0,hrun,k1,hkx.trans (hkd.trans k2),?_⟩;refine .bs S.next 0 (len+N.length) i.size w.heap.size 0 _ (by show(if S.next=S.next then _ else _)=_;rw[if_pos rfl]) hge hszp ⟨_,e,(0,0),heap_alloc_new w.drew _,?_⟩
   rw[Array.size_append,size_zeroCells,hzs];simp only[List.size_toArray,Ja3,hol,hnl];rw[← Nat.add_mul,← Nat.add_mul];have:len+N.length+(grownCap w (len+N.length) cap e - (len+N.length))=grownCap w (len+N.length) cap e:=by omega
   rw[this];omega
 ·cases ho
end Go.Ax
noncomputable section
namespace Go.Ax
open Go.RowKit
variable {P:Program} {base:Nat} {w0:World}
def rowA(x:AV):Option (List AV):=match x with
 |.nils=>some []
 |.sl _ _ 1 es=>some es
 |_=>none
def oCopy(P:Program)(S:St)(t:TypeId)(a x:AV):Option (AV × St):=match Fs P t with
 |some (none,e)=>if(P.info? e).map (·.size)=some 1 then(match a,rowA x with
  |.bs id off n 1,some es=>match S.mem.get id with
   |some (.box cs)=>if off+min es.length n≤cs.length then
     (if min es.length n=0 then some (.v (.int .i64 0),S)else
      some (.v (.int .i64 (min es.length n:Nat)),{ S with mem:=S.mem.set id (some (.box (cs.take off ++ (B4 es).take (min es.length n) ++ cs.drop (off+min es.length n)))) }))
     else none
   |_=>none
  |_,_=>none)else none
 |_=>none
theorem tI{γ:Gh}{S S':St}{w:World}(hS:SR base w0 γ S w){t tx ty:TypeId}{a x r:AV}{v u:Value}(hv:VR γ w a v)(hu:VR γ w x u)(ho:oCopy P S t a x=some (r,S')):
  OkV P base w0 γ S w (Builtin.copy_ #[t,tx] ty #[v,u]) r S':=by
 unfold oCopy at ho
 split at ho
 case h_2=>cases ho
 rename_i e he;have ht:=L6 he
 split at ho
 case isFalse=>cases ho
 rename_i hi
 split at ho
 case h_2=>cases ho
 rename_i id off n es hrow
 split at ho
 case h_2=>cases ho
 rename_i cs hm
 split at ho
 case isFalse=>cases ho
 rename_i hfit
 cases hv with
 |bs _ _ _ _ b s cap hl hcp hszp hblk =>
 obtain⟨b2,s2',l1,l2,l3⟩:=hS.live _ _ hm;rw[hl]at l1;injection l1 with l1;injection l1 with e1 e2;subst e1;subst e2
 obtain⟨rfl,him,hone,arr,T,xx,yy,ha,hx,hr⟩:=l3
 have src:∃sp sCap,u=.slice sp es.length sCap∧(0<es.length→∃ad,sp=some ad∧∃vs:List Value,VRL γ w (B4 es) vs∧vs.length=es.length∧(∀j v,vs[j]? = some v→w.cell? (ad.add j)=some v)∧∀c∈B4 es,c.one=true):=by
  unfold rowA at hrow
  split at hrow
  ·injection hrow with hrow;subst hrow
   cases hu;exact⟨none,0,rfl,fun h=>absurd h (by simp)⟩
  ·rename_i tok off2 es2
   injection hrow with hrow;subst hrow
   cases hu with
   |sl _ _ _ _ b' o' cap' c hsz hes h1 h hr' ht' hf' hc' hb' =>
   have hfl:=(F5 hes).trans (Nat.mul_one _);refine⟨_,_,rfl,fun _=>⟨_,rfl,(List.range (B4 es2).length).map c,⟨by simp,fun k hk hk'=>?_⟩,by simp[hfl],fun j v hj=>?_,h1⟩⟩
   ·simp only[List.getElem_map,List.getElem_range];exact hr' k hk
   ·obtain⟨hj1,hj2⟩:=Jc4.1 hj
    simp only[Ja9,List.length_range]at hj1;simp only[List.getElem_map,List.getElem_range]at hj2;rw[Addr.add_mid,(h j hj1).2,hj2]
  ·cases hrow
 obtain⟨sp,sCap,rfl,hsrc⟩:=src
 split at ho
 ·rename_i h0
  injection ho with ho;injection ho with h1 h2;subst h1;subst h2
  exact OkV.pure hS (run_copy_none w t tx ty e _ _ _ _ _ _ ht hi h0) (.v _ rfl)
 ·rename_i h0
  injection ho with ho;injection ho with h1 h2;subst h1;subst h2
  obtain⟨ad,rfl,vs,hvs,hvl,hvc,hones⟩:=hsrc (Ja0 (Nat.pos_of_ne_zero h0) (Nat.min_le_left _ _));clear hblk;obtain⟨m,hM,hm1,hm2⟩:∃m,min es.length n=m∧m≤es.length∧m≤n:=⟨_,rfl,Nat.min_le_left _ _,Nat.min_le_right _ _⟩;rw[hM]at hfit h0 ⊢;have hM2:Nat.min es.length n=m:=hM;clear hM;have hfl:(B4 es).length=vs.length:=hvs.1.symm;have hxl:xx.length=cs.length:=hr.1;have hal:cs.length≤arr.size:=by have:=congrArg List.length hx;simp at this;omega
  have hrun:=run_copy_cells (P:=P) w t tx ty e b (0+off) n cap ad es.length sCap (vs.take m) ht hi (by rw[hM2,Jd0,hvl];exact Nat.min_eq_left hm1)
   (fun j v hj=>hvc j v (by
    obtain⟨q1,q2⟩:=Jc4.1 hj;simp at q1;rw[List.getElem_take]at q2
    exact Jc4.2 ⟨by omega,q2⟩))
   (fun j hj=>by rw[Kw ha];simp at hj;simp;omega) (fun j hj=>by simp[World.frozen?,ha])
   ((hvs.take m).ones fun c hc=>hones c (List.mem_of_mem_take hc))
  have hl2:((B4 es).take m).length=m:=by simp;omega
  obtain⟨k1,k2⟩:=hS.store hm hl (hvs.take m) (fun c hc=>hones c (List.mem_of_mem_take hc)) (off:=off) (by rw[hl2];exact hfit)
  obtain⟨_,hk⟩:=Hn b (vs.take m) (0+off) w arr T (0,0) ha;rw[hl2]at k1;have hlen:(vs.take m).length=m:=by simp;omega
  rw[hlen]at hrun;refine⟨_,_,γ,hrun,k1,Ext.store (b:=b) k2 (F7 b _ _ w).2.2.2 hk rfl ⟨id,_,0,hm,hl⟩ (fun i hi=>?_),.v _ rfl⟩
  obtain⟨c,hc⟩:=hi;have hc:(S.mem.set id _).get i=some c:=hc;rw[Go.Ax.T.get_set]at hc
  split at hc
  ·rename_i e;exact⟨_,e ▸ hm⟩
  ·exact⟨c,hc⟩
end Go.Ax
