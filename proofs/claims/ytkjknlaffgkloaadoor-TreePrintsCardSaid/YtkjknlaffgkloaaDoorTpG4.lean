/- AxM -/
import Derived.Test.YtkjknlaffgkloaaDoorTpG3
import Derived.Tactics
import Derived.Recover
set_option linter.unusedVariables false
set_option linter.unusedSimpArgs false
noncomputable section
namespace Go.Ax
open Go.RowKit
structure Dfr where
 fn:Fn
 caps:List AV
 args:List AV
structure Fr where
 tmps:T AV
 dfr:List Dfr
inductive Ex where
 |normal
 |exit (id:Nat)
 |ret
 |pan (a:AV)
inductive O where
 |out (e:Ex) (f:Fr) (S:St)
 |fail
abbrev CallK:=FuncId→List AV→St→R
def DfrR(γ:Gh)(w:World)(d:Dfr)(m:Deferred):Prop:=∃cv av:List Value,m={ target:=.fn d.fn cv.toArray,args:=av.toArray }∧VRL γ w d.caps cv∧VRL γ w d.args av
def DfrL(γ:Gh)(w:World):List Dfr→List Deferred→Prop
 | [],[]=>True
 |d :: ds,m :: ms=>DfrR γ w d m∧DfrL γ w ds ms
 |_,_=>False
theorem DfrL.mono{γ γ':Gh}{w w':World}(e:Ev γ w γ' w'):∀{ds:List Dfr} {ms:List Deferred},DfrL γ w ds ms→DfrL γ' w' ds ms
 | [],[],_=>trivial
 |d :: ds,m :: ms,h=>⟨by obtain⟨cv,av,h1,h2,h3⟩:=h.1;exact⟨cv,av,h1,h2.mono e,h3.mono e⟩,DfrL.mono e h.2⟩
 | [],_ :: _,h=>h
 |_ :: _,[],h=>h
structure AR(γ:Gh)(w:World)(n:Nat)(f:Fr)(act:Act):Prop where
 tmps:FR γ w f.tmps act.tmps
 size:act.tmps.size=n
 dfr:DfrL γ w f.dfr act.defers
theorem AR.mono{γ γ':Gh}{w w':World}(e:Ev γ w γ' w'){n:Nat}{f:Fr}{act:Act}(h:AR γ w n f act):AR γ' w' n f act:=⟨h.tmps.mono e,h.size,h.dfr.mono e⟩
def putA(n:Nat)(f:Fr)(dst:Option Tmp)(a:AV)(S:St):O:=match dst with
 |none=>.out .normal f S
 |some d=>if d<n then .out .normal { f with tmps:=f.tmps.set d (some a) } S else .fail
def wantedA(ops:Array Oper)(o:Oper)(f:T AV):Option Bool:=match o.guard with
 |none=>some true
 |some (j,want)=>match (ops[j]?).bind (·.dst)with
  |none=>some false
  |some d=>match f.get d with
   |some (.v (.bool b))=>some (b == want)
   |some (.tup _)=>some false
   |_=>none
def stepO(E:Env)(callK:CallK)(n:Nat)(ops:Array Oper)(o:Oper)(f:Fr)(S:St):O :=
 match wantedA ops o f.tmps with
 |none=>.fail
 |some false=>putA n f o.dst (.tup []) S
 |some true=>match exec1 E f.tmps S o with
  |.val a S'=>putA n f o.dst a S'
  |.skip S'=>putA n f o.dst (.tup []) S'
  |.enter k args S'=>match callK k args S' with
   |.ret a S''=>putA n f o.dst a S''
   |.pan a S''=>.out (.pan a) f S''
   |.fail=>.fail
  |.dfr fn caps args S'=>putA n { f with dfr:=⟨fn,caps,args⟩ :: f.dfr } o.dst (.tup []) S'
  |.pan a S'=>.out (.pan a) f S'
  |.fail=>.fail
def Lands(γ':Gh)(Q:Exit→Act→World→Prop)(act':Act)(w':World):Ex→Prop
 |.normal=>Q .normal act' w'
 |.exit id=>Q (.exit id) act' w'
 |.ret=>Q .ret act' w'
 |.pan a=>∀v,VR γ' w' a v→Q (.panic [{ v,recovered:=false }]) act' w'
def Holds(base:Nat)(w0:World)(n:Nat)(γ:Gh)(S:St)(w:World)(Q:Exit→Act→World→Prop):O→Prop
 |.out e f' S'=>∀γ' act' w',SR base w0 γ' S' w'→Ext γ S w γ' S' w'→AR γ' w' n f' act'→Lands γ' Q act' w' e
 |.fail=>False
theorem Holds.later{base:Nat}{w0:World}{n:Nat}{γ γ1:Gh}{S S1:St}{w w1:World}{Q:Exit→Act→World→Prop}{r:O}(e:Ext γ S w γ1 S1 w1)(h:Holds base w0 n γ S w Q r):Holds base w0 n γ1 S1 w1 Q r:=by
 cases r with
 |fail=>exact h
 |out x f' S'=>exact fun γ' act' w' h1 h2 h3=>h γ' act' w' h1 (e.trans h2) h3
def RetOk(base:Nat)(w0:World)(γ:Gh)(S:St)(w:World)(r:R)(e:Ending)(w':World):Prop :=
 match r with
 |.ret a S'=>∃γ' v,SR base w0 γ' S' w'∧Ext γ S w γ' S' w'∧VR γ' w' a v∧e=.returned v
 |.pan a S'=>∃γ' v,SR base w0 γ' S' w'∧Ext γ S w γ' S' w'∧VR γ' w' a v∧e=.panicked [{ v,recovered:=false }]
 |.fail=>False
def IntrOk(E:Env):Prop :=
 ∀k g,E.I k=some g→∀(base:Nat) (w0:World) args S,g args S≠.fail→∀γ w (vs:List Value),SR base w0 γ S w→GR γ w E.G→VRL γ w args vs→Calls E.P k vs.toArray w (RetOk base w0 γ S w (g args S))
def CallOk(E:Env)(base:Nat)(w0:World)(callK:CallK):Prop :=
 ∀k args S,callK k args S≠.fail→∀γ w (vs:List Value),SR base w0 γ S w→GR γ w E.G→VRL γ w args vs→(E.F k).isSome=true→Calls E.P k vs.toArray w (RetOk base w0 γ S w (callK k args S))
section
variable {E:Env} {base:Nat} {w0:World} {Q:Exit → Act → World → Prop}
theorem put_holds{γ:Gh}{S S':St}{w w':World}{γ':Gh}{n:Nat}{f:Fr}{act:Act}{dst:Option Tmp}{a:AV}{v:Value}(hH:Holds base w0 n γ S w Q (putA n f dst a S'))(hS:SR base w0 γ' S' w')(he:Ext γ S w γ' S' w')(ha:AR γ' w' n f act)(hv:VR γ' w' a v):Q .normal (act.put dst v) w':=by
 unfold putA at hH
 split at hH
 ·exact hH γ' _ w' hS he ha
 ·rename_i d
  split at hH
  ·rename_i hd
   refine hH γ' _ w' hS he ⟨?_,by simp[Act.put,ha.size],ha.dfr⟩
   exact ha.tmps.put (some d) n ha.size.symm hv (fun d' hd'=>by injection hd' with hd';subst hd';exact hd)
  ·exact hH.elim
theorem wantedA_sound{γ:Gh}{w:World}{n:Nat}{f:Fr}{act:Act}{ops:Array Oper}{o:Oper}(ha:AR γ w n f act){b:Bool}(h:wantedA ops o f.tmps=some b):Region.wanted o (yielded ops act.tmps)=b:=by
 unfold wantedA at h
 unfold Region.wanted
 split at h
 ·rename_i hg;injection h with h;subst h;rw[hg]
 ·rename_i j want hg
  rw[hg]
  show(yielded ops act.tmps j == some want)=b
  unfold yielded
  split at h
  ·rename_i hd;injection h with h;subst h;rw[hd];rfl
  ·rename_i d hd
   rw[hd]
   have key:∀a,f.tmps.get d=some a→∃v,act.tmps[d]? = some v∧VR γ w a v:=fun a hda=>by
    obtain⟨h1,h2⟩:=ha.tmps d a hda
    exact⟨act.tmps[d],Array.getElem?_eq_getElem h1,by simpa[h1]using h2⟩
   split at h
   ·rename_i bb hb
    injection h with h;subst h
    obtain⟨v,hv,hr⟩:=key _ hb
    cases hr
    simp[hv]
   ·rename_i vs hb
    injection h with h;subst h
    obtain⟨v,hv,hr⟩:=key _ hb
    cases hr
    simp[hv]
   ·cases h
theorem stepO_sound(hE:E.Ok){callK:CallK}(hC:CallOk E base w0 callK){γ:Gh}{S:St}{w:World}{n:Nat}{ops:Array Oper}{o:Oper}{f:Fr}{act:Act}(hS:SR base w0 γ S w)(ha:AR γ w n f act)(hg:GR γ w E.G)
  {K:Act→World→Prop} (hH:Holds base w0 n γ S w (fun x a w=>match x with |.normal=>K a w |x=>Q x a w) (stepO E callK n ops o f S)) :
  if Region.wanted o (yielded ops act.tmps)then o.wp E.P act w K Q else K (act.put o.dst undef) w:=by
 unfold stepO at hH
 split at hH
 ·exact hH.elim
 ·rename_i hw
  rw[wantedA_sound ha hw,if_neg (by simp)]
  exact put_holds (v:=undef) hH hS (.refl _ _ _) ha (by have:=VR.tup (γ:=γ) (w:=w) [] [] rfl (fun k h=>by cases h);exact this)
 ·rename_i hw
  rw[wantedA_sound ha hw,if_pos rfl]
  have hex:=exec1_sound (o:=o) hE hS ha.tmps hg
  have hund:∀{γ':Gh} {w':World},VR γ' w' (.tup []) undef:=fun {γ'} {w'}=>by have:=VR.tup (γ:=γ') (w:=w') [] [] rfl (fun k h=>by cases h);exact this
  unfold Oper.wp
  split at hH
  ·rename_i a S' he
   rw[he]at hex
   obtain⟨v,w',γ',hr,h1,h2,h3⟩:=hex
   rw[hr]
   exact put_holds hH h1 h2 (ha.mono h2.ev) h3
  ·rename_i S' he
   rw[he]at hex
   obtain⟨w',γ',hr,h1,h2⟩:=hex
   rw[hr]
   exact put_holds hH h1 h2 (ha.mono h2.ev) hund
  ·rename_i k args S' he
   rw[he]at hex
   obtain⟨rfl,hF,vs,hr,h3⟩:=hex
   rw[hr]
   have hne:callK k args S'≠.fail:=fun e=>by rw[e]at hH;exact hH.elim
   refine(hC k args S' hne γ w vs hS hg h3 hF).mono fun e w' hret=>?_
   unfold RetOk at hret
   split at hret
   ·rename_i a S'' hk
    rw[hk]at hH
    obtain⟨γ',v,k1,k2,k3,rfl⟩:=hret
    exact put_holds hH k1 k2 (ha.mono k2.ev) k3
   ·rename_i a S'' hk
    rw[hk]at hH
    obtain⟨γ',v,k1,k2,k3,rfl⟩:=hret
    exact hH γ' act w' k1 k2 (ha.mono k2.ev) v k3
   ·exact hret.elim
  ·rename_i fn caps args S' he
   rw[he]at hex
   obtain⟨rfl,cv,av,hr,h1,h2⟩:=hex
   rw[hr]
   exact put_holds (act:={ act with defers:={ target:=.fn fn cv.toArray,args:=av.toArray } :: act.defers }) hH hS (.refl _ _ _) ⟨ha.tmps,ha.size,⟨cv,av,rfl,h1,h2⟩,ha.dfr⟩ hund
  ·rename_i a S' he
   rw[he]at hex
   obtain⟨rfl,v,hr,hv⟩:=hex
   rw[hr]
   exact hH γ act w hS (.refl _ _ _) ha v hv
  ·exact hH.elim
def runL(E:Env)(callK:CallK)(n:Nat)(ops:Array Oper):List Oper→Fr→St→O
 | [],f,S=>.out .normal f S
 |o :: rest,f,S=>match stepO E callK n ops o f S with
  |.out .normal f' S'=>runL E callK n ops rest f' S'
  |r=>r
theorem runL_sound(hE:E.Ok){callK:CallK}(hC:CallOk E base w0 callK){n:Nat}{ops:Array Oper}:∀(l:List Oper) (γ:Gh) (S:St) (w:World) (f:Fr) (act:Act),SR base w0 γ S w→AR γ w n f act→GR γ w E.G →
  Holds base w0 n γ S w Q (runL E callK n ops l f S)→wpList E.P ops Q l act w
 | [],γ,S,w,f,act,hS,ha,hg,hH=>hH γ act w hS (.refl _ _ _) ha
 |o :: rest,γ,S,w,f,act,hS,ha,hg,hH=>by
  refine wpList_step fun K hK=>?_
  refine stepO_sound hE hC hS ha hg ?_
  unfold runL at hH
  split at hH
  ·rename_i f' S' hs
   rw[hs]
   intro γ' act' w' h1 h2 h3
   exact hK _ _ (runL_sound hE hC rest γ' S' w' f' act' h1 h3 (hg.mono h2.ev) (hH.later h2))
  ·rename_i r hr
   cases hst:stepO E callK n ops o f S with
   |fail=>rw[hst]at hH;exact hH.elim
   |out e f' S' =>
    rw[hst]at hH
    intro γ' act' w' h1 h2 h3
    have:=hH γ' act' w' h1 h2 h3
    cases e with
    |normal=>exact absurd hst (hr f' S')
    |exit id=>exact this
    |ret=>exact this
    |pan a=>exact this
end
abbrev Drawn:=CallK→Nat→Array Oper→Fr→St→O
def DrawnOk(E:Env)(D:Drawn):Prop :=
 ∀(base:Nat) (w0:World) (Q:Exit→Act→World→Prop) (callK:CallK),CallOk E base w0 callK→∀(n id:Nat) (ops:Array Oper) (γ:Gh) (S:St) (w:World) (f:Fr) (act:Act),SR base w0 γ S w→AR γ w n f act→GR γ w E.G →
  Holds base w0 n γ S w Q (D callK n ops f S)→(Code.region id ops true).wp E.P Q act w
def stepC(E:Env)(D:Drawn)(rec:Nat→Code→Fr→St→O)(callK:CallK)(n:Nat)(c:Code)(f:Fr)(S:St):O :=
 match c with
 |.skip=>.out .normal f S
 |.label _=>.out .normal f S
 |.region _ ops false=>runL E callK n ops ops.toList f S
 |.region _ ops true=>D callK n ops f S
 |.seq a b=>match rec n a f S with
  |.out .normal f' S'=>rec n b f' S'
  |r=>r
 |.cond c x y=>match evalO E.G f.tmps c with
  |some (.v (.bool true))=>rec n x f S
  |some (.v (.bool false))=>rec n y f S
  |_=>.fail
 |.block id c=>match rec n c f S with
  |.out (.exit id') f' S'=>if id' = id then .out .normal f' S' else .out (.exit id') f' S'
  |r=>r
 |.loop c=>match rec n c f S with
  |.out .normal f' S'=>rec n (.loop c) f' S'
  |r=>r
 |.exit id=>.out (.exit id) f S
 |.ret=>.out .ret f S
 |_=>.fail
def resultsA(E:Env)(f:T AV)(S:St):List ResultVar→Option (List AV)
 | []=>some []
 |.tmp t :: r=>match f.get t,resultsA E f S r with
  |some a,some l=>some (a :: l)
  |_,_=>none
 |.cell x t :: r=>match f.get x with
  |some a=>match oLoad E.P S t a,resultsA E f S r with
   |some a,some l=>some (a :: l)
   |_,_=>none
  |none=>none
def tupA:List AV→AV
 | [a]=>a
 |l=>.tup l
def initT:List AV→Nat→T AV
 | [],_=>.leaf
 |a :: r,k=>(initT r (k+1)).set k (some a)
def isRecover(o:Oper):Option Tmp:=match o.op with
 |.call c=>match c.callee with
  |.builtin .recover=>if o.guard.isNone then o.dst else none
  |_=>none
 |_=>none
inductive DR where
 |ok (met:Bool) (S:St)
 |fail
def dfrA(E:Env)(rec:Nat→Code→Fr→St→O)(k:FuncId)(args:List AV)(S:St)(m:Option AV):DR :=
 match E.F k with
 |none=>.fail
 |some fn=>match fn.body with
  |some (.seq (.region _ ops false) rest)=>match ops.toList with
   | [o]=>match isRecover o with
    |some d=>if args.length≤fn.ntmps∧d<fn.ntmps then
      match rec fn.ntmps rest ⟨(initT args 0).set d (some (m.getD (.v .nilIface))),[]⟩ S with
      |.out e f' S'=>match f'.dfr,fn.results.toList,e with
       | [],[],.normal=>.ok m.isSome S'
       | [],[],.ret=>.ok m.isSome S'
       |_,_,_=>.fail
      |.fail=>.fail
     else .fail
    |none=>.fail
   |_=>.fail
  |_=>.fail
def giveA(E:Env)(fn:Func)(f:T AV)(S:St):R:=match resultsA E f S fn.results.toList with
 |some l=>.ret (tupA l) S
 |none=>.fail
def endA(E:Env)(rec:Nat→Code→Fr→St→O)(fn:Func):O→R
 |.out e f S=>match f.dfr with
  | []=>match e with
   |.normal=>giveA E fn f.tmps S
   |.ret=>giveA E fn f.tmps S
   |.pan a=>.pan a S
   |_=>.fail
  | [⟨.func k,caps,args⟩]=>match e with
   |.normal=>match dfrA E rec k (args ++ caps) S none with
    |.ok _ S'=>giveA E fn f.tmps S'
    |.fail=>.fail
   |.ret=>match dfrA E rec k (args ++ caps) S none with
    |.ok _ S'=>giveA E fn f.tmps S'
    |.fail=>.fail
   |.pan a=>match dfrA E rec k (args ++ caps) S (some a)with
    |.ok _ S'=>giveA E fn f.tmps S'
    |.fail=>.fail
   |_=>.fail
  |_=>.fail
 |.fail=>.fail
def stepF(E:Env)(rec:Nat→Code→Fr→St→O):CallK:=fun k args S =>
 match E.I k with
 |some g=>g args S
 |none=>match E.F k with
  |none=>.fail
  |some fn=>match fn.body with
   |none=>.fail
   |some c=>if args.length≤fn.ntmps then endA E rec fn (rec fn.ntmps c ⟨initT args 0,[]⟩ S)else .fail
def run(E:Env)(D:Drawn):Nat→Nat→Code→Fr→St→O :=
 Nat.rec (fun _ _ _ _=>.fail) (fun _ ih=>stepC E D ih (stepF E ih))
def callN(E:Env)(D:Drawn)(m:Nat):CallK:=stepF E (run E D m)
end Go.Ax
noncomputable section
namespace Go.Ax
open Go.RowKit
def LWp(P:Program)(c:Code)(Q:Exit→Act→World→Prop)(a:Act)(w:World):Prop :=
 ∀(b:Frame) (k:List Item) (cs:List Frame),∃e a' w',Q e a' w'∧Arrives P (lone (b.at a (.code c :: .inLoop c :: k)) cs w) b k cs e a' w'
theorem LWp.loop{P:Program}{c:Code}{Q:Exit→Act→World→Prop}{a:Act}{w:World}(h:LWp P c Q a w):(Code.loop c).wp P Q a w:=fun b k cs=>by
 obtain⟨e,a',w',hq,harr⟩:=h b k cs
 exact⟨e,a',w',hq,.of_steps (.one step_loop) harr⟩
theorem LWp.round{P:Program}{c:Code}{Q:Exit→Act→World→Prop}{a:Act}{w:World}(h:c.wp P (Exit.then (LWp P c Q) Q) a w):LWp P c Q a w:=fun b k cs=>by
 obtain⟨e,a₁,w₁,hq,harr⟩:=h b (.inLoop c :: k) cs
 cases e with
 |normal =>
  obtain⟨e₂,a₂,w₂,hq₂,harr₂⟩:=hq b k cs
  exact⟨e₂,a₂,w₂,hq₂,.of_steps (Steps.trans harr (.one step_inLoop)) harr₂⟩
 |exit id=>exact⟨_,a₁,w₁,hq,.pass (x:=.inLoop c) rfl (fun _ _=>.inl (by simp)) harr⟩
 |goto l=>exact⟨_,a₁,w₁,hq,.pass (x:=.inLoop c) rfl (fun _ _=>.inl (by simp)) harr⟩
 |ret=>exact⟨_,a₁,w₁,hq,.pass (x:=.inLoop c) rfl (fun _ _=>.inl (by simp)) harr⟩
 |panic ch=>exact⟨_,a₁,w₁,hq,.pass (x:=.inLoop c) rfl (fun _ _=>.inl (by simp)) harr⟩
 |outgrown=>exact⟨_,a₁,w₁,hq,.pass (x:=.inLoop c) rfl (fun _ _=>.inl (by simp)) harr⟩
structure CodeOk(E:Env)(rec:Nat→Code→Fr→St→O):Prop where
 code:∀(base:Nat) (w0:World) (Q:Exit→Act→World→Prop) (n:Nat) (c:Code) (γ:Gh) (S:St) (w:World) (f:Fr) (act:Act),SR base w0 γ S w→AR γ w n f act→GR γ w E.G→Holds base w0 n γ S w Q (rec n c f S)→c.wp E.P Q act w
 loop:∀(base:Nat) (w0:World) (Q:Exit→Act→World→Prop) (n:Nat) (c:Code) (γ:Gh) (S:St) (w:World) (f:Fr) (act:Act),SR base w0 γ S w→AR γ w n f act→GR γ w E.G→Holds base w0 n γ S w Q (rec n (.loop c) f S)→LWp E.P c Q act w
section
variable {E:Env}
theorem initT_get:∀(l:List AV) (k t:Nat),(initT l k).get t=if t<k then none else l[t - k]?
 | [],k,t=>by simp[initT,T.get_leaf]
 |a :: r,k,t=>by
  unfold initT
  rw[T.get_set,initT_get r (k+1) t]
  by_cases h:t=k
  ·subst h;simp
  ·by_cases h2:t<k
   ·simp[h,h2,show t<k+1 by omega]
   ·rw[if_neg h,if_neg (by omega),if_neg h2,show t - k=(t - (k+1))+1 by omega];rfl
theorem initT_FR{γ:Gh}{w:World}{args:List AV}{vs:List Value}(h:VRL γ w args vs)(n:Nat):FR γ w (initT args 0) (vs.toArray ++ Array.replicate (n - vs.toArray.size) undef):=fun t a ht=>by
 rw[initT_get]at ht
 simp at ht
 obtain⟨y,hy,hv⟩:=h.get ht
 obtain⟨hlt,hye⟩:=List.getElem?_eq_some_iff.1 hy
 refine⟨by simp;omega,?_⟩
 rw[Array.getD_eq_getD_getElem?,Array.getElem?_append_left (by simpa using hlt)]
 simpa[hlt,hye]using hv
def resM(tmps:Array Value):ResultVar→Sem Value
 |.tmp t=>pure (tmps.getD t undef)
 |.cell a t=>do loadVar t (← asAddr (tmps.getD a undef))
theorem resultsA_run{base:Nat}{w0:World}{γ:Gh}{S:St}{w:World}(hS:SR base w0 γ S w){f:T AV}{tmps:Array Value}(hf:FR γ w f tmps):∀{rs:List ResultVar} {l:List AV},resultsA E f S rs=some l →
  ∃vs:List Value,(rs.mapM (resM tmps)).run E.P w=.ok vs w∧VRL γ w l vs
 | [],l,h=>by injection h with h;subst h;exact⟨[],rfl,VRL.nil γ w⟩
 |.tmp t :: r,l,h=>by
  unfold resultsA at h
  split at h
  ·rename_i a l' ha hl
   injection h with h;subst h
   obtain⟨vs,hv,hr⟩:=resultsA_run hS hf hl
   exact⟨_,by simp[List.mapM_cons,resM,hv],VRL.cons (hf t a ha).2 hr⟩
  ·cases h
 |.cell x t :: r,l,h=>by
  unfold resultsA at h
  split at h
  ·rename_i a ha
   split at h
   ·rename_i b l' hb hl
    injection h with h;subst h
    obtain⟨vs,hv,hr⟩:=resultsA_run hS hf hl
    have hx:=(hf x a ha).2
    have hbe:∃cs,behind S a=some cs:=by
     unfold oLoad at hb
     split at hb
     ·cases hb
     ·rename_i cs hcs;exact⟨cs,hcs⟩
    obtain⟨cs,hcs⟩:=hbe
    obtain⟨bb,o,xs,hp,_,_,_⟩:=behind_sound hS hx hcs
    obtain⟨v,hrun,hvr⟩:=oLoad_same (P:=E.P) hS hx hb
    rw[hp]at hrun
    simp[Instr.loadAt,Instr.sureAddr]at hrun
    exact⟨v :: vs,by simp[List.mapM_cons,resM,hp,asAddr,hrun,hv],VRL.cons hvr hr⟩
   ·cases h
  ·cases h
theorem results_run{base:Nat}{w0:World}{γ:Gh}{S:St}{w:World}(hS:SR base w0 γ S w){f:T AV}{tmps:Array Value}(hf:FR γ w f tmps){fn:Func}{l:List AV}(h:resultsA E f S fn.results.toList=some l):
  ∃v,(results fn tmps).run E.P w=.ok v w∧VR γ w (tupA l) v:=by
 obtain⟨vs,hv,hr⟩:=resultsA_run hS hf h
 have e:results fn tmps=(do let vs ← fn.results.mapM (resM tmps);pure (if h:vs.size=1 then vs[0]else .tuple vs)):=by
  unfold results
  rfl
 refine⟨if h:vs.toArray.size=1 then vs.toArray[0]else .tuple vs.toArray,?_,?_⟩
 ·rw[e,Array.mapM_eq_mapM_toList]
  simp[hv]
 ·unfold tupA
  split
  ·rename_i a
   obtain⟨x,xs,rfl,hx,hxs⟩:=hr.head
   have:xs=[]:=List.eq_nil_of_length_eq_zero hxs.1
   subst this
   simpa using hx
  ·rename_i l' hne
   have hl:¬ vs.length=1:=fun h1=>by
    rw[hr.1]at h1
    obtain⟨a,ha⟩:=List.length_eq_one_iff.1 h1
    exact hne a ha
   rw[dif_neg (by simpa using hl)]
   exact .tup l vs hr.1 hr.2
theorem DfrL.nil_inv{γ:Gh}{w:World}{ms:List Deferred}(h:DfrL γ w [] ms):ms=[]:=by
 cases ms with
 |nil=>rfl
 |cons m ms=>exact h.elim
theorem giveA_sound{base:Nat}{w0:World}{γ:Gh}{S:St}{w:World}(hS:SR base w0 γ S w){f:T AV}{tmps:Array Value}(hf:FR γ w f tmps){fn:Func}(h:giveA E fn f S≠.fail):
  ∃a v,giveA E fn f S=.ret a S∧(results fn tmps).run E.P w=.ok v w∧VR γ w a v:=by
 unfold giveA at h ⊢
 split
 ·rename_i l hl
  obtain⟨v,h1,h2⟩:=results_run hS hf hl
  exact⟨_,v,rfl,h1,h2⟩
 ·rename_i hl;rw[hl]at h;exact absurd rfl h
def ModeR(γ:Gh)(w:World):Option AV→FrameMode→FrameMode→Prop
 |none,u,u'=>u=.returning∧u' = .returning
 |some a,u,u'=>∃v,VR γ w a v∧u=.panicking [{ v,recovered:=false }]∧u' = .panicking [{ v,recovered:=true }]
theorem dfrA_sound{rec:Nat→Code→Fr→St→O}(hE:E.Ok)(hR:CodeOk E rec)(base:Nat)(w0:World){k:FuncId}{args:List AV}{S S':St}{m:Option AV}{b:Bool}(h:dfrA E rec k args S m=.ok b S'){γ:Gh}{w:World}{vs:List Value}
  (hS:SR base w0 γ S w) (hg:GR γ w E.G) (hv:VRL γ w args vs) {u u':FrameMode} (hu:ModeR γ w m u u') :
  ∃fn body,E.P.funcs[k]? = some fn∧(fn.name == "runtime.NumGoroutine")=false∧fn.body=some body∧CallsD E.P k vs.toArray u w fun e u2 w'=>∃γ',SR base w0 γ' S' w'∧Ext γ S w γ' S' w'∧(∃v,e=.returned v)∧u2=u':=by
 unfold dfrA at h
 split at h
 ·cases h
 ·rename_i fn hfn
  obtain⟨h1,h2,_⟩:=hE.fn k fn hfn
  split at h
  ·rename_i id ops rest hbody
   split at h
   ·rename_i o hops
    split at h
    ·rename_i d hd
     split at h
     ·rename_i hlen
      have hops2:ops=#[o]:=list1 hops
      subst hops2
      have hrec:o.guard=none∧o.dst=some d∧∃c,o.op=.call c∧c.callee=.builtin .recover:=by
       unfold isRecover at hd
       split at hd
       ·rename_i c hc
        split at hd
        ·rename_i hcal
         split at hd
         ·rename_i hgn
          exact⟨by simpa using hgn,hd,c,hc,hcal⟩
         ·cases hd
        ·cases hd
       ·cases hd
      obtain⟨hgu,hdst,c,hop,hcal⟩:=hrec
      split at h
      ·rename_i e f' S2 hrun
       have hend:f'.dfr=[]∧fn.results.toList=[]∧(e=.normal∨e=.ret)∧S2=S':=by
        split at h
        ·rename_i e1 e2;injection h with _ h3;exact⟨e1,e2,.inl rfl,h3⟩
        ·rename_i e1 e2;injection h with _ h3;exact⟨e1,e2,.inr rfl,h3⟩
        ·cases h
       obtain⟨q1,q2,q3,rfl⟩:=hend
       refine⟨fn,_,h1,h2,hbody,callsD_of_wpS h1 hbody fun c₀ cs hc₀=>?_⟩
       refine wpS_seq (wpS_region ?_)
       have hexec:∀(ρ:Operand→Value),(execOp ρ o).run E.P w=.ok .recover w:=fun ρ=>by
        simp[execOp,hop,resolve,hcal,invoke,builtin]
       have hans:∃v cs',(match recoverD (c₀ :: cs)with |some (v,cs')=>(v,cs') |none=>(Value.nilIface,c₀ :: cs))=(v,cs')∧VR γ w (m.getD (.v .nilIface)) v∧cs' = { c₀ with mode:=u' } :: cs:=by
        cases m with
        |none =>
         obtain⟨rfl,rfl⟩:=hu
         refine⟨.nilIface,c₀ :: cs,by simp[recoverD,hc₀],.v _ rfl,?_⟩
         rw[← hc₀]
        |some a =>
         obtain⟨v,hv1,rfl,rfl⟩:=hu
         exact⟨v,_,by simp only[recoverD,hc₀],hv1,rfl⟩
       obtain⟨v,cs',hm1,hm2,hm3⟩:=hans
       have hgoal:∀(Q:Exit→Act→List Frame→World→Prop) (act:Act),Q .normal (act.put o.dst v) cs' w→wpOpsS E.P #[o] Q (List.range #[o].size) act (c₀ :: cs) w:=fun Q act hQ=>by
        show wpOpsS E.P #[o] Q [0] act (c₀ :: cs) w
        simp only[wpOpsS]
        have:(#[o]:Array Oper)[0]? = some o:=rfl
        rw[this]
        simp only[Region.wanted,hgu,if_true,hexec]
        cases hrd:recoverD (c₀ :: cs)with
        |none=>rw[hrd]at hm1;injection hm1 with e1 e2;subst e1;subst e2;exact hQ
        |some p=>obtain⟨v2,cs2⟩:=p;rw[hrd]at hm1;injection hm1 with e1 e2;subst e1;subst e2;exact hQ
       refine hgoal _ _ ?_
       show rest.wpS E.P _ _ cs' w
       refine wpS_of_wp (hR.code base w0 _ fn.ntmps rest γ S w ⟨(initT args 0).set d (some (m.getD (.v .nilIface))),[]⟩ _ hS ⟨?_,?_,(by rw[hdst];exact trivial)⟩ hg ?_)
       ·have:=FR.put (γ:=γ) (w:=w) (f:=initT args 0) (act:={ tmps:=vs.toArray ++ Array.replicate (fn.ntmps - vs.toArray.size) undef,defers:=[] }) (initT_FR hv fn.ntmps) (some d) fn.ntmps (by have:=hv.1;simp;omega) hm2 (fun d' hd'=>by injection hd' with hd';subst hd';exact hlen.2)
        rw[hdst]
        exact this
       ·have:=hv.1
        rw[hdst]
        simp[Act.put];omega
       ·rw[hrun]
        intro γ' act' w' k1 k2 k3
        have hd0:act'.defers=[]:=DfrL.nil_inv (by have:=k3.dfr;rwa [q1]at this)
        have hres:(results fn act'.tmps).run E.P w' = .ok (.tuple #[]) w':=by
         have:fn.results=#[]:=by rw[← Array.toArray_toList (xs:=fn.results),q2]
         simp[results,this]
        rcases q3 with rfl |rfl
        ·exact⟨hd0,u',hm3,_,hres,γ',k1,k2,⟨_,rfl⟩,rfl⟩
        ·exact⟨hd0,u',hm3,_,hres,γ',k1,k2,⟨_,rfl⟩,rfl⟩
      ·cases h
     ·cases h
    ·cases h
   ·cases h
  ·cases h
theorem invoke_run{k:FuncId}{fn:Func}{c:Code}(h1:E.P.funcs[k]? = some fn)(h2:(fn.name == "runtime.NumGoroutine")=false) (h3:fn.body=some c) (caps args:Array Value) (w:World):(invoke (.fn (.func k) caps) args).run E.P w=.ok (.enter k (args ++ caps)) w:=by
 have h2':¬ fn.name = "runtime.NumGoroutine" := by simpa using h2
 simp[invoke,callFunc,h1,h2',h3]
theorem stepF_sound{rec:Nat→Code→Fr→St→O}(hE:E.Ok)(hI:IntrOk E)(hR:CodeOk E rec)(base:Nat)(w0:World):CallOk E base w0 (stepF E rec):=by
 intro k args S hne γ w vs hS hg hv hF
 generalize hr:stepF E rec k args S=r at *
 unfold stepF at hr
 split at hr
 ·rename_i g hgk
  subst hr
  exact hI k g hgk base w0 args S hne γ w vs hS hg hv
 split at hr
 ·exact absurd hr.symm hne
 ·rename_i fn hfn
  obtain⟨h1,h2,_⟩:=hE.fn k fn hfn
  split at hr
  ·exact absurd hr.symm hne
  ·rename_i c hc
   split at hr
   ·rename_i hlen
    refine calls_of_wp_defers h1 hc (hR.code base w0 (bodyPostD E.P fn (RetOk base w0 γ S w r)) fn.ntmps c γ S w ⟨initT args 0,[]⟩ _ hS ⟨initT_FR hv fn.ntmps,by have:=hv.1;simp;omega,trivial⟩ hg ?_)
    generalize rec fn.ntmps c ⟨initT args 0,[]⟩ S=o at hr
    cases o with
    |fail=>exact absurd hr.symm hne
    |out e f' S' =>
     intro γ' act' w' k1 k2 k3
     have give:∀(γ2:Gh) (S2:St) (w2:World),SR base w0 γ2 S2 w2→Ext γ S w γ2 S2 w2→FR γ2 w2 f'.tmps act'.tmps→giveA E fn f'.tmps S2=r→Leaves E.P fn act'.tmps (RetOk base w0 γ S w r) [] .returning w2:=fun γ2 S2 w2 j1 j2 j3 j4=>by
      obtain⟨a,v,g1,g2,g3⟩:=giveA_sound (E:=E) (fn:=fn) j1 j3 (by rw[j4];exact hne)
      rw[j4]at g1
      subst g1
      exact⟨v,g2,γ2,v,j1,j2,g3,rfl⟩
     have dfrd:∀(k2:FuncId) (caps dargs:List AV) (m:Option AV) (u u':FrameMode),f'.dfr=[⟨.func k2,caps,dargs⟩]→ModeR γ' w' m u u'→u≠.run→settle u' = .returning→(match dfrA E rec k2 (dargs ++ caps) S' m with |.ok _ S2=>giveA E fn f'.tmps S2 |.fail=>.fail)=r →
       Leaves E.P fn act'.tmps (RetOk base w0 γ S w r) act'.defers u w':=fun k4 caps dargs m u u' hd hm hu hset hq=>by
      have hdl:=k3.dfr
      rw[hd]at hdl
      cases hdef:act'.defers with
      |nil=>rw[hdef]at hdl;exact hdl.elim
      |cons d0 ds =>
       rw[hdef]at hdl
       obtain⟨⟨cv,av,hde,hcv,hav⟩,hrest⟩:=hdl
       have hds:ds=[]:=DfrL.nil_inv hrest
       subst hds
       split at hq
       ·rename_i b S2 hda
        obtain⟨fn2,body2,p1,p2,p3,p4⟩:=dfrA_sound hE hR base w0 hda k1 (hg.mono k2.ev) (hav.append hcv) hm
        rw[hde]
        refine leaves_cons (f:=k4) (args:=av.toArray ++ cv.toArray) hu (invoke_run p1 p2 p3 _ _ _) ?_
        have:(av ++ cv).toArray=av.toArray ++ cv.toArray:=by simp
        rw[← this]
        refine p4.mono ?_
        rintro e2 u2 w2 ⟨γ2,j1,j2,⟨v,rfl⟩,rfl⟩
        show Leaves _ _ _ _ [] (settle _) w2
        rw[hset]
        exact give γ2 S2 w2 j1 (k2.trans j2) (k3.tmps.mono j2.ev) hq
       ·exact absurd hq.symm hne
     unfold endA at hr
     split at hr
     ·rename_i e2 f2 S2 heq
      injection heq with q1 q2 q3;subst q1;subst q2;subst q3
      split at hr
      ·rename_i hd
       have hd':act'.defers=[]:=DfrL.nil_inv (by have:=k3.dfr;rwa [hd]at this)
       split at hr
       ·show Leaves _ _ _ _ act'.defers .returning w'
        rw[hd'];exact give γ' _ w' k1 k2 k3.tmps hr
       ·show Leaves _ _ _ _ act'.defers .returning w'
        rw[hd'];exact give γ' _ w' k1 k2 k3.tmps hr
       ·subst hr
        intro v hvr
        show Leaves _ _ _ _ act'.defers (.panicking [{ v,recovered:=false }]) w'
        rw[hd']
        exact⟨γ',v,k1,k2,hvr,rfl⟩
       ·exact absurd hr.symm hne
      ·rename_i k4 caps dargs hd
       split at hr
       ·exact dfrd k4 caps dargs none .returning .returning hd ⟨rfl,rfl⟩ (by simp) rfl hr
       ·exact dfrd k4 caps dargs none .returning .returning hd ⟨rfl,rfl⟩ (by simp) rfl hr
       ·rename_i a
        intro v hvr
        exact dfrd k4 caps dargs (some a) _ (.panicking [{ v,recovered:=true }]) hd ⟨v,hvr,rfl,rfl⟩ (by simp) rfl hr
       ·exact absurd hr.symm hne
      ·exact absurd hr.symm hne
     ·cases ‹O.out _ _ _=O.fail›
   ·exact absurd hr.symm hne
theorem stepC_sound{D:Drawn}{rec:Nat→Code→Fr→St→O}(hE:E.Ok)(hI:IntrOk E)(hD:DrawnOk E D)(hR:CodeOk E rec):CodeOk E (stepC E D rec (stepF E rec)):=by
 have loop:∀(base:Nat) (w0:World) (Q:Exit→Act→World→Prop) (n:Nat) (c:Code) (γ:Gh) (S:St) (w:World) (f:Fr) (act:Act),SR base w0 γ S w→AR γ w n f act→GR γ w E.G →
   Holds base w0 n γ S w Q (stepC E D rec (stepF E rec) n (.loop c) f S)→LWp E.P c Q act w:=by
  intro base w0 Q n c γ S w f act hS ha hg hH
  refine LWp.round (hR.code base w0 _ n c γ S w f act hS ha hg ?_)
  unfold stepC at hH
  simp only at hH
  split at hH
  ·rename_i f' S' hr
   rw[hr]
   intro γ' act' w' k1 k2 k3
   exact hR.loop base w0 Q n c γ' S' w' f' act' k1 k3 (hg.mono k2.ev) (hH.later k2)
  ·rename_i r hr
   cases hst:rec n c f S with
   |fail=>rw[hst]at hH;exact hH.elim
   |out e f' S' =>
    rw[hst]at hH
    intro γ' act' w' k1 k2 k3
    have:=hH γ' act' w' k1 k2 k3
    cases e with
    |normal=>exact absurd hst (hr f' S')
    |exit id=>exact this
    |ret=>exact this
    |pan a=>exact this
 refine⟨fun base w0 Q n c γ S w f act hS ha hg hH=>?_,loop⟩
 cases c with
 |skip=>exact wp_skip (hH γ act w hS (.refl _ _ _) ha)
 |label l=>exact wp_label (hH γ act w hS (.refl _ _ _) ha)
 |region id ops draw =>
  cases draw with
  |false=>exact wp_region_list (runL_sound hE (stepF_sound hE hI hR base w0) _ γ S w f act hS ha hg hH)
  |true=>exact hD base w0 Q _ (stepF_sound hE hI hR base w0) n id ops γ S w f act hS ha hg hH
 |seq x y =>
  refine wp_seq (hR.code base w0 _ n x γ S w f act hS ha hg ?_)
  unfold stepC at hH
  simp only at hH
  split at hH
  ·rename_i f' S' hr
   rw[hr]
   intro γ' act' w' k1 k2 k3
   exact hR.code base w0 Q n y γ' S' w' f' act' k1 k3 (hg.mono k2.ev) (hH.later k2)
  ·rename_i r hr
   cases hst:rec n x f S with
   |fail=>rw[hst]at hH;exact hH.elim
   |out e f' S' =>
    rw[hst]at hH
    intro γ' act' w' k1 k2 k3
    have:=hH γ' act' w' k1 k2 k3
    cases e with
    |normal=>exact absurd hst (hr f' S')
    |exit id=>exact this
    |ret=>exact this
    |pan a=>exact this
 |cond c x y =>
  unfold stepC at hH
  simp only at hH
  split at hH
  ·rename_i hc
   have hv:=evalO_sound ha.tmps hg hc
   generalize hq:act.eval c=q at hv
   cases hv
   exact wp_cond_true hq (hR.code base w0 Q n x γ S w f act hS ha hg hH)
  ·rename_i hc
   have hv:=evalO_sound ha.tmps hg hc
   generalize hq:act.eval c=q at hv
   cases hv
   exact wp_cond_false hq (hR.code base w0 Q n y γ S w f act hS ha hg hH)
  ·exact hH.elim
 |block id c =>
  refine wp_block (hR.code base w0 _ n c γ S w f act hS ha hg ?_)
  unfold stepC at hH
  simp only at hH
  split at hH
  ·rename_i id' f' S' hr
   rw[hr]
   intro γ' act' w' k1 k2 k3
   show if id' = id then Q .normal act' w' else Q (.exit id') act' w'
   split
   ·rename_i he
    rw[if_pos he]at hH
    exact hH γ' act' w' k1 k2 k3
   ·rename_i he
    rw[if_neg he]at hH
    exact hH γ' act' w' k1 k2 k3
  ·rename_i r hr
   cases hst:rec n c f S with
   |fail=>rw[hst]at hH;exact hH.elim
   |out e f' S' =>
    rw[hst]at hH
    intro γ' act' w' k1 k2 k3
    have:=hH γ' act' w' k1 k2 k3
    cases e with
    |normal=>exact this
    |exit id'=>exact absurd hst (hr id' f' S')
    |ret=>exact this
    |pan a=>exact this
 |loop c=>exact(loop base w0 Q n c γ S w f act hS ha hg hH).loop
 |exit id=>exact wp_exit (hH γ act w hS (.refl _ _ _) ha)
 |ret=>exact wp_ret (hH γ act w hS (.refl _ _ _) ha)
 |rangeFunc=>exact hH.elim
 |scope=>exact hH.elim
 |goto=>exact hH.elim
 |refuse=>exact hH.elim
theorem run_sound{D:Drawn}(hE:E.Ok)(hI:IntrOk E)(hD:DrawnOk E D):∀m,CodeOk E (run E D m)
 |0=>⟨fun _ _ _ _ _ _ _ _ _ _ _ _ _ h=>h.elim,fun _ _ _ _ _ _ _ _ _ _ _ _ _ h=>h.elim⟩
 |m+1=>stepC_sound hE hI hD (run_sound hE hI hD m)
theorem call_sound{D:Drawn}(hE:E.Ok)(hI:IntrOk E)(hD:DrawnOk E D)(m:Nat)(base:Nat)(w0:World):CallOk E base w0 (callN E D m):=stepF_sound hE hI (run_sound hE hI hD m) base w0
end
end Go.Ax
noncomputable section
namespace Go.Ax
open Go.RowKit
def eqS:Value→Value→Bool
 |.bool a,.bool b=>a == b
 |.int j a,.int k b=>decide (j=k) && a == b
 |.string a,.string b=>a == b
 |.float j a,.float k b=>decide (j=k) && a == b
 |.nilFunc,.nilFunc=>true
 |.nilIface,.nilIface=>true
 |.slice (some a) 0 0,.slice (some b) 0 0=>decide (a=b)
 |_,_=>false
theorem eqS_eq{x y:Value}(h:eqS x y=true):x=y:=by
 unfold eqS at h
 split at h
 ·have:=eq_of_beq h;subst this;rfl
 ·simp at h;obtain⟨rfl,rfl⟩:=h;rfl
 ·rw[bytes_beq h]
 ·simp at h;obtain⟨rfl,rfl⟩:=h;rfl
 ·rfl
 ·rfl
 ·rw[of_decide_eq_true h]
 ·cases h
mutual
def beqA:AV→AV→Bool
 |.v x,.v y=>eqS x y
 |.nilp,.nilp=>true
 |.ptr i o,.ptr j p=>i == j && o == p
 |.ep a,.ep b=>beqL a b
 |.nils,.nils=>true
 |.sl t o s a,.sl t' o' s' b=>t == t' && o == o' && s == s' && beqL a b
 |.nilm,.nilm=>true
 |.map i,.map j=>i == j
 |.fn f a b,.fn g c d=>decide (f=g) && beqL a c && beqL b d
 |.iface t a,.iface u b=>t == u && beqA a b
 |.agg a,.agg b=>beqL a b
 |.tup a,.tup b=>beqL a b
 |.bs i o n s,.bs j p m t=>i == j && o == p && n == m && s == t
 |_,_=>false
def beqL:List AV→List AV→Bool
 | [],[]=>true
 |a :: as,b :: bs=>beqA a b && beqL as bs
 |_,_=>false
end
mutual
theorem beqA_eq:∀(a b:AV),beqA a b=true→a=b
 |.v x,b,h=>by
  cases b <;> simp only[beqA]at h <;> first | (cases h;done) |rw[eqS_eq h]
 |.nilp,b,h=>by cases b <;> simp only[beqA]at h <;> first | (cases h;done) |rfl
 |.nils,b,h=>by cases b <;> simp only[beqA]at h <;> first | (cases h;done) |rfl
 |.nilm,b,h=>by cases b <;> simp only[beqA]at h <;> first | (cases h;done) |rfl
 |.ptr i o,b,h=>by
  cases b <;> simp only[beqA]at h <;> first | (cases h;done) | (simp at h;obtain⟨rfl,rfl⟩:=h;rfl)
 |.map i,b,h=>by
  cases b <;> simp only[beqA]at h <;> first | (cases h;done) | (simp at h;subst h;rfl)
 |.ep a,b,h=>by
  cases b <;> simp only[beqA]at h <;> first | (cases h;done) |rw[beqL_eq a _ h]
 |.sl t o s a,b,h=>by
  cases b <;> simp only[beqA]at h <;> first | (cases h;done) | (simp only[Bool.and_eq_true,beq_iff_eq]at h;obtain⟨⟨⟨rfl,rfl⟩,rfl⟩,h⟩:=h;rw[beqL_eq a _ h])
 |.fn f a c,b,h=>by
  cases b <;> simp only[beqA]at h <;> first | (cases h;done) | (simp only[Bool.and_eq_true,decide_eq_true_eq]at h;obtain⟨⟨rfl,h1⟩,h2⟩:=h;rw[beqL_eq a _ h1,beqL_eq c _ h2])
 |.iface t a,b,h=>by
  cases b <;> simp only[beqA]at h <;> first | (cases h;done) | (simp only[Bool.and_eq_true,beq_iff_eq]at h;obtain⟨rfl,h⟩:=h;rw[beqA_eq a _ h])
 |.agg a,b,h=>by
  cases b <;> simp only[beqA]at h <;> first | (cases h;done) |rw[beqL_eq a _ h]
 |.tup a,b,h=>by
  cases b <;> simp only[beqA]at h <;> first | (cases h;done) |rw[beqL_eq a _ h]
 |.bs i o n s,b,h=>by
  cases b <;> simp only[beqA]at h <;> first | (cases h;done) | (simp only[Bool.and_eq_true,beq_iff_eq]at h;obtain⟨⟨⟨rfl,rfl⟩,rfl⟩,rfl⟩:=h;rfl)
theorem beqL_eq:∀(a b:List AV),beqL a b=true→a=b
 | [],b,h=>by cases b with
  |nil=>rfl
  |cons=>simp[beqL]at h
 |a :: as,b,h=>by
  cases b with
  |nil=>simp[beqL]at h
  |cons b bs =>
   simp only[beqL,Bool.and_eq_true]at h
   rw[beqA_eq a b h.1,beqL_eq as bs h.2]
end
section
variable {E:Env} {f f':T AV} {S:St} {o:Oper}
theorem mapO_congr{α β:Type}{g h:α→Option β}:∀{l:List α},(∀x∈l,g x=h x)→mapO g l=mapO h l
 | [],_=>rfl
 |x :: r,H=>by
  unfold mapO
  rw[H x (List.mem_cons_self ..),mapO_congr fun y hy=>H y (List.mem_cons_of_mem _ hy)]
theorem partsA_congr{G:Gl}:∀{l:List (Nat × Operand)},(∀p∈l,evalO G f p.2=evalO G f' p.2)→partsA G f l=partsA G f' l
 | [],_=>rfl
 | (i,x) :: r,H=>by
  unfold partsA
  rw[H (i,x) (List.mem_cons_self ..),partsA_congr fun y hy=>H y (List.mem_cons_of_mem _ hy)]
theorem ground_congr{P:Program}{G:Gl}(hs:Op.noSel o.op=true)(H:∀x∈o.op.operands,evalO G f x=evalO G f' x):ground P G f S o=ground P G f' S o:=by
 have hg:∀x∈o.op.operands,groundO G f x=groundO G f' x:=fun x hx=>by unfold groundO;rw[H x hx]
 have h1:o.op.operands.toList.all (fun x=>(groundO G f x).isSome)=o.op.operands.toList.all (fun x=>(groundO G f' x).isSome):=by
  rw[Bool.eq_iff_iff,List.all_eq_true,List.all_eq_true]
  constructor <;> intro h x hx
  ·rw[← hg x (by simpa using hx)];exact h x hx
  ·rw[hg x (by simpa using hx)];exact h x hx
 have h2:execOp (fun x=>(groundO G f x).getD undef) o=execOp (fun x=>(groundO G f' x).getD undef) o :=
  execOp_congr o (fun cs b e=>by rw[e]at hs;cases hs) (fun x hx=>by show(groundO G f x).getD undef=(groundO G f' x).getD undef;rw[hg x hx])
 unfold ground
 rw[h1,h2]
theorem exec1_congr(H:∀x∈o.op.operands,evalO E.G f x=evalO E.G f' x):exec1 E f S o=exec1 E f' S o:=by
 have hg:Op.noSel o.op=true→ground E.P E.G f S o=ground E.P E.G f' S o:=fun hs=>ground_congr hs H
 obtain⟨dst,op,ty,pos,after,guard⟩:=o
 cases op
 case slice t x lo hi mx =>
  have h1:∀y∈lo.toList,evalO E.G f y=evalO E.G f' y:=fun y hy=>H y (by simp[Op.operands];simp at hy;simp[hy])
  have h2:∀y∈hi.toList,evalO E.G f y=evalO E.G f' y:=fun y hy=>H y (by simp[Op.operands];simp at hy;simp[hy])
  have hx:=H x (by simp[Op.operands])
  have hg:=hg rfl
  cases mx with
  |none=>simp only[exec1,hx,mapO_congr h1,mapO_congr h2]
  |some m =>
   have hm:=H m (by simp[Op.operands])
   simp only[exec1,slice3A]
   cases lo with
   |some l=>rfl
   |none =>
    cases hi with
    |none=>rfl
    |some h=>simp only[hx,hm,h2 h (by simp)]
 case binOp op t x y u =>
  have hx:=H x (by simp[Op.operands])
  have hy:=H y (by simp[Op.operands])
  have hg:=hg rfl
  simp only[exec1,hx,hy,eqOr,hg]
 case build t ps=>simp only[exec1];rw[partsA_congr fun p hp=>H p.2 (by simp[Op.operands];exact⟨p.1,by simpa using hp⟩)]
 case buildSlice t n ps=>simp only[exec1];rw[partsA_congr fun p hp=>H p.2 (by simp[Op.operands];exact⟨p.1,by simpa using hp⟩)]
 case makeFunc fn a b =>
  simp only[exec1]
  rw[mapO_congr fun x hx=>H x (by simp[Op.operands];exact .inl (by simpa using hx)),mapO_congr fun x hx=>H x (by simp[Op.operands];exact .inr (by simpa using hx))]
 case makeMap t r=>cases r <;> rfl
 case call c =>
  have hargs:∀x∈c.args.toList,evalO E.G f x=evalO E.G f' x:=fun x hx=>H x (by simp[Op.operands,Call.operands];exact .inr (by simpa using hx))
  have hg:=hg rfl
  simp only[exec1,callA]
  cases hc:c.callee with
  |value fo =>
   have hfo:=H fo (by simp[Op.operands,Call.operands,hc])
   simp only[hfo,mapO_congr hargs]
  |invoke r m=>rfl
  |builtin b =>
   cases b <;> simp only[hg]
   ·cases hl:c.args.toList with
    |nil=>rfl
    |cons x r =>
     rw[hl]at hargs
     cases r with
     |nil=>rfl
     |cons y r2 =>
      cases r2 with
      |nil =>
       generalize c.argTypes.toList=ts
       rcases ts with _ | ⟨t,_ | ⟨u,_ | ⟨v,vs⟩⟩⟩ <;> first |rfl |simp only[hargs x (by simp),hargs y (by simp)]
      |cons=>rfl
   ·cases hl:c.args.toList with
    |nil=>rfl
    |cons x r =>
     rw[hl]at hargs
     cases r with
     |nil=>rfl
     |cons y r2 =>
      cases r2 with
      |nil =>
       generalize c.argTypes.toList=ts
       rcases ts with _ | ⟨t,_ | ⟨u,_ | ⟨v,vs⟩⟩⟩ <;> first |rfl |simp only[hargs x (by simp),hargs y (by simp)]
      |cons=>rfl
   ·cases hl:c.args.toList with
    |nil=>rfl
    |cons x r =>
     rw[hl]at hargs
     cases r with
     |nil =>
      generalize c.argTypes.toList=ts
      rcases ts with _ | ⟨t,_ | ⟨u,us⟩⟩ <;> first |rfl |simp only[hargs x (by simp)]
     |cons=>rfl
 case defer c =>
  have hargs:∀x∈c.args.toList,evalO E.G f x=evalO E.G f' x:=fun x hx=>H x (by simp[Op.operands,Call.operands];exact .inr (by simpa using hx))
  simp only[exec1,deferA]
  cases hc:c.callee with
  |value fo =>
   have hfo:=H fo (by simp[Op.operands,Call.operands,hc])
   simp only[hfo,mapO_congr hargs]
  |invoke r m=>rfl
  |builtin b=>rfl
 all_goals first
  | (simp only[exec1];done)
  | (
   simp only[exec1]
   simp only[Op.operands]at H
   first
   | (rw[H _ (by simp)];done)
   | (
    have hg:=hg rfl
    simp only[H _ (List.mem_toArray.2 (List.mem_cons_self ..)),hg];done)
   | (simp only[H _ (List.mem_toArray.2 (List.mem_cons_self ..)),H _ (List.mem_toArray.2 (List.mem_cons_of_mem _ (List.mem_cons_self ..)))];done)
   | (
    have hg:=hg rfl
    simp only[H _ (List.mem_toArray.2 (List.mem_cons_self ..)),H _ (List.mem_toArray.2 (List.mem_cons_of_mem _ (List.mem_cons_self ..))),hg];done)
   | (simp only[H _ (List.mem_toArray.2 (List.mem_cons_self ..)),H _ (List.mem_toArray.2 (List.mem_cons_of_mem _ (List.mem_cons_self ..))),H _ (List.mem_toArray.2 (List.mem_cons_of_mem _ (List.mem_cons_of_mem _ (List.mem_cons_self ..))))];done)
   |skip)
end
end Go.Ax
noncomputable section
namespace Go.Ax
open Go.RowKit
def isLook(o:Oper):Bool:=match o.op with
 |.move _=>true
 |.assign _=>true
 |.pick _ _ _=>true
 |.build _ _=>true
 |.buildSlice _ _ _=>true
 |.load _ _=>true
 |.nilCheck _=>true
 |.makeInterface _ _=>true
 |.makeFunc _ _ _=>true
 |.slice _ _ _ _ _=>true
 |.fieldAddr _ _ _=>true
 |.field _ _ _=>true
 |.indexAddr _ _ _=>true
 |.lookup _ _ _ _=>true
 |.typeAssert _ _ _ _=>true
 |.extract _ _=>true
 |.binOp _ _ _ _ _=>true
 |.unOp _ _ _=>true
 |.convert _ _ _=>true
 |.index _ _ _=>true
 |.call c=>match c.callee with
  |.builtin .append=>false
  |.builtin .copy=>false
  |.builtin _=>true
  |_=>false
 |_=>false
section
variable {E:Env} {callK:CallK} {n:Nat} {ops:Array Oper}
theorem ofOpt_same(S:St)(x:Option AV):(∃a,ofOpt S x=.val a S)∨ofOpt S x=.fail:=by
 cases x with
 |none=>exact .inr rfl
 |some a=>exact .inl ⟨a,rfl⟩
theorem look_same{f:T AV}{S:St}{o:Oper}(h:isLook o=true):(∃a,exec1 E f S o=.val a S)∨exec1 E f S o=.fail:=by
 have hg:(∃a,ground E.P E.G f S o=.val a S)∨ground E.P E.G f S o=.fail:=ground_ne
 have hp:=ofOpt_same S
 obtain⟨dst,op,ty,pos,after,guard⟩:=o
 cases op
 case slice t x lo hi mx =>
  cases mx with
  |none =>
   simp only[exec1]
   split
   ·split <;> first |exact hp _ |exact .inr rfl
   ·split <;> first |exact hp _ |exact .inr rfl
   ·split <;> first |exact hp _ |exact .inr rfl
   ·split <;> first |exact hp _ |exact .inr rfl
   ·exact .inr rfl
  |some m=>exact hp _
 case call c =>
  simp only[isLook]at h
  simp only[exec1,callA]
  cases hc:c.callee with
  |value fo=>rw[hc]at h;cases h
  |invoke r m=>rw[hc]at h;cases h
  |builtin b =>
   rw[hc]at h
   cases b <;> first | (cases h;done) |exact hg |skip
   dsimp only
   split
   ·split
    ·split
     ·exact .inl ⟨_,rfl⟩
     ·exact .inr rfl
    ·exact .inr rfl
   ·exact .inr rfl
 case binOp op t x y yt =>
  simp only[exec1]
  split
  ·split
   ·split <;> first |exact .inl ⟨_,rfl⟩ |exact .inr rfl
   ·split
    ·exact .inl ⟨_,rfl⟩
    ·exact eqOr_ne
  ·exact .inr rfl
 case index t x i =>
  simp only[exec1]
  split
  ·split
   ·exact .inl ⟨_,rfl⟩
   ·exact hg
  ·exact .inr rfl
 case convert s d x =>
  simp only[exec1]
  split
  ·split
   ·exact .inl ⟨_,rfl⟩
   ·exact hg
  ·exact .inr rfl
 all_goals first
  | (simp[isLook]at h;done)
  |exact hp _
  |exact hg
  | (simp only[exec1];split <;> first |exact hp _ |exact .inr rfl |exact .inl ⟨_,rfl⟩)
inductive SR1 where
 |val (a:AV) (S:St)
 |dfr (d:Dfr) (S:St)
 |pan (a:AV) (S:St)
 |fail
def stepR(E:Env)(callK:CallK)(ops:Array Oper)(o:Oper)(f:T AV)(S:St):SR1 :=
 match wantedA ops o f with
 |none=>.fail
 |some false=>.val (.tup []) S
 |some true=>match exec1 E f S o with
  |.val a S'=>.val a S'
  |.skip S'=>.val (.tup []) S'
  |.enter k args S'=>match callK k args S' with
   |.ret a S''=>.val a S''
   |.pan a S''=>.pan a S''
   |.fail=>.fail
  |.dfr fn caps args S'=>.dfr ⟨fn,caps,args⟩ S'
  |.pan a S'=>.pan a S'
  |.fail=>.fail
def okD(n:Nat):Option Tmp→Bool
 |none=>true
 |some d=>decide (d<n)
def putT(f:Fr)(dst:Option Tmp)(a:AV):Fr:=match dst with
 |none=>f
 |some d=>{ f with tmps:=f.tmps.set d (some a) }
theorem putA_eq(n:Nat)(f:Fr)(dst:Option Tmp)(a:AV)(S:St):putA n f dst a S=if okD n dst then .out .normal (putT f dst a) S else .fail:=by
 cases dst with
 |none=>rfl
 |some d=>simp[putA,okD,putT]
theorem stepO_eq(o:Oper)(f:Fr)(S:St):stepO E callK n ops o f S=match stepR E callK ops o f.tmps S with
  |.val a S'=>putA n f o.dst a S'
  |.dfr d S'=>putA n { f with dfr:=d :: f.dfr } o.dst (.tup []) S'
  |.pan a S'=>.out (.pan a) f S'
  |.fail=>.fail:=by
 unfold stepO stepR
 cases wantedA ops o f.tmps with
 |none=>rfl
 |some b =>
  cases b with
  |false=>rfl
  |true =>
   simp only
   cases exec1 E f.tmps S o with
   |enter k args S'=>simp only;cases callK k args S' <;> rfl
   |_=>rfl
def agree(ops:Array Oper)(o:Oper)(f f':T AV):Prop:=∀t∈o.looksAt ops,f.get t=f'.get t
theorem agree_eval{o:Oper}{f f':T AV}(h:agree ops o f f'):∀x∈o.op.operands,evalO E.G f x=evalO E.G f' x:=fun x hx=>by
 cases x with
 |tmp t=>exact h t (by unfold Oper.looksAt;exact List.mem_append_left _ (List.mem_filterMap.2 ⟨.tmp t,by simpa using hx,rfl⟩))
 |_=>rfl
theorem agree_wanted{o:Oper}{f f':T AV}(h:agree ops o f f'):wantedA ops o f=wantedA ops o f':=by
 unfold wantedA
 split
 ·rfl
 ·rename_i j want hg
  split
  ·rfl
  ·rename_i d hd
   rw[h d (by unfold Oper.looksAt;refine List.mem_append_right _ ?_;rw[hg];simp[hd])]
theorem stepR_congr{o:Oper}{f f':T AV}{S:St}(h:agree ops o f f'):stepR E callK ops o f S=stepR E callK ops o f' S:=by
 unfold stepR
 rw[agree_wanted h,exec1_congr (agree_eval h)]
theorem agree_put{o:Oper}{f:Fr}{dst:Option Tmp}{a:AV}(h:∀d,dst=some d→d ∉ o.looksAt ops):agree ops o (putT f dst a).tmps f.tmps:=fun t ht=>by
 cases dst with
 |none=>rfl
 |some d =>
  show(f.tmps.set d (some a)).get t=_
  rw[T.get_set,if_neg (by intro e;subst e;exact h _ rfl ht)]
theorem putT_comm(f:Fr){x y:Option Tmp}(h:∀d,x=some d→y≠some d)(a b:AV):putT (putT f x a) y b=putT (putT f y b) x a:=by
 cases x with
 |none=>rfl
 |some d =>
  cases y with
  |none=>rfl
  |some e =>
   have hne:e≠d:=fun he=>h d rfl (he ▸ rfl)
   show({ f with tmps:=(f.tmps.set d (some a)).set e (some b) }:Fr)={ f with tmps:=(f.tmps.set e (some b)).set d (some a) }
   rw[T.set_comm f.tmps hne]
def lookV(E:Env)(ops:Array Oper)(o:Oper)(f:T AV)(S:St):Option AV :=
 match wantedA ops o f with
 |none=>none
 |some false=>some (.tup [])
 |some true=>match exec1 E f S o with
  |.val a _=>some a
  |_=>none
theorem lookV_congr{o:Oper}{f f':T AV}{S:St}(h:agree ops o f f'):lookV E ops o f S=lookV E ops o f' S:=by
 unfold lookV
 rw[agree_wanted h,exec1_congr (agree_eval h)]
theorem stepR_look{o:Oper}(hl:isLook o=true)(f:T AV)(S:St):stepR E callK ops o f S=match lookV E ops o f S with
  |some a=>.val a S
  |none=>.fail:=by
 unfold stepR lookV
 cases wantedA ops o f with
 |none=>rfl
 |some b =>
  cases b with
  |false=>rfl
  |true =>
   rcases look_same (E:=E) (f:=f) (S:=S) hl with⟨a,h⟩ |h <;> rw[h]
def pureO(o:Oper):Bool:=match o.op with
 |.move _=>true
 |.assign _=>true
 |.pick _ _ _=>true
 |.build _ _=>true
 |.buildSlice _ _ _=>true
 |.nilCheck _=>true
 |.makeInterface _ _=>true
 |.makeFunc _ _ _=>true
 |.slice _ _ _ _ _=>true
 |.fieldAddr _ _ _=>true
 |.field _ _ _=>true
 |.indexAddr _ _ _=>true
 |.typeAssert _ _ _ _=>true
 |.extract _ _=>true
 |.binOp _ _ _ _ _=>true
 |.unOp _ _ _=>true
 |.convert _ _ _=>true
 |.index _ _ _=>true
 |_=>false
def OR.look:OR→Option AV
 |.val a _=>some a
 |_=>none
theorem ofOpt_look(S:St)(x:Option AV):(ofOpt S x).look=x:=by cases x <;> rfl
theorem ground_look{f:T AV}{S S':St}{o:Oper}:(ground E.P E.G f S o).look=(ground E.P E.G f S' o).look:=by
 unfold ground
 split
 ·split
  ·split <;> rfl
  ·rfl
 ·rfl
theorem pure_look{f:T AV}{S S':St}{o:Oper}(h:pureO o=true):(exec1 E f S o).look=(exec1 E f S' o).look:=by
 have hg:=ground_look (E:=E) (f:=f) (S:=S) (S':=S') (o:=o)
 obtain⟨dst,op,ty,pos,after,guard⟩:=o
 cases op
 case slice t x lo hi mx =>
  cases mx with
  |none =>
   simp only[exec1]
   split
   ·split
    ·simp only[ofOpt_look]
    ·rfl
   ·split
    ·simp only[ofOpt_look]
    ·rfl
   ·split
    ·simp only[ofOpt_look]
    ·rfl
   ·split
    ·simp only[ofOpt_look]
    ·rfl
   ·rfl
  |some m=>simp only[exec1,ofOpt_look]
 case binOp op t x y yt =>
  simp only[exec1]
  split
  ·split
   ·split <;> rfl
   ·split
    ·rfl
    ·unfold eqOr;split
     ·rfl
     ·exact hg
  ·rfl
 case index t x i =>
  simp only[exec1]
  split
  ·split
   ·rfl
   ·exact hg
  ·rfl
 case convert s d x =>
  simp only[exec1]
  split
  ·split
   ·rfl
   ·exact hg
  ·rfl
 all_goals first
  | (simp[pureO]at h;done)
  | (simp only[exec1,ofOpt_look];done)
  |exact hg
  | (simp only[exec1];split <;> first | (simp only[ofOpt_look];done) |rfl)
theorem pure_lookV{f:T AV}{S S':St}{o:Oper}(h:pureO o=true):lookV E ops o f S=lookV E ops o f S':=by
 have e:∀S,lookV E ops o f S=match wantedA ops o f with |none=>none |some false=>some (.tup []) |some true=>(exec1 E f S o).look:=fun S=>by
  unfold lookV
  cases wantedA ops o f with
  |none=>rfl
  |some b =>
   cases b with
   |false=>rfl
   |true=>dsimp only;cases exec1 E f S o <;> rfl
 rw[e S,e S',pure_look h]
structure Look where
 idx:Nat
 o:Oper
 f:T AV
 a:AV
def recheck(E:Env)(ops:Array Oper)(m:Nat)(S:St)(l:Look):Bool:=m.testBit l.idx || pureO l.o || (match lookV E ops l.o l.f S with
 |some b=>beqA l.a b
 |none=>false)
def drun(E:Env)(callK:CallK)(n:Nat)(ops:Array Oper)(ms:List Nat)(fb:Fr):List Nat→Fr→St→List Look→O
 | [],f,S,_=>.out .normal f S
 |i :: r,f,S,L=>match ops[i]? with
  |none=>.fail
  |some o=>if isLook o then(match lookV E ops o f.tmps S with
    |some a=>if okD n o.dst then drun E callK n ops ms fb r (putT f o.dst a) S (⟨i,o,f.tmps,a⟩ :: L)else .fail
    |none=>.fail)
   else(match stepR E callK ops o f.tmps S with
    |.val a S'=>if okD n o.dst && L.all (recheck E ops (ms.getD i 0) S')then drun E callK n ops ms fb r (putT f o.dst a) S' L else .fail
    |.pan a S'=>.out (.pan a) fb S'
    |_=>.fail)
def LSub(E:Env)(ops:Array Oper)(L' L:List Look):Prop:=∀l'∈L',∃l∈L,l.idx=l'.idx∧l.a=l'.a∧pureO l.o=pureO l'.o∧∀S,lookV E ops l.o l.f S=lookV E ops l'.o l'.f S
theorem LSub.all{L' L:List Look}(h:LSub E ops L' L){m:Nat}{S:St}(ha:L.all (recheck E ops m S)=true):L'.all (recheck E ops m S)=true:=by
 rw[List.all_eq_true]at ha ⊢
 intro l' hl'
 obtain⟨l,hl,h1,h2,h4,h3⟩:=h l' hl'
 have:=ha l hl
 unfold recheck at this ⊢
 rw[← h1,← h2,← h3,← h4]
 exact this
theorem LSub.cons{L' L:List Look}(h:LSub E ops L' L)(l:Look):LSub E ops (l :: L') (l :: L):=fun l' hl'=>by
 rcases List.mem_cons.1 hl' with rfl |hl'
 ·exact⟨_,List.mem_cons_self ..,rfl,rfl,rfl,fun _=>rfl⟩
 ·obtain⟨x,hx,r⟩:=h l' hl';exact⟨x,List.mem_cons_of_mem _ hx,r⟩
theorem drun_sub{ms:List Nat}{fb:Fr}:∀(rem:List Nat) (f:Fr) (S:St) (L L':List Look) (R:O),drun E callK n ops ms fb rem f S L=R→R≠.fail→LSub E ops L' L→drun E callK n ops ms fb rem f S L' = R
 | [],f,S,L,L',R,h,hne,hs=>h
 |i :: r,f,S,L,L',R,h,hne,hs=>by
  unfold drun at h ⊢
  split at h
  ·exact absurd h.symm hne
  ·rename_i o ho
   split at h
   ·rename_i hl
    rw[if_pos hl]
    split at h
    ·rename_i a hv
     split at h
     ·rename_i hd
      rw[if_pos hd]
      exact drun_sub r _ S _ _ R h hne (hs.cons _)
     ·exact absurd h.symm hne
    ·exact absurd h.symm hne
   ·rename_i hl
    rw[if_neg hl]
    split at h
    ·rename_i a S' hv
     split at h
     ·rename_i hd
      have hd2:(okD n o.dst && L'.all (recheck E ops (ms.getD i 0) S'))=true:=by
       rw[Bool.and_eq_true]at hd ⊢
       exact⟨hd.1,hs.all hd.2⟩
      rw[if_pos hd2]
      exact drun_sub r _ S' L L' R h hne hs
     ·exact absurd h.symm hne
    ·rename_i a S' hv
     exact h
    ·exact absurd h.symm hne
def okP(ops:Array Oper)(ms:List Nat)(j i:Nat):Bool:=(ms.getD i 0).testBit j || (match ops[j]?,ops[i]? with
 |some a,some b=>isLook a && a.apart ops b
 |_,_=>false)
def pairsOk(ops:Array Oper)(ms:List Nat):List Nat→Bool
 | []=>true
 |j :: r=>r.all (fun i=>okP ops ms j i) && pairsOk ops ms r
def Early(E:Env)(callK:CallK)(n:Nat)(ops:Array Oper)(ms:List Nat)(fb:Fr)(rem:List Nat)(f:Fr)(S:St)(L:List Look)(i:Nat)(o:Oper)(R:O):Prop :=
 (isLook o=true∧∃a,lookV E ops o f.tmps S=some a∧okD n o.dst=true∧drun E callK n ops ms fb (rem.erase i) (putT f o.dst a) S L=R) ∨
 (isLook o=false∧((∃a S',stepR E callK ops o f.tmps S=.val a S'∧okD n o.dst=true∧L.all (recheck E ops (ms.getD i 0) S')=true∧drun E callK n ops ms fb (rem.erase i) (putT f o.dst a) S' L=R) ∨
  ∃a S',stepR E callK ops o f.tmps S=.pan a S'∧R=.out (.pan a) fb S'))
theorem bubble{ms:List Nat}{fb:Fr}{i:Nat}{o:Oper}(ho:ops[i]? = some o):∀(rem:List Nat) (f:Fr) (S:St) (L:List Look) (R:O),i∈rem→(∀j∈rem,j≠i→(ms.getD i 0).testBit j=false)→pairsOk ops ms rem=true →
  drun E callK n ops ms fb rem f S L=R→R≠.fail→Early E callK n ops ms fb rem f S L i o R
 | [],f,S,L,R,hi,_,_,_,_=>by cases hi
 |j :: r,f,S,L,R,hi,hfree,hp,h,hne=>by
  by_cases hji:j=i
  ·subst hji
   unfold drun at h
   rw[ho]at h
   simp only at h
   unfold Early
   rw[List.erase_cons_head]
   split at h
   ·rename_i hl
    refine .inl ⟨hl,?_⟩
    split at h
    ·rename_i a hv
     split at h
     ·rename_i hd
      exact⟨a,hv,hd,drun_sub r _ S _ _ R h hne (fun l hl=>⟨l,List.mem_cons_of_mem _ hl,rfl,rfl,rfl,fun _=>rfl⟩)⟩
     ·exact absurd h.symm hne
    ·exact absurd h.symm hne
   ·rename_i hl
    refine .inr ⟨by simpa using hl,?_⟩
    split at h
    ·rename_i a S' hv
     split at h
     ·rename_i hd
      rw[Bool.and_eq_true]at hd
      exact .inl ⟨a,S',hv,hd.1,hd.2,h⟩
     ·exact absurd h.symm hne
    ·rename_i a S' hv
     exact .inr ⟨a,S',hv,h.symm⟩
    ·exact absurd h.symm hne
  ·have hir:i∈r:=(List.mem_cons.1 hi).resolve_left (fun e=>hji e.symm)
   have hbit:=hfree j (List.mem_cons_self ..) hji
   unfold pairsOk at hp
   rw[Bool.and_eq_true]at hp
   have hok:=List.all_eq_true.1 hp.1 i hir
   unfold okP at hok
   rw[hbit,Bool.false_or]at hok
   unfold drun at h
   split at h
   ·exact absurd h.symm hne
   ·rename_i oj hoj
    rw[hoj,ho]at hok
    simp only[Bool.and_eq_true]at hok
    obtain⟨hlj,hap⟩:=hok
    obtain⟨p1,p2,p3⟩:=Oper.apart_spec hap
    rw[if_pos hlj]at h
    split at h
    ·rename_i aj hvj
     split at h
     ·rename_i hdj
      have ih:=bubble ho r (putT f oj.dst aj) S (⟨j,oj,f.tmps,aj⟩ :: L) R hir (fun k hk hki=>hfree k (List.mem_cons_of_mem _ hk) hki) hp.2 h hne
      have hag:agree ops o (putT f oj.dst aj).tmps f.tmps:=agree_put p1
      have hera:(j :: r).erase i=j :: r.erase i:=by rw[List.erase_cons_tail (by simpa using hji)]
      have hswap:∀(a:AV),putT (putT f oj.dst aj) o.dst a=putT (putT f o.dst a) oj.dst aj:=fun a=>putT_comm f p2 aj a
      have back:∀(a:AV) (S':St) (L0:List Look),lookV E ops oj f.tmps S' = some aj→drun E callK n ops ms fb (r.erase i) (putT (putT f oj.dst aj) o.dst a) S' (⟨j,oj,f.tmps,aj⟩ :: L0)=R→drun E callK n ops ms fb (j :: r.erase i) (putT f o.dst a) S' L0=R:=fun a S' L0 hv hd=>by
       have hagj:agree ops oj (putT f o.dst a).tmps f.tmps:=agree_put p3
       unfold drun
       rw[hoj]
       simp only
       rw[if_pos hlj,lookV_congr hagj,hv]
       simp only
       rw[if_pos hdj,← hswap]
       refine drun_sub _ _ _ _ _ R hd hne (fun l hl=>?_)
       rcases List.mem_cons.1 hl with rfl |hl
       ·exact⟨_,List.mem_cons_self ..,rfl,rfl,rfl,fun S=>(lookV_congr hagj).symm⟩
       ·exact⟨l,List.mem_cons_of_mem _ hl,rfl,rfl,rfl,fun _=>rfl⟩
      unfold Early at ih ⊢
      rw[hera]
      rcases ih with⟨hl,a,hv,hd,hrun⟩ | ⟨hl,⟨a,S',hv,hd,hall,hrun⟩ | ⟨a,S',hv,hR⟩⟩
      ·rw[lookV_congr hag]at hv
       exact .inl ⟨hl,a,hv,hd,back a S L hvj hrun⟩
      ·rw[stepR_congr hag]at hv
       rw[List.all_cons,Bool.and_eq_true]at hall
       have hre:=hall.1
       unfold recheck at hre
       simp only[hbit,Bool.false_or]at hre
       cases hpu:pureO oj with
       |true=>exact .inr ⟨hl,.inl ⟨a,S',hv,hd,hall.2,back a S' L ((pure_lookV hpu).trans hvj) hrun⟩⟩
       |false =>
       simp only[hpu,Bool.false_or]at hre
       split at hre
       ·rename_i b hb
        have hb2:lookV E ops oj f.tmps S' = some aj:=by rw[beqA_eq _ _ hre];exact hb
        exact .inr ⟨hl,.inl ⟨a,S',hv,hd,hall.2,back a S' L hb2 hrun⟩⟩
       ·cases hre
      ·rw[stepR_congr hag]at hv
       exact .inr ⟨hl,.inr ⟨a,S',hv,hR⟩⟩
     ·exact absurd h.symm hne
    ·exact absurd h.symm hne
end
end Go.Ax
