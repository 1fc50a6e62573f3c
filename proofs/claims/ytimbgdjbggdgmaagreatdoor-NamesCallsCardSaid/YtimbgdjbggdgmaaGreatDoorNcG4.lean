/- L -/
import Derived.Test.YtimbgdjbggdgmaaGreatDoorNcG3
import Derived.Tactics
import Derived.Recover
set_option linter.unusedVariables false
set_option linter.unusedSimpArgs false
noncomputable section
namespace Go.Ax
open Go.RowKit
inductive R where
 |ret (a:AV) (S:St)
 |pan (a:AV) (S:St)
 |fail
structure Env where
 P:Program
 G:Gl
 F:FuncId→Option Func
 I:FuncId→Option (List AV→St→R):=fun _=>none
 M:TypeId→Nat:=fun _=>0
structure Env.Ok(E:Env):Prop where
 fn:∀k fn,E.F k=some fn→E.P.funcs[k]? = some fn∧(fn.name == "runtime.NumGoroutine")=false∧∃c,fn.body=some c
def ofOpt(S:St):Option AV→OR
 |some a=>.val a S
 |none=>.fail
def ofOptS:Option (AV × St)→OR
 |some (a,S)=>.val a S
 |none=>.fail
def C8(G:Gl)(f:T AV):List (Nat × Operand)→Option (List (Nat × AV))
 | []=>some []
 | (i,x) :: r=>match A6 G f x with
  |some a=>match C8 G f r with
   |some l=>some ((i,a) :: l)
   |none=>none
  |none=>none
def Ej(E:Env)(S:St)(t tx:TypeId)(a b:AV):Option (AV × St):=match E.M t with
 |0=>Ds E.P S t tx a b
 |n+1=>match Jh E.P S t tx (Nat.beq n 1) a b with
  |some r=>some r
  |none=>Ds E.P S t tx a b
def Ct(E:Env)(f:T AV)(S:St)(c:Call)(o:Oper):OR :=
 match c.callee with
 |.builtin .append=>match c.args.toList,c.argTypes.toList with
  | [s,x],[t,tx]=>match A6 E.G f s,A6 E.G f x with
   |some a,some b=>ofOptS (Ej E S t tx a b)
   |_,_=>.fail
  |_,_=>.fail
 |.builtin .copy=>match c.args.toList,c.argTypes.toList with
  | [s,x],[t,_]=>match A6 E.G f s,A6 E.G f x with
   |some a,some b=>ofOptS (oCopy E.P S t a b)
   |_,_=>.fail
  |_,_=>.fail
 |.builtin .len=>match c.args.toList,c.argTypes.toList with
  | [x],[t]=>match A6 E.G f x with
   |some a=>match Eo E.P S t a with
    |some n=>.val (.v (.int .i64 n)) S
    |none=>.fail
   |none=>.fail
  |_,_=>.fail
 |.builtin _=>ground E.P E.G f S o
 |.value fo=>match A6 E.G f fo with
  |some (.fn (.func k) first caps)=>match C9 (A6 E.G f) c.args.toList with
   |some args=>match E.F k with
    |some _=>.enter k (first ++ args ++ caps) S
    |none=>.fail
   |none=>.fail
  |_=>.fail
 |_=>.fail
def V7(E:Env)(f:T AV)(S:St)(c:Call):OR :=
 match c.callee with
 |.value fo=>match A6 E.G f fo with
  |some (.fn fn first caps)=>match C9 (A6 E.G f) c.args.toList with
   |some args=>.dfr fn caps (first ++ args) S
   |none=>.fail
  |_=>.fail
 |_=>.fail
def U7(P:Program)(G:Gl)(f:T AV)(S:St)(o:Oper)(op:BinOp)(t:TypeId)(a b:AV):OR:=match Y7 P op t a b with
 |some r=>.val r S
 |none=>ground P G f S o
theorem eqOr_ne{P:Program}{G:Gl}{f:T AV}{S:St}{o:Oper}{op:BinOp}{t:TypeId}{a b:AV}:(∃r,U7 P G f S o op t a b=.val r S)∨U7 P G f S o op t a b=.fail:=by
 unfold U7
 split
 ·exact .inl ⟨_,rfl⟩
 ·exact Ur
def nJ(E:Env)(f:T AV)(t:TypeId)(x:Operand)(lo hi:Option Operand)(m:Operand):Option AV:=match lo,hi with
 |none,some h=>match A6 E.G f x,A6 E.G f h,A6 E.G f m with
  |some a,some b,some c=>nX E.P t a b c
  |_,_,_=>none
 |_,_=>none
def Bg(E:Env)(f:T AV)(S:St)(o:Oper):OR :=
 match o.op with
 |.move x=>ofOpt S (A6 E.G f x)
 |.assign x=>ofOpt S (A6 E.G f x)
 |.pick c a b=>match A6 E.G f c with
  |some (.v (.bool true))=>ofOpt S (A6 E.G f a)
  |some (.v (.bool false))=>ofOpt S (A6 E.G f b)
  |_=>.fail
 |.alloc e=>ofOptS (Ga E.P S e)
 |.box e x=>match A6 E.G f x with
  |some a=>if a.noTup then .val (.ptr S.next 0) (S.newBox a.cells)else .fail
  |none=>.fail
 |.build t parts=>match C8 E.G f parts.toList with
  |some ps=>ofOpt S (Du E.P t ps)
  |none=>.fail
 |.buildSlice t len parts=>match C8 E.G f parts.toList with
  |some ps=>ofOpt S (Bd E.P t len ps)
  |none=>.fail
 |.load t x=>match A6 E.G f x with
  |some a=>ofOpt S (A8 E.P S t a)
  |none=>.fail
 |.store t x y=>match A6 E.G f x,A6 E.G f y with
  |some a,some b=>match Bl E.P S t a b with
   |some S'=>.skip S'
   |none=>.fail
  |_,_=>.fail
 |.nilCheck x=>match A6 E.G f x with
  |some (.ptr id off)=>.val (.ptr id off) S
  |some (.ep cs)=>.val (.ep cs) S
  |some (.fn (.func k) a b)=>.val (.fn (.func k) a b) S
  |some (.iface t a)=>.val (.iface t a) S
  |_=>.fail
 |.makeInterface t x=>match A6 E.G f x with
  |some a=>ofOpt S (Qh E.P t a)
  |none=>.fail
 |.makeFunc fn first caps=>match C9 (A6 E.G f) first.toList,C9 (A6 E.G f) caps.toList with
  |some a,some b=>.val (.fn fn a b) S
  |_,_=>.fail
 |.makeMap _ none=>ofOptS (some (dU S))
 |.makeSlice t l c=>match A6 E.G f l,A6 E.G f c with
  |some a,some b=>ofOptS (oMake E.P S t a b)
  |_,_=>.fail
 |.slice t x lo hi none=>match A6 E.G f x with
  |some (.sl tok off sz es)=>match C9 (A6 E.G f) lo.toList,C9 (A6 E.G f) hi.toList with
   |some l,some h=>ofOpt S (Rz E.P t (.sl tok off sz es) l.head? h.head?)
   |_,_=>.fail
  |some .nils=>match C9 (A6 E.G f) lo.toList,C9 (A6 E.G f) hi.toList with
   |some l,some h=>ofOpt S (Rz E.P t .nils l.head? h.head?)
   |_,_=>.fail
  |some (.bs id off n0 sz)=>match C9 (A6 E.G f) lo.toList,C9 (A6 E.G f) hi.toList with
   |some l,some h=>ofOpt S (Rz E.P t (.bs id off n0 sz) l.head? h.head?)
   |_,_=>.fail
  |some (.v s)=>match C9 (A6 E.G f) lo.toList,C9 (A6 E.G f) hi.toList with
   |some l,some h=>ofOpt S (Jl E.P t (.v s) l.head? h.head?)
   |_,_=>.fail
  |_=>.fail
 |.slice t x lo hi (some m)=>ofOpt S (nJ E f t x lo hi m)
 |.fieldAddr s x i=>match A6 E.G f x with
  |some a=>ofOpt S (A3 E.P s a i)
  |none=>.fail
 |.field t x i=>match A6 E.G f x with
  |some a=>ofOpt S (Oi E.P t a i)
  |none=>.fail
 |.indexAddr t x i=>match A6 E.G f x,A6 E.G f i with
  |some a,some b=>ofOpt S (Bh E.P t a b)
  |_,_=>.fail
 |.lookup t m k ok=>match A6 E.G f m,A6 E.G f k with
  |some a,some b=>ofOpt S (aX E.P S t a b ok)
  |_,_=>.fail
 |.mapUpdate t m k x=>match A6 E.G f m,A6 E.G f k,A6 E.G f x with
  |some a,some b,some c=>match Na E.P S t a b c with
   |some S'=>.skip S'
   |none=>.fail
  |_,_,_=>.fail
 |.insert t m k x=>match A6 E.G f m,A6 E.G f k,A6 E.G f x with
  |some a,some b,some c=>match Na E.P S t a b c with
   |some S'=>.skip S'
   |none=>.fail
  |_,_,_=>.fail
 |.typeAssert x xt t ok=>match A6 E.G f x with
  |some a=>ofOpt S (W3 E.P t ok a)
  |none=>.fail
 |.extract t i=>match A6 E.G f t with
  |some a=>ofOpt S (D3 a i)
  |none=>.fail
 |.binOp op t x y _=>match A6 E.G f x,A6 E.G f y with
  |some a,some b=>if Ha E.P t a b then(match op with
    |.eql=>.val (.v (.bool false)) S
    |.neq=>.val (.v (.bool true)) S
    |_=>.fail)else match Cv op a b with
    |some r=>.val r S
    |none=>U7 E.P E.G f S o op t a b
  |_,_=>.fail
 |.call c=>Ct E f S c o
 |.defer c=>V7 E f S c
 |.panic x=>match A6 E.G f x with
  |some (.iface t a)=>.pan (.iface t a) S
  |_=>.fail
 |.unOp _ _ _=>ground E.P E.G f S o
 |.convert src dst x=>match A6 E.G f x with
  |some a=>match Mf E.P src dst a with
   |some r=>.val r S
   |none=>ground E.P E.G f S o
  |none=>.fail
 |.index t x i=>match A6 E.G f x,A6 E.G f i with
  |some a,some b=>match K6 E.P t a b with
   |some r=>.val r S
   |none=>ground E.P E.G f S o
  |_,_=>.fail
 |_=>.fail
def OkO(E:Env)(base:Nat)(w0:World)(γ:Gh)(S:St)(w:World)(act:Act)(o:Oper):OR→Prop
 |.val a S'=>∃v w' γ',(execOp act.eval o).run E.P w=.ok (.value v) w'∧SR base w0 γ' S' w'∧Ext γ S w γ' S' w'∧VR γ' w' a v
 |.skip S'=>∃w' γ',(execOp act.eval o).run E.P w=.ok .skip w'∧SR base w0 γ' S' w'∧Ext γ S w γ' S' w'
 |.enter k args S'=>S' = S∧(E.F k).isSome=true∧∃vs:List Value,(execOp act.eval o).run E.P w=.ok (.enter k vs.toArray) w∧VRL γ w args vs
 |.dfr fn caps args S'=>S' = S∧∃cv av:List Value,(execOp act.eval o).run E.P w=.ok (.defer { target:=.fn fn cv.toArray,args:=av.toArray }) w∧VRL γ w caps cv∧VRL γ w args av
 |.pan a S'=>S' = S∧∃v,(execOp act.eval o).run E.P w=.halt (.panic v) w∧VR γ w a v
 |.fail=>True
section
variable {E:Env} {base:Nat} {w0:World} {γ:Gh} {S:St} {w:World} {f:T AV} {act:Act} {o:Oper}
theorem OkO.ofOpt{s:Sem Value}(he:(execOp act.eval o)=(do pure (.value (← s)))){r:Option AV}(h:∀a,r=some a→OkV E.P base w0 γ S w s a S):OkO E base w0 γ S w act o (ofOpt S r):=by
 cases r with
 |none=>trivial
 |some a =>
  obtain⟨v,w',γ',hr,h1,h2,h3⟩:=h a rfl;exact⟨v,w',γ',by rw[he];simp[hr],h1,h2,h3⟩
theorem OkO.ofOptS{s:Sem Value}(he:(execOp act.eval o)=(do pure (.value (← s)))){r:Option (AV × St)}(h:∀a S',r=some (a,S')→OkV E.P base w0 γ S w s a S'):OkO E base w0 γ S w act o (ofOptS r):=by
 cases r with
 |none=>trivial
 |some p =>
  obtain⟨a,S'⟩:=p;obtain⟨v,w',γ',hr,h1,h2,h3⟩:=h a S' rfl;exact⟨v,w',γ',by rw[he];simp[hr],h1,h2,h3⟩
theorem OkO.ofVal{a:AV}{v:Value}(hS:SR base w0 γ S w)(he:(execOp act.eval o).run E.P w=.ok (.value v) w)(hv:VR γ w a v):OkO E base w0 γ S w act o (.val a S):=⟨v,w,γ,he,hS,.refl _ _ _,hv⟩
theorem OkO.ground(hS:SR base w0 γ S w)(hf:FR γ w f act.tmps)(hg:GR γ w E.G)(hs:Op.noSel o.op=true):OkO E base w0 γ S w act o (ground E.P E.G f S o):=by
 rcases Ur (P:=E.P) (G:=E.G) (f:=f) (S:=S) (o:=o)with⟨a,ha⟩ |hfail
 ·obtain⟨_,v,hr,hv⟩:=oQ hf hg hs ha
  rw[ha];exact OkO.ofVal hS hr hv
 ·rw[hfail];trivial
theorem Qy(hf:FR γ w f act.tmps)(hg:GR γ w E.G){xs:List Operand}{as:List AV}(h:C9 (A6 E.G f) xs=some as):VRL γ w as (xs.map act.eval):=by
 obtain⟨h1,h2⟩:=O1 h
 exact⟨by simp[h1],fun k hk hk'=>by
  have:=Ef hf hg (h2 k (by omega) hk)
  simpa using this⟩
theorem Ru(hf:FR γ w f act.tmps)(hg:GR γ w E.G):∀{l:List (Nat × Operand)} {ps:List (Nat × AV)},C8 E.G f l=some ps →
  (l.map fun p=>(p.1,act.eval p.2)).map (·.1)=ps.map (·.1)∧VRL γ w (ps.map (·.2)) ((l.map fun p=>(p.1,act.eval p.2)).map (·.2))
 | [],ps,h=>by injection h with h;subst h;exact⟨rfl,VRL.nil γ w⟩
 | (i,x) :: r,ps,h=>by
  unfold C8 at h
  split at h
  ·rename_i a ha
   split at h
   ·rename_i l hl
    injection h with h;subst h
    obtain⟨h1,h2⟩:=Ru hf hg hl;exact⟨by simp only[Jc2,h1],VRL.cons (Ef hf hg ha) h2⟩
   ·cases h
  ·cases h
theorem Nz(hf:FR γ w f act.tmps)(hg:GR γ w E.G){x:Option Operand}{l:List AV}(h:C9 (A6 E.G f) x.toList=some l):
  (∀a,l.head? = some a→∃v,x.map act.eval=some v∧VR γ w a v)∧(l.head? = none→x.map act.eval=none):=by
 have:=Qy hf hg h
 cases x with
 |none =>
  have hl:l=[]:=List.eq_nil_of_length_eq_zero (by have:=this.1;simpa using this.symm)
  subst hl;exact⟨fun a h=>(by cases h),fun _=>rfl⟩
 |some x =>
  cases l with
  |nil=>have:=this.1;simp at this
  |cons a l =>
   obtain⟨y,ys,hy,hv,_⟩:=this.head;simp at hy;refine⟨fun b hb=>?_,fun h=>by simp at h⟩
   simp at hb;subst hb;exact⟨y,by simp[hy.1],hv⟩
theorem list2{α:Type}{a:Array α}{x y:α}(h:a.toList=[x,y]):a=#[x,y]:=by
 rw[← Array.toArray_toList (xs:=a),h]
theorem list1{α:Type}{a:Array α}{x:α}(h:a.toList=[x]):a=#[x]:=by
 rw[← Array.toArray_toList (xs:=a),h]
theorem vU(hE:E.Ok)(hS:SR base w0 γ S w)(hf:FR γ w f act.tmps)(hg:GR γ w E.G){c:Call}(ho:o.op=.call c):OkO E base w0 γ S w act o (Ct E f S c o):=by
 unfold Ct
 split
 ·rename_i hc
  split
  ·rename_i s x t tx hargs htys
   split
   ·rename_i a b ha hb
    refine OkO.ofOptS (s:=Builtin.append_ c.argTypes o.type (c.args.map act.eval)) (by simp[execOp,ho,resolve,hc,invoke,builtin]) fun r S' hr=>?_
    rw[list2 hargs,list2 htys]
    have:OkV E.P base w0 γ S w (Builtin.append_ #[t,tx] o.type #[act.eval s,act.eval x]) r S':=by
     unfold Ej at hr
     split at hr
     ·exact Vf (ty:=o.type) hS (Ef hf hg ha) (Ef hf hg hb) hr
     ·split at hr
      ·rename_i hm;injection hr with hr;subst hr
       exact dY (ty:=o.type) hS (Ef hf hg ha) (Ef hf hg hb) hm
      ·exact Vf (ty:=o.type) hS (Ef hf hg ha) (Ef hf hg hb) hr
    simpa using this
   ·trivial
  ·trivial
 ·rename_i hc
  split
  ·rename_i s x t tx hargs htys
   split
   ·rename_i a b ha hb
    refine OkO.ofOptS (s:=Builtin.copy_ c.argTypes o.type (c.args.map act.eval)) (by simp[execOp,ho,resolve,hc,invoke,builtin]) fun r S' hr=>?_
    rw[list2 hargs,list2 htys]
    simpa using tI (tx:=tx) (ty:=o.type) hS (Ef hf hg ha) (Ef hf hg hb) hr
   ·trivial
  ·trivial
 ·rename_i hc
  split
  ·rename_i x t hargs htys
   split
   ·rename_i a ha
    split
    ·rename_i n hn
     have:=xW (ty:=o.type) hS (Ef hf hg ha) hn;refine OkO.ofVal hS (v:=goInt n) ?_ (.v _ rfl);simp[execOp,ho,resolve,hc,invoke,builtin,list1 hargs,list1 htys,this]
    ·trivial
   ·trivial
  ·trivial
 ·exact OkO.ground hS hf hg (by rw[ho];rfl)
 ·rename_i fo hc
  split
  ·rename_i k first caps hfo
   split
   ·rename_i args hargs
    split
    ·rename_i fn hfn
     have hv:=Ef hf hg hfo;obtain⟨h1,h2,body,h3⟩:=hE.fn k fn hfn;generalize hq:act.eval fo=q at hv
     cases hv with
     |fn _ _ _ x y hx hy hx1 hy1 =>
     refine⟨rfl,by rw[hfn];rfl,x ++ c.args.toList.map act.eval ++ y,?_,(VRL.append (VRL.append ⟨hx,hx1⟩ (Qy hf hg hargs)) ⟨hy,hy1⟩)⟩
     have h2':¬ fn.name = "runtime.NumGoroutine" := by simpa using h2
     simp[execOp,ho,resolve,hc,hq,Deferred.ofValue,invoke,callFunc,h1,h2',h3]
    ·trivial
   ·trivial
  ·trivial
 ·trivial
theorem pL(hf:FR γ w f act.tmps)(hg:GR γ w E.G){c:Call}(ho:o.op=.defer c):OkO E base w0 γ S w act o (V7 E f S c):=by
 unfold V7
 split
 ·rename_i fo hc
  split
  ·rename_i fn first caps hfo
   split
   ·rename_i args hargs
    have hv:=Ef hf hg hfo;generalize hq:act.eval fo=q at hv
    cases hv with
    |fn _ _ _ x y hx hy hx1 hy1 =>
    refine⟨rfl,y,x ++ c.args.toList.map act.eval,?_,⟨hy,hy1⟩,(VRL.append ⟨hx,hx1⟩ (Qy hf hg hargs))⟩;simp[execOp,ho,resolve,hc,hq,Deferred.ofValue]
   ·trivial
  ·trivial
 ·trivial
theorem vG(hE:E.Ok)(hS:SR base w0 γ S w)(hf:FR γ w f act.tmps)(hg:GR γ w E.G):OkO E base w0 γ S w act o (Bg E f S o):=by
 have ev:∀{x a},A6 E.G f x=some a→VR γ w a (act.eval x):=fun h=>Ef hf hg h
 have hpure:∀{x},(execOp act.eval o)=pure (.value (act.eval x))→OkO E base w0 γ S w act o (ofOpt S (A6 E.G f x)):=fun {x} he=>by
  cases hx:A6 E.G f x with
  |none=>trivial
  |some a=>exact OkO.ofVal hS (by rw[he];rfl) (ev hx)
 unfold Bg
 split
 ·rename_i x ho;exact hpure (by simp[execOp,ho])
 ·rename_i x ho;exact hpure (by simp[execOp,ho])
 ·rename_i c a b ho
  split
  ·rename_i hc
   have hv:=ev hc;generalize hq:act.eval c=q at hv;cases hv;exact hpure (by simp[execOp,ho,hq,asBool])
  ·rename_i hc
   have hv:=ev hc;generalize hq:act.eval c=q at hv;cases hv;exact hpure (by simp[execOp,ho,hq,asBool])
  ·trivial
 ·rename_i e ho;exact OkO.ofOptS (by simp only[execOp,ho]) fun a S' h=>oB hS h
 ·rename_i e x ho
  split
  ·rename_i a ha
   split
   ·rename_i hnt
    have:=W8 (P:=E.P) hS (ev ha) hnt e
    exact OkO.ofOptS (r:=some (.ptr S.next 0,S.newBox a.cells)) (s:=Instr.box e (act.eval x)) (by simp only[execOp,ho]) fun a S' h=>by
     injection h with h;injection h with h1 h2;subst h1;subst h2;exact this
   ·trivial
  ·trivial
 ·rename_i t parts ho
  split
  ·rename_i ps hps
   obtain⟨h1,h2⟩:=Ru hf hg hps;exact OkO.ofOpt (s:=Instr.build t (parts.map fun(i,x)=>(i,act.eval x))) (by simp only[execOp,ho]) fun a h=>oA hS (by simpa using h1) (by simpa using h2) h
  ·trivial
 ·rename_i t len parts ho
  split
  ·rename_i ps hps
   obtain⟨h1,h2⟩:=Ru hf hg hps;exact OkO.ofOpt (s:=Instr.buildSlice t len (parts.map fun(i,x)=>(i,act.eval x))) (by simp only[execOp,ho]) fun a h=>W2 hS (by simpa using h1) (by simpa using h2) h
  ·trivial
 ·rename_i t x ho
  split
  ·rename_i a ha;exact OkO.ofOpt (by simp only[execOp,ho]) fun r h=>tH hS (ev ha) h
  ·trivial
 ·rename_i t x y ho
  split
  ·rename_i a b ha hb
   split
   ·rename_i S' hst
    obtain⟨w',γ',h1,h2,h3⟩:=nW hS (ev ha) (ev hb) hst;exact⟨w',γ',by simp[execOp,ho,h1],h2,h3⟩
   ·trivial
  ·trivial
 ·rename_i x ho
  split
  ·rename_i id off hx
   have hv:=ev hx;have hv':=hv;generalize hq:act.eval x=q at hv hv';cases hv;exact OkO.ofVal hS (by simp[execOp,ho,hq]) hv'
  ·rename_i cs hx
   have hv:=ev hx;have hv':=hv;generalize hq:act.eval x=q at hv hv';cases hv;exact OkO.ofVal hS (by simp[execOp,ho,hq]) hv'
  ·rename_i k a b hx
   have hv:=ev hx;have hv':=hv;generalize hq:act.eval x=q at hv hv';cases hv;exact OkO.ofVal hS (by simp[execOp,ho,hq]) hv'
  ·rename_i t a hx
   have hv:=ev hx;have hv':=hv;generalize hq:act.eval x=q at hv hv';cases hv;exact OkO.ofVal hS (by simp[execOp,ho,hq]) hv'
  ·trivial
 ·rename_i t x ho
  split
  ·rename_i a ha;exact OkO.ofOpt (by simp only[execOp,ho]) fun r h=>nY hS (ev ha) h
  ·trivial
 ·rename_i fn first caps ho
  split
  ·rename_i a b ha hb
   have h1:=Qy hf hg ha;have h2:=Qy hf hg hb;refine OkO.ofVal hS (v:=.func fn (first.map act.eval) (caps.map act.eval)) (by simp[execOp,ho,Instr.makeFunc]) ?_
   have:=VR.fn (γ:=γ) (w:=w) fn a b _ _ h1.1 h2.1 h1.2 h2.2;have e:∀(l:Array Operand),l.map act.eval=(l.toList.map act.eval).toArray:=fun l=>by rw[← Array.toList_map,Array.toArray_toList]
   rw[e,e];exact this
  ·trivial
 ·rename_i t ho
  refine OkO.ofOptS (s:=Instr.makeMap t none) (by simp[execOp,ho]) fun a S' h=>?_
  injection h with h
  have:=dT (P:=E.P) hS t;rw[h]at this;exact this
 ·rename_i t l c ho
  split
  ·rename_i a b ha hb;exact OkO.ofOptS (by simp only[execOp,ho]) fun r S' h=>tG hS (ev ha) (ev hb) h
  ·trivial
 ·rename_i t x lo hi ho
  split
  ·rename_i tok off sz es hx
   split
   ·rename_i l h hl hh
    obtain⟨l1,l2⟩:=Nz hf hg hl;obtain⟨h1,h2⟩:=Nz hf hg hh;exact OkO.ofOpt (s:=Instr.sliceAt t (act.eval x) (lo.map act.eval) (hi.map act.eval) none) (by simp[execOp,ho]) fun r hr=>Ry hS (ev hx) l1 l2 h1 h2 hr
   ·trivial
  ·rename_i hx
   split
   ·rename_i l h hl hh
    obtain⟨l1,l2⟩:=Nz hf hg hl;obtain⟨h1,h2⟩:=Nz hf hg hh;exact OkO.ofOpt (s:=Instr.sliceAt t (act.eval x) (lo.map act.eval) (hi.map act.eval) none) (by simp[execOp,ho]) fun r hr=>Ry hS (ev hx) l1 l2 h1 h2 hr
   ·trivial
  ·rename_i id off n0 sz hx
   split
   ·rename_i l h hl hh
    obtain⟨l1,l2⟩:=Nz hf hg hl;obtain⟨h1,h2⟩:=Nz hf hg hh;exact OkO.ofOpt (s:=Instr.sliceAt t (act.eval x) (lo.map act.eval) (hi.map act.eval) none) (by simp[execOp,ho]) fun r hr=>Ry hS (ev hx) l1 l2 h1 h2 hr
   ·trivial
  ·rename_i s hx
   split
   ·rename_i l h hl hh
    obtain⟨l1,l2⟩:=Nz hf hg hl;obtain⟨h1,h2⟩:=Nz hf hg hh;exact OkO.ofOpt (s:=Instr.sliceAt t (act.eval x) (lo.map act.eval) (hi.map act.eval) none) (by simp[execOp,ho]) fun r hr=>aK hS (ev hx) l1 l2 h1 h2 hr
   ·trivial
  ·trivial
 ·rename_i t x lo hi m ho
  unfold nJ
  cases lo with
  |some l=>trivial
  |none =>
   cases hi with
   |none=>trivial
   |some h =>
    simp only
    split
    ·rename_i a b c hx hh hm
     exact OkO.ofOpt (s:=Instr.sliceAt t (act.eval x) none (some (act.eval h)) (some (act.eval m))) (by simp[execOp,ho]) fun r hr=>iJ hS (ev hx) (ev hh) (ev hm) hr
    ·trivial
 ·rename_i s x i ho
  split
  ·rename_i a ha;exact OkO.ofOpt (by simp only[execOp,ho]) fun r h=>Yr hS (ev ha) h
  ·trivial
 ·rename_i t x i ho
  split
  ·rename_i a ha;exact OkO.ofOpt (by simp only[execOp,ho]) fun r h=>nZ hS (ev ha) h
  ·trivial
 ·rename_i t x i ho
  split
  ·rename_i a b ha hb;exact OkO.ofOpt (by simp only[execOp,ho]) fun r h=>Yq hS (ev ha) (ev hb) h
  ·trivial
 ·rename_i t m k ok ho
  split
  ·rename_i a b ha hb;exact OkO.ofOpt (by simp only[execOp,ho]) fun r h=>iK hS (ev ha) (ev hb) h
  ·trivial
 ·rename_i t m k x ho
  split
  ·rename_i a b c ha hb hc
   split
   ·rename_i S' hst
    obtain⟨w',γ',h1,h2,h3⟩:=Qw hS (ev ha) (ev hb) (ev hc) hst;exact⟨w',γ',by simp[execOp,ho,h1],h2,h3⟩
   ·trivial
  ·trivial
 ·rename_i t m k x ho
  split
  ·rename_i a b c ha hb hc
   split
   ·rename_i S' hst
    obtain⟨w',γ',h1,h2,h3⟩:=Qw hS (ev ha) (ev hb) (ev hc) hst;exact⟨w',γ',by simp[execOp,ho,h1],h2,h3⟩
   ·trivial
  ·trivial
 ·rename_i x xt t ok ho
  split
  ·rename_i a ha;exact OkO.ofOpt (by simp only[execOp,ho]) fun r h=>iL (xt:=xt) hS (ev ha) h
  ·trivial
 ·rename_i x i ho
  split
  ·rename_i a ha;exact OkO.ofOpt (by simp only[execOp,ho]) fun r h=>dW hS (ev ha) h
  ·trivial
 ·rename_i op t x y yt ho
  split
  ·rename_i a b ha hb
   split
   ·rename_i hn
    split
    ·have:=Zw (ev ha) (ev hb) hn x y .eql (.inl rfl)
     exact OkO.ofVal hS (v:=.bool false) (by
      have e:execOp act.eval o=(do pure (.value (← (do eqGuard .eql t x y (act.eval x) (act.eval y);binOp .eql t (act.eval x) (act.eval y):Sem Value)))):=by simp only[execOp,ho]
      rw[e,Sem.run_bind,this];rfl) (.v _ rfl)
    ·have:=Zw (ev ha) (ev hb) hn x y .neq (.inr rfl)
     exact OkO.ofVal hS (v:=.bool true) (by
      have e:execOp act.eval o=(do pure (.value (← (do eqGuard .neq t x y (act.eval x) (act.eval y);binOp .neq t (act.eval x) (act.eval y):Sem Value)))):=by simp only[execOp,ho]
      rw[e,Sem.run_bind,this];rfl) (.v _ rfl)
    ·trivial
   ·split
    ·rename_i r hr
     obtain⟨z,hz,hv⟩:=iP (P:=E.P) (ev ha) (ev hb) hr t x y
     exact OkO.ofVal hS (v:=z) (by
      have e:execOp act.eval o=(do pure (.value (← (do eqGuard op t x y (act.eval x) (act.eval y);binOp op t (act.eval x) (act.eval y):Sem Value)))):=by simp only[execOp,ho]
      rw[e,Sem.run_bind,hz];rfl) hv
    ·unfold U7
     split
     ·rename_i r hr
      obtain⟨z,hz,hv⟩:=pA (P:=E.P) (ev ha) (ev hb) hr x y
      exact OkO.ofVal hS (v:=z) (by
       have e:execOp act.eval o=(do pure (.value (← (do eqGuard op t x y (act.eval x) (act.eval y);binOp op t (act.eval x) (act.eval y):Sem Value)))):=by simp only[execOp,ho]
       rw[e,Sem.run_bind,hz];rfl) hv
     ·exact OkO.ground hS hf hg (by rw[ho];rfl)
  ·trivial
 ·rename_i c ho;exact vU hE hS hf hg ho
 ·rename_i c ho;exact pL hf hg ho
 ·rename_i x ho
  split
  ·rename_i t a hx
   have hv:=ev hx;have hv':=hv;generalize hq:act.eval x=q at hv hv';cases hv;exact⟨rfl,_,by simp[execOp,ho,hq,Instr.panic],hv'⟩
  ·trivial
 ·rename_i ho;exact OkO.ground hS hf hg (by rw[ho];rfl)
 ·rename_i src dst x ho
  split
  ·rename_i a ha
   split
   ·rename_i r hr
    exact OkO.ofOpt (r:=some r) (s:=convert src dst (act.eval x)) (by simp only[execOp,ho]) fun a h=>by
     injection h with h;subst h;exact dX hS (ev ha) hr
   ·exact OkO.ground hS hf hg (by rw[ho];rfl)
  ·trivial
 ·rename_i t x i ho
  split
  ·rename_i a b ha hb
   split
   ·rename_i r hr
    obtain⟨z,hz,hv⟩:=aL (P:=E.P) (ev ha) (ev hb) hr;exact OkO.ofVal hS (v:=z) (by simp[execOp,ho,hz]) hv
   ·exact OkO.ground hS hf hg (by rw[ho];rfl)
  ·trivial
 ·trivial
end
end Go.Ax
noncomputable section
namespace Go.Ax
open Go.RowKit
structure Dfr where
 fn:Fn
 caps:List AV
 args:List AV
structure Fr where
 tmps:T AV
 dfr:List Dfr
inductive Ex where
 |normal
 |exit (id:Nat)
 |ret
 |pan (a:AV)
inductive O where
 |out (e:Ex) (f:Fr) (S:St)
 |fail
abbrev Dk:=FuncId→List AV→St→R
def DfrR(γ:Gh)(w:World)(d:Dfr)(m:Deferred):Prop:=∃cv av:List Value,m={ target:=.fn d.fn cv.toArray,args:=av.toArray }∧VRL γ w d.caps cv∧VRL γ w d.args av
def iD(γ:Gh)(w:World):List Dfr→List Deferred→Prop
 | [],[]=>True
 |d :: ds,m :: ms=>DfrR γ w d m∧iD γ w ds ms
 |_,_=>False
theorem iD.mono{γ γ':Gh}{w w':World}(e:Ev γ w γ' w'):∀{ds:List Dfr} {ms:List Deferred},iD γ w ds ms→iD γ' w' ds ms
 | [],[],_=>trivial
 |d :: ds,m :: ms,h=>⟨by obtain⟨cv,av,h1,h2,h3⟩:=h.1;exact⟨cv,av,h1,h2.mono e,h3.mono e⟩,iD.mono e h.2⟩
 | [],_ :: _,h=>h
 |_ :: _,[],h=>h
structure AR(γ:Gh)(w:World)(n:Nat)(f:Fr)(act:Act):Prop where
 tmps:FR γ w f.tmps act.tmps
 size:act.tmps.size=n
 dfr:iD γ w f.dfr act.defers
theorem AR.mono{γ γ':Gh}{w w':World}(e:Ev γ w γ' w'){n:Nat}{f:Fr}{act:Act}(h:AR γ w n f act):AR γ' w' n f act:=⟨h.tmps.mono e,h.size,h.dfr.mono e⟩
def M9(n:Nat)(f:Fr)(dst:Option Tmp)(a:AV)(S:St):O:=match dst with
 |none=>.out .normal f S
 |some d=>if d<n then .out .normal { f with tmps:=f.tmps.set d (some a) } S else .fail
def Bc(ops:Array Oper)(o:Oper)(f:T AV):Option Bool:=match o.guard with
 |none=>some true
 |some (j,want)=>match (ops[j]?).bind (·.dst)with
  |none=>some false
  |some d=>match f.get d with
   |some (.v (.bool b))=>some (b == want)
   |some (.tup _)=>some false
   |_=>none
def Fj(E:Env)(callK:Dk)(n:Nat)(ops:Array Oper)(o:Oper)(f:Fr)(S:St):O :=
 match Bc ops o f.tmps with
 |none=>.fail
 |some false=>M9 n f o.dst (.tup []) S
 |some true=>match Bg E f.tmps S o with
  |.val a S'=>M9 n f o.dst a S'
  |.skip S'=>M9 n f o.dst (.tup []) S'
  |.enter k args S'=>match callK k args S' with
   |.ret a S''=>M9 n f o.dst a S''
   |.pan a S''=>.out (.pan a) f S''
   |.fail=>.fail
  |.dfr fn caps args S'=>M9 n { f with dfr:=⟨fn,caps,args⟩ :: f.dfr } o.dst (.tup []) S'
  |.pan a S'=>.out (.pan a) f S'
  |.fail=>.fail
def Lands(γ':Gh)(Q:Exit→Act→World→Prop)(act':Act)(w':World):Ex→Prop
 |.normal=>Q .normal act' w'
 |.exit id=>Q (.exit id) act' w'
 |.ret=>Q .ret act' w'
 |.pan a=>∀v,VR γ' w' a v→Q (.panic [{ v,recovered:=false }]) act' w'
def L8(base:Nat)(w0:World)(n:Nat)(γ:Gh)(S:St)(w:World)(Q:Exit→Act→World→Prop):O→Prop
 |.out e f' S'=>∀γ' act' w',SR base w0 γ' S' w'→Ext γ S w γ' S' w'→AR γ' w' n f' act'→Lands γ' Q act' w' e
 |.fail=>False
theorem L8.later{base:Nat}{w0:World}{n:Nat}{γ γ1:Gh}{S S1:St}{w w1:World}{Q:Exit→Act→World→Prop}{r:O}(e:Ext γ S w γ1 S1 w1)(h:L8 base w0 n γ S w Q r):L8 base w0 n γ1 S1 w1 Q r:=by
 cases r with
 |fail=>exact h
 |out x f' S'=>exact fun γ' act' w' h1 h2 h3=>h γ' act' w' h1 (e.trans h2) h3
def Kc(base:Nat)(w0:World)(γ:Gh)(S:St)(w:World)(r:R)(e:Ending)(w':World):Prop :=
 match r with
 |.ret a S'=>∃γ' v,SR base w0 γ' S' w'∧Ext γ S w γ' S' w'∧VR γ' w' a v∧e=.returned v
 |.pan a S'=>∃γ' v,SR base w0 γ' S' w'∧Ext γ S w γ' S' w'∧VR γ' w' a v∧e=.panicked [{ v,recovered:=false }]
 |.fail=>False
def G8(E:Env):Prop :=
 ∀k g,E.I k=some g→∀(base:Nat) (w0:World) args S,g args S≠.fail→∀γ w (vs:List Value),SR base w0 γ S w→GR γ w E.G→VRL γ w args vs→Calls E.P k vs.toArray w (Kc base w0 γ S w (g args S))
def Nm(E:Env)(base:Nat)(w0:World)(callK:Dk):Prop :=
 ∀k args S,callK k args S≠.fail→∀γ w (vs:List Value),SR base w0 γ S w→GR γ w E.G→VRL γ w args vs→(E.F k).isSome=true→Calls E.P k vs.toArray w (Kc base w0 γ S w (callK k args S))
section
variable {E:Env} {base:Nat} {w0:World} {Q:Exit → Act → World → Prop}
theorem Qu{γ:Gh}{S S':St}{w w':World}{γ':Gh}{n:Nat}{f:Fr}{act:Act}{dst:Option Tmp}{a:AV}{v:Value}(hH:L8 base w0 n γ S w Q (M9 n f dst a S'))(hS:SR base w0 γ' S' w')(he:Ext γ S w γ' S' w')(ha:AR γ' w' n f act)(hv:VR γ' w' a v):Q .normal (act.put dst v) w':=by
 unfold M9 at hH
 split at hH
 ·exact hH γ' _ w' hS he ha
 ·rename_i d
  split at hH
  ·rename_i hd
   refine hH γ' _ w' hS he ⟨?_,by simp[Act.put,ha.size],ha.dfr⟩
   exact ha.tmps.put (some d) n ha.size.symm hv (fun d' hd'=>by injection hd' with hd';subst hd';exact hd)
  ·exact hH.elim
theorem U8{γ:Gh}{w:World}{n:Nat}{f:Fr}{act:Act}{ops:Array Oper}{o:Oper}(ha:AR γ w n f act){b:Bool}(h:Bc ops o f.tmps=some b):Region.wanted o (yielded ops act.tmps)=b:=by
 unfold Bc at h;unfold Region.wanted
 split at h
 ·rename_i hg;injection h with h;subst h;rw[hg]
 ·rename_i j want hg
  rw[hg]
  show(yielded ops act.tmps j == some want)=b
  unfold yielded
  split at h
  ·rename_i hd;injection h with h;subst h;rw[hd];rfl
  ·rename_i d hd
   rw[hd]
   have key:∀a,f.tmps.get d=some a→∃v,act.tmps[d]? = some v∧VR γ w a v:=fun a hda=>by
    obtain⟨h1,h2⟩:=ha.tmps d a hda;exact⟨act.tmps[d],Jc6 h1,by simpa[h1]using h2⟩
   split at h
   ·rename_i bb hb
    injection h with h;subst h
    obtain⟨v,hv,hr⟩:=key _ hb;cases hr;simp[hv]
   ·rename_i vs hb
    injection h with h;subst h
    obtain⟨v,hv,hr⟩:=key _ hb;cases hr;simp[hv]
   ·cases h
theorem P1(hE:E.Ok){callK:Dk}(hC:Nm E base w0 callK){γ:Gh}{S:St}{w:World}{n:Nat}{ops:Array Oper}{o:Oper}{f:Fr}{act:Act}(hS:SR base w0 γ S w)(ha:AR γ w n f act)(hg:GR γ w E.G)
  {K:Act→World→Prop} (hH:L8 base w0 n γ S w (fun x a w=>match x with |.normal=>K a w |x=>Q x a w) (Fj E callK n ops o f S)) :
  if Region.wanted o (yielded ops act.tmps)then o.wp E.P act w K Q else K (act.put o.dst undef) w:=by
 unfold Fj at hH
 split at hH
 ·exact hH.elim
 ·rename_i hw
  rw[U8 ha hw,if_neg (by simp)]
  exact Qu (v:=undef) hH hS (.refl _ _ _) ha (by have:=VR.tup (γ:=γ) (w:=w) [] [] rfl (fun k h=>by cases h);exact this)
 ·rename_i hw
  rw[U8 ha hw,if_pos rfl];have hex:=vG (o:=o) hE hS ha.tmps hg;have hund:∀{γ':Gh} {w':World},VR γ' w' (.tup []) undef:=fun {γ'} {w'}=>by have:=VR.tup (γ:=γ') (w:=w') [] [] rfl (fun k h=>by cases h);exact this
  unfold Oper.wp
  split at hH
  ·rename_i a S' he
   rw[he]at hex;obtain⟨v,w',γ',hr,h1,h2,h3⟩:=hex;rw[hr];exact Qu hH h1 h2 (ha.mono h2.ev) h3
  ·rename_i S' he
   rw[he]at hex;obtain⟨w',γ',hr,h1,h2⟩:=hex;rw[hr];exact Qu hH h1 h2 (ha.mono h2.ev) hund
  ·rename_i k args S' he
   rw[he]at hex;obtain⟨rfl,hF,vs,hr,h3⟩:=hex;rw[hr];have hne:callK k args S'≠.fail:=fun e=>by rw[e]at hH;exact hH.elim
   refine(hC k args S' hne γ w vs hS hg h3 hF).mono fun e w' hret=>?_
   unfold Kc at hret
   split at hret
   ·rename_i a S'' hk
    rw[hk]at hH;obtain⟨γ',v,k1,k2,k3,rfl⟩:=hret;exact Qu hH k1 k2 (ha.mono k2.ev) k3
   ·rename_i a S'' hk
    rw[hk]at hH;obtain⟨γ',v,k1,k2,k3,rfl⟩:=hret;exact hH γ' act w' k1 k2 (ha.mono k2.ev) v k3
   ·exact hret.elim
  ·rename_i fn caps args S' he
   rw[he]at hex;obtain⟨rfl,cv,av,hr,h1,h2⟩:=hex;rw[hr];exact Qu (act:={ act with defers:={ target:=.fn fn cv.toArray,args:=av.toArray } :: act.defers }) hH hS (.refl _ _ _) ⟨ha.tmps,ha.size,⟨cv,av,rfl,h1,h2⟩,ha.dfr⟩ hund
  ·rename_i a S' he
   rw[he]at hex;obtain⟨rfl,v,hr,hv⟩:=hex;rw[hr];exact hH γ act w hS (.refl _ _ _) ha v hv
  ·exact hH.elim
def dB(E:Env)(callK:Dk)(n:Nat)(ops:Array Oper):List Oper→Fr→St→O
 | [],f,S=>.out .normal f S
 |o :: rest,f,S=>match Fj E callK n ops o f S with
  |.out .normal f' S'=>dB E callK n ops rest f' S'
  |r=>r
theorem Vv(hE:E.Ok){callK:Dk}(hC:Nm E base w0 callK){n:Nat}{ops:Array Oper}:∀(l:List Oper) (γ:Gh) (S:St) (w:World) (f:Fr) (act:Act),SR base w0 γ S w→AR γ w n f act→GR γ w E.G →
  L8 base w0 n γ S w Q (dB E callK n ops l f S)→wpList E.P ops Q l act w
 | [],γ,S,w,f,act,hS,ha,hg,hH=>hH γ act w hS (.refl _ _ _) ha
 |o :: rest,γ,S,w,f,act,hS,ha,hg,hH=>by
  refine wpList_step fun K hK=>?_
  refine P1 hE hC hS ha hg ?_;unfold dB at hH
  split at hH
  ·rename_i f' S' hs
   rw[hs];intro γ' act' w' h1 h2 h3;exact hK _ _ (Vv hE hC rest γ' S' w' f' act' h1 h3 (hg.mono h2.ev) (hH.later h2))
  ·rename_i r hr
   cases hst:Fj E callK n ops o f S with
   |fail=>rw[hst]at hH;exact hH.elim
   |out e f' S' =>
    rw[hst]at hH;intro γ' act' w' h1 h2 h3;have:=hH γ' act' w' h1 h2 h3
    cases e with
    |normal=>exact absurd hst (hr f' S')
    |exit id=>exact this
    |ret=>exact this
    |pan a=>exact this
end
abbrev Lj:=Dk→Nat→Array Oper→Fr→St→O
def Sg(E:Env)(D:Lj):Prop :=
 ∀(base:Nat) (w0:World) (Q:Exit→Act→World→Prop) (callK:Dk),Nm E base w0 callK→∀(n id:Nat) (ops:Array Oper) (γ:Gh) (S:St) (w:World) (f:Fr) (act:Act),SR base w0 γ S w→AR γ w n f act→GR γ w E.G →
  L8 base w0 n γ S w Q (D callK n ops f S)→(Code.region id ops true).wp E.P Q act w
def Dt(E:Env)(D:Lj)(rec:Nat→Code→Fr→St→O)(callK:Dk)(n:Nat)(c:Code)(f:Fr)(S:St):O :=
 match c with
 |.skip=>.out .normal f S
 |.label _=>.out .normal f S
 |.region _ ops false=>dB E callK n ops ops.toList f S
 |.region _ ops true=>D callK n ops f S
 |.seq a b=>match rec n a f S with
  |.out .normal f' S'=>rec n b f' S'
  |r=>r
 |.cond c x y=>match A6 E.G f.tmps c with
  |some (.v (.bool true))=>rec n x f S
  |some (.v (.bool false))=>rec n y f S
  |_=>.fail
 |.block id c=>match rec n c f S with
  |.out (.exit id') f' S'=>if id' = id then .out .normal f' S' else .out (.exit id') f' S'
  |r=>r
 |.loop c=>match rec n c f S with
  |.out .normal f' S'=>rec n (.loop c) f' S'
  |r=>r
 |.exit id=>.out (.exit id) f S
 |.ret=>.out .ret f S
 |_=>.fail
def Ba(E:Env)(f:T AV)(S:St):List ResultVar→Option (List AV)
 | []=>some []
 |.tmp t :: r=>match f.get t,Ba E f S r with
  |some a,some l=>some (a :: l)
  |_,_=>none
 |.cell x t :: r=>match f.get x with
  |some a=>match A8 E.P S t a,Ba E f S r with
   |some a,some l=>some (a :: l)
   |_,_=>none
  |none=>none
def D8:List AV→AV
 | [a]=>a
 |l=>.tup l
def Cx:List AV→Nat→T AV
 | [],_=>.leaf
 |a :: r,k=>(Cx r (k+1)).set k (some a)
def Y1(o:Oper):Option Tmp:=match o.op with
 |.call c=>match c.callee with
  |.builtin .recover=>if o.guard.isNone then o.dst else none
  |_=>none
 |_=>none
inductive DR where
 |ok (met:Bool) (S:St)
 |fail
def vM(E:Env)(rec:Nat→Code→Fr→St→O)(k:FuncId)(args:List AV)(S:St)(m:Option AV):DR :=
 match E.F k with
 |none=>.fail
 |some fn=>match fn.body with
  |some (.seq (.region _ ops false) rest)=>match ops.toList with
   | [o]=>match Y1 o with
    |some d=>if args.length≤fn.ntmps∧d<fn.ntmps then
      match rec fn.ntmps rest ⟨(Cx args 0).set d (some (m.getD (.v .nilIface))),[]⟩ S with
      |.out e f' S'=>match f'.dfr,fn.results.toList,e with
       | [],[],.normal=>.ok m.isSome S'
       | [],[],.ret=>.ok m.isSome S'
       |_,_,_=>.fail
      |.fail=>.fail
     else .fail
    |none=>.fail
   |_=>.fail
  |_=>.fail
def Kl(E:Env)(fn:Func)(f:T AV)(S:St):R:=match Ba E f S fn.results.toList with
 |some l=>.ret (D8 l) S
 |none=>.fail
def Q7(E:Env)(rec:Nat→Code→Fr→St→O)(fn:Func):O→R
 |.out e f S=>match f.dfr with
  | []=>match e with
   |.normal=>Kl E fn f.tmps S
   |.ret=>Kl E fn f.tmps S
   |.pan a=>.pan a S
   |_=>.fail
  | [⟨.func k,caps,args⟩]=>match e with
   |.normal=>match vM E rec k (args ++ caps) S none with
    |.ok _ S'=>Kl E fn f.tmps S'
    |.fail=>.fail
   |.ret=>match vM E rec k (args ++ caps) S none with
    |.ok _ S'=>Kl E fn f.tmps S'
    |.fail=>.fail
   |.pan a=>match vM E rec k (args ++ caps) S (some a)with
    |.ok _ S'=>Kl E fn f.tmps S'
    |.fail=>.fail
   |_=>.fail
  |_=>.fail
 |.fail=>.fail
def Jc(E:Env)(rec:Nat→Code→Fr→St→O):Dk:=fun k args S =>
 match E.I k with
 |some g=>g args S
 |none=>match E.F k with
  |none=>.fail
  |some fn=>match fn.body with
   |none=>.fail
   |some c=>if args.length≤fn.ntmps then Q7 E rec fn (rec fn.ntmps c ⟨Cx args 0,[]⟩ S)else .fail
def run(E:Env)(D:Lj):Nat→Nat→Code→Fr→St→O :=
 Nat.rec (fun _ _ _ _=>.fail) (fun _ ih=>Dt E D ih (Jc E ih))
def Rd(E:Env)(D:Lj)(m:Nat):Dk:=Jc E (run E D m)
end Go.Ax
noncomputable section
namespace Go.Ax
open Go.RowKit
def LWp(P:Program)(c:Code)(Q:Exit→Act→World→Prop)(a:Act)(w:World):Prop :=
 ∀(b:Frame) (k:List Item) (cs:List Frame),∃e a' w',Q e a' w'∧Arrives P (lone (b.at a (.code c :: .inLoop c :: k)) cs w) b k cs e a' w'
theorem LWp.loop{P:Program}{c:Code}{Q:Exit→Act→World→Prop}{a:Act}{w:World}(h:LWp P c Q a w):(Code.loop c).wp P Q a w:=fun b k cs=>by
 obtain⟨e,a',w',hq,harr⟩:=h b k cs;exact⟨e,a',w',hq,.of_steps (.one step_loop) harr⟩
theorem LWp.round{P:Program}{c:Code}{Q:Exit→Act→World→Prop}{a:Act}{w:World}(h:c.wp P (Exit.then (LWp P c Q) Q) a w):LWp P c Q a w:=fun b k cs=>by
 obtain⟨e,a₁,w₁,hq,harr⟩:=h b (.inLoop c :: k) cs
 cases e with
 |normal =>
  obtain⟨e₂,a₂,w₂,hq₂,harr₂⟩:=hq b k cs;exact⟨e₂,a₂,w₂,hq₂,.of_steps (Steps.trans harr (.one step_inLoop)) harr₂⟩
 |exit id=>exact⟨_,a₁,w₁,hq,.pass (x:=.inLoop c) rfl (fun _ _=>.inl (by simp)) harr⟩
 |goto l=>exact⟨_,a₁,w₁,hq,.pass (x:=.inLoop c) rfl (fun _ _=>.inl (by simp)) harr⟩
 |ret=>exact⟨_,a₁,w₁,hq,.pass (x:=.inLoop c) rfl (fun _ _=>.inl (by simp)) harr⟩
 |panic ch=>exact⟨_,a₁,w₁,hq,.pass (x:=.inLoop c) rfl (fun _ _=>.inl (by simp)) harr⟩
 |outgrown=>exact⟨_,a₁,w₁,hq,.pass (x:=.inLoop c) rfl (fun _ _=>.inl (by simp)) harr⟩
structure CodeOk(E:Env)(rec:Nat→Code→Fr→St→O):Prop where
 code:∀(base:Nat) (w0:World) (Q:Exit→Act→World→Prop) (n:Nat) (c:Code) (γ:Gh) (S:St) (w:World) (f:Fr) (act:Act),SR base w0 γ S w→AR γ w n f act→GR γ w E.G→L8 base w0 n γ S w Q (rec n c f S)→c.wp E.P Q act w
 loop:∀(base:Nat) (w0:World) (Q:Exit→Act→World→Prop) (n:Nat) (c:Code) (γ:Gh) (S:St) (w:World) (f:Fr) (act:Act),SR base w0 γ S w→AR γ w n f act→GR γ w E.G→L8 base w0 n γ S w Q (rec n (.loop c) f S)→LWp E.P c Q act w
section
variable {E:Env}
theorem lF:∀(l:List AV) (k t:Nat),(Cx l k).get t=if t<k then none else l[t - k]?
 | [],k,t=>by simp[Cx,T.get_leaf]
 |a :: r,k,t=>by
  unfold Cx;rw[T.get_set,lF r (k+1) t]
  by_cases h:t=k
  ·subst h;simp
  ·by_cases h2:t<k
   ·simp[h,h2,show t<k+1 by omega]
   ·rw[if_neg h,if_neg (by omega),if_neg h2,show t - k=(t - (k+1))+1 by omega];rfl
theorem uA{γ:Gh}{w:World}{args:List AV}{vs:List Value}(h:VRL γ w args vs)(n:Nat):FR γ w (Cx args 0) (vs.toArray ++ Array.replicate (n - vs.toArray.size) undef):=fun t a ht=>by
 rw[lF]at ht;simp at ht;obtain⟨y,hy,hv⟩:=h.get ht;obtain⟨hlt,hye⟩:=Jc4.1 hy;refine⟨by simp;omega,?_⟩
 rw[Jd5,Array.getElem?_append_left (by simpa using hlt)]
 simpa[hlt,hye]using hv
def resM(tmps:Array Value):ResultVar→Sem Value
 |.tmp t=>pure (tmps.getD t undef)
 |.cell a t=>do loadVar t (← asAddr (tmps.getD a undef))
theorem Rs{base:Nat}{w0:World}{γ:Gh}{S:St}{w:World}(hS:SR base w0 γ S w){f:T AV}{tmps:Array Value}(hf:FR γ w f tmps):∀{rs:List ResultVar} {l:List AV},Ba E f S rs=some l →
  ∃vs:List Value,(rs.mapM (resM tmps)).run E.P w=.ok vs w∧VRL γ w l vs
 | [],l,h=>by injection h with h;subst h;exact⟨[],rfl,VRL.nil γ w⟩
 |.tmp t :: r,l,h=>by
  unfold Ba at h
  split at h
  ·rename_i a l' ha hl
   injection h with h;subst h
   obtain⟨vs,hv,hr⟩:=Rs hS hf hl;exact⟨_,by simp[List.mapM_cons,resM,hv],VRL.cons (hf t a ha).2 hr⟩
  ·cases h
 |.cell x t :: r,l,h=>by
  unfold Ba at h
  split at h
  ·rename_i a ha
   split at h
   ·rename_i b l' hb hl
    injection h with h;subst h
    obtain⟨vs,hv,hr⟩:=Rs hS hf hl;have hx:=(hf x a ha).2
    have hbe:∃cs,Ca S a=some cs:=by
     unfold A8 at hb
     split at hb
     ·cases hb
     ·rename_i cs hcs;exact⟨cs,hcs⟩
    obtain⟨cs,hcs⟩:=hbe;obtain⟨bb,o,xs,hp,_,_,_⟩:=X6 hS hx hcs;obtain⟨v,hrun,hvr⟩:=dV (P:=E.P) hS hx hb;rw[hp]at hrun;simp[Instr.loadAt,Instr.sureAddr]at hrun;exact⟨v :: vs,by simp[List.mapM_cons,resM,hp,asAddr,hrun,hv],VRL.cons hvr hr⟩
   ·cases h
  ·cases h
theorem sF{base:Nat}{w0:World}{γ:Gh}{S:St}{w:World}(hS:SR base w0 γ S w){f:T AV}{tmps:Array Value}(hf:FR γ w f tmps){fn:Func}{l:List AV}(h:Ba E f S fn.results.toList=some l):
  ∃v,(results fn tmps).run E.P w=.ok v w∧VR γ w (D8 l) v:=by
 obtain⟨vs,hv,hr⟩:=Rs hS hf h
 have e:results fn tmps=(do let vs ← fn.results.mapM (resM tmps);pure (if h:vs.size=1 then vs[0]else .tuple vs)):=by
  unfold results;rfl
 refine⟨if h:vs.toArray.size=1 then vs.toArray[0]else .tuple vs.toArray,?_,?_⟩
 ·rw[e,Array.mapM_eq_mapM_toList]
  simp[hv]
 ·unfold D8
  split
  ·rename_i a
   obtain⟨x,xs,rfl,hx,hxs⟩:=hr.head;have:xs=[]:=List.eq_nil_of_length_eq_zero hxs.1;subst this
   simpa using hx
  ·rename_i l' hne
   have hl:¬ vs.length=1:=fun h1=>by
    rw[hr.1]at h1;obtain⟨a,ha⟩:=List.length_eq_one_iff.1 h1;exact hne a ha
   rw[dif_neg (by simpa using hl)]
   exact .tup l vs hr.1 hr.2
theorem iD.nil_inv{γ:Gh}{w:World}{ms:List Deferred}(h:iD γ w [] ms):ms=[]:=by
 cases ms with
 |nil=>rfl
 |cons m ms=>exact h.elim
theorem uM{base:Nat}{w0:World}{γ:Gh}{S:St}{w:World}(hS:SR base w0 γ S w){f:T AV}{tmps:Array Value}(hf:FR γ w f tmps){fn:Func}(h:Kl E fn f S≠.fail):
  ∃a v,Kl E fn f S=.ret a S∧(results fn tmps).run E.P w=.ok v w∧VR γ w a v:=by
 unfold Kl at h ⊢
 split
 ·rename_i l hl
  obtain⟨v,h1,h2⟩:=sF hS hf hl;exact⟨_,v,rfl,h1,h2⟩
 ·rename_i hl;rw[hl]at h;exact absurd rfl h
def ModeR(γ:Gh)(w:World):Option AV→FrameMode→FrameMode→Prop
 |none,u,u'=>u=.returning∧u' = .returning
 |some a,u,u'=>∃v,VR γ w a v∧u=.panicking [{ v,recovered:=false }]∧u' = .panicking [{ v,recovered:=true }]
theorem zJ{rec:Nat→Code→Fr→St→O}(hE:E.Ok)(hR:CodeOk E rec)(base:Nat)(w0:World){k:FuncId}{args:List AV}{S S':St}{m:Option AV}{b:Bool}(h:vM E rec k args S m=.ok b S'){γ:Gh}{w:World}{vs:List Value}
  (hS:SR base w0 γ S w) (hg:GR γ w E.G) (hv:VRL γ w args vs) {u u':FrameMode} (hu:ModeR γ w m u u') :
  ∃fn body,E.P.funcs[k]? = some fn∧(fn.name == "runtime.NumGoroutine")=false∧fn.body=some body∧CallsD E.P k vs.toArray u w fun e u2 w'=>∃γ',SR base w0 γ' S' w'∧Ext γ S w γ' S' w'∧(∃v,e=.returned v)∧u2=u':=by
 unfold vM at h
 split at h
 ·cases h
 ·rename_i fn hfn
  obtain⟨h1,h2,_⟩:=hE.fn k fn hfn
  split at h
  ·rename_i id ops rest hbody
   split at h
   ·rename_i o hops
    split at h
    ·rename_i d hd
     split at h
     ·rename_i hlen
      have hops2:ops=#[o]:=list1 hops;subst hops2
      have hrec:o.guard=none∧o.dst=some d∧∃c,o.op=.call c∧c.callee=.builtin .recover:=by
       unfold Y1 at hd
       split at hd
       ·rename_i c hc
        split at hd
        ·rename_i hcal
         split at hd
         ·rename_i hgn
          exact⟨by simpa using hgn,hd,c,hc,hcal⟩
         ·cases hd
        ·cases hd
       ·cases hd
      obtain⟨hgu,hdst,c,hop,hcal⟩:=hrec
      split at h
      ·rename_i e f' S2 hrun
       have hend:f'.dfr=[]∧fn.results.toList=[]∧(e=.normal∨e=.ret)∧S2=S':=by
        split at h
        ·rename_i e1 e2;injection h with _ h3;exact⟨e1,e2,.inl rfl,h3⟩
        ·rename_i e1 e2;injection h with _ h3;exact⟨e1,e2,.inr rfl,h3⟩
        ·cases h
       obtain⟨q1,q2,q3,rfl⟩:=hend;refine⟨fn,_,h1,h2,hbody,callsD_of_wpS h1 hbody fun c₀ cs hc₀=>?_⟩
       refine wpS_seq (wpS_region ?_)
       have hexec:∀(ρ:Operand→Value),(execOp ρ o).run E.P w=.ok .recover w:=fun ρ=>by
        simp[execOp,hop,resolve,hcal,invoke,builtin]
       have hans:∃v cs',(match recoverD (c₀ :: cs)with |some (v,cs')=>(v,cs') |none=>(Value.nilIface,c₀ :: cs))=(v,cs')∧VR γ w (m.getD (.v .nilIface)) v∧cs' = { c₀ with mode:=u' } :: cs:=by
        cases m with
        |none =>
         obtain⟨rfl,rfl⟩:=hu;refine⟨.nilIface,c₀ :: cs,by simp[recoverD,hc₀],.v _ rfl,?_⟩
         rw[← hc₀]
        |some a =>
         obtain⟨v,hv1,rfl,rfl⟩:=hu;exact⟨v,_,by simp only[recoverD,hc₀],hv1,rfl⟩
       obtain⟨v,cs',hm1,hm2,hm3⟩:=hans
       have hgoal:∀(Q:Exit→Act→List Frame→World→Prop) (act:Act),Q .normal (act.put o.dst v) cs' w→wpOpsS E.P #[o] Q (List.range #[o].size) act (c₀ :: cs) w:=fun Q act hQ=>by
        show wpOpsS E.P #[o] Q [0] act (c₀ :: cs) w
        simp only[wpOpsS];have:(#[o]:Array Oper)[0]? = some o:=rfl;rw[this];simp only[Region.wanted,hgu,if_true,hexec]
        cases hrd:recoverD (c₀ :: cs)with
        |none=>rw[hrd]at hm1;injection hm1 with e1 e2;subst e1;subst e2;exact hQ
        |some p=>obtain⟨v2,cs2⟩:=p;rw[hrd]at hm1;injection hm1 with e1 e2;subst e1;subst e2;exact hQ
       refine hgoal _ _ ?_
       show rest.wpS E.P _ _ cs' w
       refine wpS_of_wp (hR.code base w0 _ fn.ntmps rest γ S w ⟨(Cx args 0).set d (some (m.getD (.v .nilIface))),[]⟩ _ hS ⟨?_,?_,(by rw[hdst];exact trivial)⟩ hg ?_)
       ·have:=FR.put (γ:=γ) (w:=w) (f:=Cx args 0) (act:={ tmps:=vs.toArray ++ Array.replicate (fn.ntmps - vs.toArray.size) undef,defers:=[] }) (uA hv fn.ntmps) (some d) fn.ntmps (by have:=hv.1;simp;omega) hm2 (fun d' hd'=>by injection hd' with hd';subst hd';exact hlen.2)
        rw[hdst];exact this
       ·have:=hv.1
        rw[hdst];simp[Act.put];omega
       ·rw[hrun]
        intro γ' act' w' k1 k2 k3;have hd0:act'.defers=[]:=iD.nil_inv (by have:=k3.dfr;rwa [q1]at this)
        have hres:(results fn act'.tmps).run E.P w' = .ok (.tuple #[]) w':=by
         have:fn.results=#[]:=by rw[← Array.toArray_toList (xs:=fn.results),q2]
         simp[results,this]
        rcases q3 with rfl |rfl
        ·exact⟨hd0,u',hm3,_,hres,γ',k1,k2,⟨_,rfl⟩,rfl⟩
        ·exact⟨hd0,u',hm3,_,hres,γ',k1,k2,⟨_,rfl⟩,rfl⟩
      ·cases h
     ·cases h
    ·cases h
   ·cases h
  ·cases h
theorem yP{k:FuncId}{fn:Func}{c:Code}(h1:E.P.funcs[k]? = some fn)(h2:(fn.name == "runtime.NumGoroutine")=false) (h3:fn.body=some c) (caps args:Array Value) (w:World):(invoke (.fn (.func k) caps) args).run E.P w=.ok (.enter k (args ++ caps)) w:=by
 have h2':¬ fn.name = "runtime.NumGoroutine" := by simpa using h2
 simp[invoke,callFunc,h1,h2',h3]
theorem Lz{rec:Nat→Code→Fr→St→O}(hE:E.Ok)(hI:G8 E)(hR:CodeOk E rec)(base:Nat)(w0:World):Nm E base w0 (Jc E rec):=by
 intro k args S hne γ w vs hS hg hv hF;generalize hr:Jc E rec k args S=r at *;unfold Jc at hr
 split at hr
 ·rename_i g hgk
  subst hr;exact hI k g hgk base w0 args S hne γ w vs hS hg hv
 split at hr
 ·exact absurd hr.symm hne
 ·rename_i fn hfn
  obtain⟨h1,h2,_⟩:=hE.fn k fn hfn
  split at hr
  ·exact absurd hr.symm hne
  ·rename_i c hc
   split at hr
   ·rename_i hlen
    refine calls_of_wp_defers h1 hc (hR.code base w0 (bodyPostD E.P fn (Kc base w0 γ S w r)) fn.ntmps c γ S w ⟨Cx args 0,[]⟩ _ hS ⟨uA hv fn.ntmps,by have:=hv.1;simp;omega,trivial⟩ hg ?_)
    generalize rec fn.ntmps c ⟨Cx args 0,[]⟩ S=o at hr
    cases o with
    |fail=>exact absurd hr.symm hne
    |out e f' S' =>
     intro γ' act' w' k1 k2 k3
     have give:∀(γ2:Gh) (S2:St) (w2:World),SR base w0 γ2 S2 w2→Ext γ S w γ2 S2 w2→FR γ2 w2 f'.tmps act'.tmps→Kl E fn f'.tmps S2=r→Leaves E.P fn act'.tmps (Kc base w0 γ S w r) [] .returning w2:=fun γ2 S2 w2 j1 j2 j3 j4=>by
      obtain⟨a,v,g1,g2,g3⟩:=uM (E:=E) (fn:=fn) j1 j3 (by rw[j4];exact hne)
      rw[j4]at g1;subst g1;exact⟨v,g2,γ2,v,j1,j2,g3,rfl⟩
     have dfrd:∀(k2:FuncId) (caps dargs:List AV) (m:Option AV) (u u':FrameMode),f'.dfr=[⟨.func k2,caps,dargs⟩]→ModeR γ' w' m u u'→u≠.run→settle u' = .returning→(match vM E rec k2 (dargs ++ caps) S' m with |.ok _ S2=>Kl E fn f'.tmps S2 |.fail=>.fail)=r →
       Leaves E.P fn act'.tmps (Kc base w0 γ S w r) act'.defers u w':=fun k4 caps dargs m u u' hd hm hu hset hq=>by
      have hdl:=k3.dfr;rw[hd]at hdl
      cases hdef:act'.defers with
      |nil=>rw[hdef]at hdl;exact hdl.elim
      |cons d0 ds =>
       rw[hdef]at hdl;obtain⟨⟨cv,av,hde,hcv,hav⟩,hrest⟩:=hdl;have hds:ds=[]:=iD.nil_inv hrest;subst hds
       split at hq
       ·rename_i b S2 hda
        obtain⟨fn2,body2,p1,p2,p3,p4⟩:=zJ hE hR base w0 hda k1 (hg.mono k2.ev) (hav.append hcv) hm;rw[hde];refine leaves_cons (f:=k4) (args:=av.toArray ++ cv.toArray) hu (yP p1 p2 p3 _ _ _) ?_;have:(av ++ cv).toArray=av.toArray ++ cv.toArray:=by simp
        rw[← this];refine p4.mono ?_;rintro e2 u2 w2 ⟨γ2,j1,j2,⟨v,rfl⟩,rfl⟩
        show Leaves _ _ _ _ [] (settle _) w2
        rw[hset];exact give γ2 S2 w2 j1 (k2.trans j2) (k3.tmps.mono j2.ev) hq
       ·exact absurd hq.symm hne
     unfold Q7 at hr
     split at hr
     ·rename_i e2 f2 S2 heq
      injection heq with q1 q2 q3;subst q1;subst q2;subst q3
      split at hr
      ·rename_i hd
       have hd':act'.defers=[]:=iD.nil_inv (by have:=k3.dfr;rwa [hd]at this)
       split at hr
       ·show Leaves _ _ _ _ act'.defers .returning w'
        rw[hd'];exact give γ' _ w' k1 k2 k3.tmps hr
       ·show Leaves _ _ _ _ act'.defers .returning w'
        rw[hd'];exact give γ' _ w' k1 k2 k3.tmps hr
       ·subst hr
        intro v hvr
        show Leaves _ _ _ _ act'.defers (.panicking [{ v,recovered:=false }]) w'
        rw[hd'];exact⟨γ',v,k1,k2,hvr,rfl⟩
       ·exact absurd hr.symm hne
      ·rename_i k4 caps dargs hd
       split at hr
       ·exact dfrd k4 caps dargs none .returning .returning hd ⟨rfl,rfl⟩ (by simp) rfl hr
       ·exact dfrd k4 caps dargs none .returning .returning hd ⟨rfl,rfl⟩ (by simp) rfl hr
       ·rename_i a
        intro v hvr;exact dfrd k4 caps dargs (some a) _ (.panicking [{ v,recovered:=true }]) hd ⟨v,hvr,rfl,rfl⟩ (by simp) rfl hr
       ·exact absurd hr.symm hne
      ·exact absurd hr.symm hne
     ·cases ‹O.out _ _ _=O.fail›
   ·exact absurd hr.symm hne
theorem rG{D:Lj}{rec:Nat→Code→Fr→St→O}(hE:E.Ok)(hI:G8 E)(hD:Sg E D)(hR:CodeOk E rec):CodeOk E (Dt E D rec (Jc E rec)):=by
 have loop:∀(base:Nat) (w0:World) (Q:Exit→Act→World→Prop) (n:Nat) (c:Code) (γ:Gh) (S:St) (w:World) (f:Fr) (act:Act),SR base w0 γ S w→AR γ w n f act→GR γ w E.G →
   L8 base w0 n γ S w Q (Dt E D rec (Jc E rec) n (.loop c) f S)→LWp E.P c Q act w:=by
  intro base w0 Q n c γ S w f act hS ha hg hH;refine LWp.round (hR.code base w0 _ n c γ S w f act hS ha hg ?_);unfold Dt at hH;simp only at hH
  split at hH
  ·rename_i f' S' hr
   rw[hr];intro γ' act' w' k1 k2 k3;exact hR.loop base w0 Q n c γ' S' w' f' act' k1 k3 (hg.mono k2.ev) (hH.later k2)
  ·rename_i r hr
   cases hst:rec n c f S with
   |fail=>rw[hst]at hH;exact hH.elim
   |out e f' S' =>
    rw[hst]at hH;intro γ' act' w' k1 k2 k3;have:=hH γ' act' w' k1 k2 k3
    cases e with
    |normal=>exact absurd hst (hr f' S')
    |exit id=>exact this
    |ret=>exact this
    |pan a=>exact this
 refine⟨fun base w0 Q n c γ S w f act hS ha hg hH=>?_,loop⟩
 cases c with
 |skip=>exact wp_skip (hH γ act w hS (.refl _ _ _) ha)
 |label l=>exact wp_label (hH γ act w hS (.refl _ _ _) ha)
 |region id ops draw =>
  cases draw with
  |false=>exact wp_region_list (Vv hE (Lz hE hI hR base w0) _ γ S w f act hS ha hg hH)
  |true=>exact hD base w0 Q _ (Lz hE hI hR base w0) n id ops γ S w f act hS ha hg hH
 |seq x y =>
  refine wp_seq (hR.code base w0 _ n x γ S w f act hS ha hg ?_);unfold Dt at hH;simp only at hH
  split at hH
  ·rename_i f' S' hr
   rw[hr];intro γ' act' w' k1 k2 k3;exact hR.code base w0 Q n y γ' S' w' f' act' k1 k3 (hg.mono k2.ev) (hH.later k2)
  ·rename_i r hr
   cases hst:rec n x f S with
   |fail=>rw[hst]at hH;exact hH.elim
   |out e f' S' =>
    rw[hst]at hH;intro γ' act' w' k1 k2 k3;have:=hH γ' act' w' k1 k2 k3
    cases e with
    |normal=>exact absurd hst (hr f' S')
    |exit id=>exact this
    |ret=>exact this
    |pan a=>exact this
 |cond c x y =>
  unfold Dt at hH;simp only at hH
  split at hH
  ·rename_i hc
   have hv:=Ef ha.tmps hg hc;generalize hq:act.eval c=q at hv;cases hv;exact wp_cond_true hq (hR.code base w0 Q n x γ S w f act hS ha hg hH)
  ·rename_i hc
   have hv:=Ef ha.tmps hg hc;generalize hq:act.eval c=q at hv;cases hv;exact wp_cond_false hq (hR.code base w0 Q n y γ S w f act hS ha hg hH)
  ·exact hH.elim
 |block id c =>
  refine wp_block (hR.code base w0 _ n c γ S w f act hS ha hg ?_);unfold Dt at hH;simp only at hH
  split at hH
  ·rename_i id' f' S' hr
   rw[hr];intro γ' act' w' k1 k2 k3
   show if id' = id then Q .normal act' w' else Q (.exit id') act' w'
   split
   ·rename_i he
    rw[if_pos he]at hH;exact hH γ' act' w' k1 k2 k3
   ·rename_i he
    rw[if_neg he]at hH;exact hH γ' act' w' k1 k2 k3
  ·rename_i r hr
   cases hst:rec n c f S with
   |fail=>rw[hst]at hH;exact hH.elim
   |out e f' S' =>
    rw[hst]at hH;intro γ' act' w' k1 k2 k3;have:=hH γ' act' w' k1 k2 k3
    cases e with
    |normal=>exact this
    |exit id'=>exact absurd hst (hr id' f' S')
    |ret=>exact this
    |pan a=>exact this
 |loop c=>exact(loop base w0 Q n c γ S w f act hS ha hg hH).loop
 |exit id=>exact wp_exit (hH γ act w hS (.refl _ _ _) ha)
 |ret=>exact wp_ret (hH γ act w hS (.refl _ _ _) ha)
 |rangeFunc=>exact hH.elim
 |scope=>exact hH.elim
 |goto=>exact hH.elim
 |refuse=>exact hH.elim
theorem M7{D:Lj}(hE:E.Ok)(hI:G8 E)(hD:Sg E D):∀m,CodeOk E (run E D m)
 |0=>⟨fun _ _ _ _ _ _ _ _ _ _ _ _ _ h=>h.elim,fun _ _ _ _ _ _ _ _ _ _ _ _ _ h=>h.elim⟩
 |m+1=>rG hE hI hD (M7 hE hI hD m)
theorem Kx{D:Lj}(hE:E.Ok)(hI:G8 E)(hD:Sg E D)(m:Nat)(base:Nat)(w0:World):Nm E base w0 (Rd E D m):=Lz hE hI (M7 hE hI hD m) base w0
end
end Go.Ax
