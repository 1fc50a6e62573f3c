/- AxA -/
import GoSem.Dispatch
import Derived.Calls
import Derived.Orders
import Derived.Below
import Derived.Laws.AppendOwn
import Derived.Deep.MidRow
import Derived.ArgAppend
import Derived.Deep.AppendSrc
set_option linter.unusedVariables false
set_option linter.unusedSimpArgs false
namespace Go.Ax
open Go.RowKit
inductive AV where
 |v (x:Value)
 |nilp
 |ptr (id off:Nat)
 |ep (cs:List AV)
 |nils
 |sl (tok off sz:Nat) (es:List AV)
 |nilm
 |map (id:Nat)
 |fn (f:Fn) (first caps:List AV)
 |iface (t:TypeId) (x:AV)
 |agg (cs:List AV)
 |tup (vs:List AV)
 |bs (id off n sz:Nat)
 deriving Inhabited
def AV.one:AV→Bool
 |.agg _=>false
 |.tup _=>false
 |_=>true
def AV.cells:AV→List AV
 |.agg cs=>cs
 |x=>[x]
def flat(es:List AV):List AV:=es.flatMap AV.cells
def scalar:Value→Bool
 |.bool _ |.int _ _ |.string _ |.float _ _ |.nilFunc |.nilIface=>true
 |.slice (some _) 0 0=>true
 |_=>false
structure Gh where
 loc:Nat→Option (Nat × Nat)
 im:Nat→Nat→Prop
inductive VR(γ:Gh)(w:World):AV→Value→Prop
 |v (x:Value) (h:scalar x=true):VR γ w (.v x) x
 |nilp:VR γ w .nilp (.pointer none)
 |ptr (id off b s:Nat) (h:γ.loc id=some (b,s)):VR γ w (.ptr id off) (.pointer (some ⟨b,s+off,none⟩))
 |ep (cs:List AV) (b o:Nat) (c:Nat→Value) (h:∀k,k<cs.length→γ.im b (o+k)∧w.cell? ⟨b,o+k,none⟩=some (c k)) (h1:∀x∈cs,x.one=true)
   (hr:∀k (h:k<cs.length),VR γ w cs[k] (c k)):VR γ w (.ep cs) (.pointer (some ⟨b,o,none⟩))
 |nils:VR γ w .nils (.slice none 0 0)
 |sl (tok off sz:Nat) (es:List AV) (b o cap:Nat) (c:Nat→Value) (hsz:0<sz) (hes:∀e∈es,e.cells.length=sz) (h1:∀x∈flat es,x.one=true)
   (h:∀k,k<(flat es).length→γ.im b (o+k)∧w.cell? ⟨b,o+k,none⟩=some (c k)) (hr:∀k (h:k<(flat es).length),VR γ w (flat es)[k] (c k))
   (ht:2≤tok→∃s,γ.loc tok=some (b,s)∧o=s+off) (hf:tok=1→cap=es.length) (hc:es.length≤cap) (hb:∃(arr:Array Value) (T:TypeId) (fr:Nat × Nat),w.heap[b]? = some (Obj.cells arr T fr)∧o+cap*sz≤arr.size) :
   VR γ w (.sl tok off sz es) (.slice (some ⟨b,o,none⟩) es.length cap)
 |nilm:VR γ w .nilm (.map none)
 |map (id b s:Nat) (h:γ.loc id=some (b,s)):VR γ w (.map id) (.map (some b))
 |fn (f:Fn) (first caps:List AV) (x y:List Value) (hx:x.length=first.length) (hy:y.length=caps.length)
   (h1:∀k (h:k<first.length) (h':k<x.length),VR γ w first[k] x[k]) (h2:∀k (h:k<caps.length) (h':k<y.length),VR γ w caps[k] y[k]):VR γ w (.fn f first caps) (.func f x.toArray y.toArray)
 |iface (t:TypeId) (a:AV) (x:Value) (h:VR γ w a x):VR γ w (.iface t a) (.iface t x)
 |agg (cs:List AV) (x:List Value) (hx:x.length=cs.length) (h1:∀a∈cs,a.one=true) (h:∀k (h:k<cs.length) (h':k<x.length),VR γ w cs[k] x[k]):VR γ w (.agg cs) (.agg x.toArray)
 |bs (id off n sz b s cap:Nat) (h:γ.loc id=some (b,s)) (hc:n≤cap) (hsz:0<sz) (hb:∃(arr:Array Value) (T:TypeId) (fr:Nat × Nat),w.heap[b]? = some (Obj.cells arr T fr)∧s+off+cap*sz≤arr.size):VR γ w (.bs id off n sz) (.slice (some ⟨b,s+off,none⟩) n cap)
 |tup (vs:List AV) (x:List Value) (hx:x.length=vs.length) (h:∀k (h:k<vs.length) (h':k<x.length),VR γ w vs[k] x[k]):VR γ w (.tup vs) (.tuple x.toArray)
def VRL(γ:Gh)(w:World)(cs:List AV)(x:List Value):Prop:=x.length=cs.length∧∀k (h:k<cs.length) (h':k<x.length),VR γ w cs[k] x[k]
structure Ev(γ:Gh)(w:World)(γ':Gh)(w':World):Prop where
 loc:∀id x,γ.loc id=some x→γ'.loc id=some x
 im:∀b o,γ.im b o→γ'.im b o
 cell:∀b o v,γ.im b o→w.cell? ⟨b,o,none⟩=some v→w'.cell? ⟨b,o,none⟩=some v
 blk:∀(b:Nat) (arr:Array Value) (T:TypeId) (fr:Nat × Nat),w.heap[b]? = some (Obj.cells arr T fr)→∃arr' fr',w'.heap[b]? = some (Obj.cells arr' T fr')∧arr'.size=arr.size
theorem Ev.refl(γ:Gh)(w:World):Ev γ w γ w:=⟨fun _ _ h=>h,fun _ _ h=>h,fun _ _ _ _ h=>h,fun _ arr _ fr h=>⟨arr,fr,h,rfl⟩⟩
theorem Ev.trans{γ γ1 γ2:Gh}{w w1 w2:World}(h:Ev γ w γ1 w1)(k:Ev γ1 w1 γ2 w2):Ev γ w γ2 w2 :=
 ⟨fun id x e=>k.loc _ _ (h.loc _ _ e),fun b o e=>k.im _ _ (h.im _ _ e),fun b o v e c=>k.cell _ _ _ (h.im _ _ e) (h.cell _ _ _ e c),fun b arr T fr e=>by
  obtain⟨a1,f1,e1,s1⟩:=h.blk _ _ _ _ e
  obtain⟨a2,f2,e2,s2⟩:=k.blk _ _ _ _ e1
  exact⟨a2,f2,e2,s2.trans s1⟩⟩
theorem VR.mono{γ γ':Gh}{w w':World}(e:Ev γ w γ' w'){a:AV}{x:Value}(h:VR γ w a x):VR γ' w' a x:=by
 induction h with
 |v x h=>exact .v x h
 |nilp=>exact .nilp
 |ptr id off b s h=>exact .ptr id off b s (e.loc _ _ h)
 |ep cs b o c h h1 _ ih=>exact .ep cs b o c (fun k hk=>⟨e.im _ _ (h k hk).1,e.cell _ _ _ (h k hk).1 (h k hk).2⟩) h1 ih
 |nils=>exact .nils
 |sl tok off sz es b o cap c hsz hes h1 h _ ht hf hc hb ih =>
  refine .sl tok off sz es b o cap c hsz hes h1 (fun k hk=>⟨e.im _ _ (h k hk).1,e.cell _ _ _ (h k hk).1 (h k hk).2⟩) ih (fun h0=>?_) hf hc ?_
  ·obtain⟨s,hs,ho⟩:=ht h0
   exact⟨s,e.loc _ _ hs,ho⟩
  ·obtain⟨arr,T,fr,ha,hle⟩:=hb
   obtain⟨a1,f1,e1,s1⟩:=e.blk _ _ _ _ ha
   exact⟨a1,T,f1,e1,by omega⟩
 |nilm=>exact .nilm
 |map id b s h=>exact .map id b s (e.loc _ _ h)
 |fn f first caps x y hx hy _ _ ih1 ih2=>exact .fn f first caps x y hx hy ih1 ih2
 |iface t a x _ ih=>exact .iface t a x ih
 |agg cs x hx h1 _ ih=>exact .agg cs x hx h1 ih
 |tup vs x hx _ ih=>exact .tup vs x hx ih
 |bs id off n sz b s cap h hc hsz hb =>
  refine .bs id off n sz b s cap (e.loc _ _ h) hc hsz ?_
  obtain⟨arr,T,fr,ha,hle⟩:=hb
  obtain⟨a1,f1,e1,s1⟩:=e.blk _ _ _ _ ha
  exact⟨a1,T,f1,e1,by omega⟩
theorem VRL.mono{γ γ':Gh}{w w':World}(e:Ev γ w γ' w'){a:List AV}{x:List Value}(h:VRL γ w a x):VRL γ' w' a x:=⟨h.1,fun k h1 h2=>(h.2 k h1 h2).mono e⟩
theorem VRL.nil(γ:Gh)(w:World):VRL γ w [] []:=⟨rfl,fun _ h=>by cases h⟩
theorem VRL.cons{γ:Gh}{w:World}{a:AV}{x:Value}{as:List AV}{xs:List Value}(h:VR γ w a x)(hs:VRL γ w as xs):VRL γ w (a :: as) (x :: xs) :=
 ⟨by simp[hs.1],fun k h1 h2=>by
  cases k with
  |zero=>exact h
  |succ k=>exact hs.2 k (by simpa using h1) (by simpa using h2)⟩
theorem VRL.head{γ:Gh}{w:World}{a:AV}{as:List AV}{xs:List Value}(h:VRL γ w (a :: as) xs):∃x xs',xs=x :: xs'∧VR γ w a x∧VRL γ w as xs':=by
 obtain⟨hl,hk⟩:=h
 cases xs with
 |nil=>simp at hl
 |cons x xs=>exact⟨x,xs,rfl,hk 0 (by simp) (by simp),by simpa using hl,fun k h1 h2=>hk (k+1) (by simpa using h1) (by simpa using h2)⟩
theorem VRL.append{γ:Gh}{w:World}{a1 a2:List AV}{x1 x2:List Value}(h1:VRL γ w a1 x1)(h2:VRL γ w a2 x2):VRL γ w (a1 ++ a2) (x1 ++ x2):=by
 refine⟨by simp[h1.1,h2.1],fun k hk hk'=>?_⟩
 by_cases h:k<a1.length
 ·rw[List.getElem_append_left h,List.getElem_append_left (by rw[h1.1];exact h)]
  exact h1.2 k h _
 ·rw[List.getElem_append_right (by omega),List.getElem_append_right (by rw[h1.1];omega)]
  have:=h2.2 (k - a1.length) (by simp at hk;omega) (by rw[h2.1];simp at hk;omega)
  simpa[h1.1]using this
theorem VRL.drop{γ:Gh}{w:World}{a:List AV}{x:List Value}(n:Nat)(h:VRL γ w a x):VRL γ w (a.drop n) (x.drop n):=by
 refine⟨by simp[h.1],fun k hk hk'=>?_⟩
 rw[List.getElem_drop,List.getElem_drop]
 exact h.2 _ _ _
theorem VRL.take{γ:Gh}{w:World}{a:List AV}{x:List Value}(n:Nat)(h:VRL γ w a x):VRL γ w (a.take n) (x.take n):=by
 refine⟨by simp[h.1],fun k hk hk'=>?_⟩
 rw[List.getElem_take,List.getElem_take]
 exact h.2 _ _ _
theorem VRL.set{γ:Gh}{w:World}{a:List AV}{x:List Value}(h:VRL γ w a x)(n:Nat){b:AV}{y:Value}(hy:VR γ w b y):VRL γ w (a.set n b) (x.set n y):=by
 refine⟨by simp[h.1],fun k hk hk'=>?_⟩
 rw[List.getElem_set,List.getElem_set]
 split
 ·exact hy
 ·exact h.2 _ _ _
theorem VRL.get{γ:Gh}{w:World}{a:List AV}{x:List Value}(h:VRL γ w a x){n:Nat}{b:AV}(hb:a[n]? = some b):∃y,x[n]? = some y∧VR γ w b y:=by
 obtain⟨hn,rfl⟩:=List.getElem?_eq_some_iff.1 hb
 have hx:n<x.length:=by rw[h.1];exact hn
 exact⟨x[n],List.getElem?_eq_getElem hx,h.2 n hn hx⟩
theorem VR.one{γ:Gh}{w:World}{a:AV}{x:Value}(h:VR γ w a x)(h1:a.one=true):x.oneCell' = true:=by
 cases h <;> first |rfl | (simp[AV.one]at h1;done) |skip
 rename_i hs
 cases x <;> first |rfl | (simp[scalar]at hs)
theorem VR.cells{γ:Gh}{w:World}{a:AV}{x:Value}(h:VR γ w a x):VRL γ w a.cells x.cells.toList:=by
 cases h with
 |agg cs x hx h1 h=>exact⟨by simpa[Value.cells,AV.cells]using hx,by simpa[Value.cells,AV.cells]using h⟩
 |v x hs=>cases x <;> first |exact VRL.cons (.v _ hs) (.nil _ _) | (simp[scalar]at hs)
 |ptr id off b s h=>exact VRL.cons (.ptr id off b s h) (.nil _ _)
 |ep cs b o c h h1 hr=>exact VRL.cons (.ep cs b o c h h1 hr) (.nil _ _)
 |sl tok off sz es b o cap c hsz hes h1 h hr ht hf hc hb=>exact VRL.cons (.sl tok off sz es b o cap c hsz hes h1 h hr ht hf hc hb) (.nil _ _)
 |nilp=>exact VRL.cons .nilp (.nil _ _)
 |nils=>exact VRL.cons .nils (.nil _ _)
 |nilm=>exact VRL.cons .nilm (.nil _ _)
 |map id b s h=>exact VRL.cons (.map id b s h) (.nil _ _)
 |fn f first caps x y hx hy h1 h2=>exact VRL.cons (.fn f first caps x y hx hy h1 h2) (.nil _ _)
 |iface t a x h=>exact VRL.cons (.iface t a x h) (.nil _ _)
 |tup vs x hx h=>exact VRL.cons (.tup vs x hx h) (.nil _ _)
 |bs id off n sz b s cap h hc hsz hb=>exact VRL.cons (.bs id off n sz b s cap h hc hsz hb) (.nil _ _)
theorem VR.ones{γ:Gh}{w:World}{a:AV}{x:Value}(h:VR γ w a x)(ht:∀vs,a≠.tup vs):∀c∈a.cells,c.one=true:=by
 cases h with
 |agg cs x hx h1 h=>exact h1
 |tup vs x hx h=>exact absurd rfl (ht vs)
 |_=>intro c hc;simp[AV.cells]at hc;subst hc;rfl
theorem VRL.ones{γ:Gh}{w:World}{a:List AV}{x:List Value}(h:VRL γ w a x)(h1:∀c∈a,c.one=true):∀u∈x,u.oneCell' = true:=fun u hu=>by
 obtain⟨k,hk,rfl⟩:=List.getElem_of_mem hu
 have hk':k<a.length:=by rw[← h.1];exact hk
 exact(h.2 k hk' hk).one (h1 _ (List.getElem_mem hk'))
end Go.Ax
noncomputable section
namespace Go.Ax
open Go.RowKit
inductive D4 where
 |z0
 |z1
 |z2
 |z3
inductive T(α:Type) where
 |leaf
 |node (v:Option α) (c0 c1 c2 c3:T α)
 deriving Inhabited
def dig(n:Nat):D4:=Nat.rec .z0 (fun n _=>Nat.rec .z1 (fun n _=>Nat.rec .z2 (fun _ _=>.z3) n) n) n
def pathF(f:Nat):Nat→List D4:=Nat.rec (fun _=>[]) (fun _ ih n=>Nat.rec [] (fun k _=>dig (Nat.mod k 4) :: ih (Nat.div k 4)) n) f
def path(n:Nat):List D4:=pathF (Nat.succ n) n
theorem dig_inj{m n:Nat}(hm:m<4)(hn:n<4)(h:dig m=dig n):m=n:=by
 match m,hm,n,hn with
 |0,_,0,_=>rfl
 |1,_,1,_=>rfl
 |2,_,2,_=>rfl
 |3,_,3,_=>rfl
 |0,_,1,_=>cases h
 |0,_,2,_=>cases h
 |0,_,3,_=>cases h
 |1,_,0,_=>cases h
 |1,_,2,_=>cases h
 |1,_,3,_=>cases h
 |2,_,0,_=>cases h
 |2,_,1,_=>cases h
 |2,_,3,_=>cases h
 |3,_,0,_=>cases h
 |3,_,1,_=>cases h
 |3,_,2,_=>cases h
theorem pathF_succ(f k:Nat):pathF (f+1) (k+1)=dig (k % 4) :: pathF f (k / 4):=rfl
theorem pathF_zero(f:Nat):pathF (f+1) 0=[]:=rfl
theorem pathF_inj:∀(f g n m:Nat),n<f→m<g→pathF f n=pathF g m→n=m
 |0,_,_,_,h,_,_=>absurd h (Nat.not_lt_zero _)
 |_+1,0,_,_,_,h,_=>absurd h (Nat.not_lt_zero _)
 |f+1,g+1,0,0,_,_,_=>rfl
 |f+1,g+1,0,j+1,_,_,h=>by rw[pathF_zero,pathF_succ]at h;cases h
 |f+1,g+1,k+1,0,_,_,h=>by rw[pathF_zero,pathF_succ]at h;cases h
 |f+1,g+1,k+1,j+1,hn,hm,h=>by
  rw[pathF_succ,pathF_succ]at h
  injection h with h1 h2
  have e1:=dig_inj (Nat.mod_lt _ (by decide)) (Nat.mod_lt _ (by decide)) h1
  have e2:=pathF_inj f g (k / 4) (j / 4) (by omega) (by omega) h2
  omega
theorem path_inj{n m:Nat}(h:path n=path m):n=m:=pathF_inj _ _ n m (Nat.lt_succ_self _) (Nat.lt_succ_self _) h
def T.getP{α:Type}(t:T α):List D4→Option α :=
 T.rec (fun _=>none) (fun v _ _ _ _ i0 i1 i2 i3 p=>List.rec v (fun d r _=>D4.rec i0 i1 i2 i3 d r) p) t
def T.sNa{α:Type}(v:Option α)(c0 c1 c2 c3:T α)(ih:T α→Option α→T α)(x:Option α):T α:=.node v (ih c0 x) c1 c2 c3
def T.sNb{α:Type}(v:Option α)(c0 c1 c2 c3:T α)(ih:T α→Option α→T α)(x:Option α):T α:=.node v c0 (ih c1 x) c2 c3
def T.sNc{α:Type}(v:Option α)(c0 c1 c2 c3:T α)(ih:T α→Option α→T α)(x:Option α):T α:=.node v c0 c1 (ih c2 x) c3
def T.sNd{α:Type}(v:Option α)(c0 c1 c2 c3:T α)(ih:T α→Option α→T α)(x:Option α):T α:=.node v c0 c1 c2 (ih c3 x)
def T.setP{α:Type}(p:List D4):T α→Option α→T α :=
 List.rec (fun t x=>T.rec (.node x .leaf .leaf .leaf .leaf) (fun _ c0 c1 c2 c3 _ _ _ _=>.node x c0 c1 c2 c3) t)
  (fun d _ ih t x=>T.rec (D4.rec T.sNa T.sNb T.sNc T.sNd d none .leaf .leaf .leaf .leaf ih x) (fun v c0 c1 c2 c3 _ _ _ _=>D4.rec T.sNa T.sNb T.sNc T.sNd d v c0 c1 c2 c3 ih x) t) p
def T.get{α:Type}(t:T α)(n:Nat):Option α:=T.getP t (path n)
def T.set{α:Type}(t:T α)(n:Nat)(x:Option α):T α:=T.setP (path n) t x
theorem T.getP_leaf{α:Type}(p:List D4):(T.leaf:T α).getP p=none:=rfl
theorem T.getP_setP{α:Type}:∀(p q:List D4) (t:T α) (x:Option α),(T.setP p t x).getP q=open Classical in if q=p then x else t.getP q
 | [],[],.leaf,x=>by rw[if_pos rfl];rfl
 | [],[],.node ..,x=>by rw[if_pos rfl];rfl
 | [],e :: q,.leaf,x=>by rw[if_neg (by simp)];cases e <;> rfl
 | [],e :: q,.node ..,x=>by rw[if_neg (by simp)];rfl
 |d :: p,[],.leaf,x=>by rw[if_neg (by simp)];cases d <;> rfl
 |d :: p,[],.node ..,x=>by rw[if_neg (by simp)];cases d <;> rfl
 |d :: p,e :: q,.leaf,x=>by
  have ih:=T.getP_setP p q (T.leaf) x
  cases d <;> cases e <;> first
   | (show(T.setP p .leaf x).getP q=_;rw[ih];by_cases h:q=p <;> simp[h,T.getP_leaf])
   | (rw[if_neg (by simp)];rfl)
 |d :: p,e :: q,.node v c0 c1 c2 c3,x=>by
  cases d <;> cases e <;> first
   | (rw[if_neg (by simp)];rfl)
   | (show(T.setP p c0 x).getP q=_;rw[T.getP_setP p q c0 x];by_cases h:q=p <;> simp[h] <;> rfl)
   | (show(T.setP p c1 x).getP q=_;rw[T.getP_setP p q c1 x];by_cases h:q=p <;> simp[h] <;> rfl)
   | (show(T.setP p c2 x).getP q=_;rw[T.getP_setP p q c2 x];by_cases h:q=p <;> simp[h] <;> rfl)
   | (show(T.setP p c3 x).getP q=_;rw[T.getP_setP p q c3 x];by_cases h:q=p <;> simp[h] <;> rfl)
theorem T.setP_comm{α:Type}:∀(p q:List D4) (t:T α) (x y:Option α),p≠q→T.setP p (T.setP q t y) x=T.setP q (T.setP p t x) y
 | [],[],_,_,_,h=>absurd rfl h
 | [],e :: q,.leaf,x,y,_=>by cases e <;> rfl
 | [],e :: q,.node ..,x,y,_=>by cases e <;> rfl
 |d :: p,[],.leaf,x,y,_=>by cases d <;> rfl
 |d :: p,[],.node ..,x,y,_=>by cases d <;> rfl
 |d :: p,e :: q,.leaf,x,y,h=>by
  cases d <;> cases e <;> first
   |rfl
   | (have ih:=T.setP_comm p q (T.leaf) x y (fun e=>h (by rw[e]));first
     | (show T.node _ (T.setP p (T.setP q .leaf y) x) _ _ _=T.node _ (T.setP q (T.setP p .leaf x) y) _ _ _;rw[ih])
     | (show T.node _ _ (T.setP p (T.setP q .leaf y) x) _ _=T.node _ _ (T.setP q (T.setP p .leaf x) y) _ _;rw[ih])
     | (show T.node _ _ _ (T.setP p (T.setP q .leaf y) x) _=T.node _ _ _ (T.setP q (T.setP p .leaf x) y) _;rw[ih])
     | (show T.node _ _ _ _ (T.setP p (T.setP q .leaf y) x)=T.node _ _ _ _ (T.setP q (T.setP p .leaf x) y);rw[ih]))
 |d :: p,e :: q,.node v c0 c1 c2 c3,x,y,h=>by
  cases d <;> cases e <;> first
   |rfl
   | (have ih:=fun t=>T.setP_comm p q t x y (fun e=>h (by rw[e]));first
     | (show T.node _ (T.setP p (T.setP q c0 y) x) _ _ _=T.node _ (T.setP q (T.setP p c0 x) y) _ _ _;rw[ih])
     | (show T.node _ _ (T.setP p (T.setP q c1 y) x) _ _=T.node _ _ (T.setP q (T.setP p c1 x) y) _ _;rw[ih])
     | (show T.node _ _ _ (T.setP p (T.setP q c2 y) x) _=T.node _ _ _ (T.setP q (T.setP p c2 x) y) _;rw[ih])
     | (show T.node _ _ _ _ (T.setP p (T.setP q c3 y) x)=T.node _ _ _ _ (T.setP q (T.setP p c3 x) y);rw[ih]))
theorem T.get_leaf{α:Type}(n:Nat):(T.leaf:T α).get n=none:=rfl
theorem T.get_set{α:Type}(t:T α)(n m:Nat)(x:Option α):(t.set n x).get m=if m=n then x else t.get m:=by
 unfold T.get T.set
 rw[T.getP_setP]
 by_cases h:m=n
 ·rw[if_pos h,if_pos (by rw[h])]
 ·rw[if_neg h,if_neg (fun e=>h (path_inj e))]
theorem T.set_comm{α:Type}(t:T α){n m:Nat}(h:n≠m)(x y:Option α):(t.set m y).set n x=(t.set n x).set m y :=
 T.setP_comm _ _ t x y (fun e=>h (path_inj e))
inductive Cell where
 |box (cs:List AV)
 |tip (m:Nat)
 |mp (es:List (Value × AV))
 deriving Inhabited
structure St where
 next:Nat
 mem:T Cell
 deriving Inhabited
def MapR(γ:Gh)(w:World)(es:List (Value × AV))(ms:List MapEntry):Prop :=
 ms.length=es.length∧∀k (h:k<es.length) (h':k<ms.length),ms[k].key=es[k].1∧VR γ w es[k].2 ms[k].val
def CellR(γ:Gh)(w:World)(b s:Nat):Cell→Prop
 |.box cs=>s=0∧(∀o,¬ γ.im b o)∧(∀c∈cs,c.one=true)∧∃(arr:Array Value) (T:TypeId) (x y:List Value),w.heap[b]? = some (Obj.cells arr T (0,0))∧arr.toList=x ++ y∧VRL γ w cs x
 |.tip m=>∃(arr:Array Value) (T:TypeId),w.heap[b]? = some (Obj.cells arr T (0,0))∧(∀k,γ.im b k→k<s+m)∧s+m≤arr.size
 |.mp es=>s=0∧∃(ms:Array MapEntry) (clock:Nat),w.heap[b]? = some (Obj.map ms clock)∧MapR γ w es ms.toList
structure SR(base:Nat)(w0:World)(γ:Gh)(S:St)(w:World):Prop where
 below:Below base w0 w
 hbase:base≤w.heap.size
 imc:∀b o,γ.im b o→∃v,w.cell? ⟨b,o,none⟩=some v
 fresh:∀id,S.next≤id→γ.loc id=none∧S.mem.get id=none
 pos:2≤S.next
 inb:∀id b s,γ.loc id=some (b,s)→b<w.heap.size
 live:∀id c,S.mem.get id=some c→∃b s,γ.loc id=some (b,s)∧base≤b∧CellR γ w b s c
 inj:∀id id' c c' b s s',S.mem.get id=some c→S.mem.get id' = some c'→γ.loc id=some (b,s)→γ.loc id' = some (b,s')→id=id'
theorem CellR.keep{γ γ':Gh}{w w':World}{b s:Nat}{c:Cell}(h:CellR γ w b s c)(e:Ev γ w γ' w')(hb:w'.heap[b]? = w.heap[b]?)(hi:∀o,γ'.im b o→γ.im b o):CellR γ' w' b s c:=by
 cases c with
 |box cs =>
  obtain⟨h0,h1,h2,arr,T,x,y,ha,hx,hr⟩:=h
  exact⟨h0,fun o ho=>h1 o (hi o ho),h2,arr,T,x,y,hb.trans ha,hx,hr.mono e⟩
 |tip m =>
  obtain⟨arr,T,ha,h1,h2⟩:=h
  exact⟨arr,T,hb.trans ha,fun k hk=>h1 k (hi k hk),h2⟩
 |mp es =>
  obtain⟨h0,ms,clock,ha,h1,h2⟩:=h
  exact⟨h0,ms,clock,hb.trans ha,h1,fun k hk hk'=>⟨(h2 k hk hk').1,(h2 k hk hk').2.mono e⟩⟩
theorem imc_lt{base:Nat}{w0 w:World}{γ:Gh}{S:St}(h:SR base w0 γ S w){b o:Nat}(hi:γ.im b o):b<w.heap.size:=by
 obtain⟨v,hv⟩:=h.imc b o hi
 exact World.block_lt_of_cell? w _ hv
theorem SR.same{base:Nat}{w0 w w':World}{γ:Gh}{S:St}(h:SR base w0 γ S w)(hh:w'.heap=w.heap)(ho:w'.os=w.os)(ht:w'.tape=w.tape)(hu:w'.output=w.output):SR base w0 γ S w'∧Ev γ w γ w':=by
 have hc:∀a,w'.cell? a=w.cell? a:=fun a=>by unfold World.cell?;rw[hh]
 have ev:Ev γ w γ w':=⟨fun _ _ h=>h,fun _ _ h=>h,fun b o v _ hv=>(hc _).trans hv,fun b arr T fr ha=>⟨arr,fr,by rw[hh];exact ha,rfl⟩⟩
 exact⟨⟨⟨ho.trans h.below.os,ht.trans h.below.tape,hu.trans h.below.output,by rw[hh];exact h.below.size,fun k hk=>by rw[hh];exact h.below.block k hk⟩,by rw[hh];exact h.hbase,
  fun b o hi=>by obtain⟨v,hv⟩:=h.imc b o hi;exact⟨v,(hc _).trans hv⟩,h.fresh,h.pos,fun id b s e=>by rw[hh];exact h.inb id b s e,
  fun id c e=>by obtain⟨b,s,h1,h2,h3⟩:=h.live id c e;exact⟨b,s,h1,h2,h3.keep ev (by rw[hh]) (fun _ h=>h)⟩,h.inj⟩,ev⟩
theorem SR.drew{base:Nat}{w0 w:World}{γ:Gh}{S:St}(h:SR base w0 γ S w):SR base w0 γ S w.drew∧Ev γ w γ w.drew:=h.same rfl rfl rfl rfl
def Gh.withIm(γ:Gh)(b s n:Nat):Gh:={ γ with im:=fun b' o=>γ.im b' o∨(b' = b∧s≤o∧o<s+n) }
def Gh.withLoc(γ:Gh)(id b s:Nat):Gh:={ γ with loc:=fun i=>if i=id then some (b,s)else γ.loc i }
theorem alloc_cell{w:World}{o:Obj}{b k:Nat}{v:Value}(h:w.cell? ⟨b,k,none⟩=some v):(w.alloc o).cell? ⟨b,k,none⟩=some v :=
 (World.cell?_of_block (a:=⟨b,k,none⟩) (Below.heap_alloc w o _ (World.block_lt_of_cell? w _ h))).trans h
theorem alloc_new_cell(w:World)(arr:Array Value)(T:TypeId){fr:Nat × Nat}{k:Nat}{v:Value}(h:arr[k]? = some v):(w.alloc (.cells arr T fr)).cell? ⟨w.heap.size,k,none⟩=some v:=by
 unfold World.cell?;rw[heap_alloc_new];simpa using h
theorem ev_alloc(γ:Gh)(w:World)(o:Obj):Ev γ w γ (w.alloc o) :=
 ⟨fun _ _ h=>h,fun _ _ h=>h,fun _ _ _ _ h=>alloc_cell h,fun b arr T fr h=>⟨arr,fr,(Below.heap_alloc w o _ (Array.getElem?_eq_some_iff.1 h).1).trans h,rfl⟩⟩
theorem ev_im(γ:Gh)(w:World)(b s n:Nat):Ev γ w (γ.withIm b s n) w:=⟨fun _ _ h=>h,fun _ _ h=>.inl h,fun _ _ _ _ h=>h,fun b arr T fr h=>⟨arr,fr,h,rfl⟩⟩
theorem ev_loc{γ:Gh}{w:World}{id b s:Nat}(h:γ.loc id=none):Ev γ w (γ.withLoc id b s) w :=
 ⟨fun i x e=>by
  show(if i=id then some (b,s)else γ.loc i)=some x
  rw[if_neg (fun e2=>by subst e2;rw[h]at e;cases e)];exact e,fun _ _ h=>h,fun _ _ _ _ h=>h,fun b arr T fr h=>⟨arr,fr,h,rfl⟩⟩
theorem SR.allocIm{base:Nat}{w0 w:World}{γ:Gh}{S:St}(h:SR base w0 γ S w)(arr:Array Value)(T:TypeId)(n:Nat)(hn:n≤arr.size)(fr:Nat × Nat:=(0,0)):
  SR base w0 (γ.withIm w.heap.size 0 n) S (w.alloc (.cells arr T fr))∧Ev γ w (γ.withIm w.heap.size 0 n) (w.alloc (.cells arr T fr)):=by
 have ev:Ev γ w (γ.withIm w.heap.size 0 n) (w.alloc (.cells arr T fr)):=(ev_alloc γ w _).trans (ev_im γ _ _ _ _)
 refine⟨⟨h.below.alloc h.hbase _,by have:=h.hbase;simp;omega,?_,h.fresh,h.pos,fun id b s e=>by have:=h.inb id b s e;simp;omega,?_,h.inj⟩,ev⟩
 ·rintro b o (hi | ⟨rfl,_,ho⟩)
  ·obtain⟨v,hv⟩:=h.imc b o hi;exact⟨v,alloc_cell hv⟩
  ·exact⟨arr[o]'(by omega),alloc_new_cell w arr T (Array.getElem?_eq_getElem (by omega))⟩
 ·intro id c e
  obtain⟨b,s,h1,h2,h3⟩:=h.live id c e
  have hb:=h.inb id b s h1
  exact⟨b,s,h1,h2,h3.keep ev (Below.heap_alloc w _ _ hb) (fun o ho=>ho.resolve_right (fun⟨e,_⟩=>by omega))⟩
theorem SR.name{base:Nat}{w0 w:World}{γ:Gh}{S:St}(h:SR base w0 γ S w)(b s:Nat)(c:Cell)(hb:base≤b)(hlt:b<w.heap.size)(hc:CellR γ w b s c)
  (hnew:∀id c s',S.mem.get id=some c→γ.loc id≠some (b,s')) :
  SR base w0 (γ.withLoc S.next b s) { next:=S.next+1,mem:=S.mem.set S.next (some c) } w∧Ev γ w (γ.withLoc S.next b s) w:=by
 have hf:=h.fresh S.next (Nat.le_refl _)
 have ev:Ev γ w (γ.withLoc S.next b s) w:=ev_loc hf.1
 have L:∀id,(γ.withLoc S.next b s).loc id=if id=S.next then some (b,s)else γ.loc id:=fun _=>rfl
 refine⟨⟨h.below,h.hbase,h.imc,fun id hid=>?_,Nat.le_succ_of_le h.pos,fun id b' s' e=>?_,fun id c' e=>?_,fun id id' c1 c2 b' s1 s2 e1 e2 l1 l2=>?_⟩,ev⟩
 ·have hid:S.next+1≤id:=hid
  have:=h.fresh id (by omega)
  show(if id=S.next then some (b,s)else γ.loc id)=none∧(S.mem.set S.next (some c)).get id=none
  rw[T.get_set,if_neg (by omega),if_neg (by omega)]
  exact this
 ·rw[L]at e
  split at e
  ·injection e with e;injection e with e1 e2;subst e1;exact hlt
  ·exact h.inb id b' s' e
 ·have e:(S.mem.set S.next (some c)).get id=some c':=e
  rw[T.get_set]at e
  split at e
  ·rename_i hid
   injection e with e;subst e;subst hid
   exact⟨b,s,by rw[L,if_pos rfl],hb,hc.keep ev rfl (fun _ h=>h)⟩
  ·rename_i hid
   obtain⟨b',s',h1,h2,h3⟩:=h.live id c' e
   exact⟨b',s',by rw[L,if_neg hid];exact h1,h2,h3.keep ev rfl (fun _ h=>h)⟩
 ·have e1:(S.mem.set S.next (some c)).get id=some c1:=e1
  have e2:(S.mem.set S.next (some c)).get id' = some c2:=e2
  rw[T.get_set]at e1 e2
  rw[L]at l1 l2
  split at e1 <;> split at e2
  ·omega
  ·rename_i hid hid'
   rw[if_pos hid]at l1;rw[if_neg hid']at l2
   injection l1 with l1;injection l1 with l11 l12;subst l11
   exact absurd l2 (hnew id' c2 s2 e2)
  ·rename_i hid hid'
   rw[if_neg hid]at l1;rw[if_pos hid']at l2
   injection l2 with l2;injection l2 with l21 l22;subst l21
   exact absurd l1 (hnew id c1 s1 e1)
  ·rename_i hid hid'
   rw[if_neg hid]at l1;rw[if_neg hid']at l2
   exact h.inj id id' c1 c2 b' s1 s2 e1 e2 l1 l2
theorem SR.newBox{base:Nat}{w0 w:World}{γ:Gh}{S:St}(h:SR base w0 γ S w)(T:TypeId){cs:List AV}{x:List Value}(hr:VRL γ w cs x)(h1:∀c∈cs,c.one=true):
  SR base w0 (γ.withLoc S.next w.heap.size 0) { next:=S.next+1,mem:=S.mem.set S.next (some (.box cs)) } (w.alloc (.cells x.toArray T)) ∧
  Ev γ w (γ.withLoc S.next w.heap.size 0) (w.alloc (.cells x.toArray T)):=by
 obtain⟨a1,a2⟩:=h.allocIm x.toArray T 0 (Nat.zero_le _)
 have h0:SR base w0 γ S (w.alloc (.cells x.toArray T)):=by
  refine⟨a1.below,a1.hbase,fun b o hi=>a1.imc b o (.inl hi),a1.fresh,a1.pos,a1.inb,fun id c e=>?_,a1.inj⟩
  obtain⟨b,s,l1,l2,l3⟩:=h.live id c e
  exact⟨b,s,l1,l2,l3.keep (ev_alloc γ w _) (Below.heap_alloc w _ _ (h.inb id b s l1)) (fun _ h=>h)⟩
 have key:=h0.name w.heap.size 0 (.box cs) h.hbase (by simp) ⟨rfl,fun o ho=>by have:=imc_lt h ho;omega,h1,x.toArray,T,x,[],heap_alloc_new w _,by simp,hr.mono (ev_alloc γ w _)⟩
  (fun id c s' e l=>by have:=h.inb id _ _ l;omega)
 exact⟨key.1,(ev_alloc γ w _).trans key.2⟩
theorem SR.newMap{base:Nat}{w0 w:World}{γ:Gh}{S:St}(h:SR base w0 γ S w):
  SR base w0 (γ.withLoc S.next w.heap.size 0) { next:=S.next+1,mem:=S.mem.set S.next (some (.mp [])) } (w.alloc (.map #[] 0)) ∧
  Ev γ w (γ.withLoc S.next w.heap.size 0) (w.alloc (.map #[] 0)):=by
 have ev:=ev_alloc γ w (.map #[] 0)
 have h0:SR base w0 γ S (w.alloc (.map #[] 0)):=by
  refine⟨h.below.alloc h.hbase _,by have:=h.hbase;simp;omega,fun b o hi=>?_,h.fresh,h.pos,fun id b s e=>by have:=h.inb id b s e;simp;omega,fun id c e=>?_,h.inj⟩
  ·obtain⟨v,hv⟩:=h.imc b o hi;exact⟨v,alloc_cell hv⟩
  ·obtain⟨b,s,l1,l2,l3⟩:=h.live id c e
   exact⟨b,s,l1,l2,l3.keep ev (Below.heap_alloc w _ _ (h.inb id b s l1)) (fun _ h=>h)⟩
 have key:=h0.name w.heap.size 0 (.mp []) h.hbase (by simp) ⟨rfl,#[],0,heap_alloc_new w _,rfl,fun k hk=>by cases hk⟩ (fun id c s' e l=>by have:=h.inb id _ _ l;omega)
 exact⟨key.1,ev.trans key.2⟩
theorem setCells_block(b:Nat):∀(vs:List Value) (o:Nat) (w:World) (arr:Array Value) (T:TypeId) (fr:Nat × Nat),w.heap[b]? = some (Obj.cells arr T fr) →
  (∃arr',(w.setCells b o vs).heap[b]? = some (Obj.cells arr' T fr)∧arr'.size=arr.size)∧∀k,k≠b→(w.setCells b o vs).heap[k]? = w.heap[k]?
 | [],o,w,arr,T,fr,h=>⟨⟨arr,h,rfl⟩,fun _ _=>rfl⟩
 |v :: r,o,w,arr,T,fr,h=>by
  have hlt:=(Array.getElem?_eq_some_iff.1 h).1
  have h1:(w.setCell ⟨b,o,none⟩ v).heap[b]? = some (Obj.cells (arr.setIfInBounds o v) T fr):=by
   have h':w.heap[b]=.cells arr T fr:=by simpa[Array.getElem?_eq_getElem hlt]using h
   show(w.heap.modify b _)[b]? = _
   rw[Array.getElem?_eq_getElem (by simpa using hlt),Array.getElem_modify_self,h']
   rfl
  obtain⟨⟨arr',ha,hs⟩,hk⟩:=setCells_block b r (o+1) (w.setCell ⟨b,o,none⟩ v) _ T fr h1
  exact⟨⟨arr',ha,by simpa using hs⟩,fun k hne=>(hk k hne).trans (Below.heap_setCell w ⟨b,o,none⟩ v k hne)⟩
theorem setCells_rest(b:Nat):∀(vs:List Value) (o:Nat) (w:World),(w.setCells b o vs).os=w.os∧(w.setCells b o vs).tape=w.tape∧(w.setCells b o vs).output=w.output∧(w.setCells b o vs).heap.size=w.heap.size
 | [],_,_=>⟨rfl,rfl,rfl,rfl⟩
 |v :: r,o,w=>by
  obtain⟨h1,h2,h3,h4⟩:=setCells_rest b r (o+1) (w.setCell ⟨b,o,none⟩ v)
  exact⟨h1,h2,h3,h4.trans (by simp[World.setCell])⟩
theorem below_setCells{B:Nat}{w0 w:World}(h:Below B w0 w)(b o:Nat)(vs:List Value)(hb:B≤b)(hh:∀k,k≠b→(w.setCells b o vs).heap[k]? = w.heap[k]?):Below B w0 (w.setCells b o vs):=by
 obtain⟨h1,h2,h3,h4⟩:=setCells_rest b vs o w
 exact h.trans ⟨h1,h2,h3,by omega,fun k hk=>hh k (by omega)⟩
theorem cells_at{w:World}{b T:Nat}{arr:Array Value}{fr:Nat × Nat}(h:w.heap[b]? = some (Obj.cells arr T fr))(k:Nat):w.cell? ⟨b,k,none⟩=arr[k]?:=by simp[World.cell?,h]
theorem SR.store{base:Nat}{w0 w:World}{γ:Gh}{S:St}(h:SR base w0 γ S w){id b s:Nat}{cs:List AV}(hm:S.mem.get id=some (.box cs))(hl:γ.loc id=some (b,s)){off:Nat}{ys:List AV}{y:List Value}
  (hy:VRL γ w ys y) (h1:∀c∈ys,c.one=true) (hfit:off+ys.length≤cs.length) :
  SR base w0 γ { S with mem:=S.mem.set id (some (.box (cs.take off ++ ys ++ cs.drop (off+ys.length)))) } (w.setCells b (s+off) y)∧Ev γ w γ (w.setCells b (s+off) y):=by
 obtain⟨b2,s2,l1,l2,l3⟩:=h.live id _ hm
 rw[hl]at l1;injection l1 with l1;injection l1 with e1 e2;subst e1;subst e2
 obtain⟨rfl,ho,hone,arr,T,x,y0,ha,hx,hr⟩:=l3
 obtain⟨⟨arr',ha',hs'⟩,hk⟩:=setCells_block b y (0+off) w arr T (0,0) ha
 have hxl:x.length≤arr.size:=by have:=congrArg List.length hx;simp at this;omega
 have hcl:=hr.1
 have hyl:=hy.1
 have ev:Ev γ w γ (w.setCells b (0+off) y):=by
  refine⟨fun _ _ h=>h,fun _ _ h=>h,fun b' o v hi hv=>?_,fun b' arr2 T2 fr2 h2=>?_⟩
  ·by_cases e:b' = b
   ·subst e;exact absurd hi (ho o)
   ·exact(World.cell?_of_block (a:=⟨b',o,none⟩) (hk b' e)).trans hv
  ·by_cases e:b' = b
   ·subst e
    rw[ha]at h2;injection h2 with h2;injection h2 with q1 q2 q3;subst q1;subst q2;subst q3
    exact⟨arr',_,ha',hs'⟩
   ·exact⟨arr2,fr2,(hk b' e).trans h2,rfl⟩
 have G:∀i,(S.mem.set id (some (.box (cs.take off ++ ys ++ cs.drop (off+ys.length))))).get i=if i=id then some (.box (cs.take off ++ ys ++ cs.drop (off+ys.length)))else S.mem.get i:=fun i=>Go.Ax.T.get_set _ _ _ _
 obtain⟨r1,r2,r3,r4⟩:=setCells_rest b y (0+off) w
 refine⟨⟨below_setCells h.below b _ y l2 hk,by rw[r4];exact h.hbase,fun b' o hi=>?_,fun i hi=>?_,h.pos,fun i b' s' e=>by rw[r4];exact h.inb i b' s' e,fun i c e=>?_,fun i i' c1 c2 b' s1 s2 e1 e2 q1 q2=>?_⟩,ev⟩
 ·obtain⟨v,hv⟩:=h.imc b' o hi;exact⟨v,ev.cell b' o v hi hv⟩
 ·have:=h.fresh i hi
  refine⟨this.1,?_⟩
  show(S.mem.set id _).get i=none
  rw[G,if_neg (fun e=>by subst e;rw[hl]at this;cases this.1)]
  exact this.2
 ·have e:(S.mem.set id _).get i=some c:=e
  rw[G]at e
  split at e
  ·rename_i hid
   injection e with e;subst e;subst hid
   refine⟨b,0,hl,l2,rfl,ho,fun c hc=>?_,arr',T,arr'.toList.take cs.length,arr'.toList.drop cs.length,ha',(List.take_append_drop _ _).symm,?_,fun k hk1 hk2=>?_⟩
   ·simp only[List.mem_append]at hc
    rcases hc with(hc |hc) |hc
    ·exact hone c (List.mem_of_mem_take hc)
    ·exact h1 c hc
    ·exact hone c (List.mem_of_mem_drop hc)
   ·simp;omega
   ·have hk3:k<cs.length:=by simp at hk2;omega
    have hk5:k<arr'.toList.length:=by simp;omega
    rw[List.getElem_take]
    have cell:(w.setCells b (0+off) y).cell? ⟨b,k,none⟩=some arr'.toList[k]:=by rw[cells_at ha'];simp
    by_cases hin:off≤k∧k<off+ys.length
    ·have hc:=World.cell?_setCells_in b y (0+off) w (fun j hj=>by rw[cells_at ha];simp;omega) (k - off) (by omega)
     rw[show 0+off+(k - off)=k by omega,cell]at hc
     injection hc with hc
     rw[hc]
     have hv:=(hy.2 (k - off) (by omega) (by omega)).mono ev
     have:(cs.take off ++ ys ++ cs.drop (off+ys.length))[k]=ys[k - off]'(by omega):=by
      rw[List.getElem_append_left (by simp;omega),List.getElem_append_right (by simp;omega)]
      congr 1
      simp;omega
     rw[this];exact hv
    ·have hc:=World.cell?_setCells_out b y (0+off) w ⟨b,k,none⟩ (fun _ _=>by show k<_∨_≤k;omega)
     rw[cell,cells_at ha]at hc
     have hk4:k<arr.size:=by omega
     rw[Array.getElem?_eq_getElem hk4]at hc
     injection hc with hc
     have hxe:arr[k]=x[k]'(by omega):=by
      have h9:arr.toList[k]'(by simpa using hk4)=(x ++ y0)[k]'(by rw[← hx];simpa using hk4):=by simp only[hx]
      rw[List.getElem_append_left (by omega)]at h9
      simpa using h9
     rw[hc,hxe]
     have hv:=(hr.2 k hk3 (by omega)).mono ev
     have:(cs.take off ++ ys ++ cs.drop (off+ys.length))[k]=cs[k]:=by
      by_cases hlt:k<off
      ·rw[List.getElem_append_left (by simp;omega),List.getElem_append_left (by simp;omega),List.getElem_take]
      ·rw[List.getElem_append_right (by simp;omega),List.getElem_drop]
       congr 1
       simp;omega
     rw[this];exact hv
  ·rename_i hid
   obtain⟨b',s',q1,q2,q3⟩:=h.live i c e
   have hbb:b'≠b:=fun eb=>by subst eb;exact hid (h.inj i id c _ b' s' 0 e hm q1 hl)
   exact⟨b',s',q1,q2,q3.keep ev (hk b' hbb) (fun _ h=>h)⟩
 ·have e1:(S.mem.set id _).get i=some c1:=e1
  have e2:(S.mem.set id _).get i' = some c2:=e2
  rw[G]at e1 e2
  have E1:∃c,S.mem.get i=some c:=by
   split at e1
   ·rename_i hq;exact⟨_,hq ▸ hm⟩
   ·exact⟨_,e1⟩
  have E2:∃c,S.mem.get i' = some c:=by
   split at e2
   ·rename_i hq;exact⟨_,hq ▸ hm⟩
   ·exact⟨_,e2⟩
  obtain⟨d1,E1⟩:=E1
  obtain⟨d2,E2⟩:=E2
  exact h.inj i i' d1 d2 b' s1 s2 E1 E2 q1 q2
end Go.Ax
noncomputable section
namespace Go.Ax
open Go.RowKit
structure Ext(γ:Gh)(S:St)(w:World)(γ':Gh)(S':St)(w':World):Prop where
 ev:Ev γ w γ' w'
 next:S.next≤S'.next
 same:∀id,id<S.next→γ'.loc id=γ.loc id
 size:w.heap.size≤w'.heap.size
 liv:∀id c b s,S'.mem.get id=some c→γ'.loc id=some (b,s)→w.heap.size≤b∨∃id0 c0 s0,S.mem.get id0=some c0∧γ.loc id0=some (b,s0)
 frame:∀b,b<w.heap.size→(∀id c s,S.mem.get id=some c→γ.loc id≠some (b,s))→w'.heap[b]? = w.heap[b]? ∧ ∀o,γ'.im b o→γ.im b o
theorem Ext.refl(γ:Gh)(S:St)(w:World):Ext γ S w γ S w:=⟨.refl _ _,Nat.le_refl _,fun _ _=>rfl,Nat.le_refl _,fun id c b s h l=>.inr ⟨id,c,s,h,l⟩,fun _ _ _=>⟨rfl,fun _ h=>h⟩⟩
theorem Ext.trans{γ γ1 γ2:Gh}{S S1 S2:St}{w w1 w2:World}(h:Ext γ S w γ1 S1 w1)(k:Ext γ1 S1 w1 γ2 S2 w2):Ext γ S w γ2 S2 w2:=by
 refine⟨h.ev.trans k.ev,Nat.le_trans h.next k.next,fun id hid=>(k.same id (Nat.lt_of_lt_of_le hid h.next)).trans (h.same id hid),Nat.le_trans h.size k.size,fun id c b s e l=>?_,fun b hb hn=>?_⟩
 ·rcases k.liv id c b s e l with h1 | ⟨i0,c0,s0,e0,l0⟩
  ·exact .inl (Nat.le_trans h.size h1)
  ·exact h.liv i0 c0 b s0 e0 l0
 ·obtain⟨f1,f2⟩:=h.frame b hb hn
  obtain⟨g1,g2⟩:=k.frame b (Nat.lt_of_lt_of_le hb h.size) (fun id c s e l=>by
   rcases h.liv id c b s e l with h1 | ⟨i0,c0,s0,e0,l0⟩
   ·omega
   ·exact hn i0 c0 s0 e0 l0)
  exact⟨g1.trans f1,fun o ho=>f2 o (g2 o ho)⟩
theorem Ext.of_same{γ:Gh}{S:St}{w w':World}(hh:w'.heap=w.heap)(ev:Ev γ w γ w'):Ext γ S w γ S w' :=
 ⟨ev,Nat.le_refl _,fun _ _=>rfl,by rw[hh];exact Nat.le_refl _,fun id c b s h l=>.inr ⟨id,c,s,h,l⟩,fun b _ _=>⟨by rw[hh],fun _ h=>h⟩⟩
theorem Ext.allocIm{γ:Gh}{S:St}{w:World}(arr:Array Value)(T:TypeId)(n:Nat){fr:Nat × Nat}(ev:Ev γ w (γ.withIm w.heap.size 0 n) (w.alloc (.cells arr T fr))):Ext γ S w (γ.withIm w.heap.size 0 n) S (w.alloc (.cells arr T fr)) :=
 ⟨ev,Nat.le_refl _,fun _ _=>rfl,by simp,fun id c b s h l=>.inr ⟨id,c,s,h,l⟩,fun b hb _=>⟨Below.heap_alloc w _ b hb,fun o ho=>ho.resolve_right (fun⟨e,_⟩=>by omega)⟩⟩
theorem Ext.alloc{γ:Gh}{S:St}{w:World}(o:Obj):Ext γ S w γ S (w.alloc o) :=
 ⟨ev_alloc γ w o,Nat.le_refl _,fun _ _=>rfl,by simp,fun id c b s h l=>.inr ⟨id,c,s,h,l⟩,fun b hb _=>⟨Below.heap_alloc w _ b hb,fun _ h=>h⟩⟩
theorem Ext.name{γ:Gh}{S:St}{w:World}{b s:Nat}{c:Cell}(hf:γ.loc S.next=none)(hb:∃id0 c0 s0,S.mem.get id0=some c0∧γ.loc id0=some (b,s0)):
  Ext γ S w (γ.withLoc S.next b s) { next:=S.next+1,mem:=S.mem.set S.next (some c) } w:=by
 refine⟨ev_loc hf,Nat.le_succ _,fun id hid=>?_,Nat.le_refl _,fun id c' b' s' e l=>?_,fun b' hb' hn=>⟨rfl,fun _ h=>h⟩⟩
 ·show(if id=S.next then some (b,s)else γ.loc id)=γ.loc id
  rw[if_neg (by omega)]
 ·have e:(S.mem.set S.next (some c)).get id=some c':=e
  have l:(if id=S.next then some (b,s)else γ.loc id)=some (b',s'):=l
  rw[T.get_set]at e
  split at e
  ·rename_i hid
   rw[if_pos hid]at l
   injection l with l;injection l with l1 l2;subst l1
   exact .inr hb
  ·rename_i hid
   rw[if_neg hid]at l
   exact .inr ⟨id,c',s',e,l⟩
theorem Ext.newName{γ γ1:Gh}{S:St}{w w':World}{s:Nat}{c:Cell}(h:Ext γ S w γ1 S w')(hf:γ1.loc S.next=none)(hm:S.mem.get S.next=none)(hg:γ1.loc=γ.loc):
  Ext γ S w (γ1.withLoc S.next w.heap.size s) { next:=S.next+1,mem:=S.mem.set S.next (some c) } w':=by
 refine⟨h.ev.trans (ev_loc hf),Nat.le_succ _,fun id hid=>?_,h.size,fun id c' b' s' e l=>?_,fun b' hb' hn=>?_⟩
 ·show(if id=S.next then some (w.heap.size,s)else γ1.loc id)=γ.loc id
  rw[if_neg (by omega),hg]
 ·have e:(S.mem.set S.next (some c)).get id=some c':=e
  have l:(if id=S.next then some (w.heap.size,s)else γ1.loc id)=some (b',s'):=l
  rw[T.get_set]at e
  split at e
  ·rename_i hid
   rw[if_pos hid]at l
   injection l with l;injection l with l1 l2;subst l1
   exact .inl (Nat.le_refl _)
  ·rename_i hid
   rw[if_neg hid]at l
   exact h.liv id c' b' s' e l
 ·obtain⟨f1,f2⟩:=h.frame b' hb' hn
  exact⟨f1,f2⟩
theorem Ext.newBox{base:Nat}{w0:World}{γ:Gh}{S:St}{w:World}(h:SR base w0 γ S w)(o:Obj)(c:Cell):Ext γ S w (γ.withLoc S.next w.heap.size 0) { next:=S.next+1,mem:=S.mem.set S.next (some c) } (w.alloc o) :=
 (Ext.alloc o).newName (h.fresh S.next (Nat.le_refl _)).1 (h.fresh S.next (Nat.le_refl _)).2 rfl
theorem Ext.store{γ:Gh}{S S':St}{w w':World}{b:Nat}(ev:Ev γ w γ w')(hs:w'.heap.size=w.heap.size)(hk:∀k,k≠b→w'.heap[k]? = w.heap[k]?)(hn:S'.next=S.next)
  (hb:∃id0 c0 s0,S.mem.get id0=some c0∧γ.loc id0=some (b,s0)) (hm:∀id,(∃c,S'.mem.get id=some c)→∃c,S.mem.get id=some c):Ext γ S w γ S' w' :=
 ⟨ev,by omega,fun _ _=>rfl,by omega,fun id c b' s h l=>by
  obtain⟨c0,h0⟩:=hm id ⟨c,h⟩
  exact .inr ⟨id,c0,s,h0,l⟩,fun b' hb' hnot=>⟨hk b' (fun e=>by
   subst e
   obtain⟨i0,c0,s0,e0,l0⟩:=hb
   exact hnot i0 c0 s0 e0 l0),fun _ h=>h⟩⟩
end Go.Ax
noncomputable section
namespace Go.Ax
open Go.RowKit
def St.kill(S:St)(tok:Nat):St:=match tok with
 |0=>S
 |1=>S
 |k+2=>{ S with mem:=S.mem.set (k+2) none }
theorem SR.kill{base:Nat}{w0 w:World}{γ:Gh}{S:St}(h:SR base w0 γ S w)(tok:Nat):SR base w0 γ (S.kill tok) w:=by
 unfold St.kill
 split
 ·exact h
 ·exact h
 ·rename_i k
  have G:∀i,(S.mem.set (k+2) none).get i=if i=k+2 then none else S.mem.get i:=fun i=>T.get_set _ _ _ _
  refine⟨h.below,h.hbase,h.imc,fun i hi=>?_,h.pos,h.inb,fun i c e=>?_,fun i i' c c' b s s' e1 e2 l1 l2=>?_⟩
  ·refine⟨(h.fresh i hi).1,?_⟩
   show(S.mem.set (k+2) none).get i=none
   rw[G];split
   ·rfl
   ·exact(h.fresh i hi).2
  ·have e:(S.mem.set (k+2) none).get i=some c:=e
   rw[G]at e;split at e
   ·cases e
   ·exact h.live i c e
  ·have e1:(S.mem.set (k+2) none).get i=some c:=e1
   have e2:(S.mem.set (k+2) none).get i' = some c':=e2
   rw[G]at e1 e2;split at e1 <;> split at e2
   ·cases e1
   ·cases e1
   ·cases e2
   ·exact h.inj i i' c c' b s s' e1 e2 l1 l2
theorem St.kill_next(S:St)(tok:Nat):(S.kill tok).next=S.next:=by unfold St.kill;split <;> rfl
theorem St.kill_get(S:St)(tok i:Nat)(h:2≤tok):(S.kill tok).mem.get i=if i=tok then none else S.mem.get i:=by
 obtain⟨k,rfl⟩:∃k,tok=k+2:=⟨tok - 2,by omega⟩
 show(S.mem.set (k+2) none).get i=_
 exact T.get_set _ _ _ _
theorem kill_sub(S:St)(tok id:Nat)(c:Cell)(h:(S.kill tok).mem.get id=some c):S.mem.get id=some c:=by
 by_cases h2:2≤tok
 ·rw[St.kill_get S tok id h2]at h
  split at h
  ·cases h
  ·exact h
 ·have:tok=0∨tok=1:=by omega
  rcases this with rfl |rfl <;> exact h
theorem Ext.kill(γ:Gh)(S:St)(w:World)(tok:Nat):Ext γ S w γ (S.kill tok) w :=
 ⟨.refl _ _,by rw[St.kill_next];exact Nat.le_refl _,fun _ _=>rfl,Nat.le_refl _,fun id c b s h l=>.inr ⟨id,c,s,kill_sub S tok id c h,l⟩,fun _ _ _=>⟨rfl,fun _ h=>h⟩⟩
def St.grown(S:St)(tok m:Nat):St:={ next:=S.next+1,mem:=(S.kill tok).mem.set S.next (some (.tip m)) }
theorem Ext.grown_new{base:Nat}{w0:World}{γ:Gh}{S:St}{w:World}(h:SR base w0 γ S w)(tok m n:Nat)(arr:Array Value)(T:TypeId)(ev:Ev γ w (γ.withIm w.heap.size 0 n) (w.alloc (.cells arr T))):
  Ext γ S w ((γ.withIm w.heap.size 0 n).withLoc S.next w.heap.size 0) (S.grown tok m) (w.alloc (.cells arr T)):=by
 have k:=h.kill tok
 have e1:Ext γ (S.kill tok) w (γ.withIm w.heap.size 0 n) (S.kill tok) (w.alloc (.cells arr T)):=Ext.allocIm arr T n ev
 have e2:=e1.newName (s:=0) (c:=.tip m) (k.fresh _ (Nat.le_refl _)).1 (k.fresh _ (Nat.le_refl _)).2 rfl
 have e3:=(Ext.kill γ S w tok).trans e2
 rw[St.kill_next]at e3
 exact e3
theorem SR.push{base:Nat}{w0 w:World}{γ:Gh}{S:St}(h:SR base w0 γ S w){tok b s m:Nat}(ht2:2≤tok)(hm:S.mem.get tok=some (.tip m))(hl:γ.loc tok=some (b,s)){arr:Array Value}{T:TypeId}{fr:Nat × Nat}(ha:w.heap[b]? = some (Obj.cells arr T fr))(y:List Value)
  (hfit:s+m+y.length≤arr.size) :
  SR base w0 (γ.withIm b (s+m) y.length) (S.kill tok) (w.setCells b (s+m) y)∧Ev γ w (γ.withIm b (s+m) y.length) (w.setCells b (s+m) y)∧base≤b∧fr=(0,0)∧(∀k,γ.im b k→k<s+m) ∧
   (∀id c s',(S.kill tok).mem.get id=some c→γ.loc id≠some (b,s'))∧(∀k,k≠b→(w.setCells b (s+m) y).heap[k]? = w.heap[k]?):=by
 obtain⟨b2,s2,l1,l2,l3⟩:=h.live tok _ hm
 rw[hl]at l1;injection l1 with l1;injection l1 with e1 e2;subst e1;subst e2
 obtain⟨arr2,T2,ha2,him,hsz⟩:=l3
 rw[ha]at ha2;injection ha2 with ha2;injection ha2 with q1 q2 q3;subst q1;subst q2;subst q3
 obtain⟨⟨arr',ha',hs'⟩,hk⟩:=setCells_block b y (s+m) w arr T (0,0) ha
 obtain⟨r1,r2,r3,r4⟩:=setCells_rest b y (s+m) w
 have hne:∀id c s',(S.kill tok).mem.get id=some c→γ.loc id≠some (b,s'):=fun id c s' e l=>by
  rw[St.kill_get S tok id ht2]at e
  split at e
  ·cases e
  ·rename_i hid
   exact hid (h.inj id tok c _ b s' s e hm l hl)
 have ev:Ev γ w (γ.withIm b (s+m) y.length) (w.setCells b (s+m) y):=by
  refine⟨fun _ _ h=>h,fun _ _ h=>.inl h,fun b' o v hi hv=>?_,fun b' arr2 T2 fr2 h2=>?_⟩
  ·by_cases e:b' = b
   ·subst e
    have:=him o hi
    rw[World.cell?_setCells_out b' y (s+m) w ⟨b',o,none⟩ (fun _ _=>.inl this)]
    exact hv
   ·exact(World.cell?_of_block (a:=⟨b',o,none⟩) (hk b' e)).trans hv
  ·by_cases e:b' = b
   ·subst e
    rw[ha]at h2;injection h2 with h2;injection h2 with q1 q2 q3;subst q1;subst q2;subst q3
    exact⟨arr',_,ha',hs'⟩
   ·exact⟨arr2,fr2,(hk b' e).trans h2,rfl⟩
 have hK:=h.kill tok
 refine⟨⟨below_setCells h.below b _ y l2 hk,by rw[r4];exact h.hbase,?_,?_,hK.pos,fun id b' s' e=>by rw[r4];exact h.inb id b' s' e,?_,hK.inj⟩,ev,l2,rfl,him,hne,hk⟩
 ·rintro b' o (hi | ⟨rfl,ho1,ho2⟩)
  ·obtain⟨v,hv⟩:=h.imc b' o hi;exact⟨v,ev.cell b' o v hi hv⟩
  ·exact⟨arr'[o]'(by omega),by rw[cells_at ha'];exact Array.getElem?_eq_getElem (by omega)⟩
 ·exact hK.fresh
 ·intro id c e
  obtain⟨b',s',q1,q2,q3⟩:=hK.live id c e
  have hbb:b'≠b:=fun eb=>by subst eb;exact hne id c s' e q1
  exact⟨b',s',q1,q2,q3.keep ev (hk b' hbb) (fun o ho=>ho.resolve_right (fun⟨e,_⟩=>hbb e))⟩
theorem flat_append(a b:List AV):flat (a ++ b)=flat a ++ flat b:=by simp[flat]
theorem flat_length{es:List AV}{sz:Nat}(h:∀e∈es,e.cells.length=sz):(flat es).length=es.length*sz:=by
 induction es with
 |nil=>simp[flat]
 |cons e r ih =>
  have:flat (e :: r)=e.cells ++ flat r:=by simp[flat]
  rw[this,List.length_append,ih (fun x hx=>h x (List.mem_cons_of_mem _ hx)),h e (List.mem_cons_self ..),List.length_cons,Nat.succ_mul];omega
theorem grownCap_ge(w:World)(need old:Nat)(e:TypeId):need≤grownCap w need old e:=by
 unfold grownCap Question.cut;simp
theorem SR.fresh_row{base:Nat}{w0 w:World}{γ:Gh}{S:St}(h:SR base w0 γ S w)(tok sz:Nat)(es:List AV)(xs rest:List Value)(cap:Nat)(T:TypeId)(hsz:0<sz)(hes:∀e∈es,e.cells.length=sz)(h1:∀x∈flat es,x.one=true)
  (hr:VRL γ w (flat es) xs) (hcap:es.length≤cap) (hrest:cap*sz≤xs.length+rest.length) {arr:Array Value} (harr:arr=(xs ++ rest).toArray) :
  ∃γ',SR base w0 γ' (S.grown tok (es.length*sz)) (w.alloc (.cells arr T))∧Ext γ S w γ' (S.grown tok (es.length*sz)) (w.alloc (.cells arr T)) ∧
   VR γ' (w.alloc (.cells arr T)) (.sl S.next 0 sz es) (.slice (some ⟨w.heap.size,0,none⟩) es.length cap):=by
 have hxl:xs.length=es.length*sz:=by rw[hr.1,flat_length hes]
 have hal:arr.size=xs.length+rest.length:=by rw[harr];simp
 obtain⟨a1,a2⟩:=(h.kill tok).allocIm arr T xs.length (by omega)
 have hkn:=St.kill_next S tok
 have hnew:∀id c s',(S.kill tok).mem.get id=some c→(γ.withIm w.heap.size 0 xs.length).loc id≠some (w.heap.size,s'):=fun id c s' e l=>by
  have:=(h.kill tok).inb id _ _ l;omega
 obtain⟨b1,b2⟩:=a1.name w.heap.size 0 (.tip (es.length*sz)) h.hbase (by simp) ⟨arr,T,heap_alloc_new w _,fun k hk=>by
   rcases hk with hk | ⟨_,_,hk⟩
   ·have:=imc_lt h hk;omega
   ·omega,by omega⟩ hnew
 rw[hkn]at b1 b2
 refine⟨_,b1,Ext.grown_new h tok _ _ arr T a2,?_⟩
 refine .sl S.next 0 sz es w.heap.size 0 cap (fun k=>xs.getD k undef) hsz hes h1 (fun k hk=>⟨.inr ⟨rfl,by omega,by rw[hr.1];omega⟩,?_⟩) (fun k hk=>?_) (fun _=>⟨0,by show(if S.next=S.next then _ else _)=_;rw[if_pos rfl],rfl⟩)
  (fun e=>by have:=h.pos;omega) hcap ⟨arr,T,(0,0),heap_alloc_new w _,by omega⟩
 ·have hk2:k<xs.length:=by rw[hr.1];exact hk
  rw[Nat.zero_add]
  refine alloc_new_cell w arr T ?_
  rw[harr]
  simp[List.getElem?_append_left hk2,List.getElem?_eq_getElem hk2]
 ·have hk2:k<xs.length:=by rw[hr.1];exact hk
  have:=(hr.2 k hk hk2).mono (a2.trans b2)
  simpa[List.getD,List.getElem?_eq_getElem hk2]using this
theorem sl_cells{γ:Gh}{w:World}{es:List AV}{b o:Nat}{c:Nat→Value}(h:∀k,k<(flat es).length→γ.im b (o+k)∧w.cell? ⟨b,o+k,none⟩=some (c k))(hr:∀k (h:k<(flat es).length),VR γ w (flat es)[k] (c k)):
  VRL γ w (flat es) ((List.range (flat es).length).map c)∧∀j u,((List.range (flat es).length).map c)[j]? = some u→w.cell? ⟨b,o+j,none⟩=some u:=by
 refine⟨⟨by simp,fun k hk hk'=>by simpa using hr k hk⟩,fun j u hu=>?_⟩
 obtain⟨hj,rfl⟩:=List.getElem?_eq_some_iff.1 hu
 simp at hj
 simpa using (h j hj).2
theorem append_sound{P:Program}{base:Nat}{w0 w:World}{γ:Gh}{S:St}(h:SR base w0 γ S w)(t tx ty e:TypeId)(i:TypeInfo)(z:Value)(sz:Nat)(ht:P.underlying t=some (.slice e))(hi:P.info? e=some i)(hz:i.zero=some z)(hs:i.size=sz)(hzs:z.cells.size=sz)(hsz:0<sz)
  (x:Value) (ns:List AV) (news:List Value) (hsrc:Src P sz tx x ns.length news w) (hns:∀e∈ns,e.cells.length=sz) (hn1:∀x∈flat ns,x.one=true) (hnr:VRL γ w (flat ns) news) (hn0:0<ns.length)
  (a:AV) (v:Value) (hv:VR γ w a v) (tok:Nat) (es:List AV) (ha:(a=.nils∧es=[])∨∃off,a=.sl tok off sz es∧(tok=1∨2≤tok∧S.mem.get tok=some (.tip (off+es.length*sz))))
  (hb:(es.length+ns.length)*i.bytes≤140737488355328) (hl:es.length+ns.length≤9223372036854775807) :
  ∃v' w' γ',(Builtin.append_ #[t,tx] ty #[v,x]).run P w=.ok v' w'∧SR base w0 γ' (S.grown tok ((es ++ ns).length*sz)) w'∧Ext γ S w γ' (S.grown tok ((es ++ ns).length*sz)) w'∧VR γ' w' (.sl S.next 0 sz (es ++ ns)) v':=by
 subst hs
 have hap:∀e∈es ++ ns,(∀e∈es,e.cells.length=i.size)→e.cells.length=i.size:=fun e he hes=>by
  rcases List.mem_append.1 he with h |h
  ·exact hes e h
  ·exact hns e h
 have grow:∀(bs:Option Addr) (sCap:Nat) (olds:List Value),v=.slice bs es.length sCap→(Builtin.firstCells i.size es.length (.slice bs es.length sCap)).run P w.drew=.ok olds.toArray w.drew→VRL γ w (flat es) olds→(∀e∈es,e.cells.length=i.size)→(∀x∈flat es,x.one=true)→sCap<es.length+ns.length →
   ∃v' w' γ',(Builtin.append_ #[t,tx] ty #[v,x]).run P w=.ok v' w'∧SR base w0 γ' (S.grown tok ((es ++ ns).length*i.size)) w'∧Ext γ S w γ' (S.grown tok ((es ++ ns).length*i.size)) w'∧VR γ' w' (.sl S.next 0 i.size (es ++ ns)) v':=by
  intro bs sCap olds hve hold hor hes h1 hg
  subst hve
  have hrun:=run_append_grow_src w t tx ty e i z ht hi hz bs es.length sCap olds hold x ns.length news hsrc hg (by omega) (growslice_fits hg hb)
  obtain⟨d1,d2⟩:=h.drew
  have hge:=grownCap_ge w (es.length+ns.length) sCap e
  have hfl:flat (es ++ ns)=flat es ++ flat ns:=flat_append es ns
  have hol:olds.length=es.length*i.size:=by rw[hor.1,flat_length hes]
  have hnl:news.length=ns.length*i.size:=by rw[hnr.1,flat_length hns]
  have key:=d1.fresh_row tok i.size (es ++ ns) (olds ++ news) (Builtin.zeroCells z.cells (grownCap w (es.length+ns.length) sCap e - (es.length+ns.length))).toList (grownCap w (es.length+ns.length) sCap e) e hsz
   (fun x hx=>hap x hx hes) (fun x hx=>by
    rw[hfl]at hx
    rcases List.mem_append.1 hx with h |h
    ·exact h1 x h
    ·exact hn1 x h) (by rw[hfl];exact(hor.append hnr).mono d2) (by simpa using hge) (by
    have hzc:(Builtin.zeroCells z.cells (grownCap w (es.length+ns.length) sCap e - (es.length+ns.length))).size=(grownCap w (es.length+ns.length) sCap e - (es.length+ns.length))*i.size:=by rw[size_zeroCells,hzs]
    have hq:(es.length+ns.length)*i.size+(grownCap w (es.length+ns.length) sCap e - (es.length+ns.length))*i.size=grownCap w (es.length+ns.length) sCap e*i.size:=by rw[← Nat.add_mul];congr 1;omega
    have hzl:(Builtin.zeroCells z.cells (grownCap w (es.length+ns.length) sCap e - (es.length+ns.length))).toList.length=(grownCap w (es.length+ns.length) sCap e - (es.length+ns.length))*i.size:=by rw[← hzc];exact Array.length_toList
    rw[List.length_append,hol,hnl,hzl,← Nat.add_mul]
    omega) (arr:=(olds ++ news).toArray ++ Builtin.zeroCells z.cells (grownCap w (es.length+ns.length) sCap e - (es.length+ns.length))) (by apply Array.ext';simp)
  obtain⟨γ',k1,k2,k3⟩:=key
  have e1:w.drew.heap.size=w.heap.size:=rfl
  rw[e1]at k3
  exact⟨_,_,γ',hrun,k1,Ext.trans (S1:=S) (w1:=w.drew) (Ext.of_same (w:=w) (w':=w.drew) rfl d2) k2,by simpa using k3⟩
 rcases ha with⟨rfl,rfl⟩ | ⟨off,rfl,htok⟩
 ·cases hv
  exact grow none 0 [] rfl (run_firstCells_none w.drew i.size 0 0 0) (VRL.nil γ w) (fun _ h=>by cases h) (fun _ h=>by simp[flat]at h) (by simpa using hn0)
 ·cases hv with
  |sl _ _ _ _ b o cap c _ hes h1 hcells hr htk hf hc hblk =>
  obtain⟨holdr,holdc⟩:=sl_cells hcells hr
  have hol:((List.range (flat es).length).map c).length=es.length*i.size:=by simp[flat_length hes]
  have hfirst:(Builtin.firstCells i.size es.length (.slice (some ⟨b,o,none⟩) es.length cap)).run P w.drew=.ok ((List.range (flat es).length).map c).toArray w.drew :=
   run_firstCells_some w.drew i.size es.length ⟨b,o,none⟩ es.length cap _ hol (fun j u hu=>by rw[Addr.add_mid];exact holdc j u hu)
  by_cases hroom:es.length+ns.length≤cap
  ·have ht2:2≤tok∧S.mem.get tok=some (.tip (off+es.length*i.size)):=by
    rcases htok with h1 |h2
    ·have:=hf h1;omega
    ·exact h2
   obtain⟨s,hloc,rfl⟩:=htk ht2.1
   obtain⟨arr,T,fr,harr,hle⟩:=hblk
   have hmul:(es.length+ns.length)*i.size≤cap*i.size:=Nat.mul_le_mul_right _ hroom
   rw[Nat.add_mul]at hmul
   have hnl:news.length=ns.length*i.size:=by rw[hnr.1,flat_length hns]
   obtain⟨p1,p2,p3,rfl,p5,p6,p7⟩:=h.push ht2.1 ht2.2 hloc harr news (by omega)
   have hcell:∀k,w.cell? ⟨b,k,none⟩=arr[k]?:=cells_at harr
   have hrun:=run_append_room_src w t tx ty e i ht hi b (s+off) es.length cap x ns.length news hsrc hroom (fun j hj=>by rw[hcell];simp;omega) (fun j hj=>by simp[World.frozen?,harr])
   rw[show s+off+es.length*i.size=s+(off+es.length*i.size) by omega]at hrun
   obtain⟨⟨arr',ha',hs'⟩,hk⟩:=setCells_block b news (s+(off+es.length*i.size)) w arr T (0,0) harr
   have hkn:=St.kill_next S tok
   have hbl:=h.inb tok b s hloc
   obtain⟨q1,q2⟩:=p1.name b (s+off) (.tip ((es ++ ns).length*i.size)) p3 (by rw[(setCells_rest b news _ w).2.2.2];exact hbl) ⟨arr',T,ha',fun k hk2=>by
     rw[List.length_append,Nat.add_mul]
     rcases hk2 with hk2 | ⟨_,_,hk2⟩
     ·have:=p5 k hk2;omega
     ·omega,by rw[List.length_append,Nat.add_mul];omega⟩ p6
   rw[hkn]at q1 q2
   have hev:=p2.trans q2
   have hext:Ext γ S w ((γ.withIm b (s+(off+es.length*i.size)) news.length).withLoc S.next b (s+off)) (S.grown tok ((es ++ ns).length*i.size)) (w.setCells b (s+(off+es.length*i.size)) news):=by
    refine⟨hev,Nat.le_succ _,fun id hid=>?_,by rw[(setCells_rest b news _ w).2.2.2];exact Nat.le_refl _,fun id c' b' s' e l=>?_,fun b' hb' hnot=>?_⟩
    ·show(if id=S.next then _ else γ.loc id)=γ.loc id
     rw[if_neg (by omega)]
    ·have e:((S.kill tok).mem.set S.next _).get id=some c':=e
     have l:(if id=S.next then some (b,s+off)else γ.loc id)=some (b',s'):=l
     rw[Go.Ax.T.get_set]at e
     split at e
     ·rename_i hid
      rw[if_pos hid]at l
      injection l with l;injection l with l1 l2;subst l1
      exact .inr ⟨tok,_,s,ht2.2,hloc⟩
     ·rename_i hid
      rw[if_neg hid]at l
      exact .inr ⟨id,c',s',kill_sub S tok id c' e,l⟩
    ·have hbb:b'≠b:=fun e=>by subst e;exact hnot tok _ s ht2.2 hloc
     exact⟨p7 b' hbb,fun o ho=>ho.resolve_right (fun⟨e,_⟩=>hbb e)⟩
   refine⟨_,_,_,hrun,q1,hext,?_⟩
   have hfl:flat (es ++ ns)=flat es ++ flat ns:=flat_append es ns
   have hfe:(flat es).length=es.length*i.size:=flat_length hes
   have hfn:(flat ns).length=ns.length*i.size:=flat_length hns
   rw[show es.length+ns.length=(es ++ ns).length by simp]
   refine .sl S.next 0 i.size (es ++ ns) b (s+off) cap (fun k=>if k<es.length*i.size then c k else news.getD (k - es.length*i.size) undef) hsz (fun x hx=>hap x hx hes) (fun x hx=>?_) (fun k hk2=>?_) (fun k hk2=>?_)
    (fun _=>⟨s+off,by show(if S.next=S.next then _ else _)=_;rw[if_pos rfl],by omega⟩) (fun e=>by have:=h.pos;omega) (by simpa using hroom) ⟨arr',T,(0,0),ha',by omega⟩
   ·rw[hfl]at hx
    rcases List.mem_append.1 hx with h |h
    ·exact h1 x h
    ·exact hn1 x h
   ·rw[hfl,List.length_append]at hk2
    by_cases hlt:k<es.length*i.size
    ·rw[if_pos hlt]
     have:=hcells k (by omega)
     exact⟨hev.im _ _ this.1,hev.cell _ _ _ this.1 this.2⟩
    ·rw[if_neg hlt]
     refine⟨.inr ⟨rfl,by omega,by omega⟩,?_⟩
     have:=World.cell?_setCells_in b news (s+(off+es.length*i.size)) w (fun j hj=>by rw[hcell];simp;omega) (k - es.length*i.size) (by omega)
     rw[show s+(off+es.length*i.size)+(k - es.length*i.size)=s+off+k by omega]at this
     rw[this,List.getD,List.getElem?_eq_getElem (by omega)]
     rfl
   ·have hk3:=hk2
    rw[hfl,List.length_append]at hk3
    by_cases hlt:k<es.length*i.size
    ·have:=(hr k (by omega)).mono hev
     have he:(flat (es ++ ns))[k]=(flat es)[k]'(by omega):=by simp only[hfl];rw[List.getElem_append_left (by omega)]
     rw[he,if_pos hlt];exact this
    ·have:=(hnr.2 (k - es.length*i.size) (by omega) (by omega)).mono hev
     have he:(flat (es ++ ns))[k]=(flat ns)[k - es.length*i.size]'(by omega):=by simp only[hfl];rw[List.getElem_append_right (by omega)];congr 1;omega
     rw[he,if_neg hlt,List.getD,List.getElem?_eq_getElem (by omega)]
     exact this
  ·exact grow (some ⟨b,o,none⟩) cap _ rfl hfirst holdr hes h1 (by omega)
end Go.Ax
