/- ZbRu -/
import Derived.Test.YtimbgdjbggdgmaaGreatDoorNcG17
import Derived.Test.YtimbgdjbggdgmaaGreatDoorNcG11
import Derived.Test.YtimbgdjbggdgmaaGreatDoorNcG16
set_option linter.unusedVariables false
set_option linter.unusedSimpArgs false
noncomputable section
namespace Go.Ax
open Go.RowKit Go.Proofs
set_option maxRecDepth 100000
mutual
theorem Iz:∀{a:AV} {e:PE},RepE a e→Bw a=true∧RepE (clean a) e
 |_,_,.mk kind pos n name off kv kids h=>by
  obtain⟨h1,h2⟩:=repK_free h;refine⟨?_,.mk kind pos n name off (clean kv) kids h2⟩
  show C5 (exC kind pos n name off kv)=true
  simp[exC,C5,Bw,Bk,A2,h1]
theorem repK_free:∀{a:AV} {l:List PE},RepK a l→Bw a=true∧RepK (clean a) l
 |_,_,.nil=>⟨rfl,.nil⟩
 |_,_,.row tok off es kids h=>by
  obtain⟨h1,h2⟩:=Ym h;exact⟨h1,.row 0 0 (Be es) kids h2⟩
theorem Ym:∀{es:List AV} {l:List PE},RepF es l→C5 es=true∧RepF (Be es) l
 |_,_,.nil=>⟨rfl,.nil⟩
 |_,_,.cons a e r l h h2=>by
  obtain⟨h1,h3⟩:=Iz h;obtain⟨h4,h5⟩:=Ym h2;exact⟨by rw[C5,h1,h4];rfl,.cons (clean a) e (Be r) l h3 h5⟩
end
theorem Nn{α:Type}{sz:Nat}{A:α→AV}(hA:∀x,Bw (A x)=true∧clean (A x)=A x){a:AV}{l:List α}(h:H8 sz A a l):Bw a=true∧H8 sz A (clean a) l:=by
 rcases h with⟨rfl,rfl⟩ | ⟨tok,off,rfl⟩
 ·exact⟨rfl,.inl ⟨rfl,rfl⟩⟩
 ·have key:∀l:List α,C5 (l.map A)=true∧Be (l.map A)=l.map A:=fun l=>by
   induction l with
   |nil=>exact⟨rfl,rfl⟩
   |cons x r ih=>rw[Jc2];exact⟨by rw[C5,(hA x).1,ih.1];rfl,by rw[Be,(hA x).2,ih.2]⟩
  refine⟨(key l).1,.inr ⟨0,0,?_⟩⟩
  show AV.sl 0 0 sz (Be (l.map A))=_
  rw[(key l).2]
theorem Ze(d:PD):Bw (D7 d)=true∧clean (D7 d)=D7 d:=⟨rfl,rfl⟩
theorem left_free(d:List UInt8 × Nat):Bw (Fg d)=true∧clean (Fg d)=Fg d:=⟨rfl,rfl⟩
theorem lC{v:AV}{q:PQ}(h:U5 v q):Bw v=true∧U5 (clean v) q:=by
 obtain⟨lv,xs,rfl,hl,hx,hr⟩:=h;obtain⟨h1,h2⟩:=Nn left_free hl;obtain⟨h3,h4⟩:=Iz hr;have h3:C5 xs=true:=h3;have h4:RepE (.agg (Be xs)) q.e:=h4;refine⟨?_,clean lv,Be xs,rfl,h2,by rw[Io,Ja9];exact hx,h4⟩
 show C5 (lv :: .v (.bool q.async) :: xs)=true
 rw[C5,C5,h1,h3];rfl
theorem Z7:∀{es:List AV} {l:List PQ},EqRows es l→C5 es=true∧EqRows (Be es) l
 |_,_,.nil=>⟨rfl,.nil⟩
 |_,_,.cons a q r l h h2=>by
  obtain⟨h1,h3⟩:=lC h;obtain⟨h4,h5⟩:=Z7 h2;exact⟨by rw[C5,h1,h4];rfl,.cons _ _ _ _ h3 h5⟩
theorem L5{v:AV}{n:PN}(h:Hg v n):Bw v=true∧Hg (clean v) n:=by
 obtain⟨a,b,c,d,es,rfl,h1,h2,h3,h4,h5⟩:=h;obtain⟨a1,a2⟩:=Nn Ze h1;obtain⟨b1,b2⟩:=Nn Ze h2;obtain⟨c1,c2⟩:=Nn Ze h3;obtain⟨e1,e2⟩:=Z7 h5
 have hd:Bw d=true∧((clean d=.nils∧Be es=[])∨∃tok,clean d=.sl tok 0 8 (Be es)):=by
  rcases h4 with⟨rfl,rfl⟩ | ⟨tok,rfl⟩
  ·exact⟨rfl,.inl ⟨rfl,rfl⟩⟩
  ·exact⟨e1,.inr ⟨0,rfl⟩⟩
 refine⟨?_,clean a,clean b,clean c,clean d,Be es,rfl,a2,b2,c2,hd.2,e2⟩
 show C5 (H7 n.name n.pos a b c d)=true
 simp[H7,C5,Bw,Bk,A2,a1,b1,c1,hd.1]
theorem Vg:∀{es:List AV} {l:List PN},NodeRows es l→C5 es=true∧NodeRows (Be es) l
 |_,_,.nil=>⟨rfl,.nil⟩
 |_,_,.cons a q r l h h2=>by
  obtain⟨h1,h3⟩:=L5 h;obtain⟨h4,h5⟩:=Vg h2;exact⟨by rw[C5,h1,h4];rfl,.cons _ _ _ _ h3 h5⟩
theorem tZ{v:AV}{l:List PN}(h:Lr v l):Bw v=true∧Lr (clean v) l:=by
 obtain⟨tok,off,es,rfl,hn⟩:=h;obtain⟨h1,h2⟩:=Vg hn;exact⟨h1,0,0,Be es,rfl,h2⟩
theorem Sq{a b:List UInt8}(h:A2 a=A2 b):a=b:=by unfold A2 at h;injection h with h;injection h with h;injection h with h;injection h
theorem Tl{a b:Nat}(h:Bk a=Bk b):a=b:=by unfold Bk at h;injection h with h;injection h with _ h;omega
mutual
theorem Sz:∀{a:AV} {e e':PE},RepE a e→RepE a e'→e=e'
 |_,_,_,.mk kind pos n name off kv kids h,h'=>by
  generalize hx:AV.agg (exC kind pos n name off kv)=x at h'
  cases h' with
  |mk kind' pos' n' name' off' kv' kids' h2 =>
   injection hx with hx
   unfold exC at hx;injection hx with e1 hx;injection hx with e2 hx;injection hx with e3 hx;injection hx with e4 hx;injection hx with e5 hx;injection hx with e6 hx
   have e1:=Tl e1;have e2:=Tl e2;have e4:=Sq e4;injection e3 with e3;injection e3 with _ e3
   injection e5 with e5;injection e5 with e5
   subst e1;subst e2;subst e3;subst e4;subst e5;subst e6;rw[repK_one h h2]
theorem repK_one:∀{a:AV} {l l':List PE},RepK a l→RepK a l'→l=l'
 |_,_,_,.nil,h'=>by cases h';rfl
 |_,_,_,.row tok off es kids h,h'=>by
  cases h' with
  |row _ _ _ _ h2=>exact sG h h2
theorem sG:∀{es:List AV} {l l':List PE},RepF es l→RepF es l'→l=l'
 |_,_,_,.nil,h'=>by cases h';rfl
 |_,_,_,.cons a e r l h h2,h'=>by
  cases h' with
  |cons _ e' _ l' h3 h4=>rw[Sz h h3,sG h2 h4]
end
theorem aR{α:Type}{sz:Nat}{A:α→AV}(hA:∀x y,A x=A y→x=y){a:AV}{l m:List α}(h:H8 sz A a l)(h':H8 sz A a m):l=m:=by
 rcases h with⟨rfl,rfl⟩ | ⟨tok,off,rfl⟩ <;> rcases h' with⟨e,rfl⟩ | ⟨tok',off',e⟩
 ·rfl
 ·cases e
 ·cases e
 ·injection e with e1 e2 e3 e4
  have key:∀(l m:List α),l.map A=m.map A→l=m:=fun l=>by
   induction l with
   |nil=>intro m hm;cases m with
    |nil=>rfl
    |cons x r=>cases hm
   |cons x r ih=>intro m hm;cases m with
    |nil=>cases hm
    |cons y s =>
     rw[Jc2,Jc2]at hm;injection hm with h1 h2
     rw[hA x y h1,ih s h2]
  exact key l m e4
theorem fZ(x y:PD)(h:D7 x=D7 y):x=y:=by
 unfold D7 Fy at h;injection h with h
 injection h with e1 h;injection h with e2 h;injection h with e3 h;injection h with e4 h;injection h with e5 h;injection h with e6 h
 have e1:=Sq e1;have e2:=Tl e2;have e5:=Sq e5;injection e3 with e3;injection e3 with e3
 injection e4 with e4;injection e4 with e4
 injection e6 with e6;injection e6 with e6
 cases x;cases y;simp only at *;subst e1;subst e2;subst e3;subst e4;subst e5;subst e6;rfl
theorem left_inj(x y:List UInt8 × Nat)(h:Fg x=Fg y):x=y:=by
 unfold Fg Il at h;injection h with h
 injection h with e1 h;injection h with e2 h
 have e1:=Sq e1;have e2:=Tl e2;cases x;cases y;simp only at *;subst e1;subst e2;rfl
theorem isEq_one{v:AV}{p q:PQ}(h:U5 v p)(h':U5 v q):p=q:=by
 obtain⟨lv,xs,rfl,hl,hx,hr⟩:=h;obtain⟨lv',xs',e,hl',hx',hr'⟩:=h';unfold eqC at e;injection e with e
 injection e with e1 e;injection e with e2 e
 subst e1;subst e;injection e2 with e2;injection e2 with e2
 have f1:=aR left_inj hl hl';have f2:=Sz hr hr';cases p;cases q;simp only at *;subst e2;subst f1;subst f2;rfl
theorem fP:∀{es:List AV} {l m:List PQ},EqRows es l→EqRows es m→l=m
 |_,_,_,.nil,h'=>by cases h';rfl
 |_,_,_,.cons a q r l h h2,h'=>by
  cases h' with
  |cons _ q' _ l' h3 h4=>rw[isEq_one h h3,fP h2 h4]
theorem eZ{v:AV}{p q:PN}(h:Hg v p)(h':Hg v q):p=q:=by
 obtain⟨a,b,c,d,es,rfl,h1,h2,h3,h4,h5⟩:=h;obtain⟨a',b',c',d',es',e,k1,k2,k3,k4,k5⟩:=h';unfold H7 at e;injection e with e
 injection e with e1 e;injection e with e2 e;injection e with e3 e;injection e with e4 e;injection e with e5 e;injection e with e6 e
 have e1:=Sq e1;have e2:=Tl e2;subst e3;subst e4;subst e5;subst e6;have f1:=aR fZ h1 k1;have f2:=aR fZ h2 k2;have f3:=aR fZ h3 k3
 have f4:es=es':=by
  rcases h4 with⟨rfl,rfl⟩ | ⟨tok,rfl⟩ <;> rcases k4 with⟨e,rfl⟩ | ⟨tok',e⟩
  ·rfl
  ·cases e
  ·cases e
  ·injection e
 subst f4;have f5:=fP h5 k5;cases p;cases q;simp only at *;subst e1;subst e2;subst f1;subst f2;subst f3;subst f5;rfl
def allK(F L:Nat):Nat→List UInt8→Nat→Option ((Nat × Nat) ⊕ List Tk)
 |0,_,_=>none
 |n+1,r,i=>match r with
  | []=>some (.inr [⟨5,L,[],0⟩])
  |b :: r'=>match Fx (b :: r') i with
   |none=>none
   |some p=>if p.2=0 then(match allK F L n (((b :: r').drop p.1.text.length).drop (Fe F ((b :: r').drop p.1.text.length))) (i+p.1.text.length+Fe F ((b :: r').drop p.1.text.length))with
     |none=>none
     |some (.inl x)=>some (.inl x)
     |some (.inr ts)=>some (.inr (p.1 :: ts)))else some (.inl (i,p.2))
def lexK(L:Nat)(l:List UInt8):Option ((Nat × Nat) ⊕ List Tk):=Bool.rec (motive:=fun _=>Option ((Nat × Nat) ⊕ List Tk)) (some (.inl (4000,3))) (allK (L+1) L (L+1) (l.drop (Fe (L+1) l)) (Fe (L+1) l)) (Nat.ble L 4000)
def tS(args:List AV)(S:St):R:=match args with
 | [.v (.string s)]=>if s.size≤1000000 then(match lexK s.data.toList.length s.data.toList with
   |some (.inr ts)=>.ret (.tup [.sl 0 0 4 (ts.map C6),.agg (D0 0 0)]) S
   |some (.inl x)=>.ret (.tup [.nils,.agg (D0 x.1 x.2)]) S
   |none=>.fail)else .fail
 |_=>.fail
def AV.plain:AV→Bool
 |.v _=>true
 |_=>false
theorem VR.plain{γ γ':Gh}{w w':World}{a:AV}{x:Value}(h:VR γ w a x)(hp:a.plain=true):VR γ' w' a x:=by
 cases h with
 |v x h=>exact .v x h
 |_=>cases hp
def Ro:List AV→Option (List (List UInt8))
 | []=>some []
 |.v (.string s) :: r=>match Ro r with
  |some l=>some (s.data.toList :: l)
  |none=>none
 |_=>none
theorem Sp:∀{es:List AV} {ws:List (List UInt8)},Ro es=some ws→es=ws.map A2
 | [],ws,h=>by injection h with h;subst h;rfl
 |a :: r,ws,h=>by
  unfold Ro at h
  split at h
  ·cases ‹_ :: _=[]›
  ·rename_i s r' heq
   injection heq with e1 e2;subst e1;subst e2
   split at h
   ·rename_i l hl
    injection h with h;subst h
    rw[Sp hl];rfl
   ·cases h
  ·cases h
def memK(s:List UInt8)(ws:List (List UInt8)):Bool:=List.rec (motive:=fun _=>Bool) false (fun w _ ih=>Bool.rec (motive:=fun _=>Bool) ih true (Ll s w)) ws
theorem oD(s:List UInt8):∀ws,memK s ws=decide (s∈ws)
 | []=>rfl
 |w :: r=>by
  show Bool.rec (motive:=fun _=>Bool) (memK s r) true (Ll s w)=_
  rw[oD s r,Ko]
  cases h:(s == w)with
  |true =>
   have h:s=w:=by simpa using h
   subst h;simp
  |false =>
   have h:¬ s=w:=by simpa using h
   simp[h]
def Jm(args:List AV)(S:St):R:=match args with
 | [.sl tok off 1 es,.v (.string s)]=>match Ro es with
  |some ws=>if ws.length≤100000 then .ret (.v (.bool (memK s.data.toList ws))) S else .fail
  |none=>.fail
 |_=>.fail
theorem Wc(base:Nat)(w0:World)(args:List AV)(S:St)(hne:Jm args S≠.fail)(γ:Gh)(w:World)(vs:List Value)(hS:SR base w0 γ S w)(hg:GR γ w E1.G)(hv:VRL γ w args vs):Calls Tryz.prog 55 vs.toArray w (Kc base w0 γ S w (Jm args S)):=by
 generalize hr:Jm args S=r at hne ⊢;unfold Jm at hr
 split at hr
 case h_2=>exact absurd hr.symm hne
 rename_i tok off es s
 split at hr
 case h_2=>exact absurd hr.symm hne
 rename_i ws hws
 split at hr
 case isFalse=>exact absurd hr.symm hne
 rename_i hlen;have he:=Sp hws;subst he;obtain⟨r2,⟨m0,hm⟩,hpost⟩:=Wb tok off ws s.data.toList hlen S;have hc:=hm m0 (Ja1 _);have hq:r2=r:=by rw[hpost,← hr,oD]
 subst hq;have:=Kx Kr P7 (Gk Kr Ks) m0 base w0 55 [.sl tok off 1 (ws.map A2),A2 s.data.toList] S (by show ckN E1 m0 55 _ S≠_;rw[hc];exact hne) γ w vs hS hg hv (by kernel_rfl)
 rw[show Rd E1 (Bb E1) m0 55 [.sl tok off 1 (ws.map A2),A2 s.data.toList] S=r2 from hc]at this
 exact this
def knownI(k:Nat):Option (List AV→St→R):=Bool.rec (Bool.rec (E1.I k) (some Jm) (Nat.beq k 55)) (some tS) (Nat.beq k 108)
def E2:Env:={ P:=Tryz.prog,G:=gR,F:=E1.F,I:=knownI,M:=rowM }
end Go.Ax
noncomputable section
namespace Go.Ax
open Go.RowKit Go.Proofs
set_option maxRecDepth 100000
end Go.Ax
noncomputable section
namespace Go.Ax
open Go.RowKit
def Gh.fz(γ:Gh)(b n:Nat):Gh:={ γ with im:=fun b' o=>γ.im b' o∨(b' = b∧o<n) }
theorem Ev.fz(γ:Gh)(w:World)(b n:Nat)(h:∀o,o<n→∀v,w.cell? ⟨b,o,none⟩=some v→w.cell? ⟨b,o,none⟩=some v):Ev γ w (γ.fz b n) w :=
 ⟨fun _ _ h=>h,fun _ _ h=>.inl h,fun _ _ _ _ h=>h,fun _ arr _ fr h=>⟨arr,fr,h,rfl⟩⟩
theorem gL{w:World}{b:Nat}{arr:Array Value}{T:TypeId}{fr:Nat × Nat}(ha:w.heap[b]? = some (Obj.cells arr T fr))(o:Nat):w.cell? ⟨b,o,none⟩=arr[o]?:=by
 unfold World.cell?;rw[ha];simp
theorem SR.freeze{base:Nat}{w0 w:World}{γ:Gh}{S:St}(h:SR base w0 γ S w){id:Nat}{cs:List AV}(hid:2≤id)(hm:S.mem.get id=some (.box cs)){b s:Nat}(hl:γ.loc id=some (b,s)):
  SR base w0 (γ.fz b cs.length) (S.kill id) w∧Ext γ S w (γ.fz b cs.length) (S.kill id) w∧s=0∧∃(arr:Array Value) (T:TypeId) (x:List Value),w.heap[b]? = some (Obj.cells arr T (0,0))∧x.length=cs.length∧(∀k (h:k<cs.length) (h':k<x.length),w.cell? ⟨b,k,none⟩=some x[k]∧VR γ w cs[k] x[k])∧(∀c∈cs,c.one=true):=by
 obtain⟨b',s',l1,l2,hs0,hni,hone,arr,T,x,y,ha,hx,hr⟩:=h.live id _ hm;rw[hl]at l1;injection l1 with l1;injection l1 with e1 e2
 subst e1;subst e2;have hk:=h.kill id
 have hcell:∀k (h:k<cs.length) (h':k<x.length),w.cell? ⟨b,k,none⟩=some x[k]:=fun k h1 h2=>by
  rw[gL ha,← Array.getElem?_toList,hx,List.getElem?_append_left h2,Ja4 h2]
 have ev:Ev γ w (γ.fz b cs.length) w:=Ev.fz γ w b _ (fun _ _ _ h=>h)
 refine⟨⟨hk.below,hk.hbase,fun b2 o ho=>?_,hk.fresh,hk.pos,hk.inb,fun i c e=>?_,hk.inj⟩,⟨ev,by rw[St.kill_next];exact Ja1 _,fun _ _=>rfl,Ja1 _,fun i c b2 s2 e l=>.inr ⟨i,c,s2,Ti S id i c e,l⟩,fun b2 hb2 hn=>⟨rfl,fun o ho=>?_⟩⟩,hs0,arr,T,x,ha,hr.1,fun k h1 h2=>⟨hcell k h1 h2,hr.2 k h1 h2⟩,hone⟩
 ·rcases ho with ho | ⟨rfl,ho⟩
  ·exact h.imc b2 o ho
  ·exact⟨_,hcell o ho (by rw[hr.1];exact ho)⟩
 ·obtain⟨b2,s2,m1,m2,m3⟩:=hk.live i c e
  have e':S.mem.get i=some c:=Ti S id i c e
  have hne:b2≠b:=fun hb=>by
   subst hb;have:i=id:=h.inj i id c _ b2 s2 s e' hm m1 hl;subst this;rw[St.kill_get S i i hid,if_pos rfl]at e;cases e
  refine⟨b2,s2,m1,m2,?_⟩
  cases c with
  |box ds =>
   obtain⟨h0,h1,h2,arr2,T2,x2,y2,g1,g2,g3⟩:=m3
   exact⟨h0,fun o ho=>by
    rcases ho with ho | ⟨ho,_⟩
    ·exact h1 o ho
    ·exact hne ho,h2,arr2,T2,x2,y2,g1,g2,g3.mono ev⟩
  |tip m =>
   obtain⟨arr2,T2,g1,g2,g3⟩:=m3
   exact⟨arr2,T2,g1,fun k hk=>by
    rcases hk with hk | ⟨hk,_⟩
    ·exact g2 k hk
    ·exact absurd hk hne,g3⟩
  |mp es =>
   obtain⟨h0,ms,clock,g1,g2,g3⟩:=m3;exact⟨h0,ms,clock,g1,g2,fun k k1 k2=>⟨(g3 k k1 k2).1,(g3 k k1 k2).2.mono ev⟩⟩
 ·rcases ho with ho | ⟨rfl,ho⟩
  ·exact ho
  ·exact absurd hl (hn id _ s hm)
theorem VR.frozen{base:Nat}{w0 w:World}{γ:Gh}{S:St}(h:SR base w0 γ S w){id n sz:Nat}{es:List AV}{v:Value}(hid:2≤id)(hm:S.mem.get id=some (.box (B4 es)))(hn:n=es.length)(hes:∀e∈es,e.cells.length=sz)(hp:∀a∈B4 es,a.plain=true)(hv:VR γ w (.bs id 0 n sz) v):∃b,γ.loc id=some (b,0)∧VR (γ.fz b (B4 es).length) w (.sl 0 0 sz es) v:=by
 cases hv with
 |bs _ _ _ _ b s cap hl hc hsz hb =>
  obtain⟨_,_,hs0,arr,T,x,ha,hxl,hcell,hone⟩:=h.freeze hid hm hl;subst hs0;subst hn;refine⟨b,hl,?_⟩;have hb0:(0:Nat)+0=0:=rfl;rw[hb0];refine .sl 0 0 sz es b 0 cap (fun k=>x.getD k undef) hsz hes hone (fun k hk=>⟨.inr ⟨rfl,by omega⟩,?_⟩) (fun k hk=>?_) (fun h=>by omega) (fun h=>by omega) hc ?_
  ·have h2:k<x.length:=by omega
   rw[Nat.zero_add,(hcell k hk h2).1,List.getD_eq_getElem?_getD,Ja4 h2];rfl
  ·have h2:k<x.length:=by omega
   have:=(hcell k hk h2).2;rw[List.getD_eq_getElem?_getD,Ja4 h2];exact this.plain (hp _ (List.getElem_mem hk))
  ·obtain⟨arr2,T2,fr2,g1,g2⟩:=hb
   exact⟨arr2,T2,fr2,g1,by simpa using g2⟩
end Go.Ax
noncomputable section
namespace Go.Ax
open Go.RowKit Go.Proofs
def insR(r:Option St):OR:=match r with
 |some S'=>.skip S'
 |none=>.fail
def insO(P:Program)(S:St)(t:TypeId)(a b c:Option AV):OR:=match a,b,c with
 |some a,some b,some c=>insR (Na P S t a b c)
 |_,_,_=>.fail
theorem pB(E:Env)(f:T AV)(S:St)(dst:Option Tmp)(t:TypeId)(m k x:Operand)(ty:TypeId)(pos:String)(af:Array Edge)(gd:Option (Nat × Bool)):
  Bg E f S { dst:=dst,op:=.insert t m k x,type:=ty,pos:=pos,after:=af,guard:=gd }=insO E.P S t (A6 E.G f m) (A6 E.G f k) (A6 E.G f x):=by
 simp only[Bg];unfold insO insR;rfl
section
variable {E:Env} {n:Nat} {f:Fr} {S:St} {Q:O → Prop} {ops:Array Oper} {t:T AV} {ds:List Dfr}
theorem C1{o:Oper}{l:List Oper}{a:AV}{S':St}:Si E n ops o l f S Q (some true) (.val a S')=Yo E n ops l o.dst f a S' Q:=_root_.id rfl
theorem Z5{o:Oper}{l:List Oper}{S':St}:Si E n ops o l f S Q (some true) (.skip S')=Yo E n ops l o.dst f (.tup []) S' Q:=_root_.id rfl
theorem Cz{o:Oper}{l:List Oper}{k:FuncId}{args:List AV}{S':St}:Si E n ops o l f S Q (some true) (.enter k args S')=WC E k args S' (retL E n ops l o.dst f Q):=_root_.id rfl
theorem dJ{l:List Oper}{a:AV}:Yo E n ops l none f a S Q=WL E n ops l f S Q:=_root_.id rfl
theorem C0{l:List Oper}{d:Nat}{a:AV}:Yo E n ops l (some d) ⟨t,ds⟩ a S Q=(d<n∧WL E n ops l ⟨t.set d (some a),ds⟩ S Q):=_root_.id rfl
theorem Gv{l:List Oper}{dst:Option Tmp}{a:AV}:retL E n ops l dst f Q (.ret a S)=Yo E n ops l dst f a S Q:=_root_.id rfl
theorem Oq{o:Oper}{l:List RS}:WR E n ops (.re o :: l) f S Q=(Ez E ops o f.tmps S=true∧WR E n ops l f S Q):=_root_.id rfl
theorem Et{o:Oper}{l:List RS}{a:AV}{S':St}:Vn E n ops o l f S Q (some true) (.val a S')=Tb E n ops l o.dst f a S' Q:=_root_.id rfl
theorem vF{o:Oper}{l:List RS}{S':St}:Vn E n ops o l f S Q (some true) (.skip S')=Tb E n ops l o.dst f (.tup []) S' Q:=_root_.id rfl
theorem Fc{o:Oper}{l:List RS}{k:FuncId}{args:List AV}{S':St}:Vn E n ops o l f S Q (some true) (.enter k args S')=WC E k args S' (jP E n ops l o.dst f Q):=_root_.id rfl
theorem sO{l:List RS}{a:AV}:Tb E n ops l none f a S Q=WR E n ops l f S Q:=_root_.id rfl
theorem D2{l:List RS}{d:Nat}{a:AV}:Tb E n ops l (some d) ⟨t,ds⟩ a S Q=(d<n∧WR E n ops l ⟨t.set d (some a),ds⟩ S Q):=_root_.id rfl
theorem F2{l:List RS}{dst:Option Tmp}{a:AV}:jP E n ops l dst f Q (.ret a S)=Tb E n ops l dst f a S Q:=_root_.id rfl
theorem F0{x y:Prop}:Xt (some (.v (.bool true))) x y=x:=_root_.id rfl
theorem F1{x y:Prop}:Xt (some (.v (.bool false))) x y=y:=_root_.id rfl
theorem Rq{b:Code}{id:Nat}:nL E n b Q (.out (.exit id) f S)=Q (.out (.exit id) f S):=_root_.id rfl
theorem Cw{b:Code}:nL E n b Q (.out .ret f S)=Q (.out .ret f S):=_root_.id rfl
theorem Cn{id:Nat}:On id Q (.out .normal f S)=Q (.out .normal f S):=_root_.id rfl
theorem Cg{id:Nat}:On id Q (.out .ret f S)=Q (.out .ret f S):=_root_.id rfl
theorem X0{id id':Nat}:On id Q (.out (.exit id') f S)=if id' = id then Q (.out .normal f S)else Q (.out (.exit id') f S):=_root_.id rfl
theorem Gs{g:Fr}:fixQ ops g Q (.out .normal f S)=Q (.out .normal f S):=_root_.id rfl
end
end Go.Ax
noncomputable section
namespace Go.Ax
open Go.RowKit
open Classical
mutual
theorem Ku:∀a:AV,Bw a=true→Bw (clean a)=true∧clean (clean a)=clean a
 |.sl _ _ sz es,h=>⟨(Kv es h).1,by show AV.sl 0 0 sz (Be (Be es))=_;rw[(Kv es h).2];rfl⟩
 |.agg cs,h=>⟨(Kv cs h).1,by show AV.agg (Be (Be cs))=_;rw[(Kv cs h).2];rfl⟩
 |.tup vs,h=>⟨(Kv vs h).1,by show AV.tup (Be (Be vs))=_;rw[(Kv vs h).2];rfl⟩
 |.v x,h=>⟨rfl,rfl⟩
 |.nilp,h=>⟨rfl,rfl⟩
 |.nils,h=>⟨rfl,rfl⟩
 |.nilm,h=>⟨rfl,rfl⟩
 |.ptr a b,h=>by cases h
 |.ep cs,h=>by cases h
 |.map id,h=>by cases h
 |.fn f a b,h=>by cases h
 |.iface t x,h=>by cases h
 |.bs a b c d,h=>by cases h
theorem Kv:∀l:List AV,C5 l=true→C5 (Be l)=true∧Be (Be l)=Be l
 | [],h=>⟨rfl,rfl⟩
 |a :: r,h=>by
  rw[C5,Ja2]at h;have h1:=Ku a h.1;have h2:=Kv r h.2;refine⟨?_,?_⟩
  ·rw[Be,C5,h1.1,h2.1];rfl
  ·rw[Be,Be,h1.2,h2.2]
end
def PureQ(w:World)(im:Nat→Nat→Prop)(a:AV)(e:Ending)(w':World):Prop :=
 ∃v,∃γ':Gh,e=.returned v∧Below w.heap.size w w'∧(∀b o,γ'.im b o→∃v,w'.cell? ⟨b,o,none⟩=some v)∧(∀b,b<w.heap.size→∀o,γ'.im b o→im b o)∧∀γ2:Gh,(∀b o,γ'.im b o→γ2.im b o)→VR γ2 w' a v
def PureV(P:Program)(k:FuncId)(args:List AV)(a:AV):Prop :=
 ∀(w:World) (im:Nat→Nat→Prop),(∀b o,im b o→∃v,w.cell? ⟨b,o,none⟩=some v)→∀vs:List Value,VRL ⟨fun _=>none,im⟩ w args vs→Calls P k vs.toArray w (PureQ w im a)
structure Kn(P:Program)(Spec:FuncId→List AV→AV→Prop)(k:FuncId)(args:List AV)(a:AV):Prop where
 free:Bw a=true
 cln:clean a=a
 pure:PureV P k args a
 spec:Spec k args a
def Ho(P:Program)(Spec:FuncId→List AV→AV→Prop)(k:FuncId)(args:List AV)(S:St):R :=
 if h:C5 args=true∧∃a,Kn P Spec k (Be args) a then .ret (Classical.choose h.2) S else .fail
theorem Me{P:Program}{Spec:FuncId→List AV→AV→Prop}{k:FuncId}{args:List AV}(hf:C5 args=true)(h:∃a,Kn P Spec k (Be args) a):∃a,(∀S,Ho P Spec k args S=.ret a S)∧Kn P Spec k (Be args) a:=by
 have hh:C5 args=true∧∃a,Kn P Spec k (Be args) a:=⟨hf,h⟩;refine⟨Classical.choose hh.2,fun S=>?_,Classical.choose_spec hh.2⟩
 unfold Ho;rw[dif_pos hh]
theorem Yd{γ γ':Gh}{w:World}(him:∀b o,γ.im b o→γ'.im b o){args:List AV}{vs:List Value}(h:VRL γ w args vs)(hf:C5 args=true):VRL γ' w (Be args) vs:=by
 rw[Io];refine⟨by rw[Ja9];exact h.1,fun k h1 h2=>?_⟩
 rw[Ja9]at h1;rw[List.getElem_map];exact(h.2 k h1 h2).clean him (O4 hf _ (List.getElem_mem h1))
theorem Ny{P:Program}{Spec:FuncId→List AV→AV→Prop}{k:FuncId}(base:Nat)(w0:World)(args:List AV)(S:St)(hne:Ho P Spec k args S≠.fail)(γ:Gh)(w:World)(vs:List Value)(hS:SR base w0 γ S w)(hv:VRL γ w args vs):
  Calls P k vs.toArray w (Kc base w0 γ S w (Ho P Spec k args S)):=by
 by_cases hh:C5 args=true∧∃a,Kn P Spec k (Be args) a
 ·obtain⟨a,ha,hk⟩:=Me hh.1 hh.2
  rw[ha S];refine(hk.pure w γ.im hS.imc vs (Yd (γ:=γ) (γ':=⟨fun _=>none,γ.im⟩) (fun _ _ h=>h) hv hh.1)).mono fun e w' he=>?_
  obtain⟨v,γ',rfl,hb,hc,hl,hr⟩:=he;have hi:∀b o,(⟨fun _=>none,fun b o=>γ'.im b o∧w.heap.size≤b⟩:Gh).im b o→w.heap.size≤b∧∃v,w'.cell? ⟨b,o,none⟩=some v:=fun b o ho=>⟨ho.2,hc b o ho.1⟩
  obtain⟨q1,q2⟩:=hS.more hb hi;refine⟨_,v,q1,q2,hr _ (fun b o ho=>?_),rfl⟩
  by_cases hlt:b<w.heap.size
  ·exact .inl (hl b hlt o ho)
  ·exact .inr ⟨ho,Nat.le_of_not_lt hlt⟩
 ·exfalso
  apply hne;unfold Ho;rw[dif_neg hh]
def N5(E:Env)(f:FuncId):Env:={ E with I:=fun k=>if k=f then none else E.I k }
theorem kL{E:Env}(hI:G8 E)(f:FuncId):G8 (N5 E f):=fun k g hk=>by
 have hk:(if k=f then none else E.I k)=some g:=hk
 split at hk
 ·cases hk
 ·exact hI k g hk
theorem L3(E:Env)(k:FuncId)(f:T AV)(S:St):∀rs,Ba (N5 E k) f S rs=Ba E f S rs
 | []=>rfl
 |.tmp t :: rs=>by
  have ih:=L3 E k f S rs
  show(match f.get t,Ba (N5 E k) f S rs with |some a,some l=>some (a :: l) |_,_=>none)=_
  rw[ih];rfl
 |.cell x t :: rs=>by
  have ih:=L3 E k f S rs
  show(match f.get x with |some a=>(match A8 E.P S t a,Ba (N5 E k) f S rs with |some a,some l=>some (a :: l) |_,_=>none) |none=>none)=_
  rw[ih];rfl
theorem Ul{E:Env}(hE:E.Ok)(hI:G8 E)(hmix:E.P.follows .mixedOrders=true)(hG:E.G=fun _=>none){Spec:FuncId→List AV→AV→Prop}{k:FuncId}{args:List AV}(fn:Func)(hF:E.F k=some fn)(hb:fn.body.isSome=true)(hl:args.length≤fn.ntmps)
  (h:W E fn.ntmps (fn.body.getD .skip) ⟨Cx args 0,[]⟩ St0 (U6 E fn.results.toList (fun r=>∃a S',r=.ret a S'∧Bw a=true∧Spec k args (clean a)))):∃a,Kn E.P Spec k args a:=by
 obtain⟨r,⟨m0,hm⟩,hq⟩:=Bp h;have hm:=hm m0 (Ja1 _);obtain⟨c,hc⟩:=Jc0.1 hb;rw[hc]at hm
 have give:∀(Q:R→Prop) (f:Fr) (S':St),Cm E fn.results.toList f S' Q→∃l,f.dfr=[]∧Ba E f.tmps S' fn.results.toList=some l∧Q (.ret (D8 l) S'):=fun Q f S' hg=>by
  unfold Cm at hg
  split at hg
  ·rename_i l h1 h2;exact⟨l,h1,h2,hg⟩
  ·exact hg.elim
 have key:∃a S',Jc (N5 E k) (run E (Bb E) m0) k args St0=.ret a S'∧Bw a=true∧Spec k args (clean a):=by
  have e:Jc (N5 E k) (run E (Bb E) m0) k args St0=Q7 (N5 E k) (run E (Bb E) m0) fn r:=by
   unfold Jc;have h1:(N5 E k).I k=none:=by show(if k=k then none else E.I k)=none;rw[if_pos rfl]
   have h2:(N5 E k).F k=some fn:=hF;rw[h1,h2];simp only[hc,if_pos hl];rw[show run E (Bb E) m0 fn.ntmps c ⟨Cx args 0,[]⟩ St0=r from hm]
  rw[e]
  cases r with
  |fail=>exact hq.elim
  |out ee f' S' =>
   cases ee with
   |normal =>
    obtain⟨l,h1,h2,a,S2,h3,h4⟩:=give (fun r=>∃a S',r=.ret a S'∧Bw a=true∧Spec k args (clean a)) f' S' hq
    have h2':Ba (N5 E k) f'.tmps S' fn.results.toList=some l:=(L3 E k _ _ _).trans h2;exact⟨a,S2,by simp only[Q7,h1,Kl,h2'];exact h3,h4⟩
   |ret =>
    obtain⟨l,h1,h2,a,S2,h3,h4⟩:=give (fun r=>∃a S',r=.ret a S'∧Bw a=true∧Spec k args (clean a)) f' S' hq
    have h2':Ba (N5 E k) f'.tmps S' fn.results.toList=some l:=(L3 E k _ _ _).trans h2;exact⟨a,S2,by simp only[Q7,h1,Kl,h2'];exact h3,h4⟩
   |pan a =>
    obtain⟨_,_,_,hp,_⟩:=hq;cases hp
   |exit id=>exact hq.elim
 obtain⟨a,S',hst,hfr,hsp⟩:=key;refine⟨clean a,(Ku a hfr).1,(Ku a hfr).2,fun w im him vs hv=>?_,hsp⟩
 have hS0:SR w.heap.size w ⟨fun _=>none,im⟩ St0 w:=⟨.refl _ _,Ja1 _,him,fun _ _=>⟨rfl,rfl⟩,Ja1 _,fun _ _ _ h=>(by cases h),fun _ _ h=>(by cases h),fun _ _ _ _ _ _ _ h=>(by cases h)⟩
 have hR:CodeOk E (run E (Bb E) m0):=M7 hE hI (Gk hE hmix) m0;have hR':CodeOk (N5 E k) (run E (Bb E) m0):=⟨hR.code,hR.loop⟩;have hE':(N5 E k).Ok:=⟨fun j fn h=>hE.fn j fn h⟩
 have hg:GR ⟨fun _=>none,im⟩ w (N5 E k).G:=by
  have:(N5 E k).G=fun _=>none:=hG
  rw[this];exact GR.none
 have:=Lz hE' (kL hI k) hR' w.heap.size w k args St0 (by rw[hst];intro e;cases e) ⟨fun _=>none,im⟩ w vs hS0 hg hv (by show(E.F k).isSome=true;rw[hF];rfl)
 rw[hst]at this;refine this.mono fun e w' he=>?_
 obtain⟨γ',v,h1,h2,h3,rfl⟩:=he;refine⟨v,γ',rfl,h1.below,h1.imc,fun b hlt o ho=>(h2.frame b hlt (fun id c s hm hl=>by cases hl)).2 o ho,fun γ2 h=>h3.clean h hfr⟩
end Go.Ax
noncomputable section
namespace Go.Ax
open Go.RowKit
def cl1(c:Option Cell)(k:Nat):Option AV:=match c with
 |some (.box cs)=>cs[k]?
 |_=>none
def clN(c:Option Cell)(k n:Nat):Option AV:=match c with
 |some (.box cs)=>if k+n≤cs.length then some (.agg ((cs.drop k).take n))else none
 |_=>none
theorem cl1_box(cs:List AV)(k:Nat):cl1 (some (.box cs)) k=cs[k]?:=_root_.id rfl
theorem clN_box(cs:List AV)(k n:Nat):clN (some (.box cs)) k n=if k+n≤cs.length then some (.agg ((cs.drop k).take n))else none:=_root_.id rfl
theorem Nr{P:Program}{t:TypeId}(ha:B9 P t=some false)(S:St)(p k:Nat):A8 P S t (.ptr p k)=cl1 (S.mem.get p) k:=by
 unfold A8 Ca cl1;simp only[ha]
 cases h:S.mem.get p with
 |none=>simp only[h]
 |some c =>
  cases c with
  |box cs =>
   simp only[h]
   by_cases hk:k≤cs.length
   ·rw[if_pos hk]
    simp only
    cases hd:cs.drop k with
    |nil =>
     have hl:=congrArg List.length hd;simp at hl;rw[List.getElem?_eq_none (by omega)];rfl
    |cons a r =>
     have h0:(cs.drop k)[0]? = some a:=by rw[hd];rfl
     rw[List.getElem?_drop,Nat.add_zero]at h0;rw[h0];rfl
   ·rw[if_neg hk,List.getElem?_eq_none (by omega)]
  |tip m=>simp only[h]
  |mp es=>simp only[h]
theorem Wl{P:Program}{t:TypeId}{n:Nat}(ha:B9 P t=some true)(hs:Cl P t=some (n+1))(S:St)(p k:Nat):A8 P S t (.ptr p k)=clN (S.mem.get p) k (n+1):=by
 unfold A8 Ca clN;simp only[ha,hs]
 cases h:S.mem.get p with
 |none=>simp only[h]
 |some c =>
  cases c with
  |box cs =>
   simp only[h]
   by_cases hk:k≤cs.length
   ·rw[if_pos hk]
    simp only[Jb4]
    by_cases hn:n+1≤cs.length - k
    ·rw[if_pos hn,if_pos (by omega)]
    ·rw[if_neg hn,if_neg (by omega)]
   ·rw[if_neg hk,if_neg (by omega)]
  |tip m=>simp only[h]
  |mp es=>simp only[h]
theorem Jz{P:Program}{t:TypeId}(ha:B9 P t=some false)(S:St)(c:AV)(cs:List AV):A8 P S t (.ep (c :: cs))=some c:=by
 unfold A8 Ca;simp only[ha];rfl
theorem Pz{P:Program}{t:TypeId}{n:Nat}(ha:B9 P t=some true)(hs:Cl P t=some n)(S:St)(cs:List AV):A8 P S t (.ep cs)=if n≤cs.length then some (.agg (cs.take n))else none:=by
 unfold A8 Ca;simp only[ha,hs]
def Ia(S:St)(c:Option Cell)(b k:Nat)(v:AV)(n:Nat):Option St:=match c with
 |some (.box cs)=>if v.noTup && n == v.cells.length && decide (k+v.cells.length≤cs.length)then some { S with mem:=S.mem.set b (some (.box (cs.take k ++ v.cells ++ cs.drop (k+v.cells.length)))) } else none
 |_=>none
theorem Jr{P:Program}{t:TypeId}{n:Nat}(hs:Cl P t=some n)(S:St)(b k:Nat)(v:AV):Bl P S t (.ptr b k) v=Ia S (S.mem.get b) b k v n:=by
 unfold Bl Ia;simp only[hs]
 cases S.mem.get b with
 |none=>rfl
 |some c=>cases c <;> rfl
def St.to(S:St)(b:Nat)(cs:List AV):St:={ S with mem:=S.mem.set b (some (.box cs)) }
theorem vstB_agg(S:St)(cs:List AV)(b k:Nat)(xs:List AV)(n:Nat):Ia S (some (.box cs)) b k (.agg xs) n=if n=xs.length∧k+xs.length≤cs.length then some (S.to b (cs.take k ++ xs ++ cs.drop (k+xs.length)))else none:=by
 show(if(true && n == xs.length && decide (k+xs.length≤cs.length))=true then some (S.to b (cs.take k ++ xs ++ cs.drop (k+xs.length)))else none)=_
 simp only[Bool.true_and,Ja2,beq_iff_eq,decide_eq_true_eq]
def AV.single:AV→Bool
 |.tup _=>false
 |.agg _=>false
 |_=>true
theorem Ws{a:AV}(h:a.single=true):a.noTup=true∧a.cells=[a]:=by
 cases a <;> first |exact⟨rfl,rfl⟩ |cases h
theorem Ql{a:AV}(h:a.single=true)(S:St)(cs:List AV)(b k:Nat):Ia S (some (.box cs)) b k a 1=if k+1≤cs.length then some (S.to b (cs.take k ++ a :: cs.drop (k+1)))else none:=by
 unfold Ia;simp only[(Ws h).1,(Ws h).2,Jb7,List.length_nil,Bool.true_and,Nat.zero_add,beq_self_eq_true,decide_eq_true_eq,List.append_assoc,List.cons_append,List.nil_append];rfl
theorem vstB_v(x:Value)(S:St)(cs:List AV)(b k:Nat):Ia S (some (.box cs)) b k (.v x) 1=if k+1≤cs.length then some (S.to b (cs.take k ++ .v x :: cs.drop (k+1)))else none:=Ql rfl S cs b k
theorem vstB_s(tok off sz:Nat)(es:List AV)(S:St)(cs:List AV)(b k:Nat):Ia S (some (.box cs)) b k (.sl tok off sz es) 1=if k+1≤cs.length then some (S.to b (cs.take k ++ .sl tok off sz es :: cs.drop (k+1)))else none:=Ql rfl S cs b k
theorem A5(S:St)(b id:Nat)(cs:List AV):(S.to b cs).mem.get id=if id=b then some (.box cs)else S.mem.get id:=by
 show(S.mem.set b _).get id=_
 rw[T.get_set]
theorem Ei(S:St)(b:Nat)(cs:List AV):(S.to b cs).next=S.next:=_root_.id rfl
theorem Bj(S:St)(id:Nat)(cs:List AV):(S.newBox cs).mem.get id=if id=S.next then some (.box cs)else S.mem.get id:=by
 show(S.mem.set S.next _).get id=_
 rw[T.get_set]
theorem B6(S:St)(cs:List AV):(S.newBox cs).next=S.next+1:=_root_.id rfl
theorem st0_get(id:Nat):St0.mem.get id=none:=T.get_leaf id
theorem Br:St0.next=2:=_root_.id rfl
theorem L7(xs:List AV):(AV.agg xs).cells=xs:=_root_.id rfl
theorem noTup_agg(xs:List AV):(AV.agg xs).noTup=true:=_root_.id rfl
def Ka(sz:Nat)(S:St)(tok:Nat)(es:List AV):Prop:=tok=1∨(2≤tok∧tok<S.next∧S.mem.get tok=some (.tip (es.length*sz)))
theorem Ka.one(sz:Nat)(S:St)(es:List AV):Ka sz S 1 es:=.inl rfl
theorem Ka.keep{sz:Nat}{S S':St}{tok:Nat}{es:List AV}(h:Ka sz S tok es)(hn:S.next≤S'.next)(hk:2≤tok→tok<S.next→S'.mem.get tok=S.mem.get tok):Ka sz S' tok es:=by
 rcases h with h | ⟨h1,h2,h3⟩
 ·exact .inl h
 ·exact .inr ⟨h1,Ja0 h2 hn,(hk h1 h2).trans h3⟩
structure RowT(P:Program)(t e sz bytes:Nat):Prop where
 el:Fs P t=some (none,e)
 un:P.underlying t=some (.slice e)
 info:∃i z,P.info? e=some i∧i.zero=some z∧z.cells.size=i.size∧i.size=sz∧i.bytes=bytes
 pos:0<sz
 few:bytes≤1000
theorem J3{P:Program}{t e sz bytes:Nat}(TT:RowT P t e sz bytes){E:Env}(hP:E.P=P)(hM:E.M t=0){S:St}{tok:Nat}{es:List AV}(h:Ka sz S tok es)(hn:2≤S.next)(x:AV)(hx:x.cells.length=sz)(hl:es.length≤2000000):
  ∃S',Ej E S t t (.sl tok 0 sz es) (.sl 1 0 sz [x])=some (.sl S.next 0 sz (es ++ [x]),S')∧Ka sz S' S.next (es ++ [x])∧S'.next=S.next+1∧∀id,id≠tok→id<S.next→S'.mem.get id=S.mem.get id:=by
 obtain⟨i,z,hi,hz0,hz1,hz2,hz3⟩:=TT.info;have hfew:=TT.few;have hpos:=TT.pos;have hb0:(es.length+1)*bytes≤2000001*1000:=Nat.mul_le_mul (by omega) hfew
 have hb1:(es.length+1)*bytes≤140737488355328:=by omega
 have hb2:es.length+1≤9223372036854775807:=by omega
 have app:Ej E S t t (.sl tok 0 sz es) (.sl 1 0 sz [x])=Ds P S t t (.sl tok 0 sz es) (.sl 1 0 sz [x]):=by
  unfold Ej;rw[hM,hP]
 rw[app];have hsz:i.size=sz:=hz2;subst hsz;subst hz3;rcases h with rfl | ⟨h1,h2,h3⟩
 ·refine⟨S.grown 1 ((es ++ [x]).length*i.size),?_,.inr ⟨hn,Ja5 _,?_⟩,rfl,fun id hne hid=>?_⟩
  ·simp[Ds,TT.el,TT.un,hi,hz0,hz1,K9,Le,hb1,hb2,hpos]
  ·show(S.mem.set S.next _).get S.next=_
   rw[T.get_set,if_pos rfl]
  ·show(S.mem.set S.next _).get id=_
   rw[T.get_set,if_neg (by omega)]
 ·obtain⟨k,rfl⟩:∃k,tok=k+2:=⟨tok - 2,by omega⟩
  refine⟨S.grown (k+2) ((es ++ [x]).length*i.size),?_,.inr ⟨hn,Ja5 _,?_⟩,rfl,fun id hne hid=>?_⟩
  ·simp[Ds,TT.el,TT.un,hi,hz0,hz1,K9,Le,h3,hb1,hb2,hpos]
  ·show((S.mem.set (k+2) none).set S.next _).get S.next=_
   rw[T.get_set,if_pos rfl]
  ·show((S.mem.set (k+2) none).set S.next _).get id=_
   rw[T.get_set,if_neg (by omega),T.get_set,if_neg (by omega)]
theorem Wy{P:Program}{t e sz bytes:Nat}(TT:RowT P t e sz bytes){E:Env}(hP:E.P=P)(hM:E.M t=0){S:St}(hn:2≤S.next)(x:AV)(hx:x.cells.length=sz):
  ∃S',Ej E S t t .nils (.sl 1 0 sz [x])=some (.sl S.next 0 sz [x],S')∧Ka sz S' S.next [x]∧S'.next=S.next+1∧∀id,2≤id→id<S.next→S'.mem.get id=S.mem.get id:=by
 obtain⟨i,z,hi,hz0,hz1,hz2,hz3⟩:=TT.info;have hfew:=TT.few;have hpos:=TT.pos
 have app:Ej E S t t .nils (.sl 1 0 sz [x])=Ds P S t t .nils (.sl 1 0 sz [x]):=by
  unfold Ej;rw[hM,hP]
 rw[app];have hsz:i.size=sz:=hz2;subst hsz;subst hz3;have hb1:i.bytes≤140737488355328:=by omega
 refine⟨S.grown 1 (1*i.size),?_,.inr ⟨hn,Ja5 _,?_⟩,rfl,fun id hne hid=>?_⟩
 ·simp[Ds,TT.el,TT.un,hi,hz0,hz1,K9,Le,hb1,hpos]
 ·show(S.mem.set S.next _).get S.next=_
  rw[T.get_set,if_pos rfl];simp
 ·show(S.mem.set S.next _).get id=_
  rw[T.get_set,if_neg (by omega)]
end Go.Ax
noncomputable section
namespace Go.Ax
open Go.RowKit Go.Proofs
set_option maxRecDepth 100000
mutual
def Cp:PE→Nat
 |.mk _ _ _ _ _ kids=>1+Ch kids
def Ch:List PE→Nat
 | []=>0
 |e :: r=>Cp e+Ch r
end
mutual
def dN:PE→Nat
 |.mk _ _ _ _ _ kids=>1+dNL kids
def dNL:List PE→Nat
 | []=>0
 |e :: r=>max (dN e) (dNL r)
end
mutual
theorem dN_le:∀x:PE,dN x≤Cp x
 |.mk _ _ _ _ _ kids=>by rw[dN,Cp];have:=dNL_le kids;omega
theorem dNL_le:∀l:List PE,dNL l≤Ch l
 | []=>by rw[dNL,Ch];omega
 |e :: r=>by rw[dNL,Ch];have:=dN_le e;have:=dNL_le r;omega
end
theorem V8:∀(l m:List PE),Ch (l ++ m)=Ch l+Ch m
 | [],m=>by simp[Ch]
 |e :: r,m=>by rw[List.cons_append,Ch,Ch,V8 r m];omega
theorem deepN_pos(x:PE):1≤Cp x:=by cases x;rw[Cp];omega
theorem Pp:∀l:List PE,l.length≤Ch l
 | []=>by rw[Ch];exact Ja1 _
 |e :: r=>by rw[Ch,Jb7];have:=deepN_pos e;have:=Pp r;omega
section
variable {ts:List Tk}
structure RdX(ts:List Tk)(k:NT)(i:Nat)(x:PE)(j:Nat):Prop where
 from_:∃n,∀m,n≤m→P ts m k i=.ok x j
 lt:i<j
 deep:Cp x+i≤j
structure RowX(ts:List Tk)(ws:List (List UInt8))(k:NT)(x:PE)(i:Nat)(y:PE)(j:Nat):Prop where
 from_:∃n,∀m m2,n≤m→n≤m2→Iv ts ws (P ts m k) m2 x i=.ok y j
 le:i≤j
 deep:∀d,Cp x+d≤i→Cp y+d≤j
structure WhenX(ts:List Tk)(x:PE)(i:Nat)(y:PE)(j:Nat):Prop where
 from_:∃n,∀m,n≤m→Ih ts m x i=.ok y j
 le:i≤j
 deep:∀d,Cp x+d≤i→Cp y+d≤j
structure RestX(ts:List Tk)(k:NT)(l:List PE)(i:Nat)(r:List PE)(j:Nat):Prop where
 from_:∃n,∀m m2,n≤m→n≤m2→F9 ts (P ts m k) m2 l i=.ok r j
 lt:i<j
 deep:∀d,Ch l+d≤i→Ch r+d≤j
theorem Ek{ws:List (List UInt8)}{i:Nat}(h:(tk ts i).text∈ws):B2 ts ws i=.ok (tk ts i) (i+1):=by unfold B2;rw[if_pos h]
theorem Ji{k i:Nat}(h:(tk ts i).kind=k):Eu ts k i=.ok (tk ts i) (i+1):=by unfold Eu;rw[if_pos h]
theorem Cj{α β:Type}(a:α)(i:Nat)(f:α→Nat→PR β):(PR.ok a i).bind f=f a i:=rfl
theorem Fw{n m:Nat}(h:n+1≤m):∃k,m=k+1∧n≤k:=⟨m - 1,by omega,by omega⟩
theorem rd_if{i j1 j2 j3:Nat}{c y z:PE}(h0:(tk ts i).text∈[[105,102]])(h1:RdX ts .expr (i+1) c j1)(t1:(tk ts j1).text∈[[116,104,101,110]])(h2:RdX ts .expr (j1+1) y j2)(t2:(tk ts j2).text∈[[101,108,115,101]])(h3:RdX ts .expr (j2+1) z j3):
  RdX ts .expr i (.mk 7 (tk ts i).pos 0 [] false [c,y,z]) j3:=by
 obtain⟨⟨n1,e1⟩,l1,d1⟩:=h1;obtain⟨⟨n2,e2⟩,l2,d2⟩:=h2;obtain⟨⟨n3,e3⟩,l3,d3⟩:=h3;refine⟨⟨n1+n2+n3+1,fun m hm=>?_⟩,by omega,?_⟩
 ·obtain⟨k,rfl,hk⟩:=Fw hm
  simp only[P,if_pos h0,e1 k (by omega),e2 k (by omega),e3 k (by omega),Cj,Ek t1,Ek t2]
 ·simp only[Cp,Ch];omega
theorem rd_ex{i j:Nat}{x:PE}(h0:(tk ts i).text ∉ [[105,102]])(h1:RdX ts .arrow i x j):RdX ts .expr i x j:=by
 obtain⟨⟨n1,e1⟩,l1,d1⟩:=h1;refine⟨⟨n1+1,fun m hm=>?_⟩,l1,d1⟩
 obtain⟨k,rfl,hk⟩:=Fw hm;simp only[P,if_neg h0,e1 k hk]
theorem rd_ar{i j m:Nat}{x y:PE}(h1:RdX ts .or i x j)(h0:(tk ts j).text∈[[45,62]])(h2:RdX ts .arrow (j+1) y m):RdX ts .arrow i (.mk 8 (tk ts j).pos 0 [] false [x,y]) m:=by
 obtain⟨⟨n1,e1⟩,l1,d1⟩:=h1;obtain⟨⟨n2,e2⟩,l2,d2⟩:=h2;refine⟨⟨n1+n2+1,fun m hm=>?_⟩,by omega,?_⟩
 ·obtain⟨k,rfl,hk⟩:=Fw hm
  simp only[P,e1 k (by omega),e2 k (by omega),Cj,if_pos h0]
 ·simp only[Cp,Ch];omega
theorem rd_fb{i j m:Nat}{x y:PE}(h1:RdX ts .or i x j)(hn:(tk ts j).text ∉ [[45,62]])(hc:H5 x=true)(h0:(tk ts j).text∈[[102,98,121]])(h2:RdX ts .arrow (j+1) y m):RdX ts .arrow i (.mk 9 (tk ts j).pos 0 [] false [x,y]) m:=by
 obtain⟨⟨n1,e1⟩,l1,d1⟩:=h1;obtain⟨⟨n2,e2⟩,l2,d2⟩:=h2;refine⟨⟨n1+n2+1,fun m hm=>?_⟩,by omega,?_⟩
 ·obtain⟨k,rfl,hk⟩:=Fw hm
  simp only[P,e1 k (by omega),e2 k (by omega),Cj,if_neg hn,hc,Bool.true_eq_false,if_false,if_pos h0]
 ·simp only[Cp,Ch];omega
theorem rd_ax{i j:Nat}{x:PE}(h1:RdX ts .or i x j)(hn:(tk ts j).text ∉ [[45,62]])(h0:(tk ts j).text ∉ [[102,98,121]]):RdX ts .arrow i x j:=by
 obtain⟨⟨n1,e1⟩,l1,d1⟩:=h1;refine⟨⟨n1+1,fun m hm=>?_⟩,l1,d1⟩
 obtain⟨k,rfl,hk⟩:=Fw hm;simp only[P,e1 k hk,Cj,if_neg hn,if_neg h0,ite_self]
theorem rU{ws:List (List UInt8)}{k:NT}{x:PE}{i:Nat}(h0:(tk ts i).text ∉ ws):RowX ts ws k x i x i:=by
 refine⟨⟨1,fun m m2 h h2=>?_⟩,Ja1 _,fun d h=>h⟩
 obtain⟨q,rfl,hq⟩:=Fw (n:=0) h2;simp only[Iv,if_neg h0]
theorem row_go{ws:List (List UInt8)}{k:NT}{x y z:PE}{i j m:Nat}(h0:(tk ts i).text∈ws)(h1:RdX ts k (i+1) y j)(h2:RowX ts ws k (.mk 6 (tk ts i).pos 0 (tk ts i).text false [x,y]) j z m):RowX ts ws k x i z m:=by
 obtain⟨⟨n1,e1⟩,l1,d1⟩:=h1;obtain⟨⟨n2,e2⟩,l2,d2⟩:=h2;refine⟨⟨n1+n2+1,fun m m2 h h2=>?_⟩,by omega,fun d h=>d2 d ?_⟩
 ·obtain⟨q,rfl,hq⟩:=Fw h2
  simp only[Iv,if_pos h0,e1 m (by omega),Cj,e2 m q (by omega) (by omega)]
 ·simp only[Cp,Ch];omega
theorem nT{ws:List (List UInt8)}{k nt:NT}(he:∀m i,P ts (m+1) nt i=(P ts m k i).bind fun x j=>Iv ts ws (P ts m k) m x j){i j m:Nat}{x y:PE}(h1:RdX ts k i x j)(h2:RowX ts ws k x j y m):RdX ts nt i y m:=by
 obtain⟨⟨n1,e1⟩,l1,d1⟩:=h1;obtain⟨⟨n2,e2⟩,l2,d2⟩:=h2;refine⟨⟨n1+n2+1,fun m hm=>?_⟩,by omega,d2 i d1⟩
 obtain⟨q,rfl,hq⟩:=Fw hm;rw[he,e1 q (by omega),Cj,e2 q q (by omega) (by omega)]
theorem rd_or{i j m:Nat}{x y:PE}(h1:RdX ts .and i x j)(h2:RowX ts [[111,114],[120,111,114]] .and x j y m):RdX ts .or i y m:=nT (fun m i=>by simp only[P]) h1 h2
theorem rd_and{i j m:Nat}{x y:PE}(h1:RdX ts .not i x j)(h2:RowX ts [[97,110,100]] .not x j y m):RdX ts .and i y m:=nT (fun m i=>by simp only[P]) h1 h2
theorem rd_sum{i j m:Nat}{x y:PE}(h1:RdX ts .term i x j)(h2:RowX ts [[43],[45]] .term x j y m):RdX ts .sum i y m:=nT (fun m i=>by simp only[P]) h1 h2
theorem rd_term{i j m:Nat}{x y:PE}(h1:RdX ts .unary i x j)(h2:RowX ts [[42],[47],[109,111,100]] .unary x j y m):RdX ts .term i y m:=nT (fun m i=>by simp only[P]) h1 h2
theorem rd_not{i j:Nat}{x:PE}(h0:(tk ts i).text∈[[110,111,116]])(h1:RdX ts .not (i+1) x j):RdX ts .not i (.mk 5 (tk ts i).pos 0 [] false [x]) j:=by
 obtain⟨⟨n1,e1⟩,l1,d1⟩:=h1;refine⟨⟨n1+1,fun m hm=>?_⟩,by omega,?_⟩
 ·obtain⟨k,rfl,hk⟩:=Fw hm
  simp only[P,if_pos h0,e1 k hk,Cj]
 ·simp only[Cp,Ch];omega
theorem rd_cmp{i j m:Nat}{x y:PE}(hn:(tk ts i).text ∉ [[110,111,116]])(h1:RdX ts .sum i x j)(h0:(tk ts j).text∈[[61],[60,62],[60],[60,61],[62],[62,61]])(h2:RdX ts .sum (j+1) y m):RdX ts .not i (.mk 6 (tk ts j).pos 0 (tk ts j).text false [x,y]) m:=by
 obtain⟨⟨n1,e1⟩,l1,d1⟩:=h1;obtain⟨⟨n2,e2⟩,l2,d2⟩:=h2;refine⟨⟨n1+n2+1,fun m hm=>?_⟩,by omega,?_⟩
 ·obtain⟨k,rfl,hk⟩:=Fw hm
  simp only[P,if_neg hn,e1 k (by omega),e2 k (by omega),Cj,if_pos h0]
 ·simp only[Cp,Ch];omega
theorem rd_cmx{i j:Nat}{x:PE}(hn:(tk ts i).text ∉ [[110,111,116]])(h1:RdX ts .sum i x j)(h0:(tk ts j).text ∉ [[61],[60,62],[60],[60,61],[62],[62,61]]):RdX ts .not i x j:=by
 obtain⟨⟨n1,e1⟩,l1,d1⟩:=h1;refine⟨⟨n1+1,fun m hm=>?_⟩,l1,d1⟩
 obtain⟨k,rfl,hk⟩:=Fw hm;simp only[P,if_neg hn,e1 k hk,Cj,if_neg h0]
theorem rd_pre{i j:Nat}{x:PE}(h0:(tk ts i).text∈[[112,114,101]])(h1:RdX ts .unary (i+1) x j):RdX ts .unary i (.mk 10 (tk ts i).pos 0 [] false [x]) j:=by
 obtain⟨⟨n1,e1⟩,l1,d1⟩:=h1;refine⟨⟨n1+1,fun m hm=>?_⟩,by omega,?_⟩
 ·obtain⟨k,rfl,hk⟩:=Fw hm
  simp only[P,if_pos h0,e1 k hk,Cj]
 ·simp only[Cp,Ch];omega
theorem rd_bel{i j:Nat}{x:PE}(hn:(tk ts i).text ∉ [[112,114,101]])(h0:F3 ts i=true)(h1:I7 ts i=.ok x j)(hlt:i<j)(hd:Cp x=1):RdX ts .unary i x j:=by
 refine⟨⟨1,fun m hm=>?_⟩,hlt,by omega⟩
 obtain⟨k,rfl,hk⟩:=Fw (n:=0) hm;simp only[P,if_neg hn,if_pos h0,h1]
theorem rd_neg{i j:Nat}{x:PE}(hn:(tk ts i).text ∉ [[112,114,101]])(hb:F3 ts i=false)(h0:(tk ts i).text∈[[45]])(h1:RdX ts .unary (i+1) x j):RdX ts .unary i (.mk 4 (tk ts i).pos 0 [] false [x]) j:=by
 obtain⟨⟨n1,e1⟩,l1,d1⟩:=h1;refine⟨⟨n1+1,fun m hm=>?_⟩,by omega,?_⟩
 ·obtain⟨k,rfl,hk⟩:=Fw hm
  simp only[P,if_neg hn,hb,Am,Ab,if_pos h0,e1 k hk,Cj]
 ·simp only[Cp,Ch];omega
theorem rd_un{i j m:Nat}{x y:PE}(hn:(tk ts i).text ∉ [[112,114,101]])(h0:(tk ts i).text ∉ [[45]])(h1:RdX ts .primary i x j)(h2:WhenX ts x j y m):RdX ts .unary i y m:=by
 obtain⟨⟨n1,e1⟩,l1,d1⟩:=h1;obtain⟨⟨n2,e2⟩,l2,d2⟩:=h2;refine⟨⟨n1+n2+2,fun m hm=>?_⟩,by omega,d2 i d1⟩
 obtain⟨k,rfl,hk⟩:=Fw hm;obtain⟨q,rfl,hq⟩:=Fw (n:=n1+n2) hk
 have hb:F3 ts i=false:=by
  unfold F3;rw[decide_eq_false (fun e=>h0 (by rw[e];exact Jb5.2 rfl))]
  rfl
 simp only[P,if_neg hn,hb,Bool.false_eq_true,if_false,if_neg h0,e1 q (by omega),e2 q (by omega),Cj]
theorem when_stop{x:PE}{i:Nat}(h0:(tk ts i).text ∉ [[119,104,101,110]]):WhenX ts x i x i:=by
 refine⟨⟨1,fun m h=>?_⟩,Ja1 _,fun d h=>h⟩
 obtain⟨q,rfl,hq⟩:=Fw (n:=0) h;simp only[Ih,if_neg h0]
theorem when_go{x y:PE}{i j m:Nat}{c:List UInt8 × Bool}(h0:(tk ts i).text∈[[119,104,101,110]])(hc:Gg ts (i+1)=.ok c j)(hl:i<j)(h2:WhenX ts (.mk 11 (tk ts i).pos 0 c.1 c.2 [x]) j y m):WhenX ts x i y m:=by
 obtain⟨⟨n2,e2⟩,l2,d2⟩:=h2;refine⟨⟨n2+1,fun m h=>?_⟩,by omega,fun d h=>d2 d ?_⟩
 ·obtain⟨q,rfl,hq⟩:=Fw h
  simp only[Ih,if_pos h0,hc,Cj,e2 q hq]
 ·simp only[Cp,Ch];omega
theorem Zg{i:Nat}(h0:(tk ts i).text∈[[110,111,116]])(h1:(tk ts (i+1)).kind=1):Gg ts i=.ok ((tk ts (i+1)).text,true) (i+2):=by
 unfold Gg;rw[if_pos h0,Ji h1];rfl
theorem gI{i:Nat}(h0:(tk ts i).text ∉ [[110,111,116]])(h1:(tk ts i).kind=1):Gg ts i=.ok ((tk ts i).text,false) (i+1):=by
 unfold Gg;rw[if_neg h0,Ji h1];rfl
theorem rd_num{i j:Nat}{x:PE}(h0:(tk ts i).kind=2)(h1:I7 ts i=.ok x j)(hlt:i<j)(hd:Cp x=1):RdX ts .primary i x j:=by
 refine⟨⟨1,fun m hm=>?_⟩,hlt,by omega⟩
 obtain⟨k,rfl,hk⟩:=Fw (n:=0) hm;simp only[P,if_pos h0,h1]
theorem rd_var{i:Nat}(h0:(tk ts i).kind=1)(hn:(tk ts (i+1)).text≠[40]):RdX ts .primary i (.mk 3 (tk ts i).pos 0 (tk ts i).text false []) (i+1):=by
 have h2:¬ (tk ts i).kind=2:=by omega
 refine⟨⟨2,fun m hm=>?_⟩,by omega,by simp only[Cp,Ch];omega⟩
 obtain⟨k,rfl,hk⟩:=Fw hm;obtain⟨q,rfl,hq⟩:=Fw (n:=0) hk;simp only[P,if_neg h2,if_pos h0,if_neg hn,Ji h0,Cj]
theorem rd_call{i j:Nat}{x:PE}(h0:(tk ts i).kind=1)(hn:(tk ts (i+1)).text=[40])(h1:RdX ts .call i x j):RdX ts .primary i x j:=by
 have h2:¬ (tk ts i).kind=2:=by omega
 obtain⟨⟨n1,e1⟩,l1,d1⟩:=h1;refine⟨⟨n1+2,fun m hm=>?_⟩,l1,d1⟩
 obtain⟨k,rfl,hk⟩:=Fw hm;obtain⟨q,rfl,hq⟩:=Fw (n:=n1) hk;simp only[P,if_neg h2,if_pos h0,if_pos hn,e1 q hq]
theorem rd_call0{i:Nat}(h0:(tk ts i).kind=1)(h1:(tk ts (i+1)).text∈[[40]])(h2:(tk ts (i+2)).text∈[[41]]):RdX ts .call i (.mk 13 (tk ts i).pos 0 (tk ts i).text false []) (i+3):=by
 refine⟨⟨1,fun m hm=>?_⟩,by omega,by simp only[Cp,Ch];omega⟩
 obtain⟨k,rfl,hk⟩:=Fw (n:=0) hm;simp only[P,I4,Ji h0,Cj,Ek h1,if_pos h2]
theorem rd_callN{i j m:Nat}{x:PE}{l:List PE}(h0:(tk ts i).kind=1)(h1:(tk ts (i+1)).text∈[[40]])(h2:(tk ts (i+2)).text ∉ [[41]])(hx:RdX ts .expr (i+2) x j)(hr:RestX ts .expr [x] j l m):RdX ts .call i (.mk 13 (tk ts i).pos 0 (tk ts i).text false l) m:=by
 obtain⟨⟨n1,e1⟩,l1,d1⟩:=hx;obtain⟨⟨n2,e2⟩,l2,d2⟩:=hr;have hd:Ch [x]=Cp x:=by simp only[Ch];omega
 have:=d2 (i+1) (by rw[hd];omega)
 refine⟨⟨n1+n2+1,fun m hm=>?_⟩,by omega,by simp only[Cp];omega⟩
 obtain⟨k,rfl,hk⟩:=Fw hm;simp only[P,I4,Ji h0,Cj,Ek h1,if_neg h2,e1 k (by omega),e2 k k (by omega) (by omega)]
theorem jQ{k:NT}{l:List PE}{i:Nat}(hn:(tk ts i).text ∉ [[44]])(h0:(tk ts i).text∈[[41]]):RestX ts k l i l (i+1):=by
 refine⟨⟨1,fun m m2 h h2=>?_⟩,by omega,fun d h=>by omega⟩
 obtain⟨q,rfl,hq⟩:=Fw (n:=0) h2;simp only[F9,if_neg hn,Ek h0,Cj]
theorem rest_go{k:NT}{l r:List PE}{y:PE}{i j m:Nat}(h0:(tk ts i).text∈[[44]])(h1:RdX ts k (i+1) y j)(h2:RestX ts k (l ++ [y]) j r m):RestX ts k l i r m:=by
 obtain⟨⟨n1,e1⟩,l1,d1⟩:=h1;obtain⟨⟨n2,e2⟩,l2,d2⟩:=h2;refine⟨⟨n1+n2+1,fun m m2 h h2=>?_⟩,by omega,fun d h=>d2 d ?_⟩
 ·obtain⟨q,rfl,hq⟩:=Fw h2
  simp only[F9,if_pos h0,e1 m (by omega),Cj,e2 m q (by omega) (by omega)]
 ·rw[V8]
  simp only[Ch];omega
theorem sN{i:Nat}(hk:(tk ts i).kind=3)(h0:(tk ts i).text=[116,114,117,101]∨(tk ts i).text=[102,97,108,115,101]):RdX ts .primary i (G4 (tk ts i)) (i+1):=by
 have h1:¬ (tk ts i).kind=1:=by omega
 have h2:¬ (tk ts i).kind=2:=by omega
 refine⟨⟨1,fun m hm=>?_⟩,by omega,by simp only[G4,Cp,Ch];omega⟩
 obtain⟨k,rfl,hk⟩:=Fw (n:=0) hm;simp only[P,if_neg h1,if_neg h2,if_pos h0]
theorem rd_merge{i j1 j2:Nat}{x y:PE}(hk:(tk ts i).kind=3)(h0:(tk ts i).text=[109,101,114,103,101])(hn:(tk ts (i+1)).kind=1)(h1:RdX ts .brk (i+2) x j1)(h2:RdX ts .brk j1 y j2):RdX ts .primary i (.mk 12 (tk ts i).pos 0 (tk ts (i+1)).text false [x,y]) j2:=by
 have k1:¬ (tk ts i).kind=1:=by omega
 have k2:¬ (tk ts i).kind=2:=by omega
 have k3:¬ ((tk ts i).text=[116,114,117,101]∨(tk ts i).text=[102,97,108,115,101]):=by rw[h0];decide
 obtain⟨⟨n1,e1⟩,l1,d1⟩:=h1;obtain⟨⟨n2,e2⟩,l2,d2⟩:=h2;refine⟨⟨n1+n2+1,fun m hm=>?_⟩,by omega,by simp only[Cp,Ch];omega⟩
 obtain⟨k,rfl,hk⟩:=Fw hm;simp only[P,if_neg k1,if_neg k2,if_neg k3,if_pos h0,Ji hn,Cj,e1 k (by omega),e2 k (by omega)]
theorem xN{i j:Nat}{x:PE}(h0:(tk ts i).text∈[[40]])(h1:RdX ts .expr (i+1) x j)(h2:(tk ts j).text∈[[41]]):RdX ts .brk i x (j+1):=by
 obtain⟨⟨n1,e1⟩,l1,d1⟩:=h1;refine⟨⟨n1+1,fun m hm=>?_⟩,by omega,by omega⟩
 obtain⟨k,rfl,hk⟩:=Fw hm;simp only[P,Ek h0,Cj,e1 k hk,Ek h2]
theorem rd_aw0{i:Nat}(hk:(tk ts i).kind=3)(h0:(tk ts i).text=[97,119,97,105,116])(hn:(tk ts (i+1)).kind=1)(ha:(tk ts (i+2)).text ∉ [[97,102,116,101,114]]):RdX ts .primary i (.mk 14 (tk ts i).pos 0 (tk ts (i+1)).text false []) (i+2):=by
 have k1:¬ (tk ts i).kind=1:=by omega
 have k2:¬ (tk ts i).kind=2:=by omega
 have k3:¬ ((tk ts i).text=[116,114,117,101]∨(tk ts i).text=[102,97,108,115,101]):=by rw[h0];decide
 have k4:¬ (tk ts i).text=[109,101,114,103,101]:=by rw[h0];decide
 refine⟨⟨1,fun m hm=>?_⟩,by omega,by simp only[Cp,Ch];omega⟩
 obtain⟨k,rfl,hk⟩:=Fw (n:=0) hm;simp only[P,if_neg k1,if_neg k2,if_neg k3,if_neg k4,if_pos h0,Ji hn,Cj,if_neg ha]
theorem rd_awN{i j m:Nat}{x:PE}{l:List PE}(hk:(tk ts i).kind=3)(h0:(tk ts i).text=[97,119,97,105,116])(hn:(tk ts (i+1)).kind=1)(ha:(tk ts (i+2)).text∈[[97,102,116,101,114]])(hb:(tk ts (i+3)).text∈[[40]])(hx:RdX ts .lit (i+4) x j)(hr:RestX ts .lit [x] j l m):
  RdX ts .primary i (.mk 14 (tk ts i).pos 0 (tk ts (i+1)).text false l) m:=by
 have k1:¬ (tk ts i).kind=1:=by omega
 have k2:¬ (tk ts i).kind=2:=by omega
 have k3:¬ ((tk ts i).text=[116,114,117,101]∨(tk ts i).text=[102,97,108,115,101]):=by rw[h0];decide
 have k4:¬ (tk ts i).text=[109,101,114,103,101]:=by rw[h0];decide
 obtain⟨⟨n1,e1⟩,l1,d1⟩:=hx;obtain⟨⟨n2,e2⟩,l2,d2⟩:=hr;have hd:Ch [x]=Cp x:=by simp only[Ch];omega
 have:=d2 (i+1) (by rw[hd];omega)
 refine⟨⟨n1+n2+1,fun m hm=>?_⟩,by omega,by simp only[Cp];omega⟩
 obtain⟨k,rfl,hk⟩:=Fw hm;simp only[P,if_neg k1,if_neg k2,if_neg k3,if_neg k4,if_pos h0,Ji hn,Cj,if_pos ha,Ek hb,e1 k (by omega),e2 k k (by omega) (by omega)]
theorem rd_litT{i:Nat}(h0:(tk ts i).text∈[[116,114,117,101],[102,97,108,115,101]]):RdX ts .lit i (G4 (tk ts i)) (i+1):=by
 refine⟨⟨1,fun m hm=>?_⟩,by omega,by simp only[G4,Cp,Ch];omega⟩
 obtain⟨k,rfl,hk⟩:=Fw (n:=0) hm;simp only[P,if_pos h0]
theorem rd_litN{i j:Nat}{x:PE}(h0:(tk ts i).text ∉ [[116,114,117,101],[102,97,108,115,101]])(h1:I7 ts i=.ok x j)(hlt:i<j)(hd:Cp x=1):RdX ts .lit i x j:=by
 refine⟨⟨1,fun m hm=>?_⟩,hlt,by omega⟩
 obtain⟨k,rfl,hk⟩:=Fw (n:=0) hm;simp only[P,if_neg h0,h1]
end
end Go.Ax
