/- ZzC -/
import Derived.Test.YtimbgdjbggdgmaaGreatDoorNcG25
import Derived.Test.YtimbgdjbggdgmaaGreatDoorNcG19
import Derived.Test.YtimbgdjbggdgmaaGreatDoorNcG17
import Derived.Lib.Join
import Derived.Lib.ItoaLen
import Derived.Test.YtimbgdjbggdgmaaGreatDoorNcG16
import Derived.Test.YtimbgdjbggdgmaaGreatDoorNcG18
set_option linter.unusedVariables false
set_option linter.unusedSimpArgs false
set_option maxHeartbeats 16000000
noncomputable section
open Nat (reduceEqDiff)
namespace Go.Ax
open Go.RowKit Go.Proofs
set_option maxRecDepth 100000
def tsOf(l:List UInt8):List Tk:=match Iw l with
 |some (.inr us)=>us
 |_=>[]
theorem tsOf_is{l:List UInt8}{us:List Tk}(h:Iw l=some (.inr us)):tsOf l=us:=by unfold tsOf;rw[h]
def SpProg(args:List AV)(a:AV):Prop:=∀l:List UInt8,args=[A2 l]→∃(v:AV) (e at_:Int),a=.tup [v,.v (.int .i64 e),.v (.int .i64 at_)]∧(e=0→∃ts nodes,Iw l=some (.inr ts)∧Lr v nodes∧aG ts nodes)
def Qd(k:FuncId)(args:List AV)(a:AV):Prop:=match k with
 |20=>SpProg args a
 |_=>False
theorem fH{l:List UInt8}{v:AV}(e at_:Int)(S':St)(hv:Bw v=true)(hh:e=0→∃ts nodes,Iw l=some (.inr ts)∧Lr (clean v) nodes∧aG ts nodes):∃a S'',R.ret (.tup [v,.v (.int .i64 e),.v (.int .i64 at_)]) S' = R.ret a S''∧Bw a=true∧Qd 20 [A2 l] (clean a):=by
 refine⟨_,_,rfl,by show(Bw _ && true)=true;rw[hv];rfl,?_⟩
 intro l' h;have:=J6 (Cy h).1;subst this;exact⟨clean v,e,at_,rfl,hh⟩
theorem use_all{ts:List Tk}{l:List UInt8}{S:St}{Q:R→Prop}(hA:Kn3 ts 63 [A2 l])(h:∀(v:AV) (e at_:Int),Bw v=true→clean v=v→(e=0→∃us,v=lvA us∧Iw l=some (.inr us))→Q (.ret (.tup [v,.v (.int .i64 e),.v (.int .i64 at_)]) S)):WC (E3 ts) 63 [A2 l] S Q :=
 P9 hA (by kernel_rfl) rfl rfl fun a hf hc hs=>by
  obtain⟨v,e,at_,rfl,q⟩:=hs l rfl;refine h v e at_ ?_ ?_ q
  ·have hf:(Bw _ && (true && (true && true)))=true:=hf
   simpa using hf
  ·have hc:AV.tup [clean _,_,_]=_:=hc
   injection hc with hc
   injection hc
theorem program_k(l:List UInt8)(hA:∃a,Kn Tryz.prog (Fv []) 63 [A2 l] a)(hT:∀ts,Iw l=some (.inr ts)→Tok3 ts∧0<ts.length):∃a,Kn Tryz.prog Qd 20 [A2 l] a:=by
 obtain⟨a0,hk0⟩:=hA;have hA:Kn3 (tsOf l) 63 [A2 l]:=⟨a0,hk0.free,hk0.cln,hk0.pure,hk0.spec⟩;refine Ul (e3_ok (tsOf l)) (e3_intr (tsOf l)) (e3_mix (tsOf l)) rfl Tryz.f20 (by kernel_rfl) (by kernel_rfl) (by show(_:Nat)≤_;simp[Tryz.f20]) ?_
 obtain⟨fn1,hf1⟩:=fX 63;simp(disch:=omega)only[go_sem,reduceEqDiff,Tryz.f20,A2,hf1];refine use_all hA fun v e at_ hv hc hh=>?_
 by_cases he:e=0
 ·subst he
  obtain⟨us,rfl,hl⟩:=hh rfl;obtain⟨ht,hpos⟩:=hT us hl;have hts:=tsOf_is hl;rw[hts];have hbl:=yb118_l (lvA us) 0 0 _ rfl;have h0:((0:Int) != 0)=false:=rfl;simp(disch:=omega)only[go_sem,Nat.reduceAdd,reduceEqDiff,Nat.reduceLeDiff,h0,hbl,Bool.and_self];have key:=fun t S=>pg_lp ht (us.length+1) 0 0 0 1 [] t S
  unfold xT at key;simp only[Tryz.f20]at key;refine WX.mono (key _ _ (fun _=>by omega) (by omega) hpos En (fun _=>Nat.zero_le _) ⟨?_,?_,?_,.inl rfl,by omega,?_⟩ (fun _=>⟨[],.nil,.inl ⟨rfl,rfl⟩⟩)) ?_
  ·simp only[A0,reduceEqDiff,Aa,Ab] <;> rfl
  ·simp only[A0,reduceEqDiff,Aa,Ab] <;> rfl
  ·simp only[A5,Bj,Br,Aa] <;> rfl
  ·simp only[Ei,B6,Br];omega
  rintro _ ⟨t',S',rfl,m,e2,p2,tok,es,⟨T8,T9,M2,RO,hne,hnx⟩,g,hr⟩;unfold stL at M2
  by_cases he2:e2=0
  ·subst he2
   simp(disch:=omega)only[go_sem,Nat.reduceLT,reduceEqDiff,T8,T9,M2,h0];obtain⟨nodes,hn1,hn2⟩:=hr rfl;exact fH 0 0 _ g.1 (fun _=>⟨us,nodes,hl,⟨0,0,_,rfl,oN hn1⟩,hn2⟩)
  ·have e1n:(e2 != 0)=true:=by rw[bne_iff_ne];exact he2
   simp(disch:=omega)only[go_sem,Nat.reduceLT,reduceEqDiff,T8,T9,M2,e1n];refine Dd [(0,true),(1,true),(2,true),(3,true),(4,true),(5,true),(6,true)] (by kernel_rfl) (by kernel_rfl) ?_
   simp(disch:=omega)only[go_sem,reduceEqDiff,T8,M2];exact fH e2 p2 _ rfl (fun h=>absurd h he2)
 ·have h0:(e != 0)=true:=by rw[bne_iff_ne];exact he
  simp(disch:=omega)only[go_sem,reduceEqDiff,h0];exact fH e at_ _ rfl (fun h=>absurd h he)
def E7{α β:Type}(R:α→β→Prop):PR α→PR β→Prop
 |.ok a i,.ok b j=>i=j∧R a b
 |.bad _ e,.bad _ e'=>e=e'
 |.out,.out=>True
 |_,_=>False
section
variable {α β γ δ:Type}
theorem E7.bind{R:α→β→Prop}{Q:γ→δ→Prop}{x:PR α}{y:PR β}{f:α→Nat→PR γ}{g:β→Nat→PR δ}(h:E7 R x y)(hf:∀a b i,R a b→E7 Q (f a i) (g b i)):E7 Q (x.bind f) (y.bind g):=by
 cases x <;> cases y <;> simp only[E7,PR.bind]at h ⊢ <;> first |exact h |exact h.elim | (obtain⟨rfl,h⟩:=h;exact hf _ _ _ h)
theorem E7.ite{Q:γ→δ→Prop}{c c':Prop}[Decidable c][Decidable c'](hc:c↔c'){x y:PR γ}{x' y':PR δ}(h1:c→E7 Q x x')(h2:¬ c→E7 Q y y'):E7 Q (if c then x else y) (if c' then x' else y'):=by
 by_cases h:c
 ·rw[if_pos h,if_pos (hc.1 h)];exact h1 h
 ·rw[if_neg h,if_neg (fun h'=>h (hc.2 h'))];exact h2 h
theorem E7.ok{R:α→β→Prop}{a:α}{b:β}{i:Nat}(h:R a b):E7 R (.ok a i) (.ok b i):=⟨rfl,h⟩
end
mutual
inductive LikeE:PE→PE→Prop where
 |mk (kind pos pos':Nat) (n:Int) (name:List UInt8) (off:Bool) (kids kids':List PE) (h:LikeL kids kids'):LikeE (.mk kind pos n name off kids) (.mk kind pos' n name off kids')
inductive LikeL:List PE→List PE→Prop where
 |nil:LikeL [] []
 |cons (a b:PE) (l m:List PE) (h:LikeE a b) (h2:LikeL l m):LikeL (a :: l) (b :: m)
end
theorem LikeL.snoc:∀{l m:List PE} {a b:PE},LikeL l m→LikeE a b→LikeL (l ++ [a]) (m ++ [b])
 | [],[],a,b,.nil,h=>.cons _ _ _ _ h .nil
 |_ :: _,_ :: _,a,b,.cons _ _ _ _ h h2,k=>.cons _ _ _ _ h (h2.snoc k)
theorem LikeL.one{a b:PE}(h:LikeE a b):LikeL [a] [b]:=.cons _ _ _ _ h .nil
theorem LikeL.two{a b c d:PE}(h:LikeE a b)(k:LikeE c d):LikeL [a,c] [b,d]:=.cons _ _ _ _ h (.one k)
theorem LikeL.three{a b c d e f:PE}(h:LikeE a b)(k:LikeE c d)(m:LikeE e f):LikeL [a,c,e] [b,d,f]:=.cons _ _ _ _ h (.two k m)
def wF(t u:Tk):Prop:=t.kind=u.kind∧t.text=u.text∧t.num=u.num
structure LikeS(ts us:List Tk):Prop where
 len:ts.length=us.length
 at_:∀i,wF (tk ts i) (tk us i)
section
variable {ts us:List Tk} (h:LikeS ts us)
include h
theorem LikeS.kind(i:Nat):(tk ts i).kind=(tk us i).kind:=(h.at_ i).1
theorem LikeS.text(i:Nat):(tk ts i).text=(tk us i).text:=(h.at_ i).2.1
omit h in
end
inductive Each2{α β:Type}(R:α→β→Prop):List α→List β→Prop where
 |nil:Each2 R [] []
 |cons (a:α) (b:β) (l:List α) (m:List β) (h:R a b) (h2:Each2 R l m):Each2 R (a :: l) (b :: m)
theorem Each2.snoc{α β:Type}{R:α→β→Prop}:∀{l:List α} {m:List β} {a:α} {b:β},Each2 R l m→R a b→Each2 R (l ++ [a]) (m ++ [b])
 | [],[],a,b,.nil,h=>.cons _ _ _ _ h .nil
 |_ :: _,_ :: _,a,b,.cons _ _ _ _ h h2,k=>.cons _ _ _ _ h (h2.snoc k)
theorem Each2.one{α β:Type}{R:α→β→Prop}{a:α}{b:β}(h:R a b):Each2 R [a] [b]:=.cons _ _ _ _ h .nil
section
variable {ts us:List Tk} (h:LikeS ts us)
include h
omit h in
omit h in
end
def N6:PE→Nat
 |.mk kind _ _ _ _ _=>kind
structure KI where
 text:List UInt8
 binds:Nat
 kind:Nat
def Hy:PE→Nat
 |.mk _ _ _ _ _ kids=>1+sizeL kids
where sizeL:List PE→Nat
 | []=>0
 |e :: r=>Hy e+sizeL r
inductive Fit:PE→Prop where
 |mk (kind pos:Nat) (n:Int) (name:List UInt8) (off:Bool) (kids:List PE) (hn:-9223372036854775808≤n∧n≤9223372036854775807) (hname:name.length≤30) (hk:∀e∈kids,Fit e):Fit (.mk kind pos n name off kids)
def cZ:List (List UInt8):=[[32],[10],[9],[32,45,45,32,40,120,10]]
theorem Mm{p:UInt8→Bool}{b:UInt8}{r:List UInt8}(h:p b=true):cnt p (b :: r)=cnt p r+1:=by
 show(if p b then cnt p r+1 else 0)=_
 rw[if_pos h]
theorem Ra(p:UInt8→Bool):∀(l:List UInt8),(∀b∈l.take (cnt p l),p b=true)∧(l.take (cnt p l)).length=cnt p l
 | []=>⟨by intro b hb;simp[cnt]at hb,by simp[cnt]⟩
 |b :: r=>by
  have ih:=Ra p r;unfold cnt
  cases hb:p b with
  |false=>simp
  |true =>
   simp only[Aa,List.take_succ_cons,Jb7,Jb8,forall_eq_or_imp];exact⟨⟨hb,ih.1⟩,by rw[ih.2]⟩
theorem mH{c:UInt8}(hc:c=32∨c=10∨c=9):Bq c=false∧Bi c=false∧Cf c=true:=by
 rcases hc with rfl |rfl |rfl <;> exact⟨rfl,rfl,rfl⟩
theorem Lv{b:UInt8}{r:List UInt8}(h:Cf b=false):cnt Cf (b :: r)=0:=by unfold cnt;rw[h];rfl
theorem Kh{c:UInt8}(hc:c=32∨c=10∨c=9)(N:Nat)(R:List UInt8):Fe (N+1) (c :: R)=1+Fe (N+1) R:=by
 obtain⟨_,_,c3⟩:=mH hc;have e:cnt Cf (c :: R)=cnt Cf R+1:=Mm c3;rw[Pc,Pc,e];simp only[List.drop_succ_cons,Nat.add_right_comm _ 1]
 split <;> omega
theorem J7{R:List UInt8}(h1:cnt Cf R=0)(h2:Ci [45,45] R=false)(N:Nat):Fe N R=0:=by
 cases N with
 |zero=>rfl
 |succ N=>rw[Pc,h1];simp only[Jd1];rw[h2];rfl
def laid(f:Nat→List UInt8):Nat→List Tk→List UInt8
 |_,[]=>[]
 |k,t :: r=>t.text ++ (f k ++ laid f (k+1) r)
inductive FromLex:List Tk→Prop where
 |last (t:Tk) (h:t.kind=5∧t.text=[]∧t.num=0):FromLex [t]
 |cons (t:Tk) (r:List Tk) (l:List UInt8) (a:Nat) (h:Fx l a=some (t,0)) (hr:FromLex r):FromLex (t :: r)
theorem mL(l:List UInt8):∀(n i:Nat) (ts:List Tk),L9 l n i=some (.inr ts)→FromLex ts
 |0,i,ts,h=>by cases h
 |n+1,i,ts,h=>by
  unfold L9 at h
  by_cases hi:i<l.length
  ·rw[if_pos hi]at h
   split at h
   ·cases h
   ·rename_i p hp
    by_cases h0:p.2=0
    ·rw[if_pos h0]at h
     split at h
     ·cases h
     ·injection h with h;cases h
     ·rename_i us hu
      injection h with h;injection h with h;subst h
      obtain⟨t,x⟩:=p;simp only at h0;subst h0;exact .cons t us _ _ hp (mL l n _ us hu)
    ·rw[if_neg h0]at h;injection h with h;cases h
  ·rw[if_neg hi]at h
   injection h with h;injection h with h;subst h
   exact .last _ ⟨rfl,rfl,rfl⟩
theorem Yw{l:List UInt8}{ts:List Tk}(h:Iw l=some (.inr ts)):FromLex ts:=by
 unfold Iw at h
 split at h
 ·injection h with h;cases h
 ·exact mL _ _ _ _ h
inductive LikeTs:List Tk→List Tk→Prop where
 |nil:LikeTs [] []
 |cons (t u:Tk) (r s:List Tk) (h:wF t u) (h2:LikeTs r s):LikeTs (t :: r) (u :: s)
theorem LikeTs.s:∀{ts us:List Tk},LikeTs ts us→LikeS ts us
 |_,_,.nil=>⟨rfl,fun i=>⟨rfl,rfl,rfl⟩⟩
 |_,_,.cons t u r s h h2=>⟨by simp[h2.s.len],fun i=>by
  cases i with
  |zero=>exact h
  |succ i=>exact h2.s.at_ i⟩
section
variable {f:Nat → List UInt8} (hf:∀ k,f k ∈ cZ) (T:List UInt8)
include hf
end
def OkR{α:Type}(Q:α→Nat→Prop)(x:PR α):Prop:=∀a j,x=.ok a j→Q a j
section
variable {α β:Type}
theorem OkR.ok{Q:α→Nat→Prop}{a:α}{j:Nat}(h:Q a j):OkR Q (.ok a j):=fun a' j' e=>by injection e with e1 e2;subst e1;subst e2;exact h
theorem OkR.bad{Q:α→Nat→Prop}{a e:Nat}:OkR Q (.bad a e:PR α):=fun a' j' e=>by cases e
theorem OkR.out{Q:α→Nat→Prop}:OkR Q (.out:PR α):=fun a' j' e=>by cases e
theorem OkR.bind{Q:α→Nat→Prop}{R:β→Nat→Prop}{x:PR α}{f:α→Nat→PR β}(h:OkR Q x)(hf:∀a j,Q a j→OkR R (f a j)):OkR R (x.bind f):=by
 cases x with
 |ok a j=>exact hf a j (h a j rfl)
 |bad a e=>exact .bad
 |out=>exact .out
theorem OkR.ite{Q:α→Nat→Prop}{c:Prop}[Decidable c]{x y:PR α}(h1:c→OkR Q x)(h2:¬ c→OkR Q y):OkR Q (if c then x else y):=by
 by_cases h:c
 ·rw[if_pos h];exact h1 h
 ·rw[if_neg h];exact h2 h
end
def NameOk(ts:List Tk):Prop:=∀i,(tk ts i).kind=1→(tk ts i).text.length≤30
section
variable {ts:List Tk} (hts:NameOk ts)
include hts
omit hts in
omit hts in
omit hts in
omit hts in
omit hts in
omit hts in
omit hts in
omit hts in
omit hts in
end
def PR.le{α:Type}(a b:PR α):Prop:=a≠.out→b=a
theorem le_refl{α:Type}(a:PR α):a.le a:=fun _=>rfl
theorem Eg{α β:Type}{x y:PR α}{f g:α→Nat→PR β}(h:x.le y)(hf:∀a i,(f a i).le (g a i)):(x.bind f).le (y.bind g):=by
 intro ho;have hx:x≠.out:=fun e=>ho (by rw[e];rfl)
 rw[h hx]
 cases x with
 |ok a i=>exact hf a i ho
 |bad a e=>rfl
 |out=>exact absurd rfl hx
theorem Mk{α:Type}{c:Prop}[Decidable c]{x y x' y':PR α}(h1:x.le y)(h2:x'.le y'):(if c then x else x').le (if c then y else y'):=by
 split
 ·exact h1
 ·exact h2
section
variable {ts:List Tk}
theorem rowP_le{ws:List (List UInt8)}{kid kid':Nat→PR PE}(hk:∀i,(kid i).le (kid' i)):∀(n:Nat) (x:PE) (i:Nat),(Iv ts ws kid n x i).le (Iv ts ws kid' (n+1) x i)
 |0,x,i=>fun ho=>absurd rfl ho
 |n+1,x,i=>by
  unfold Iv;exact Mk (Eg (hk _) fun a j=>rowP_le hk n _ j) (le_refl _)
theorem qL:∀(n:Nat) (x:PE) (i:Nat),(Ih ts n x i).le (Ih ts (n+1) x i)
 |0,x,i=>fun ho=>absurd rfl ho
 |n+1,x,i=>by
  unfold Ih;exact Mk (Eg (le_refl _) fun a j=>qL n _ j) (le_refl _)
theorem dD{kid kid':Nat→PR PE}(hk:∀i,(kid i).le (kid' i)):∀(n:Nat) (l:List PE) (i:Nat),(F9 ts kid n l i).le (F9 ts kid' (n+1) l i)
 |0,x,i=>fun ho=>absurd rfl ho
 |n+1,x,i=>by
  unfold F9;exact Mk (Eg (hk _) fun a j=>dD hk n _ j) (le_refl _)
theorem listP_le{kid kid':Nat→PR PE}(hk:∀i,(kid i).le (kid' i))(n i:Nat):(I4 ts kid n i).le (I4 ts kid' (n+1) i):=by
 unfold I4;exact Eg (le_refl _) fun _ j=>Mk (le_refl _) (Eg (hk _) fun a j=>dD hk n _ j)
theorem P_le:∀(n:Nat) (nt:NT) (i:Nat),(P ts n nt i).le (P ts (n+1) nt i)
 |0,nt,i=>fun ho=>absurd rfl ho
 |n+1,nt,i=>by
  have ih:=P_le n;cases nt <;> unfold P <;> repeat' (first |exact le_refl _ |exact ih _ _ |exact rowP_le (fun i=>ih _ i) _ _ _ |exact qL _ _ _ |exact dD (fun i=>ih _ i) _ _ _ |exact listP_le (fun i=>ih _ i) _ _ |refine Mk ?_ ?_ |refine Eg ?_ ?_ |intro _ _)
end
abbrev TK:=Nat × List UInt8 × Nat
def absT(t:Tk):TK:=(t.kind,t.text,t.num)
def B7(ts:List Tk)(i:Nat)(us:List TK):Prop:=(ts.drop i).map absT=us
def Gj:List TK→List UInt8
 | []=>[]
 |x :: _=>x.2.1
theorem B7.cons{ts:List Tk}{i:Nat}{x:TK}{r:List TK}(h:B7 ts i (x :: r)):(tk ts i).kind=x.1∧(tk ts i).text=x.2.1∧(tk ts i).num=x.2.2∧ts[i]? = some (tk ts i)∧B7 ts (i+1) r:=by
 unfold B7 at h
 cases hd:ts.drop i with
 |nil=>rw[hd]at h;cases h
 |cons t q =>
  rw[hd]at h;injection h with h1 h2
  have hg:ts[i]? = some t:=by
   have:(ts.drop i)[0]? = some t:=by rw[hd];rfl
   simpa using this
  have ht:tk ts i=t:=by unfold tk;rw[hg];rfl
  have hq:ts.drop (i+1)=q:=by
   have:(ts.drop i).drop 1=q:=by rw[hd];rfl
   simpa[List.drop_drop]using this
  rw[ht];subst h1;exact⟨rfl,rfl,rfl,hg,by unfold B7;rw[hq];exact h2⟩
theorem B7.head{ts:List Tk}{i:Nat}{us:List TK}(h:B7 ts i us):(tk ts i).text=Gj us:=by
 cases us with
 |nil =>
  unfold B7 at h;have hd:ts.drop i=[]:=List.map_eq_nil_iff.1 h;have hl:ts.length≤i:=List.drop_eq_nil_iff.1 hd;unfold tk;rw[List.getElem?_eq_none hl];rfl
 |cons x r=>exact h.cons.2.1
theorem B7.skip{ts:List Tk}:∀{us:List TK} {i:Nat} {r:List TK},B7 ts i (us ++ r)→B7 ts (i+us.length) r
 | [],i,r,h=>h
 |x :: us,i,r,h=>by
  have:=B7.skip (us:=us) (h.cons.2.2.2.2);rw[Jb7,show i+(us.length+1)=i+1+us.length by omega];exact this
def C3:Nat→List (List UInt8)
 |1=>[[45,62],[102,98,121]]
 |2=>[[111,114],[120,111,114]]
 |3=>[[97,110,100]]
 |5=>[[61],[60,62],[60],[60,61],[62],[62,61]]
 |6=>[[43],[45]]
 |7=>[[42],[47],[109,111,100]]
 |9=>[[119,104,101,110]]
 |10=>[[40],[97,102,116,101,114]]
 |_=>[]
def Gn(L:Nat)(us:List TK):Prop:=∀k,L≤k→Gj us ∉ C3 k
theorem Gn.mono{L M:Nat}{us:List TK}(h:Gn L us)(hl:L≤M):Gn M us:=fun k hk=>h k (Jb2 hl hk)
def iM:Nat→NT
 |0=>.expr
 |1=>.arrow
 |2=>.or
 |3=>.and
 |4=>.not
 |5=>.sum
 |6=>.sum
 |7=>.term
 |8=>.unary
 |9=>.when
 |_=>.primary
def RdA(ts:List Tk)(i j:Nat)(e:PE)(nt:NT):Prop:=∃e',LikeE e e'∧∃N,∀n,N≤n→P ts n nt i=.ok e' j
def RdB(ts:List Tk)(i j:Nat)(e:PE)(L:Nat):Prop:=∃e',LikeE e e'∧∃N k,∀n,N≤n→P ts (n+1) (iM L) i=Iv ts (C3 L) (P ts n (iM (L+1))) (n - k) e' j
def RdW(ts:List Tk)(i j:Nat)(e:PE):Prop:=∃e',LikeE e e'∧∃N k,∀n,N≤n→P ts (n+1) .when i=Ih ts (n - k) e' j
theorem RdB.a{ts:List Tk}{i j L:Nat}{e:PE}{rest:List TK}(h:RdB ts i j e L)(hs:B7 ts j rest)(hn:Gj rest ∉ C3 L):RdA ts i j e (iM L):=by
 obtain⟨e',he,N,k,h⟩:=h;refine⟨e',he,N+k+2,fun n hle=>?_⟩
 obtain⟨m,rfl⟩:∃m,n=m+1:=⟨n - 1,by omega⟩
 rw[h m (by omega)]
 obtain⟨q,hq⟩:∃q,m - k=q+1:=⟨m - k - 1,by omega⟩
 rw[hq];unfold Iv;rw[hs.head,if_neg hn]
theorem RdW.a{ts:List Tk}{i j:Nat}{e:PE}{rest:List TK}(h:RdW ts i j e)(hs:B7 ts j rest)(hn:Gj rest ∉ C3 9):RdA ts i j e .when:=by
 obtain⟨e',he,N,k,h⟩:=h;refine⟨e',he,N+k+2,fun n hle=>?_⟩
 obtain⟨m,rfl⟩:∃m,n=m+1:=⟨n - 1,by omega⟩
 rw[h m (by omega)]
 obtain⟨q,hq⟩:∃q,m - k=q+1:=⟨m - k - 1,by omega⟩
 rw[hq];unfold Ih;rw[hs.head,if_neg (show Gj rest ∉ [[119,104,101,110]] from hn)]
structure Hd(b:Nat)(us:List TK):Prop where
 ne:us≠[]
 h9:9≤b→Gj us≠[45]∧Gj us≠[112,114,101]
 h5:5≤b→Gj us≠[110,111,116]
 h1:1≤b→Gj us≠[105,102]
 hb:Gj us≠[41]
theorem Hd.mono{a b:Nat}{us:List TK}(h:Hd b us)(hl:a≤b):Hd a us:=⟨h.ne,fun x=>h.h9 (by omega),fun x=>h.h5 (by omega),fun x=>h.h1 (by omega),h.hb⟩
theorem Hh{us r:List TK}(h:us≠[]):Gj (us ++ r)=Gj us:=by
 cases us with
 |nil=>exact absurd rfl h
 |cons x q=>rfl
section
variable {ts:List Tk} {i j:Nat} {e:PE}
def Low(ts:List Tk)(i j:Nat)(e:PE)(rest:List TK)(L:Nat):Prop:=(∀M,M≤L→M≠5→Gn M rest→RdA ts i j e (iM M))∧(∀M,M≤L→(M=2∨M=3∨M=6∨M=7)→Gn (M+1) rest→RdB ts i j e M)
variable {us rest:List TK}
theorem Low.up{L:Nat}(h:Low ts i j e rest L)(ha:L+1≠5→Gn (L+1) rest→RdA ts i j e (iM (L+1)))(hb:(L+1=2∨L+1=3∨L+1=6∨L+1=7)→Gn (L+2) rest→RdB ts i j e (L+1)):Low ts i j e rest (L+1):=by
 refine⟨fun M hM h5 hs=>?_,fun M hM hc hs=>?_⟩
 ·by_cases hq:M=L+1
  ·subst hq;exact ha h5 hs
  ·exact h.1 M (by omega) h5 hs
 ·by_cases hq:M=L+1
  ·subst hq;exact hb hc hs
  ·exact h.2 M (by omega) hc hs
end
def It(b:Nat)(us:List TK)(e:PE):Prop:=Hd b us∧∀(ts:List Tk) (i:Nat) (rest:List TK),B7 ts i (us ++ rest)→Low ts i (i+us.length) e rest b∧(9≤b→Gn 10 rest→RdW ts i (i+us.length) e)
theorem It.mono{a b:Nat}{us:List TK}{e:PE}(h:It b us e)(hl:a≤b):It a us e :=
 ⟨h.1.mono hl,fun ts i rest hs=>⟨⟨fun M hM=>((h.2 ts i rest hs).1.1 M (by omega)),fun M hM=>((h.2 ts i rest hs).1.2 M (by omega))⟩,fun h9=>(h.2 ts i rest hs).2 (by omega)⟩⟩
theorem It.a{b L:Nat}{us:List TK}{e:PE}(h:It b us e)(hL:L≤b)(h5:L≠5){ts:List Tk}{i:Nat}{rest:List TK}(hs:B7 ts i (us ++ rest))(hr:Gn L rest):RdA ts i (i+us.length) e (iM L):=(h.2 ts i rest hs).1.1 L hL h5 hr
theorem It.b{b L:Nat}{us:List TK}{e:PE}(h:It b us e)(hL:L≤b)(hc:L=2∨L=3∨L=6∨L=7){ts:List Tk}{i:Nat}{rest:List TK}(hs:B7 ts i (us ++ rest))(hr:Gn (L+1) rest):RdB ts i (i+us.length) e L:=(h.2 ts i rest hs).1.2 L hL hc hr
theorem It.w{b:Nat}{us:List TK}{e:PE}(h:It b us e)(hL:9≤b){ts:List Tk}{i:Nat}{rest:List TK}(hs:B7 ts i (us ++ rest))(hr:Gn 10 rest):RdW ts i (i+us.length) e:=(h.2 ts i rest hs).2 hL hr
abbrev kw(s:List UInt8):TK:=(3,s,0)
abbrev nm(s:List UInt8):TK:=(1,s,0)
structure KJ where
 toks:List TK
 binds:Nat
 kind:Nat
def H6(s:List UInt8):Prop:=(s ∉ E9∧s ∉ Cu)∧(∃b r,s=b :: r∧Dp b=true∧∀c∈r,Bq c=true)∧s.length≤30
inductive Shape:Nat→Int→List UInt8→Bool→List PE→Prop where
 |num (n:Int) (h:-9223372036854775808≤n∧n≤9223372036854775807):Shape 1 n [] false []
 |truth (n:Int) (h:n=0∨n=1):Shape 2 n [] false []
 |var (name:List UInt8) (h:H6 name):Shape 3 0 name false []
 |neg (x:PE):Shape 4 0 [] false [x]
 |not (x:PE):Shape 5 0 [] false [x]
 |bin (name:List UInt8) (x y:PE) (h:name∈C3 2∨name∈C3 3∨name∈C3 5∨name∈C3 6∨name∈C3 7):Shape 6 0 name false [x,y]
 |ite (x y z:PE):Shape 7 0 [] false [x,y,z]
 |arrow (x y:PE):Shape 8 0 [] false [x,y]
 |fby (x y:PE) (h:H5 x=true):Shape 9 0 [] false [x,y]
 |pre (x:PE):Shape 10 0 [] false [x]
 |when (name:List UInt8) (off:Bool) (x:PE) (h:H6 name):Shape 11 0 name off [x]
 |merge (name:List UInt8) (x y:PE) (h:H6 name):Shape 12 0 name false [x,y]
 |call (name:List UInt8) (l:List PE) (h:H6 name):Shape 13 0 name false l
 |await (name:List UInt8) (l:List PE) (h:H6 name) (hl:∀x∈l,H5 x=true):Shape 14 0 name false l
inductive GoodT:PE→Prop where
 |mk (kind pos:Nat) (n:Int) (name:List UInt8) (off:Bool) (kids:List PE) (hs:Shape kind n name off kids) (hk:∀e∈kids,GoodT e):GoodT (.mk kind pos n name off kids)
theorem Gn.ne{L k:Nat}{us:List TK}(h:Gn L us)(hk:L≤k){s:List UInt8}(hs:s∈C3 k):Gj us≠s:=fun e=>h k hk (e ▸ hs)
theorem wrap_i64{x:Int}(h:-9223372036854775808≤x∧x≤9223372036854775807):IntKind.i64.wrap x=x:=by
 unfold IntKind.wrap;simp[IntKind.bits,IntKind.signed];omega
section
variable {a b:List TK} {x y:PE} (pos:Nat) {name:List UInt8}
end
end Go.Ax
noncomputable section
namespace Go.Ax
open Go.RowKit Go.Proofs
set_option maxRecDepth 100000
end Go.Ax
noncomputable section
namespace Go.Ax
open Go.RowKit Go.Proofs
set_option maxRecDepth 100000
end Go.Ax
noncomputable section
namespace Go.Ax
open Go.RowKit Go.Proofs
set_option maxRecDepth 100000
def NameL(ts:List Tk):Prop:=∀i,(tk ts i).kind=1→H6 (tk ts i).text
def GE(e:PE)(_:Nat):Prop:=GoodT e
def GC(e:PE)(_:Nat):Prop:=GoodT e∧H5 e=true
theorem GC.e{x:PR PE}(h:OkR GC x):OkR GE x:=fun a j e=>(h a j e).1
section
variable {ts:List Tk} (hts:NameL ts)
include hts
omit hts in
omit hts in
omit hts in
omit hts in
omit hts in
end
abbrev finT:TK:=(5,[],0)
structure Lead(w r:List UInt8)(t:TK):Prop where
 next:∀i,Fx (w ++ r) i=some (⟨t.1,i,t.2.1,t.2.2⟩,0)
 text:t.2.1=w
 ne:w≠[]
 nb:cnt Cf (w ++ r)=0
 nc:Ci [45,45] (w ++ r)=false
inductive SpT:List UInt8→List TK→Prop where
 |fin:SpT [] [finT]
 |blank (r:List UInt8) (us:List TK) (h:SpT r us):SpT (32 :: r) us
 |nl (r:List UInt8) (us:List TK) (h:SpT r us):SpT (10 :: r) us
 |tok (w r:List UInt8) (t:TK) (us:List TK) (hl:Lead w r t) (h:SpT r us):SpT (w ++ r) (t :: us)
inductive HeadOk:List UInt8→List TK→Prop where
 |fin:HeadOk [] [finT]
 |tok (w r:List UInt8) (t:TK) (us:List TK) (hl:Lead w r t) (h:SpT r us):HeadOk (w ++ r) (t :: us)
end Go.Ax
noncomputable section
namespace Go.Ax
open Go.RowKit Go.Proofs
set_option maxRecDepth 100000
end Go.Ax
noncomputable section
namespace Go.Ax
open Go.RowKit Go.Proofs
set_option maxRecDepth 100000
def HdL(t:List UInt8)(us:List TK):Prop:=∃q,t=Gj us ++ q∧(Gj us=[45]∨∃c p,Gj us=c :: p∧c≠45∧c≠62)
theorem HdL.ne{t:List UInt8}{us:List TK}(h:HdL t us):us≠[]:=by
 obtain⟨q,_,h⟩:=h;intro e;subst e;rcases h with h | ⟨c,p,h,_⟩ <;> cases h
theorem HdL.app{t:List UInt8}{us:List TK}(h:HdL t us)(a:List UInt8)(b:List TK):HdL (t ++ a) (us ++ b):=by
 have hne:=h.ne;obtain⟨q,h1,h2⟩:=h;refine⟨q ++ a,?_,?_⟩
 ·rw[Hh hne,h1,List.append_assoc]
 ·rw[Hh hne];exact h2
section
attribute [local go_sem] Bool.false_beq Bool.false_eq_true Bool.not_false Bool.not_true Bool.true_beq Bool.true_eq_false List.append_nil List.getElem?_cons_succ List.getElem?_cons_zero List.getElem?_toArray List.head?_cons List.head?_nil List.nil_append Option.bind_some Option.getD_some Option.toList T.get_leaf T.get_set B1 Bn Dc Dr Eh Hj Iq Bz Dl Dz Db Cs Cr Sl and_true beq_self_eq_true Ea Cq Df Fk Ct Ew Fi decide_false decide_true Ms Ff A6 Bg Bv J4 J8 B3 By Ja D6 Qj Ls Ml Jk Fb fe5 A7 Bm Cm Ge if_false if_true Cx C9 Em Gw D3 Bo ofOpt ofOptS C8 Cc Bu Ba Bf Cd Er A4 A9 F8 De C7 Ib Je true_and D8 Bc
def qE(q:Nat)(b:Bool)(S:St):Prop:=S.mem.get q=some (.box [.v (.bool b)])
def Rk(q:Nat)(S S':St):Prop:=S.next≤S'.next∧∀id,id<S.next→id≠q→S'.mem.get id=S.mem.get id
theorem Rk.refl(q:Nat)(S:St):Rk q S S:=⟨Ja1 _,fun _ _ _=>rfl⟩
theorem Rk.trans{q:Nat}{S S1 S2:St}(h:Rk q S S1)(k:Rk q S1 S2):Rk q S S2:=⟨Jb2 h.1 k.1,fun id hid hn=>(k.2 id (Ja0 hid h.1) hn).trans (h.2 id hid hn)⟩
theorem Dm.b{q:Nat}{S S':St}(h:Dm S S'):Rk q S S':=⟨h.1,fun id hid _=>h.2 id hid⟩
def mM(q:Nat)(L:List (Nat × List AV))(S:St):Prop:=2≤S.next∧q<S.next∧∀x∈L,x.1≠q∧x.1<S.next∧S.mem.get x.1=some (.box x.2)
theorem mM.keep{q:Nat}{L:List (Nat × List AV)}{S S':St}(h:mM q L S)(k:Rk q S S'):mM q L S':=⟨Jb2 h.1 k.1,Ja0 h.2.1 k.1,fun x hx=>⟨(h.2.2 x hx).1,Ja0 (h.2.2 x hx).2.1 k.1,(k.2 _ (h.2.2 x hx).2.1 (h.2.2 x hx).1).trans (h.2.2 x hx).2.2⟩⟩
theorem qE.keep{q:Nat}{b:Bool}{S S':St}(h:qE q b S)(hq:q<S.next)(k:Dm S S'):qE q b S':=(k.2 q hq).trans h
inductive AllP(B:PE→Prop):PE→Prop where
 |mk (kind pos:Nat) (n:Int) (name:List UInt8) (off:Bool) (kids:List PE) (h:B (.mk kind pos n name off kids)) (hk:∀e∈kids,AllP B e):AllP B (.mk kind pos n name off kids)
section
variable {q K:Nat} {L:List (Nat × List AV)} {caps:List AV} {B:PE → Prop}
end
end
def stB(s w:List UInt8)(a:Nat):Bool:=decide (a+w.length≤s.length) && decide ((s.drop a).take w.length=w)
def Nq(name:List UInt8):List (Int × List UInt8):=[(3,name),(13,name),(6,name),(7,[105,102]),(8,[45,62]),(9,[102,98,121]),(10,[112,114,101]),(11,[119,104,101,110]),(12,[109,101,114,103,101]),(14,[97,119,97,105,116]),(5,[110,111,116]),(4,[45])]
def Mw:List (Int × List UInt8)→Int→List UInt8
 | [],_=>[]
 | (a,s) :: r,k=>if k=a then s else Mw r k
def kindOf:PE→Nat
 |.mk kind _ _ _ _ _=>kind
def posOf:PE→Nat
 |.mk _ pos _ _ _ _=>pos
def nameOf:PE→List UInt8
 |.mk _ _ _ name _ _=>name
def wordOf(e:PE):List UInt8:=Mw (Nq (nameOf e)) (kindOf e:Int)
def Sat{α:Type}(Q:α→Nat→Prop)(x:PR α):Prop:=x≠.out∧∀a j,x=.ok a j→Q a j
theorem Sat.ok{α:Type}{Q:α→Nat→Prop}{a:α}{j:Nat}(h:Q a j):Sat Q (.ok a j):=⟨(fun e=>by cases e),(fun a' j' e=>by injection e with e1 e2;subst e1;subst e2;exact h)⟩
theorem Sat.bad{α:Type}{Q:α→Nat→Prop}{a e:Nat}:Sat Q (.bad a e):=⟨(fun e=>by cases e),(fun _ _ e=>by cases e)⟩
theorem Sat.bind{α β:Type}{Q:α→Nat→Prop}{R:β→Nat→Prop}{x:PR α}{f:α→Nat→PR β}(hx:Sat Q x)(hf:∀a j,Q a j→Sat R (f a j)):Sat R (x.bind f):=by
 cases x with
 |ok a j=>exact hf a j (hx.2 a j rfl)
 |bad a e=>exact Sat.bad
 |out=>exact absurd rfl hx.1
theorem Sat.mono{α:Type}{Q R:α→Nat→Prop}{x:PR α}(hx:Sat Q x)(h:∀a j,Q a j→R a j):Sat R x:=⟨hx.1,fun a j e=>h a j (hx.2 a j e)⟩
theorem Sat.ite{α:Type}{Q:α→Nat→Prop}{c:Prop}[Decidable c]{x y:PR α}(h1:c→Sat Q x)(h2:¬ c→Sat Q y):Sat Q (if c then x else y):=by
 by_cases h:c
 ·rw[if_pos h];exact h1 h
 ·rw[if_neg h];exact h2 h
section
variable {ts:List Tk} (hts:TokOk ts)
include hts
theorem C2{i:Nat}(hi:i<ts.length){ws:List (List UInt8)}(hw:[] ∉ ws)(h:(tk ts i).text∈ws):i+1<ts.length:=by
 rw[Gy hi]at h;exact hts.next hi (fun e=>hw (e ▸ h))
theorem Eb{i:Nat}(hi:i<ts.length){ws:List (List UInt8)}(hw:[] ∉ ws):Sat (fun t j=>t=tk ts i∧j=i+1∧j<ts.length∧t.text∈ws) (B2 ts ws i):=by
 unfold B2;exact .ite (fun h=>.ok ⟨rfl,rfl,C2 hts hi hw h,h⟩) (fun _=>.bad)
theorem La{i:Nat}(hi:i<ts.length){kd:Nat}(hk:kd≠5):Sat (fun t j=>t=tk ts i∧j=i+1∧j<ts.length) (Eu ts kd i):=by
 unfold Eu;exact .ite (fun h=>.ok ⟨rfl,rfl,hts.more i hi (by rw[← Gy hi,h];exact hk)⟩) (fun _=>.bad)
theorem bN{i:Nat}(hi:i<ts.length):Sat (fun _ j=>i<j∧j<ts.length) (Gg ts i):=by
 unfold Gg;refine .ite (fun h=>?_) (fun _=>?_)
 ·have:=C2 hts hi (ws:=[[110,111,116]]) (by decide) h
  exact(La hts this (by decide)).bind fun t j h=>.ok ⟨by omega,h.2.2⟩
 ·exact(La hts hi (by decide)).bind fun t j h=>.ok ⟨by omega,h.2.2⟩
end
def Pw(s:List UInt8)(ts:List Tk):Prop:=∀i,i<ts.length→stB s (tk ts i).text (tk ts i).pos=true
def Nl(s:List UInt8)(e:PE):Prop:=stB s (wordOf e) (posOf e)=true
theorem stB_nil{s w:List UInt8}{a:Nat}(h:stB s w a=true):stB s [] a=true:=by
 unfold stB at h ⊢;rw[Ja2]at h;have:=h.1;simp at this ⊢;omega
section
variable {ts:List Tk} (hts:TokOk ts) {s:List UInt8} (hat:Pw s ts)
include hts hat
theorem num_s{i:Nat}(hi:i<ts.length):Sat (fun e j=>i<j∧j<ts.length∧AllP (Nl s) e) (I7 ts i):=by
 have h0:ts[i]? = some (tk ts i):=by rw[Gy hi];exact Ja4 hi
 have hg:=stB_nil (hat i hi);unfold I7;rw[h0];simp only;refine .ite (fun h=>?_) (fun _=>?_)
 ·have h1:i+1<ts.length:=C2 hts hi (ws:=[[45]]) (by decide) (by rw[h];simp)
  have h2:ts[i+1]? = some (tk ts (i+1)):=by rw[Gy h1];exact Ja4 h1
  rw[h2];simp only;refine .ite (fun h3=>?_) (fun _=>.bad)
  exact .ok ⟨by omega,hts.more _ h1 (by rw[← Gy h1,h3];decide),.mk _ _ _ _ _ _ hg (fun _ h=>by cases h)⟩
 ·refine .ite (fun h3=>?_) (fun _=>.bad)
  refine .ite (fun _=>.bad) (fun _=>?_)
  exact .ok ⟨by omega,hts.more _ hi (by rw[← Gy hi,h3];decide),.mk _ _ _ _ _ _ hg (fun _ h=>by cases h)⟩
omit hts hat in
theorem uI{pos:Nat}{w:List UInt8}{x y:PE}(h:stB s w pos=true)(hx:AllP (Nl s) x)(hy:AllP (Nl s) y):AllP (Nl s) (.mk 6 pos 0 w false [x,y]):=by
 refine .mk _ _ _ _ _ _ ?_ (fun e he=>?_)
 ·show stB s (Mw (Nq w) _) _=true
  simpa[Nq,Mw,kindOf,posOf]using h
 ·simp at he;rcases he with rfl |rfl
  ·exact hx
  ·exact hy
omit hts hat in
theorem Nc{k pos:Nat}{name w:List UInt8}{n:Int}{off:Bool}{kids:List PE}(hk:Mw (Nq name) (k:Int)=w)(h:stB s w pos=true)(hkids:∀e∈kids,AllP (Nl s) e):AllP (Nl s) (.mk k pos n name off kids):=by
 refine .mk _ _ _ _ _ _ ?_ hkids
 show stB s (Mw (Nq name) (k:Int)) pos=true
 rw[hk];exact h
theorem rV{lo:Nat}{ws:List (List UInt8)}(hw:[] ∉ ws){kid:Nat→PR PE}(hk:∀i,lo≤i→i<ts.length→Sat (fun e j=>i<j∧j<ts.length∧AllP (Nl s) e) (kid i)):∀(n:Nat) (x:PE) (i:Nat),lo≤i→i<ts.length→AllP (Nl s) x→ts.length - i<n→Sat (fun e j=>i≤j∧j<ts.length∧AllP (Nl s) e) (Iv ts ws kid n x i)
 |0,x,i,h1,h2,h3,h4=>absurd h4 (Jb3 _)
 |n+1,x,i,h1,h2,h3,h4=>by
  unfold Iv;refine .ite (fun h=>?_) (fun _=>.ok ⟨Ja1 _,h2,h3⟩)
  have h5:=C2 hts h2 hw h;refine(hk (i+1) (by omega) h5).bind fun y j ⟨a,b,c⟩=>?_
  exact(rV hw hk n _ j (by omega) b (uI (hat i h2) h3 c) (by omega)).mono fun e m ⟨a2,b2,c2⟩=>⟨by omega,b2,c2⟩
theorem when_s:∀(n:Nat) (x:PE) (i:Nat),i<ts.length→AllP (Nl s) x→ts.length - i<n→Sat (fun e j=>i≤j∧j<ts.length∧AllP (Nl s) e) (Ih ts n x i)
 |0,x,i,h2,h3,h4=>absurd h4 (Jb3 _)
 |n+1,x,i,h2,h3,h4=>by
  unfold Ih;refine .ite (fun h=>?_) (fun _=>.ok ⟨Ja1 _,h2,h3⟩)
  have h5:=C2 hts h2 (ws:=[[119,104,101,110]]) (by decide) h
  have hg:=hat i h2;rw[show(tk ts i).text=[119,104,101,110] by simpa using h]at hg
  refine(bN hts h5).bind fun c j ⟨a,b⟩=>?_
  exact(when_s n _ j b (Nc (by simp[Nq,Mw]) hg (fun e he=>by simp at he;subst he;exact h3)) (by omega)).mono fun e m ⟨a2,b2,c2⟩=>⟨by omega,b2,c2⟩
omit hat in
theorem xI{lo:Nat}{kid:Nat→PR PE}(hk:∀i,lo≤i→i<ts.length→Sat (fun e j=>i<j∧j<ts.length∧AllP (Nl s) e) (kid i)):∀(n:Nat) (l:List PE) (i:Nat),lo≤i→i<ts.length→(∀e∈l,AllP (Nl s) e)→ts.length - i<n→Sat (fun l j=>i<j∧j<ts.length∧∀e∈l,AllP (Nl s) e) (F9 ts kid n l i)
 |0,l,i,h1,h2,h3,h4=>absurd h4 (Jb3 _)
 |n+1,l,i,h1,h2,h3,h4=>by
  unfold F9;refine .ite (fun h=>?_) (fun _=>?_)
  ·have h5:=C2 hts h2 (ws:=[[44]]) (by decide) h
   refine(hk (i+1) (by omega) h5).bind fun y j ⟨a,b,c⟩=>?_
   exact(xI hk n _ j (by omega) b (fun e he=>(Jc7.1 he).elim (fun he=>h3 e he) (fun he=>by simp at he;subst he;exact c)) (by omega)).mono fun e m ⟨a2,b2,c2⟩=>⟨by omega,b2,c2⟩
  ·exact(Eb hts h2 (ws:=[[41]]) (by decide)).bind fun _ j ⟨_,a,b,_⟩=>.ok ⟨by omega,b,h3⟩
omit hat in
theorem list_s{i:Nat}{kid:Nat→PR PE}(hk:∀i',i<i'→i'<ts.length→Sat (fun e j=>i'<j∧j<ts.length∧AllP (Nl s) e) (kid i'))(n:Nat)(hi:i<ts.length)(hn:ts.length - i≤n):Sat (fun l j=>i<j∧j<ts.length∧∀e∈l,AllP (Nl s) e) (I4 ts kid n i):=by
 unfold I4;refine(Eb hts hi (ws:=[[40]]) (by decide)).bind fun _ j ⟨_,a,b,_⟩=>?_
 refine .ite (fun h=>?_) (fun _=>?_)
 ·exact .ok ⟨by omega,C2 hts b (ws:=[[41]]) (by decide) h,fun e he=>by cases he⟩
 ·refine(hk j (by omega) b).bind fun x m ⟨a1,b1,c1⟩=>?_
  exact(xI hts (lo:=i+1) (fun i' h1 h2=>hk i' (by omega) h2) n [x] m (by omega) b1 (fun e he=>by simp at he;subst he;exact c1) (by omega)).mono fun e m ⟨a2,b2,c2⟩=>⟨by omega,b2,c2⟩
omit hts in
theorem truth_s{i:Nat}(hi:i<ts.length):AllP (Nl s) (G4 (tk ts i)):=Nc rfl (stB_nil (hat i hi)) (fun e he=>by cases he)
omit hts hat in
def Ee:NT→Nat
 |.expr=>12 |.arrow=>11 |.or=>10 |.and=>9 |.not=>8 |.sum=>7 |.term=>6 |.unary=>5 |.when=>4 |.primary=>3 |.name=>2 |.brk=>2 |.call=>1 |.lit=>0
theorem P_s:∀(n:Nat) (nt:NT) (i:Nat),i<ts.length→16*(ts.length - i)+Ee nt<n→Sat (fun e j=>i<j∧j<ts.length∧AllP (Nl s) e) (P ts n nt i)
 |0,nt,i,hi,hn=>absurd hn (Jb3 _)
 |n+1,nt,i,hi,hn=>by
  have ih:=fun(nt:NT) (i':Nat) (h1:i'<ts.length) (h2:16*(ts.length - i')+Ee nt<n)=>P_s n nt i' h1 h2
  have later:∀(nt:NT) (i':Nat),i<i'→i'<ts.length→Sat (fun e j=>i'<j∧j<ts.length∧AllP (Nl s) e) (P ts n nt i'):=fun nt i' h1 h2=>ih nt i' h2 (by cases nt <;> simp only[Ee] <;> omega)
  have two:∀{x y:PE},AllP (Nl s) x→AllP (Nl s) y→∀e∈[x,y],AllP (Nl s) e:=fun hx hy e he=>by
   simp at he;rcases he with rfl |rfl
   ·exact hx
   ·exact hy
  have one:∀{x:PE},AllP (Nl s) x→∀e∈[x],AllP (Nl s) e:=fun hx e he=>by simp at he;subst he;exact hx
  cases nt with
  |expr =>
   simp only[Ee]at hn
   show Sat _ (if _ then _ else _)
   refine .ite (fun h=>?_) (fun _=>ih .arrow i hi (by simp only[Ee];omega))
   have h5:=C2 hts hi (ws:=[[105,102]]) (by decide) h
   have hg:=hat i hi;rw[show(tk ts i).text=[105,102] by simpa using h]at hg
   refine(later .expr (i+1) (by omega) h5).bind fun c j ⟨a1,b1,c1⟩=>?_
   refine(Eb hts b1 (by decide)).bind fun _ j2 ⟨_,a2,b2,_⟩=>?_
   refine(later .expr j2 (by omega) b2).bind fun y j3 ⟨a3,b3,c3⟩=>?_
   refine(Eb hts b3 (by decide)).bind fun _ j4 ⟨_,a4,b4,_⟩=>?_
   refine(later .expr j4 (by omega) b4).bind fun z j5 ⟨a5,b5,c5⟩=>?_
   refine .ok ⟨by omega,b5,Nc (by simp[Nq,Mw]) hg (fun e he=>?_)⟩
   simp at he;rcases he with rfl |rfl |rfl
   ·exact c1
   ·exact c3
   ·exact c5
  |arrow =>
   simp only[Ee]at hn
   show Sat _ (PR.bind _ _)
   refine(ih .or i hi (by simp only[Ee];omega)).bind fun x j ⟨a1,b1,c1⟩=>?_
   refine .ite (fun h=>?_) (fun _=>.ite (fun _=>.ok ⟨a1,b1,c1⟩) (fun _=>.ite (fun h=>?_) (fun _=>.ok ⟨a1,b1,c1⟩)))
   ·have h5:=C2 hts b1 (ws:=[[45,62]]) (by decide) h
    have hg:=hat j b1;rw[show(tk ts j).text=[45,62] by simpa using h]at hg
    refine(later .arrow (j+1) (by omega) h5).bind fun y m ⟨a2,b2,c2⟩=>.ok ⟨by omega,b2,Nc (by simp[Nq,Mw]) hg (two c1 c2)⟩
   ·have h5:=C2 hts b1 (ws:=[[102,98,121]]) (by decide) h
    have hg:=hat j b1;rw[show(tk ts j).text=[102,98,121] by simpa using h]at hg
    refine(later .arrow (j+1) (by omega) h5).bind fun y m ⟨a2,b2,c2⟩=>.ok ⟨by omega,b2,Nc (by simp[Nq,Mw]) hg (two c1 c2)⟩
  |or =>
   simp only[Ee]at hn
   show Sat _ (PR.bind _ _)
   refine(ih .and i hi (by simp only[Ee];omega)).bind fun x j ⟨a1,b1,c1⟩=>?_
   exact(rV hts hat (lo:=i+1) (by decide) (fun i' h1 h2=>later .and i' (by omega) h2) n x j (by omega) b1 c1 (by omega)).mono fun e m ⟨a2,b2,c2⟩=>⟨by omega,b2,c2⟩
  |and =>
   simp only[Ee]at hn
   show Sat _ (PR.bind _ _)
   refine(ih .not i hi (by simp only[Ee];omega)).bind fun x j ⟨a1,b1,c1⟩=>?_
   exact(rV hts hat (lo:=i+1) (by decide) (fun i' h1 h2=>later .not i' (by omega) h2) n x j (by omega) b1 c1 (by omega)).mono fun e m ⟨a2,b2,c2⟩=>⟨by omega,b2,c2⟩
  |not =>
   simp only[Ee]at hn
   show Sat _ (if _ then _ else _)
   refine .ite (fun h=>?_) (fun _=>?_)
   ·have h5:=C2 hts hi (ws:=[[110,111,116]]) (by decide) h
    have hg:=hat i hi;rw[show(tk ts i).text=[110,111,116] by simpa using h]at hg
    exact(later .not (i+1) (by omega) h5).bind fun x j ⟨a,b,c⟩=>.ok ⟨by omega,b,Nc (by simp[Nq,Mw]) hg (one c)⟩
   ·refine(ih .sum i hi (by simp only[Ee];omega)).bind fun x j ⟨a1,b1,c1⟩=>?_
    refine .ite (fun h=>?_) (fun _=>.ok ⟨a1,b1,c1⟩)
    have h5:=C2 hts b1 (ws:=[[61],[60,62],[60],[60,61],[62],[62,61]]) (by decide) h
    exact(later .sum (j+1) (by omega) h5).bind fun y m ⟨a2,b2,c2⟩=>.ok ⟨by omega,b2,uI (hat j b1) c1 c2⟩
  |sum =>
   simp only[Ee]at hn
   show Sat _ (PR.bind _ _)
   refine(ih .term i hi (by simp only[Ee];omega)).bind fun x j ⟨a1,b1,c1⟩=>?_
   exact(rV hts hat (lo:=i+1) (by decide) (fun i' h1 h2=>later .term i' (by omega) h2) n x j (by omega) b1 c1 (by omega)).mono fun e m ⟨a2,b2,c2⟩=>⟨by omega,b2,c2⟩
  |term =>
   simp only[Ee]at hn
   show Sat _ (PR.bind _ _)
   refine(ih .unary i hi (by simp only[Ee];omega)).bind fun x j ⟨a1,b1,c1⟩=>?_
   exact(rV hts hat (lo:=i+1) (by decide) (fun i' h1 h2=>later .unary i' (by omega) h2) n x j (by omega) b1 c1 (by omega)).mono fun e m ⟨a2,b2,c2⟩=>⟨by omega,b2,c2⟩
  |unary =>
   simp only[Ee]at hn
   show Sat _ (if _ then _ else _)
   refine .ite (fun h=>?_) (fun _=>.ite (fun _=>num_s hts hat hi) (fun _=>.ite (fun h=>?_) (fun _=>ih .when i hi (by simp only[Ee];omega))))
   ·have h5:=C2 hts hi (ws:=[[112,114,101]]) (by decide) h
    have hg:=hat i hi;rw[show(tk ts i).text=[112,114,101] by simpa using h]at hg
    exact(later .unary (i+1) (by omega) h5).bind fun x j ⟨a,b,c⟩=>.ok ⟨by omega,b,Nc (by simp[Nq,Mw]) hg (one c)⟩
   ·have h5:=C2 hts hi (ws:=[[45]]) (by decide) h
    have hg:=hat i hi;rw[show(tk ts i).text=[45] by simpa using h]at hg
    exact(later .unary (i+1) (by omega) h5).bind fun x j ⟨a,b,c⟩=>.ok ⟨by omega,b,Nc (by simp[Nq,Mw]) hg (one c)⟩
  |when =>
   simp only[Ee]at hn
   show Sat _ (PR.bind _ _)
   refine(ih .primary i hi (by simp only[Ee];omega)).bind fun x j ⟨a1,b1,c1⟩=>?_
   exact(when_s hts hat n x j b1 c1 (by omega)).mono fun e m ⟨a2,b2,c2⟩=>⟨by omega,b2,c2⟩
  |primary =>
   simp only[Ee]at hn
   show Sat _ (if _ then _ else _)
   refine .ite (fun _=>num_s hts hat hi) (fun _=>.ite (fun _=>ih .name i hi (by simp only[Ee];omega)) (fun _=>.ite (fun h=>?_) (fun _=>.ite (fun h=>?_) (fun _=>.ite (fun h=>?_) (fun _=>ih .brk i hi (by simp only[Ee];omega))))))
   ·exact .ok ⟨by omega,C2 hts hi (ws:=[[116,114,117,101],[102,97,108,115,101]]) (by decide) (by simpa using h),truth_s hat hi⟩
   ·have h5:=C2 hts hi (ws:=[[109,101,114,103,101]]) (by decide) (by simpa using h)
    have hg:=hat i hi;rw[h]at hg;refine(La hts h5 (by decide)).bind fun t j ⟨_,a1,b1⟩=>?_
    refine(later .brk j (by omega) b1).bind fun x j2 ⟨a2,b2,c2⟩=>?_
    refine(later .brk j2 (by omega) b2).bind fun y j3 ⟨a3,b3,c3⟩=>?_
    exact .ok ⟨by omega,b3,Nc (by simp[Nq,Mw]) hg (two c2 c3)⟩
   ·have h5:=C2 hts hi (ws:=[[97,119,97,105,116]]) (by decide) (by simpa using h)
    have hg:=hat i hi;rw[h]at hg;refine(La hts h5 (by decide)).bind fun t j ⟨_,a1,b1⟩=>?_
    refine .ite (fun h=>?_) (fun _=>.ok ⟨by omega,b1,Nc (by simp[Nq,Mw]) hg (fun e he=>by cases he)⟩)
    have h6:=C2 hts b1 (ws:=[[97,102,116,101,114]]) (by decide) h
    refine(Eb hts h6 (by decide)).bind fun _ j2 ⟨_,a2,b2,_⟩=>?_
    refine(later .lit j2 (by omega) b2).bind fun x m ⟨a3,b3,c3⟩=>?_
    refine(xI hts (lo:=i+1) (fun i' h1 h2=>later .lit i' (by omega) h2) n [x] m (by omega) b3 (one c3) (by omega)).bind fun l m2 ⟨a4,b4,c4⟩=>?_
    exact .ok ⟨by omega,b4,Nc (by simp[Nq,Mw]) hg c4⟩
  |name =>
   simp only[Ee]at hn
   show Sat _ (if _ then _ else _)
   refine .ite (fun _=>ih .call i hi (by simp only[Ee];omega)) (fun _=>?_)
   refine(La hts hi (by decide)).bind fun t j ⟨h1,a1,b1⟩=>.ok ⟨by omega,b1,Nc (w:=t.text) (by simp[Nq,Mw]) (by rw[h1];exact hat i hi) (fun e he=>by cases he)⟩
  |call =>
   simp only[Ee]at hn
   show Sat _ (PR.bind _ _)
   refine(La hts hi (by decide)).bind fun t j ⟨h1,a1,b1⟩=>?_
   refine(list_s hts (fun i' h1 h2=>later .expr i' (by omega) h2) n b1 (by omega)).bind fun l m ⟨a2,b2,c2⟩=>?_
   exact .ok ⟨by omega,b2,Nc (w:=t.text) (by simp[Nq,Mw]) (by rw[h1];exact hat i hi) c2⟩
  |brk =>
   simp only[Ee]at hn
   show Sat _ (PR.bind _ _)
   refine(Eb hts hi (by decide)).bind fun _ j ⟨_,a1,b1,_⟩=>?_
   refine(later .expr j (by omega) b1).bind fun x j2 ⟨a2,b2,c2⟩=>?_
   exact(Eb hts b2 (by decide)).bind fun _ j3 ⟨_,a3,b3,_⟩=>.ok ⟨by omega,b3,c2⟩
  |lit =>
   simp only[Ee]at hn
   show Sat _ (if _ then _ else _)
   refine .ite (fun h=>?_) (fun _=>num_s hts hat hi)
   exact .ok ⟨by omega,C2 hts hi (ws:=[[116,114,117,101],[102,97,108,115,101]]) (by decide) h,truth_s hat hi⟩
end
def mP(s:List UInt8)(d:PD):Prop:=stB s d.name d.pos=true
def GoodL(s:List UInt8)(x:List UInt8 × Nat):Prop:=stB s x.1 x.2=true
def GoodQ(s:List UInt8)(L:Nat)(q:PQ):Prop:=(∀x∈q.left,GoodL s x)∧AllP (fun e=>Wide e∧Nl s e) q.e∧q.left.length≤L
def mO(s:List UInt8)(L:Nat)(n:PN):Prop:=stB s n.name n.pos=true∧(∀d∈n.ins ++ n.outs ++ n.vars,mP s d)∧(∀q∈n.eqs,GoodQ s L q)∧n.ins.length+n.outs.length+n.vars.length≤L∧n.eqs.length≤L
theorem wide_all{B:PE→Prop}:∀{e:PE},AllP B e→Wide e→AllP (fun e=>Wide e∧B e) e:=fun {e} h=>by
 induction h with
 |mk kind pos n name off kids hb hk ih =>
  intro hw;have hw2:=hw
  cases hw with
  |mk _ _ _ _ _ _ hl hkw=>exact .mk _ _ _ _ _ _ ⟨hw2,hb⟩ (fun e he=>ih e he (hkw e he))
section
variable {ts:List Tk} (hts:TokOk ts) {s:List UInt8} (hat:Pw s ts)
include hts
theorem zL(hat:Pw s ts){i:Nat}(hi:i<ts.length):Sat (fun d j=>i<j∧j<ts.length∧mP s d) (El ts i):=by
 unfold El;refine(La hts hi (by decide)).bind fun t j ⟨h1,a1,b1⟩=>?_
 have hg:stB s t.text t.pos=true:=by rw[h1];exact hat i hi
 refine(Eb hts b1 (by decide)).bind fun _ j2 ⟨_,a2,b2,_⟩=>?_
 refine .ite (fun h=>?_) (fun _=>?_)
 ·have h5:=C2 hts b2 (ws:=[[102,117,116,117,114,101]]) (by decide) h
  exact(Eb hts h5 (by decide)).bind fun u m ⟨_,a3,b3,_⟩=>.ok ⟨by omega,b3,hg⟩
 ·exact(Eb hts b2 (by decide)).bind fun u m ⟨_,a3,b3,_⟩=>.ok ⟨by omega,b3,hg⟩
theorem lX(hat:Pw s ts){i:Nat}(hi:i<ts.length):Sat (fun d j=>i<j∧j<ts.length∧mP s d) (D5 ts i):=by
 unfold D5;refine(zL hts hat hi).bind fun d j ⟨a1,b1,c1⟩=>?_
 refine .ite (fun h=>?_) (fun _=>?_)
 ·have h5:=C2 hts b1 (ws:=[[119,104,101,110]]) (by decide) h
  refine(bN hts h5).bind fun c j2 ⟨a2,b2⟩=>?_
  exact(Eb hts b2 (by decide)).bind fun u m ⟨_,a3,b3,_⟩=>.ok ⟨by omega,b3,c1⟩
 ·exact(Eb hts b1 (by decide)).bind fun u m ⟨_,a3,b3,_⟩=>.ok ⟨by omega,b3,c1⟩
theorem oG(hat:Pw s ts){i:Nat}(hi:i<ts.length):Sat (fun d j=>i<j∧j<ts.length∧GoodL s d) (Hb ts i):=by
 unfold Hb;refine(La hts hi (by decide)).bind fun t j ⟨h1,a1,b1⟩=>.ok ⟨by omega,b1,?_⟩
 show stB s t.text t.pos=true
 rw[h1];exact hat i hi
theorem nQ{α:Type}{G:α→Prop}{kid:Nat→PR α}(hk:∀i,i<ts.length→Sat (fun e j=>i<j∧j<ts.length∧G e) (kid i)):∀(n:Nat) (l:List α) (i:Nat),i<ts.length→(∀e∈l,G e)→ts.length - i<n→Sat (fun r j=>i<j∧j<ts.length∧(∀e∈r,G e)∧r.length+i≤l.length+j) (Ft ts kid n l i)
 |0,l,i,h2,h3,h4=>absurd h4 (Jb3 _)
 |n+1,l,i,h2,h3,h4=>by
  unfold Ft;refine .ite (fun h=>?_) (fun _=>?_)
  ·have h5:=C2 hts h2 (ws:=[[44]]) (by decide) h
   refine(hk (i+1) h5).bind fun y j ⟨a,b,c⟩=>?_
   exact(nQ hk n _ j b (fun e he=>(Jc7.1 he).elim (fun he=>h3 e he) (fun he=>by simp at he;subst he;exact c)) (by omega)).mono fun e m ⟨a2,b2,c2,d2⟩=>⟨by omega,b2,c2,by simp at d2;omega⟩
  ·exact(Eb hts h2 (ws:=[[41]]) (by decide)).bind fun _ j ⟨_,a,b,_⟩=>.ok ⟨by omega,b,h3,by omega⟩
theorem listA_s{α:Type}{G:α→Prop}{kid:Nat→PR α}(hk:∀i,i<ts.length→Sat (fun e j=>i<j∧j<ts.length∧G e) (kid i))(n:Nat){i:Nat}(hi:i<ts.length)(hn:ts.length≤n):Sat (fun r j=>i<j∧j<ts.length∧(∀e∈r,G e)∧r.length+i≤j) (Hz ts kid n i):=by
 unfold Hz;refine(Eb hts hi (ws:=[[40]]) (by decide)).bind fun _ j ⟨_,a,b,_⟩=>?_
 refine .ite (fun h=>?_) (fun _=>?_)
 ·exact .ok ⟨by omega,C2 hts b (ws:=[[41]]) (by decide) h,(fun e he=>by cases he),by simp;omega⟩
 ·refine(hk j b).bind fun x m ⟨a1,b1,c1⟩=>?_
  exact(nQ hts hk n [x] m b1 (fun e he=>by simp at he;subst he;exact c1) (by omega)).mono fun e m ⟨a2,b2,c2,d2⟩=>⟨by omega,b2,c2,by simp at d2;omega⟩
theorem vars_s(hat:Pw s ts):∀(n:Nat) (l:List PD) (i:Nat),i<ts.length→(∀e∈l,mP s e)→ts.length - i<n→Sat (fun r j=>i≤j∧j<ts.length∧(∀e∈r,mP s e)∧r.length+i≤l.length+j) (Ix ts n l i)
 |0,l,i,h2,h3,h4=>absurd h4 (Jb3 _)
 |n+1,l,i,h2,h3,h4=>by
  unfold Ix;refine .ite (fun h=>?_) (fun _=>.ok ⟨Ja1 _,h2,h3,Ja1 _⟩)
  refine(lX hts hat h2).bind fun y j ⟨a,b,c⟩=>?_
  exact(vars_s hat n _ j b (fun e he=>(Jc7.1 he).elim (fun he=>h3 e he) (fun he=>by simp at he;subst he;exact c)) (by omega)).mono fun e m ⟨a2,b2,c2,d2⟩=>⟨by omega,b2,c2,by simp at d2;omega⟩
theorem lefts_s(hat:Pw s ts)(n:Nat){i:Nat}(hi:i<ts.length)(hn:ts.length≤n):Sat (fun r j=>i<j∧j<ts.length∧(∀e∈r,GoodL s e)∧r.length+i≤j) (H3 ts n i):=by
 unfold H3;refine .ite (fun _=>?_) (fun _=>?_)
 ·exact(oG hts hat hi).bind fun x j ⟨a,b,c⟩=>.ok ⟨a,b,(fun e he=>by simp at he;subst he;exact c),by simp;omega⟩
 ·refine(Eb hts hi (by decide)).bind fun _ j ⟨_,a1,b1,_⟩=>?_
  refine(oG hts hat b1).bind fun x j2 ⟨a2,b2,c2⟩=>?_
  refine(Eb hts b2 (by decide)).bind fun _ j3 ⟨_,a3,b3,_⟩=>?_
  refine Sat.bind (Q:=fun l m=>j3<m∧m<ts.length∧(∀e∈l,GoodL s e)∧l.length+j3≤m) ?_ (fun l m ⟨a4,b4,c4,d4⟩=>.ok ⟨by omega,b4,fun e he=>?_,by simp;omega⟩)
  ·refine(oG hts hat b3).bind fun y m ⟨a5,b5,c5⟩=>?_
   exact(nQ hts (fun i h=>oG hts hat h) n [y] m b5 (fun e he=>by simp at he;subst he;exact c5) (by omega)).mono fun e m ⟨a2,b2,c2,d2⟩=>⟨by omega,b2,c2,by simp at d2;omega⟩
  ·rcases Jb8.1 he with rfl |he
   ·exact c2
   ·exact c4 e he
theorem jL(hat:Pw s ts)(n:Nat)(hn:16*ts.length+16≤n)(hN:n≤1000000)(nt:NT){i:Nat}(hi:i<ts.length):Sat (fun e j=>i<j∧j<ts.length∧AllP (fun e=>Wide e∧Nl s e) e) (F6 (P ts n nt) i):=by
 unfold F6;have h:=P_s hts hat n nt i hi (by cases nt <;> simp only[Ee] <;> omega)
 have h2:Sat (fun e j=>i<j∧j<ts.length∧AllP (fun e=>Wide e∧Nl s e) e) (P ts n nt i):=⟨h.1,fun e j he=>⟨(h.2 e j he).1,(h.2 e j he).2.1,wide_all (h.2 e j he).2.2 (qD n hN nt _ _ _ he)⟩⟩
 refine h2.bind fun e j h=>?_
 exact .ite (fun _=>.bad) (fun _=>.ok h)
theorem eq_s(hat:Pw s ts)(n:Nat)(hn:16*ts.length+16≤n)(hN:n≤1000000){i:Nat}(hi:i<ts.length):Sat (fun q j=>i<j∧j<ts.length∧GoodQ s ts.length q) (eqP ts n i):=by
 unfold eqP;refine(lefts_s hts hat n hi (by omega)).bind fun ls j ⟨a1,b1,c1,d1⟩=>?_
 refine(Eb hts b1 (by decide)).bind fun _ j2 ⟨_,a2,b2,_⟩=>?_
 refine .ite (fun h=>?_) (fun _=>?_)
 ·have h5:=C2 hts b2 (ws:=[[97,115,121,110,99]]) (by decide) h
  refine(jL hts hat n hn hN .call h5).bind fun e m ⟨a3,b3,c3⟩=>?_
  exact(Eb hts b3 (by decide)).bind fun _ m2 ⟨_,a4,b4,_⟩=>.ok ⟨by omega,b4,c1,c3,by show ls.length≤_;omega⟩
 ·refine(jL hts hat n hn hN .expr b2).bind fun e m ⟨a3,b3,c3⟩=>?_
  exact(Eb hts b3 (by decide)).bind fun _ m2 ⟨_,a4,b4,_⟩=>.ok ⟨by omega,b4,c1,c3,by show ls.length≤_;omega⟩
theorem eqs_s(hat:Pw s ts)(N:Nat)(hN:16*ts.length+16≤N)(hN2:N≤1000000):∀(n:Nat) (l:List PQ) (i:Nat),i<ts.length→(∀e∈l,GoodQ s ts.length e)→ts.length - i<n→Sat (fun r j=>i≤j∧j<ts.length∧(∀e∈r,GoodQ s ts.length e)∧r.length+i≤l.length+j) (Oa ts N n l i)
 |0,l,i,h2,h3,h4=>absurd h4 (Jb3 _)
 |n+1,l,i,h2,h3,h4=>by
  unfold Oa;refine .ite (fun _=>.ok ⟨Ja1 _,h2,h3,Ja1 _⟩) (fun _=>?_)
  refine(eq_s hts hat N hN hN2 h2).bind fun y j ⟨a,b,c⟩=>?_
  exact(eqs_s hat N hN hN2 n _ j b (fun e he=>(Jc7.1 he).elim (fun he=>h3 e he) (fun he=>by simp at he;subst he;exact c)) (by omega)).mono fun e m ⟨a2,b2,c2,d2⟩=>⟨by omega,b2,c2,by simp at d2;omega⟩
theorem varsQ_s(hat:Pw s ts)(n:Nat){i:Nat}(hi:i<ts.length)(hn:ts.length≤n):Sat (fun r j=>i≤j∧j<ts.length∧(∀e∈r,mP s e)∧r.length+i≤j) (Ke ts n i):=by
 unfold Ke;refine .ite (fun h=>?_) (fun _=>.ok ⟨Ja1 _,hi,(fun e he=>by cases he),by simp⟩)
 have h5:=C2 hts hi (ws:=[[118,97,114]]) (by decide) h
 refine(lX hts hat h5).bind fun x m ⟨a,b,c⟩=>?_
 exact(vars_s hts hat n [x] m b (fun e he=>by simp at he;subst he;exact c) (by omega)).mono fun e m ⟨a2,b2,c2,d2⟩=>⟨by omega,b2,c2,by simp at d2;omega⟩
theorem node_s(hat:Pw s ts)(n:Nat)(hn:16*ts.length+16≤n)(hN:n≤1000000){i:Nat}(hi:i<ts.length):Sat (fun q j=>i<j∧j<ts.length∧mO s ts.length q) (Hk ts n i):=by
 unfold Hk;refine(Eb hts hi (by decide)).bind fun _ j ⟨_,a1,b1,_⟩=>?_
 refine(La hts b1 (by decide)).bind fun t j2 ⟨h2,a2,b2⟩=>?_
 have hg:stB s t.text t.pos=true:=by rw[h2];exact hat j b1
 refine(listA_s hts (fun i h=>zL hts hat h) n b2 (by omega)).bind fun ins j3 ⟨a3,b3,c3,d3⟩=>?_
 refine(Eb hts b3 (by decide)).bind fun _ j4 ⟨_,a4,b4,_⟩=>?_
 refine(listA_s hts (fun i h=>zL hts hat h) n b4 (by omega)).bind fun outs j5 ⟨a5,b5,c5,d5⟩=>?_
 refine(varsQ_s hts hat n b5 (by omega)).bind fun vars j6 ⟨a6,b6,c6,d6⟩=>?_
 refine(Eb hts b6 (by decide)).bind fun _ j7 ⟨_,a7,b7,_⟩=>?_
 refine(eqs_s hts hat n hn hN n [] j7 b7 (fun e he=>by cases he) (by omega)).bind fun qs j8 ⟨a8,b8,c8,d8⟩=>?_
 refine(Eb hts b8 (by decide)).bind fun _ j9 ⟨_,a9,b9,_⟩=>.ok ⟨by omega,b9,hg,fun d hd=>?_,c8,(by show ins.length+outs.length+vars.length≤_;omega),(by show qs.length≤_;simp at d8;omega)⟩
 rcases Jc7.1 hd with hd |hd
 ·rcases Jc7.1 hd with hd |hd
  ·exact c3 d hd
  ·exact c5 d hd
 ·exact c6 d hd
theorem prog_s(hat:Pw s ts)(N:Nat)(hN:16*ts.length+16≤N)(hN2:N≤1000000):∀(n:Nat) (l:List PN) (i:Nat),i<ts.length→(∀e∈l,mO s ts.length e)→ts.length - i<n→Sat (fun r j=>i≤j∧j<ts.length∧(∀e∈r,mO s ts.length e)∧r.length+i≤l.length+j) (Jo ts N n l i)
 |0,l,i,h2,h3,h4=>absurd h4 (Jb3 _)
 |n+1,l,i,h2,h3,h4=>by
  unfold Jo;refine .ite (fun _=>?_) (fun _=>.ok ⟨Ja1 _,h2,h3,Ja1 _⟩)
  refine(node_s hts hat N hN hN2 h2).bind fun y j ⟨a,b,c⟩=>?_
  exact(prog_s hat N hN hN2 n _ j b (fun e he=>(Jc7.1 he).elim (fun he=>h3 e he) (fun he=>by simp at he;subst he;exact c)) (by omega)).mono fun e m ⟨a2,b2,c2,d2⟩=>⟨by omega,b2,c2,by simp at d2;omega⟩
theorem program_s(hat:Pw s ts)(n:Nat)(hn:16*ts.length+16≤n)(hN:n≤1000000)(h0:0<ts.length):Sat (fun l j=>j<ts.length∧(∀e∈l,mO s ts.length e)∧l.length≤ts.length) (Do ts n 0):=by
 unfold Do;refine(node_s hts hat n hn hN h0).bind fun x j ⟨a,b,c⟩=>?_
 exact(prog_s hts hat n hn hN n [x] j b (fun e he=>by simp at he;subst he;exact c) (by omega)).mono fun e m ⟨a2,b2,c2,d2⟩=>⟨b2,c2,by simp at d2;omega⟩
end
end Go.Ax
