/- ZbQi -/
import Derived.Test.YtimbgdjbggdgmaaGreatDoorNcG26
import Derived.Test.YtimbgdjbggdgmaaGreatDoorNcG18
import Derived.Lib.AppendIntMem
import Derived.Test.YtimbgdjbggdgmaaGreatDoorNcG15
import Derived.Test.YtimbgdjbggdgmaaGreatDoorNcG17
import Derived.Test.YtimbgdjbggdgmaaGreatDoorNcG19
set_option linter.unusedVariables false
set_option linter.unusedSimpArgs false
set_option maxHeartbeats 16000000
noncomputable section
open Nat (reduceEqDiff)
namespace Go.Ax
open Go.RowKit Go.Proofs
set_option maxRecDepth 100000
theorem Qf(l:List UInt8)(k:Nat):l.take (l.take k).length=l.take k:=by
 rw[Jd0]
 by_cases h:k≤l.length
 ·rw[Nat.min_eq_left h]
 ·rw[Nat.min_eq_right (by omega),Jd2 (Ja1 _),Jd2 (by omega)]
theorem next_text{l:List UInt8}{i:Nat}{t:Tk}(h:Fx l i=some (t,0)):t.pos=i∧l.take t.text.length=t.text:=by
 unfold Fx at h
 split at h
 ·cases h
 ·rename_i b r
  split at h
  ·injection h with h
   unfold Kd at h
   split at h
   ·injection h with h1 h2;subst h1;exact⟨rfl,Qf _ _⟩
   ·split at h
    ·injection h with h1 h2;cases h2
    ·injection h with h1 h2;subst h1;exact⟨rfl,Qf _ _⟩
  ·split at h
   ·unfold Sk at h
    split at h
    ·injection h with h;injection h with h1 h2;cases h2
    ·split at h
     ·split at h
      ·injection h with h;injection h with h1 h2;cases h2
      ·injection h with h;injection h with h1 h2;subst h1;exact⟨rfl,Qf _ _⟩
     ·injection h with h;injection h with h1 h2;cases h2
   ·injection h with h
    unfold J2 at h
    split at h
    ·rename_i s hs
     injection h with h1 h2;subst h1
     have:=List.find?_some hs;unfold Ci at this;exact⟨rfl,by simpa using this⟩
    ·injection h with h1 h2;cases h2
theorem allF_at(l:List UInt8):∀(n i:Nat) (ts:List Tk),i≤l.length→L9 l n i=some (.inr ts)→∀j (h:j<ts.length),stB l ts[j].text ts[j].pos=true
 |0,i,ts,hi,h,j,hj=>by cases h
 |n+1,i,ts,hi,h,j,hj=>by
  unfold L9 at h
  split at h
  ·rename_i hil
   split at h
   ·cases h
   ·rename_i p hp
    split at h
    ·rename_i he
     split at h
     ·cases h
     ·cases h
     ·rename_i ts2 h2
      injection h with h;injection h with h;subst h
      have hq:Fx (l.drop i) i=some (p.1,0):=by rw[hp,← he]
      obtain⟨t1,t2⟩:=next_text hq;have t3:=Tf hq;rw[Jb4]at t3
      cases j with
      |zero =>
       show stB l p.1.text p.1.pos=true
       unfold stB;rw[t1,t2,Ja2];exact⟨decide_eq_true (by omega),decide_eq_true rfl⟩
      |succ j =>
       have hs:=Ki (l.length+1) (l.drop (i+p.1.text.length));rw[Jb4]at hs;exact allF_at l n _ ts2 (by omega) h2 j (by simpa using hj)
    ·cases h
  ·injection h with h;injection h with h;subst h
   have:j=0:=by simp at hj;exact hj
   subst this
   show stB l [] l.length=true
   unfold stB;simp
theorem lexL_at{l:List UInt8}{ts:List Tk}(h:Iw l=some (.inr ts)):Pw l ts:=by
 unfold Iw at h
 split at h
 ·cases h
 ·intro i hi
  rw[Gy hi];exact allF_at l _ _ ts (Ki _ _) h i hi
theorem gU(l:List UInt8):∀(n i:Nat) (ts:List Tk),L9 l n i=some (.inr ts)→ts.length≤n
 |0,i,ts,h=>by cases h
 |n+1,i,ts,h=>by
  unfold L9 at h
  split at h
  ·split at h
   ·cases h
   ·rename_i p hp
    split at h
    ·rename_i he
     split at h
     ·cases h
     ·cases h
     ·rename_i ts2 h2
      injection h with h;injection h with h;subst h
      have:=gU l n _ ts2 h2;simp;omega
    ·cases h
  ·injection h with h;injection h with h;subst h
   simp
theorem lexL_len{l:List UInt8}{ts:List Tk}(h:Iw l=some (.inr ts)):ts.length≤4001:=by
 unfold Iw at h
 split at h
 ·cases h
 ·have:=gU l _ _ ts h;omega
theorem kV{l:List UInt8}{ts:List Tk}(h:Iw l=some (.inr ts)):ts.length≤l.length+1:=by
 unfold Iw at h
 split at h
 ·cases h
 ·exact gU l _ _ ts h
theorem read_s{l:List UInt8}{out:(Nat × Nat) ⊕ List Tk}(h:Iw l=some out):Lf 70000 out≠none∧∀ns,Lf 70000 out=some (.inl ns)→(∀n∈ns,mO l (l.length+1) n)∧ns.length≤l.length+1:=by
 cases out with
 |inl x=>exact⟨(fun e=>by cases e),(fun ns e=>by cases e)⟩
 |inr ts =>
  obtain⟨h1,h2⟩:=Xa h;have h3:=lexL_len h;have h4:=kV h;have hs:=program_s h1 (lexL_at h) 70000 (by omega) (by decide) h2
  unfold Lf;simp only
  cases hp:Do ts 70000 0 with
  |out=>exact absurd hp hs.1
  |bad a e=>exact⟨(fun e=>by cases e),(fun ns e=>by cases e)⟩
  |ok ns j =>
   obtain⟨_,k1,k2⟩:=hs.2 ns j hp
   have key:(∀n∈ns,mO l (l.length+1) n)∧ns.length≤l.length+1:=⟨fun n hn=>by
    obtain⟨a1,a2,a3,a4,a5⟩:=k1 n hn
    exact⟨a1,a2,fun q hq=>⟨(a3 q hq).1,(a3 q hq).2.1,Jb2 (a3 q hq).2.2 h4⟩,Jb2 a4 h4,Jb2 a5 h4⟩,Jb2 k2 h4⟩
   simp only
   split
   ·exact⟨(fun e=>by cases e),(fun ns' e=>by injection e with e;injection e with e;subst e;exact key)⟩
   ·exact⟨(fun e=>by cases e),(fun ns e=>by cases e)⟩
theorem wS{b:UInt8}(h:Dp b=true):Bq b=true:=by
 unfold Bq;rw[h];rfl
theorem next_pos{l:List UInt8}{i:Nat}{t:Tk}(h:Fx l i=some (t,0)):0<t.text.length:=by
 unfold Fx at h
 split at h
 ·cases h
 ·rename_i b r
  split at h
  ·rename_i hb
   have hc:0<((b :: r).take (cnt Bq (b :: r))).length:=by
    rw[Jd0];unfold cnt;rw[if_pos (wS hb)];simp
   injection h with h
   unfold Kd at h
   split at h
   ·injection h with h1 h2;subst h1;exact hc
   ·split at h
    ·injection h with h1 h2;cases h2
    ·injection h with h1 h2;subst h1;exact hc
  ·split at h
   ·rename_i hb
    have hc:0<((b :: r).take (cnt Bi (b :: r))).length:=by
     rw[Jd0];unfold cnt;rw[if_pos hb];simp
    unfold Sk at h
    split at h
    ·injection h with h;injection h with h1 h2;cases h2
    ·split at h
     ·split at h
      ·injection h with h;injection h with h1 h2;cases h2
      ·injection h with h;injection h with h1 h2;subst h1;exact hc
     ·injection h with h;injection h with h1 h2;cases h2
   ·injection h with h
    unfold J2 at h
    split at h
    ·rename_i s hs
     injection h with h1 h2;subst h1
     have:=List.mem_of_find?_eq_some hs;exact(show ∀s∈Cu,0<s.length by decide) s this
    ·injection h with h1 h2;cases h2
theorem next_some{l:List UInt8}{i:Nat}(h:l≠[]):∃p,Fx l i=some p:=by
 unfold Fx
 split
 ·exact absurd rfl h
 ·split
  ·exact⟨_,rfl⟩
  ·split
   ·unfold Sk
    split
    ·exact⟨_,rfl⟩
    ·split
     ·split
      ·exact⟨_,rfl⟩
      ·exact⟨_,rfl⟩
     ·exact⟨_,rfl⟩
   ·exact⟨_,rfl⟩
theorem mK(l:List UInt8):∀n i,l.length+1≤n+i→i≤l.length→∃out,L9 l n i=some out
 |0,i,h1,h2=>by omega
 |n+1,i,h1,h2=>by
  unfold L9
  by_cases hi:i<l.length
  ·rw[if_pos hi]
   obtain⟨p,hp⟩:=next_some (l:=l.drop i) (i:=i) (by intro e;have:=congrArg List.length e;rw[Jb4]at this;simp at this;omega)
   rw[hp];simp only
   by_cases he:p.2=0
   ·rw[if_pos he]
    have hq:Fx (l.drop i) i=some (p.1,0):=by rw[hp,← he]
    have h3:=next_pos hq;have h4:=Tf hq;rw[Jb4]at h4;have h5:=Ki (l.length+1) (l.drop (i+p.1.text.length));rw[Jb4]at h5;obtain⟨out,ho⟩:=mK l n (i+p.1.text.length+Fe (l.length+1) (l.drop (i+p.1.text.length))) (by omega) (by omega)
    rw[ho]
    cases out with
    |inl x=>exact⟨_,rfl⟩
    |inr ts=>exact⟨_,rfl⟩
   ·rw[if_neg he];exact⟨_,rfl⟩
  ·rw[if_neg hi];exact⟨_,rfl⟩
theorem lexL_some(l:List UInt8):∃out,Iw l=some out:=by
 unfold Iw
 split
 ·exact⟨_,rfl⟩
 ·exact mK l _ _ (by omega) (Ki _ _)
def GhW(w:World):Gh:={ loc:=fun _=>none,im:=fun b o=>b<w.heap.size∧∃v,w.cell? ⟨b,o,none⟩=some v }
theorem SR.whole(w:World):SR w.heap.size w (GhW w) St0 w :=
 ⟨.refl _ _,Ja1 _,fun _ _ h=>h.2,fun _ _=>⟨rfl,rfl⟩,Ja1 _,fun _ _ _ h=>(by cases h),fun _ _ h=>(by cases h),fun _ _ _ _ _ _ _ h=>(by cases h)⟩
def RngIn(w:World):Prop:=∃b o:Nat,w.cell? ⟨5,0,none⟩=some (.iface 369 (.pointer (some ⟨b,o,none⟩)))
theorem RngIn.gr{w:World}(h:RngIn w):GR (GhW w) w gR:=by
 obtain⟨b,o,h⟩:=h;intro g cs hg;unfold gR at hg
 cases hb:Nat.beq g 5 with
 |false=>rw[hb]at hg;cases hg
 |true =>
  have:g=5:=Jc1 hb;subst this;rw[hb]at hg;injection hg with hg;subst hg
  refine⟨.ep _ 5 0 (fun _=>.iface 369 (.pointer (some ⟨b,o,none⟩))) (fun k hk=>?_) (fun x hx=>?_) (fun k hk=>?_),fun h2=>absurd h2 (by simp)⟩
  ·have:k=0:=by simp at hk;exact hk
   subst this;exact⟨⟨World.block_lt_of_cell? w _ h,_,h⟩,h⟩
  ·simp only[Jb8,Ja7,or_false]at hx;subst hx;rfl
  ·have:k=0:=by simp at hk;exact hk
   subst this;exact .iface _ _ _ (.ep [] b o (fun _=>undef) (fun k h=>absurd h (Jb3 k)) (fun _ h=>absurd h Ja7) (fun k h=>absurd h (Jb3 k)))
def Z0:List AV→Option AV
 | [.nils,.v (.string _)]=>some (A2 [])
 | [.sl _ _ 1 es,.v (.string s)]=>match Ro es with
  |some ws=>if ws.length≤1000000∧(Lib.join ws s.data.toList).length≤1000000000 then some (A2 (Lib.join ws s.data.toList))else none
  |none=>none
 |_=>none
def uU:List AV→Option AV
 | [.v (.int .i64 n),.v (.int .i64 10)]=>if -9223372036854775808≤n∧n≤9223372036854775807 then some (A2 (Lib.itoa n))else none
 |_=>none
def xQ:List AV:=Lib.pow10Tab.map fun z=>.v (.int .u64 z)
def gF:Gl:=fun g=>Bool.rec none (some xQ) (Nat.beq g 1)
def knownI6(k:Nat):Option (List AV→St→R):=Bool.rec (Bool.rec none (some (Gq Z0)) (Nat.beq k 105)) (some (Gq uU)) (Nat.beq k 158)
def E6:Env:={ P:=Tryz.prog,G:=gF,F:=E1.F,I:=knownI6,M:=rowM }
section
attribute [local go_sem] Bool.false_eq_true Option.getD_some T.get_leaf T.get_set B1 Bn Dc Dr Bz Dl Dz Db Cn Cg F1 F0 decide_true A6 Bg C1 fM Bm Cm if_false if_true Cx Gb Bo ofOpt C0 Ba A4 Cw true_and D8 Bc
theorem Hx:E6.P=Tryz.prog:=_root_.id rfl
theorem e6_G:E6.G=gF:=_root_.id rfl
theorem Kk(a b:AV):Ha Tryz.prog 2 a b=false:=by
 have h:Tryz.prog.underlying 2=some (.int .i64):=rfl;unfold Ha;rw[h]
end
section
attribute [local go_sem] Bool.false_eq_true List.append_nil List.nil_append Option.getD_some T.get_leaf T.get_set B1 Bn Dc Dr Bz Dl Dz Db Cs Cr Cn Cg Ct F1 F0 Hx A6 Bg Cz C1 D6 Qj Jk fe0 fe2 fe3 Bm Cm if_false if_true Cx C9 Kk Em Bo ofOpt C0 Ba Gv A4 Cw true_and D8 Bc
theorem fe5'(b:Nat):A3 Tryz.prog 57 (.ptr b 0) 5=some (.ptr b 5):=by kernel_rfl
section
variable {S:St} {id kind pos:Nat} {n:Int} {name:List UInt8} {off:Bool} {kv:AV} (h:S.mem.get id=some (.box (exC kind pos n name off kv)))
include h
end
theorem RepF.at:∀{es:List AV} {l:List PE},RepF es l→∀(j:Nat) (h:j<es.length) (h2:j<l.length),RepE es[j] l[j]
 |_,_,.cons a e r l h h2,0,_,_=>h
 |_,_,.cons a e r l h h2,j+1,k1,k2=>RepF.at h2 j (by simpa using k1) (by simpa using k2)
end
section
attribute [local go_sem] Bool.false_eq_true Option.getD_some T.get_set B1 Bn Dc Bz Dz Ct Hx A6 Bg C1 if_false if_true Em Bo ofOpt C0 Rq A4 true_and Bc
def gZ(lo:Nat)(S:St)(a:AV)(es:List AV):Prop:=(a=.nils∧es=[])∨∃tok,2≤tok∧lo≤tok∧tok<S.next∧a=.sl tok 0 1 es∧S.mem.get tok=some (.tip es.length)
theorem gZ.keep{lo:Nat}{S S':St}{a:AV}{es:List AV}(h:gZ lo S a es)(k:Dm S S'):gZ lo S' a es:=by
 rcases h with h | ⟨tok,h1,h2,h3,h4,h5⟩
 ·exact .inl h
 ·exact .inr ⟨tok,h1,h2,Ja0 h3 k.1,h4,by rw[k.2 tok h3];exact h5⟩
theorem i9:(Tryz.prog.info? 9).map (fun i=>(i.zero,i.size,i.bytes))=some (some (.string ⟨#[]⟩),1,16):=by kernel_rfl
end
section
attribute [local go_sem] Bool.false_beq Bool.false_eq_true Bool.not_true List.append_nil List.getElem?_cons_succ List.getElem?_cons_zero List.getElem?_toArray List.nil_append Option.bind_some Option.getD_some T.get_leaf T.get_set B1 Ky Bn Ir Oq Dr Bz Dl Dz Db Ez Cs Cr and_true Oc beq_self_eq_true Ct F1 F0 e6_G Hx A6 Bg Cz J4 By C1 Fc Et Ja D6 Ls fe3 fe5' Bm Cm if_false if_true Cx Xb Fq C9 Em Gb Bo ofOpt Bu C0 D2 Ba Gv F2 E8 A4 Cw true_and D8 Bc
end
end Go.Ax
noncomputable section
namespace Go.Ax
open Go.RowKit Go.Proofs
set_option maxRecDepth 100000
end Go.Ax
noncomputable section
namespace Go.Ax
open Go.RowKit Go.Proofs
set_option maxRecDepth 100000
section
attribute [local go_sem] AV.cells Bool.false_eq_true List.append_nil List.nil_append Option.getD_some T.get_leaf T.get_set B1 Bn Ir Dr Bz Dl Dz Db Ct Hx A6 Bg C1 Et Bm Cm if_false if_true Cx C9 Em Gb Bo ofOpt ofOptS C8 C0 D2 Ba A4 Cw true_and D8 Bc
end
def Kz(d:PD):Prop:=H6 d.name∧(d.clock=[]→d.off=false)∧(d.clock≠[]→H6 d.clock)
def GoodLs(l:List (List UInt8 × Nat)):Prop:=l≠[]∧∀x∈l,H6 x.1
def Wh(q:PQ):Prop:=GoodLs q.left∧GoodT q.e∧(q.async=true→N6 q.e=13)∧¬ Kt q.e > 40
structure GoodNode(n:PN):Prop where
 name:H6 n.name
 ins:∀d∈n.ins,Kz d∧d.clock=[]
 outs:∀d∈n.outs,Kz d∧d.clock=[]
 vars:∀d∈n.vars,Kz d
 eqs:∀q∈n.eqs,Wh q
theorem eG{l:List UInt8}{a:Nat}{t:Tk}(h:Fx l a=some (t,0))(hk:t.kind=1):H6 t.text:=by
 unfold Fx at h
 cases l with
 |nil=>cases h
 |cons b r =>
  simp only at h
  split at h
  ·rename_i hb
   injection h with h
   unfold Kd at h
   split at h
   ·injection h with h1 h2;subst h1;cases hk
   ·rename_i hw
    split at h
    ·injection h with h1 h2;cases h2
    ·rename_i hl
     injection h with h1 h2
     subst h1;have hpos:cnt Bq (b :: r)=cnt Bq r+1:=Mm (by unfold Bq;rw[hb];rfl)
     have htake:(b :: r).take (cnt Bq (b :: r))=b :: r.take (cnt Bq r):=by rw[hpos];rfl
     have hall:=(Ra Bq r).1;have hlen:=(Ra Bq (b :: r)).2;refine⟨⟨hw,fun hs=>?_⟩,⟨b,r.take (cnt Bq r),htake,hb,hall⟩,by show(List.take _ _).length≤30;rw[hlen];omega⟩
     change (b :: r).take (cnt Bq (b :: r))∈Cu at hs;rw[htake]at hs
     have hn:∀s∈Cu,∀c q,s=c :: q→Dp c=false:=by
      intro s hs c q e;simp only[Cu,Jb8,Ja7,or_false]at hs;rcases hs with h |h |h |h |h |h |h |h |h |h |h |h |h |h |h |h <;> (rw[h]at e;injection e with e _;subst e;decide)
     have:=hn _ hs b _ rfl;rw[hb]at this;cases this
  ·split at h
   ·unfold Sk at h
    split at h
    ·injection h with h;injection h with h1 h2;cases h2
    ·split at h
     ·split at h
      ·injection h with h;injection h with h1 h2;cases h2
      ·injection h with h;injection h with h1 h2;subst h1;cases hk
     ·injection h with h;injection h with h1 h2;cases h2
   ·injection h with h
    unfold J2 at h
    split at h
    ·injection h with h1 h2;subst h1;cases hk
    ·injection h with h1 h2;cases h2
section
variable {ts:List Tk} (hts:NameL ts)
include hts
omit hts in
omit hts in
omit hts in
omit hts in
omit hts in
theorem eqP_le(n i:Nat):(eqP ts n i).le (eqP ts (n+1) i):=by
 have hr:∀(n:Nat) (l:List (List UInt8 × Nat)) (i:Nat),(Ft ts (Hb ts) n l i).le (Ft ts (Hb ts) (n+1) l i):=by
  intro n
  induction n with
  |zero=>intro l i ho;exact absurd rfl ho
  |succ n ih =>
   intro l i;unfold Ft;exact Mk (Eg (le_refl _) fun a j=>ih _ j) (le_refl _)
 have hl:(H3 ts n i).le (H3 ts (n+1) i):=by
  unfold H3;exact Mk (le_refl _) (Eg (le_refl _) fun _ j=>Eg (le_refl _) fun x j=>Eg (le_refl _) fun _ j=>Eg (Eg (le_refl _) fun y m=>hr n _ _) fun _ _=>le_refl _)
 unfold eqP;refine Eg hl fun ls j=>Eg (le_refl _) fun _ j=>Mk ?_ ?_
 ·exact Eg (Eg (P_le n .call _) fun _ _=>le_refl _) fun _ _=>le_refl _
 ·exact Eg (Eg (P_le n .expr _) fun _ _=>le_refl _) fun _ _=>le_refl _
omit hts in
theorem eqsP_le(N:Nat):∀(n:Nat) (l:List PQ) (i:Nat),(Oa ts N n l i).le (Oa ts (N+1) (n+1) l i)
 |0,l,i=>fun ho=>absurd rfl ho
 |n+1,l,i=>by
  unfold Oa;exact Mk (le_refl _) (Eg (eqP_le N i) fun q j=>eqsP_le N n _ j)
omit hts in
theorem lT(n i:Nat):(Hz ts (El ts) n i).le (Hz ts (El ts) (n+1) i):=by
 have hr:∀(n:Nat) (l:List PD) (i:Nat),(Ft ts (El ts) n l i).le (Ft ts (El ts) (n+1) l i):=by
  intro n
  induction n with
  |zero=>intro l i ho;exact absurd rfl ho
  |succ n ih =>
   intro l i;unfold Ft;exact Mk (Eg (le_refl _) fun a j=>ih _ j) (le_refl _)
 unfold Hz;exact Eg (le_refl _) fun _ j=>Mk (le_refl _) (Eg (le_refl _) fun x m=>hr n _ _)
omit hts in
theorem qN:∀(n:Nat) (l:List PD) (i:Nat),(Ix ts n l i).le (Ix ts (n+1) l i)
 |0,l,i=>fun ho=>absurd rfl ho
 |n+1,l,i=>by
  unfold Ix;exact Mk (Eg (le_refl _) fun d j=>qN n _ j) (le_refl _)
omit hts in
theorem tK(n i:Nat):(Hk ts n i).le (Hk ts (n+1) i):=by
 unfold Hk;refine Eg (le_refl _) fun _ j=>Eg (le_refl _) fun t j=>Eg (lT n j) fun ins j=>Eg (le_refl _) fun _ j=>Eg (lT n j) fun outs j=>Eg ?_ fun vars j=>Eg (le_refl _) fun _ j=>Eg (eqsP_le n n [] j) fun qs j=>Eg (le_refl _) fun _ j=>le_refl _
 unfold Ke;exact Mk (Eg (le_refl _) fun x m=>qN n _ m) (le_refl _)
omit hts in
theorem sV(N:Nat):∀(n:Nat) (l:List PN) (i:Nat),(Jo ts N n l i).le (Jo ts (N+1) (n+1) l i)
 |0,l,i=>fun ho=>absurd rfl ho
 |n+1,l,i=>by
  unfold Jo;exact Mk (Eg (tK N i) fun q j=>sV N n _ j) (le_refl _)
omit hts in
theorem sS(n i:Nat):(Do ts n i).le (Do ts (n+1) i):=by
 unfold Do;exact Eg (tK n i) fun x j=>sV n n [x] j
omit hts in
theorem iI{n m:Nat}(h:n≤m)(i:Nat):(Do ts n i).le (Do ts m i):=by
 induction h with
 |refl=>exact le_refl _
 |step _ ih=>exact fun ho=>(sS _ _ (by rw[ih ho];exact ho)).trans (ih ho)
end
structure Tok1(t:Tk):Prop where
 word:t.kind=1∨t.kind=2→t.text ∉ E9∧t.text ∉ Cu
 kinds:1≤t.kind∧t.kind≤5
 k3:t.text∈E9→t.kind=3
 num:t.num≤9223372036854775808
theorem Wi:∀s∈E9,∃c q,s=c :: q∧Dp c=true:=by
 intro s hs;simp only[E9,Jb8,Ja7,or_false]at hs;rcases hs with h |h |h |h |h |h |h |h |h |h |h |h |h |h |h |h |h |h |h |h |h |h |h |h |h <;> (subst h;exact⟨_,_,rfl,by decide⟩)
theorem Sr:∀s∈Cu,∃c q,s=c :: q∧Dp c=false∧Bi c=false:=by
 intro s hs;simp only[Cu,Jb8,Ja7,or_false]at hs;rcases hs with h |h |h |h |h |h |h |h |h |h |h |h |h |h |h |h <;> (subst h;exact⟨_,_,rfl,by decide,by decide⟩)
theorem next_tok1{l:List UInt8}{a:Nat}{t:Tk}(h:Fx l a=some (t,0)):Tok1 t:=by
 have h0:=h;unfold Fx at h
 cases l with
 |nil=>cases h
 |cons b r =>
  simp only at h
  split at h
  ·rename_i hb
   injection h with h
   unfold Kd at h
   split at h
   ·rename_i hw
    injection h with h1 h2
    subst h1;exact⟨fun h=>(by rcases h with h |h <;> cases h),⟨(by show(1:Nat)≤3;decide),(by show(3:Nat)≤5;decide)⟩,fun _=>rfl,Nat.zero_le _⟩
   ·rename_i hw
    split at h
    ·injection h with h1 h2;cases h2
    ·injection h with h1 h2
     have hn:=eG h0 (by rw[← h1])
     subst h1;exact⟨fun _=>hn.1,⟨(by show(1:Nat)≤1;decide),(by show(1:Nat)≤5;decide)⟩,fun h=>absurd h hw,Nat.zero_le _⟩
  ·rename_i hb
   split at h
   ·rename_i hd
    unfold Sk at h
    split at h
    ·injection h with h;injection h with h1 h2;cases h2
    ·split at h
     ·split at h
      ·injection h with h;injection h with h1 h2;cases h2
      ·rename_i hle
       injection h with h;injection h with h1 h2
       subst h1;have hpos:cnt Bi (b :: r)=cnt Bi r+1:=Mm hd;have htake:(b :: r).take (cnt Bi (b :: r))=b :: r.take (cnt Bi r):=by rw[hpos];rfl
       have hnw:(b :: r).take (cnt Bi (b :: r)) ∉ E9:=fun hs=>by
        rw[htake]at hs;obtain⟨c,q,e,hc⟩:=Wi _ hs;injection e with e _;subst e
        exact hb hc
       refine⟨fun _=>⟨hnw,fun hs=>?_⟩,⟨(by show(1:Nat)≤2;decide),(by show(2:Nat)≤5;decide)⟩,fun h=>absurd h hnw,by show Fz 0 _≤_;omega⟩
       change (b :: r).take (cnt Bi (b :: r))∈Cu at hs;rw[htake]at hs;obtain⟨c,q,e,_,hc⟩:=Sr _ hs;injection e with e _;subst e
       rw[hd]at hc;cases hc
     ·injection h with h;injection h with h1 h2;cases h2
   ·injection h with h
    unfold J2 at h
    split at h
    ·rename_i s hs
     injection h with h1 h2;subst h1
     have hm:=List.mem_of_find?_eq_some hs;refine⟨fun h=>(by rcases h with h |h <;> cases h),⟨(by show(1:Nat)≤4;decide),(by show(4:Nat)≤5;decide)⟩,fun hw=>?_,Nat.zero_le _⟩
     obtain⟨c,q,e,hc⟩:=Wi _ hw;obtain⟨c',q',e',hc',_⟩:=Sr _ hm;have e:s=c :: q:=e;rw[e']at e;injection e with e _
     rw[e,hc]at hc';cases hc'
    ·injection h with h1 h2;cases h2
theorem from_tok1{ts:List Tk}(h:FromLex ts):∀t∈ts,Tok1 t:=by
 induction h with
 |last t h =>
  intro x hx;rw[Jb5]at hx;subst hx;obtain⟨h1,h2,h3⟩:=h;refine⟨fun h=>by omega,by omega,fun hw=>?_,by omega⟩
  rw[h2]at hw;exact absurd hw (by decide)
 |cons t r l a h hr ih =>
  intro x hx;rcases Jb8.1 hx with rfl |hx
  ·exact next_tok1 h
  ·exact ih x hx
theorem lex_tok3{l:List UInt8}{ts:List Tk}(h:Iw l=some (.inr ts)):Tok3 ts∧0<ts.length:=by
 obtain⟨h1,h2⟩:=Xa h
 have hall:∀i,i<ts.length→Tok1 (tk ts i):=fun i hi=>by
  rw[Gy hi];exact from_tok1 (Yw h) _ (List.getElem_mem hi)
 exact⟨{ toTokOk:=h1,word:=fun i hi=>(hall i hi).word,kinds:=fun i hi=>(hall i hi).kinds,k3:=fun i hi=>(hall i hi).k3,num:=fun i hi=>(hall i hi).num },h2⟩
theorem sR(l:List UInt8)(hA:∃a,Kn Tryz.prog (Fv []) 63 [A2 l] a):∃a,Kn Tryz.prog Qd 20 [A2 l] a:=program_k l hA fun _ h=>lex_tok3 h
end Go.Ax
noncomputable section
namespace Go.Ax
open Go.RowKit Go.Proofs
set_option maxRecDepth 100000
def Om(b:UInt8):Nat:=if Dp b then 1 else if Bi b then 2 else if Cf b then 3 else 0
def SpClass(args:List AV)(a:AV):Prop:=∀b:UInt8,args=[G3 b]→a=Bk (Om b)
def SpSkip(args:List AV)(a:AV):Prop:=∀(l:List UInt8) (i:Nat),args=[A2 l,Bk i]→l.length≤100000→i≤l.length→a=Bk (i+Fe (l.length+1) (l.drop i))
def SpRowS(ws:List (List UInt8))(args:List AV)(a:AV):Prop:=args=[]→a=.sl 0 0 1 (ws.map A2)
def SpNumb(args:List AV)(a:AV):Prop:=∀ds:List UInt8,args=[A2 ds]→ds.length≤100000→ds≠[]→(∀b∈ds,Bi b=true)→∃(n:Nat) (e:Int),a=.tup [Kf n,.v (.int .i64 e)]∧(e=0→¬ (1<ds.length∧ds.head? = some 48)∧n=Fz 0 ds∧n≤9223372036854775808)
def SpOne(args:List AV)(a:AV):Prop:=∀(l:List UInt8) (i:Nat),args=[A2 l,Bk i]→l.length≤100000→i<l.length→∃(x0 x1 x2 x3:AV) (j:Nat) (e:Int),a=.tup [.agg [x0,x1,x2,x3],Bk j,.v (.int .i64 e)]∧(e=0→∃t,Fx (l.drop i) i=some (t,0)∧AV.agg [x0,x1,x2,x3]=C6 t∧j=i+t.text.length)
def Oe(k:FuncId)(args:List AV)(a:AV):Prop:=match k with
 |176=>SpClass args a
 |113=>SpSkip args a
 |114=>SpOne args a
 |177=>SpRowS E9 args a
 |179=>SpRowS Cu args a
 |178=>SpNumb args a
 |_=>False
def kn4(k:Nat):Bool:=[176,113,114,177,179,178].any (Nat.beq k)
def E5:Env:={ P:=Tryz.prog,G:=G0,F:=E1.F,I:=fun _=>none,M:=fun _=>0 }
theorem e5_ok:E5.Ok:=⟨fun k fn h=>Kr.fn k fn h⟩
theorem e5_intr:G8 E5:=fun k g h=>by cases h
theorem dK{k:FuncId}{args:List AV}(Spec:FuncId→List AV→AV→Prop)(m:Nat){a:AV}{S':St}(hF:(E5.F k).isSome=true)(hst:Mn E5 m k args St0=.ret a S')(hfr:Bw a=true)(hsp:Spec k args (clean a)):∃a,Kn Tryz.prog Spec k args a:=by
 refine⟨clean a,(Ku a hfr).1,(Ku a hfr).2,fun w im him vs hv=>?_,hsp⟩
 have hS0:SR w.heap.size w ⟨fun _=>none,im⟩ St0 w:=⟨.refl _ _,Ja1 _,him,fun _ _=>⟨rfl,rfl⟩,Ja1 _,fun _ _ _ h=>(by cases h),fun _ _ h=>(by cases h),fun _ _ _ _ _ _ _ h=>(by cases h)⟩
 have:=Rc e5_ok e5_intr Ks m w.heap.size w k args St0 (by rw[hst];intro e;cases e) ⟨fun _=>none,im⟩ w vs hS0 GR.none hv hF
 rw[hst]at this;refine this.mono fun e w' he=>?_
 obtain⟨γ',v,h1,h2,h3,rfl⟩:=he;refine⟨v,γ',rfl,h1.below,h1.imc,fun b hlt o ho=>(h2.frame b hlt (fun id c s hm hl=>by cases hl)).2 o ho,fun γ2 h=>h3.clean h hfr⟩
def yN(n:Nat)(r:R):Bool:=match r with
 |.ret (.v (.int .i64 x)) _=>decide (x=(n:Int))
 |_=>false
theorem isIntR_ok{n:Nat}{r:R}(h:yN n r=true):∃S',r=.ret (Bk n) S':=by
 unfold yN at h
 split at h
 ·rename_i x S'
  exact⟨S',by rw[of_decide_eq_true h];rfl⟩
 ·cases h
def nC(a:AV):Option (List UInt8):=match a with
 |.v (.string s)=>some s.data.toList
 |_=>none
def oM(ws:List (List UInt8))(r:R):Bool:=match r with
 |.ret (.sl _ _ sz es) _=>Nat.beq sz 1 && decide (es.map nC=ws.map some)
 |_=>false
theorem textOf_is{a:AV}{s:List UInt8}(h:nC a=some s):a=A2 s:=by
 unfold nC at h
 split at h
 ·rename_i b
  injection h with h
  subst h;rcases b with⟨⟨l⟩⟩;rfl
 ·cases h
theorem qY:∀{es:List AV} {ws:List (List UInt8)},es.map nC=ws.map some→es=ws.map A2
 | [],[],_=>rfl
 | [],_ :: _,h=>by cases h
 |_ :: _,[],h=>by cases h
 |a :: es,w :: ws,h=>by
  obtain⟨h1,h2⟩:=Cy h;rw[Jc2,textOf_is h1,qY h2]
theorem kY{ws:List (List UInt8)}{r:R}(h:oM ws r=true):∃t o S',r=.ret (.sl t o 1 (ws.map A2)) S':=by
 unfold oM at h
 split at h
 ·rename_i t o sz es S'
  rw[Ja2]at h;have h1:=Jc1 h.1;subst h1;exact⟨t,o,S',by rw[qY (of_decide_eq_true h.2)]⟩
 ·cases h
theorem class_run:(List.range 256).all (fun n=>yN (Om (UInt8.ofNat n)) (Mn E5 2000 176 [G3 (UInt8.ofNat n)] St0))=true:=by kernel_rfl
theorem class_k(b:UInt8):∃a,Kn Tryz.prog Oe 176 [G3 b] a:=by
 have h:=Jb6.1 class_run b.toNat (List.mem_range.2 b.toNat_lt);rw[show UInt8.ofNat b.toNat=b from UInt8.ofNat_toNat]at h
 obtain⟨S',hst⟩:=isIntR_ok h;refine dK Oe 2000 (by kernel_rfl) hst rfl ?_
 intro b' hb;have hb:=(Cy hb).1
 have:b=b':=by
  unfold G3 at hb;injection hb with hb
  injection hb with _ hb
  exact UInt8.toNat_inj.1 (by omega)
 subst this;rfl
theorem words_run:oM E9 (Mn E5 2000 177 [] St0)=true:=by kernel_rfl
theorem signs_run:oM Cu (Mn E5 2000 179 [] St0)=true:=by kernel_rfl
theorem words_k:∃a,Kn Tryz.prog Oe 177 [] a:=by
 obtain⟨t,o,S',hst⟩:=kY words_run;refine dK Oe 2000 (by kernel_rfl) hst (Ic _).1 ?_
 intro _
 show AV.sl 0 0 1 (Be _)=_
 rw[(Ic _).2]
theorem signs_k:∃a,Kn Tryz.prog Oe 179 [] a:=by
 obtain⟨t,o,S',hst⟩:=kY signs_run;refine dK Oe 2000 (by kernel_rfl) hst (Ic _).1 ?_
 intro _
 show AV.sl 0 0 1 (Be _)=_
 rw[(Ic _).2]
def E4:Env:={ P:=Tryz.prog,G:=G0,F:=E1.F,I:=fun k=>Bool.rec none (some (Ho Tryz.prog Oe k)) (kn4 k),M:=fun _=>0 }
theorem e4_P:E4.P=Tryz.prog:=_root_.id rfl
theorem e4_G:E4.G=G0:=_root_.id rfl
theorem e4_ok:E4.Ok:=⟨fun k fn h=>Kr.fn k fn h⟩
theorem e4_mix:E4.P.follows .mixedOrders=true:=Ks
theorem e4_I{k:Nat}(h:kn4 k=true):E4.I k=some (Ho Tryz.prog Oe k):=by
 show(Bool.rec none (some (Ho Tryz.prog Oe k)) (kn4 k):Option (List AV→St→R))=_
 rw[h]
theorem e4_intr:G8 E4:=fun k g hk base w0 args S hne γ w vs hS hg hv=>by
 have hk2:(Bool.rec none (some (Ho Tryz.prog Oe k)) (kn4 k):Option (List AV→St→R))=some g:=hk
 cases hb:kn4 k with
 |false=>rw[hb]at hk2;cases hk2
 |true =>
  rw[hb]at hk2;injection hk2 with hk2;subst hk2
  exact Ny base w0 args S hne γ w vs hS hv
abbrev Kn4(k:FuncId)(args:List AV):Prop:=∃a,Kn Tryz.prog Oe k args a
theorem body4{k:FuncId}{args:List AV}(fn:Func)(hF:E1.F k=some fn)(hb:fn.body.isSome=true)(hl:args.length≤fn.ntmps)
  (h:W E4 fn.ntmps (fn.body.getD .skip) ⟨Cx args 0,[]⟩ St0 (U6 E4 fn.results.toList (fun r=>∃a S',r=.ret a S'∧Bw a=true∧Oe k args (clean a)))):Kn4 k args :=
 Ul e4_ok e4_intr e4_mix rfl fn hF hb hl h
theorem mE{k:FuncId}{args args':List AV}{S:St}{Q:R→Prop}(hk:Kn4 k args')(hkn:kn4 k=true)(hf:C5 args=true)(hc:Be args=args')(h:∀a,Bw a=true→clean a=a→Oe k args' a→Q (.ret a S)):WC E4 k args S Q:=by
 subst hc;obtain⟨a,ha,hka⟩:=Me (P:=Tryz.prog) (Spec:=Oe) hf hk;refine Gu (e4_I hkn) ?_;rw[ha S];exact h a hka.free hka.cln hka.spec
theorem bJ:∃fn,E4.F 176=some fn:=Jc0.1 (by kernel_rfl)
theorem fn4_113:∃fn,E4.F 113=some fn:=Jc0.1 (by kernel_rfl)
theorem fn4_114:∃fn,E4.F 114=some fn:=Jc0.1 (by kernel_rfl)
theorem fn4_177:∃fn,E4.F 177=some fn:=Jc0.1 (by kernel_rfl)
theorem fn4_178:∃fn,E4.F 178=some fn:=Jc0.1 (by kernel_rfl)
theorem fn4_179:∃fn,E4.F 179=some fn:=Jc0.1 (by kernel_rfl)
attribute [go_sem] e4_G e4_P
end Go.Ax
noncomputable section
namespace Go.Ax
open Go.RowKit Go.Proofs
set_option maxRecDepth 100000
theorem class_all:(List.range 256).all (fun n=>(decide (Om (UInt8.ofNat n)=3) == Cf (UInt8.ofNat n)) && (decide (Om (UInt8.ofNat n)=1) == Dp (UInt8.ofNat n)) && (decide (Om (UInt8.ofNat n)=2) == Bi (UInt8.ofNat n)))=true:=by kernel_rfl
theorem pT(b:UInt8):decide (Om b=3)=Cf b∧decide (Om b=1)=Dp b∧decide (Om b=2)=Bi b:=by
 have h:=Jb6.1 class_all b.toNat (List.mem_range.2 b.toNat_lt);rw[show UInt8.ofNat b.toNat=b from UInt8.ofNat_toNat]at h
 simp only[Ja2,beq_iff_eq]at h;exact⟨h.1.1,h.1.2,h.2⟩
theorem Qm{b:UInt8}{S:St}{Q:R→Prop}(h:Q (.ret (.v (.int .i64 (Om b:Int))) S)):WC E4 176 [.v (.int .u8 (b.toNat:Int))] S Q :=
 mE (class_k b) (by kernel_rfl) rfl rfl fun a _ _ hs=>by
  rw[hs b rfl];exact h
theorem zC(n m:Nat):(((n:Nat):Int) == ((m:Nat):Int))=decide (n=m):=by
 rw[Bool.eq_iff_iff];simp;omega
theorem is3(b:UInt8):(((Om b:Nat):Int) == 3)=Cf b:=(zC _ 3).trans (pT b).1
theorem is1(b:UInt8):(((Om b:Nat):Int) == 1)=Dp b:=(zC _ 1).trans (pT b).2.1
theorem is2(b:UInt8):(((Om b:Nat):Int) == 2)=Bi b:=(zC _ 2).trans (pT b).2.2
theorem skip_bl{c:UInt8}(hc:Cf c=true)(N:Nat)(R:List UInt8):Fe (N+1) (c :: R)=1+Fe (N+1) R:=by
 refine Kh ?_ N R;unfold Cf at hc;simp only[Bool.or_eq_true,beq_iff_eq]at hc;rcases hc with(h |h) |h
 ·exact .inl (UInt8.toNat_inj.1 h)
 ·exact .inr (.inr (UInt8.toNat_inj.1 h))
 ·exact .inr (.inl (UInt8.toNat_inj.1 h))
theorem ltT{i n:Nat}(h:i<n):decide ((i:Int)<(n:Int))=true:=by rw[decide_eq_true_iff];omega
theorem ltF{i n:Nat}(h:¬ i<n):decide ((i:Int)<(n:Int))=false:=by rw[decide_eq_false_iff_not];omega
def skLB:Code:=match Tryz.f113.body with
 |some (.seq _ (.seq (.block _ (.loop c)) _))=>c
 |_=>.skip
def jH:Code:=match Tryz.f113.body with
 |some (.seq _ (.seq (.block _ (.loop (.seq _ (.block _ (.seq _ (.seq (.seq _ (.cond _ (.seq (.block _ (.loop c)) _) _)) _)))))) _))=>c
 |_=>.skip
def SkEnd(S:St)(v:Nat)(r:O):Prop:=(∃t',r=.out .ret ⟨t',[]⟩ S∧t'.get 4=some (Bk v))∨(∃t',r=.out (.exit 0) ⟨t',[]⟩ S∧t'.get 1=some (Bk v))
theorem sk2_lp{l:List UInt8}(hl:l.length≤100000):∀(d i:Nat) (t:T AV) (S:St),l.length - i<d→i≤l.length→t.get 0=some (A2 l)→t.get 1=some (Bk i)→WX E4 43 (.loop jH) ⟨t,[]⟩ S (fun r=>∃t',r=.out (.exit 2) ⟨t',[]⟩ S∧t'.get 0=some (A2 l)∧t'.get 1=some (Bk (i+cnt Hf (l.drop i))))
 |0,i,t,S,hd,_,_,_=>absurd hd (by omega)
 |d+1,i,t,S,hd,hi,T0,T1=>by
  refine Bt (Bp ?_);unfold A2 at T0;unfold Bk at T1
  by_cases hlt:i<l.length
  ·have hc:=ltT hlt
   have hw:=Jd (i:=i) (by omega)
   have hdr:=Ja6 hlt
   cases hn:(((l[i].toNat:Nat):Int) != 10)with
   |true =>
    simp(disch:=omega)only[go_sem,reduceEqDiff,jH,Tryz.f113,T0,T1,hn,hc,hw,Xf,Jt,Iy,G3,Bk,A2];have hne:Hf l[i]=true:=by unfold Hf;rw[Bool.not_eq_true',beq_eq_false_iff_ne];rw[bne_iff_ne]at hn;omega
    have e:i+cnt Hf (l.drop i)=i+1+cnt Hf (l.drop (i+1)):=by rw[hdr,Mm hne];omega
    rw[e];exact sk2_lp hl d (i+1) _ S (by omega) (by omega) (by simp only[A0,reduceEqDiff,Ab,T0,A2]) (by simp only[A0,reduceEqDiff,Aa,Ab,Bk])
   |false =>
    simp(disch:=omega)only[go_sem,reduceEqDiff,jH,Tryz.f113,T0,T1,hn,hc,hw,Xf,Jt,Iy,G3,Bk,A2]
    have hne:Hf l[i]=false:=by
     have:(l[i].toNat:Int)=10:=by
      rw[bne_eq_false_iff_eq]at hn;exact hn
     unfold Hf;rw[show l[i].toNat=10 by omega];rfl
    have e:cnt Hf (l.drop i)=0:=by rw[hdr];unfold cnt;rw[hne];rfl
    refine⟨_,rfl,by simp only[A0,reduceEqDiff,Ab,T0],?_⟩
    rw[e];simp only[A0,reduceEqDiff,Ab,T1,Nat.add_zero]
  ·have hc:=ltF hlt
   simp(disch:=omega)only[go_sem,reduceEqDiff,jH,Tryz.f113,T0,T1,hc,Jt,Iy,Bk,A2];have e:cnt Hf (l.drop i)=0:=by rw[Jc3 (by omega)];rfl
   refine⟨_,rfl,by simp only[A0,reduceEqDiff,Ab,T0],?_⟩
   rw[e];simp only[A0,reduceEqDiff,Ab,T1,Nat.add_zero]
theorem sk_lp{l:List UInt8}(hl:l.length≤100000):∀(d i N:Nat) (t:T AV) (S:St),l.length - i<d→i≤l.length→l.length - i<N→t.get 0=some (A2 l)→t.get 1=some (Bk i)→WX E4 43 (.loop skLB) ⟨t,[]⟩ S (SkEnd S (i+Fe N (l.drop i)))
 |0,i,N,t,S,hd,_,_,_,_=>absurd hd (by omega)
 |d+1,i,0,t,S,hd,hi,hN,T0,T1=>absurd hN (by omega)
 |d+1,i,N+1,t,S,hd,hi,hN,T0,T1=>by
  refine Bt (Bp ?_);unfold A2 at T0;unfold Bk at T1;obtain⟨fn1,hf1⟩:=bJ;have key:=fun t S=>sk2_lp hl (l.length+1) i t S
  unfold jH at key;simp only[Tryz.f113]at key
  by_cases hlt:i<l.length
  ·have hc:=ltT hlt
   have hw:=Jd (i:=i) (by omega)
   have hw2:IntKind.i64.wrap ((i:Int)+2)=((i+2:Nat):Int):=I2 (j:=2) (by omega)
   have hdr:=Ja6 hlt;simp(disch:=omega)only[go_sem,reduceEqDiff,skLB,Tryz.f113,T0,T1,hf1,hc,Xf,Jt,G3];refine Qm ?_
   cases hb:Cf l[i]with
   |true =>
    have hb3:=(is3 l[i]).trans hb;simp(disch:=omega)only[go_sem,reduceEqDiff,T0,T1,hw,hb3,Jt];have e:i+Fe (N+1) (l.drop i)=i+1+Fe (N+1) (l.drop (i+1)):=by rw[hdr,skip_bl hb];omega
    rw[e];exact sk_lp hl d (i+1) (N+1) _ S (by omega) (by omega) (by omega) (by simp only[A0,reduceEqDiff,Ab,T0,A2]) (by simp only[A0,reduceEqDiff,Aa,Ab,Bk])
   |false =>
    have hb3:=(is3 l[i]).trans hb;have hcb:cnt Cf (l.drop i)=0:=by rw[hdr];exact Lv hb
    by_cases hl2:i+1<l.length
    ·have hd1:=ltT hl2
     have hs:=Pb l i (i+2) (by omega) (by omega)
     rw[Nat.add_sub_cancel_left]at hs
     cases hst:decide (List.take 2 (l.drop i)=[45,45])with
     |true =>
      simp(disch:=omega)only[go_sem,reduceEqDiff,T0,T1,hw,hw2,hs,hb3,hst,hd1,Jt,G7];have hst2:Ci [45,45] (l.drop i)=true:=hst;refine WX.mono (key _ _ (by omega) hi (by simp only[A0,reduceEqDiff,Ab,T0,A2]) (by simp only[A0,reduceEqDiff,Ab,T1,Bk])) ?_
      rintro _ ⟨t',rfl,T0,T1⟩;have hcl:=Qk Hf (l.drop i);rw[Jb4]at hcl;have hc1:=vR hst2
      have e:i+Fe (N+1) (l.drop i)=i+cnt Hf (l.drop i)+Fe N (l.drop (i+cnt Hf (l.drop i))):=by
       rw[Pc,hcb,Jd1,if_pos hst2,Nat.zero_add,Nat.zero_add,List.drop_drop];omega
      rw[e];simp(disch:=omega)only[go_sem,reduceEqDiff];exact sk_lp hl d _ N _ S (by omega) (by omega) (by omega) T0 T1
     |false =>
      simp(disch:=omega)only[go_sem,reduceEqDiff,T0,T1,hw,hw2,hs,hb3,hst,hd1,Jt,G7];have hst2:Ci [45,45] (l.drop i)=false:=hst;rw[J7 hcb hst2];exact .inl ⟨_,rfl,by simp only[A0,reduceEqDiff,Aa,Ab,Bk,Nat.add_zero]⟩
    ·have hd1:=ltF hl2
     simp(disch:=omega)only[go_sem,reduceEqDiff,T0,T1,hw,hb3,hd1,Jt]
     have hst2:Ci [45,45] (l.drop i)=false:=by
      unfold Ci;rw[decide_eq_false_iff_not];intro h;have:=congrArg List.length h;simp at this;omega
     rw[J7 hcb hst2];exact .inl ⟨_,rfl,by simp only[A0,reduceEqDiff,Aa,Ab,Bk,Nat.add_zero]⟩
  ·have hc:=ltF hlt
   simp(disch:=omega)only[go_sem,reduceEqDiff,skLB,Tryz.f113,T0,T1,hc,Jt];rw[Jc3 (by omega:l.length≤i),J7 rfl rfl]
   exact .inr ⟨_,rfl,by simp only[A0,reduceEqDiff,Ab,T1,Bk,Nat.add_zero]⟩
theorem skip_k(l:List UInt8)(i:Nat)(hl:l.length≤100000)(hi:i≤l.length):Kn4 113 [A2 l,Bk i]:=by
 refine body4 Tryz.f113 (by kernel_rfl) (by kernel_rfl) (by show(_:Nat)≤_;simp[Tryz.f113]) ?_
 have key:=fun t S=>sk_lp hl (l.length+1) i (l.length+1) t S
 unfold skLB at key;simp only[Tryz.f113]at key;simp(disch:=omega)only[go_sem,Tryz.f113,Bk,A2]
 have fin:∃a S'',R.ret (Bk (i+Fe (l.length+1) (l.drop i))) St0=R.ret a S''∧Bw a=true∧Oe 113 [A2 l,Bk i] (clean a):=by
  refine⟨_,_,rfl,rfl,?_⟩;intro l' i' h _ _;have h1:=J6 (Cy h).1
  have h2:i=i':=by
   have h:=(Cy (Cy h).2).1;unfold Bk at h;injection h with h
   injection h with _ h
   omega
  subst h1;subst h2;rfl
 refine WX.mono (key _ _ (by omega) hi (by omega) (by simp only[A0,reduceEqDiff,Aa,Ab,A2]) (by simp only[A0,reduceEqDiff,Aa,Ab,Bk])) ?_
 rintro _ (⟨t',rfl,T4⟩ | ⟨t',rfl,T4⟩)
 ·unfold Bk at T4
  simp(disch:=omega)only[go_sem,T4];exact fin
 ·unfold Bk at T4
  simp(disch:=omega)only[go_sem,Nat.reduceLT,reduceEqDiff,T4];exact fin
end Go.Ax
noncomputable section
namespace Go.Ax
open Go.RowKit Go.Proofs
set_option maxRecDepth 100000
theorem u64w{n:Nat}(h:n<18446744073709551616):IntKind.u64.wrap (n:Int)=(n:Int):=by
 have:IntKind.u64.wrap (n:Int)=(n:Int) % 18446744073709551616:=by simp[IntKind.wrap,IntKind.bits,IntKind.signed]
 rw[this];omega
theorem u8w{n:Nat}(h:n<256):IntKind.u8.wrap (n:Int)=(n:Int):=by
 have:IntKind.u8.wrap (n:Int)=(n:Int) % 256:=by simp[IntKind.wrap,IntKind.bits,IntKind.signed]
 rw[this];omega
theorem Wa(n:Int):Mf Tryz.prog 5 119 (.v (.int .u8 n))=none:=by
 have h1:Tryz.prog.underlying 5=some (.int .u8):=rfl;simp only[Mf,h1]
def convB(r:OR)(S:St)(x:Option AV):OR:=match x with
 |some (.v (.int .u8 n))=>.val (.v (.int .u64 (IntKind.u64.wrap n))) S
 |_=>r
theorem pO(r:OR)(S:St)(n:Int):convB r S (some (.v (.int .u8 n)))=.val (.v (.int .u64 (IntKind.u64.wrap n))) S:=rfl
theorem yU(f:T AV)(S:St)(dst:Option Tmp)(k:Tmp)(ty:TypeId)(pos:String)(af:Array Edge)(gd:Option (Nat × Bool)):
  ground Tryz.prog G0 f S { dst:=dst,op:=.convert 5 119 (.tmp k),type:=ty,pos:=pos,after:=af,guard:=gd }=convB (convX Tryz.prog G0 f S { dst:=dst,op:=.convert 5 119 (.tmp k),type:=ty,pos:=pos,after:=af,guard:=gd }) S (f.get k):=by
 unfold convB
 split
 ·rename_i n h
  have hg:B8 G0 f (.tmp k)=some (.int .u8 n):=by unfold B8;simp only[A6,h];rfl
  unfold ground;simp only[Op.operands,List.all_cons,List.all_nil,hg,Option.isSome_some,Bool.and_self,Aa]
  have e:execOp (fun x=>(B8 G0 f x).getD undef) { dst:=dst,op:=.convert 5 119 (.tmp k),type:=ty,pos:=pos,after:=af,guard:=gd }=execOp (fun _=>.int .u8 n) { dst:=none,op:=.convert 5 119 (.tmp 0),type:=ty,pos := "", after:=#[],guard:=none }:=by
   simp only[execOp,hg,Ae]
  rw[e];have e3:Qv Tryz.prog 4000 (execOp (fun _=>Value.int .u8 n) { dst:=none,op:=.convert 5 119 (.tmp 0),type:=ty,pos := "", after:=#[],guard:=none })=some (.int .u64 (IntKind.u64.wrap n)):=by rfl
  rw[e3];rfl
 ·rfl
theorem kG:∀(xs:List UInt8) (a:Nat) (b:UInt8),Fz a (xs ++ [b])=Fz a xs*10+(b.toNat - 48)
 | [],a,b=>rfl
 |c :: xs,a,b=>kG xs _ b
theorem gtT{a b:Nat}(h:b<a):decide ((a:Int) > (b:Int))=true:=by rw[decide_eq_true_iff];omega
theorem gtF{a b:Nat}(h:¬ b<a):decide ((a:Int) > (b:Int))=false:=by rw[decide_eq_false_iff_not];omega
theorem oC(a b:AV):Ha Tryz.prog 119 a b=false:=by
 have h:Tryz.prog.underlying 119=some (.int .u64):=rfl;unfold Ha;rw[h]
theorem Xn(k:IntKind)(x y:Int):Cv .mul (.v (.int k x)) (.v (.int k y))=some (.v (.int k (k.wrap (x*y)))):=by simp[Cv]
theorem bL(k:IntKind)(x y:Int):Cv .sub (.v (.int k x)) (.v (.int k y))=some (.v (.int k (k.wrap (x - y)))):=by simp[Cv]
def xX:Code:=match Tryz.f178.body with
 |some (.seq _ (.seq _ (.seq _ (.seq (.seq _ (.block _ (.loop c))) _))))=>c
 |_=>.skip
def NuEnd(S:St)(v:Nat)(r:O):Prop:=(∃t' e,r=.out .ret ⟨t',[]⟩ S∧t'.get 2=some (Kf 0)∧t'.get 3=some (.v (.int .i64 e))∧e≠0)∨(∃t',r=.out (.exit 0) ⟨t',[]⟩ S∧t'.get 4=some (Kf v)∧v≤9223372036854775808)
theorem idx9_0(l:List UInt8)(b:UInt8)(r:List UInt8)(h:l=b :: r):K6 Tryz.prog 9 (.v (.string ⟨⟨l⟩⟩)) (.v (.int .i64 0))=some (G3 b):=by
 subst h;exact Xf (b :: r) 0 (by simp)
theorem nu_lp{ds:List UInt8}(hl:ds.length≤100000)(hall:∀b∈ds,Bi b=true):∀(d i:Nat) (t:T AV) (S:St),ds.length - i<d→i≤ds.length→Fz 0 (ds.take i)≤9223372036854775808→t.get 0=some (A2 ds)→t.get 4=some (Kf (Fz 0 (ds.take i)))→t.get 5=some (Bk i)→WX E4 33 (.loop xX) ⟨t,[]⟩ S (NuEnd S (Fz 0 ds))
 |0,i,t,S,hd,_,_,_,_,_=>absurd hd (by omega)
 |d+1,i,t,S,hd,hi,hv,T0,T4,T5=>by
  refine Bt (Bp ?_);unfold A2 at T0;unfold Kf at T4;unfold Bk at T5;have hll:True:=trivial
  by_cases hlt:i<ds.length
  ·have hc:=ltT hlt
   have hw:=Jd (i:=i) (by omega)
   have hdg:=hall ds[i] (List.getElem_mem hlt);unfold Bi at hdg;simp only[Ja2,decide_eq_true_eq]at hdg
   by_cases hg1:922337203685477580<Fz 0 (ds.take i)
   ·have hg:decide (((Fz 0 (ds.take i):Nat):Int) > 922337203685477580)=true:=gtT hg1
    simp(disch:=omega)only[go_sem,reduceEqDiff,xX,Tryz.f178,T0,T4,T5,hc,hw,hg,Xf,Jt,Iy,oC,G3,bL,Xn,Wa,yU,pO];exact .inl ⟨_,3,rfl,by simp only[A0,reduceEqDiff,Aa,Ab,Kf] <;> rfl,by simp only[A0,reduceEqDiff,Aa,Ab] <;> rfl,by decide⟩
   ·have hg:decide (((Fz 0 (ds.take i):Nat):Int) > 922337203685477580)=false:=gtF hg1
    have hwa:IntKind.u64.wrap (10*((Fz 0 (ds.take i):Nat):Int))=((10*Fz 0 (ds.take i):Nat):Int):=by
     rw[← u64w (n:=10*Fz 0 (ds.take i)) (by omega)]
     exact congrArg _ (by omega)
    have hwb:IntKind.u8.wrap (((ds[i].toNat:Nat):Int) - 48)=((ds[i].toNat - 48:Nat):Int):=by
     rw[← u8w (n:=ds[i].toNat - 48) (by omega)]
     exact congrArg _ (by omega)
    have hwc:IntKind.u64.wrap ((ds[i].toNat - 48:Nat):Int)=((ds[i].toNat - 48:Nat):Int):=u64w (by omega)
    have hn1:Fz 0 (ds.take (i+1))=10*Fz 0 (ds.take i)+(ds[i].toNat - 48):=by
     rw[List.take_succ_eq_append_getElem hlt,kG];omega
    have hwd:IntKind.u64.wrap (((10*Fz 0 (ds.take i):Nat):Int)+((ds[i].toNat - 48:Nat):Int))=((Fz 0 (ds.take (i+1)):Nat):Int):=by
     rw[hn1,← u64w (n:=10*Fz 0 (ds.take i)+(ds[i].toNat - 48)) (by omega)]
     exact congrArg _ (by omega)
    by_cases hg2:9223372036854775808<Fz 0 (ds.take (i+1))
    ·have hgb:decide (((Fz 0 (ds.take (i+1)):Nat):Int) > 9223372036854775808)=true:=gtT hg2
     simp(disch:=omega)only[go_sem,reduceEqDiff,xX,Tryz.f178,T0,T4,T5,hc,hw,hwa,hwb,hwc,hwd,hg,hgb,Xf,Jt,Iy,oC,G3,bL,Xn,Wa,yU,pO];exact .inl ⟨_,3,rfl,by simp only[A0,reduceEqDiff,Aa,Ab,Kf] <;> rfl,by simp only[A0,reduceEqDiff,Aa,Ab] <;> rfl,by decide⟩
    ·have hgb:decide (((Fz 0 (ds.take (i+1)):Nat):Int) > 9223372036854775808)=false:=gtF hg2
     simp(disch:=omega)only[go_sem,reduceEqDiff,xX,Tryz.f178,T0,T4,T5,hc,hw,hwa,hwb,hwc,hwd,hg,hgb,Xf,Jt,Iy,oC,G3,bL,Xn,Wa,yU,pO];exact nu_lp hl hall d (i+1) _ S (by omega) (by omega) (by omega) (by simp only[A0,reduceEqDiff,Ab,A2,T0] <;> rfl) (by simp only[A0,reduceEqDiff,Aa,Ab,Kf] <;> rfl) (by simp only[A0,reduceEqDiff,Aa,Ab,Bk] <;> rfl)
  ·have hc:=ltF hlt
   simp(disch:=omega)only[go_sem,reduceEqDiff,xX,Tryz.f178,T0,T4,T5,hc,Jt,oC,Xn];have e:ds.take i=ds:=Jd2 (by omega)
   rw[e]at hv T4;exact .inr ⟨_,rfl,by simp only[A0,reduceEqDiff,Ab,Kf,T4] <;> rfl,hv⟩
theorem number_l(ds:List UInt8)(hl:ds.length≤100000)(hne:ds≠[])(hall:∀b∈ds,Bi b=true):Kn4 178 [A2 ds]:=by
 refine body4 Tryz.f178 (by kernel_rfl) (by kernel_rfl) (by show(_:Nat)≤_;simp[Tryz.f178]) ?_
 have key:=fun t S=>nu_lp hl hall (ds.length+1) 0 t S
 unfold xX at key;simp only[Tryz.f178]at key;obtain⟨b,r,hds⟩:=List.exists_cons_of_ne_nil hne;have hix:=idx9_0 ds b r hds
 have fin:∀(n:Nat) (e:Int) (S':St),(e=0→¬ (1<ds.length∧ds.head? = some 48)∧n=Fz 0 ds∧n≤9223372036854775808)→∃a S'',R.ret (.tup [.v (.int .u64 (n:Int)),.v (.int .i64 e)]) S' = R.ret a S''∧Bw a=true∧Oe 178 [A2 ds] (clean a):=fun n e S' h=>by
  refine⟨_,_,rfl,rfl,?_⟩;intro ds' h1 _ _ _;have h1:=J6 (Cy h1).1;subst h1;exact⟨n,e,rfl,h⟩
 have tail:∀(hz:¬ (1<ds.length∧ds.head? = some 48)) (r:O),NuEnd St0 (Fz 0 ds) r→True:=fun _ _ _=>trivial
 by_cases h1:1<ds.length
 ·have hg:decide ((ds.length:Int) > 1)=true:=gtT h1
  cases he:(((b.toNat:Nat):Int) == 48)with
  |true =>
   simp(disch:=omega)only[go_sem,reduceEqDiff,Tryz.f178,hg,hix,he,Jt,Iy,G3,A2];exact fin 0 1 _ (fun h=>by cases h)
  |false =>
   have hz:¬ (1<ds.length∧ds.head? = some 48):=fun h=>by
    rw[hds]at h;have h2:b=48:=by have:=h.2;simp at this;exact this
    rw[h2]at he;cases he
   simp(disch:=omega)only[go_sem,reduceEqDiff,Tryz.f178,hg,hix,he,Jt,Iy,G3,A2];refine WX.mono (key _ _ (by omega) (by omega) (Nat.zero_le _) (by simp only[A0,reduceEqDiff,Aa,Ab,A2] <;> rfl) (by simp only[A0,reduceEqDiff,Aa,Ab,Kf] <;> rfl) (by simp only[A0,reduceEqDiff,Aa,Ab,Bk] <;> rfl)) ?_
   rintro _ (⟨t',e,rfl,T2,T3,hee⟩ | ⟨t',rfl,T4,hle⟩)
   ·unfold Kf at T2
    simp(disch:=omega)only[go_sem,T2,T3];exact fin 0 e _ (fun h=>absurd h hee)
   ·unfold Kf at T4
    simp(disch:=omega)only[go_sem,Nat.reduceLT,reduceEqDiff,T4];exact fin _ 0 _ (fun _=>⟨hz,rfl,hle⟩)
 ·have hg:decide ((ds.length:Int) > 1)=false:=gtF h1
  have hz:¬ (1<ds.length∧ds.head? = some 48):=fun h=>h1 h.1
  simp(disch:=omega)only[go_sem,reduceEqDiff,Tryz.f178,hg,Jt,Iy,A2];refine WX.mono (key _ _ (by omega) (by omega) (Nat.zero_le _) (by simp only[A0,reduceEqDiff,Aa,Ab,A2] <;> rfl) (by simp only[A0,reduceEqDiff,Aa,Ab,Kf] <;> rfl) (by simp only[A0,reduceEqDiff,Aa,Ab,Bk] <;> rfl)) ?_
  rintro _ (⟨t',e,rfl,T2,T3,hee⟩ | ⟨t',rfl,T4,hle⟩)
  ·unfold Kf at T2
   simp(disch:=omega)only[go_sem,T2,T3];exact fin 0 e _ (fun h=>absurd h hee)
  ·unfold Kf at T4
   simp(disch:=omega)only[go_sem,Nat.reduceLT,reduceEqDiff,T4];exact fin _ 0 _ (fun _=>⟨hz,rfl,hle⟩)
theorem wV{ds:List UInt8}{S:St}{Q:R→Prop}(hl:ds.length≤100000)(hne:ds≠[])(hall:∀b∈ds,Bi b=true)(h:∀(n:Nat) (e:Int),(e=0→¬ (1<ds.length∧ds.head? = some 48)∧n=Fz 0 ds∧n≤9223372036854775808)→Q (.ret (.tup [.v (.int .u64 (n:Int)),.v (.int .i64 e)]) S)):WC E4 178 [.v (.string ⟨⟨ds⟩⟩)] S Q :=
 mE (number_l ds hl hne hall) (by kernel_rfl) rfl rfl fun a _ _ hs=>by
  obtain⟨n,e,rfl,q⟩:=hs ds rfl hl hne hall;exact h n e q
attribute [go_sem] Xn bL
end Go.Ax
