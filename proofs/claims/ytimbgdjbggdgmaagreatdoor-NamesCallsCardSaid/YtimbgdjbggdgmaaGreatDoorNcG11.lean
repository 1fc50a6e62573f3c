/- ZbLc -/
import Derived.Test.YtimbgdjbggdgmaaGreatDoorNcG10
set_option linter.unusedVariables false
set_option linter.unusedSimpArgs false
set_option maxHeartbeats 16000000
noncomputable section
open Nat (reduceLT reduceAdd reduceEqDiff)
namespace Go.Ax
open Go.RowKit Go.Proofs
set_option maxRecDepth 100000
section
attribute [local go_sem] Bool.false_eq_true List.append_nil List.nil_append Option.getD_some T.get_leaf T.get_set B1 Ky Dc Dr Hj Bz Dl Dz Db and_true Cq Fk Ct Ew Fi decide_true Ms Ff A6 Bg Bv By Qj Jk Bm Cm if_false if_true Cx C9 Em Bo ofOpt Bu Ba Cd Er E8 F8 De C7 Je true_and D8 Bc
theorem rK(l:List UInt8)(i:Nat)(h:i≤l.length):Jl Tryz.prog 9 (.v (.string ⟨⟨l⟩⟩)) (some (.v (.int .i64 (i:Int)))) none=some (.v (.string ⟨⟨l.drop i⟩⟩)):=by
 have hu:Tryz.prog.underlying 9=some .string:=rfl;have h0:(0:Int)≤(i:Int):=by omega
 have hs:(⟨⟨l⟩⟩:ByteArray).size=l.length:=rfl;simp only[Jl,hu,Ip,if_pos h0,Int.toNat_natCast,hs];rw[Nat.ble_eq_true_of_le h,Nat.ble_eq_true_of_le (Ja1 _)]
 show some (AV.v (.string ⟨⟨(l.drop i).take (l.length - i)⟩⟩))=_
 rw[Jd2 (by simp)]
theorem xD(l:List UInt8)(j:Nat)(h:j≤l.length):Jl Tryz.prog 9 (.v (.string ⟨⟨l⟩⟩)) none (some (.v (.int .i64 (j:Int))))=some (.v (.string ⟨⟨l.take j⟩⟩)):=by
 have hu:Tryz.prog.underlying 9=some .string:=rfl;have h0:(0:Int)≤(j:Int):=by omega
 have hs:(⟨⟨l⟩⟩:ByteArray).size=l.length:=rfl;simp only[Jl,hu,Ip,if_pos h0,Int.toNat_natCast,hs];rw[Nat.ble_eq_true_of_le (Nat.zero_le _),Nat.ble_eq_true_of_le h];rfl
theorem Pb(l:List UInt8)(i j:Nat)(hi:i≤j)(h:j≤l.length):Jl Tryz.prog 9 (.v (.string ⟨⟨l⟩⟩)) (some (.v (.int .i64 (i:Int)))) (some (.v (.int .i64 (j:Int))))=some (.v (.string ⟨⟨(l.drop i).take (j - i)⟩⟩)):=by
 have hu:Tryz.prog.underlying 9=some .string:=rfl;have h0:(0:Int)≤(i:Int):=by omega
 have h1:(0:Int)≤(j:Int):=by omega
 have hs:(⟨⟨l⟩⟩:ByteArray).size=l.length:=rfl;simp only[Jl,hu,Ip,if_pos h0,if_pos h1,Int.toNat_natCast,hs];rw[Nat.ble_eq_true_of_le hi,Nat.ble_eq_true_of_le h];rfl
theorem fM(l m:List UInt8):Cv .eql (.v (.string ⟨⟨l⟩⟩)) (.v (.string ⟨⟨m⟩⟩))=some (.v (.bool (decide (l=m)))):=by
 simp only[Cv,Ko];have e:(l == m)=decide (l=m):=by rw[Bool.eq_iff_iff];simp
 show some (AV.v (.bool (l == m)))=_
 rw[e]
theorem Gb(a b:AV):Ha Tryz.prog 9 a b=false:=by
 have h:Tryz.prog.underlying 9=some .string:=rfl;unfold Ha;rw[h]
def Ci(pre l:List UInt8):Bool:=decide (l.take pre.length=pre)
theorem pre122_w(l pre:List UInt8)(S:St):WC E1 237 [A2 l,A2 pre] S (fun r=>r=.ret (.v (.bool (Ci pre l))) S):=by
 refine WCk Tryz.f237 ?_;unfold A2
 by_cases h:(pre.length:Int)≤(l.length:Int)
 ·have hs:=xD l pre.length (by omega)
  simp only[go_sem,reduceLT,reduceAdd,reduceEqDiff,Af,Ag,Ah,Ai,Al,Option.toList,Ay,Az,Tryz.f237,Jt,h,hs,fM,Gb,Ci]
 ·have e:Ci pre l=false:=by
   unfold Ci;rw[decide_eq_false_iff_not];intro hq;have:=congrArg List.length hq;simp at this;omega
  simp only[go_sem,J4,reduceLT,reduceAdd,reduceEqDiff,Af,Ag,Ah,Ai,Aq,Ar,Av,Tryz.f237,Jt,h,Gb,e]
theorem pre_w(l pre:List UInt8)(S:St):WC E1 203 [A2 l,A2 pre] S (fun r=>r=.ret (.v (.bool (Ci pre l))) S):=by
 refine WCk Tryz.f203 ?_;obtain⟨fn1,hf1⟩:=fX 237;simp only[go_sem,reduceLT,reduceAdd,reduceEqDiff,Tryz.f203,hf1];refine WC.mono (pre122_w l pre S) ?_;rintro _ rfl;simp only[go_sem,reduceLT,reduceEqDiff]
theorem e69:Fs Tryz.prog 39=some (none,9):=by kernel_rfl
theorem u69:Tryz.prog.underlying 39=some (.slice 9):=by kernel_rfl
theorem s9:Cl Tryz.prog 9=some 1:=by kernel_rfl
theorem a9:B9 Tryz.prog 9=some false:=by kernel_rfl
theorem len69(S:St)(tok off:Nat)(es:List AV):Eo Tryz.prog S 39 (.sl tok off 1 es)=some es.length:=by simp[Eo,u69]
theorem idx69(tok off:Nat)(ws:List (List UInt8))(i:Nat)(h:i<ws.length):Bh Tryz.prog 39 (.sl tok off 1 (ws.map A2)) (.v (.int .i64 (i:Int)))=some (.ep [A2 ws[i]]):=by
 have h0:(0:Int)≤(i:Int):=by omega
 simp[Bh,h0,e69,s9,h,A2,AV.cells]
theorem load9(S:St)(x:AV):A8 Tryz.prog S 9 (.ep [x])=some x:=by simp[A8,Ca,a9]
def Q1:Code:=match Tryz.f101.body with
 |some (.seq _ (.seq (.seq _ (.block _ (.loop c))) _))=>c
 |_=>.skip
theorem fB(tok off:Nat)(ws:List (List UInt8))(s:List UInt8)(hl:ws.length≤100000)(S:St):∀(m i:Nat) (t:T AV),i+m=ws.length→t.get 0=some (.sl tok off 1 (ws.map A2))→t.get 1=some (A2 s)→t.get 7=some (Bk ws.length)→t.get 8=some (Bk i) →
  WX E1 19 (.loop Q1) ⟨t,[]⟩ S (fun r=>∃t',(r=.out (.exit 0) ⟨t',[]⟩ S∧s ∉ ws.drop i)∨(∃j:Nat,r=.out .ret ⟨t',[]⟩ S∧t'.get 4=some (Bk j)∧s∈ws.drop i))
 |0,i,t,hi,h0,h1,h7,h8=>by
  refine Bt (Bp ?_);have hlt:¬ ((i:Int)<(ws.length:Int)):=by omega
  have hd:ws.drop i=[]:=Jc3 (by omega)
  simp only[A2,Bk]at h0 h1 h7 h8 ⊢;simp only[go_sem,reduceLT,reduceEqDiff,Aq,Q1,Tryz.f101,h0,h1,h7,h8,hlt];exact⟨_,.inl ⟨rfl,by rw[hd];exact Ja7⟩⟩
 |m+1,i,t,hi,h0,h1,h7,h8=>by
  refine Bt (Bp ?_);have hil:i<ws.length:=by omega
  have hlt:((i:Int)<(ws.length:Int)):=by omega
  have hd:ws.drop i=ws[i] :: ws.drop (i+1):=Ja6 hil;have hx:=idx69 tok off ws i hil;have hw:=Jd (i:=i) (by omega)
  have hq:=fM s ws[i];simp only[A2,Bk]at h0 h1 h7 h8 hx ⊢
  by_cases he:s=ws[i]
  ·rw[decide_eq_true he]at hq
   simp only[go_sem,Ja,reduceLT,reduceEqDiff,Q1,Tryz.f101,h0,h1,h7,h8,hlt,hx,load9,Gb,hq];exact⟨_,.inr ⟨i,rfl,by simp only[A0,reduceEqDiff,Aa],by rw[hd,he];exact Jb1 ..⟩⟩
  ·rw[decide_eq_false he]at hq
   simp only[go_sem,Ja,reduceLT,reduceEqDiff,Q1,Tryz.f101,h0,h1,h7,h8,hlt,hx,load9,Gb,hq,hw];refine WX.mono (fB tok off ws s hl S m (i+1) _ (by omega) ?_ ?_ ?_ ?_) ?_
   ·simp only[A0,reduceEqDiff,Ab,h0]
   ·simp only[A0,reduceEqDiff,Ab,h1];rfl
   ·simp only[A0,reduceEqDiff,Ab,h7];rfl
   ·simp only[A0,reduceEqDiff,Aa];rfl
   ·rintro r ⟨t',⟨rfl,h⟩ | ⟨j,rfl,h,hm⟩⟩
    ·exact⟨t',.inl ⟨rfl,by rw[hd];exact fun hc=>(Jb8.1 hc).elim he h⟩⟩
    ·exact⟨t',.inr ⟨j,rfl,h,by rw[hd];exact Ja8 _ hm⟩⟩
theorem index_w(tok off:Nat)(ws:List (List UInt8))(s:List UInt8)(hl:ws.length≤100000)(S:St):WC E1 101 [.sl tok off 1 (ws.map A2),A2 s] S (fun r=>∃x:Int,r=.ret (.v (.int .i64 x)) S∧(decide (0≤x)=decide (s∈ws))):=by
 refine WCk Tryz.f101 ?_;have key:=fun t h0 h1 h7 h8=>fB tok off ws s hl S ws.length 0 t (by omega) h0 h1 h7 h8
 unfold Q1 at key;simp only[Tryz.f101]at key;have hL:=len69 S tok off (ws.map A2);rw[Ja9]at hL;simp only[go_sem,Iq,reduceLT,reduceAdd,reduceEqDiff,Tryz.f101,hL];refine WX.mono (key _ ?_ ?_ ?_ ?_) ?_
 ·simp only[A0,A1,reduceEqDiff,Aa,Ab]
 ·simp only[A0,A1,reduceEqDiff,Aa,Ab]
 ·simp only[A0,A1,reduceEqDiff,Aa,Ab];rfl
 ·simp only[A0,A1,reduceEqDiff,Aa,Ab];rfl
 ·rintro r ⟨t',⟨rfl,h⟩ | ⟨j,rfl,h,hm⟩⟩
  ·simp only[go_sem,Ea,reduceLT]
   refine⟨_,rfl,?_⟩;rw[Jd1]at h;rw[decide_eq_false h];rfl
  ·unfold Bk at h
   simp only[F8,Fk,Bm,Cm,Ba,D8,h];refine⟨_,rfl,?_⟩;rw[Jd1]at hm;rw[decide_eq_true hm,decide_eq_true (show(0:Int)≤(j:Int) by omega)]
theorem Wb(tok off:Nat)(ws:List (List UInt8))(s:List UInt8)(hl:ws.length≤100000)(S:St):WC E1 55 [.sl tok off 1 (ws.map A2),A2 s] S (fun r=>r=.ret (.v (.bool (decide (s∈ws)))) S):=by
 refine WCk Tryz.f55 ?_;obtain⟨fn1,hf1⟩:=fX 101;simp only[go_sem,reduceLT,reduceAdd,reduceEqDiff,Tryz.f55,hf1];refine WC.mono (index_w tok off ws s hl S) ?_;rintro _ ⟨x,rfl,hx⟩;simp only[go_sem,reduceLT,reduceEqDiff,ge_iff_le,hx]
def Fe:Nat→List UInt8→Nat
 |0,_=>0
 |n+1,l=>if Ci [45,45] (l.drop (cnt Cf l))then cnt Cf l+(cnt Hf (l.drop (cnt Cf l))+Fe n (l.drop (cnt Cf l+cnt Hf (l.drop (cnt Cf l)))))else cnt Cf l
theorem Pc(n:Nat)(l:List UInt8):Fe (n+1) l=if Ci [45,45] (l.drop (cnt Cf l))then cnt Cf l+(cnt Hf (l.drop (cnt Cf l))+Fe n (l.drop (cnt Cf l+cnt Hf (l.drop (cnt Cf l)))))else cnt Cf l:=rfl
theorem Ki:∀(n:Nat) (l:List UInt8),Fe n l≤l.length
 |0,l=>Nat.zero_le _
 |n+1,l=>by
  have h1:=Qk Cf l;have h2:=Qk Hf (l.drop (cnt Cf l));have h3:=Ki n (l.drop (cnt Cf l+cnt Hf (l.drop (cnt Cf l))));unfold Fe;simp only[Jb4]at h2 h3
  split <;> omega
def cU:Code:=match Tryz.f165.body with
 |some (.seq _ (.block _ (.loop c)))=>c
 |_=>.skip
theorem vR{l:List UInt8}(h:Ci [45,45] l=true):1≤cnt Hf l:=by
 unfold Ci at h;rw[decide_eq_true_iff]at h
 cases l with
 |nil=>cases h
 |cons a r =>
  cases r with
  |nil=>cases h
  |cons b r =>
   simp at h;obtain⟨rfl,rfl⟩:=h;unfold cnt;rw[if_pos (by decide)];omega
theorem jG(l:List UInt8)(hl:l.length≤100000)(S:St):∀(n i:Nat) (t:T AV),l.length - i<n→i≤l.length→t.get 0=some (A2 l)→t.get 1=some (Bk i) →
  WX E1 17 (.loop cU) ⟨t,[]⟩ S (fun r=>∃t',r=.out .ret ⟨t',[]⟩ S∧t'.get 4=some (Bk (i+Fe n (l.drop i))))
 |0,i,t,hn,hi,h0,h1=>absurd hn (Jb3 _)
 |n+1,i,t,hn,hi,h0,h1=>by
  refine Bt (Bp ?_);obtain⟨fn1,hf1⟩:=fX 206;obtain⟨fn2,hf2⟩:=fX 203;have hc1:=Qk Cf (l.drop i);rw[Jb4]at hc1;have hs:=rK l (i+cnt Cf (l.drop i)) (by omega)
  have hdd:l.drop (i+cnt Cf (l.drop i))=(l.drop i).drop (cnt Cf (l.drop i)):=by rw[List.drop_drop]
  simp only[A2,Bk]at h0 h1 ⊢;simp only[go_sem,reduceLT,reduceEqDiff,cU,Tryz.f165,h0,h1,hf1];refine WC.mono (X5 blankT l hl i hi S) ?_;rintro _ rfl;simp only[Bk];simp only[go_sem,reduceLT,reduceEqDiff,Option.toList,Ay,Az,h0,h1,hf2,hs];refine WC.mono (pre_w (l.drop (i+cnt Cf (l.drop i))) [45,45] S) ?_;rintro _ rfl;cases hb:Ci [45,45] (l.drop (i+cnt Cf (l.drop i)))
  ·have e:Fe (n+1) (l.drop i)=cnt Cf (l.drop i):=by unfold Fe;rw[← hdd,hb];rfl
   simp only[go_sem,Ge,Gw,reduceLT,reduceEqDiff,Au,h0,h1,hf1,e];exact⟨_,rfl,by simp only[A0,reduceEqDiff,Aa]⟩
  ·have e:Fe (n+1) (l.drop i)=cnt Cf (l.drop i)+(cnt Hf (l.drop (i+cnt Cf (l.drop i)))+Fe n (l.drop (i+cnt Cf (l.drop i)+cnt Hf (l.drop (i+cnt Cf (l.drop i)))))):=by
    rw[Pc,← hdd,hb];simp only[Aa,List.drop_drop,Nat.add_assoc]
   simp only[go_sem,Ge,Gw,reduceLT,reduceEqDiff,Ar,h0,h1,hf1];refine WC.mono (X5 notEndT l hl (i+cnt Cf (l.drop i)) (by omega) S) ?_
   rintro _ rfl;simp only[Bk];simp only[go_sem,reduceLT,reduceEqDiff];have hc2:=Qk Hf (l.drop (i+cnt Cf (l.drop i)));rw[Jb4]at hc2;have hc3:=vR hb;refine WX.mono (jG l hl S n (i+cnt Cf (l.drop i)+cnt Hf (l.drop (i+cnt Cf (l.drop i)))) _ (by omega) (by omega) ?_ ?_) ?_
   ·simp only[A0,reduceEqDiff,Ab,h0];rfl
   ·simp only[A0,reduceEqDiff,Aa];rfl
   ·rintro r ⟨t',rfl,h⟩
    refine⟨t',rfl,?_⟩;rw[h,e]
    show some (Bk _)=some (Bk _)
    congr 2;omega
theorem skip_w(l:List UInt8)(hl:l.length≤100000)(n i:Nat)(hn:l.length - i<n)(hi:i≤l.length)(S:St):WC E1 165 [A2 l,Bk i] S (fun r=>r=.ret (Bk (i+Fe n (l.drop i))) S):=by
 refine WCk Tryz.f165 ?_;have key:=fun t h0 h1=>jG l hl S n i t hn hi h0 h1
 unfold cU at key;simp only[Tryz.f165]at key;simp only[go_sem,Iq,reduceLT,reduceAdd,Tryz.f165];refine WX.mono (key _ ?_ ?_) ?_
 ·simp only[A0,A1,reduceEqDiff,Aa,Ab]
 ·simp only[A0,A1,reduceEqDiff,Aa,Ab]
 ·rintro r ⟨t',rfl,h⟩
  simp only[Fk,Bm,Cm,Ba,D8,h]
end
section
attribute [local go_sem] List.append_nil Option.getD_some T.get_leaf T.get_set B1 Ky Dr Bz Dl Dz Ct Ff A6 Bg Bv B3 By Bm Cm if_false if_true Cx C9 Bo ofOpt C8 Cc Bu Ba Cd E8 true_and D8 Bc
def E9:List (List UInt8):=[[110,111,100,101],[114,101,116,117,114,110,115],[118,97,114],[108,101,116],[116,101,108],[105,110,116],[98,111,111,108],[102,117,116,117,114,101],[119,104,101,110],[110,111,116],[97,110,100],[111,114],[120,111,114],[105,102],[116,104,101,110],[101,108,115,101],[112,114,101],[102,98,121],[109,101,114,103,101],[97,115,121,110,99],[97,119,97,105,116],[97,102,116,101,114],[116,114,117,101],[102,97,108,115,101],[109,111,100]]
def Cu:List (List UInt8):=[[60,62],[60,61],[62,61],[45,62],[40],[41],[44],[59],[58],[61],[60],[62],[43],[45],[42],[47]]
structure Tk where
 kind:Nat
 pos:Nat
 text:List UInt8
 num:Nat
def Kf(n:Nat):AV:=.v (.int .u64 (n:Int))
def Cb(t:Tk):List AV:=[Bk t.kind,Bk t.pos,A2 t.text,Kf t.num]
def C6(t:Tk):AV:=.agg (Cb t)
def B5:Tk:=⟨0,0,[],0⟩
def Kd(l:List UInt8)(i:Nat):Tk × Nat :=
 if l.take (cnt Bq l)∈E9 then(⟨3,i,l.take (cnt Bq l),0⟩,0)else if 30<cnt Bq l then(B5,3)else(⟨1,i,l.take (cnt Bq l),0⟩,0)
def Sk(l:List UInt8)(i:Nat):Option (Tk × Nat) :=
 if 1<cnt Bi l∧l.head? = some 48 then some (B5,1)else if Fz 0 (l.take (cnt Bi l))<18446744073709551616 then(if 9223372036854775808<Fz 0 (l.take (cnt Bi l))then some (B5,3)else some (⟨2,i,l.take (cnt Bi l),Fz 0 (l.take (cnt Bi l))⟩,0))else some (B5,3)
def J2(l:List UInt8)(i:Nat):Tk × Nat:=match Cu.find? (fun s=>Ci s l)with
 |some s=>(⟨4,i,s,0⟩,0)
 |none=>(B5,1)
def Fx(l:List UInt8)(i:Nat):Option (Tk × Nat):=match l with
 | []=>none
 |b :: _=>if Dp b then some (Kd l i)else if Bi b then Sk l i else some (J2 l i)
def Dm(S S':St):Prop:=S.next≤S'.next∧∀id,id<S.next→S'.mem.get id=S.mem.get id
theorem Dm.refl(S:St):Dm S S:=⟨Ja1 _,fun _ _=>rfl⟩
theorem Dm.trans{S S1 S2:St}(h:Dm S S1)(k:Dm S1 S2):Dm S S2:=⟨Jb2 h.1 k.1,fun id hid=>(k.2 id (Ja0 hid h.1)).trans (h.2 id hid)⟩
def St.put(S:St)(id:Nat)(cs:List AV):St:={ S with mem:=S.mem.set id (some (.box cs)) }
theorem Ce(S:St)(cs:List AV):Dm S (S.newBox cs):=⟨Jc9 _,fun id hid=>by
 show(S.mem.set S.next _).get id=_
 rw[T.get_set,if_neg (by omega)]⟩
theorem Dj{S S':St}(h:Dm S S'){id:Nat}(hid:S.next≤id)(cs:List AV):Dm S (S'.put id cs):=⟨h.1,fun k hk=>by
 show(S'.mem.set id _).get k=_
 rw[T.get_set,if_neg (by omega)];exact h.2 k hk⟩
theorem Co(S:St)(cs:List AV):(S.newBox cs).mem.get S.next=some (.box cs):=by
 show(S.mem.set S.next _).get S.next=_
 rw[T.get_set,if_pos rfl]
theorem Dv(S:St)(id:Nat)(cs:List AV):(S.put id cs).mem.get id=some (.box cs):=by
 show(S.mem.set id _).get id=_
 rw[T.get_set,if_pos rfl]
theorem a68:B9 Tryz.prog 249=some true:=by kernel_rfl
theorem s68:Cl Tryz.prog 249=some 4:=by kernel_rfl
theorem st68{S:St}{id:Nat}{cs ys:List AV}(h:S.mem.get id=some (.box cs))(hl:cs.length=4)(hy:ys.length=4):Bl Tryz.prog S 249 (.ptr id 0) (.agg ys)=some (S.put id ys):=by
 have h2:(AV.agg ys).noTup=true:=rfl;simp[Bl,h,s68,h2,AV.cells,hl,hy,St.put,Jc3]
theorem Ns(S:St)(cs ys:List AV)(hl:cs.length=4)(hy:ys.length=4):Bl Tryz.prog (S.newBox cs) 249 (.ptr S.next 0) (.agg ys)=some ((S.newBox cs).put S.next ys):=st68 (Co S cs) hl hy
theorem Im(S:St)(id:Nat)(cs:List AV)(hl:cs.length=4):A8 Tryz.prog (S.put id cs) 249 (.ptr id 0)=some (.agg cs):=by
 have e:cs.take 4=cs:=Jd2 (by omega)
 simp[A8,Ca,Dv,a68,s68,hl,e]
theorem Ty(S:St):Ga Tryz.prog S 249=some (.ptr S.next 0,S.newBox (Cb B5)):=rfl
theorem b68_0:Du Tryz.prog 249 []=some (.agg (Cb B5)):=rfl
theorem b68_3(a b c:AV)(k i:Int)(s:ByteArray)(ha:a=.v (.int .i64 k))(hb:b=.v (.int .i64 i))(hc:c=.v (.string s)):Du Tryz.prog 249 [(0,a),(1,b),(2,c)]=some (.agg [a,b,c,Kf 0]):=by
 subst ha;subst hb;subst hc;rfl
theorem b68_4(k i u:Int)(s:ByteArray):Du Tryz.prog 249 [(0,.v (.int .i64 k)),(1,.v (.int .i64 i)),(2,.v (.string s)),(3,.v (.int .u64 u))]=some (.agg [.v (.int .i64 k),.v (.int .i64 i),.v (.string s),.v (.int .u64 u)]):=rfl
theorem z9:Kb Tryz.prog 9=some (.v (.string ⟨#[]⟩)):=by kernel_rfl
theorem words_w(S:St):WC E1 239 [] S (fun r=>r=.ret (.sl 1 0 1 (E9.map A2)) S):=by
 refine WCk Tryz.f239 ?_;simp only[go_sem,reduceLT,Tryz.f239];have h:∀ps,ps=(List.range 25).zip (E9.map A2)→Bd Tryz.prog 39 25 ps=some (.sl 1 0 1 (E9.map A2)):=fun ps h=>by subst h;kernel_rfl
 rw[h _ (by kernel_rfl)]
 simp only[go_sem,reduceLT,reduceEqDiff,Ad]
theorem signs_w(S:St):WC E1 241 [] S (fun r=>r=.ret (.sl 1 0 1 (Cu.map A2)) S):=by
 refine WCk Tryz.f241 ?_;simp only[go_sem,reduceLT,Tryz.f241];have h:∀ps,ps=(List.range 16).zip (Cu.map A2)→Bd Tryz.prog 39 16 ps=some (.sl 1 0 1 (Cu.map A2)):=fun ps h=>by subst h;kernel_rfl
 rw[h _ (by kernel_rfl)]
 simp only[go_sem,reduceLT,reduceEqDiff,Ad]
theorem cF(p:UInt8→Bool):∀l:List UInt8,(l.take (cnt p l)).all p=true
 | []=>rfl
 |b :: r=>by
  unfold cnt
  split
  ·rename_i h;rw[List.take_succ_cons,List.all_cons,h,cF p r];rfl
  ·rfl
theorem parse_w(s:List UInt8)(hn:s≠[])(hd:s.all Bi=true)(h:Fz 0 s<18446744073709551616)(hl:s.length≤100000)(S:St):WC E1 240 [A2 s,.v (.int .i64 10),.v (.int .i64 64)] S (fun r=>r=.ret (.tup [Kf (Fz 0 s),.v .nilIface]) S):=by
 refine Gu (g:=Gq puI) (by kernel_rfl) ?_
 have hs:(⟨⟨s⟩⟩:ByteArray).size=s.length:=rfl;have hc:s≠[]∧s.all V5=true∧Fz 0 s<18446744073709551616∧(⟨⟨s⟩⟩:ByteArray).size≤9223372036854775806:=⟨hn,hd,h,by rw[hs];omega⟩
 have e:puI [A2 s,.v (.int .i64 10),.v (.int .i64 64)]=some (.tup [Kf (Fz 0 s),.v .nilIface]):=by
  show(if s≠[]∧s.all V5=true∧Fz 0 s<18446744073709551616∧(⟨⟨s⟩⟩:ByteArray).size≤9223372036854775806 then _ else _)=_
  rw[if_pos hc];rfl
 simp only[Gq,e]
theorem range_w(s:List UInt8)(hn:s≠[])(hd:s.all Bi=true)(h:¬ Fz 0 s<18446744073709551616)(hl:s.length≤100000)(S:St):WC E1 240 [A2 s,.v (.int .i64 10),.v (.int .i64 64)] S (fun r=>r=.ret (.tup [Kf 18446744073709551615,.iface 358 (.ep [])]) S):=by
 refine Gu (g:=Gq puI) (by kernel_rfl) ?_
 have hs:(⟨⟨s⟩⟩:ByteArray).size=s.length:=rfl;have hc:¬ (s≠[]∧s.all V5=true∧Fz 0 s<18446744073709551616∧(⟨⟨s⟩⟩:ByteArray).size≤9223372036854775806):=fun hh=>h hh.2.2.1
 have hc2:s≠[]∧s.all V5=true∧18446744073709551616≤Fz 0 s∧(⟨⟨s⟩⟩:ByteArray).size≤281474976710656:=⟨hn,hd,by omega,by rw[hs];omega⟩
 have e:puI [A2 s,.v (.int .i64 10),.v (.int .i64 64)]=some (.tup [Kf 18446744073709551615,.iface 358 (.ep [])]):=by
  show(if s≠[]∧s.all V5=true∧Fz 0 s<18446744073709551616∧(⟨⟨s⟩⟩:ByteArray).size≤9223372036854775806 then _ else if s≠[]∧s.all V5=true∧18446744073709551616≤Fz 0 s∧(⟨⟨s⟩⟩:ByteArray).size≤281474976710656 then _ else _)=_
  rw[if_neg hc,if_pos hc2];rfl
 simp only[Gq,e]
def qC(S:St)(p:Tk × Nat)(r:R):Prop:=∃S',r=.ret (.tup [C6 p.1,Bk p.2]) S'∧Dm S S'
theorem word_w(l:List UInt8)(hl:l.length≤100000)(i:Nat)(hi:i≤l.length)(S:St):WC E1 210 [A2 l,Bk i] S (qC S (Kd (l.drop i) i)):=by
 refine WCk Tryz.f210 ?_;obtain⟨fn1,hf1⟩:=fX 206;obtain⟨fn2,hf2⟩:=fX 55;obtain⟨fn3,hf3⟩:=fX 239;have hc:=Qk Bq (l.drop i);rw[Jb4]at hc;have hs:=Pb l i (i+cnt Bq (l.drop i)) (by omega) (by omega)
 rw[Nat.add_sub_cancel_left]at hs;have hL:=fun S=>Jt S ((l.drop i).take (cnt Bq (l.drop i)))
 have hlen:((l.drop i).take (cnt Bq (l.drop i))).length=cnt Bq (l.drop i):=by rw[Jd0,Jb4];omega
 rw[hlen]at hL;simp only[A2,Bk];simp only[go_sem,ofOptS,reduceLT,reduceAdd,reduceEqDiff,Aj,Tryz.f210,Ty,hf1];refine WC.mono (X5 wordBT l hl i hi _) ?_;rintro _ rfl;simp only[Bk];simp only[go_sem,Dc,Ms,reduceLT,reduceEqDiff,Option.toList,Ay,hf3,hs];refine WC.mono (words_w _) ?_;rintro _ rfl;simp only[go_sem,reduceLT,reduceEqDiff,Aj,hf2];refine WC.mono (Wb 1 0 E9 ((l.drop i).take (cnt Bq (l.drop i))) (by decide) _) ?_
 rintro _ rfl;have hst:∀ys:List AV,ys.length=4→Bl Tryz.prog (S.newBox (Cb B5)) 249 (.ptr S.next 0) (.agg ys)=some ((S.newBox (Cb B5)).put S.next ys):=fun ys hy=>Ns S _ ys rfl hy
 have keep:∀ys,Dm S ((S.newBox (Cb B5)).put S.next ys):=fun ys=>Dj (Ce S _) (Ja1 _) ys
 by_cases hm:(l.drop i).take (cnt Bq (l.drop i))∈E9
 ·have e:Kd (l.drop i) i=(⟨3,i,(l.drop i).take (cnt Bq (l.drop i)),0⟩,0):=by unfold Kd;rw[if_pos hm]
  rw[decide_eq_true hm];have hb:=b68_3 _ _ _ 3 i ⟨⟨(l.drop i).take (cnt Bq (l.drop i))⟩⟩ rfl rfl rfl;have h1:=hst [.v (.int .i64 3),.v (.int .i64 i),.v (.string ⟨⟨(l.drop i).take (cnt Bq (l.drop i))⟩⟩),Kf 0] rfl;have h2:=Im (S.newBox (Cb B5)) S.next [.v (.int .i64 3),.v (.int .i64 i),.v (.string ⟨⟨(l.drop i).take (cnt Bq (l.drop i))⟩⟩),Kf 0] rfl;simp only[go_sem,F8,Fk,Fi,reduceLT,reduceEqDiff,hb,h1,h2];rw[e];exact⟨_,rfl,keep _⟩
 ·rw[decide_eq_false hm]
  by_cases h30:30<cnt Bq (l.drop i)
  ·have e:Kd (l.drop i) i=(B5,3):=by unfold Kd;rw[if_neg hm,if_pos h30]
   have hg:((cnt Bq (l.drop i):Nat):Int) > 30:=by omega
   have h1:=hst (Cb B5) rfl;have h2:=Im (S.newBox (Cb B5)) S.next (Cb B5) rfl;simp only[go_sem,Db,F8,Cq,Fk,Fi,Ew,Em,Ls,reduceLT,reduceEqDiff,Am,Ap,hL,hg,b68_0,h1,h2];rw[e];exact⟨_,rfl,keep _⟩
  ·have e:Kd (l.drop i) i=(⟨1,i,(l.drop i).take (cnt Bq (l.drop i)),0⟩,0):=by unfold Kd;rw[if_neg hm,if_neg h30]
   have hg:¬ ((cnt Bq (l.drop i):Nat):Int) > 30:=by omega
   have hb:=b68_3 _ _ _ 1 i ⟨⟨(l.drop i).take (cnt Bq (l.drop i))⟩⟩ rfl rfl rfl;have h1:=hst [.v (.int .i64 1),.v (.int .i64 i),.v (.string ⟨⟨(l.drop i).take (cnt Bq (l.drop i))⟩⟩),Kf 0] rfl;have h2:=Im (S.newBox (Cb B5)) S.next [.v (.int .i64 1),.v (.int .i64 i),.v (.string ⟨⟨(l.drop i).take (cnt Bq (l.drop i))⟩⟩),Kf 0] rfl;simp only[go_sem,Db,Cq,Ew,Em,Ls,reduceLT,reduceEqDiff,Am,Aq,hL,hg,hb,h1,h2];rw[e];exact⟨_,rfl,keep _⟩
end
section
attribute [local go_sem] Bool.false_eq_true List.append_nil List.getElem?_cons_succ List.getElem?_cons_zero List.getElem?_toArray List.head?_cons List.nil_append Option.bind_some Option.getD_some Option.toList T.get_leaf T.get_set B1 Ky Dc Dr Bz Dl Dz Db Ty b68_0 beq_self_eq_true Cq Fk Ct Ew Fi decide_false decide_true Ms Ff A6 Bg Bv J4 B3 By D6 Ls Bm Cm if_false if_true Cx C9 Em Iy D3 Bo ofOpt ofOptS C8 Cc Bu Ba Cd Er E8 F8 true_and D8 Bc
theorem Lk(a b:AV):Ha Tryz.prog 119 a b=false:=by
 have h:Tryz.prog.underlying 119=some (.int .u64):=rfl;unfold Ha;rw[h]
theorem kO:Ha Tryz.prog 104 (.iface 358 (.ep [])) (.v .nilIface)=true:=by kernel_rfl
theorem W9:Ha Tryz.prog 104 (.v .nilIface) (.v .nilIface)=false:=by kernel_rfl
def nilO(r:OR)(S:St)(x:Option AV):OR:=match x with
 |some (.v .nilIface)=>.val (.v (.bool false)) S
 |_=>r
def eqOrX(P:Program)(G:Gl)(f:T AV)(S:St)(o:Oper)(op:BinOp)(t:TypeId)(a b:AV):OR:=U7 P G f S o op t a b
theorem bM(f:T AV)(S:St)(k:Nat)(dst:Option Tmp)(ty:TypeId)(pos:String)(af:Array Edge)(gd:Option (Nat × Bool)):
  U7 Tryz.prog gR f S { dst:=dst,op:=.binOp .neq 104 (.tmp k) (.const .nilIface) 104,type:=ty,pos:=pos,after:=af,guard:=gd } .neq 104 (.v .nilIface) (.v .nilIface) =
  nilO (eqOrX Tryz.prog gR f S { dst:=dst,op:=.binOp .neq 104 (.tmp k) (.const .nilIface) 104,type:=ty,pos:=pos,after:=af,guard:=gd } .neq 104 (.v .nilIface) (.v .nilIface)) S (f.get k):=by
 unfold nilO
 split
 ·rename_i hf
  have h0:Y7 Tryz.prog .neq 104 (.v .nilIface) (.v .nilIface)=none:=by kernel_rfl
  unfold U7;rw[h0];have hg:B8 gR f (.tmp k)=some .nilIface:=by unfold B8;simp only[A6,hf];rfl
  have hc:B8 gR f (.const .nilIface)=some .nilIface:=rfl;unfold ground;simp only[Op.operands,List.all_cons,List.all_nil,hg,hc,Option.isSome_some,Bool.and_self,Aa]
  have e:execOp (fun x=>(B8 gR f x).getD undef) { dst:=dst,op:=.binOp .neq 104 (.tmp k) (.const .nilIface) 104,type:=ty,pos:=pos,after:=af,guard:=gd }=execOp (fun _=>.nilIface) { dst:=none,op:=.binOp .neq 104 (.tmp 29) (.const .nilIface) 104,type:=4,pos := "", after:=#[],guard:=none }:=by
   simp only[execOp,hg,hc,Ae];rfl
  rw[e];have e3:(Qv Tryz.prog 4000 (execOp (fun _=>Value.nilIface) { dst:=none,op:=.binOp .neq 104 (.tmp 29) (.const .nilIface) 104,type:=4,pos := "", after:=#[],guard:=none }))=some (.bool false):=by kernel_rfl
  rw[e3];rfl
 ·rfl
theorem W7(r:OR)(S:St):nilO r S (some (.v .nilIface))=.val (.v (.bool false)) S:=rfl
theorem fbNil:Cv .neq (.v .nilIface) (.v .nilIface)=none:=rfl
theorem head_drop(l:List UInt8)(i:Nat)(h:i<l.length):(l.drop i).head? = some l[i]:=by rw[Ja6 h];rfl
theorem number_w(l:List UInt8)(hl:l.length≤100000)(i:Nat)(hi:i<l.length)(hd:Bi l[i]=true)(S:St)(p:Tk × Nat)(hp:Sk (l.drop i) i=some p):WC E1 212 [A2 l,Bk i] S (qC S p):=by
 refine WCk Tryz.f212 ?_;obtain⟨fn1,hf1⟩:=fX 206;obtain⟨fn2,hf2⟩:=fX 240;have hc:=Qk Bi (l.drop i);rw[Jb4]at hc;have hc1:1≤cnt Bi (l.drop i):=by rw[Ja6 hi,cnt,if_pos hd];omega
 have hs:=Pb l i (i+cnt Bi (l.drop i)) (by omega) (by omega)
 rw[Nat.add_sub_cancel_left]at hs;have hL:=fun S=>Jt S ((l.drop i).take (cnt Bi (l.drop i)))
 have hlen:((l.drop i).take (cnt Bi (l.drop i))).length=cnt Bi (l.drop i):=by rw[Jd0,Jb4];omega
 rw[hlen]at hL;have h00:((l.drop i).take (cnt Bi (l.drop i)))[0]'(by omega)=l[i]:=by simp
 have hx:=Xf ((l.drop i).take (cnt Bi (l.drop i))) 0 (by omega)
 rw[h00]at hx;simp only[Int.ofNat_eq_natCast,Int.cast_ofNat_Int]at hx;have hst:∀ys:List AV,ys.length=4→Bl Tryz.prog (S.newBox (Cb B5)) 249 (.ptr S.next 0) (.agg ys)=some ((S.newBox (Cb B5)).put S.next ys):=fun ys hy=>Ns S _ ys rfl hy
 have keep:∀ys,Dm S ((S.newBox (Cb B5)).put S.next ys):=fun ys=>Dj (Ce S _) (Ja1 _) ys
 have z1:=hst (Cb B5) rfl;have z2:=Im (S.newBox (Cb B5)) S.next (Cb B5) rfl;simp only[A2,Bk];simp only[go_sem,reduceLT,reduceAdd,reduceEqDiff,Tryz.f212,hf1];refine WC.mono (X5 digitT l hl i (by omega) _) ?_
 rintro _ rfl;simp only[Bk]
 have h48:(((l[i].toNat:Nat):Int) == 48)=decide (l[i]=48):=by
  rw[Bool.eq_iff_iff];simp only[beq_iff_eq,decide_eq_true_iff]
  constructor
  ·intro h;exact UInt8.toNat_inj.1 (by show l[i].toNat=48;omega)
  ·intro h;rw[h];rfl
 unfold Sk at hp;rw[head_drop l i hi]at hp
 by_cases hz:1<cnt Bi (l.drop i)∧l[i]=48
 ·rw[if_pos ⟨hz.1,by rw[hz.2]⟩]at hp
  injection hp with hp;subst hp
  have hg:((cnt Bi (l.drop i):Nat):Int) > 1:=by omega
  rw[decide_eq_true hz.2]at h48;simp only[go_sem,reduceLT,reduceEqDiff,hf2,hs,hL,hg,hx,G3,h48,z1,z2];exact⟨_,rfl,keep _⟩
 ·rw[if_neg (fun h=>hz ⟨h.1,by have:=h.2;injection this⟩)]at hp
  split at hp
  case isFalse =>
   rename_i hv;injection hp with hp;subst hp
   have hpw:=fun S=>range_w ((l.drop i).take (cnt Bi (l.drop i))) (by intro e;rw[e]at hlen;simp at hlen;omega) (cF _ _) hv (by omega) S
   unfold A2 Kf at hpw
   by_cases hg:((cnt Bi (l.drop i):Nat):Int) > 1
   ·have h1:¬ l[i]=48:=fun e=>hz ⟨by omega,e⟩
    rw[decide_eq_false h1]at h48;simp only[go_sem,reduceLT,reduceEqDiff,hf2,hs,hL,hg,hx,G3,h48];refine WC.mono (hpw _) ?_;rintro _ rfl;simp only[go_sem,reduceLT,reduceEqDiff,Aw,Lk,kO,z1,z2];exact⟨_,rfl,keep _⟩
   ·simp only[go_sem,reduceLT,reduceEqDiff,Ar,Av,hf2,hs,hL,hg]
    refine WC.mono (hpw _) ?_;rintro _ rfl;simp only[go_sem,reduceLT,reduceEqDiff,Aw,Lk,kO,z1,z2];exact⟨_,rfl,keep _⟩
  rename_i hv;have hpw:=fun S=>parse_w ((l.drop i).take (cnt Bi (l.drop i))) (by intro e;rw[e]at hlen;simp at hlen;omega) (cF _ _) hv (by omega) S
  unfold A2 Kf at hpw
  by_cases hg:((cnt Bi (l.drop i):Nat):Int) > 1
  ·have h1:¬ l[i]=48:=fun e=>hz ⟨by omega,e⟩
   rw[decide_eq_false h1]at h48;simp only[go_sem,reduceLT,reduceEqDiff,hf2,hs,hL,hg,hx,G3,h48];refine WC.mono (hpw _) ?_;rintro _ rfl
   by_cases hb:((Fz 0 ((l.drop i).take (cnt Bi (l.drop i))):Nat):Int) > 9223372036854775808
   ·rw[if_pos (show 9223372036854775808<Fz 0 ((l.drop i).take (cnt Bi (l.drop i))) by omega)]at hp
    injection hp with hp;subst hp
    simp only[go_sem,reduceLT,reduceEqDiff,Lk,bM,W7,W9,fbNil,hb,z1,z2];exact⟨_,rfl,keep _⟩
   ·rw[if_neg (show ¬ 9223372036854775808<Fz 0 ((l.drop i).take (cnt Bi (l.drop i))) by omega)]at hp
    injection hp with hp;subst hp
    have q1:=hst [.v (.int .i64 2),.v (.int .i64 i),.v (.string ⟨⟨(l.drop i).take (cnt Bi (l.drop i))⟩⟩),.v (.int .u64 (Fz 0 ((l.drop i).take (cnt Bi (l.drop i))):Nat))] rfl;have q2:=Im (S.newBox (Cb B5)) S.next [.v (.int .i64 2),.v (.int .i64 i),.v (.string ⟨⟨(l.drop i).take (cnt Bi (l.drop i))⟩⟩),.v (.int .u64 (Fz 0 ((l.drop i).take (cnt Bi (l.drop i))):Nat))] rfl;simp only[go_sem,reduceLT,reduceEqDiff,Lk,bM,W7,W9,fbNil,hb,b68_4,q1,q2];exact⟨_,rfl,keep _⟩
  ·simp only[go_sem,reduceLT,reduceEqDiff,Ar,Av,hf2,hs,hL,hg]
   refine WC.mono (hpw _) ?_;rintro _ rfl
   by_cases hb:((Fz 0 ((l.drop i).take (cnt Bi (l.drop i))):Nat):Int) > 9223372036854775808
   ·rw[if_pos (show 9223372036854775808<Fz 0 ((l.drop i).take (cnt Bi (l.drop i))) by omega)]at hp
    injection hp with hp;subst hp
    simp only[go_sem,reduceLT,reduceEqDiff,Lk,bM,W7,W9,fbNil,hb,z1,z2];exact⟨_,rfl,keep _⟩
   ·rw[if_neg (show ¬ 9223372036854775808<Fz 0 ((l.drop i).take (cnt Bi (l.drop i))) by omega)]at hp
    injection hp with hp;subst hp
    have q1:=hst [.v (.int .i64 2),.v (.int .i64 i),.v (.string ⟨⟨(l.drop i).take (cnt Bi (l.drop i))⟩⟩),.v (.int .u64 (Fz 0 ((l.drop i).take (cnt Bi (l.drop i))):Nat))] rfl;have q2:=Im (S.newBox (Cb B5)) S.next [.v (.int .i64 2),.v (.int .i64 i),.v (.string ⟨⟨(l.drop i).take (cnt Bi (l.drop i))⟩⟩),.v (.int .u64 (Fz 0 ((l.drop i).take (cnt Bi (l.drop i))):Nat))] rfl;simp only[go_sem,reduceLT,reduceEqDiff,Lk,bM,W7,W9,fbNil,hb,b68_4,q1,q2];exact⟨_,rfl,keep _⟩
def Wt:Code:=match Tryz.f213.body with
 |some (.seq _ (.seq (.seq _ (.block _ (.loop c))) _))=>c
 |_=>.skip
theorem jI(l:List UInt8)(i:Nat)(hi:i≤l.length)(S:St)(b:Nat)(hS:S.mem.get b=some (.box (Cb B5))):∀(m j:Nat) (t:T AV),j+m=Cu.length→t.get 0=some (A2 l)→t.get 1=some (Bk i)→t.get 4=some (.ptr b 0)→t.get 8=some (.sl 1 0 1 (Cu.map A2))→t.get 9=some (Bk Cu.length)→t.get 10=some (Bk j) →
  WX E1 24 (.loop Wt) ⟨t,[]⟩ S (fun r=>∃t',t'.get 4=some (.ptr b 0)∧((r=.out (.exit 0) ⟨t',[]⟩ S∧(Cu.drop j).find? (fun s=>Ci s (l.drop i))=none)∨(∃s,r=.out .ret ⟨t',[]⟩ (S.put b (Cb ⟨4,i,s,0⟩))∧t'.get 5=some (Bk 0)∧(Cu.drop j).find? (fun s=>Ci s (l.drop i))=some s)))
 |0,j,t,hj,h0,h1,h4,h8,h9,h10=>by
  refine Bt (Bp ?_);have hlt:¬ ((j:Int)<(Cu.length:Int)):=by omega
  have hd:Cu.drop j=[]:=Jc3 (by omega)
  simp only[A2,Bk]at h0 h1 h8 h9 h10 ⊢;simp only[go_sem,De,Hj,Jk,reduceLT,reduceEqDiff,Wt,Tryz.f213,h8,h9,h10,hlt];refine⟨_,?_,.inl ⟨rfl,by rw[hd];rfl⟩⟩
  simp only[A0,reduceEqDiff,Ab,h4]
 |m+1,j,t,hj,h0,h1,h4,h8,h9,h10=>by
  refine Bt (Bp ?_);have hjl:j<Cu.length:=by omega
  have hlt:((j:Int)<(Cu.length:Int)):=by omega
  have hd:Cu.drop j=Cu[j] :: Cu.drop (j+1):=Ja6 hjl;have hx:=idx69 1 0 Cu j hjl;have h16:Cu.length=16:=rfl;have hw:=Jd (i:=j) (by omega)
  have hs:=rK l i hi;obtain⟨fn1,hf1⟩:=fX 203;simp only[A2,Bk]at h0 h1 h8 h9 h10 hx ⊢;simp only[go_sem,De,Hj,Jk,reduceLT,reduceEqDiff,Az,Wt,Tryz.f213,h0,h1,h8,h9,h10,hlt,hx,load9,hf1,hs];refine WC.mono (pre_w (l.drop i) Cu[j] S) ?_;rintro _ rfl;cases hb:Ci Cu[j] (l.drop i)
  ·simp only[go_sem,C7,Ja,reduceLT,reduceEqDiff,h1,h10,hw]
   refine WX.mono (jI l i hi S b hS m (j+1) _ (by omega) ?_ ?_ ?_ ?_ ?_ ?_) ?_
   ·simp only[A0,reduceEqDiff,Ab,h0];rfl
   ·simp only[A0,reduceEqDiff,Ab,h1];rfl
   ·simp only[A0,reduceEqDiff,Ab,h4]
   ·simp only[A0,reduceEqDiff,Ab,h8]
   ·simp only[A0,reduceEqDiff,Ab,h9];rfl
   ·simp only[A0,reduceEqDiff,Aa];rfl
   ·rintro r ⟨t',h4',⟨rfl,h⟩ | ⟨s,rfl,h5,h⟩⟩
    ·exact⟨t',h4',.inl ⟨rfl,by rw[hd,List.find?_cons,hb];exact h⟩⟩
    ·exact⟨t',h4',.inr ⟨s,rfl,h5,by rw[hd,List.find?_cons,hb];exact h⟩⟩
  ·have hbl:=b68_3 _ _ _ 4 i ⟨⟨Cu[j]⟩⟩ rfl rfl rfl
   have h1s:=st68 hS rfl (show([.v (.int .i64 4),.v (.int .i64 i),.v (.string ⟨⟨Cu[j]⟩⟩),Kf 0]:List AV).length=4 from rfl)
   simp only[go_sem,C7,Je,Ja,reduceLT,reduceEqDiff,h1,h4,h10,hbl,h1s];refine⟨_,?_,.inr ⟨Cu[j],rfl,?_,by rw[hd,List.find?_cons,hb]⟩⟩
   ·simp only[A0,reduceEqDiff,Ab,h4]
   ·simp only[A0,reduceEqDiff,Aa];rfl
theorem sign_w(l:List UInt8)(i:Nat)(hi:i≤l.length)(S:St):WC E1 213 [A2 l,Bk i] S (qC S (J2 (l.drop i) i)):=by
 refine WCk Tryz.f213 ?_;obtain⟨fn1,hf1⟩:=fX 241;have key:=fun t h0 h1 h4 h8 h9 h10=>jI l i hi (S.newBox (Cb B5)) S.next (Co S _) Cu.length 0 t (by omega) h0 h1 h4 h8 h9 h10
 unfold Wt at key;simp only[Tryz.f213]at key;have keep:∀ys,Dm S ((S.newBox (Cb B5)).put S.next ys):=fun ys=>Dj (Ce S _) (Ja1 _) ys
 have hL:=fun S=>len69 S 1 0 (Cu.map A2)
 rw[Ja9]at hL;simp only[go_sem,reduceLT,reduceAdd,Tryz.f213,hf1];refine WC.mono (signs_w _) ?_;rintro _ rfl;simp only[go_sem,Iq,reduceLT,reduceEqDiff,hL];refine WX.mono (key _ ?_ ?_ ?_ ?_ ?_ ?_) ?_
 ·simp only[A0,A1,reduceEqDiff,Aa,Ab]
 ·simp only[A0,A1,reduceEqDiff,Aa,Ab]
 ·simp only[A0,A1,reduceEqDiff,Aa,Ab]
 ·simp only[A0,A1,reduceEqDiff,Aa,Ab]
 ·simp only[A0,A1,reduceEqDiff,Aa,Ab];rfl
 ·simp only[A0,A1,reduceEqDiff,Aa,Ab];rfl
 ·rintro r ⟨t',h4,⟨rfl,h⟩ | ⟨s,rfl,h5,h⟩⟩
  ·have e:J2 (l.drop i) i=(B5,1):=by unfold J2;rw[Jd1]at h;rw[h]
   have q1:=Ns S (Cb B5) (Cb B5) rfl rfl;have q2:=Im (S.newBox (Cb B5)) S.next (Cb B5) rfl;simp only[go_sem,Ea,reduceLT,reduceEqDiff,h4,q1,q2];rw[e];exact⟨_,rfl,keep _⟩
  ·have e:J2 (l.drop i) i=(⟨4,i,s,0⟩,0):=by unfold J2;rw[Jd1]at h;rw[h]
   have q2:=Im (S.newBox (Cb B5)) S.next (Cb ⟨4,i,s,0⟩) rfl;simp only[F8,Fk,Ff,Bm,Cm,Ba,D8,h4,h5,q2];rw[e];exact⟨_,rfl,keep _⟩
theorem next_w(l:List UInt8)(hl:l.length≤100000)(i:Nat)(hi:i<l.length)(S:St)(p:Tk × Nat)(hp:Fx (l.drop i) i=some p):WC E1 166 [A2 l,Bk i] S (qC S p):=by
 refine WCk Tryz.f166 ?_;obtain⟨fn1,hf1⟩:=fX 209;obtain⟨fn2,hf2⟩:=fX 210;obtain⟨fn3,hf3⟩:=fX 211;obtain⟨fn4,hf4⟩:=fX 212;obtain⟨fn5,hf5⟩:=fX 213;have hx:=Xf l i hi;rw[Ja6 hi]at hp;simp only[Fx]at hp;rw[← Ja6 hi]at hp;simp only[A2,Bk];simp only[go_sem,reduceLT,reduceAdd,reduceEqDiff,Tryz.f166,hf1,hx];refine WC.mono (tT l[i] _) ?_;rintro _ rfl
 have fin:∀S2:St,Dm (S.newBox (Cb B5)) S2→∀q:Tk,Bl Tryz.prog S2 249 (.ptr S.next 0) (C6 q)=some (S2.put S.next (Cb q))∧A8 Tryz.prog (S2.put S.next (Cb q)) 249 (.ptr S.next 0)=some (C6 q)∧Dm S (S2.put S.next (Cb q)):=fun S2 hk q =>
  ⟨st68 (by rw[hk.2 S.next (Ja5 _)];exact Co S _) rfl rfl,Im _ _ _ rfl,Dj ((Ce S _).trans hk) (Ja1 _) _⟩
 cases hb:Dp l[i]
 ·rw[hb]at hp
  simp only[Am,Ab]at hp;simp only[go_sem,reduceLT,reduceEqDiff,hf2,hf3];refine WC.mono (pK l[i] _) ?_;rintro _ rfl;cases hb2:Bi l[i]
  ·rw[hb2]at hp
   simp only[Am,Ab]at hp;injection hp with hp;subst hp
   simp only[go_sem,reduceLT,reduceEqDiff,hf4,hf5];refine WC.mono (sign_w l i (by omega) _) ?_
   rintro _ ⟨S2,rfl,hk⟩;obtain⟨q1,q2,q3⟩:=fin S2 hk (J2 (l.drop i) i).1;simp only[go_sem,reduceLT,reduceEqDiff,q1,q2];exact⟨_,rfl,q3⟩
  ·rw[hb2]at hp
   simp only[Aa]at hp;simp only[go_sem,reduceLT,reduceEqDiff,hf4,hf5];refine WC.mono (number_w l hl i hi hb2 _ p hp) ?_;rintro _ ⟨S2,rfl,hk⟩;obtain⟨q1,q2,q3⟩:=fin S2 hk p.1;simp only[go_sem,reduceLT,reduceEqDiff,q1,q2];exact⟨_,rfl,q3⟩
 ·rw[hb]at hp
  simp only[Aa]at hp;injection hp with hp;subst hp
  simp only[go_sem,reduceLT,reduceEqDiff,hf2,hf3];refine WC.mono (word_w l hl i (by omega) _) ?_
  rintro _ ⟨S2,rfl,hk⟩;obtain⟨q1,q2,q3⟩:=fin S2 hk (Kd (l.drop i) i).1;simp only[go_sem,reduceLT,reduceEqDiff,q1,q2];exact⟨_,rfl,q3⟩
end
section
attribute [local go_sem] Bool.false_eq_true List.append_nil List.nil_append T.get_leaf T.get_set B1 Ky Dc Dr Bz Dl Dz Db Ct Ew Fi Ff A6 Bg Bv B3 By if_false if_true Jt C9 Em Bo ofOpt ofOptS C8 Cc Bu Cd Er E8 true_and Bc
def L9(l:List UInt8):Nat→Nat→Option ((Nat × Nat) ⊕ List Tk)
 |0,_=>none
 |n+1,i=>if i<l.length then(match Fx (l.drop i) i with
   |none=>none
   |some p=>if p.2=0 then(match L9 l n (i+p.1.text.length+Fe (l.length+1) (l.drop (i+p.1.text.length)))with
     |none=>none
     |some (.inl x)=>some (.inl x)
     |some (.inr ts)=>some (.inr (p.1 :: ts)))else some (.inl (i,p.2)))
  else some (.inr [⟨5,l.length,[],0⟩])
def Iw(l:List UInt8):Option ((Nat × Nat) ⊕ List Tk):=if 4000<l.length then some (.inl (4000,3))else L9 l (l.length+1) (Fe (l.length+1) l)
theorem rH{s l:List UInt8}(h:Ci s l=true):s.length≤l.length:=by
 unfold Ci at h;rw[decide_eq_true_iff]at h;have:=congrArg List.length h;simp at this;omega
theorem Tf{l:List UInt8}{i:Nat}{t:Tk}(h:Fx l i=some (t,0)):t.text.length≤l.length:=by
 unfold Fx at h
 split at h
 ·cases h
 ·rename_i b r
  split at h
  ·injection h with h
   unfold Kd at h
   split at h
   ·injection h with h1 h2;subst h1;rw[Jd0];omega
   ·split at h
    ·injection h with h1 h2;cases h2
    ·injection h with h1 h2;subst h1;rw[Jd0];omega
  ·split at h
   ·unfold Sk at h
    split at h
    ·injection h with h;injection h with h1 h2;cases h2
    ·split at h
     ·split at h
      ·injection h with h;injection h with h1 h2;cases h2
      ·injection h with h;injection h with h1 h2;subst h1;rw[Jd0];omega
     ·injection h with h;injection h with h1 h2;cases h2
   ·injection h with h
    unfold J2 at h
    split at h
    ·rename_i s hs
     injection h with h1 h2;subst h1
     have hq:Ci s (b :: r)=true:=by simpa using List.find?_some hs
     exact rH hq
    ·injection h with h1 h2;cases h2
def D0(a e:Nat):List AV:=[Bk a,Bk e]
theorem a33:B9 Tryz.prog 29=some true:=by kernel_rfl
theorem s33:Cl Tryz.prog 29=some 2:=by kernel_rfl
theorem al33(S:St):Ga Tryz.prog S 29=some (.ptr S.next 0,S.newBox (D0 0 0)):=rfl
theorem cM{S:St}{id:Nat}{cs ys:List AV}(h:S.mem.get id=some (.box cs))(hl:cs.length=2)(hy:ys.length=2):Bl Tryz.prog S 29 (.ptr id 0) (.agg ys)=some (S.put id ys):=by
 have h2:(AV.agg ys).noTup=true:=rfl;simp[Bl,h,s33,h2,AV.cells,hl,hy,St.put,Jc3]
theorem Pi(S:St)(id:Nat)(cs:List AV)(hl:cs.length=2):A8 Tryz.prog (S.put id cs) 29 (.ptr id 0)=some (.agg cs):=by
 have e:cs.take 2=cs:=Jd2 (by omega)
 simp[A8,Ca,Dv,a33,s33,hl,e]
theorem b33_0:Du Tryz.prog 29 []=some (.agg (D0 0 0)):=rfl
theorem mI(a e:Int):Du Tryz.prog 29 [(0,.v (.int .i64 a)),(1,.v (.int .i64 e))]=some (.agg [.v (.int .i64 a),.v (.int .i64 e)]):=rfl
theorem aZ(a b:AV):Ha Tryz.prog 27 a b=false:=by
 have h:Tryz.prog.underlying 27=some (.int .i64):=rfl;unfold Ha;rw[h]
theorem e63:Fs Tryz.prog 183=some (none,249):=by kernel_rfl
theorem u63:Tryz.prog.underlying 183=some (.slice 249):=by kernel_rfl
theorem i68:(Tryz.prog.info? 249).map (fun i=>(i.zero,i.size,i.bytes))=some (some (.agg #[.int .i64 0,.int .i64 0,.string ⟨#[]⟩,.int .u64 0]),4,40):=by kernel_rfl
theorem z68:Kb Tryz.prog 249=some (C6 B5):=by kernel_rfl
theorem row63(t:Tk):Bd Tryz.prog 183 1 [(0,C6 t)]=some (.sl 1 0 4 [C6 t]):=by
 have h1:(C6 t).noTup=true:=rfl;have h2:(C6 t).cells.length=4:=rfl;simp[Bd,e63,s68,z68,h1,h2]
theorem app63(S:St)(a b:AV):Ej E1 S 183 183 a b=Ds Tryz.prog S 183 183 a b:=rfl
def hY(lo:Nat)(S:St)(a:AV)(es:List AV):Prop:=(a=.nils∧es=[])∨∃tok,2≤tok∧lo≤tok∧tok<S.next∧a=.sl tok 0 4 es∧S.mem.get tok=some (.tip (es.length*4))
theorem hY.keep{lo:Nat}{S S':St}{a:AV}{es:List AV}(h:hY lo S a es)(k:Dm S S'):hY lo S' a es:=by
 rcases h with h | ⟨tok,h1,h2,h3,h4,h5⟩
 ·exact .inl h
 ·exact .inr ⟨tok,h1,h2,Ja0 h3 k.1,h4,by rw[k.2 tok h3];exact h5⟩
theorem rW{lo:Nat}{S:St}{a:AV}{es:List AV}(h:hY lo S a es)(hn:2≤S.next)(hlo:lo≤S.next)(t:Tk)(hl:es.length≤100000):
  ∃S',Ds Tryz.prog S 183 183 a (.sl 1 0 4 [C6 t])=some (.sl S.next 0 4 (es ++ [C6 t]),S')∧hY lo S' (.sl S.next 0 4 (es ++ [C6 t])) (es ++ [C6 t])∧S.next≤S'.next∧∀id cs,id<S.next→S.mem.get id=some (.box cs)∨id<lo→S'.mem.get id=S.mem.get id:=by
 obtain⟨i,hi,hz0,hz1,hz2⟩:=G1 i68;rcases h with⟨rfl,rfl⟩ | ⟨tok,h1,h2,h3,rfl,h5⟩
 ·refine⟨S.grown 1 4,?_,.inr ⟨S.next,hn,hlo,Ja5 _,rfl,?_⟩,Jc9 _,fun id cs hid _=>?_⟩
  ·simp[Ds,e63,hi,hz0,hz1,hz2,K9,u63,Value.cells]
  ·show(S.mem.set S.next _).get S.next=_
   rw[T.get_set,if_pos rfl];rfl
  ·show(S.mem.set S.next _).get id=_
   rw[T.get_set,if_neg (by omega)]
 ·obtain⟨k,rfl⟩:∃k,tok=k+2:=⟨tok - 2,by omega⟩
  have hb1:(es.length+1)*40≤140737488355328:=by omega
  have hb2:es.length+1≤9223372036854775807:=by omega
  refine⟨S.grown (k+2) ((es ++ [C6 t]).length*4),?_,.inr ⟨S.next,hn,hlo,Ja5 _,rfl,?_⟩,Jc9 _,fun id cs hid hor=>?_⟩
  ·simp[Ds,e63,hi,hz0,hz1,hz2,K9,u63,Value.cells,Le,h5,hb1,hb2]
  ·show((S.mem.set (k+2) none).set S.next _).get S.next=_
   rw[T.get_set,if_pos rfl]
  ·show((S.mem.set (k+2) none).set S.next _).get id=_
   rw[T.get_set,if_neg (by omega),T.get_set,if_neg (fun e=>by
    subst e;rcases hor with h |h
    ·rw[h5]at h;cases h
    ·omega)]
def bQ:Code:=match Tryz.f108.body with
 |some (.seq _ (.seq _ (.seq _ (.seq (.seq _ (.block _ (.loop c))) _))))=>c
 |_=>.skip
theorem ld33_get{S:St}{id:Nat}{cs:List AV}(h:S.mem.get id=some (.box cs))(hl:cs.length=2):A8 Tryz.prog S 29 (.ptr id 0)=some (.agg cs):=by
 have e:cs.take 2=cs:=Jd2 (by omega)
 simp[A8,Ca,h,a33,s33,hl,e]
theorem Xc{S:St}{id:Nat}{t:Tk}(h:S.mem.get id=some (.box (Cb t))):A8 Tryz.prog S 249 (.ptr id 0)=some (C6 t):=by
 simp[A8,Ca,h,a68,s68,Cb,C6]
theorem fa68(id:Nat):A3 Tryz.prog 249 (.ptr id 0) 2=some (.ptr id 2):=by kernel_rfl
theorem oI{S:St}{id:Nat}{t:Tk}(h:S.mem.get id=some (.box (Cb t))):A8 Tryz.prog S 9 (.ptr id 2)=some (A2 t.text):=by
 simp[A8,Ca,h,a9,Cb]
def LoopPost(l:List UInt8)(S0:St)(acc:List Tk)(out:(Nat × Nat) ⊕ List Tk)(r:O):Prop:=match out with
 |.inl x=>∃t' S',r=.out .ret ⟨t',[]⟩ S'∧t'.get 2=some .nils∧t'.get 3=some (.ptr S0.next 0)∧S'.mem.get S0.next=some (.box (D0 x.1 x.2))∧Dm S0 S'
 |.inr ts=>∃t' S' a' acc',r=.out (.exit 0) ⟨t',[]⟩ S'∧t'.get 0=some (A2 l)∧t'.get 3=some (.ptr S0.next 0)∧t'.get 4=some a'∧hY (S0.next+1) S' a' (acc'.map C6)∧acc' ++ [⟨5,l.length,[],0⟩]=acc ++ ts∧acc'.length≤l.length∧S'.mem.get S0.next=some (.box (D0 0 0))∧Dm S0 S'∧S0.next<S'.next∧2≤S'.next
theorem vZ(l:List UInt8)(hl:l.length≤4000)(S0:St):∀(n i:Nat) (t:T AV) (S:St) (a:AV) (acc:List Tk) (out:(Nat × Nat) ⊕ List Tk),L9 l n i=some out→i≤l.length→n+acc.length≤l.length+1→t.get 0=some (A2 l)→t.get 3=some (.ptr S0.next 0)→t.get 4=some a→t.get 5=some (Bk i) →
  hY (S0.next+1) S a (acc.map C6)→S.mem.get S0.next=some (.box (D0 0 0))→Dm S0 S→S0.next<S.next→2≤S.next→WX E1 47 (.loop bQ) ⟨t,[]⟩ S (LoopPost l S0 acc out)
 |0,i,t,S,a,acc,out,ho,hi,hn,h0,h3,h4,h5,hr,hb,hk,hlt,h2=>by cases ho
 |n+1,i,t,S,a,acc,out,ho,hi,hn,h0,h3,h4,h5,hr,hb,hk,hlt,h2=>by
  refine Bt (Bp ?_);obtain⟨fn1,hf1⟩:=fX 166;obtain⟨fn2,hf2⟩:=fX 165;unfold L9 at ho
  by_cases hil:i<l.length
  ·rw[if_pos hil]at ho
   have hltI:((i:Int)<(l.length:Int)):=by omega
   cases hq:Fx (l.drop i) i with
   |none=>rw[hq]at ho;cases ho
   |some p =>
    obtain⟨tk,e⟩:=p;rw[hq]at ho;simp only at ho;simp only[A2,Bk]at h0 h5 ⊢;simp only[go_sem,De,Hj,Jk,reduceLT,reduceEqDiff,Ap,bQ,Tryz.f108,h0,h5,hltI,hf1];refine WC.mono (next_w l (by omega) i hil S (tk,e) hq) ?_
    rintro _ ⟨S2,rfl,k2⟩;have kS:Dm S0 S2:=hk.trans k2;have hb2:S2.mem.get S0.next=some (.box (D0 0 0)):=by rw[k2.2 _ hlt];exact hb
    have hlt2:S0.next<S2.next:=Ja0 hlt k2.1;have hr2:=hr.keep k2;have q1:Bl Tryz.prog (S2.newBox (Cb B5)) 249 (.ptr S2.next 0) (C6 tk)=some ((S2.newBox (Cb B5)).put S2.next (Cb tk)):=Ns S2 (Cb B5) (Cb tk) rfl rfl;have kN:Dm S2 ((S2.newBox (Cb B5)).put S2.next (Cb tk)):=Dj (Ce S2 _) (Ja1 _) _;generalize hS3:(S2.newBox (Cb B5)).put S2.next (Cb tk)=S3 at q1 kN;have hn3:S3.next=S2.next+1:=by rw[← hS3];rfl
    have hg3:S3.mem.get S2.next=some (.box (Cb tk)):=by rw[← hS3];exact Dv _ _ _
    have hb3:S3.mem.get S0.next=some (.box (D0 0 0)):=by rw[kN.2 _ hlt2];exact hb2
    have hr3:=hr2.keep kN
    by_cases he:e=0
    ·subst he
     rw[if_pos rfl]at ho;obtain⟨S4,hap,hr4,hle4,hk4⟩:=rW hr3 (by omega) (by omega) tk (by simp;omega)
     have hb4:S4.mem.get S0.next=some (.box (D0 0 0)):=by rw[hk4 S0.next (D0 0 0) (by omega) (.inl hb3)];exact hb3
     have hg4:S4.mem.get S2.next=some (.box (Cb tk)):=by rw[hk4 S2.next (Cb tk) (by omega) (.inl hg3)];exact hg3
     have kS4:Dm S0 S4:=⟨by have:=kS.1;omega,fun id hid=>by rw[hk4 id [] (by have:=kS.1;omega) (.inr (by omega)),kN.2 id (by have:=kS.1;omega)];exact kS.2 id hid⟩
     have hnl:=Tf hq;rw[Jb4]at hnl;have hw:=I2 (i:=i) (j:=tk.text.length) (by omega)
     have ld1:=Xc hg3;have z0:(((0:Nat):Int) != 0)=false:=rfl;have ld2:=oI hg4;have hrow:=row63 tk;unfold A2 at ld2;simp only[go_sem,Ja,Fb,reduceLT,reduceEqDiff,Ag,Ah,D3,Ty,q1,aZ,Bk,app63,z0,ld1,ld2,hap,hrow,fa68,hw,h0,h4,h5,hf2];refine WC.mono (skip_w l (by omega) (l.length+1) (i+tk.text.length) (by omega) (by omega) S4) ?_
     rintro _ rfl;simp only[go_sem,C7,Cq,reduceLT,reduceEqDiff];have hsk:=Ki (l.length+1) (l.drop (i+tk.text.length));rw[Jb4]at hsk
     cases hrest:L9 l n (i+tk.text.length+Fe (l.length+1) (l.drop (i+tk.text.length)))with
     |none=>rw[hrest]at ho;cases ho
     |some out2 =>
      rw[hrest]at ho;refine WX.mono (vZ l hl S0 n _ _ S4 _ (acc ++ [tk]) out2 hrest (by omega) (by simp;omega) ?_ ?_ ?_ ?_ (by rw[Jd4];exact hr4) hb4 kS4 (by omega) (by omega)) ?_
      ·simp only[A0,reduceEqDiff,Ab,h0];rfl
      ·simp only[A0,reduceEqDiff,Ab,h3]
      ·simp only[A0,reduceEqDiff,Aa,Ab]
      ·simp only[A0,reduceEqDiff,Aa]
      ·intro r hp
       cases out2 with
       |inl x=>injection ho with ho;subst ho;exact hp
       |inr ts =>
        injection ho with ho;subst ho
        obtain⟨t',S',a',acc',g1,g2,g3,g4,g5,g6,g7⟩:=hp;exact⟨t',S',a',acc',g1,g2,g3,g4,g5,by rw[g6];simp,g7⟩
    ·rw[if_neg he]at ho
     injection ho with ho;subst ho
     have hne:(((e:Nat):Int) != 0)=true:=by rw[bne_iff_ne];omega
     have st:=cM hb3 rfl (show([.v (.int .i64 i),.v (.int .i64 e)]:List AV).length=2 from rfl)
     simp only[go_sem,Je,F8,Fk,Fb,reduceLT,reduceEqDiff,Ag,Ah,D3,Ty,q1,aZ,Bk,hne,mI,h3,h5,st];refine⟨_,_,rfl,?_,?_,Dv _ _ _,?_⟩
     ·simp only[A0,reduceEqDiff,Aa]
     ·simp only[A0,reduceEqDiff,Ab,h3]
     ·exact Dj (kS.trans kN) (Ja1 _) _
  ·rw[if_neg hil]at ho
   injection ho with ho;subst ho
   have hltI:¬ ((i:Int)<(l.length:Int)):=by omega
   simp only[A2,Bk]at h0 h5 ⊢;simp only[go_sem,De,Hj,Jk,reduceLT,reduceEqDiff,Aq,bQ,Tryz.f108,h0,h5,hltI];refine⟨_,S,a,acc,rfl,?_,?_,?_,hr,rfl,by omega,hb,hk,hlt,h2⟩
   ·simp only[A0,reduceEqDiff,Ab,h0];rfl
   ·simp only[A0,reduceEqDiff,Ab,h3]
   ·simp only[A0,reduceEqDiff,Ab,h4]
def LexPost(S:St)(out:(Nat × Nat) ⊕ List Tk)(r:R):Prop:=match out with
 |.inl x=>∃S',r=.ret (.tup [.nils,.agg (D0 x.1 x.2)]) S'∧Dm S S'
 |.inr ts=>∃S' tok,r=.ret (.tup [.sl tok 0 4 (ts.map C6),.agg (D0 0 0)]) S'∧Dm S S'
theorem all_w(l:List UInt8)(S:St)(hS:2≤S.next)(hsz:l.length≤1000000)(out:(Nat × Nat) ⊕ List Tk)(ho:Iw l=some out):WC E1 108 [A2 l] S (LexPost S out):=by
 refine WCk Tryz.f108 ?_;obtain⟨fn2,hf2⟩:=fX 165;have hn:=Co S (D0 0 0);have kn:=Ce S (D0 0 0);unfold Iw at ho;simp only[A2]
 by_cases h4:4000<l.length
 ·rw[if_pos h4]at ho
  injection ho with ho;subst ho
  have hg:((l.length:Nat):Int) > 4000:=by omega
  have q1:=cM hn rfl (show([.v (.int .i64 4000),.v (.int .i64 3)]:List AV).length=2 from rfl)
  have q2:=Pi (S.newBox (D0 0 0)) S.next [.v (.int .i64 4000),.v (.int .i64 3)] rfl;simp only[go_sem,F8,Cx,Bm,Cm,Ba,D8,Ls,reduceLT,reduceEqDiff,Ae,Ap,Tryz.f108,al33,hg,mI,q1,q2];exact⟨_,rfl,Dj kn (Ja1 _) _⟩
 ·rw[if_neg h4]at ho
  have hg:¬ ((l.length:Nat):Int) > 4000:=by omega
  have hsk:=Ki (l.length+1) l;have key:=fun t h0 h3 h4' h5=>vZ l (by omega) S (l.length+1) (Fe (l.length+1) l) t (S.newBox (D0 0 0)) .nils [] out ho hsk (by simp) h0 h3 h4' h5 (.inl ⟨rfl,rfl⟩) hn kn (Ja5 _) (Nat.le_succ_of_le hS)
  unfold bQ at key;simp only[Tryz.f108]at key;simp only[go_sem,Cx,Ls,reduceLT,reduceEqDiff,Ae,Aq,Tryz.f108,al33,hg,hf2];refine WC.mono (skip_w l (by omega) (l.length+1) 0 (by omega) (by omega) _) ?_
  rintro _ rfl;simp only[Jd1,Nat.zero_add];simp only[go_sem,Iq,reduceLT,reduceEqDiff];refine WX.mono (key _ ?_ ?_ ?_ ?_) ?_
  ·simp only[A0,A1,reduceEqDiff,Aa,Ab];rfl
  ·simp only[A0,A1,reduceEqDiff,Aa,Ab]
  ·simp only[A0,A1,reduceEqDiff,Aa,Ab]
  ·simp only[A0,A1,reduceEqDiff,Aa,Ab]
  ·intro r hp
   cases out with
   |inl x =>
    obtain⟨t',S',rfl,g2,g3,g4,g5⟩:=hp;have q2:=ld33_get g4 rfl;simp only[F8,Fk,Ff,Bm,Cm,Ba,D8,g2,g3,q2];exact⟨_,rfl,g5⟩
   |inr ts =>
    obtain⟨t',S',a',acc',rfl,g0,g3,g4,g5,g6,g7,g8,g9,g10,g11⟩:=hp;unfold A2 at g0;obtain⟨S4,hap,hr4,hle4,hk4⟩:=rW g5 (by omega) (by omega) ⟨5,l.length,[],0⟩ (by simp;omega)
    have hb4:S4.mem.get S.next=some (.box (D0 0 0)):=by rw[hk4 S.next (D0 0 0) g10 (.inl g8)];exact g8
    have k4:Dm S S4:=⟨by have:=g9.1;omega,fun id hid=>by rw[hk4 id [] (by have:=g9.1;omega) (.inr (by omega))];exact g9.2 id hid⟩
    have hb:Du Tryz.prog 249 [(0,.v (.int .i64 5)),(1,.v (.int .i64 (l.length:Int)))]=some (C6 ⟨5,l.length,[],0⟩):=rfl;have hrow:=row63 ⟨5,l.length,[],0⟩;have q1:=cM hb4 rfl (show(D0 0 0).length=2 from rfl)
    have q2:=Pi S4 S.next (D0 0 0) rfl;simp only[go_sem,Ea,Bm,Cm,Ba,D8,reduceLT,reduceEqDiff,g0,g3,g4,app63,hb,hrow,hap,b33_0,q1,q2];refine⟨S4.put S.next (D0 0 0),S'.next,?_,Dj k4 (Ja1 _) _⟩
    have e:acc'.map C6 ++ [C6 ⟨5,l.length,[],0⟩]=ts.map C6:=by
     have:=congrArg (List.map C6) g6
     simpa using this
    rw[e]
end
end Go.Ax
