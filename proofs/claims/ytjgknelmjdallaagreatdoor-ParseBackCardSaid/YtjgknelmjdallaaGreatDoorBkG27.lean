/- Bzb -/
import Derived.Test.YtjgknelmjdallaaGreatDoorBkG26
set_option linter.unusedVariables false
set_option linter.unusedSimpArgs false
noncomputable section
namespace Go.Ax
open Go.RowKit Go.Proofs
set_option maxRecDepth 100000
noncomputable def sBd:Code:=match Tryz.f13.body with
 | some (.seq _ (.seq _ (.seq _ (.seq _ (.seq _ (.seq _ (.seq _ (.seq (.seq _ (.block _ (.loop b))) _))))))))=>b
 | _=>.skip
noncomputable def sm23:Code:=match sBd with | .seq _ (.seq _ (.seq (.block _ (.seq c _)) _))=>c | _=>.skip
noncomputable def sm24:Code:=match sBd with | .seq _ (.seq _ (.seq (.block _ (.seq _ (.seq c _))) _))=>c | _=>.skip
noncomputable def sm25:Code:=match sBd with | .seq _ (.seq _ (.seq (.block _ (.seq _ (.seq _ (.seq c _)))) _))=>c | _=>.skip
noncomputable def Z7:Code:=match sBd with | .seq _ (.seq _ (.seq (.block _ (.seq _ (.seq _ (.seq _ (.seq c _))))) _))=>c | _=>.skip
noncomputable def sm32:Code:=match sBd with | .seq _ (.seq _ (.seq (.block _ (.seq _ (.seq _ (.seq _ (.seq _ c))))) _))=>c | _=>.skip
noncomputable def sm33:Code:=match sBd with | .seq _ (.seq _ (.seq _ c))=>c | _=>.skip
noncomputable def sm22:Code:=match sBd with | .seq c _=>c | _=>.skip
noncomputable def sm22b:Code:=match sBd with | .seq _ (.seq c _)=>c | _=>.skip
theorem sBd_is:sBd=.seq sm22 (.seq sm22b (.seq (.block 2 (.seq sm23 (.seq sm24 (.seq sm25 (.seq Z7 sm32))))) sm33)):=by kernel_rfl
structure FrS (p q o:Nat) (deep:Int) (t:T AV):Prop where
 t1:t.get 1=some (.v (.int .i64 deep))
 t2:t.get 2=some (.ptr p 0)
 t4:t.get 4=some (.ptr q 0)
 t6:t.get 6=some (.ptr o 0)
theorem FrS.same {p q o:Nat} {deep:Int} {t t':T AV} (h:FrS p q o deep t) (h1:t'.get 1=t.get 1) (h2:t'.get 2=t.get 2) (h4:t'.get 4=t.get 4) (h6:t'.get 6=t.get 6):FrS p q o deep t':=⟨h1.trans h.t1,h2.trans h.t2,h4.trans h.t4,h6.trans h.t6⟩
structure Mem3 (S0:St) (p q o lo:Nat) (ys xs:List AV) (S:St):Prop where
 keep:Eg S0 S
 mp:S.mem.get p=some (.box ys)
 mq:S.mem.get q=some (.box exZ)
 mo:S.mem.get o=some (.box xs)
 ord:2 ≤ S0.next ∧ S0.next ≤ p ∧ S0.next ≤ q ∧ S0.next ≤ o ∧ p < lo ∧ q < lo ∧ o < lo ∧ p ≠ o ∧ q ≠ o ∧ lo ≤ S.next
theorem Mem3.low {S0:St} {p q o lo:Nat} {ys xs:List AV} {S S':St} (h:Mem3 S0 p q o lo ys xs S) (hn:S.next ≤ S'.next) (hm:∀ id,id < lo → S'.mem.get id=S.mem.get id):Mem3 S0 p q o lo ys xs S':=by
 obtain ⟨h1,h2,h3,h4,h5⟩:=h
 exact ⟨⟨Nat.le_trans h1.1 hn,fun id hid=>(hm id (by omega)).trans (h1.2 id hid)⟩,(hm p (by omega)).trans h2,(hm q (by omega)).trans h3,(hm o (by omega)).trans h4,by omega⟩
theorem Mem3.o_put {S0:St} {p q o lo:Nat} {ys xs:List AV} {S:St} (h:Mem3 S0 p q o lo ys xs S) (xs':List AV):Mem3 S0 p q o lo ys xs' (S.put o xs'):=by
 obtain ⟨h1,h2,h3,h4,h5⟩:=h
 exact ⟨Ee h1 (by omega) _,(Et (by omega)).trans h2,(Et (by omega)).trans h3,Ek _ _ _,h5⟩
theorem Sd.ext {lo:Nat} {S S':St} {v:AV} {es:List AV} (h:Sd lo S v es) (hn:S.next ≤ S'.next) (hm:∀ id m,id < S.next → S.mem.get id=some (.tip m) → S'.mem.get id=some (.tip m)):Sd lo S' v es:=by
 rcases h with h | ⟨k,h1,h2,h3,h4⟩
 ·exact .inl h
 ·exact .inr ⟨k,h1,hm _ _ h3 h2,by omega,h4⟩
structure AtS (S0:St) (p q o lo:Nat) (ys xs:List AV) (v:AV) (es:List AV) (b:Nat) (zs:List AV) (S:St):Prop where
 m:Mem3 S0 p q o lo ys xs S
 r:Sd lo S v es
 mb:S.mem.get b=some (.box zs)
 hb:lo ≤ b ∧ b < S.next
theorem AtS.put {S0:St} {p q o lo:Nat} {ys xs:List AV} {v:AV} {es:List AV} {b:Nat} {zs:List AV} {S:St} (h:AtS S0 p q o lo ys xs v es b zs S) (zs':List AV):AtS S0 p q o lo ys xs v es b zs' (S.put b zs'):=by
 obtain ⟨h1,h2,h3,h4⟩:=h
 refine ⟨h1.low (Nat.le_refl _) (fun id hid=>Et (by omega)),h2.ext (Nat.le_refl _) (fun id m hid e=>?_),Ek _ _ _,h4⟩
 by_cases hk:id=b
 ·subst hk; rw [h3] at e; cases e
 ·exact (Et hk).trans e
theorem AtS.keep {S0:St} {p q o lo:Nat} {ys xs:List AV} {v:AV} {es:List AV} {b:Nat} {zs:List AV} {S S':St} (h:AtS S0 p q o lo ys xs v es b zs S) (k:Eg S S'):AtS S0 p q o lo ys xs v es b zs S':=by
 obtain ⟨h1,h2,h3,h4⟩:=h
 have:=h1.ord
 exact ⟨h1.low k.1 (fun id hid=>k.2 id (by omega)),h2.ext k.1 (fun id m hid e=>(k.2 id hid).trans e),(k.2 b h4.2).trans h3,h4.1,Nat.lt_of_lt_of_le h4.2 k.1⟩
theorem at_new {S0:St} {p q o lo:Nat} {ys xs:List AV} {v:AV} {es:List AV} {S:St} (h1:Mem3 S0 p q o lo ys xs S) (h2:Sd lo S v es) (zs:List AV):AtS S0 p q o lo ys xs v es S.next zs (S.newBox zs):=by
 have:=h1.ord
 exact ⟨h1.low (Nat.le_succ _) (fun id hid=>Gc (by omega)),h2.ext (Nat.le_succ _) (fun id m hid e=>(Gc hid).trans e),Db _ _,by omega,Nat.lt_succ_self _⟩
theorem aT (x:Int) (c:Nat) (hc:c < 4611686018427387904):∃ k:Nat,bits .and .i64 x (c:Int)=(k:Int) ∧ k ≤ c:=by
 refine ⟨((BitVec.ofInt 64 x) &&& (BitVec.ofInt 64 (c:Int))).toNat,?_,?_⟩
 ·have h:((BitVec.ofInt 64 x) &&& (BitVec.ofInt 64 (c:Int))).toNat ≤ c:=by
   rw [BitVec.toNat_and]
   refine Nat.le_trans Nat.and_le_right ?_
   rw [show BitVec.ofInt 64 (c:Int)=BitVec.ofNat 64 c from by simp,BitVec.toNat_ofNat]
   exact Nat.mod_le _ _
  show IntKind.i64.wrap ((((BitVec.ofInt 64 x) &&& (BitVec.ofInt 64 (c:Int))).toNat:Nat):Int)=_
  rw [IntKind.wrap_i64]; omega
 ·rw [BitVec.toNat_and]
  refine Nat.le_trans Nat.and_le_right ?_
  rw [show BitVec.ofInt 64 (c:Int)=BitVec.ofNat 64 c from by simp,BitVec.toNat_ofNat]
  exact Nat.mod_le _ _
theorem SomeE.mono {a b:Nat} {e:PE} (h:SomeE a e) (hab:a ≤ b):SomeE b e:=⟨h.good,h.fit,h.few,Nat.le_trans h.size (Nat.pow_le_pow_right (by decide) hab),by have:=h.deep; omega⟩
theorem Lm {zs:List AV} (h:RawE (.agg zs)):zs.length=6:=by cases h; rfl
theorem yN (k a n:Int) (s:ByteArray) (b:Bool) (kv:AV):(L8 k a n s b kv)[0]? = some (.v (.int .i64 k)):=_root_.id rfl
theorem Sv (k a n:Int) (s:ByteArray) (b:Bool) (kv:AV):(L8 k a n s b kv)[1]? = some (.v (.int .i64 a)):=_root_.id rfl
theorem Na (k a n:Int) (s:ByteArray) (b:Bool) (kv:AV):(L8 k a n s b kv)[2]? = some (.v (.int .i64 n)):=_root_.id rfl
theorem rawC4 (k a n:Int) (s:ByteArray) (b:Bool) (kv:AV):(L8 k a n s b kv)[4]? = some (.v (.bool b)):=_root_.id rfl
theorem yM (k a n:Int) (s:ByteArray) (b:Bool) (kv:AV):(L8 k a n s b kv)[5]? = some kv:=_root_.id rfl
theorem Ps (k p:Nat) (n:Int) (s:List UInt8) (b:Bool) (kv:AV):(exC k p n s b kv)[0]? = some (.v (.int .i64 (k:Int))):=_root_.id rfl
theorem exC2 (k p:Nat) (n:Int) (s:List UInt8) (b:Bool) (kv:AV):(exC k p n s b kv)[2]? = some (.v (.int .i64 n)):=_root_.id rfl
theorem exC5 (k p:Nat) (n:Int) (s:List UInt8) (b:Bool) (kv:AV):(exC k p n s b kv)[5]? = some kv:=_root_.id rfl
theorem rawC_len (k a n:Int) (s:ByteArray) (b:Bool) (kv:AV):(L8 k a n s b kv).length=6:=_root_.id rfl
set_option maxHeartbeats 16000000 in
theorem s24_w {S0:St} {p q o lo:Nat} {deep:Int} {xs:List AV} {v:AV} {es:List AV} {rk ra rn:Int} {rs:ByteArray} {rb:Bool} {kv:AV} {i:Nat} {t:T AV} {S:St} {Q:O → Prop} (hf:FrS p q o deep t) (h9:t.get 9=some (D0 i)) (hm:Mem3 S0 p q o lo (L8 rk ra rn rs rb kv) xs S) (hr:Sd lo S v es)
  (hQ:∀ (t':T AV) (zs:List AV) (S':St),FrS p q o deep t' → t'.get 84=t.get 84 → t'.get 85=t.get 85 → t'.get 9=t.get 9 → t'.get 10=some (.ptr S.next 0) → RawE (.agg zs) → AtS S0 p q o lo (L8 rk ra rn rs rb kv) xs v es S.next zs S' → Q (.out .normal ⟨t',[]⟩ S')):W E8 157 sm24 ⟨t,[]⟩ S Q:=by
 have h2:=hf.t2
 have mp:=hm.mp
 have a1:=at_new hm hr exZ
 generalize hzs:L8 (IntKind.i64.wrap (IntKind.i64.wrap (rk + (i:Int)) + 1)) (IntKind.i64.wrap (IntKind.i64.wrap (ra + IntKind.i64.wrap (3 * (i:Int))) + 1)) (IntKind.i64.wrap (rn + (i:Int))) ⟨#[]⟩ rb .nils=zs
 have hR:RawE (.agg zs):=by rw [← hzs]; exact .mk _ _ _ _ _ _ (V0 _) .nil
 have q1:=oY a1.mb rfl (Lm hR)
 have a2:=a1.put zs
 simp only [D0] at h9
 simp only [A6,Bh,A7,Bj,Eb,En,Bi,A5,Bc,Ba,A0,ofOpt,ofOptS,Bb,Bu,Bv,Dl,Nat.reduceLT,Nat.reduceEqDiff,Aa,Ab,Ac,Am,D6,Dq,sm24,sBd,Tryz.f13,h2,h9,mp,fb_mul,bld24r,hzs,al24,q1,Sh,L9,ldc4,Es,yN,Sv,Na,rawC4,Eh,Vp,E4,Js]
 refine hQ _ zs _ (hf.same ?_ ?_ ?_ ?_) ?_ ?_ ?_ ?_ hR a2 <;> simp only [A0,Nat.reduceEqDiff,Aa,Ab]
theorem raw_get {tok off:Nat} {rw:List AV} (h:RawK (.sl tok off 6 rw)) (i:Nat) (hi:i < rw.length):∃ zs,rw[i]? = some (.agg zs) ∧ RawE (.agg zs):=by
 cases h with
 | row _ _ _ h =>
  have hm:=h rw[i] (List.getElem_mem hi)
  rw [List.getElem?_eq_getElem hi]
  generalize rw[i]=e at hm
  cases hm with
  | mk k a n s b kv hn hk=>exact ⟨_,rfl,.mk _ _ _ _ _ _ hn hk⟩
set_option maxHeartbeats 16000000 in
theorem s25_w {S0:St} {p q o lo:Nat} {deep:Int} {xs:List AV} {v:AV} {es:List AV} {rk ra rn:Int} {rs:ByteArray} {rb:Bool} {kv:AV} {i b:Nat} {zs:List AV} {t:T AV} {S:St} {Q:O → Prop} (hf:FrS p q o deep t) (h9:t.get 9=some (D0 i)) (h10:t.get 10=some (.ptr b 0)) (hk:RawK kv) (hz:RawE (.agg zs)) (ha:AtS S0 p q o lo (L8 rk ra rn rs rb kv) xs v es b zs S)
  (hQ:∀ (t':T AV) (zs:List AV) (S':St),FrS p q o deep t' → t'.get 84=t.get 84 → t'.get 85=t.get 85 → t'.get 9=t.get 9 → t'.get 10=t.get 10 → RawE (.agg zs) → AtS S0 p q o lo (L8 rk ra rn rs rb kv) xs v es b zs S' → Q (.out .normal ⟨t',[]⟩ S')):W E8 157 sm25 ⟨t,[]⟩ S Q:=by
 have h2:=hf.t2
 have mp:=ha.m.mp
 have h9':=h9
 have h10':=h10
 simp only [D0] at h9
 cases kv with
 | nils =>
  have hl:Hp Tryz.prog S 22 .nils=some 0:=by simp [Hp,oR]
  have hlt:¬ ((i:Int) < ((0:Nat):Int)):=by omega
  simp only [Br,A6,Bl,Bq,A4,Bh,A7,Bj,Bi,Cg,A5,Bc,Ba,A0,Bo,ofOpt,Bv,Dd,Nat.reduceLT,Nat.reduceEqDiff,Aa,Ab,Ac,Am,Aq,D6,sm25,sBd,Tryz.f13,h2,h9,mp,hl,hlt,qW,Es,yM,Gf]
  refine hQ _ zs _ (hf.same ?_ ?_ ?_ ?_) ?_ ?_ ?_ ?_ hz ha <;> simp only [A0,Nat.reduceEqDiff,Aa,Ab]
 | v x =>
  cases hk with
  | emp a =>
  have hl:Hp Tryz.prog S 22 (.v (.slice (some a) 0 0))=some 0:=by simp [Hp,oR]
  have hlt:¬ ((i:Int) < ((0:Nat):Int)):=by omega
  simp only [Br,A6,Bl,Bq,A4,Bh,A7,Bj,Bi,Cg,A5,Bc,Ba,A0,Bo,ofOpt,Bv,Dd,Nat.reduceLT,Nat.reduceEqDiff,Aa,Ab,Ac,Am,Aq,D6,sm25,sBd,Tryz.f13,h2,h9,mp,hl,hlt,qW,Es,yM,Gf]
  refine hQ _ zs _ (hf.same ?_ ?_ ?_ ?_) ?_ ?_ ?_ ?_ hz ha <;> simp only [A0,Nat.reduceEqDiff,Aa,Ab]
 | sl tok off sz rw =>
  obtain rfl:sz=6:=by cases hk; rfl
  have hl:=len22s S tok off rw
  by_cases hi:i < rw.length
  ·have hlt:((i:Int) < (rw.length:Int)):=by omega
   obtain ⟨ws,hw,hW⟩:=raw_get hk i hi
   have hx:=jQ tok off rw i ws hw
   have hep:=J5 S (Lm hW)
   have q1:=oY ha.mb (Lm hz) (Lm hW)
   simp only [Br,A6,Bl,Bq,A4,Bh,A7,Bj,Eb,En,Bi,Ci,A5,Bc,Ba,A0,Bo,ofOpt,Bv,Dd,Nat.reduceLT,Nat.reduceEqDiff,Aa,Ab,Ac,Am,Ap,D6,sm25,sBd,Tryz.f13,h2,h9,h10,mp,hl,hlt,hx,hep,q1,qW,Es,yM,Gf]
   refine hQ _ ws _ (hf.same ?_ ?_ ?_ ?_) ?_ ?_ ?_ ?_ hW (ha.put ws) <;> simp only [A0,Nat.reduceEqDiff,Aa,Ab]
  ·have hlt:¬ ((i:Int) < (rw.length:Int)):=by omega
   simp only [Br,A6,Bl,Bq,A4,Bh,A7,Bj,Bi,Cg,A5,Bc,Ba,A0,Bo,ofOpt,Bv,Dd,Nat.reduceLT,Nat.reduceEqDiff,Aa,Ab,Ac,Am,Aq,D6,sm25,sBd,Tryz.f13,h2,h9,mp,hl,hlt,qW,Es,yM,Gf]
   refine hQ _ zs _ (hf.same ?_ ?_ ?_ ?_) ?_ ?_ ?_ ?_ hz ha <;> simp only [A0,Nat.reduceEqDiff,Aa,Ab]
 | _=>cases hk
end Go.Ax
noncomputable section
namespace Go.Ax
open Go.RowKit Go.Proofs
set_option maxRecDepth 100000
def SomePost (d:Nat) (S:St) (r:R):Prop:=∃ (zs:List AV) (e:PE) (S':St),r=.ret (.agg zs) S' ∧ RepE (.agg zs) e ∧ SomeE d e ∧ Eg S S'
def Y6 (d:Nat):Prop:=∀ (zs:List AV) (S:St),RawE (.agg zs) → 2 ≤ S.next → WC E8 13 [.agg zs,.v (.int .i64 (d:Int))] S (SomePost d S)
def oI (K i:Nat):Prop:=K=14 ∨ (K=9 ∧ i=0)
noncomputable def smC:Code:=match Z7 with | .seq _ (.cond _ c _)=>c | _=>.skip
noncomputable def smR:Code:=match Z7 with | .seq _ (.cond _ _ c)=>c | _=>.skip
noncomputable def smT:Code:=match Z7 with | .seq c _=>c | _=>.skip
theorem sm27_is:Z7=.seq smT (.cond (.tmp 127) smC smR):=by kernel_rfl
set_option maxHeartbeats 16000000 in
theorem smC_w {S0:St} {p q o lo:Nat} {deep:Int} {xs:List AV} {v:AV} {es:List AV} {ys:List AV} {b d':Nat} {zs:List AV} {t:T AV} {S:St} {Q:O → Prop} (hd:1 ≤ d') (hf:FrS p q o deep t) (h10:t.get 10=some (.ptr b 0)) (hz:RawE (.agg zs)) (ha:AtS S0 p q o lo ys xs v es b zs S)
  (hQ:∀ (t':T AV) (zs:List AV) (e:PE) (S':St),FrS p q o deep t' → t'.get 84=t.get 84 → t'.get 85=t.get 85 → t'.get 9=t.get 9 → t'.get 10=t.get 10 → RepE (.agg zs) e → SomeE d' e → G8 e=true → AtS S0 p q o lo ys xs v es b zs S' → Q (.out .normal ⟨t',[]⟩ S')):W E8 157 smC ⟨t,[]⟩ S Q:=by
 obtain ⟨fn1,hf38⟩:=Yo
 cases hz with
 | mk rk ra rn rs rb kv hn hk =>
 have mb:=ha.mb
 obtain ⟨pos,hpos,_⟩:=aT ra 4095 (by decide)
 have hpos':bits .and .i64 ra 4095=(pos:Int):=hpos
 simp only [Ch,Bl,smC,Z7,sBd,Tryz.f13]
 refine G4 [(0,true),(1,true),(4,true),(5,true),(6,true),(7,true),(8,true),(2,true),(8,false),(5,false),(3,true),(9,true),(10,true)] (by kernel_rfl) (by kernel_rfl) ?_
 simp only [A5,Bc,Ba,A0,Bo,B5,ofOpt,Bb,Bv,Nat.reduceLT,Nat.reduceEqDiff,Aa,Ab,Ac,Af,Ag,Ah,Aj,Ak,Am,D6,Hx,h10,mb,hf38,hpos',eG,fL,Ys,Sh,L9,Es,yN,Sv,Na,Eh,Vp,E4,Dj,C0,Df,Cn,Gu]
 refine WC.mono (dF rk 2 (by decide) (by decide) S) ?_
 rintro _ ⟨k,rfl,hk2⟩
 have hw:IntKind.i64.wrap (1 + (k:Int))=((1 + k:Nat):Int):=by rw [Kq _ (by omega)]; omega
 have hbl:=bld24c (1 + k) pos rn
 have q1:=oY mb (rawC_len _ _ _ _ _ _) (show (exC (1 + k) pos rn [] false .nils).length=6 from rfl)
 have a1:=ha.put (exC (1 + k) pos rn [] false .nils)
 have m1:=a1.mb
 generalize hS1:S.put b (exC (1 + k) pos rn [] false .nils)=S1 at q1 a1 m1
 by_cases hk1:k=1
 ·subst hk1
  have e2:(((1 + 1:Nat):Int) == 2)=true:=rfl
  have q2:=Oq szc2 S1 b 2 (.v (.int .i64 (bits .and .i64 rn 1))) _ rfl m1 (show 2 < 6 by decide)
  obtain ⟨n1,hn1,hn2⟩:=aT rn 1 (by decide)
  have hn1':bits .and .i64 rn 1=(n1:Int):=hn1
  rw [hn1'] at q2
  have q2:C7 Tryz.prog S1 2 (.ptr b 2) (.v (.int .i64 (n1:Int)))=some (S1.put b (exC (1 + 1) pos n1 [] false .nils)):=q2
  have a2:=a1.put (exC (1 + 1) pos n1 [] false .nils)
  obtain ⟨c1,c2,c3⟩:=fA 2 pos n1 (.inr ⟨rfl,by omega⟩)
  simp only [Br,A6,Bl,Bq,A4,Bh,A7,Bj,Eb,En,Bi,Ci,A5,Bc,Ba,A0,ofOpt,Bb,Bu,Bv,Dl,B7,Nat.reduceLT,Nat.reduceAdd,Nat.reduceEqDiff,Aa,Ab,Ac,Am,D6,Hx,Dq,h10,mb,hw,hbl,q1,m1,e2,hn1',q2,kC,fL,Ys,Sh,L9,Es,Sv,Na,Ps,exC2,Eh,E4,Ew,Dj,Gn,C0,P8,P2,Cn,Du,D9,Dy,Ed,Mt]
  refine hQ _ _ _ _ (hf.same ?_ ?_ ?_ ?_) ?_ ?_ ?_ ?_ c3 (c1.mono hd) c2 a2 <;> simp only [A0,Nat.reduceEqDiff,Aa,Ab,h10]
 ·have hk0:k=0:=by omega
  subst hk0
  have e2:(((1 + 0:Nat):Int) == 2)=false:=rfl
  obtain ⟨c1,c2,c3⟩:=fA 1 pos rn (.inl ⟨rfl,hn⟩)
  simp only [Br,A6,Bl,Bq,A4,Bh,A7,Bj,Bi,Cg,A5,Bc,Ba,A0,ofOpt,Bb,Bu,Bv,Dl,B7,Nat.reduceLT,Nat.reduceAdd,Nat.reduceEqDiff,Aa,Ab,Ac,Am,D6,Hx,Dq,h10,mb,hw,hbl,q1,m1,e2,Ys,Sh,L9,Es,Sv,Na,Ps,exC2,Eh,E4,Ew,Dj,Gn,C0,P8,P2,Cn,Du,D9,Dy,Ed,Mt]
  refine hQ _ _ _ _ (hf.same ?_ ?_ ?_ ?_) ?_ ?_ ?_ ?_ c3 (c1.mono hd) c2 a1 <;> simp only [A0,Nat.reduceEqDiff,Aa,Ab,h10]
set_option maxHeartbeats 16000000 in
theorem smR_w {S0:St} {p q o lo:Nat} {xs:List AV} {v:AV} {es:List AV} {ys:List AV} {b d':Nat} {zs:List AV} {t:T AV} {S:St} {Q:O → Prop} (hd:1 ≤ d' ∧ d' ≤ 1000) (hrec:Y6 d') (hf:FrS p q o ((d' + 1:Nat):Int) t) (h10:t.get 10=some (.ptr b 0)) (hz:RawE (.agg zs)) (ha:AtS S0 p q o lo ys xs v es b zs S)
  (hQ:∀ (t':T AV) (zs:List AV) (e:PE) (S':St),FrS p q o ((d' + 1:Nat):Int) t' → t'.get 84=t.get 84 → t'.get 85=t.get 85 → t'.get 9=t.get 9 → t'.get 10=t.get 10 → RepE (.agg zs) e → SomeE d' e → AtS S0 p q o lo ys xs v es b zs S' → Q (.out .normal ⟨t',[]⟩ S')):W E8 157 smR ⟨t,[]⟩ S Q:=by
 obtain ⟨fn1,hf13⟩:=fn8_13
 have h1:=hf.t1
 have mb:=ha.mb
 have l1:=I3 mb (Lm hz)
 have hw:IntKind.i64.wrap (((d' + 1:Nat):Int) - 1)=(d':Int):=by rw [Kq _ (by omega)]; omega
 simp only [A6,A7,Bj,Cb,Bi,A5,Bc,Ba,A0,Bo,B5,ofOpt,Bb,Bv,Nat.reduceLT,Nat.reduceEqDiff,Aa,Ab,Ac,Aj,Ak,Am,D6,smR,Z7,sBd,Tryz.f13,h1,h10,l1,fb_sub,hw,hf13]
 have:=ha.m.ord
 refine WC.mono (hrec zs S hz (by omega)) ?_
 rintro _ ⟨ws,e,S1,rfl,hre,hse,k1⟩
 have a1:=ha.keep k1
 have q1:=oY a1.mb (Lm hz) (show ws.length=6 from by cases hre; rfl)
 simp only [Bh,A7,Eb,En,Bi,Cz,A5,Bc,Ba,A0,Nat.reduceLT,Nat.reduceEqDiff,Aa,Ab,Ac,D6,h10,q1]
 refine hQ _ _ _ _ (hf.same ?_ ?_ ?_ ?_) ?_ ?_ ?_ ?_ hre hse (a1.put ws) <;> simp only [A0,Nat.reduceEqDiff,Aa,Ab,h10]
set_option maxHeartbeats 16000000 in
theorem sm27_w {S0:St} {p q o lo:Nat} {v v0:AV} {es:List AV} {K pos:Nat} {n:Int} {name:List UInt8} {off:Bool} {ys:List AV} {b d' i:Nat} {zs:List AV} {t:T AV} {S:St} {Q:O → Prop} (hd:1 ≤ d' ∧ d' ≤ 1000) (hrec:Y6 d') (hf:FrS p q o ((d' + 1:Nat):Int) t) (h9:t.get 9=some (D0 i)) (h10:t.get 10=some (.ptr b 0)) (hz:RawE (.agg zs)) (ha:AtS S0 p q o lo ys (exC K pos n name off v0) v es b zs S)
  (hQ:∀ (t':T AV) (zs:List AV) (e:PE) (S':St),FrS p q o ((d' + 1:Nat):Int) t' → t'.get 84=t.get 84 → t'.get 85=t.get 85 → t'.get 10=t.get 10 → RepE (.agg zs) e → SomeE d' e → (oI K i → G8 e=true) → AtS S0 p q o lo ys (exC K pos n name off v0) v es b zs S' → Q (.out .normal ⟨t',[]⟩ S')):W E8 157 Z7 ⟨t,[]⟩ S Q:=by
 have h6:=hf.t6
 have mo:=ha.m.mo
 simp only [D0] at h9
 rw [sm27_is]
 by_cases hK:K=14
 ·subst hK
  have e14:(((14:Nat):Int) == 14)=true:=rfl
  simp only [A6,Bl,Bq,A4,Bh,A7,Ct,Bj,Bi,Ci,A5,Bc,Ba,A0,ofOpt,Bb,Bv,B7,Nat.reduceLT,Nat.reduceEqDiff,Aa,Ab,Ac,Af,Ag,Ah,Ai,Am,Aw,D6,Hx,smT,Z7,sBd,Tryz.f13,h6,h9,mo,e14,L9,Es,Ps,Eh]
  refine smC_w hd.1 (hf.same ?_ ?_ ?_ ?_) ?_ hz ha (fun t' ws e S' f1 f2 f3 f4 f5 r1 r2 r3 r4=>hQ t' ws e S' f1 (f2.trans ?_) (f3.trans ?_) (f5.trans ?_) r1 r2 (fun _=>r3) r4) <;> simp only [A0,Nat.reduceEqDiff,Aa,Ab,h10]
 ·have e14:((K:Int) == 14)=false:=by rw [beq_eq_false_iff_ne]; omega
  by_cases h9K:K=9
  ·subst h9K
   have e9:(((9:Nat):Int) == 9)=true:=rfl
   have e14:(((9:Nat):Int) == 14)=false:=rfl
   by_cases hi:i=0
   ·subst hi
    have e0:(((0:Nat):Int) == 0)=true:=rfl
    simp only [A6,Bl,Bq,A4,Bh,A7,Bj,Bi,Ci,A5,Bc,Ba,A0,ofOpt,Bb,Bv,B7,Nat.reduceLT,Nat.reduceEqDiff,Aa,Ab,Ac,Af,Ag,Ah,Ai,Al,Am,D6,smT,Z7,sBd,Tryz.f13,h6,h9,mo,e14,e9,e0,L9,Es,Ps,Eh]
    refine smC_w hd.1 (hf.same ?_ ?_ ?_ ?_) ?_ hz ha (fun t' ws e S' f1 f2 f3 f4 f5 r1 r2 r3 r4=>hQ t' ws e S' f1 (f2.trans ?_) (f3.trans ?_) (f5.trans ?_) r1 r2 (fun _=>r3) r4) <;> simp only [A0,Nat.reduceEqDiff,Aa,Ab,h10]
   ·have e0:((i:Int) == 0)=false:=by rw [beq_eq_false_iff_ne]; omega
    simp only [A6,Bl,Bq,A4,Bh,A7,Bj,Bi,Cg,A5,Bc,Ba,A0,ofOpt,Bb,Bv,B7,Nat.reduceLT,Nat.reduceEqDiff,Aa,Ab,Ac,Af,Ag,Ah,Ai,Al,Am,D6,smT,Z7,sBd,Tryz.f13,h6,h9,mo,e14,e9,e0,L9,Es,Ps,Eh]
    refine smR_w hd hrec (hf.same ?_ ?_ ?_ ?_) ?_ hz ha (fun t' ws e S' f1 f2 f3 f4 f5 r1 r2 r4=>hQ t' ws e S' f1 (f2.trans ?_) (f3.trans ?_) (f5.trans ?_) r1 r2 (fun hc=>by rcases hc with hc | hc <;> omega) r4) <;> simp only [A0,Nat.reduceEqDiff,Aa,Ab,h10]
  ·have e9:((K:Int) == 9)=false:=by rw [beq_eq_false_iff_ne]; omega
   simp only [A6,Bl,Bq,A4,Bh,A7,Ct,Bj,Bi,Cg,A5,Bc,Ba,A0,ofOpt,Bb,Bv,B7,Nat.reduceLT,Nat.reduceEqDiff,Aa,Ab,Ac,Af,Ag,Ah,Ai,Al,Am,Ar,Av,D6,Hx,smT,Z7,sBd,Tryz.f13,h6,h9,mo,e14,e9,L9,Es,Ps,Eh]
   refine smR_w hd hrec (hf.same ?_ ?_ ?_ ?_) ?_ hz ha (fun t' ws e S' f1 f2 f3 f4 f5 r1 r2 r4=>hQ t' ws e S' f1 (f2.trans ?_) (f3.trans ?_) (f5.trans ?_) r1 r2 (fun hc=>by rcases hc with hc | hc <;> omega) r4) <;> simp only [A0,Nat.reduceEqDiff,Aa,Ab,h10]
set_option maxHeartbeats 16000000 in
theorem sm32_w {S0:St} {p q o lo:Nat} {deep:Int} {v:AV} {es:List AV} {K pos:Nat} {n:Int} {name:List UInt8} {off:Bool} {ys:List AV} {b:Nat} {zs:List AV} {t:T AV} {S:St} {Q:O → Prop} (hl:es.length ≤ 1000) (hf:FrS p q o deep t) (h10:t.get 10=some (.ptr b 0)) (hz:zs.length=6) (ha:AtS S0 p q o lo ys (exC K pos n name off v) v es b zs S)
  (hQ:∀ (t':T AV) (v':AV) (S':St),FrS p q o deep t' → t'.get 84=t.get 84 → t'.get 85=t.get 85 → Mem3 S0 p q o lo ys (exC K pos n name off v') S' → Sd lo S' v' (es ++ [.agg zs]) → Q (.out .normal ⟨t',[]⟩ S')):W E8 157 sm32 ⟨t,[]⟩ S Q:=by
 have h6:=hf.t6
 have mo:=ha.m.mo
 have hord:=ha.m.ord
 have l1:=I3 ha.mb hz
 have hr:=row22 hz
 obtain ⟨v',S1,qa,r1,k1,low1⟩:=append_s (by omega) hord.2.2.2.2.2.2.2.2.2 ha.r hz hl
 have m1:=ha.m.low k1.1 low1
 have hv1:v'.one=true:=by rcases r1 with ⟨h,_⟩ | ⟨k,h,_⟩ <;> rw [h] <;> rfl
 have q1:=Oq szc22 S1 o 5 v' _ hv1 m1.mo (show 5 < 6 by decide)
 have q1:C7 Tryz.prog S1 22 (.ptr o 5) v' = some (S1.put o (exC K pos n name off v')):=q1
 have m2:=m1.o_put (exC K pos n name off v')
 have r2:Sd lo (S1.put o (exC K pos n name off v')) v' (es ++ [.agg zs]):=r1.ext (Nat.le_refl _) (fun id m hid e=>by
  by_cases hk:id=o
  ·subst hk; rw [m1.mo] at e; cases e
  ·exact (Et hk).trans e)
 simp only [A6,Bh,A7,Bj,Eb,En,Bi,A5,Bc,Ba,A0,Bo,ofOpt,ofOptS,Bu,Nat.reduceLT,Nat.reduceEqDiff,Aa,Ab,Ac,D6,sm32,sBd,Tryz.f13,h6,h10,mo,l1,hr,app22,qa,q1,qW,Es,exC5,Gf]
 refine hQ _ _ _ (hf.same ?_ ?_ ?_ ?_) ?_ ?_ m2 r2 <;> simp only [A0,Nat.reduceEqDiff,Aa,Ab]
def LoopSm (S0:St) (p q o lo:Nat) (deep:Int) (ys:List AV) (K pos:Nat) (n:Int) (name:List UInt8) (off:Bool) (d' need:Nat) (r:O):Prop :=
 ∃ t' S' v es l,r=.out (.exit 1) ⟨t',[]⟩ S' ∧ FrS p q o deep t' ∧ Mem3 S0 p q o lo ys (exC K pos n name off v) S' ∧ Sd lo S' v es ∧ RepF es l ∧ l.length=need ∧ (∀ x ∈ l,SomeE d' x) ∧ (∀ j x,l[j]? = some x → oI K j → G8 x=true)
theorem iJ:∀ {es:List AV} {l:List PE} {a:AV} {e:PE},RepF es l → RepE a e → RepF (es ++ [a]) (l ++ [e])
 | _,_,a,e,.nil,h=>.cons a e [] [] h .nil
 | _,_,a,e,.cons a' e' r l h2 h3,h=>.cons a' e' _ _ h2 (iJ h3 h)
set_option maxHeartbeats 16000000 in
theorem xQ {S0:St} {p q o lo:Nat} {K pos:Nat} {n:Int} {name:List UInt8} {off:Bool} {rk ra rn:Int} {rs:ByteArray} {rb:Bool} {kv:AV} {d' need:Nat} (hd:0 < need → 1 ≤ d' ∧ d' ≤ 1000) (hrec:0 < need → Y6 d') (hk:RawK kv) (hneed:need ≤ 3):∀ (m i:Nat) (t:T AV) (S:St) (v:AV) (es:List AV) (l:List PE),i + m=need → t.get 84=some (D0 need) → t.get 85=some (D0 i) → FrS p q o ((d' + 1:Nat):Int) t → Mem3 S0 p q o lo (L8 rk ra rn rs rb kv) (exC K pos n name off v) S → Sd lo S v es → RepF es l → l.length=i → (∀ x ∈ l,SomeE d' x) → (∀ j x,l[j]? = some x → oI K j → G8 x=true) →
  WX E8 157 (.loop sBd) ⟨t,[]⟩ S (LoopSm S0 p q o lo ((d' + 1:Nat):Int) (L8 rk ra rn rs rb kv) K pos n name off d' need)
 | 0,i,t,S,v,es,l,him,h84,h85,hf,hm,hr,hrl,hli,hs,hc=>by
  refine Fe (El ?_)
  have hlt:¬ ((i:Int) < (need:Int)):=by omega
  simp only [D0] at h84 h85
  simp only [Cf,Br,A6,Bl,Bq,Bt,Dk,A4,Ey,Bh,A7,Bj,Bi,Cg,A5,Bc,Ba,A0,ofOpt,Bv,Dd,Nat.reduceLT,Nat.reduceEqDiff,Aa,Ab,Ac,Am,Aq,D6,sBd,Tryz.f13,h84,h85,hlt]
  exact ⟨_,_,v,es,l,rfl,hf.same (by simp only [A0,Nat.reduceEqDiff,Aa,Ab]) (by simp only [A0,Nat.reduceEqDiff,Aa,Ab]) (by simp only [A0,Nat.reduceEqDiff,Aa,Ab]) (by simp only [A0,Nat.reduceEqDiff,Aa,Ab]),hm,hr,hrl,by omega,hs,hc⟩
 | m + 1,i,t,S,v,es,l,him,h84,h85,hf,hm,hr,hrl,hli,hs,hc=>by
  refine Fe (El ?_)
  have hlt:((i:Int) < (need:Int)):=by omega
  have hw:=Ka (i:=i) (by omega)
  have h84':=h84
  have h85':=h85
  simp only [D0] at h84 h85
  rw [sBd_is]
  simp only [Cf,Br,A6,Bl,Bq,Bt,Dk,A4,Ey,Bh,A7,Bj,Bi,Ci,A5,Bc,Ba,A0,ofOpt,Bv,Dd,Nat.reduceLT,Nat.reduceEqDiff,Aa,Ab,Ac,Am,Ap,D6,sm22,sm22b,sm23,sBd,Tryz.f13,h84,h85,hlt]
  refine s24_w (i:=i) (hf.same ?_ ?_ ?_ ?_) ?_ hm hr (fun t1 zs1 S1 f1 f84 f85 f9 f10 hz1 a1=>?_)
  iterate 5 (simp only [A0,Nat.reduceEqDiff,Aa,Ab,D0])
  simp only [A0,Nat.reduceEqDiff,Aa,Ab,h84,h85] at f84 f85 f9
  simp only [Bl,A4]
  refine s25_w (i:=i) f1 f9 f10 hk hz1 a1 (fun t2 zs2 S2 g1 g84 g85 g9 g10 hz2 a2=>?_)
  simp only [Bl,A4]
  refine sm27_w (i:=i) (hd (by omega)) (hrec (by omega)) g1 (g9.trans f9) (g10.trans f10) hz2 a2 (fun t3 zs3 e3 S3 k1 k84 k85 k10 r3 se3 c3 a3=>?_)
  simp only [A4]
  have hel:es.length=i:=(Ss hrl).trans hli
  refine sm32_w (by omega) k1 ((k10.trans g10).trans f10) (by cases r3; rfl) a3 (fun t4 v4 S4 m1 m84 m85 m4 r4=>?_)
  have h85n:t4.get 85=some (.v (.int .i64 (i:Int))):=(((m85.trans k85).trans g85).trans f85)
  simp only [B8,A6,A4,Bs,Bh,A7,Bj,Bi,A5,Bc,Ba,A0,ofOpt,Bb,Bv,Dl,Nat.reduceLT,Aa,Ab,Ac,Am,D6,sm33,sBd,Tryz.f13,h85n,hw]
  refine xQ hd hrec hk hneed m (i + 1) _ S4 v4 (es ++ [.agg zs3]) (l ++ [e3]) (by omega) ?_ ?_ (m1.same ?_ ?_ ?_ ?_) m4 r4 (iJ hrl r3) (by simp [hli]) ?_ ?_
  ·simp only [A0,Nat.reduceEqDiff,Aa,Ab]
   exact (((m84.trans k84).trans g84).trans f84)
  ·simp only [A0,Nat.reduceEqDiff,Aa,Ab]; rfl
  ·simp only [A0,Nat.reduceEqDiff,Aa,Ab]
  ·simp only [A0,Nat.reduceEqDiff,Aa,Ab]
  ·simp only [A0,Nat.reduceEqDiff,Aa,Ab]
  ·simp only [A0,Nat.reduceEqDiff,Aa,Ab]
  ·intro x hx
   rcases List.mem_append.1 hx with hx | hx
   ·exact hs x hx
   ·rw [List.mem_singleton.1 hx]; exact se3
  ·intro j x hx hcc
   by_cases hj:j < l.length
   ·rw [List.getElem?_append_left hj] at hx; exact hc j x hx hcc
   ·rw [List.getElem?_append_right (by omega)] at hx
    have hj0:j - l.length=0:=by
     by_cases h0:j - l.length=0
     ·exact h0
     ·rw [List.getElem?_eq_none (by simp; omega)] at hx; cases hx
    rw [hj0] at hx
    injection hx with hx
    subst hx
    exact c3 (by rwa [show j=i by omega] at hcc)
end Go.Ax
noncomputable section
namespace Go.Ax
open Go.RowKit Go.Proofs
set_option maxRecDepth 100000
noncomputable def sm0:Code:=match Tryz.f13.body with | some (.seq c _)=>c | _=>.skip
noncomputable def sm1:Code:=match Tryz.f13.body with | some (.seq _ (.seq c _))=>c | _=>.skip
noncomputable def sm2:Code:=match Tryz.f13.body with | some (.seq _ (.seq _ (.seq c _)))=>c | _=>.skip
noncomputable def sm3:Code:=match Tryz.f13.body with | some (.seq _ (.seq _ (.seq _ (.seq c _))))=>c | _=>.skip
noncomputable def sm5:Code:=match Tryz.f13.body with | some (.seq _ (.seq _ (.seq _ (.seq _ (.seq c _)))))=>c | _=>.skip
noncomputable def sm6:Code:=match Tryz.f13.body with | some (.seq _ (.seq _ (.seq _ (.seq _ (.seq _ (.seq c _))))))=>c | _=>.skip
noncomputable def sm7:Code:=match Tryz.f13.body with | some (.seq _ (.seq _ (.seq _ (.seq _ (.seq _ (.seq _ (.seq c _)))))))=>c | _=>.skip
noncomputable def sm21:Code:=match Tryz.f13.body with | some (.seq _ (.seq _ (.seq _ (.seq _ (.seq _ (.seq _ (.seq _ (.seq (.seq c _) _))))))))=>c | _=>.skip
noncomputable def sm34:Code:=match Tryz.f13.body with | some (.seq _ (.seq _ (.seq _ (.seq _ (.seq _ (.seq _ (.seq _ (.seq _ c))))))))=>c | _=>.skip
theorem f13_is:Tryz.f13.body.getD .skip=.seq sm0 (.seq sm1 (.seq sm2 (.seq sm3 (.seq sm5 (.seq sm6 (.seq sm7 (.seq (.seq sm21 (.block 1 (.loop sBd))) sm34))))))):=by kernel_rfl
def tab19:List AV:=[.v (.int .i64 3),.v (.int .i64 1),.v (.int .i64 2),.v (.int .i64 3),.v (.int .i64 4),.v (.int .i64 5),.v (.int .i64 6),.v (.int .i64 7),.v (.int .i64 8),.v (.int .i64 9),.v (.int .i64 10),.v (.int .i64 11),.v (.int .i64 12),.v (.int .i64 13),.v (.int .i64 14),.v (.int .i64 6),.v (.int .i64 6),.v (.int .i64 7),.v (.int .i64 8)]
theorem bs19:Dv Tryz.prog 88 19 [(0,.v (.int .i64 3)),(1,.v (.int .i64 1)),(2,.v (.int .i64 2)),(3,.v (.int .i64 3)),(4,.v (.int .i64 4)),(5,.v (.int .i64 5)),(6,.v (.int .i64 6)),(7,.v (.int .i64 7)),(8,.v (.int .i64 8)),(9,.v (.int .i64 9)),(10,.v (.int .i64 10)),(11,.v (.int .i64 11)),(12,.v (.int .i64 12)),(13,.v (.int .i64 13)),(14,.v (.int .i64 14)),(15,.v (.int .i64 6)),(16,.v (.int .i64 6)),(17,.v (.int .i64 7)),(18,.v (.int .i64 8))]=some (.sl 1 0 1 tab19):=by kernel_rfl
theorem len19 (S:St):Hp Tryz.prog S 88 (.sl 1 0 1 tab19)=some 19:=by kernel_rfl
theorem ix19 (k:Nat) (h:k < 19):∃ K:Nat,Cm Tryz.prog 88 (.sl 1 0 1 tab19) (.v (.int .i64 (k:Int)))=some (.ep [.v (.int .i64 (K:Int))]) ∧ 1 ≤ K ∧ K ≤ 14:=by
 match k,h with
 | 0,_=>exact ⟨3,by kernel_rfl,by decide,by decide⟩
 | 1,_=>exact ⟨1,by kernel_rfl,by decide,by decide⟩
 | 2,_=>exact ⟨2,by kernel_rfl,by decide,by decide⟩
 | 3,_=>exact ⟨3,by kernel_rfl,by decide,by decide⟩
 | 4,_=>exact ⟨4,by kernel_rfl,by decide,by decide⟩
 | 5,_=>exact ⟨5,by kernel_rfl,by decide,by decide⟩
 | 6,_=>exact ⟨6,by kernel_rfl,by decide,by decide⟩
 | 7,_=>exact ⟨7,by kernel_rfl,by decide,by decide⟩
 | 8,_=>exact ⟨8,by kernel_rfl,by decide,by decide⟩
 | 9,_=>exact ⟨9,by kernel_rfl,by decide,by decide⟩
 | 10,_=>exact ⟨10,by kernel_rfl,by decide,by decide⟩
 | 11,_=>exact ⟨11,by kernel_rfl,by decide,by decide⟩
 | 12,_=>exact ⟨12,by kernel_rfl,by decide,by decide⟩
 | 13,_=>exact ⟨13,by kernel_rfl,by decide,by decide⟩
 | 14,_=>exact ⟨14,by kernel_rfl,by decide,by decide⟩
 | 15,_=>exact ⟨6,by kernel_rfl,by decide,by decide⟩
 | 16,_=>exact ⟨6,by kernel_rfl,by decide,by decide⟩
 | 17,_=>exact ⟨7,by kernel_rfl,by decide,by decide⟩
 | 18,_=>exact ⟨8,by kernel_rfl,by decide,by decide⟩
 | k + 19,h=>exact absurd h (by omega)
def N9 (k4 k3:Nat):List AV:=[.v (.int .i64 0),.v (.int .i64 0),.v (.int .i64 0),.v (.int .i64 0),.v (.int .i64 1),.v (.int .i64 1),.v (.int .i64 2),.v (.int .i64 3),.v (.int .i64 2),.v (.int .i64 2),.v (.int .i64 1),.v (.int .i64 1),.v (.int .i64 2),.v (.int .i64 (k4:Int)),.v (.int .i64 (k3:Int))]
theorem bs15 (k4 k3:Nat):Dv Tryz.prog 88 15 [(0,.v (.int .i64 0)),(1,.v (.int .i64 0)),(2,.v (.int .i64 0)),(3,.v (.int .i64 0)),(4,.v (.int .i64 1)),(5,.v (.int .i64 1)),(6,.v (.int .i64 2)),(7,.v (.int .i64 3)),(8,.v (.int .i64 2)),(9,.v (.int .i64 2)),(10,.v (.int .i64 1)),(11,.v (.int .i64 1)),(12,.v (.int .i64 2)),(13,.v (.int .i64 (k4:Int))),(14,.v (.int .i64 (k3:Int)))]=some (.sl 1 0 1 (N9 k4 k3)):=by kernel_rfl
def Jx (K k4 k3:Nat):Nat:=match K with
 | 0=>0
 | 1=>0
 | 2=>0
 | 3=>0
 | 4=>1
 | 5=>1
 | 6=>2
 | 7=>3
 | 8=>2
 | 9=>2
 | 10=>1
 | 11=>1
 | 12=>2
 | 13=>k4
 | 14=>k3
 | _=>0
theorem ix15_0 (k4 k3:Nat):Cm Tryz.prog 88 (.sl 1 0 1 (N9 k4 k3)) (.v (.int .i64 ((0:Nat):Int)))=some (.ep [.v (.int .i64 (Jx 0 k4 k3:Int))]):=by kernel_rfl
theorem ix15_1 (k4 k3:Nat):Cm Tryz.prog 88 (.sl 1 0 1 (N9 k4 k3)) (.v (.int .i64 ((1:Nat):Int)))=some (.ep [.v (.int .i64 (Jx 1 k4 k3:Int))]):=by kernel_rfl
theorem ix15_2 (k4 k3:Nat):Cm Tryz.prog 88 (.sl 1 0 1 (N9 k4 k3)) (.v (.int .i64 ((2:Nat):Int)))=some (.ep [.v (.int .i64 (Jx 2 k4 k3:Int))]):=by kernel_rfl
theorem ix15_3 (k4 k3:Nat):Cm Tryz.prog 88 (.sl 1 0 1 (N9 k4 k3)) (.v (.int .i64 ((3:Nat):Int)))=some (.ep [.v (.int .i64 (Jx 3 k4 k3:Int))]):=by kernel_rfl
theorem ix15_4 (k4 k3:Nat):Cm Tryz.prog 88 (.sl 1 0 1 (N9 k4 k3)) (.v (.int .i64 ((4:Nat):Int)))=some (.ep [.v (.int .i64 (Jx 4 k4 k3:Int))]):=by kernel_rfl
theorem ix15_5 (k4 k3:Nat):Cm Tryz.prog 88 (.sl 1 0 1 (N9 k4 k3)) (.v (.int .i64 ((5:Nat):Int)))=some (.ep [.v (.int .i64 (Jx 5 k4 k3:Int))]):=by kernel_rfl
theorem ix15_6 (k4 k3:Nat):Cm Tryz.prog 88 (.sl 1 0 1 (N9 k4 k3)) (.v (.int .i64 ((6:Nat):Int)))=some (.ep [.v (.int .i64 (Jx 6 k4 k3:Int))]):=by kernel_rfl
theorem ix15_7 (k4 k3:Nat):Cm Tryz.prog 88 (.sl 1 0 1 (N9 k4 k3)) (.v (.int .i64 ((7:Nat):Int)))=some (.ep [.v (.int .i64 (Jx 7 k4 k3:Int))]):=by kernel_rfl
theorem ix15_8 (k4 k3:Nat):Cm Tryz.prog 88 (.sl 1 0 1 (N9 k4 k3)) (.v (.int .i64 ((8:Nat):Int)))=some (.ep [.v (.int .i64 (Jx 8 k4 k3:Int))]):=by kernel_rfl
theorem ix15_9 (k4 k3:Nat):Cm Tryz.prog 88 (.sl 1 0 1 (N9 k4 k3)) (.v (.int .i64 ((9:Nat):Int)))=some (.ep [.v (.int .i64 (Jx 9 k4 k3:Int))]):=by kernel_rfl
theorem ix15_10 (k4 k3:Nat):Cm Tryz.prog 88 (.sl 1 0 1 (N9 k4 k3)) (.v (.int .i64 ((10:Nat):Int)))=some (.ep [.v (.int .i64 (Jx 10 k4 k3:Int))]):=by kernel_rfl
theorem ix15_11 (k4 k3:Nat):Cm Tryz.prog 88 (.sl 1 0 1 (N9 k4 k3)) (.v (.int .i64 ((11:Nat):Int)))=some (.ep [.v (.int .i64 (Jx 11 k4 k3:Int))]):=by kernel_rfl
theorem ix15_12 (k4 k3:Nat):Cm Tryz.prog 88 (.sl 1 0 1 (N9 k4 k3)) (.v (.int .i64 ((12:Nat):Int)))=some (.ep [.v (.int .i64 (Jx 12 k4 k3:Int))]):=by kernel_rfl
theorem ix15_13 (k4 k3:Nat):Cm Tryz.prog 88 (.sl 1 0 1 (N9 k4 k3)) (.v (.int .i64 ((13:Nat):Int)))=some (.ep [.v (.int .i64 (Jx 13 k4 k3:Int))]):=by kernel_rfl
theorem ix15_14 (k4 k3:Nat):Cm Tryz.prog 88 (.sl 1 0 1 (N9 k4 k3)) (.v (.int .i64 ((14:Nat):Int)))=some (.ep [.v (.int .i64 (Jx 14 k4 k3:Int))]):=by kernel_rfl
theorem ix15 (K k4 k3:Nat) (h:K < 15):Cm Tryz.prog 88 (.sl 1 0 1 (N9 k4 k3)) (.v (.int .i64 (K:Int)))=some (.ep [.v (.int .i64 (Jx K k4 k3:Int))]):=by
 match K,h with
 | 0,_=>exact ix15_0 k4 k3
 | 1,_=>exact ix15_1 k4 k3
 | 2,_=>exact ix15_2 k4 k3
 | 3,_=>exact ix15_3 k4 k3
 | 4,_=>exact ix15_4 k4 k3
 | 5,_=>exact ix15_5 k4 k3
 | 6,_=>exact ix15_6 k4 k3
 | 7,_=>exact ix15_7 k4 k3
 | 8,_=>exact ix15_8 k4 k3
 | 9,_=>exact ix15_9 k4 k3
 | 10,_=>exact ix15_10 k4 k3
 | 11,_=>exact ix15_11 k4 k3
 | 12,_=>exact ix15_12 k4 k3
 | 13,_=>exact ix15_13 k4 k3
 | 14,_=>exact ix15_14 k4 k3
 | k + 15,h=>exact absurd h (by omega)
def Hk (k:Nat):List UInt8:=match k with
 | 0=>[120]
 | 1=>[121]
 | 2=>[122]
 | 3=>[98]
 | 4=>[99]
 | 5=>[117]
 | 6=>[102]
 | 7=>[103]
 | 8=>[104]
 | _=>[120]
theorem ixNm_0:Cm Tryz.prog 69 (.sl 1 0 1 [Bp [120],Bp [121],Bp [122],Bp [98],Bp [99],Bp [117],Bp [102],Bp [103],Bp [104]]) (.v (.int .i64 ((0:Nat):Int)))=some (.ep [Bp (Hk 0)]):=by kernel_rfl
theorem ixNm_1:Cm Tryz.prog 69 (.sl 1 0 1 [Bp [120],Bp [121],Bp [122],Bp [98],Bp [99],Bp [117],Bp [102],Bp [103],Bp [104]]) (.v (.int .i64 ((1:Nat):Int)))=some (.ep [Bp (Hk 1)]):=by kernel_rfl
theorem ixNm_2:Cm Tryz.prog 69 (.sl 1 0 1 [Bp [120],Bp [121],Bp [122],Bp [98],Bp [99],Bp [117],Bp [102],Bp [103],Bp [104]]) (.v (.int .i64 ((2:Nat):Int)))=some (.ep [Bp (Hk 2)]):=by kernel_rfl
theorem ixNm_3:Cm Tryz.prog 69 (.sl 1 0 1 [Bp [120],Bp [121],Bp [122],Bp [98],Bp [99],Bp [117],Bp [102],Bp [103],Bp [104]]) (.v (.int .i64 ((3:Nat):Int)))=some (.ep [Bp (Hk 3)]):=by kernel_rfl
theorem ixNm_4:Cm Tryz.prog 69 (.sl 1 0 1 [Bp [120],Bp [121],Bp [122],Bp [98],Bp [99],Bp [117],Bp [102],Bp [103],Bp [104]]) (.v (.int .i64 ((4:Nat):Int)))=some (.ep [Bp (Hk 4)]):=by kernel_rfl
theorem ixNm_5:Cm Tryz.prog 69 (.sl 1 0 1 [Bp [120],Bp [121],Bp [122],Bp [98],Bp [99],Bp [117],Bp [102],Bp [103],Bp [104]]) (.v (.int .i64 ((5:Nat):Int)))=some (.ep [Bp (Hk 5)]):=by kernel_rfl
theorem ixNm_6:Cm Tryz.prog 69 (.sl 1 0 1 [Bp [120],Bp [121],Bp [122],Bp [98],Bp [99],Bp [117],Bp [102],Bp [103],Bp [104]]) (.v (.int .i64 ((6:Nat):Int)))=some (.ep [Bp (Hk 6)]):=by kernel_rfl
theorem ixNm_7:Cm Tryz.prog 69 (.sl 1 0 1 [Bp [120],Bp [121],Bp [122],Bp [98],Bp [99],Bp [117],Bp [102],Bp [103],Bp [104]]) (.v (.int .i64 ((7:Nat):Int)))=some (.ep [Bp (Hk 7)]):=by kernel_rfl
theorem ixNm_8:Cm Tryz.prog 69 (.sl 1 0 1 [Bp [120],Bp [121],Bp [122],Bp [98],Bp [99],Bp [117],Bp [102],Bp [103],Bp [104]]) (.v (.int .i64 ((8:Nat):Int)))=some (.ep [Bp (Hk 8)]):=by kernel_rfl
theorem ixNm (k:Nat) (h:k < 9):Cm Tryz.prog 69 (.sl 1 0 1 [Bp [120],Bp [121],Bp [122],Bp [98],Bp [99],Bp [117],Bp [102],Bp [103],Bp [104]]) (.v (.int .i64 (k:Int)))=some (.ep [Bp (Hk k)]):=by
 match k,h with
 | 0,_=>exact ixNm_0
 | 1,_=>exact ixNm_1
 | 2,_=>exact ixNm_2
 | 3,_=>exact ixNm_3
 | 4,_=>exact ixNm_4
 | 5,_=>exact ixNm_5
 | 6,_=>exact ixNm_6
 | 7,_=>exact ixNm_7
 | 8,_=>exact ixNm_8
 | k + 9,h=>exact absurd h (by omega)
theorem Qu (k:Nat):Ox (Hk k):=by
 unfold Hk
 split <;> exact ⟨by decide,⟨_,[],rfl,by decide,by simp⟩,by decide⟩
def Jj (k:Nat):List UInt8:=match k with
 | 0=>[43]
 | 1=>[45]
 | 2=>[42]
 | 3=>[47]
 | 4=>[109,111,100]
 | 5=>[60]
 | 6=>[60,61]
 | 7=>[62]
 | 8=>[62,61]
 | 9=>[61]
 | 10=>[60,62]
 | 11=>[97,110,100]
 | 12=>[111,114]
 | 13=>[120,111,114]
 | _=>[43]
theorem bs14:Dv Tryz.prog 69 14 [(0,.v (.string ⟨⟨[43]⟩⟩)),(1,.v (.string ⟨⟨[45]⟩⟩)),(2,.v (.string ⟨⟨[42]⟩⟩)),(3,.v (.string ⟨⟨[47]⟩⟩)),(4,.v (.string ⟨⟨[109,111,100]⟩⟩)),(5,.v (.string ⟨⟨[60]⟩⟩)),(6,.v (.string ⟨⟨[60,61]⟩⟩)),(7,.v (.string ⟨⟨[62]⟩⟩)),(8,.v (.string ⟨⟨[62,61]⟩⟩)),(9,.v (.string ⟨⟨[61]⟩⟩)),(10,.v (.string ⟨⟨[60,62]⟩⟩)),(11,.v (.string ⟨⟨[97,110,100]⟩⟩)),(12,.v (.string ⟨⟨[111,114]⟩⟩)),(13,.v (.string ⟨⟨[120,111,114]⟩⟩))]=some (.sl 1 0 1 [Bp [43],Bp [45],Bp [42],Bp [47],Bp [109,111,100],Bp [60],Bp [60,61],Bp [62],Bp [62,61],Bp [61],Bp [60,62],Bp [97,110,100],Bp [111,114],Bp [120,111,114]]):=by kernel_rfl
theorem ix14_0:Cm Tryz.prog 69 (.sl 1 0 1 [Bp [43],Bp [45],Bp [42],Bp [47],Bp [109,111,100],Bp [60],Bp [60,61],Bp [62],Bp [62,61],Bp [61],Bp [60,62],Bp [97,110,100],Bp [111,114],Bp [120,111,114]]) (.v (.int .i64 ((0:Nat):Int)))=some (.ep [Bp (Jj 0)]):=by kernel_rfl
theorem ix14_1:Cm Tryz.prog 69 (.sl 1 0 1 [Bp [43],Bp [45],Bp [42],Bp [47],Bp [109,111,100],Bp [60],Bp [60,61],Bp [62],Bp [62,61],Bp [61],Bp [60,62],Bp [97,110,100],Bp [111,114],Bp [120,111,114]]) (.v (.int .i64 ((1:Nat):Int)))=some (.ep [Bp (Jj 1)]):=by kernel_rfl
theorem ix14_2:Cm Tryz.prog 69 (.sl 1 0 1 [Bp [43],Bp [45],Bp [42],Bp [47],Bp [109,111,100],Bp [60],Bp [60,61],Bp [62],Bp [62,61],Bp [61],Bp [60,62],Bp [97,110,100],Bp [111,114],Bp [120,111,114]]) (.v (.int .i64 ((2:Nat):Int)))=some (.ep [Bp (Jj 2)]):=by kernel_rfl
theorem ix14_3:Cm Tryz.prog 69 (.sl 1 0 1 [Bp [43],Bp [45],Bp [42],Bp [47],Bp [109,111,100],Bp [60],Bp [60,61],Bp [62],Bp [62,61],Bp [61],Bp [60,62],Bp [97,110,100],Bp [111,114],Bp [120,111,114]]) (.v (.int .i64 ((3:Nat):Int)))=some (.ep [Bp (Jj 3)]):=by kernel_rfl
theorem ix14_4:Cm Tryz.prog 69 (.sl 1 0 1 [Bp [43],Bp [45],Bp [42],Bp [47],Bp [109,111,100],Bp [60],Bp [60,61],Bp [62],Bp [62,61],Bp [61],Bp [60,62],Bp [97,110,100],Bp [111,114],Bp [120,111,114]]) (.v (.int .i64 ((4:Nat):Int)))=some (.ep [Bp (Jj 4)]):=by kernel_rfl
theorem ix14_5:Cm Tryz.prog 69 (.sl 1 0 1 [Bp [43],Bp [45],Bp [42],Bp [47],Bp [109,111,100],Bp [60],Bp [60,61],Bp [62],Bp [62,61],Bp [61],Bp [60,62],Bp [97,110,100],Bp [111,114],Bp [120,111,114]]) (.v (.int .i64 ((5:Nat):Int)))=some (.ep [Bp (Jj 5)]):=by kernel_rfl
theorem ix14_6:Cm Tryz.prog 69 (.sl 1 0 1 [Bp [43],Bp [45],Bp [42],Bp [47],Bp [109,111,100],Bp [60],Bp [60,61],Bp [62],Bp [62,61],Bp [61],Bp [60,62],Bp [97,110,100],Bp [111,114],Bp [120,111,114]]) (.v (.int .i64 ((6:Nat):Int)))=some (.ep [Bp (Jj 6)]):=by kernel_rfl
theorem ix14_7:Cm Tryz.prog 69 (.sl 1 0 1 [Bp [43],Bp [45],Bp [42],Bp [47],Bp [109,111,100],Bp [60],Bp [60,61],Bp [62],Bp [62,61],Bp [61],Bp [60,62],Bp [97,110,100],Bp [111,114],Bp [120,111,114]]) (.v (.int .i64 ((7:Nat):Int)))=some (.ep [Bp (Jj 7)]):=by kernel_rfl
theorem ix14_8:Cm Tryz.prog 69 (.sl 1 0 1 [Bp [43],Bp [45],Bp [42],Bp [47],Bp [109,111,100],Bp [60],Bp [60,61],Bp [62],Bp [62,61],Bp [61],Bp [60,62],Bp [97,110,100],Bp [111,114],Bp [120,111,114]]) (.v (.int .i64 ((8:Nat):Int)))=some (.ep [Bp (Jj 8)]):=by kernel_rfl
theorem ix14_9:Cm Tryz.prog 69 (.sl 1 0 1 [Bp [43],Bp [45],Bp [42],Bp [47],Bp [109,111,100],Bp [60],Bp [60,61],Bp [62],Bp [62,61],Bp [61],Bp [60,62],Bp [97,110,100],Bp [111,114],Bp [120,111,114]]) (.v (.int .i64 ((9:Nat):Int)))=some (.ep [Bp (Jj 9)]):=by kernel_rfl
theorem ix14_10:Cm Tryz.prog 69 (.sl 1 0 1 [Bp [43],Bp [45],Bp [42],Bp [47],Bp [109,111,100],Bp [60],Bp [60,61],Bp [62],Bp [62,61],Bp [61],Bp [60,62],Bp [97,110,100],Bp [111,114],Bp [120,111,114]]) (.v (.int .i64 ((10:Nat):Int)))=some (.ep [Bp (Jj 10)]):=by kernel_rfl
theorem ix14_11:Cm Tryz.prog 69 (.sl 1 0 1 [Bp [43],Bp [45],Bp [42],Bp [47],Bp [109,111,100],Bp [60],Bp [60,61],Bp [62],Bp [62,61],Bp [61],Bp [60,62],Bp [97,110,100],Bp [111,114],Bp [120,111,114]]) (.v (.int .i64 ((11:Nat):Int)))=some (.ep [Bp (Jj 11)]):=by kernel_rfl
theorem ix14_12:Cm Tryz.prog 69 (.sl 1 0 1 [Bp [43],Bp [45],Bp [42],Bp [47],Bp [109,111,100],Bp [60],Bp [60,61],Bp [62],Bp [62,61],Bp [61],Bp [60,62],Bp [97,110,100],Bp [111,114],Bp [120,111,114]]) (.v (.int .i64 ((12:Nat):Int)))=some (.ep [Bp (Jj 12)]):=by kernel_rfl
theorem ix14_13:Cm Tryz.prog 69 (.sl 1 0 1 [Bp [43],Bp [45],Bp [42],Bp [47],Bp [109,111,100],Bp [60],Bp [60,61],Bp [62],Bp [62,61],Bp [61],Bp [60,62],Bp [97,110,100],Bp [111,114],Bp [120,111,114]]) (.v (.int .i64 ((13:Nat):Int)))=some (.ep [Bp (Jj 13)]):=by kernel_rfl
theorem ix14 (k:Nat) (h:k < 14):Cm Tryz.prog 69 (.sl 1 0 1 [Bp [43],Bp [45],Bp [42],Bp [47],Bp [109,111,100],Bp [60],Bp [60,61],Bp [62],Bp [62,61],Bp [61],Bp [60,62],Bp [97,110,100],Bp [111,114],Bp [120,111,114]]) (.v (.int .i64 (k:Int)))=some (.ep [Bp (Jj k)]):=by
 match k,h with
 | 0,_=>exact ix14_0
 | 1,_=>exact ix14_1
 | 2,_=>exact ix14_2
 | 3,_=>exact ix14_3
 | 4,_=>exact ix14_4
 | 5,_=>exact ix14_5
 | 6,_=>exact ix14_6
 | 7,_=>exact ix14_7
 | 8,_=>exact ix14_8
 | 9,_=>exact ix14_9
 | 10,_=>exact ix14_10
 | 11,_=>exact ix14_11
 | 12,_=>exact ix14_12
 | 13,_=>exact ix14_13
 | k + 14,h=>exact absurd h (by omega)
theorem signV_ok (k:Nat):Jj k ∈ Ep 2 ∨ Jj k ∈ Ep 3 ∨ Jj k ∈ Ep 5 ∨ Jj k ∈ Ep 6 ∨ Jj k ∈ Ep 7:=by
 unfold Jj
 split <;> decide
theorem signV_len (k:Nat):(Jj k).length ≤ 30:=by
 unfold Jj
 split <;> decide
theorem ld9ep (S:St) (a:AV) (r:List AV):C3 Tryz.prog S 9 (.ep (a :: r))=some a:=by
 have:Fm Tryz.prog 9=some false:=by kernel_rfl
 simp [C3,Dr,this]
theorem needV_le {K k4 k3:Nat} (h4:k4 < 4) (h3:k3 < 3):Jx K k4 k3 ≤ 3:=by
 unfold Jx; split <;> omega
theorem needV_0 {K k4 k3:Nat} (h:K ≤ 3):Jx K k4 k3=0:=by
 match K,h with
 | 0,_=>rfl
 | 1,_=>rfl
 | 2,_=>rfl
 | 3,_=>rfl
set_option maxHeartbeats 16000000 in
theorem sm3_w {S0:St} {p q o lo d pos:Nat} {rk ra rn:Int} {rs:ByteArray} {rb:Bool} {kv:AV} {t:T AV} {S:St} {Q:O → Prop} {K:Nat} (hK:1 ≤ K ∧ K ≤ 14) (hd:d ≤ 1000) (hf:FrS p q o (d:Int) t) (hm:Mem3 S0 p q o lo (L8 rk ra rn rs rb kv) (exC K pos 0 [] false .nils) S)
  (hQ:∀ (t':T AV) (K:Nat) (S':St),FrS p q o (d:Int) t' → 1 ≤ K ∧ K ≤ 14 → (2 ≤ d ∨ K ≤ 3) → Mem3 S0 p q o lo (L8 rk ra rn rs rb kv) (exC K pos 0 [] false .nils) S' → Q (.out .normal ⟨t',[]⟩ S')):W E8 157 sm3 ⟨t,[]⟩ S Q:=by
 obtain ⟨fn1,hf38⟩:=Yo
 have h1:=hf.t1
 have h2:=hf.t2
 have h6:=hf.t6
 have mp:=hm.mp
 by_cases hd1:d ≤ 1
 ·have hlt:((d:Int) ≤ 1):=by omega
  simp only [Br,A6,Bl,Bq,A4,Bh,A7,Bj,Cb,Bi,Ci,A5,Bc,Ba,A0,Bo,B5,ofOpt,Bb,Bv,Ej,Nat.reduceLT,Nat.reduceEqDiff,Aa,Ab,Ac,Aj,Ak,Am,Ap,D6,sm3,Tryz.f13,h1,h2,mp,hlt,hf38,L9,Es,yN,Eh]
  refine WC.mono (dF rk 3 (by decide) (by decide) S) ?_
  rintro _ ⟨k,rfl,hk⟩
  have hw:IntKind.i64.wrap (1 + (k:Int))=((1 + k:Nat):Int):=by rw [Kq _ (by omega)]; omega
  have q1:=Oq szc3 S o 0 (.v (.int .i64 ((1 + k:Nat):Int))) _ rfl hm.mo (show 0 < 6 by decide)
  have q1:C7 Tryz.prog S 3 (.ptr o 0) (.v (.int .i64 ((1 + k:Nat):Int)))=some (S.put o (exC (1 + k) pos 0 [] false .nils)):=q1
  simp only [Bh,A7,Bj,Eb,En,Bi,Cz,A5,Bc,Ba,A0,ofOpt,Bb,Bv,Dl,Nat.reduceLT,Nat.reduceEqDiff,Aa,Ab,Ac,Am,D6,h6,hw,q1,Eh]
  refine hQ _ (1 + k) _ (hf.same ?_ ?_ ?_ ?_) (by omega) (by omega) (hm.o_put _) <;> simp only [A0,Nat.reduceEqDiff,Aa,Ab]
 ·have hlt:¬ ((d:Int) ≤ 1):=by omega
  simp only [Br,A6,Bl,Bq,A4,Bh,A7,Bj,Bi,Cg,A5,Bc,Ba,A0,ofOpt,Bb,Bv,Ej,Nat.reduceLT,Nat.reduceEqDiff,Aa,Ab,Ac,Am,Aq,D6,sm3,Tryz.f13,h1,hlt]
  refine hQ _ K _ (hf.same ?_ ?_ ?_ ?_) hK (by omega) hm <;> simp only [A0,Nat.reduceEqDiff,Aa,Ab]
set_option maxHeartbeats 16000000 in
theorem sm5_w {S0:St} {p q o lo d pos:Nat} {rk ra rn:Int} {rs:ByteArray} {rb:Bool} {kv:AV} {t:T AV} {S:St} {Q:O → Prop} {K:Nat} {n:Int} {name:List UInt8} {off:Bool} (hK:1 ≤ K ∧ K ≤ 14) (hf:FrS p q o (d:Int) t) (hm:Mem3 S0 p q o lo (L8 rk ra rn rs rb kv) (exC K pos n name off .nils) S)
  (hQ:∀ (t':T AV) (k4 k3:Nat),k4 < 4 → k3 < 3 → FrS p q o (d:Int) t' → t'.get 7=some (D0 (Jx K k4 k3)) → Q (.out .normal ⟨t',[]⟩ S)):W E8 157 sm5 ⟨t,[]⟩ S Q:=by
 obtain ⟨fn1,hf38⟩:=Yo
 have h2:=hf.t2
 have h6:=hf.t6
 have mp:=hm.mp
 have mo:=hm.mo
 simp only [Ch,sm5,Tryz.f13]
 refine G4 [(0,true),(1,true),(3,true),(4,true),(7,true),(8,true),(2,true),(8,false),(4,false),(5,true),(8,false),(6,true),(9,true),(10,true),(11,true)] (by kernel_rfl) (by kernel_rfl) ?_
 simp only [A5,Bc,Ba,A0,Bo,B5,ofOpt,Bb,Nat.reduceLT,Nat.reduceEqDiff,Aa,Ab,Ac,Af,Ag,Ah,Aj,Ak,Am,D6,h2,h6,mp,mo,hf38,L9,Es,Sv,Ps,Eh,Vp,Dj,C0,Df,Cn,Gu]
 refine WC.mono (dF ra 4 (by decide) (by decide) S) ?_
 rintro _ ⟨k4,rfl,hk4⟩
 simp only [A5,Bc,Ba,A0,Bo,B5,ofOpt,Bb,Nat.reduceLT,Nat.reduceEqDiff,Aa,Ab,Ac,Aj,Ak,D6,mp,mo,hf38,L9,Es,Sv,Ps,Dj,Gn,Df,Cn,Du,Dy,Ed,Mt]
 refine WC.mono (dF ra 3 (by decide) (by decide) S) ?_
 rintro _ ⟨k3,rfl,hk3⟩
 have hb:=bs15 k4 k3
 have hx:=ix15 K k4 k3 (by omega)
 simp only [A5,Bc,Ba,A0,ofOpt,Bb,Bu,Nat.reduceLT,Nat.reduceEqDiff,Aa,Ab,Ac,D6,mo,hb,hx,Jz,L9,Es,Ps,Ew,Dj,Gn,C0,Cn,Du,D9,Dy,Ed,Mt]
 refine hQ _ k4 k3 (by omega) (by omega) (hf.same ?_ ?_ ?_ ?_) ?_ <;> simp only [A0,Nat.reduceEqDiff,Aa,Ab]
 rfl
set_option maxHeartbeats 16000000 in
theorem sm6_w {S0:St} {p q o lo d pos:Nat} {rk ra rn:Int} {rs:ByteArray} {rb:Bool} {kv:AV} {t:T AV} {S:St} {Q:O → Prop} {xs:List AV} (hf:FrS p q o (d:Int) t) (hm:Mem3 S0 p q o lo (L8 rk ra rn rs rb kv) xs S)
  (hQ:∀ (t':T AV) (k:Nat),FrS p q o (d:Int) t' → t'.get 7=t.get 7 → t'.get 8=some (Bp (Hk k)) → Q (.out .normal ⟨t',[]⟩ S)):W E8 157 sm6 ⟨t,[]⟩ S Q:=by
 obtain ⟨fn1,hf38⟩:=Yo
 obtain ⟨fn2,hf39⟩:=fn8_39
 have h2:=hf.t2
 have mp:=hm.mp
 simp only [Ch,sm6,Tryz.f13]
 refine G4 [(1,true),(2,true),(0,true),(2,false),(3,true),(4,true),(5,true),(6,true)] (by kernel_rfl) (by kernel_rfl) ?_
 simp only [A5,Bc,Ba,A0,Bo,B5,ofOpt,Nat.reduceLT,Aa,Ab,Ac,Af,Ag,Ah,Ak,Am,D6,h2,mp,hf39,L9,Es,Sv,Vp,Dj,C0,Df,Cn,Gu]
 refine WC.mono (names_w S) ?_
 rintro _ rfl
 simp only [A5,Bc,Ba,A0,Bo,B5,ofOpt,Bb,Nat.reduceLT,Nat.reduceEqDiff,Aa,Ab,Ac,Aj,Ak,D6,mp,hf38,L9,Es,Sv,Dj,Gn,Df,Cn,Du,Dy,Ed,Mt]
 refine WC.mono (dF ra 9 (by decide) (by decide) S) ?_
 rintro _ ⟨k,rfl,hk⟩
 have hx:=ixNm k hk
 simp only [A5,Bc,Ba,A0,ofOpt,Nat.reduceLT,Nat.reduceEqDiff,Aa,Ab,Ac,D6,hx,ld9ep,Ew,Dj,C0,Cn,Du,D9]
 refine hQ _ k (hf.same ?_ ?_ ?_ ?_) ?_ ?_ <;> simp only [A0,Nat.reduceEqDiff,Aa,Ab]
end Go.Ax
