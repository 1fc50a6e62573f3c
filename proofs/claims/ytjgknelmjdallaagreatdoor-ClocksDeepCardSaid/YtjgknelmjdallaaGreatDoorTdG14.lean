/- Pc -/
import Derived.Test.YtjgknelmjdallaaGreatDoorTdG13
set_option linter.unusedVariables false
set_option linter.unusedSimpArgs false
set_option maxHeartbeats 16000000
noncomputable section
namespace Go.Ax
open Go.RowKit Go.Proofs
set_option maxRecDepth 100000
inductive PE where
 | mk (kind pos:Nat) (n:Int) (name:List UInt8) (off:Bool) (kids:List PE)
mutual
inductive RepE:AV → PE → Prop where
 | mk (kind pos:Nat) (n:Int) (name:List UInt8) (off:Bool) (kv:AV) (kids:List PE) (h:RepK kv kids):RepE (.agg (exC kind pos n name off kv)) (.mk kind pos n name off kids)
inductive RepK:AV → List PE → Prop where
 | nil:RepK .nils []
 | row (tok off:Nat) (es:List AV) (kids:List PE) (h:RepF es kids):RepK (.sl tok off 6 es) kids
inductive RepF:List AV → List PE → Prop where
 | nil:RepF [] []
 | cons (a:AV) (e:PE) (r:List AV) (l:List PE) (h:RepE a e) (h2:RepF r l):RepF (a :: r) (e :: l)
end
theorem RepE.agg {a:AV} {e:PE} (h:RepE a e):∃ xs,a=.agg xs ∧ xs.length=6:=by
 cases h with
 | mk kind pos n name off kv kids h=>exact ⟨_,rfl,rfl⟩
theorem RepK.kids {a:AV} {l:List PE} (h:RepK a l):sU a:=by
 cases h with
 | nil=>exact .inl rfl
 | row tok off es kids h=>exact .inr ⟨_,_,_,rfl⟩
inductive PR (α:Type) where
 | ok (a:α) (i:Nat)
 | bad (a e:Nat)
 | out
def PR.bind {α β:Type} (x:PR α) (f:α → Nat → PR β):PR β:=match x with
 | .ok a i=>f a i
 | .bad a e=>.bad a e
 | .out=>.out
def Re {α:Type} (p k:Nat) (ts:List Tk) (S:St) (Rep:AV → α → Prop) (x:PR α) (r:R):Prop:=match x with
 | .ok a j=>∃ v S',r=.ret v S' ∧ Rep v a ∧ D7 p S S' ∧ Cur S' p k ts j ∧ j < ts.length
 | .bad a e=>∃ S',r=.pan (Zm a e) S' ∧ D7 p S S'
 | .out=>False
structure TokOk (ts:List Tk):Prop where
 more:∀ j (h:j < ts.length),ts[j].kind ≠ 5 → j + 1 < ts.length
 fin:∀ j (h:j < ts.length),ts[j].kind=5 → ts[j].text=[]
 size:ts.length ≤ 1000000
theorem TokOk.next {ts:List Tk} (h:TokOk ts) {j:Nat} (hj:j < ts.length) (ht:ts[j].text ≠ []):j + 1 < ts.length:=h.more j hj (fun e=>ht (h.fin j hj e))
def Ni (ts:List Tk) (i:Nat):PR PE:=match ts[i]? with
 | none=>.out
 | some t=>if t.text=[45] then (match ts[i + 1]? with
   | none=>.out
   | some u=>if u.kind=2 then .ok (.mk 1 t.pos (IntKind.i64.wrap (0 - IntKind.i64.wrap u.num)) [] false []) (i + 2) else .bad u.pos (Ia u))
  else if t.kind=2 then (if 9223372036854775807 < t.num then .bad t.pos 3 else .ok (.mk 1 t.pos (IntKind.i64.wrap t.num) [] false []) (i + 1)) else .bad t.pos (Ia t)
theorem Lh {p:Nat} (S:St) (cs:List AV):D7 p S (S.newBox cs):=(Cz S cs).x p
theorem Jw {p:Nat} {S S':St} (h:D7 p S S') {b:Nat} (hb:S.next ≤ b) (cs:List AV):D7 p S (S'.put b cs):=⟨h.1,fun id hid hn=>(Eg (by omega)).trans (h.2 id hid hn)⟩
theorem Cur.new {S:St} {p k i:Nat} {ts:List Tk} (h:Cur S p k ts i) (hp:p < S.next) (cs:List AV):Cur (S.newBox cs) p k ts i:=(Fy hp).trans h
theorem Cur.put {S:St} {p k i:Nat} {ts:List Tk} (h:Cur S p k ts i) {b:Nat} (hb:p ≠ b) (cs:List AV):Cur (S.put b cs) p k ts i:=(Eg hb).trans h
theorem b30n (k a n:Int):Gc Tryz.prog 30 [(0,.v (.int .i64 k)),(1,.v (.int .i64 a)),(2,.v (.int .i64 n))]=some (.agg [.v (.int .i64 k),.v (.int .i64 a),.v (.int .i64 n),Bt [],.v (.bool false),.nils]):=rfl
theorem ld66 {S:St} {id:Nat} {t:Tk} (h:S.mem.get id=some (.box (El t))):Cd Tryz.prog S 66 (.ptr id 3)=some (.v (.int .u64 (t.num:Int))):=by
 have a66:Fo Tryz.prog 66=some false:=by kernel_rfl
 simp [Cd,D0,h,a66,El,W9]
theorem Lj:∃ fn,E1.F 79=some fn:=Option.isSome_iff_exists.1 (by kernel_rfl)
theorem R2:∃ fn,E1.F 124=some fn:=Option.isSome_iff_exists.1 (by kernel_rfl)
theorem Qa:∃ fn,E1.F 81=some fn:=Option.isSome_iff_exists.1 (by kernel_rfl)
theorem eX (S:St) (t:Tk):Dt Tryz.prog (S.newBox (El Ea)) 68 (.ptr S.next 0) (Ga t)=some ((S.newBox (El Ea)).put S.next (El t)):=Pc S (El Ea) (El t) rfl rfl
theorem number_p (S:St) (p k:Nat) (ts:List Tk) (i:Nat) (h:Cur S p k ts i) (hp:p < S.next) (hi:i < ts.length) (hts:TokOk ts):WC E1 212 [.ptr p 0] S (Re p k ts S RepE (Ni ts i)):=by
 refine Dv Tryz.f212 (by kernel_rfl) (by kernel_rfl) (by kernel_rfl) (by show (_:Nat) ≤ _;simp [Tryz.f212]) ?_
 obtain ⟨fn1,hf1⟩:=Lj
 obtain ⟨fn2,hf2⟩:=R2
 have hti:ts[i]? = some ts[i]:=List.getElem?_eq_getElem hi
 have h1:=h.new hp exZ
 have k1:D7 p S (S.newBox exZ):=Lh S exZ
 have hp1:p < (S.newBox exZ).next:=Nat.lt_succ_of_lt hp
 have tail:∀ (S2:St) (neg:Bool) (t:Tk) (j:Nat),D7 p (S.newBox exZ) S2 → Cur S2 p k ts j → (hj:j < ts.length) → True:=fun _ _ _ _ _ _ _=>trivial
 unfold Ni
 rw [hti]
 simp only
 by_cases hm:ts[i].text=[45]
 ·have hi1:i + 1 < ts.length:=hts.next hi (by rw [hm]; simp)
  have hti1:ts[i + 1]? = some ts[i + 1]:=List.getElem?_eq_getElem hi1
  rw [if_pos hm,hti1]
  simp only
  simp only [A6,Bk,Bj,Ch,A7,Bf,Bh,Bd,A5,Bc,Ba,Ce,A0,A1,Bm,B5,ofOpt,ofOptS,Bb,Cp,Bz,Nat.reduceLT,Nat.reduceEqDiff,Aa,Ab,Ac,Ae,Aj,Ak,Tryz.f212,Gu,fp0,Ec,hf1]
  refine WC.mono (take_yes (S.newBox exZ) p k ts i h1 hp1 hi hts.size 1 0 [[45]] (by decide) (by rw [hm]; simp)) ?_
  rintro _ ⟨S2,rfl,hx,hc⟩
  have n2:S.next < S2.next:=hx.1
  have q1:=eX S2 ts[i]
  generalize hS3:(S2.newBox (El Ea)).put S2.next (El ts[i])=S3 at q1
  have n3:S3.next=S2.next + 1:=by rw [← hS3]; rfl
  have x3:D7 p S2 S3:=by rw [← hS3]; exact Jw (Lh _ _) (Nat.le_refl _) _
  have g3:S3.mem.get S2.next=some (.box (El ts[i])):=by rw [← hS3]; exact Ed _ _ _
  have c3:Cur S3 p k ts (i + 1):=by rw [← hS3]; exact (hc.new (by omega) _).put (by omega) _
  simp only [A6,Bk,Bj,Ch,A7,Bf,Br,Bh,Bu,Bd,Bp,A5,Bc,Ba,A0,A1,Bm,B5,ofOpt,ofOptS,Bb,Cp,Nat.reduceLT,Nat.reduceEqDiff,Aa,Ab,Ac,Ag,Ah,Aj,Ak,Cw,G9,q1,fp0,hf2]
  by_cases hk:ts[i + 1].kind=2
  ·rw [if_pos hk]
   refine WC.mono (qH S3 p k ts (i + 1) c3 (by omega) hi1 hts.size 2 hk) ?_
   rintro _ ⟨S4,rfl,hx4,hc4⟩
   have q2:=eX S4 ts[i + 1]
   generalize hS5:(S4.newBox (El Ea)).put S4.next (El ts[i + 1])=S5 at q2
   have n4:=hx4.1
   have n5:S5.next=S4.next + 1:=by rw [← hS5]; rfl
   have x5:D7 p S4 S5:=by rw [← hS5]; exact Jw (Lh _ _) (Nat.le_refl _) _
   have g5:S5.mem.get S4.next=some (.box (El ts[i + 1])):=by rw [← hS5]; exact Ed _ _ _
   have c5:Cur S5 p k ts (i + 1 + 1):=by rw [← hS5]; exact (hc4.new (by omega) _).put (by omega) _
   have g3':S5.mem.get S2.next=some (.box (El ts[i])):=(x5.2 _ (by omega) (by omega)).trans ((hx4.2 _ (by omega) (by omega)).trans g3)
   have g2':S5.mem.get S.next=some (.box exZ):=(x5.2 _ (by omega) (by omega)).trans ((hx4.2 _ (by omega) (by omega)).trans ((x3.2 _ (by omega) (by omega)).trans ((hx.2 _ (Nat.lt_succ_self _) (by omega)).trans (Cv S _))))
   have l1:=ld3b g3'
   have l2:=ld66 g5
   have q3:=Xa g2' rfl (show ([.v (.int .i64 1),.v (.int .i64 (ts[i].pos:Int)),.v (.int .i64 (IntKind.i64.wrap (0 - IntKind.i64.wrap (ts[i + 1].num:Int)))),Bt [],.v (.bool false),.nils]:List AV).length=6 from rfl)
   have l3:=ld30 (Ed S5 S.next [.v (.int .i64 1),.v (.int .i64 (ts[i].pos:Int)),.v (.int .i64 (IntKind.i64.wrap (0 - IntKind.i64.wrap (ts[i + 1].num:Int)))),Bt [],.v (.bool false),.nils]) rfl
   simp only [Bo,A6,Bk,Bl,B1,Bj,Dd,Ch,A7,Bf,Br,Bu,Bd,Bp,De,A5,Bc,Ba,A0,A1,ofOpt,ofOptS,Bb,Cp,Fj,Bz,Bi,B0,Bg,Cs,D8,Nat.reduceLT,Nat.reduceEqDiff,Aa,Ab,Ac,G9,q2,fd1,fd3,l1,l2,xD,kB,convO_u,ground_neg,negO_i,b30n,q3,l3]
   have hi2:i + 2 < ts.length:=hts.more (i + 1) hi1 (by rw [hk]; decide)
   refine ⟨_,_,rfl,.mk 1 ts[i].pos _ [] false .nils [] .nil,?_,c5.put (by omega) _,hi2⟩
   exact Jw (k1.trans (hx.trans (x3.trans (hx4.trans x5)))) (Nat.le_refl _) _
  ·rw [if_neg hk]
   refine WC.mono (kind_no S3 p k ts (i + 1) c3 (by omega) hi1 2 hk) ?_
   rintro _ ⟨S4,rfl,hx4⟩
   simp only [Cl,Cq,Cg]
   exact ⟨_,rfl,k1.trans (hx.trans (x3.trans (hx4.x p)))⟩
 ·rw [if_neg hm]
  simp only [A6,Bk,Bj,Ch,A7,Bf,Bh,Bd,A5,Bc,Ba,Ce,A0,A1,Bm,B5,ofOpt,ofOptS,Bb,Cp,Bz,Nat.reduceLT,Nat.reduceEqDiff,Aa,Ab,Ac,Ae,Aj,Ak,Tryz.f212,Gu,fp0,Ec,hf1]
  refine WC.mono (take_no (S.newBox exZ) p k ts i h1 hp1 hi 1 0 [[45]] (by decide) (by simpa using hm)) ?_
  rintro _ ⟨S2,rfl,hk0⟩
  have hx:=hk0.x p
  have hc:=h1.keep hp1 hk0
  have n2:S.next < S2.next:=hx.1
  have q1:=eX S2 Ea
  generalize hS3:(S2.newBox (El Ea)).put S2.next (El Ea)=S3 at q1
  have n3:S3.next=S2.next + 1:=by rw [← hS3]; rfl
  have x3:D7 p S2 S3:=by rw [← hS3]; exact Jw (Lh _ _) (Nat.le_refl _) _
  have c3:Cur S3 p k ts i:=by rw [← hS3]; exact (hc.new (by omega) _).put (by omega) _
  simp only [A6,Bk,Bj,Ch,A7,Bf,Br,Bh,Bu,Bd,Bp,A5,Bc,Ba,A0,A1,Bm,B5,ofOpt,ofOptS,Bb,Cp,Nat.reduceLT,Nat.reduceEqDiff,Aa,Ab,Ac,Ag,Ah,Aj,Ak,Cw,G9,q1,fp0,hf2]
  by_cases hk:ts[i].kind=2
  ·rw [if_pos hk]
   refine WC.mono (qH S3 p k ts i c3 (by omega) hi hts.size 2 hk) ?_
   rintro _ ⟨S4,rfl,hx4,hc4⟩
   have q2:=eX S4 ts[i]
   generalize hS5:(S4.newBox (El Ea)).put S4.next (El ts[i])=S5 at q2
   have n4:=hx4.1
   have n5:S5.next=S4.next + 1:=by rw [← hS5]; rfl
   have x5:D7 p S4 S5:=by rw [← hS5]; exact Jw (Lh _ _) (Nat.le_refl _) _
   have g5:S5.mem.get S4.next=some (.box (El ts[i])):=by rw [← hS5]; exact Ed _ _ _
   have c5:Cur S5 p k ts (i + 1):=by rw [← hS5]; exact (hc4.new (by omega) _).put (by omega) _
   have g2':S5.mem.get S.next=some (.box exZ):=(x5.2 _ (by omega) (by omega)).trans ((hx4.2 _ (by omega) (by omega)).trans ((x3.2 _ (by omega) (by omega)).trans ((hx.2 _ (Nat.lt_succ_self _) (by omega)).trans (Cv S _))))
   have l1:=ld3b g5
   have l2:=ld66 g5
   by_cases hb:((ts[i].num:Nat):Int) > 9223372036854775807
   ·rw [if_pos (show 9223372036854775807 < ts[i].num by omega)]
    have m:T8 Tryz.prog 33 (.agg [.v (.int .i64 (ts[i].pos:Int)),.v (.int .i64 3)])=some (.iface 33 (.agg [.v (.int .i64 (ts[i].pos:Int)),.v (.int .i64 3)])):=mkI33 ts[i].pos 3
    simp only [Bo,A6,Bk,Bl,Bj,Cl,Ch,A7,Bf,Br,D5,Bu,Bd,Bp,De,C8,A5,Bc,Ba,A0,A1,ofOpt,ofOptS,Bb,Cp,Fj,Bz,Cg,D8,Nat.reduceLT,Nat.reduceEqDiff,Aa,Ab,Ac,Am,Ap,G9,q2,fd1,fd3,l1,l2,Tj,hb,xT,m]
    exact ⟨_,rfl,k1.trans (hx.trans (x3.trans (hx4.trans x5)))⟩
   ·rw [if_neg (show ¬ 9223372036854775807 < ts[i].num by omega)]
    have q3:=Xa g2' rfl (show ([.v (.int .i64 1),.v (.int .i64 (ts[i].pos:Int)),.v (.int .i64 (IntKind.i64.wrap (ts[i].num:Int))),Bt [],.v (.bool false),.nils]:List AV).length=6 from rfl)
    have l3:=ld30 (Ed S5 S.next [.v (.int .i64 1),.v (.int .i64 (ts[i].pos:Int)),.v (.int .i64 (IntKind.i64.wrap (ts[i].num:Int))),Bt [],.v (.bool false),.nils]) rfl
    simp only [Bo,A6,Bk,Bl,B1,Bj,Ch,A7,Bf,Br,Bu,Bd,Bp,C8,A5,Bc,Ba,A0,A1,ofOpt,ofOptS,Bb,Cp,Fj,Bz,Bi,B0,Bg,Cs,D8,Nat.reduceLT,Nat.reduceEqDiff,Aa,Ab,Ac,Am,Aq,G9,q2,fd1,fd3,l1,l2,Tj,hb,xD,kB,convO_u,b30n,q3,l3]
    have hi2:i + 1 < ts.length:=hts.more i hi (by rw [hk]; decide)
    refine ⟨_,_,rfl,.mk 1 ts[i].pos _ [] false .nils [] .nil,?_,c5.put (by omega) _,hi2⟩
    exact Jw (k1.trans (hx.trans (x3.trans (hx4.trans x5)))) (Nat.le_refl _) _
  ·rw [if_neg hk]
   refine WC.mono (kind_no S3 p k ts i c3 (by omega) hi 2 hk) ?_
   rintro _ ⟨S4,rfl,hx4⟩
   simp only [Cl,Cq,Cg]
   exact ⟨_,rfl,k1.trans (hx.trans (x3.trans (hx4.x p)))⟩
structure Has (p:Nat) (S:St) (id:Nat) (cs:List AV):Prop where
 get:S.mem.get id=some (.box cs)
 lt:id < S.next
 ne:id ≠ p
theorem Has.keep {p id:Nat} {S S':St} {cs:List AV} (h:Has p S id cs) (x:D7 p S S'):Has p S' id cs:=⟨(x.2 id h.lt h.ne).trans h.get,Nat.lt_of_lt_of_le h.lt x.1,h.ne⟩
def tk (ts:List Tk) (i:Nat):Tk:=(ts[i]?).getD Ea
theorem Nn {ts:List Tk} {i:Nat} (hi:i < ts.length):tk ts i=ts[i]:=by unfold tk; rw [List.getElem?_eq_getElem hi]; rfl
theorem Ks {S:St} {p k i:Nat} {ts:List Tk} (h:Cur S p k ts i) (hp:p < S.next):D7 p S (S.newBox exZ) ∧ Cur (S.newBox exZ) p k ts i ∧ Has p (S.newBox exZ) S.next exZ ∧ p < (S.newBox exZ).next :=
 ⟨Lh S exZ,h.new hp exZ,⟨Cv S _,Nat.lt_succ_self _,by omega⟩,Nat.lt_succ_of_lt hp⟩
theorem boxIn {S:St} {p k i:Nat} {ts:List Tk} (h:Cur S p k ts i) (hp:p < S.next) (t:Tk):D7 p S (S.newBox (El t)) ∧ Cur (S.newBox (El t)) p k ts i ∧ Has p (S.newBox (El t)) S.next (El t) ∧ p < (S.newBox (El t)).next :=
 ⟨Lh S _,h.new hp _,⟨Cv S _,Nat.lt_succ_self _,by omega⟩,Nat.lt_succ_of_lt hp⟩
theorem Fs {S:St} {p k i:Nat} {ts:List Tk} (h:Cur S p k ts i) (hp:p < S.next) (t:Tk):∃ S',Dt Tryz.prog (S.newBox (El Ea)) 68 (.ptr S.next 0) (Ga t)=some S' ∧ D7 p S S' ∧ Cur S' p k ts i ∧ Has p S' S.next (El t) ∧ p < S'.next :=
 ⟨_,eX S t,Jw (Lh S _) (Nat.le_refl _) _,(h.new hp _).put (by omega) _,⟨Ed _ _ _,Nat.lt_succ_self _,by omega⟩,Nat.lt_succ_of_lt hp⟩
theorem Vm {S:St} {p k i:Nat} {ts:List Tk} (h:Cur S p k ts i) (hp:p < S.next) {xs:List AV} (hx:xs.length=6):∃ S',Dt Tryz.prog (S.newBox exZ) 30 (.ptr S.next 0) (.agg xs)=some S' ∧ D7 p S S' ∧ Cur S' p k ts i ∧ Has p S' S.next xs ∧ p < S'.next :=
 ⟨_,Xa (Cv S _) rfl hx,Jw (Lh S _) (Nat.le_refl _) _,(h.new hp _).put (by omega) _,⟨Ed _ _ _,Nat.lt_succ_self _,by omega⟩,Nat.lt_succ_of_lt hp⟩
theorem G4 {S0 S:St} {p k i b:Nat} {ts:List Tk} {cs:List AV} (h:Cur S p k ts i) (hb:Has p S b cs) (hl:cs.length=6) (hs:S0.next ≤ b) (x:D7 p S0 S) {xs:List AV} (hx:xs.length=6) :
  Dt Tryz.prog S 30 (.ptr b 0) (.agg xs)=some (S.put b xs) ∧ Cd Tryz.prog (S.put b xs) 30 (.ptr b 0)=some (.agg xs) ∧ D7 p S0 (S.put b xs) ∧ Cur (S.put b xs) p k ts i :=
 ⟨Xa hb.get hl hx,ld30 (Ed _ _ _) hx,Jw x hs _,h.put (fun e=>hb.ne e.symm) _⟩
theorem Has.ld30 {p id:Nat} {S:St} {cs:List AV} (h:Has p S id cs) (hl:cs.length=6):Cd Tryz.prog S 30 (.ptr id 0)=some (.agg cs):=Go.Ax.ld30 h.get hl
theorem Has.ld68 {p id:Nat} {S:St} {t:Tk} (h:Has p S id (El t)):Cd Tryz.prog S 68 (.ptr id 0)=some (Ga t):=dD h.get
theorem Has.pos {p id:Nat} {S:St} {t:Tk} (h:Has p S id (El t)):Cd Tryz.prog S 3 (.ptr id 1)=some (.v (.int .i64 (t.pos:Int))):=ld3b h.get
theorem Has.text {p id:Nat} {S:St} {t:Tk} (h:Has p S id (El t)):Cd Tryz.prog S 9 (.ptr id 2)=some (.v (.string ⟨⟨t.text⟩⟩)):=mH h.get
theorem fa2 (b:Nat):C2 Tryz.prog 68 (.ptr b 0) 2=some (.ptr b 2):=fa68 b
theorem fe2 (b:Nat):C2 Tryz.prog 30 (.ptr b 0) 2=some (.ptr b 2):=(fa30 b).1
theorem fe3 (b:Nat):C2 Tryz.prog 30 (.ptr b 0) 3=some (.ptr b 3):=(fa30 b).2.1
theorem fe4 (b:Nat):C2 Tryz.prog 30 (.ptr b 0) 4=some (.ptr b 4):=(fa30 b).2.2
theorem fe0 (b:Nat):C2 Tryz.prog 30 (.ptr b 0) 0=some (.ptr b 0):=by kernel_rfl
theorem fe5 (b:Nat):C2 Tryz.prog 30 (.ptr b 0) 5=some (.ptr b 5):=by kernel_rfl
theorem D2 {α β:Type} (a:α) (i:Nat) (f:α → Nat → PR β):PR.bind (.ok a i) f=f a i:=rfl
theorem Gp {α β:Type} {x:PR α} {f:α → Nat → PR β} (h:PR.bind x f ≠ .out):x ≠ .out:=fun e=>h (by rw [e]; rfl)
def isTok (v:AV) (t:Tk):Prop:=v=Ga t
def Ef (ts:List Tk) (ws:List (List UInt8)) (i:Nat):PR Tk:=if (tk ts i).text ∈ ws then .ok (tk ts i) (i + 1) else .bad (tk ts i).pos (Ia (tk ts i))
def Gz (ts:List Tk) (kind:Nat) (i:Nat):PR Tk:=if (tk ts i).kind=kind then .ok (tk ts i) (i + 1) else .bad (tk ts i).pos (Ia (tk ts i))
theorem G3 (ts:List Tk) (ws:List (List UInt8)) (i:Nat):Ef ts ws i ≠ .out:=by unfold Ef; split <;> exact fun e=>by cases e
theorem Nj (ts:List Tk) (kind i:Nat):Gz ts kind i ≠ .out:=by unfold Gz; split <;> exact fun e=>by cases e
section
variable {S:St} {p k i:Nat} {ts:List Tk} (h:Cur S p k ts i) (hp:p < S.next) (hi:i < ts.length) (hts:TokOk ts)
include h hp hi hts
theorem L4 (tok off:Nat) (ws:List (List UInt8)) (hw:ws.length ≤ 1000) (he:[] ∉ ws) (hm:(tk ts i).text ∈ ws):WC E1 79 [.ptr p 0,wsA tok off ws] S (fun r=>∃ S',r=.ret (.tup [Ga (tk ts i),.v (.bool true)]) S' ∧ D7 p S S' ∧ Cur S' p k ts (i + 1) ∧ i + 1 < ts.length ∧ p < S'.next):=by
 rw [Nn hi] at hm ⊢
 refine WC.mono (take_yes S p k ts i h hp hi hts.size tok off ws hw hm) ?_
 rintro _ ⟨S2,rfl,hx,hc⟩
 exact ⟨_,rfl,hx,hc,hts.next hi (fun e=>he (e ▸ hm)),Nat.lt_of_lt_of_le hp hx.1⟩
theorem Np (tok off:Nat) (ws:List (List UInt8)) (hw:ws.length ≤ 1000) (hm:(tk ts i).text ∉ ws):WC E1 79 [.ptr p 0,wsA tok off ws] S (fun r=>∃ S',r=.ret (.tup [Ga Ea,.v (.bool false)]) S' ∧ D7 p S S' ∧ Cur S' p k ts i ∧ i < ts.length ∧ p < S'.next):=by
 have _:=hts
 rw [Nn hi] at hm
 refine WC.mono (take_no S p k ts i h hp hi tok off ws hw hm) ?_
 rintro _ ⟨S2,rfl,hx⟩
 exact ⟨_,rfl,hx.x p,h.keep hp hx,hi,Nat.lt_of_lt_of_le hp hx.1⟩
theorem Jc (tok off:Nat) (ws:List (List UInt8)) (hw:ws.length ≤ 1000) (he:[] ∉ ws):WC E1 81 [.ptr p 0,wsA tok off ws] S (Re p k ts S isTok (Ef ts ws i)):=by
 unfold Ef
 rw [Nn hi]
 by_cases hm:ts[i].text ∈ ws
 ·rw [if_pos hm]
  refine WC.mono (need_yes S p k ts i h hp hi hts.size tok off ws hw hm) ?_
  rintro _ ⟨S2,rfl,hx,hc⟩
  exact ⟨_,_,rfl,rfl,hx,hc,hts.next hi (fun e=>he (e ▸ hm))⟩
 ·rw [if_neg hm]
  refine WC.mono (need_no S p k ts i h hp hi tok off ws hw hm) ?_
  rintro _ ⟨S2,rfl,hx⟩
  exact ⟨_,rfl,hx.x p⟩
theorem Wj (kind:Nat) (hk5:kind ≠ 5):WC E1 124 [.ptr p 0,Dq kind] S (Re p k ts S isTok (Gz ts kind i)):=by
 unfold Gz
 rw [Nn hi]
 by_cases hm:ts[i].kind=kind
 ·rw [if_pos hm]
  refine WC.mono (qH S p k ts i h hp hi hts.size kind hm) ?_
  rintro _ ⟨S2,rfl,hx,hc⟩
  exact ⟨_,_,rfl,rfl,hx,hc,hts.more i hi (by omega)⟩
 ·rw [if_neg hm]
  refine WC.mono (kind_no S p k ts i h hp hi kind hm) ?_
  rintro _ ⟨S2,rfl,hx⟩
  exact ⟨_,rfl,hx.x p⟩
end
theorem G1 (t:Tk):Gj (Ga t) (Ga t)=true:=by
 simp [Ga,El,Gj,Mo,Dq,Bt,W9,eqS,Jk]
mutual
theorem RepE.refl:∀ {a:AV} {e:PE},RepE a e → Gj a a=true:=fun {a e} h=>by
 cases h with
 | mk kind pos n name off kv kids h =>
  have:=RepK.refl h
  simp [exC,Gj,Mo,Dq,Bt,eqS,Jk,this]
theorem RepK.refl:∀ {a:AV} {l:List PE},RepK a l → Gj a a=true:=fun {a l} h=>by
 cases h with
 | nil=>rfl
 | row tok off es kids h =>
  have:=RepF.refl h
  simp [Gj,this]
theorem RepF.refl:∀ {a:List AV} {l:List PE},RepF a l → Mo a a=true:=fun {a l} h=>by
 cases h with
 | nil=>rfl
 | cons a e r l h h2 =>
  have h3:=RepE.refl h
  have h4:=RepF.refl h2
  simp [Mo,h3,h4]
end
theorem Iv {xs:List AV} {e:PE} (h:RepE (.agg xs) e):Mo xs xs=true:=by
 have:=h.refl
 simpa [Gj] using this
def Lc (t:Tk):PE:=.mk 2 t.pos (if t.text=[116,114,117,101] then 1 else 0) [] false []
theorem Wp (a b:List UInt8):Ej .eql (.v (.string ⟨⟨a⟩⟩)) (.v (.string ⟨List.toArray b⟩))=some (.v (.bool (decide (a=b)))):=by
 have e:Kp a b=decide (a=b):=by
  rw [Kc]
  by_cases h:a=b
  ·subst h; simp
  ·rw [decide_eq_false h]; simpa using h
 rw [← e]
 rfl
theorem fb_strN (a b:List UInt8):Ej .neq (.v (.string ⟨⟨a⟩⟩)) (.v (.string ⟨List.toArray b⟩))=some (.v (.bool (!decide (a=b)))):=by
 have e:Kp a b=decide (a=b):=by
  rw [Kc]
  by_cases h:a=b
  ·subst h; simp
  ·rw [decide_eq_false h]; simpa using h
 rw [← e]
 rfl
section
variable {S3 S4:St} {p k i b kind pos:Nat} {n:Int} {name:List UInt8} {off:Bool} {kv:AV} {ts:List Tk} (x:D7 p S3 S4) (hb:S3.next ≤ b) (h:Has p S4 b (exC kind pos n name off kv)) (c:Cur S4 p k ts i) (hp:p < S4.next)
include x hb h c hp
theorem setCs (cs:List AV):D7 p S3 (S4.put b cs) ∧ Cur (S4.put b cs) p k ts i ∧ Has p (S4.put b cs) b cs ∧ p < (S4.put b cs).next :=
 ⟨Jw x hb _,c.put (fun e=>h.ne e.symm) _,⟨Ed _ _ _,h.lt,h.ne⟩,hp⟩
theorem setN (m:Int):∃ S5,Dt Tryz.prog S4 2 (.ptr b 2) (.v (.int .i64 m))=some S5 ∧ D7 p S3 S5 ∧ Cur S5 p k ts i ∧ Has p S5 b (exC kind pos m name off kv) ∧ p < S5.next :=
 ⟨_,st30_n h.get m,setCs x hb h c hp _⟩
end
theorem fnOk216:∃ fn,E1.F 216=some fn:=Option.isSome_iff_exists.1 (by kernel_rfl)
theorem fnOk117:∃ fn,E1.F 117=some fn:=Option.isSome_iff_exists.1 (by kernel_rfl)
theorem yH (S:St) (p k:Nat) (ts:List Tk) (i:Nat) (h:Cur S p k ts i) (hp:p < S.next) (t:Tk):WC E1 216 [Ga t] S (fun r=>∃ S',r=.ret (.agg (exC 2 t.pos (if t.text=[116,114,117,101] then 1 else 0) [] false .nils)) S' ∧ D7 p S S' ∧ Cur S' p k ts i ∧ p < S'.next):=by
 refine Dv Tryz.f216 (by kernel_rfl) (by kernel_rfl) (by kernel_rfl) (by show (_:Nat) ≤ _;simp [Tryz.f216]) ?_
 obtain ⟨fn1,hf1⟩:=X4
 obtain ⟨x1,c1,b1,hp1⟩:=boxIn h hp t
 obtain ⟨x2,c2,b2,hp2⟩:=Ks c1 hp1
 have b12:=b1.keep x2
 have l1:=b12.ld68
 simp only [A6,Bk,Bj,Ch,A7,Bf,Bh,Bd,A5,Bc,Ba,Ce,A0,A1,Bm,B5,ofOpt,ofOptS,Bb,Cp,Nat.reduceLT,Nat.reduceEqDiff,Aa,Ab,Ac,Ae,Aj,Ak,Tryz.f216,Uf,Ug,Gu,l1,hf1]
 refine WC.mono (T9 _ 2 t .nils (.inl rfl)) ?_
 rintro _ ⟨S3,rfl,k3⟩
 have x3:=k3.x p
 have c3:=c2.keep hp2 k3
 have hp3:p < S3.next:=Nat.lt_of_lt_of_le hp2 x3.1
 obtain ⟨S4,q4,x4,c4,b4,hp4⟩:=Vm c3 hp3 (xs:=exC 2 t.pos 0 [] false .nils) rfl
 have b14:=(b12.keep x3).keep x4
 have b24:=(b2.keep x3).keep x4
 have l2:=b14.text
 have xt:=(x1.trans x2).trans x3
 have hs:S.next ≤ (S.newBox (El t)).next:=x1.1
 simp only [Bo,A6,Bk,Bl,Bj,Ch,A7,Bf,Br,Bu,Bd,Bp,A5,Bc,Ba,A0,A1,ofOpt,ofOptS,Bb,Cp,Nat.reduceLT,Nat.reduceEqDiff,Aa,Ab,Ac,Am,Gu,q4,fa2,l2,Cy,Wp]
 by_cases hq:t.text=[116,114,117,101]
 ·rw [if_pos hq]
  obtain ⟨S5,q5,x5,c5,b5,hp5⟩:=setN x4 (Nat.le_refl _) b4 c4 hp4 1
  have l5:=b5.ld30 rfl
  obtain ⟨g1,g2,gx,gc⟩:=G4 c5 ((b2.keep x3).keep x5) rfl hs (xt.trans x5) (xs:=exC 2 t.pos 1 [] false .nils) rfl
  simp only [A6,Bk,B1,Bj,Ch,A7,Bf,Br,Bu,Bd,De,A5,Bc,Ba,A0,A1,ofOpt,Bb,Cp,Bi,B0,Bg,Cs,Nat.reduceLT,Nat.reduceEqDiff,Aa,Ab,Ac,Ap,hq,fe2,q5,l5,g1,g2]
  exact ⟨_,rfl,gx,gc,by have:=gx.1; omega⟩
 ·rw [if_neg hq]
  have l5:=b4.ld30 rfl
  obtain ⟨g1,g2,gx,gc⟩:=G4 c4 b24 rfl hs (xt.trans x4) (xs:=exC 2 t.pos 0 [] false .nils) rfl
  simp only [B1,Bj,Ch,A7,Bf,Br,Bu,Bd,C8,A5,Bc,Ba,A0,A1,Cp,Bi,B0,Bg,Cs,Nat.reduceLT,Nat.reduceEqDiff,Aa,Ab,Ac,Aq,hq,l5,g1,g2]
  exact ⟨_,rfl,gx,gc,by have:=gx.1; omega⟩
theorem fL (t:Tk):RepE (.agg (exC 2 t.pos (if t.text=[116,114,117,101] then 1 else 0) [] false .nils)) (Lc t):=.mk 2 t.pos _ [] false .nils [] .nil
def Iu:PE → Bool
 | .mk kind _ _ _ _ _=>decide (kind=1 ∨ kind=2)
theorem Je {S:St} {id kind pos:Nat} {n:Int} {name:List UInt8} {off:Bool} {kv:AV} (h:S.mem.get id=some (.box (exC kind pos n name off kv))):Cd Tryz.prog S 3 (.ptr id 0)=some (.v (.int .i64 (kind:Int))):=by
 simp [Cd,D0,h,a3,exC,Dq]
theorem const_w (S:St) (xs:List AV) (e:PE) (hr:RepE (.agg xs) e):WC E1 117 [.agg xs] S (fun r=>∃ S',r=.ret (.v (.bool (Iu e))) S' ∧ En S S'):=by
 cases hr with
 | mk kind pos n name off kv kids hk =>
 refine Dv Tryz.f117 (by kernel_rfl) (by kernel_rfl) (by kernel_rfl) (by show (_:Nat) ≤ _;simp [Tryz.f117]) ?_
 have l1:=Je (Cv S (exC kind pos n name off kv))
 by_cases h1:kind=1
 ·have e1:((kind:Int) == 1)=true:=by rw [h1]; rfl
  simp only [A6,Bk,B1,Bj,Ch,A7,C0,Bf,Bd,A5,Bc,Ba,Ce,A0,A1,ofOpt,Bb,Cp,Fj,Bs,Bi,B0,Bg,Cs,B9,Nat.reduceLT,Nat.reduceEqDiff,Aa,Ab,Ac,Ae,Af,Ag,Ah,Ai,Am,Aw,Tryz.f117,Ca,Cb,fe0,l1,e1]
  refine ⟨S.newBox (exC kind pos n name off kv),?_,Cz S _⟩
  simp [Iu,h1]
 ·have e1:((kind:Int) == 1)=false:=by rw [beq_eq_false_iff_ne]; omega
  by_cases h2:kind=2
  ·have e2:((kind:Int) == 2)=true:=by rw [h2]; rfl
   simp only [A6,Bk,B1,Bj,Ch,A7,Bf,Bd,A5,Bc,Ba,Ce,A0,A1,ofOpt,Bb,Cp,Bs,Bi,B0,Bg,Cs,B9,Nat.reduceLT,Nat.reduceEqDiff,Aa,Ab,Ac,Ae,Af,Ag,Ah,Ai,Al,Am,Tryz.f117,Ca,Cb,fe0,l1,e1,e2]
   refine ⟨S.newBox (exC kind pos n name off kv),?_,Cz S _⟩
   simp [Iu,h2]
  ·have e2:((kind:Int) == 2)=false:=by rw [beq_eq_false_iff_ne]; omega
   simp only [A6,Bk,B1,Bj,Ch,A7,Bf,Bd,A5,Bc,Ba,Ce,A0,A1,ofOpt,Bb,Cp,Bs,Bi,B0,Bg,Cs,B9,Nat.reduceLT,Nat.reduceEqDiff,Aa,Ab,Ac,Ae,Af,Ag,Ah,Ai,Al,Am,Tryz.f117,Ca,Cb,fe0,l1,e1,e2]
   refine ⟨S.newBox (exC kind pos n name off kv),?_,Cz S _⟩
   simp [Iu,h1,h2]
def I5 (ts:List Tk) (i:Nat):PR (List UInt8 × Bool):=if (tk ts i).text ∈ [[110,111,116]] then (Gz ts 1 (i + 1)).bind fun t j=>.ok (t.text,true) j else (Gz ts 1 i).bind fun t j=>.ok (t.text,false) j
def isClock (v:AV) (c:List UInt8 × Bool):Prop:=v=.tup [Bt c.1,.v (.bool c.2)]
theorem clock_p (S:St) (p k:Nat) (ts:List Tk) (i:Nat) (h:Cur S p k ts i) (hp:p < S.next) (hi:i < ts.length) (hts:TokOk ts):WC E1 179 [.ptr p 0] S (Re p k ts S isClock (I5 ts i)):=by
 refine Dv Tryz.f179 (by kernel_rfl) (by kernel_rfl) (by kernel_rfl) (by show (_:Nat) ≤ _;simp [Tryz.f179]) ?_
 obtain ⟨fn1,hf1⟩:=Lj
 obtain ⟨fn2,hf2⟩:=R2
 unfold I5
 by_cases hm:(tk ts i).text ∈ [[110,111,116]]
 ·
  rw [if_pos hm]
  simp only [A6,Bk,Bj,Ch,A7,Bf,Bh,Bd,A5,Bc,Ba,Ce,A0,A1,Bm,B5,ofOpt,Bb,Cp,Bz,Nat.reduceLT,Nat.reduceEqDiff,Aa,Ab,Ac,Ae,Aj,Ak,Tryz.f179,fp0,Ec,hf1]
  refine WC.mono (L4 h hp hi hts 1 0 [[110,111,116]] (by decide) (by decide) hm) ?_
  rintro _ ⟨S2,rfl,x2,c2,hi2,hp2⟩
  obtain ⟨S3,q3,x3,c3,b3,hp3⟩:=Fs c2 hp2 (tk ts i)
  simp only [A6,Bk,Bj,Ch,A7,Bf,Br,Bh,Bu,Bd,Bp,A5,Bc,Ba,A0,A1,Bm,B5,ofOpt,ofOptS,Bb,Cp,Nat.reduceLT,Nat.reduceEqDiff,Aa,Ab,Ac,Ag,Ah,Aj,Ak,Cw,G9,q3,fp0,hf2]
  refine WC.mono (Wj c3 hp3 hi2 hts 1 (by decide)) ?_
  cases hX:Gz ts 1 (i + 1) with
  | out=>exact absurd hX (Nj _ _ _)
  | bad a e =>
   rintro _ ⟨S4,rfl,x4⟩
   simp only [Cl,Cq,Cg]
   exact ⟨_,rfl,x2.trans (x3.trans x4)⟩
  | ok t j =>
   rintro _ ⟨_,S4,rfl,rfl,x4,c4,hj⟩
   simp only [B1,Bj,Ch,A7,Bf,Bd,Bp,A5,Bc,Ba,A0,A1,ofOpt,Cp,Bi,B0,Bg,Cs,Nat.reduceLT,Nat.reduceEqDiff,Aa,Ab,Ac,dL]
   exact ⟨_,_,rfl,rfl,x2.trans (x3.trans x4),c4,hj⟩
 ·
  rw [if_neg hm]
  simp only [A6,Bk,Bj,Ch,A7,Bf,Bh,Bd,A5,Bc,Ba,Ce,A0,A1,Bm,B5,ofOpt,Bb,Cp,Bz,Nat.reduceLT,Nat.reduceEqDiff,Aa,Ab,Ac,Ae,Aj,Ak,Tryz.f179,fp0,Ec,hf1]
  refine WC.mono (Np h hp hi hts 1 0 [[110,111,116]] (by decide) hm) ?_
  rintro _ ⟨S2,rfl,x2,c2,hi2,hp2⟩
  obtain ⟨S3,q3,x3,c3,b3,hp3⟩:=Fs c2 hp2 Ea
  simp only [A6,Bk,Bj,Ch,A7,Bf,Br,Bh,Bu,Bd,Bp,A5,Bc,Ba,A0,A1,Bm,B5,ofOpt,ofOptS,Bb,Cp,Nat.reduceLT,Nat.reduceEqDiff,Aa,Ab,Ac,Ag,Ah,Aj,Ak,Cw,G9,q3,fp0,hf2]
  refine WC.mono (Wj c3 hp3 hi2 hts 1 (by decide)) ?_
  cases hX:Gz ts 1 i with
  | out=>exact absurd hX (Nj _ _ _)
  | bad a e =>
   rintro _ ⟨S4,rfl,x4⟩
   simp only [Cl,Cq,Cg]
   exact ⟨_,rfl,x2.trans (x3.trans x4)⟩
  | ok t j =>
   rintro _ ⟨_,S4,rfl,rfl,x4,c4,hj⟩
   simp only [B1,Bj,Ch,A7,Bf,Bd,Bp,A5,Bc,Ba,A0,A1,ofOpt,Cp,Bi,B0,Bg,Cs,Nat.reduceLT,Nat.reduceEqDiff,Aa,Ab,Ac,dL]
   exact ⟨_,_,rfl,rfl,x2.trans (x3.trans x4),c4,hj⟩
inductive NT where
 | expr | arrow | or | and | not | sum | term | unary | when | primary | name | call | brk | lit
def Lp (ts:List Tk) (ws:List (List UInt8)) (kid:Nat → PR PE):Nat → PE → Nat → PR PE
 | 0,_,_=>.out
 | n + 1,x,i=>if (tk ts i).text ∈ ws then (kid (i + 1)).bind fun y j=>Lp ts ws kid n (.mk 6 (tk ts i).pos 0 (tk ts i).text false [x,y]) j else .ok x i
def Ls (ts:List Tk):Nat → PE → Nat → PR PE
 | 0,_,_=>.out
 | n + 1,x,i=>if (tk ts i).text ∈ [[119,104,101,110]] then (I5 ts (i + 1)).bind fun c j=>Ls ts n (.mk 11 (tk ts i).pos 0 c.1 c.2 [x]) j else .ok x i
def Ik (ts:List Tk) (kid:Nat → PR PE):Nat → List PE → Nat → PR (List PE)
 | 0,_,_=>.out
 | n + 1,l,i=>if (tk ts i).text ∈ [[44]] then (kid (i + 1)).bind fun y j=>Ik ts kid n (l ++ [y]) j else (Ef ts [[41]] i).bind fun _ j=>.ok l j
def Lg (ts:List Tk) (kid:Nat → PR PE) (n i:Nat):PR (List PE):=(Ef ts [[40]] i).bind fun _ j=>if (tk ts j).text ∈ [[41]] then .ok [] (j + 1) else (kid j).bind fun x m=>Ik ts kid n [x] m
def Lm (ts:List Tk) (i:Nat):Bool:=decide ((tk ts i).text=[45]) && (decide ((tk ts (i + 1)).kind=2) && !decide ((tk ts (i + 2)).text=[119,104,101,110]))
def P (ts:List Tk):Nat → NT → Nat → PR PE
 | 0,_,_=>.out
 | n + 1,.expr,i=>if (tk ts i).text ∈ [[105,102]] then (P ts n .expr (i + 1)).bind fun c j=>(Ef ts [[116,104,101,110]] j).bind fun _ j=>(P ts n .expr j).bind fun y j=>(Ef ts [[101,108,115,101]] j).bind fun _ j=>(P ts n .expr j).bind fun z j=>.ok (.mk 7 (tk ts i).pos 0 [] false [c,y,z]) j
   else P ts n .arrow i
 | n + 1,.arrow,i=>(P ts n .or i).bind fun x j=>if (tk ts j).text ∈ [[45,62]] then (P ts n .arrow (j + 1)).bind fun y m=>.ok (.mk 8 (tk ts j).pos 0 [] false [x,y]) m
   else if Iu x=false then .ok x j
   else if (tk ts j).text ∈ [[102,98,121]] then (P ts n .arrow (j + 1)).bind fun y m=>.ok (.mk 9 (tk ts j).pos 0 [] false [x,y]) m
   else .ok x j
 | n + 1,.or,i=>(P ts n .and i).bind fun x j=>Lp ts [[111,114],[120,111,114]] (P ts n .and) n x j
 | n + 1,.and,i=>(P ts n .not i).bind fun x j=>Lp ts [[97,110,100]] (P ts n .not) n x j
 | n + 1,.not,i=>if (tk ts i).text ∈ [[110,111,116]] then (P ts n .not (i + 1)).bind fun x j=>.ok (.mk 5 (tk ts i).pos 0 [] false [x]) j
   else (P ts n .sum i).bind fun x j=>if (tk ts j).text ∈ [[61],[60,62],[60],[60,61],[62],[62,61]] then (P ts n .sum (j + 1)).bind fun y m=>.ok (.mk 6 (tk ts j).pos 0 (tk ts j).text false [x,y]) m else .ok x j
 | n + 1,.sum,i=>(P ts n .term i).bind fun x j=>Lp ts [[43],[45]] (P ts n .term) n x j
 | n + 1,.term,i=>(P ts n .unary i).bind fun x j=>Lp ts [[42],[47],[109,111,100]] (P ts n .unary) n x j
 | n + 1,.unary,i=>if (tk ts i).text ∈ [[112,114,101]] then (P ts n .unary (i + 1)).bind fun x j=>.ok (.mk 10 (tk ts i).pos 0 [] false [x]) j
   else if Lm ts i=true then Ni ts i
   else if (tk ts i).text ∈ [[45]] then (P ts n .unary (i + 1)).bind fun x j=>.ok (.mk 4 (tk ts i).pos 0 [] false [x]) j
   else P ts n .when i
 | n + 1,.when,i=>(P ts n .primary i).bind fun x j=>Ls ts n x j
 | n + 1,.primary,i=>if (tk ts i).kind=2 then Ni ts i
   else if (tk ts i).kind=1 then P ts n .name i
   else if (tk ts i).text=[116,114,117,101] ∨ (tk ts i).text=[102,97,108,115,101] then .ok (Lc (tk ts i)) (i + 1)
   else if (tk ts i).text=[109,101,114,103,101] then (Gz ts 1 (i + 1)).bind fun t j=>(P ts n .brk j).bind fun x j=>(P ts n .brk j).bind fun y j=>.ok (.mk 12 (tk ts i).pos 0 t.text false [x,y]) j
   else if (tk ts i).text=[97,119,97,105,116] then (Gz ts 1 (i + 1)).bind fun t j=>if (tk ts j).text ∈ [[97,102,116,101,114]] then (Ef ts [[40]] (j + 1)).bind fun _ j=>(P ts n .lit j).bind fun x m=>(Ik ts (P ts n .lit) n [x] m).bind fun l m=>.ok (.mk 14 (tk ts i).pos 0 t.text false l) m else .ok (.mk 14 (tk ts i).pos 0 t.text false []) j
   else P ts n .brk i
 | n + 1,.name,i=>if (tk ts (i + 1)).text=[40] then P ts n .call i else (Gz ts 1 i).bind fun t j=>.ok (.mk 3 t.pos 0 t.text false []) j
 | n + 1,.call,i=>(Gz ts 1 i).bind fun t j=>(Lg ts (P ts n .expr) n j).bind fun l m=>.ok (.mk 13 t.pos 0 t.text false l) m
 | n + 1,.brk,i=>(Ef ts [[40]] i).bind fun _ j=>(P ts n .expr j).bind fun x j=>(Ef ts [[41]] j).bind fun _ j=>.ok x j
 | n + 1,.lit,i=>if (tk ts i).text ∈ [[116,114,117,101],[102,97,108,115,101]] then .ok (Lc (tk ts i)) (i + 1) else Ni ts i
def Con (p k:Nat) (ts:List Tk) (fid:Nat) (x:Nat → PR PE):Prop:=∀ S i,Cur S p k ts i → p < S.next → i < ts.length → x i ≠ .out → WC E1 fid [.ptr p 0] S (Re p k ts S RepE (x i))
theorem qV:∃ fn,E1.F 47=some fn:=Option.isSome_iff_exists.1 (by kernel_rfl)
theorem fnOk80:∃ fn,E1.F 80=some fn:=Option.isSome_iff_exists.1 (by kernel_rfl)
theorem fnOk116:∃ fn,E1.F 116=some fn:=Option.isSome_iff_exists.1 (by kernel_rfl)
theorem fnOk212:∃ fn,E1.F 212=some fn:=Option.isSome_iff_exists.1 (by kernel_rfl)
theorem fnOk201:∃ fn,E1.F 201=some fn:=Option.isSome_iff_exists.1 (by kernel_rfl)
theorem fnOk175:∃ fn,E1.F 175=some fn:=Option.isSome_iff_exists.1 (by kernel_rfl)
theorem fnOk174:∃ fn,E1.F 174=some fn:=Option.isSome_iff_exists.1 (by kernel_rfl)
section
variable {p k:Nat} {ts:List Tk} (hts:TokOk ts) (n:Nat)
include hts
theorem brk_p (ihexpr:Con p k ts 47 (P ts n .expr)):Con p k ts 219 (P ts (n + 1) .brk):=fun S i h hp hi ho=>by
 obtain ⟨fn1,hf1⟩:=Qa
 obtain ⟨fn2,hf2⟩:=qV
 refine Dv Tryz.f219 (by kernel_rfl) (by kernel_rfl) (by kernel_rfl) (by show (_:Nat) ≤ _;simp [Tryz.f219]) ?_
 have eP:P ts (n + 1) .brk i=(Ef ts [[40]] i).bind fun _ j=>(P ts n .expr j).bind fun x j=>(Ef ts [[41]] j).bind fun _ j=>.ok x j:=rfl
 rw [eP] at ho ⊢
 clear eP
 obtain ⟨x1,c1,br,hp1⟩:=Ks h hp
 have y2:=x1
 simp only [A6,Bk,Bj,Ch,A7,Bf,Bh,Bd,A5,Bc,Ba,Ce,A0,A1,Bm,B5,ofOpt,ofOptS,Bb,Cp,Bz,Nat.reduceLT,Nat.reduceEqDiff,Aa,Ab,Ac,Ae,Aj,Ak,Tryz.f219,Gu,fp0,Ec,hf1]
 refine WC.mono (Jc c1 hp1 hi hts 1 0 [[40]] (by decide) (by decide)) ?_
 cases hX3:Ef ts [[40]] i with
 | out=>exact absurd hX3 (G3 _ _ _)
 | bad a e =>
  rintro _ ⟨S3,rfl,x3⟩
  simp only [Cl,Cq,Cg]
  exact ⟨_,rfl,y2.trans x3⟩
 | ok a3 j3 =>
  rw [hX3] at ho; rw [D2] at ho ⊢
  rintro _ ⟨_,S3,rfl,rfl,x3,c3,hi3⟩
  have hp3:p < S3.next:=Nat.lt_of_lt_of_le hp1 x3.1
  have y4:=(y2).trans x3
  have br_4:=br.keep x3
  have ne5:=Gp ho
  simp only [A6,Bk,Bj,Ch,A7,Bf,Bh,Bd,Bp,A5,Bc,Ba,A0,A1,Bm,B5,ofOpt,Nat.reduceLT,Nat.reduceEqDiff,Aa,Ab,Ac,Aj,Ak,hf2]
  refine WC.mono (ihexpr _ _ c3 hp3 hi3 ne5) ?_
  cases hX6:P ts n .expr j3 with
  | out=>exact absurd hX6 ne5
  | bad a e =>
   rintro _ ⟨S6,rfl,x6⟩
   simp only [Cl,Cq,Cg]
   exact ⟨_,rfl,y4.trans x6⟩
  | ok a6 j6 =>
   rw [hX6] at ho; rw [D2] at ho ⊢
   rintro _ ⟨v6,S6,rfl,hr6,x6,c6,hi6⟩
   obtain ⟨xs6,rfl,hl6⟩:=RepE.agg hr6
   have rf6:=RepE.refl hr6
   have hp6:p < S6.next:=Nat.lt_of_lt_of_le hp3 x6.1
   have y7:=(y4).trans x6
   have br_7:=br_4.keep x6
   obtain ⟨S8,q8,x8,c8,bx,hp8⟩:=Vm c6 hp6 (xs:=xs6) hl6
   have y9:=(y7).trans x8
   have br_9:=br_7.keep x8
   simp only [A6,Bk,Bj,Ch,A7,Bf,Br,Bh,Bu,Bd,Bp,A5,Bc,Ba,A0,A1,Bm,B5,ofOpt,ofOptS,Bb,Cp,Bz,Nat.reduceLT,Nat.reduceEqDiff,Aa,Ab,Ac,Aj,Ak,Gu,fp0,Ec,hf1,q8]
   refine WC.mono (Jc c8 hp8 hi6 hts 1 0 [[41]] (by decide) (by decide)) ?_
   cases hX10:Ef ts [[41]] j6 with
   | out=>exact absurd hX10 (G3 _ _ _)
   | bad a e =>
    rintro _ ⟨S10,rfl,x10⟩
    simp only [Cl,Cq,Cg]
    exact ⟨_,rfl,y9.trans x10⟩
   | ok a10 j10 =>
    rw [hX10] at ho; rw [D2] at ho ⊢
    rintro _ ⟨_,S10,rfl,rfl,x10,c10,hi10⟩
    have hp10:p < S10.next:=Nat.lt_of_lt_of_le hp8 x10.1
    have y11:=(y9).trans x10
    have br_11:=br_9.keep x10
    have bx_11:=bx.keep x10
    have l12:=bx_11.ld30 hl6
    obtain ⟨g13,h13,gx,gc⟩:=G4 (S0:=S) c10 br_11 rfl (Nat.le_refl _) y11 (xs:=xs6) hl6
    simp only [A6,Bk,B1,Bj,Ch,A7,Bf,Br,Bu,Bd,Bp,A5,Bc,Ba,A0,A1,ofOpt,Cp,Bi,B0,Bg,Cs,Nat.reduceLT,Nat.reduceEqDiff,Aa,Ab,Ac,l12,g13,h13]
    exact ⟨_,_,rfl,hr6,gx,gc,hi10⟩
theorem expr_p (ihexpr:Con p k ts 47 (P ts n .expr)) (iharrow:Con p k ts 80 (P ts n .arrow)):Con p k ts 47 (P ts (n + 1) .expr):=fun S i h hp hi ho=>by
 obtain ⟨fn1,hf1⟩:=Lj
 obtain ⟨fn2,hf2⟩:=fnOk80
 obtain ⟨fn3,hf3⟩:=qV
 obtain ⟨fn4,hf4⟩:=Qa
 obtain ⟨fn5,hf5⟩:=X4
 refine Dv Tryz.f47 (by kernel_rfl) (by kernel_rfl) (by kernel_rfl) (by show (_:Nat) ≤ _;simp [Tryz.f47]) ?_
 have eP:P ts (n + 1) .expr i=if (tk ts i).text ∈ [[105,102]] then (P ts n .expr (i + 1)).bind fun c j=>(Ef ts [[116,104,101,110]] j).bind fun _ j=>(P ts n .expr j).bind fun y j=>(Ef ts [[101,108,115,101]] j).bind fun _ j=>(P ts n .expr j).bind fun z j=>.ok (.mk 7 (tk ts i).pos 0 [] false [c,y,z]) j else P ts n .arrow i:=rfl
 rw [eP] at ho ⊢
 clear eP
 obtain ⟨x1,c1,br,hp1⟩:=Ks h hp
 have y2:=x1
 by_cases hm:(tk ts i).text ∈ [[105,102]]
 ·rw [if_pos hm] at ho ⊢
  simp only [A6,Bk,Bj,Ch,A7,Bf,Bh,Bd,A5,Bc,Ba,Ce,A0,A1,Bm,B5,ofOpt,ofOptS,Bb,Cp,Bz,Nat.reduceLT,Nat.reduceEqDiff,Aa,Ab,Ac,Ae,Aj,Ak,Tryz.f47,Gu,fp0,Ec,hf1]
  refine WC.mono (L4 c1 hp1 hi hts 1 0 [[105,102]] (by decide) (by decide) hm) ?_
  rintro _ ⟨S3,rfl,x3,c3,hi3,hp3⟩
  have y4:=(y2).trans x3
  have br_4:=br.keep x3
  obtain ⟨S5,q5,x5,c5,bt,hp5⟩:=Fs c3 hp3 (tk ts i)
  have y6:=(y4).trans x5
  have br_6:=br_4.keep x5
  have ne7:=Gp ho
  simp only [Bo,A6,Bk,Bl,Bj,Ch,A7,Bf,Br,Bh,Bu,Bd,Bp,C8,A5,Bc,Ba,A0,A1,Bm,B5,ofOpt,ofOptS,Cp,Fj,C6,Db,Nat.reduceLT,Nat.reduceEqDiff,Aa,Ab,Ac,Ag,Ah,Aj,Ak,Ar,G9,Cw,hf2,hf3,q5]
  refine WC.mono (ihexpr _ _ c5 hp5 hi3 ne7) ?_
  cases hX8:P ts n .expr (i + 1) with
  | out=>exact absurd hX8 ne7
  | bad a e =>
   rintro _ ⟨S8,rfl,x8⟩
   simp only [Cl,Cq,Cg]
   exact ⟨_,rfl,y6.trans x8⟩
  | ok a8 j8 =>
   rw [hX8] at ho; rw [D2] at ho ⊢
   rintro _ ⟨v8,S8,rfl,hr8,x8,c8,hi8⟩
   obtain ⟨xs8,rfl,hl8⟩:=RepE.agg hr8
   have rf8:=RepE.refl hr8
   have hp8:p < S8.next:=Nat.lt_of_lt_of_le hp5 x8.1
   have y9:=(y6).trans x8
   have br_9:=br_6.keep x8
   have bt_9:=bt.keep x8
   obtain ⟨S10,q10,x10,c10,bc,hp10⟩:=Vm c8 hp8 (xs:=xs8) hl8
   have y11:=(y9).trans x10
   have br_11:=br_9.keep x10
   have bt_11:=bt_9.keep x10
   simp only [A6,Bk,Bj,Ch,A7,Bf,Br,Bh,Bu,Bd,Bp,A5,Bc,Ba,A0,A1,Bm,B5,ofOpt,ofOptS,Bb,Cp,Bz,Nat.reduceLT,Nat.reduceEqDiff,Aa,Ab,Ac,Aj,Ak,Gu,fp0,Ec,hf4,q10]
   refine WC.mono (Jc c10 hp10 hi8 hts 1 0 [[116,104,101,110]] (by decide) (by decide)) ?_
   cases hX12:Ef ts [[116,104,101,110]] j8 with
   | out=>exact absurd hX12 (G3 _ _ _)
   | bad a e =>
    rintro _ ⟨S12,rfl,x12⟩
    simp only [Cl,Cq,Cg]
    exact ⟨_,rfl,y11.trans x12⟩
   | ok a12 j12 =>
    rw [hX12] at ho; rw [D2] at ho ⊢
    rintro _ ⟨_,S12,rfl,rfl,x12,c12,hi12⟩
    have hp12:p < S12.next:=Nat.lt_of_lt_of_le hp10 x12.1
    have y13:=(y11).trans x12
    have br_13:=br_11.keep x12
    have bt_13:=bt_11.keep x12
    have bc_13:=bc.keep x12
    have ne14:=Gp ho
    simp only [A6,Bk,Bj,Ch,A7,Bf,Bh,Bd,Bp,A5,Bc,Ba,A0,A1,Bm,B5,ofOpt,Nat.reduceLT,Nat.reduceEqDiff,Aa,Ab,Ac,Aj,Ak,hf3]
    refine WC.mono (ihexpr _ _ c12 hp12 hi12 ne14) ?_
    cases hX15:P ts n .expr j12 with
    | out=>exact absurd hX15 ne14
    | bad a e =>
     rintro _ ⟨S15,rfl,x15⟩
     simp only [Cl,Cq,Cg]
     exact ⟨_,rfl,y13.trans x15⟩
    | ok a15 j15 =>
     rw [hX15] at ho; rw [D2] at ho ⊢
     rintro _ ⟨v15,S15,rfl,hr15,x15,c15,hi15⟩
     obtain ⟨xs15,rfl,hl15⟩:=RepE.agg hr15
     have rf15:=RepE.refl hr15
     have hp15:p < S15.next:=Nat.lt_of_lt_of_le hp12 x15.1
     have y16:=(y13).trans x15
     have br_16:=br_13.keep x15
     have bt_16:=bt_13.keep x15
     have bc_16:=bc_13.keep x15
     obtain ⟨S17,q17,x17,c17,be,hp17⟩:=Vm c15 hp15 (xs:=xs15) hl15
     have y18:=(y16).trans x17
     have br_18:=br_16.keep x17
     have bt_18:=bt_16.keep x17
     have bc_18:=bc_16.keep x17
     simp only [A6,Bk,Bj,Ch,A7,Bf,Br,Bh,Bu,Bd,Bp,A5,Bc,Ba,A0,A1,Bm,B5,ofOpt,ofOptS,Bb,Cp,Bz,Nat.reduceLT,Nat.reduceEqDiff,Aa,Ab,Ac,Aj,Ak,Gu,fp0,Ec,hf4,q17]
     refine WC.mono (Jc c17 hp17 hi15 hts 1 0 [[101,108,115,101]] (by decide) (by decide)) ?_
     cases hX19:Ef ts [[101,108,115,101]] j15 with
     | out=>exact absurd hX19 (G3 _ _ _)
     | bad a e =>
      rintro _ ⟨S19,rfl,x19⟩
      simp only [Cl,Cq,Cg]
      exact ⟨_,rfl,y18.trans x19⟩
     | ok a19 j19 =>
      rw [hX19] at ho; rw [D2] at ho ⊢
      rintro _ ⟨_,S19,rfl,rfl,x19,c19,hi19⟩
      have hp19:p < S19.next:=Nat.lt_of_lt_of_le hp17 x19.1
      have y20:=(y18).trans x19
      have br_20:=br_18.keep x19
      have bt_20:=bt_18.keep x19
      have bc_20:=bc_18.keep x19
      have be_20:=be.keep x19
      simp only [Co,Bk,Bj,Ch,Bd,Bp,Nat.reduceLT,Ac]
      refine Fv [(0,true),(1,true),(2,true),(3,true),(4,true),(2,false),(1,false),(0,false),(5,true),(6,true),(7,true)] (by kernel_rfl) (by kernel_rfl) ?_
      have l21:=bt_20.ld68
      have l22:=bc_20.ld30 hl8
      have l23:=be_20.ld30 hl15
      have ne24:=Gp ho
      simp only [A5,Bc,Ba,A0,A1,Bm,B5,ofOpt,Cp,Nat.reduceLT,Nat.reduceEqDiff,Aa,Ab,Ac,Af,Ag,Ah,Aj,Ak,Am,Dr,Ee,Eb,Du,F4,hf3,l21,l22,l23]
      refine WC.mono (ihexpr _ _ c19 hp19 hi19 ne24) ?_
      cases hX25:P ts n .expr j19 with
      | out=>exact absurd hX25 ne24
      | bad a e =>
       rintro _ ⟨S25,rfl,x25⟩
       simp only [Cl,Cg,Fp,F7]
       exact ⟨_,rfl,y20.trans x25⟩
      | ok a25 j25 =>
       rw [hX25] at ho; rw [D2] at ho ⊢
       rintro _ ⟨v25,S25,rfl,hr25,x25,c25,hi25⟩
       obtain ⟨xs25,rfl,hl25⟩:=RepE.agg hr25
       have rf25:=RepE.refl hr25
       have hp25:p < S25.next:=Nat.lt_of_lt_of_le hp19 x25.1
       have y26:=(y20).trans x25
       have br_26:=br_20.keep x25
       have bt_26:=bt_20.keep x25
       have bc_26:=bc_20.keep x25
       have be_26:=be_20.keep x25
       have l27:=bt_26.ld68
       have l28:=bc_26.ld30 hl8
       have l29:=be_26.ld30 hl15
       have l30:=row28_3 xs8 xs15 xs25 hl8 hl15 hl25
       simp only [A5,Bc,Ba,A0,A1,Bm,B5,ofOpt,Bb,Cp,Bz,Nat.reduceLT,Nat.reduceEqDiff,Aa,Ab,Ac,Aj,Ak,Dr,Kf,Ee,Eb,Du,Ep,D6,Em,G1,hf5,rf8,rf15,l27,l28,l29,l30]
       refine WC.mono (T9 _ 7 (tk ts i) (.sl 1 0 6 [.agg xs8,.agg xs15,.agg xs25]) (.inr ⟨_,_,_,rfl⟩)) ?_
       rintro _ ⟨S31,rfl,k31⟩
       have x31:=k31.x p
       have c31:=c25.keep hp25 k31
       have hp31:p < S31.next:=Nat.lt_of_lt_of_le hp25 x31.1
       have y32:=(y26).trans x31
       have br_32:=br_26.keep x31
       have bt_32:=bt_26.keep x31
       have bc_32:=bc_26.keep x31
       have be_32:=be_26.keep x31
       obtain ⟨g33,h33,gx,gc⟩:=G4 (S0:=S) c31 br_32 rfl (Nat.le_refl _) y32 (xs:=(exC 7 (tk ts i).pos 0 [] false (.sl 1 0 6 [.agg xs8,.agg xs15,.agg xs25]))) rfl
       simp only [B1,Bj,A5,Bc,Ba,A0,A1,Cp,Bi,B0,Bg,Cs,Nat.reduceLT,Nat.reduceEqDiff,Aa,Ab,Ac,Nh,Dr,Fb,Fa,Du,Ep,Ei,g33,h33]
       exact ⟨_,_,rfl,(.mk 7 (tk ts i).pos 0 [] false _ _ (.row _ _ _ _ (.cons _ _ _ _ hr8 (.cons _ _ _ _ hr15 (.cons _ _ _ _ hr25 .nil))))),gx,gc,hi25⟩
 ·rw [if_neg hm] at ho ⊢
  simp only [A6,Bk,Bj,Ch,A7,Bf,Bh,Bd,A5,Bc,Ba,Ce,A0,A1,Bm,B5,ofOpt,ofOptS,Bb,Cp,Bz,Nat.reduceLT,Nat.reduceEqDiff,Aa,Ab,Ac,Ae,Aj,Ak,Tryz.f47,Gu,fp0,Ec,hf1]
  refine WC.mono (Np c1 hp1 hi hts 1 0 [[105,102]] (by decide) hm) ?_
  rintro _ ⟨S34,rfl,x34,c34,hi34,hp34⟩
  have y35:=(y2).trans x34
  have br_35:=br.keep x34
  obtain ⟨S36,q36,x36,c36,bt,hp36⟩:=Fs c34 hp34 Ea
  have y37:=(y35).trans x36
  have br_37:=br_35.keep x36
  simp only [Bo,A6,Bk,Bl,Bj,Ch,A7,Bf,Br,Bh,Bu,Bd,Bp,De,A5,Bc,Ba,A0,A1,Bm,B5,ofOpt,ofOptS,Cp,Fj,C6,Db,Nat.reduceLT,Nat.reduceEqDiff,Aa,Ab,Ac,Ag,Ah,Aj,Ak,Au,G9,Cw,hf2,hf3,q36]
  refine WC.mono (iharrow _ _ c36 hp36 hi34 ho) ?_
  cases hX38:P ts n .arrow i with
  | out=>exact absurd hX38 ho
  | bad a e =>
   rintro _ ⟨S38,rfl,x38⟩
   simp only [Cl,Cq,Cg]
   exact ⟨_,rfl,y37.trans x38⟩
  | ok a38 j38 =>
   rintro _ ⟨v38,S38,rfl,hr38,x38,c38,hi38⟩
   obtain ⟨xs38,rfl,hl38⟩:=RepE.agg hr38
   have hp38:p < S38.next:=Nat.lt_of_lt_of_le hp36 x38.1
   have y39:=(y37).trans x38
   have br_39:=br_37.keep x38
   have bt_39:=bt.keep x38
   obtain ⟨g40,h40,gx,gc⟩:=G4 (S0:=S) c38 br_39 rfl (Nat.le_refl _) y39 (xs:=xs38) hl38
   simp only [B1,Bj,Dd,Ch,A7,Br,Bu,Bd,Bp,A5,Bc,Ba,A0,A1,Cp,Bi,B0,Bg,Cs,Nat.reduceLT,Nat.reduceEqDiff,Aa,Ab,Ac,g40,h40]
   exact ⟨_,_,rfl,hr38,gx,gc,hi38⟩
theorem arrow_p (iharrow:Con p k ts 80 (P ts n .arrow)) (ihor:Con p k ts 116 (P ts n .or)):Con p k ts 80 (P ts (n + 1) .arrow):=fun S i h hp hi ho=>by
 obtain ⟨fn1,hf1⟩:=Lj
 obtain ⟨fn2,hf2⟩:=fnOk80
 obtain ⟨fn3,hf3⟩:=fnOk116
 obtain ⟨fn4,hf4⟩:=X4
 obtain ⟨fn5,hf5⟩:=fnOk117
 refine Dv Tryz.f80 (by kernel_rfl) (by kernel_rfl) (by kernel_rfl) (by show (_:Nat) ≤ _;simp [Tryz.f80]) ?_
 have eP:P ts (n + 1) .arrow i=(P ts n .or i).bind fun x j=>if (tk ts j).text ∈ [[45,62]] then (P ts n .arrow (j + 1)).bind fun y m=>.ok (.mk 8 (tk ts j).pos 0 [] false [x,y]) m else if Iu x=false then .ok x j else if (tk ts j).text ∈ [[102,98,121]] then (P ts n .arrow (j + 1)).bind fun y m=>.ok (.mk 9 (tk ts j).pos 0 [] false [x,y]) m else .ok x j:=rfl
 rw [eP] at ho ⊢
 clear eP
 obtain ⟨x1,c1,br,hp1⟩:=Ks h hp
 have y2:=x1
 have ne3:=Gp ho
 simp only [A6,Bk,Bj,Ch,A7,Bf,Bh,Bd,A5,Bc,Ba,Ce,A0,A1,Bm,B5,ofOpt,ofOptS,Cp,Nat.reduceLT,Nat.reduceEqDiff,Aa,Ab,Ac,Ae,Aj,Ak,Tryz.f80,Gu,hf3]
 refine WC.mono (ihor _ _ c1 hp1 hi ne3) ?_
 cases hX4:P ts n .or i with
 | out=>exact absurd hX4 ne3
 | bad a e =>
  rintro _ ⟨S4,rfl,x4⟩
  simp only [Cl,Cq,Cg]
  exact ⟨_,rfl,y2.trans x4⟩
 | ok a4 j4 =>
  rw [hX4] at ho; rw [D2] at ho ⊢
  rintro _ ⟨v4,S4,rfl,hr4,x4,c4,hi4⟩
  obtain ⟨xs4,rfl,hl4⟩:=RepE.agg hr4
  have rf4:=RepE.refl hr4
  have hp4:p < S4.next:=Nat.lt_of_lt_of_le hp1 x4.1
  have y5:=(y2).trans x4
  have br_5:=br.keep x4
  obtain ⟨S6,q6,x6,c6,bx,hp6⟩:=Vm c4 hp4 (xs:=xs4) hl4
  have y7:=(y5).trans x6
  have br_7:=br_5.keep x6
  by_cases hm:(tk ts j4).text ∈ [[45,62]]
  ·rw [if_pos hm] at ho ⊢
   simp only [A6,Bk,Bj,Ch,A7,Bf,Br,Bh,Bu,Bd,Bp,A5,Bc,Ba,A0,A1,Bm,B5,ofOpt,ofOptS,Bb,Cp,Bz,Nat.reduceLT,Nat.reduceEqDiff,Aa,Ab,Ac,Aj,Ak,Gu,fp0,Ec,hf1,q6]
   refine WC.mono (L4 c6 hp6 hi4 hts 1 0 [[45,62]] (by decide) (by decide) hm) ?_
   rintro _ ⟨S8,rfl,x8,c8,hi8,hp8⟩
   have y9:=(y7).trans x8
   have br_9:=br_7.keep x8
   have bx_9:=bx.keep x8
   obtain ⟨S10,q10,x10,c10,bt,hp10⟩:=Fs c8 hp8 (tk ts j4)
   have y11:=(y9).trans x10
   have br_11:=br_9.keep x10
   have bx_11:=bx_9.keep x10
   have l12:=bt.ld68
   have l13:=bx_11.ld30 hl4
   simp only [Bo,A6,Co,Bk,Bl,Bj,Ch,A7,Bf,Br,Bh,Bu,Bd,Bp,De,A5,Bc,Ba,A0,A1,Bm,B5,ofOpt,ofOptS,Cp,Nat.reduceLT,Nat.reduceEqDiff,Aa,Ab,Ac,Ag,Ah,Aj,Ak,G9,Cw,hf5,q10,l13]
   refine Fv [(0,true),(1,true),(2,true),(3,true),(1,false),(0,false),(4,true),(5,true),(6,true)] (by kernel_rfl) (by kernel_rfl) ?_
   have ne14:=Gp ho
   simp only [A5,Bc,Ba,A0,A1,Bm,B5,ofOpt,Cp,Nat.reduceLT,Nat.reduceEqDiff,Aa,Ab,Ac,Af,Ag,Ah,Aj,Ak,Am,Dr,Ee,Eb,Du,F4,hf2,l12,l13]
   refine WC.mono (iharrow _ _ c10 hp10 hi8 ne14) ?_
   cases hX15:P ts n .arrow (j4 + 1) with
   | out=>exact absurd hX15 ne14
   | bad a e =>
    rintro _ ⟨S15,rfl,x15⟩
    simp only [Cl,Cg,Fp,F7]
    exact ⟨_,rfl,y11.trans x15⟩
   | ok a15 j15 =>
    rw [hX15] at ho; rw [D2] at ho ⊢
    rintro _ ⟨v15,S15,rfl,hr15,x15,c15,hi15⟩
    obtain ⟨xs15,rfl,hl15⟩:=RepE.agg hr15
    have rf15:=RepE.refl hr15
    have hp15:p < S15.next:=Nat.lt_of_lt_of_le hp10 x15.1
    have y16:=(y11).trans x15
    have br_16:=br_11.keep x15
    have bx_16:=bx_11.keep x15
    have bt_16:=bt.keep x15
    have l17:=bt_16.ld68
    have l18:=bx_16.ld30 hl4
    have l19:=lR xs4 xs15 hl4 hl15
    simp only [A5,Bc,Ba,A0,A1,Bm,B5,ofOpt,Bb,Cp,Bz,Nat.reduceLT,Nat.reduceEqDiff,Aa,Ab,Ac,Aj,Ak,Dr,Kf,Ee,Eb,Du,Ep,D6,Em,G1,hf4,rf4,l17,l18,l19]
    refine WC.mono (T9 _ 8 (tk ts j4) (.sl 1 0 6 [.agg xs4,.agg xs15]) (.inr ⟨_,_,_,rfl⟩)) ?_
    rintro _ ⟨S20,rfl,k20⟩
    have x20:=k20.x p
    have c20:=c15.keep hp15 k20
    have hp20:p < S20.next:=Nat.lt_of_lt_of_le hp15 x20.1
    have y21:=(y16).trans x20
    have br_21:=br_16.keep x20
    have bx_21:=bx_16.keep x20
    have bt_21:=bt_16.keep x20
    obtain ⟨g22,h22,gx,gc⟩:=G4 (S0:=S) c20 br_21 rfl (Nat.le_refl _) y21 (xs:=(exC 8 (tk ts j4).pos 0 [] false (.sl 1 0 6 [.agg xs4,.agg xs15]))) rfl
    simp only [B1,Bj,Dd,A5,Bc,Ba,A0,A1,Cp,Bi,B0,Bg,Cs,Nat.reduceLT,Nat.reduceEqDiff,Aa,Ab,Ac,Nh,Dr,Fb,Fa,Du,Ep,Ei,g22,h22]
    exact ⟨_,_,rfl,(.mk 8 (tk ts j4).pos 0 [] false _ _ (.row _ _ _ _ (.cons _ _ _ _ hr4 (.cons _ _ _ _ hr15 .nil)))),gx,gc,hi15⟩
  ·rw [if_neg hm] at ho ⊢
   simp only [A6,Bk,Bj,Ch,A7,Bf,Br,Bh,Bu,Bd,Bp,A5,Bc,Ba,A0,A1,Bm,B5,ofOpt,ofOptS,Bb,Cp,Bz,Nat.reduceLT,Nat.reduceEqDiff,Aa,Ab,Ac,Aj,Ak,Gu,fp0,Ec,hf1,q6]
   refine WC.mono (Np c6 hp6 hi4 hts 1 0 [[45,62]] (by decide) hm) ?_
   rintro _ ⟨S23,rfl,x23,c23,hi23,hp23⟩
   have y24:=(y7).trans x23
   have br_24:=br_7.keep x23
   have bx_24:=bx.keep x23
   obtain ⟨S25,q25,x25,c25,bt,hp25⟩:=Fs c23 hp23 Ea
   have y26:=(y24).trans x25
   have br_26:=br_24.keep x25
   have bx_26:=bx_24.keep x25
   have l27:=bx_26.ld30 hl4
   simp only [Bo,A6,Co,Bk,Bl,Bj,Ch,A7,Bf,Br,Bh,Bu,Bd,Bp,C8,A5,Bc,Ba,A0,A1,Bm,B5,ofOpt,ofOptS,Cp,Nat.reduceLT,Nat.reduceEqDiff,Aa,Ab,Ac,Ag,Ah,Aj,Ak,G9,Cw,hf5,q25,l27]
   refine WC.mono (const_w _ xs4 _ hr4) ?_
   rintro _ ⟨S28,rfl,k28⟩
   have x28:=k28.x p
   have c28:=c25.keep hp25 k28
   have hp28:p < S28.next:=Nat.lt_of_lt_of_le hp25 x28.1
   have y29:=(y26).trans x28
   have br_29:=br_26.keep x28
   have bx_29:=bx_26.keep x28
   have bt_29:=bt.keep x28
   have l30:=bx_29.ld30 hl4
   by_cases hcn:Iu a4=false
   ·rw [if_pos hcn] at ho ⊢
    rw [hcn]
    obtain ⟨g31,h31,gx,gc⟩:=G4 (S0:=S) c28 br_29 rfl (Nat.le_refl _) y29 (xs:=xs4) hl4
    simp only [Bo,A6,Bk,Bl,B1,Bj,Dd,Ch,A7,Bf,Br,Bh,Bu,Bd,Bp,De,A5,Bc,Ba,A0,A1,Bm,B5,ofOpt,Bb,Cp,Fj,Bz,Bi,B0,Bg,Cs,C6,Db,Nat.reduceLT,Nat.reduceEqDiff,Aa,Ab,Ac,Aj,Ak,Au,fp0,Ec,hf1,l30,g31,h31]
    exact ⟨_,_,rfl,hr4,gx,gc,hi23⟩
   ·rw [if_neg hcn] at ho ⊢
    have hcn2:Iu a4=true:=by simpa using hcn
    rw [hcn2]
    by_cases hm2:(tk ts j4).text ∈ [[102,98,121]]
    ·rw [if_pos hm2] at ho ⊢
     simp only [Bo,A6,Bk,Bl,Bj,Ch,A7,Bf,Bh,Bd,Bp,C8,A5,Bc,Ba,A0,A1,Bm,B5,ofOpt,Bb,Cp,Fj,Bz,C6,Db,Nat.reduceLT,Nat.reduceEqDiff,Aa,Ab,Ac,Aj,Ak,Ar,fp0,Ec,hf1,l30]
     refine WC.mono (L4 c28 hp28 hi23 hts 1 0 [[102,98,121]] (by decide) (by decide) hm2) ?_
     rintro _ ⟨S32,rfl,x32,c32,hi32,hp32⟩
     have y33:=(y29).trans x32
     have br_33:=br_29.keep x32
     have bx_33:=bx_29.keep x32
     have bt_33:=bt_29.keep x32
     obtain ⟨S34,q34,x34,c34,bt2,hp34⟩:=Fs c32 hp32 (tk ts j4)
     have y35:=(y33).trans x34
     have br_35:=br_33.keep x34
     have bx_35:=bx_33.keep x34
     have bt_35:=bt_33.keep x34
     have l36:=bt2.ld68
     have l37:=bx_35.ld30 hl4
     simp only [Bo,A6,Co,Bk,Bl,Bj,Ch,A7,Bf,Br,Bu,Bd,Bp,De,A5,Bc,Ba,A0,A1,ofOpt,ofOptS,Cp,Nat.reduceLT,Nat.reduceEqDiff,Aa,Ab,Ac,Ag,Ah,G9,Cw,q34,l37]
     refine Fv [(0,true),(1,true),(2,true),(3,true),(1,false),(0,false),(4,true),(5,true),(6,true)] (by kernel_rfl) (by kernel_rfl) ?_
     have ne38:=Gp ho
     simp only [A5,Bc,Ba,A0,A1,Bm,B5,ofOpt,Cp,Nat.reduceLT,Nat.reduceEqDiff,Aa,Ab,Ac,Af,Ag,Ah,Aj,Ak,Am,Dr,Ee,Eb,Du,F4,hf2,l36,l37]
     refine WC.mono (iharrow _ _ c34 hp34 hi32 ne38) ?_
     cases hX39:P ts n .arrow (j4 + 1) with
     | out=>exact absurd hX39 ne38
     | bad a e =>
      rintro _ ⟨S39,rfl,x39⟩
      simp only [Cl,Cg,Fp,F7]
      exact ⟨_,rfl,y35.trans x39⟩
     | ok a39 j39 =>
      rw [hX39] at ho; rw [D2] at ho ⊢
      rintro _ ⟨v39,S39,rfl,hr39,x39,c39,hi39⟩
      obtain ⟨xs39,rfl,hl39⟩:=RepE.agg hr39
      have rf39:=RepE.refl hr39
      have hp39:p < S39.next:=Nat.lt_of_lt_of_le hp34 x39.1
      have y40:=(y35).trans x39
      have br_40:=br_35.keep x39
      have bx_40:=bx_35.keep x39
      have bt_40:=bt2.keep x39
      have bt2_40:=bt2.keep x39
      have l41:=bt_40.ld68
      have l42:=bx_40.ld30 hl4
      have l43:=lR xs4 xs39 hl4 hl39
      simp only [A5,Bc,Ba,A0,A1,Bm,B5,ofOpt,Bb,Cp,Bz,Nat.reduceLT,Nat.reduceEqDiff,Aa,Ab,Ac,Aj,Ak,Dr,Kf,Ee,Eb,Du,Ep,D6,Em,G1,hf4,rf4,l41,l42,l43]
      refine WC.mono (T9 _ 9 (tk ts j4) (.sl 1 0 6 [.agg xs4,.agg xs39]) (.inr ⟨_,_,_,rfl⟩)) ?_
      rintro _ ⟨S44,rfl,k44⟩
      have x44:=k44.x p
      have c44:=c39.keep hp39 k44
      have hp44:p < S44.next:=Nat.lt_of_lt_of_le hp39 x44.1
      have y45:=(y40).trans x44
      have br_45:=br_40.keep x44
      have bx_45:=bx_40.keep x44
      have bt_45:=bt_40.keep x44
      have bt2_45:=bt2_40.keep x44
      obtain ⟨g46,h46,gx,gc⟩:=G4 (S0:=S) c44 br_45 rfl (Nat.le_refl _) y45 (xs:=(exC 9 (tk ts j4).pos 0 [] false (.sl 1 0 6 [.agg xs4,.agg xs39]))) rfl
      simp only [B1,Bj,Dd,A5,Bc,Ba,A0,A1,Cp,Bi,B0,Bg,Cs,Nat.reduceLT,Nat.reduceEqDiff,Aa,Ab,Ac,Nh,Dr,Fb,Fa,Du,Ep,Ei,g46,h46]
      exact ⟨_,_,rfl,(.mk 9 (tk ts j4).pos 0 [] false _ _ (.row _ _ _ _ (.cons _ _ _ _ hr4 (.cons _ _ _ _ hr39 .nil)))),gx,gc,hi39⟩
    ·rw [if_neg hm2] at ho ⊢
     simp only [Bo,A6,Bk,Bl,Bj,Ch,A7,Bf,Bh,Bd,Bp,C8,A5,Bc,Ba,A0,A1,Bm,B5,ofOpt,Bb,Cp,Fj,Bz,C6,Db,Nat.reduceLT,Nat.reduceEqDiff,Aa,Ab,Ac,Aj,Ak,Ar,fp0,Ec,hf1,l30]
     refine WC.mono (Np c28 hp28 hi23 hts 1 0 [[102,98,121]] (by decide) hm2) ?_
     rintro _ ⟨S47,rfl,x47,c47,hi47,hp47⟩
     have y48:=(y29).trans x47
     have br_48:=br_29.keep x47
     have bx_48:=bx_29.keep x47
     have bt_48:=bt_29.keep x47
     obtain ⟨S49,q49,x49,c49,bt2,hp49⟩:=Fs c47 hp47 Ea
     have y50:=(y48).trans x49
     have br_50:=br_48.keep x49
     have bx_50:=bx_48.keep x49
     have bt_50:=bt_48.keep x49
     have l51:=bx_50.ld30 hl4
     obtain ⟨g52,h52,gx,gc⟩:=G4 (S0:=S) c49 br_50 rfl (Nat.le_refl _) y50 (xs:=xs4) hl4
     simp only [Bo,A6,Co,Bk,Bl,B1,Bj,Ch,A7,Bf,Br,Bu,Bd,Bp,C8,A5,Bc,Ba,A0,A1,ofOpt,ofOptS,Cp,Bi,B0,Bg,Cs,Nat.reduceLT,Nat.reduceEqDiff,Aa,Ab,Ac,Ag,Ah,G9,Cw,q49,l51,g52,h52]
     exact ⟨_,_,rfl,hr4,gx,gc,hi47⟩
end
end Go.Ax
