/- Pg -/
import Derived.Test.YtjgknelmjdallaaGreatDoorTdPf
set_option linter.unusedVariables false
set_option linter.unusedSimpArgs false
set_option maxHeartbeats 16000000
noncomputable section
namespace Go.Ax
open Go.RowKit Go.Proofs
set_option maxRecDepth 100000
theorem fnOk215:∃ fn,E1.F 215=some fn:=Option.isSome_iff_exists.1 (by kernel_rfl)
theorem fnOk159:∃ fn,E1.F 159=some fn:=Option.isSome_iff_exists.1 (by kernel_rfl)
theorem fnOk182:∃ fn,E1.F 182=some fn:=Option.isSome_iff_exists.1 (by kernel_rfl)
theorem fnOk202:∃ fn,E1.F 202=some fn:=Option.isSome_iff_exists.1 (by kernel_rfl)
theorem fnOk217:∃ fn,E1.F 217=some fn:=Option.isSome_iff_exists.1 (by kernel_rfl)
theorem fnOk218:∃ fn,E1.F 218=some fn:=Option.isSome_iff_exists.1 (by kernel_rfl)
theorem fnOk219:∃ fn,E1.F 219=some fn:=Option.isSome_iff_exists.1 (by kernel_rfl)
theorem fnOk220:∃ fn,E1.F 220=some fn:=Option.isSome_iff_exists.1 (by kernel_rfl)
theorem st30_off {S:St} {id kind pos:Nat} {n:Int} {name:List UInt8} {off:Bool} {kv:AV} (h:S.mem.get id=some (.box (exC kind pos n name off kv))) (o:Bool):Dt Tryz.prog S 4 (.ptr id 4) (.v (.bool o))=some (S.put id (exC kind pos n name o kv)):=by
 have h2:(AV.v (.bool o)).noTup=true:=rfl
 have s4:Fu Tryz.prog 4=some 1:=by kernel_rfl
 simp [Dt,h,s4,h2,AV.cells,St.put,exC]
section
variable {p k:Nat} {ts:List Tk} (hts:TokOk ts)
include hts
theorem tS (S0:St):∀ (n:Nat) (x:PE) (i:Nat) (t:T AV) (S:St) (b:Nat) (xs0:List AV),Ls ts n x i ≠ .out →
  t.get 0=some (.ptr p 0) → t.get 2=some (.ptr S0.next 0) → t.get 3=some (.ptr b 0) → Cur S p k ts i → p < S.next → i < ts.length → Has p S S0.next exZ → Has p S b xs0 → xs0.length=6 → RepE (.agg xs0) x → S0.next ≤ b → b ≠ S0.next → D7 p S0 S →
  WX E1 30 (.loop nA) ⟨t,[]⟩ S (LoopEx p k ts S0 2 (Ls ts n x i))
 | 0,x,i,t,S,b,xs0,ho,h0,h2,h3,h,hp,hi,hr,hb,hl0,hr0,hle,hne,hx=>absurd rfl ho
 | n + 1,x,i,t,S,b,xs0,ho,h0,h2,h3,h,hp,hi,hr,hb,hl0,hr0,hle,hne,hx=>by
  refine Do (Dh ?_)
  obtain ⟨fn1,hf1⟩:=Lj
  obtain ⟨fn2,hf2⟩:=X4
  obtain ⟨fn3,hf3⟩:=fnOk179
  have eP:Ls ts (n + 1) x i=if (tk ts i).text ∈ [[119,104,101,110]] then (I5 ts (i + 1)).bind fun c j=>Ls ts n (.mk 11 (tk ts i).pos 0 c.1 c.2 [x]) j else .ok x i:=rfl
  rw [eP] at ho ⊢
  clear eP
  by_cases hm:(tk ts i).text ∈ [[119,104,101,110]]
  ·rw [if_pos hm] at ho ⊢
   simp only [A6,Bk,Bq,A7,Bf,Bh,Bd,A5,Bc,Ba,A0,Bm,B5,ofOpt,Bb,Cp,Bz,Nat.reduceLT,Nat.reduceEqDiff,Aa,Ab,Ac,Aj,Ak,Tryz.f213,fp0,Ec,hf1,h0,nA]
   refine WC.mono (L4 h hp hi hts 1 0 [[119,104,101,110]] (by decide) (by decide) hm) ?_
   rintro _ ⟨S1,rfl,x1,c1,hi1,hp1⟩
   have y2:=(hx).trans x1
   have br_2:=hr.keep x1
   have bx_2:=hb.keep x1
   obtain ⟨S3,q3,x3,c3,bt,hp3⟩:=Fs c1 hp1 (tk ts i)
   have y4:=(y2).trans x3
   have br_4:=br_2.keep x3
   have bx_4:=bx_2.keep x3
   have l5:=bt.ld68
   have l6:=bx_4.ld30 hl0
   have l7:=Yx xs0 hl0
   simp only [Bo,A6,Bk,Bl,Bj,Ch,A7,Bf,Br,Bh,Bu,Bd,Bp,C8,A5,Bc,Ba,A0,Bm,B5,ofOpt,ofOptS,Bb,Cp,Fj,Bz,C6,Db,Nat.reduceLT,Nat.reduceEqDiff,Aa,Ab,Ac,Ag,Ah,Aj,Ak,Ar,G9,Cw,hf2,h2,h3,q3,l5,l6,l7]
   refine WC.mono (T9 _ 11 (tk ts i) (.sl 1 0 6 [.agg xs0]) (.inr ⟨_,_,_,rfl⟩)) ?_
   rintro _ ⟨S8,rfl,k8⟩
   have x8:=k8.x p
   have c8:=c3.keep hp3 k8
   have hp8:p < S8.next:=Nat.lt_of_lt_of_le hp3 x8.1
   have y9:=(y4).trans x8
   have br_9:=br_4.keep x8
   have bx_9:=bx_4.keep x8
   have bt_9:=bt.keep x8
   have st900:=Xa (ys:=exC 11 (tk ts i).pos 0 [] false (.sl 1 0 6 [.agg xs0])) bx_9.get hl0 rfl
   obtain ⟨px900,pc900,pb900,pr900⟩:=Zj (ys:=exC 11 (tk ts i).pos 0 [] false (.sl 1 0 6 [.agg xs0])) y9 hle bx_9 c8 br_9 hne
   simp only [A6,Bj,Ch,A7,Bf,Br,Bh,Bu,Bd,Bp,A5,Bc,Ba,A0,Bm,B5,ofOpt,Cp,Nat.reduceLT,Nat.reduceEqDiff,Aa,Ab,Ac,Aj,Ak,hf3,h0,h3,st900]
   refine WC.mono (clock_p _ _ _ _ _ pc900 hp8 hi1 hts) ?_
   cases hX10:I5 ts (i + 1) with
   | out=>exact absurd hX10 (Gp ho)
   | bad a e =>
    rintro _ ⟨S10,rfl,x10⟩
    simp only [Dy,Dc,Cq]
    exact ⟨_,_,rfl,px900.trans x10⟩
   | ok a10 j10 =>
    rw [hX10] at ho; rw [D2] at ho ⊢
    rintro _ ⟨_,S10,rfl,rfl,x10,c10,hi10⟩
    have hp10:p < S10.next:=Nat.lt_of_lt_of_le hp8 x10.1
    have y11:=(px900).trans x10
    have br_11:=pr900.keep x10
    have bx_11:=pb900.keep x10
    have stn:Dt Tryz.prog S10 9 (.ptr b 3) (Bt a10.1)=some (S10.put b (exC 11 (tk ts i).pos 0 a10.1 false (.sl 1 0 6 [.agg xs0]))):=Yr bx_11.get a10.1
    have st901:=(rfl:(0:Nat)=0)
    obtain ⟨px901,pc901,pb901,pr901⟩:=Zj (ys:=exC 11 (tk ts i).pos 0 a10.1 false (.sl 1 0 6 [.agg xs0])) y11 hle bx_11 c10 br_11 hne
    have st902:=st30_off pb901.get a10.2
    obtain ⟨px902,pc902,pb902,pr902⟩:=Zj (ys:=exC 11 (tk ts i).pos 0 a10.1 a10.2 (.sl 1 0 6 [.agg xs0])) px901 hle pb901 pc901 pr901 hne
    simp only [Bw,Cf,Ch,A7,Bf,Br,Bu,Bd,Bp,A5,Bc,Ba,A0,ofOpt,Cp,Nat.reduceLT,Nat.reduceEqDiff,Aa,Ab,Ac,Ag,Ah,Cw,h3,fe3,fe4,stn,st902]
    exact tS S0 n _ _ _ _ b _ ho (by simp [T.get_set,h0]) (by simp [T.get_set,h2]) (by simp [T.get_set,h3]) pc902 hp10 hi10 pr902 pb902 rfl (.mk 11 (tk ts i).pos 0 _ _ _ _ (.row _ _ _ _ (.cons _ _ _ _ hr0 .nil))) hle hne px902
  ·rw [if_neg hm] at ho ⊢
   simp only [A6,Bk,Bq,A7,Bf,Bh,Bd,A5,Bc,Ba,A0,Bm,B5,ofOpt,Bb,Cp,Bz,Nat.reduceLT,Nat.reduceEqDiff,Aa,Ab,Ac,Aj,Ak,Tryz.f213,fp0,Ec,hf1,h0,nA]
   refine WC.mono (Np h hp hi hts 1 0 [[119,104,101,110]] (by decide) hm) ?_
   rintro _ ⟨S12,rfl,x12,c12,hi12,hp12⟩
   have y13:=(hx).trans x12
   have br_13:=hr.keep x12
   have bx_13:=hb.keep x12
   obtain ⟨S14,q14,x14,c14,bt,hp14⟩:=Fs c12 hp12 Ea
   have y15:=(y13).trans x14
   have br_15:=br_13.keep x14
   have bx_15:=bx_13.keep x14
   have l16:=bx_15.ld30 hl0
   obtain ⟨g17,h17,gx,gc⟩:=G4 (S0:=S0) c14 br_15 rfl (Nat.le_refl _) y15 (xs:=xs0) hl0
   simp only [Dk,Bo,A6,Bk,Bl,B1,Bj,Dd,C9,Ch,A7,Bf,Br,Bu,Bd,Bp,De,A5,Bc,Ba,A0,ofOpt,ofOptS,Cp,Fj,C6,Db,Nat.reduceLT,Nat.reduceEqDiff,Aa,Ab,Ac,Ag,Ah,Au,G9,Cw,h2,h3,q14,l16,g17]
   exact ⟨_,_,xs0,rfl,by simp [T.get_set,h2],h17,hr0,gx,gc,hi12⟩
variable (n:Nat)
theorem when_p (ihprimary:Con p k ts 214 (P ts n .primary)):Con p k ts 213 (P ts (n + 1) .when):=fun S i h hp hi ho=>by
 obtain ⟨fn1,hf1⟩:=fnOk214
 refine Dv Tryz.f213 (by kernel_rfl) (by kernel_rfl) (by kernel_rfl) (by show (_:Nat) ≤ _;simp [Tryz.f213]) ?_
 have eP:P ts (n + 1) .when i=(P ts n .primary i).bind fun x j=>Ls ts n x j:=rfl
 rw [eP] at ho ⊢
 clear eP
 obtain ⟨x1,c1,br,hp1⟩:=Ks h hp
 have y2:=x1
 have ne3:=Gp ho
 simp only [A6,Bk,Bj,Ch,A7,Bf,Bh,Bd,A5,Bc,Ba,Ce,A0,A1,Bm,B5,ofOpt,ofOptS,Cp,Nat.reduceLT,Nat.reduceEqDiff,Aa,Ab,Ac,Ae,Aj,Ak,Tryz.f213,Gu,hf1]
 refine WC.mono (ihprimary _ _ c1 hp1 hi ne3) ?_
 cases hX4:P ts n .primary i with
 | out=>exact absurd hX4 ne3
 | bad a e =>
  rintro _ ⟨S4,rfl,x4⟩
  simp only [Cl,Cq,Cg]
  exact ⟨_,rfl,y2.trans x4⟩
 | ok a4 j4 =>
  rw [hX4] at ho; rw [D2] at ho ⊢
  rintro _ ⟨v4,S4,rfl,hr4,x4,c4,hi4⟩
  obtain ⟨xs4,rfl,hl4⟩:=RepE.agg hr4
  have rf4:=RepE.refl hr4
  have hp4:p < S4.next:=Nat.lt_of_lt_of_le hp1 x4.1
  have y5:=(y2).trans x4
  have br_5:=br.keep x4
  obtain ⟨S6,q6,x6,c6,bx,hp6⟩:=Vm c4 hp4 (xs:=xs4) hl4
  have y7:=(y5).trans x6
  have br_7:=br_5.keep x6
  simp only [Bq,Dx,Bj,Ch,A7,Bf,Br,Bu,Bd,Bp,A5,Bc,Ba,A0,A1,ofOptS,Cp,Nat.reduceLT,Nat.reduceEqDiff,Aa,Ab,Ac,Gu,q6]
  have hbr:=br_7.lt
  refine WX.mono (tS hts S n a4 j4 _ _ _ xs4 ho (by simp [T.get_set]) (by simp [T.get_set]) (by simp [T.get_set]) c6 hp6 hi4 br_7 bx hl4 hr4 (Nat.le_trans (Nat.le_succ _) x4.1) (by have:=x4.1; have e:(S.newBox exZ).next=S.next + 1:=rfl; omega) y7) ?_
  cases hR:Ls ts n a4 j4 with
  | out=>exact absurd hR ho
  | bad a e =>
   rintro _ ⟨t9,S9,rfl,x9⟩
   simp only [Dc,Cg]
   exact ⟨_,rfl,x9⟩
  | ok a j =>
   rintro _ ⟨t9,S9,ys,rfl,g9,l9,r9,x9,c9,i9⟩
   simp only [C9,Cp,Bi,B0,Bg,Cs,g9,l9]
   exact ⟨_,_,rfl,r9,x9,c9,i9⟩
omit hts in
theorem RepF.app:∀ {es:List AV} {l:List PE} {a:AV} {e:PE},RepF es l → RepE a e → RepF (es ++ [a]) (l ++ [e]):=fun {es l a e} h h2=>by
 induction es generalizing l with
 | nil=>cases h; exact .cons _ _ _ _ h2 .nil
 | cons x r ih=>cases h with
  | cons _ e2 _ l2 h3 h4=>exact .cons _ _ _ _ h3 (ih h4)
def RowE (lo:Nat) (S:St) (tok:Nat) (es:List AV):Prop:=es ≠ [] ∧ (tok=1 ∨ (2 ≤ tok ∧ lo ≤ tok ∧ tok < S.next ∧ S.mem.get tok=some (.tip (es.length * 6))))
omit hts in
theorem RowE.keep {lo p:Nat} {S S':St} {tok:Nat} {es:List AV} (h:RowE lo S tok es) (k:D7 p S S') (hp:p < lo):RowE lo S' tok es:=by
 refine ⟨h.1,?_⟩
 rcases h.2 with h | ⟨h1,h2,h3,h4⟩
 ·exact .inl h
 ·exact .inr ⟨h1,h2,Nat.lt_of_lt_of_le h3 k.1,by rw [k.2 tok h3 (by omega)]; exact h4⟩
omit hts in
theorem i30:(Tryz.prog.info? 30).map (fun i=>(i.zero,i.size,i.bytes))=some (some (.agg #[.int .i64 0,.int .i64 0,.int .i64 0,.string ⟨#[]⟩,.bool false,.slice none 0 0]),6,72):=by kernel_rfl
omit hts in
theorem u28:Tryz.prog.underlying 28=some (.slice 30):=by kernel_rfl
omit hts in
theorem app28 (S:St) (a b:AV):Gw E1 S 28 28 a b=(match I9 Tryz.prog S 28 28 false a b with | some r=>some r | none=>Fh Tryz.prog S 28 28 a b):=rfl
omit hts in
theorem rowE_push {lo:Nat} {S:St} {tok:Nat} {es:List AV} (h:RowE lo S tok es) (hn:2 ≤ S.next) (hlo:lo ≤ S.next) (xs:List AV) (hx:xs.length=6) (hl:es.length ≤ 2000000) :
  ∃ S',Gw E1 S 28 28 (.sl tok 0 6 es) (.sl 1 0 6 [.agg xs])=some (.sl S.next 0 6 (es ++ [.agg xs]),S') ∧ RowE lo S' S.next (es ++ [.agg xs]) ∧ S.next ≤ S'.next ∧ ∀ id,id < lo → S'.mem.get id=S.mem.get id:=by
 obtain ⟨i,hi,hz0,hz1,hz2⟩:=Hb i30
 have hb1:(es.length + 1) * 72 ≤ 140737488355328:=by omega
 have hb2:es.length + 1 ≤ 9223372036854775807:=by omega
 have hM:I9 Tryz.prog S 28 28 false (.sl tok 0 6 es) (.sl 1 0 6 [.agg xs])=none:=by
  cases es with
  | nil=>exact absurd rfl h.1
  | cons e r=>simp [I9,e28,hi,hz0,hz1,hz2,Mr,u28,Value.cells]
 rw [app28,hM]
 rcases h.2 with rfl | ⟨h1,h2,h3,h5⟩
 ·refine ⟨S.grown 1 ((es ++ [AV.agg xs]).length * 6),?_,⟨by simp,.inr ⟨hn,hlo,Nat.lt_succ_self _,?_⟩⟩,Nat.le_succ _,fun id hid=>?_⟩
  ·simp [Fh,e28,hi,hz0,hz1,hz2,Mr,u28,Value.cells,Px,hb1,hb2]
  ·show (S.mem.set S.next _).get S.next=_
   rw [T.get_set,if_pos rfl]
  ·show (S.mem.set S.next _).get id=_
   rw [T.get_set,if_neg (by omega)]
 ·obtain ⟨k,rfl⟩:∃ k,tok=k + 2:=⟨tok - 2,by omega⟩
  refine ⟨S.grown (k + 2) ((es ++ [AV.agg xs]).length * 6),?_,⟨by simp,.inr ⟨hn,hlo,Nat.lt_succ_self _,?_⟩⟩,Nat.le_succ _,fun id hid=>?_⟩
  ·simp [Fh,e28,hi,hz0,hz1,hz2,Mr,u28,Value.cells,Px,h5,hb1,hb2]
  ·show ((S.mem.set (k + 2) none).set S.next _).get S.next=_
   rw [T.get_set,if_pos rfl]
  ·show ((S.mem.set (k + 2) none).set S.next _).get id=_
   rw [T.get_set,if_neg (by omega),T.get_set,if_neg (by omega)]
def oR:Code:=match Tryz.f202.body with
 | some (.seq _ (.seq _ (.seq (.block _ (.loop c)) _)))=>c
 | _=>.skip
def LoopRow (p k:Nat) (ts:List Tk) (S0:St) (m:Nat) (x:PR (List PE)) (r:O):Prop :=
 (∃ t' S' tok es l i',r=.out (.exit 0) ⟨t',[]⟩ S' ∧ t'.get 0=some (.ptr p 0) ∧ t'.get 5=some (.sl tok 0 6 es) ∧ RepF es l ∧ D7 p S0 S' ∧ Cur S' p k ts i' ∧ i' < ts.length ∧ p < S'.next ∧ x=(Ef ts [[41]] i').bind fun _ j=>.ok l j) ∨
 (∃ t' S' a e,r=.out (.pan (Zm a e)) ⟨t',[]⟩ S' ∧ D7 p S0 S' ∧ x=.bad a e)
omit n
theorem uT (h2p:2 ≤ p) (m:Nat) (kid:Nat → PR PE) (hF:∃ fn,E1.F m=some fn) (hkid:Con p k ts m kid) (S0:St) (hp0:p < S0.next):∀ (n:Nat) (l:List PE) (i:Nat) (t:T AV) (S:St) (tok:Nat) (es:List AV),Ik ts kid n l i ≠ .out → n + es.length ≤ 2000000 →
  t.get 0=some (.ptr p 0) → t.get 1=some (Pu m p) → t.get 5=some (.sl tok 0 6 es) → Cur S p k ts i → p < S.next → i < ts.length → RowE S0.next S tok es → RepF es l → D7 p S0 S →
  WX E1 32 (.loop oR) ⟨t,[]⟩ S (LoopRow p k ts S0 m (Ik ts kid n l i))
 | 0,l,i,t,S,tok,es,ho,hnl,h0,h1,h5,h,hp,hi,hr,hf,hx=>absurd rfl ho
 | n + 1,l,i,t,S,tok,es,ho,hnl,h0,h1,h5,h,hp,hi,hr,hf,hx=>by
  refine Do (Dh ?_)
  obtain ⟨fn1,hf1⟩:=Lj
  obtain ⟨fn2,hf2⟩:=hF
  unfold Pu at h1
  have eP:Ik ts kid (n + 1) l i=if (tk ts i).text ∈ [[44]] then (kid (i + 1)).bind fun y j=>Ik ts kid n (l ++ [y]) j else (Ef ts [[41]] i).bind fun _ j=>.ok l j:=rfl
  rw [eP] at ho ⊢
  clear eP
  by_cases hm:(tk ts i).text ∈ [[44]]
  ·rw [if_pos hm] at ho ⊢
   simp only [A6,Bk,Bq,A7,Bf,Bh,Bd,A5,Bc,Ba,A0,Bm,B5,ofOpt,Bb,Cp,Bz,Nat.reduceLT,Nat.reduceEqDiff,Aa,Ab,Ac,Aj,Ak,Tryz.f202,fp0,Ec,hf1,h0,oR]
   refine WC.mono (L4 h hp hi hts 1 0 [[44]] (by decide) (by decide) hm) ?_
   rintro _ ⟨S1,rfl,x1,c1,hi1,hp1⟩
   have y2:=(hx).trans x1
   obtain ⟨S3,q3,x3,c3,bt,hp3⟩:=Fs c1 hp1 (tk ts i)
   have y4:=(y2).trans x3
   simp only [Bw,Bv,Bo,A6,Bk,Bl,C1,Bj,C7,C5,Ch,A7,Bf,Br,Bh,Bu,Bd,Bp,C8,A5,Bc,Ba,A0,Bm,B5,ofOpt,ofOptS,Cp,Fj,C6,Db,Nat.reduceLT,Nat.reduceEqDiff,Aa,Ab,Ac,Ag,Ah,Ak,Ar,G9,Cw,hf2,h1,h5,q3]
   have ne5:=Gp ho
   refine WC.mono (hkid _ _ c3 hp3 hi1 ne5) ?_
   cases hX6:kid (i + 1) with
   | out=>exact absurd hX6 ne5
   | bad a e =>
    rintro _ ⟨S6,rfl,x6⟩
    simp only [Dy,Dc,Cq]
    exact .inr ⟨_,_,_,_,rfl,y4.trans x6,rfl⟩
   | ok a6 j6 =>
    rw [hX6] at ho; rw [D2] at ho ⊢
    rintro _ ⟨v6,S6,rfl,hr6,x6,c6,hi6⟩
    obtain ⟨xs6,rfl,hl6⟩:=RepE.agg hr6
    have rf6:=RepE.refl hr6
    have hp6:p < S6.next:=Nat.lt_of_lt_of_le hp3 x6.1
    have y7:=(y4).trans x6
    have bt_7:=bt.keep x6
    have l8:=Yx xs6 hl6
    have hr2:RowE S0.next S6 tok es:=by
     have e:D7 p S S6:=((x1).trans x3).trans x6
     exact hr.keep e hp0
    have hle:=y7.1
    obtain ⟨S9,a9,r9,n9,k9⟩:=rowE_push hr2 (by omega) hle xs6 hl6 (by omega)
    have z9:D7 p S0 S9:=⟨Nat.le_trans hle n9,fun id hid hn=>(k9 id hid).trans (y7.2 id hid hn)⟩
    have cc9:Cur S9 p k ts j6:=(k9 p hp0).trans c6
    simp only [Bw,Cf,Ch,A7,Bf,Bd,Bp,A5,Bc,Ba,A0,Bm,ofOpt,ofOptS,Cp,Bz,Nat.reduceLT,Nat.reduceEqDiff,Aa,Ab,Ac,l8,a9]
    exact uT h2p m kid ⟨_,hf2⟩ hkid S0 hp0 n _ _ _ _ _ _ ho (by rw [List.length_append]; simp; omega) (by simp [T.get_set,h0]) (by simp [T.get_set,h1,Pu]) (by simp [T.get_set]) cc9 (by omega) hi6 r9 (hf.app hr6) z9
  ·rw [if_neg hm] at ho ⊢
   simp only [A6,Bk,Bq,A7,Bf,Bh,Bd,A5,Bc,Ba,A0,Bm,B5,ofOpt,Bb,Cp,Bz,Nat.reduceLT,Nat.reduceEqDiff,Aa,Ab,Ac,Aj,Ak,Tryz.f202,fp0,Ec,hf1,h0,oR]
   refine WC.mono (Np h hp hi hts 1 0 [[44]] (by decide) hm) ?_
   rintro _ ⟨S10,rfl,x10,c10,hi10,hp10⟩
   have y11:=(hx).trans x10
   obtain ⟨S12,q12,x12,c12,bt,hp12⟩:=Fs c10 hp10 Ea
   have y13:=(y11).trans x12
   simp only [Bw,Bv,Bo,A6,Bk,Bl,C1,Bj,C7,C5,Ch,A7,Bf,Br,Bh,Bu,Bd,Bp,De,A5,Bc,Ba,A0,Bm,B5,ofOpt,ofOptS,Cp,Fj,C6,Db,Nat.reduceLT,Nat.reduceEqDiff,Aa,Ab,Ac,Ag,Ah,Ak,Au,G9,Cw,hf2,h1,h5,q12]
   exact .inl ⟨_,_,tok,es,l,i,rfl,by simp [T.get_set,h0],by simp [T.get_set,h5],hf,y13,c12,hi10,hp12,rfl⟩
theorem rest_p (h2p:2 ≤ p) (m:Nat) (kid:Nat → PR PE) (hF:∃ fn,E1.F m=some fn) (hkid:Con p k ts m kid) (n:Nat) (hn:n ≤ 1000000) (S:St) (i:Nat) (h:Cur S p k ts i) (hp:p < S.next) (hi:i < ts.length) (ho:((kid i).bind fun x j=>Ik ts kid n [x] j) ≠ .out):WC E1 202 [.ptr p 0,Pu m p] S (Re p k ts S RepK ((kid i).bind fun x j=>Ik ts kid n [x] j)):=by
 refine Dv Tryz.f202 (by kernel_rfl) (by kernel_rfl) (by kernel_rfl) (by show (_:Nat) ≤ _;simp [Tryz.f202]) ?_
 obtain ⟨fn2,hf2⟩:=hF
 obtain ⟨fn3,hf3⟩:=Qa
 have ne1:=Gp ho
 simp only [A6,Bk,Bj,Ch,A7,Bf,Bh,Bd,A5,Bc,Ba,Ce,A0,A1,Bm,B5,ofOpt,Bb,Nat.reduceLT,Nat.reduceAdd,Nat.reduceEqDiff,Aa,Ab,Ac,Ae,Ak,Tryz.f202,hf2,Pu]
 refine WC.mono (hkid _ _ h hp hi ne1) ?_
 cases hX2:kid i with
 | out=>exact absurd hX2 ne1
 | bad a e =>
  rintro _ ⟨S2,rfl,x2⟩
  simp only [Cl,Cq,Cg]
  exact ⟨_,rfl,x2⟩
 | ok a2 j2 =>
  rw [hX2] at ho; rw [D2] at ho ⊢
  rintro _ ⟨v2,S2,rfl,hr2,x2,c2,hi2⟩
  obtain ⟨xs2,rfl,hl2⟩:=RepE.agg hr2
  have rf2:=RepE.refl hr2
  have hp2:p < S2.next:=Nat.lt_of_lt_of_le hp x2.1
  have y3:=x2
  have l4:=Yx xs2 hl2
  simp only [Bk,Bq,Dx,Bj,Ch,A7,Bf,Bd,Bp,A5,Bc,Ba,A0,A1,ofOpt,Cp,Bz,Nat.reduceLT,Nat.reduceEqDiff,Aa,Ab,Ac,l4]
  refine WX.mono (uT hts h2p m kid ⟨_,hf2⟩ hkid S hp n [a2] j2 _ _ 1 [.agg xs2] ho (by simp; omega) (by simp [T.get_set]) (by simp [T.get_set,Pu]) (by simp [T.get_set]) c2 hp2 hi2 ⟨by simp,.inl rfl⟩ (.cons _ _ _ _ hr2 .nil) y3) ?_
  rintro _ (⟨t9,S9,tok9,es9,l9,i9,rfl,g0,g5,rf9,x9,c9,hi9,hp9,e9⟩ | ⟨t9,S9,a9,e9,rfl,x9,q9⟩)
  ·rw [e9]
   simp only [A6,Bk,Bj,C7,C5,A7,Bf,Bh,Bd,A5,Bc,Ba,A0,Bm,B5,ofOpt,Bb,Cp,Bz,Nat.reduceLT,Nat.reduceEqDiff,Aa,Ab,Ac,Aj,Ak,fp0,Ec,hf3,g0]
   refine WC.mono (Jc c9 hp9 hi9 hts 1 0 [[41]] (by decide) (by decide)) ?_
   cases hX5:Ef ts [[41]] i9 with
   | out=>exact absurd hX5 (G3 _ _ _)
   | bad a e =>
    rintro _ ⟨S5,rfl,x5⟩
    simp only [Cl,Cq,Cg]
    exact ⟨_,rfl,x9.trans x5⟩
   | ok a5 j5 =>
    rintro _ ⟨_,S5,rfl,rfl,x5,c5,hi5⟩
    have hp5:p < S5.next:=Nat.lt_of_lt_of_le hp9 x5.1
    have y6:=(x9).trans x5
    simp only [A6,Bk,B1,Bj,Ch,A7,Bf,Bd,Bp,A5,Bc,Ba,A0,ofOpt,Bi,B0,Bg,Cs,Nat.reduceLT,Nat.reduceEqDiff,Aa,Ab,Ac,g5]
    exact ⟨_,_,rfl,.row _ _ _ _ rf9,y6,c5,hi5⟩
  ·rw [q9]
   simp only [Cl,Dc,Cg]
   exact ⟨_,rfl,x9⟩
theorem listed_p (h2p:2 ≤ p) (m:Nat) (kid:Nat → PR PE) (hF:∃ fn,E1.F m=some fn) (hkid:Con p k ts m kid) (n:Nat) (hn:n ≤ 1000000) (S:St) (i:Nat) (h:Cur S p k ts i) (hp:p < S.next) (hi:i < ts.length) (ho:Lg ts kid n i ≠ .out):WC E1 182 [.ptr p 0,Pu m p] S (Re p k ts S RepK (Lg ts kid n i)):=by
 have eP:Lg ts kid n i=(Ef ts [[40]] i).bind fun _ j=>if (tk ts j).text ∈ [[41]] then .ok [] (j + 1) else (kid j).bind fun x m=>Ik ts kid n [x] m:=rfl
 rw [eP] at ho ⊢
 clear eP
 refine Dv Tryz.f182 (by kernel_rfl) (by kernel_rfl) (by kernel_rfl) (by show (_:Nat) ≤ _;simp [Tryz.f182]) ?_
 obtain ⟨fn1,hf1⟩:=Lj
 obtain ⟨fn2,hf2⟩:=Qa
 obtain ⟨fn3,hf3⟩:=fnOk202
 simp only [A6,Bk,Bj,Ch,A7,Bf,Bh,Bd,A5,Bc,Ba,Ce,A0,A1,Bm,B5,ofOpt,Bb,Cp,Bz,Nat.reduceLT,Nat.reduceAdd,Nat.reduceEqDiff,Aa,Ab,Ac,Ae,Aj,Ak,Tryz.f182,fp0,Ec,hf2]
 refine WC.mono (Jc h hp hi hts 1 0 [[40]] (by decide) (by decide)) ?_
 cases hX1:Ef ts [[40]] i with
 | out=>exact absurd hX1 (G3 _ _ _)
 | bad a e =>
  rintro _ ⟨S1,rfl,x1⟩
  simp only [Cl,Cq,Cg]
  exact ⟨_,rfl,x1⟩
 | ok a1 j1 =>
  rw [hX1] at ho; rw [D2] at ho ⊢
  rintro _ ⟨_,S1,rfl,rfl,x1,c1,hi1⟩
  have hp1:p < S1.next:=Nat.lt_of_lt_of_le hp x1.1
  have y2:=x1
  by_cases hm:(tk ts j1).text ∈ [[41]]
  ·rw [if_pos hm] at ho ⊢
   simp only [A6,Bk,Bj,Ch,A7,Bf,Bh,Bd,Bp,A5,Bc,Ba,A0,A1,Bm,B5,ofOpt,Bb,Cp,Bz,Nat.reduceLT,Nat.reduceEqDiff,Aa,Ab,Ac,Aj,Ak,fp0,Ec,hf1]
   refine WC.mono (L4 c1 hp1 hi1 hts 1 0 [[41]] (by decide) (by decide) hm) ?_
   rintro _ ⟨S3,rfl,x3,c3,hi3,hp3⟩
   have y4:=(y2).trans x3
   obtain ⟨S5,q5,x5,c5,bt,hp5⟩:=Fs c3 hp3 (tk ts j1)
   have y6:=(y4).trans x5
   simp only [Bo,A6,Bk,Bl,B1,Bj,Dd,Ch,A7,Bf,Br,Bh,Bu,Bd,Bp,De,A5,Bc,Ba,A0,A1,Bm,B5,ofOpt,ofOptS,Bb,Cp,Bi,B0,Bg,Cs,Nat.reduceLT,Nat.reduceEqDiff,Aa,Ab,Ac,Ag,Ah,Aj,Ak,G9,Cw,hf3,q5]
   exact ⟨_,_,rfl,.nil,y6,c5,hi3⟩
  ·rw [if_neg hm] at ho ⊢
   simp only [A6,Bk,Bj,Ch,A7,Bf,Bh,Bd,Bp,A5,Bc,Ba,A0,A1,Bm,B5,ofOpt,Bb,Cp,Bz,Nat.reduceLT,Nat.reduceEqDiff,Aa,Ab,Ac,Aj,Ak,fp0,Ec,hf1]
   refine WC.mono (Np c1 hp1 hi1 hts 1 0 [[41]] (by decide) hm) ?_
   rintro _ ⟨S7,rfl,x7,c7,hi7,hp7⟩
   have y8:=(y2).trans x7
   obtain ⟨S9,q9,x9,c9,bt,hp9⟩:=Fs c7 hp7 Ea
   have y10:=(y8).trans x9
   simp only [Bo,A6,Bk,Bl,B1,Bj,Dd,Ch,A7,Bf,Br,Bh,Bu,Bd,Bp,C8,A5,Bc,Ba,A0,A1,Bm,B5,ofOpt,ofOptS,Bb,Cp,Bi,B0,Bg,Cs,Nat.reduceLT,Nat.reduceEqDiff,Aa,Ab,Ac,Ag,Ah,Aj,Ak,G9,Cw,hf3,q9]
   refine WC.mono (rest_p hts h2p m kid hF hkid n hn _ _ c9 hp9 hi7 ho) ?_
   cases hX11:(kid j1).bind fun x m=>Ik ts kid n [x] m with
   | out=>exact absurd hX11 ho
   | bad a e =>
    rintro _ ⟨S11,rfl,x11⟩
    simp only [Cl,Cq,Cg]
    exact ⟨_,rfl,y10.trans x11⟩
   | ok a j =>
    rintro _ ⟨v,S11,rfl,hv,x11,c11,hi11⟩
    simp only [B1,Bj,Ch,A7,Bf,Bd,Bp,A5,Bc,Ba,A0,A1,ofOpt,Bi,B0,Bg,Cs,Nat.reduceLT,Nat.reduceEqDiff,Aa,Ab,Ac]
    exact ⟨_,_,rfl,hv,y10.trans x11,c11,hi11⟩
variable (n:Nat)
theorem lit_p:Con p k ts 220 (P ts (n + 1) .lit):=fun S i h hp hi ho=>by
 obtain ⟨fn1,hf1⟩:=Lj
 obtain ⟨fn2,hf2⟩:=fnOk216
 obtain ⟨fn3,hf3⟩:=fnOk212
 refine Dv Tryz.f220 (by kernel_rfl) (by kernel_rfl) (by kernel_rfl) (by show (_:Nat) ≤ _;simp [Tryz.f220]) ?_
 have eP:P ts (n + 1) .lit i=if (tk ts i).text ∈ [[116,114,117,101],[102,97,108,115,101]] then .ok (Lc (tk ts i)) (i + 1) else Ni ts i:=rfl
 rw [eP] at ho ⊢
 clear eP
 obtain ⟨x1,c1,br,hp1⟩:=Ks h hp
 have y2:=x1
 by_cases hm:(tk ts i).text ∈ [[116,114,117,101],[102,97,108,115,101]]
 ·rw [if_pos hm] at ho ⊢
  simp only [A6,Bk,Bj,Ch,A7,Bf,Bh,Bd,A5,Bc,Ba,Ce,A0,A1,Bm,B5,ofOpt,ofOptS,Bb,Cp,Bz,Nat.reduceLT,Nat.reduceEqDiff,Aa,Ab,Ac,Ae,Aj,Ak,Tryz.f220,Gu,fp0,Yw,hf1]
  refine WC.mono (L4 c1 hp1 hi hts 1 0 [[116,114,117,101],[102,97,108,115,101]] (by decide) (by decide) hm) ?_
  rintro _ ⟨S3,rfl,x3,c3,hi3,hp3⟩
  have y4:=(y2).trans x3
  have br_4:=br.keep x3
  obtain ⟨S5,q5,x5,c5,bt,hp5⟩:=Fs c3 hp3 (tk ts i)
  have y6:=(y4).trans x5
  have br_6:=br_4.keep x5
  have l7:=bt.ld68
  simp only [Bo,A6,Bk,Bl,Bj,Ch,A7,Bf,Br,Bh,Bu,Bd,Bp,De,A5,Bc,Ba,A0,A1,Bm,B5,ofOpt,ofOptS,Cp,Nat.reduceLT,Nat.reduceEqDiff,Aa,Ab,Ac,Ag,Ah,Aj,Ak,G9,Cw,hf2,hf3,q5,l7]
  refine WC.mono (yH _ p k ts _ c5 hp5 (tk ts i)) ?_
  rintro _ ⟨S8,rfl,x8,c8,hp8⟩
  have y9:=(y6).trans x8
  have br_9:=br_6.keep x8
  have bt_9:=bt.keep x8
  obtain ⟨g10,h10,gx,gc⟩:=G4 (S0:=S) c8 br_9 rfl (Nat.le_refl _) y9 (xs:=(exC 2 (tk ts i).pos (if (tk ts i).text=[116,114,117,101] then 1 else 0) [] false .nils)) rfl
  simp only [B1,Bj,Dd,Ch,A7,Br,Bu,Bd,Bp,A5,Bc,Ba,A0,A1,Cp,Bi,B0,Bg,Cs,Nat.reduceLT,Nat.reduceEqDiff,Aa,Ab,Ac,g10,h10]
  exact ⟨_,_,rfl,fL (tk ts i),gx,gc,hi3⟩
 ·rw [if_neg hm] at ho ⊢
  simp only [A6,Bk,Bj,Ch,A7,Bf,Bh,Bd,A5,Bc,Ba,Ce,A0,A1,Bm,B5,ofOpt,ofOptS,Bb,Cp,Bz,Nat.reduceLT,Nat.reduceEqDiff,Aa,Ab,Ac,Ae,Aj,Ak,Tryz.f220,Gu,fp0,Yw,hf1]
  refine WC.mono (Np c1 hp1 hi hts 1 0 [[116,114,117,101],[102,97,108,115,101]] (by decide) hm) ?_
  rintro _ ⟨S11,rfl,x11,c11,hi11,hp11⟩
  have y12:=(y2).trans x11
  have br_12:=br.keep x11
  obtain ⟨S13,q13,x13,c13,bt,hp13⟩:=Fs c11 hp11 Ea
  have y14:=(y12).trans x13
  have br_14:=br_12.keep x13
  simp only [Bo,A6,Bk,Bl,Bj,Ch,A7,Bf,Br,Bh,Bu,Bd,Bp,C8,A5,Bc,Ba,A0,A1,Bm,B5,ofOpt,ofOptS,Cp,Nat.reduceLT,Nat.reduceEqDiff,Aa,Ab,Ac,Ag,Ah,Aj,Ak,G9,Cw,hf3,q13]
  refine WC.mono (pM hts _ _ c13 hp13 hi11 ho) ?_
  cases hX15:Ni ts i with
  | out=>exact absurd hX15 ho
  | bad a e =>
   rintro _ ⟨S15,rfl,x15⟩
   simp only [Cl,Cq,Cg]
   exact ⟨_,rfl,y14.trans x15⟩
  | ok a15 j15 =>
   rintro _ ⟨v15,S15,rfl,hr15,x15,c15,hi15⟩
   obtain ⟨xs15,rfl,hl15⟩:=RepE.agg hr15
   have hp15:p < S15.next:=Nat.lt_of_lt_of_le hp13 x15.1
   have y16:=(y14).trans x15
   have br_16:=br_14.keep x15
   have bt_16:=bt.keep x15
   obtain ⟨g17,h17,gx,gc⟩:=G4 (S0:=S) c15 br_16 rfl (Nat.le_refl _) y16 (xs:=xs15) hl15
   simp only [B1,Bj,Ch,A7,Br,Bu,Bd,Bp,A5,Bc,Ba,A0,A1,Cp,Bi,B0,Bg,Cs,Nat.reduceLT,Nat.reduceEqDiff,Aa,Ab,Ac,g17,h17]
   exact ⟨_,_,rfl,hr15,gx,gc,hi15⟩
omit hts in
theorem b30v (a:Nat) (s:List UInt8):Gc Tryz.prog 30 [(0,.v (.int .i64 3)),(1,.v (.int .i64 (a:Int))),(3,.v (.string ⟨⟨s⟩⟩))]=some (.agg (exC 3 a 0 s false .nils)):=rfl
omit hts in
theorem b30c (a:Nat) (s:List UInt8) (kv:AV) (h:sU kv):Gc Tryz.prog 30 [(0,.v (.int .i64 13)),(1,.v (.int .i64 (a:Int))),(3,.v (.string ⟨⟨s⟩⟩)),(5,kv)]=some (.agg (exC 13 a 0 s false kv)):=by
 rcases h with rfl | ⟨tok,off,es,rfl⟩ <;> rfl
omit hts in
theorem b30a (a:Nat) (s:List UInt8):Gc Tryz.prog 30 [(0,.v (.int .i64 14)),(1,.v (.int .i64 (a:Int))),(3,Bt s)]=some (.agg (exC 14 a 0 s false .nils)):=rfl
omit hts in
theorem Hp (s:ByteArray):Gj (.v (.string s)) (.v (.string s))=true:=by simp [Gj,eqS,Jk]
omit hts in
theorem Jp (n:Int):Gj (.v (.int .i64 n)) (.v (.int .i64 n))=true:=by simp [Gj,eqS]
theorem name_p (ihcall:Con p k ts 159 (P ts n .call)):∀ S i,Cur S p k ts i → p < S.next → i < ts.length → (tk ts i).kind=1 → P ts (n + 1) .name i ≠ .out → WC E1 215 [.ptr p 0] S (Re p k ts S RepE (P ts (n + 1) .name i)):=fun S i h hp hi hk1 ho=>by
 obtain ⟨fn1,hf1⟩:=fnOk159
 obtain ⟨fn2,hf2⟩:=R2
 refine Dv Tryz.f215 (by kernel_rfl) (by kernel_rfl) (by kernel_rfl) (by show (_:Nat) ≤ _;simp [Tryz.f215]) ?_
 have hk1':=hk1
 rw [Nn hi] at hk1'
 have hi1:i + 1 < ts.length:=hts.more i hi (by omega)
 have w1:IntKind.i64.wrap ((i:Int) + 1)=((i + 1:Nat):Int):=K9 (j:=1) (by have:=hts.size; omega)
 have q1:=idx63 k ts (i + 1) hi1
 rw [← Nn hi1] at q1
 have eP:P ts (n + 1) .name i=if (tk ts (i + 1)).text=[40] then P ts n .call i else (Gz ts 1 i).bind fun t j=>.ok (.mk 3 t.pos 0 t.text false []) j:=rfl
 rw [eP] at ho ⊢
 clear eP
 obtain ⟨x1,c1,br,hp1⟩:=Ks h hp
 have y2:=x1
 have d0:=c1.ld0
 have d1:=c1.ld1
 unfold Dq at d1
 simp only [A6,Co,Bk,Bj,Ch,A7,Bf,Bd,A5,Bc,Ce,ofOptS,Cp,Nat.reduceLT,Ac,Ae,Tryz.f215,Gu]
 refine Fv [(0,true),(1,true),(2,true),(3,true),(4,true),(5,true),(6,true),(7,true),(8,true),(9,true),(10,true),(11,true),(12,true),(13,true),(14,true)] (by kernel_rfl) (by kernel_rfl) ?_
 simp only [Bo,A6,Bk,Bl,Bj,A7,Bf,Bh,Bd,A5,Bc,Ba,A0,A1,Bm,B5,ofOpt,Bb,Cp,Bs,Dg,Nat.reduceLT,Nat.reduceEqDiff,Aa,Ab,Ac,Af,Ag,Ah,Aj,Ak,Am,fp0,Nh,Dr,Ee,Du,Ei,F4,hf1,hf2,fc0,fc1,d0,d1,w1,q1,fep2,lep2,Cy,Wp]
 by_cases hm:(tk ts (i + 1)).text=[40]
 ·rw [if_pos hm] at ho ⊢
  rw [decide_eq_true hm]
  simp only [De]
  refine WC.mono (ihcall _ _ c1 hp1 hi ho) ?_
  cases hX3:P ts n .call i with
  | out=>exact absurd hX3 ho
  | bad a e =>
   rintro _ ⟨S3,rfl,x3⟩
   simp only [Cl,Cq,Cg]
   exact ⟨_,rfl,y2.trans x3⟩
  | ok a3 j3 =>
   rintro _ ⟨v3,S3,rfl,hr3,x3,c3,hi3⟩
   obtain ⟨xs3,rfl,hl3⟩:=RepE.agg hr3
   have hp3:p < S3.next:=Nat.lt_of_lt_of_le hp1 x3.1
   have y4:=(y2).trans x3
   have br_4:=br.keep x3
   obtain ⟨g5,h5,gx,gc⟩:=G4 (S0:=S) c3 br_4 rfl (Nat.le_refl _) y4 (xs:=xs3) hl3
   simp only [B1,Bj,Dd,Ch,A7,Br,Bu,Bd,Bp,A5,Bc,Ba,A0,A1,Cp,Bi,B0,Bg,Cs,Nat.reduceLT,Nat.reduceEqDiff,Aa,Ab,Ac,g5,h5]
   exact ⟨_,_,rfl,hr3,gx,gc,hi3⟩
 ·rw [if_neg hm] at ho ⊢
  rw [decide_eq_false hm]
  simp only [C8]
  refine WC.mono (Wj c1 hp1 hi hts 1 (by decide)) ?_
  cases hX6:Gz ts 1 i with
  | out=>exact absurd hX6 (Nj _ _ _)
  | bad a e =>
   rintro _ ⟨S6,rfl,x6⟩
   simp only [Cl,Cq,Cg]
   exact ⟨_,rfl,y2.trans x6⟩
  | ok a6 j6 =>
   rw [hX6] at ho; rw [D2] at ho ⊢
   rintro _ ⟨_,S6,rfl,rfl,x6,c6,hi6⟩
   have hp6:p < S6.next:=Nat.lt_of_lt_of_le hp1 x6.1
   have y7:=(y2).trans x6
   have br_7:=br.keep x6
   obtain ⟨S8,q8,x8,c8,bt,hp8⟩:=Fs c6 hp6 a6
   have y9:=(y7).trans x8
   have br_9:=br_7.keep x8
   have lp:=bt.pos
   have lt:=bt.text
   simp only [A6,Bk,Bj,Ch,A7,Bf,Br,Bu,Bd,Bp,A5,Bc,Ba,A0,A1,ofOpt,ofOptS,Bb,Cp,Bz,Nat.reduceLT,Nat.reduceEqDiff,Aa,Ab,Ac,G9,q8,fd1,fa2,lp,lt,b30v]
   obtain ⟨g10,h10,gx,gc⟩:=G4 (S0:=S) c8 br_9 rfl (Nat.le_refl _) y9 (xs:=(exC 3 a6.pos 0 a6.text false .nils)) rfl
   simp only [B1,Bj,Ch,Br,Bu,A0,A1,Cp,Bi,B0,Bg,Cs,Nat.reduceEqDiff,Aa,Ab,g10,h10]
   exact ⟨_,_,rfl,(.mk 3 a6.pos 0 a6.text false _ _ .nil),gx,gc,hi6⟩
theorem call_p (h2p:2 ≤ p) (hn:n ≤ 1000000) (ihexpr:Con p k ts 47 (P ts n .expr)):Con p k ts 159 (P ts (n + 1) .call):=fun S i h hp hi ho=>by
 obtain ⟨fn1,hf1⟩:=R2
 obtain ⟨fn2,hf2⟩:=fnOk182
 refine Dv Tryz.f159 (by kernel_rfl) (by kernel_rfl) (by kernel_rfl) (by show (_:Nat) ≤ _;simp [Tryz.f159]) ?_
 have eP:P ts (n + 1) .call i=(Gz ts 1 i).bind fun t j=>(Lg ts (P ts n .expr) n j).bind fun l m=>.ok (.mk 13 t.pos 0 t.text false l) m:=rfl
 rw [eP] at ho ⊢
 clear eP
 obtain ⟨x1,c1,br,hp1⟩:=Ks h hp
 have y2:=x1
 simp only [A6,Bk,Bj,Ch,A7,Bf,Bh,Bd,A5,Bc,Ba,Ce,A0,A1,Bm,B5,ofOpt,ofOptS,Bb,Cp,Nat.reduceLT,Nat.reduceEqDiff,Aa,Ab,Ac,Ae,Aj,Ak,Tryz.f159,Gu,fp0,hf1]
 refine WC.mono (Wj c1 hp1 hi hts 1 (by decide)) ?_
 cases hX3:Gz ts 1 i with
 | out=>exact absurd hX3 (Nj _ _ _)
 | bad a e =>
  rintro _ ⟨S3,rfl,x3⟩
  simp only [Cl,Cq,Cg]
  exact ⟨_,rfl,y2.trans x3⟩
 | ok a3 j3 =>
  rw [hX3] at ho; rw [D2] at ho ⊢
  rintro _ ⟨_,S3,rfl,rfl,x3,c3,hi3⟩
  have hp3:p < S3.next:=Nat.lt_of_lt_of_le hp1 x3.1
  have y4:=(y2).trans x3
  have br_4:=br.keep x3
  obtain ⟨S5,q5,x5,c5,bt,hp5⟩:=Fs c3 hp3 a3
  have y6:=(y4).trans x5
  have br_6:=br_4.keep x5
  have lp:=bt.pos
  have lt:=bt.text
  simp only [Co,Bk,Bj,Ch,A7,Bf,Br,Bu,Bd,Bp,A5,Bc,Ba,A0,A1,ofOptS,Cp,Nat.reduceLT,Nat.reduceEqDiff,Aa,Ab,Ac,G9,q5]
  refine Fv [(0,true),(1,true),(2,true),(3,true),(4,true),(5,true),(6,true),(7,true),(3,false),(1,false),(8,true),(9,true)] (by kernel_rfl) (by kernel_rfl) ?_
  simp only [A5,Bc,Ba,A0,A1,Bm,B5,ofOpt,Cp,Nat.reduceLT,Nat.reduceEqDiff,Aa,Ab,Ac,Af,Ag,Ah,Aj,Ak,Am,Dr,Ee,Eb,Du,F4,hf2,fd1,fa2,lp,lt]
  have nel:=Gp ho
  refine WC.mono (listed_p hts h2p 47 _ qV ihexpr n hn _ _ c5 hp5 hi3 nel) ?_
  cases hX7:Lg ts (P ts n .expr) n j3 with
  | out=>exact absurd hX7 nel
  | bad a e =>
   rintro _ ⟨S7,rfl,x7⟩
   simp only [Cl,Cg,Fp,F7]
   exact ⟨_,rfl,y6.trans x7⟩
  | ok a7 j7 =>
   rw [D2]
   rintro _ ⟨v,S7,rfl,hv,x7,c7,hi7⟩
   have hp7:p < S7.next:=Nat.lt_of_lt_of_le hp5 x7.1
   have y8:=(y6).trans x7
   have br_8:=br_6.keep x7
   have bt_8:=bt.keep x7
   have lp2:=bt_8.pos
   have lt2:=bt_8.text
   simp only [A5,Bc,Ba,A0,A1,ofOpt,Bb,Cp,Bz,Nat.reduceLT,Nat.reduceEqDiff,Aa,Ab,Ac,Dr,Kf,Ee,Du,Ep,D6,Em,lp2,lt2,Hp,Jp,b30c _ _ v hv.kids]
   obtain ⟨g9,h9,gx,gc⟩:=G4 (S0:=S) c7 br_8 rfl (Nat.le_refl _) y8 (xs:=(exC 13 a3.pos 0 a3.text false v)) rfl
   simp only [B1,Bj,A0,A1,Cp,Bi,B0,Bg,Cs,Nat.reduceEqDiff,Aa,Ab,Nh,Fb,Fa,Ei,g9,h9]
   exact ⟨_,_,rfl,(.mk 13 a3.pos 0 a3.text false _ _ hv),gx,gc,hi7⟩
omit hts n in
theorem st30_kids {S:St} {id kind pos:Nat} {n:Int} {name:List UInt8} {off:Bool} {kv:AV} (h:S.mem.get id=some (.box (exC kind pos n name off kv))) (kw:AV) (hk:sU kw):Dt Tryz.prog S 28 (.ptr id 5) kw=some (S.put id (exC kind pos n name off kw)):=by
 have h2:kw.noTup=true:=by rcases hk with rfl | ⟨t,o,es,rfl⟩ <;> rfl
 have h3:kw.cells=[kw]:=by rcases hk with rfl | ⟨t,o,es,rfl⟩ <;> rfl
 have s28:Fu Tryz.prog 28=some 1:=by kernel_rfl
 simp [Dt,h,s28,h2,h3,St.put,exC]
def pV (ts:List Tk) (n:Nat) (t:Tk) (i:Nat):PR PE:=(Gz ts 1 i).bind fun u j=>(P ts n .brk j).bind fun x j=>(P ts n .brk j).bind fun y j=>.ok (.mk 12 t.pos 0 u.text false [x,y]) j
def sI (ts:List Tk) (n:Nat) (t:Tk) (i:Nat):PR PE:=(Gz ts 1 i).bind fun u j=>if (tk ts j).text ∈ [[97,102,116,101,114]] then (Ef ts [[40]] (j + 1)).bind fun _ j=>(P ts n .lit j).bind fun x m=>(Ik ts (P ts n .lit) n [x] m).bind fun l m=>.ok (.mk 14 t.pos 0 u.text false l) m else .ok (.mk 14 t.pos 0 u.text false []) j
theorem merge_p (ihbrk:Con p k ts 219 (P ts n .brk)) (S:St) (i:Nat) (h:Cur S p k ts i) (hp:p < S.next) (hi:i < ts.length) (t:Tk) (ho:pV ts n t i ≠ .out):WC E1 217 [.ptr p 0,Ga t] S (Re p k ts S RepE (pV ts n t i)):=by
 have eP:pV ts n t i=(Gz ts 1 i).bind fun u j=>(P ts n .brk j).bind fun x j=>(P ts n .brk j).bind fun y j=>.ok (.mk 12 t.pos 0 u.text false [x,y]) j:=rfl
 rw [eP] at ho ⊢
 clear eP
 obtain ⟨fn1,hf1⟩:=R2
 obtain ⟨fn2,hf2⟩:=fnOk219
 obtain ⟨fn3,hf3⟩:=X4
 refine Dv Tryz.f217 (by kernel_rfl) (by kernel_rfl) (by kernel_rfl) (by show (_:Nat) ≤ _;simp [Tryz.f217]) ?_
 obtain ⟨x1,c1,bt,hp1⟩:=boxIn h hp t
 have y2:=x1
 obtain ⟨x3,c3,br,hp3⟩:=Ks c1 hp1
 have y4:=(y2).trans x3
 have bt_4:=bt.keep x3
 simp only [A6,Bk,Bj,Ch,A7,Bf,Bh,Bd,A5,Bc,Ba,Ce,A0,A1,Bm,B5,ofOpt,ofOptS,Bb,Cp,Nat.reduceLT,Nat.reduceAdd,Nat.reduceEqDiff,Aa,Ab,Ac,Ae,Aj,Ak,Tryz.f217,Uf,Ug,Gu,fp0,hf1]
 refine WC.mono (Wj c3 hp3 hi hts 1 (by decide)) ?_
 cases hX5:Gz ts 1 i with
 | out=>exact absurd hX5 (Nj _ _ _)
 | bad a e =>
  rintro _ ⟨S5,rfl,x5⟩
  simp only [Cl,Cq,Cg]
  exact ⟨_,rfl,y4.trans x5⟩
 | ok a5 j5 =>
  rw [hX5] at ho; rw [D2] at ho ⊢
  rintro _ ⟨_,S5,rfl,rfl,x5,c5,hi5⟩
  have hp5:p < S5.next:=Nat.lt_of_lt_of_le hp3 x5.1
  have y6:=(y4).trans x5
  have bt_6:=bt_4.keep x5
  have br_6:=br.keep x5
  obtain ⟨S7,q7,x7,c7,bu,hp7⟩:=Fs c5 hp5 a5
  have y8:=(y6).trans x7
  have bt_8:=bt_6.keep x7
  have br_8:=br_6.keep x7
  have ne9:=Gp ho
  simp only [A6,Bk,Bj,Ch,A7,Bf,Br,Bh,Bu,Bd,Bp,A5,Bc,Ba,A0,A1,Bm,B5,ofOpt,ofOptS,Cp,Nat.reduceLT,Nat.reduceEqDiff,Aa,Ab,Ac,Aj,Ak,G9,hf2,q7]
  refine WC.mono (ihbrk _ _ c7 hp7 hi5 ne9) ?_
  cases hX10:P ts n .brk j5 with
  | out=>exact absurd hX10 ne9
  | bad a e =>
   rintro _ ⟨S10,rfl,x10⟩
   simp only [Cl,Cq,Cg]
   exact ⟨_,rfl,y8.trans x10⟩
  | ok a10 j10 =>
   rw [hX10] at ho; rw [D2] at ho ⊢
   rintro _ ⟨v10,S10,rfl,hr10,x10,c10,hi10⟩
   obtain ⟨xs10,rfl,hl10⟩:=RepE.agg hr10
   have rf10:=RepE.refl hr10
   have hp10:p < S10.next:=Nat.lt_of_lt_of_le hp7 x10.1
   have y11:=(y8).trans x10
   have bt_11:=bt_8.keep x10
   have br_11:=br_8.keep x10
   have bu_11:=bu.keep x10
   obtain ⟨S12,q12,x12,c12,bx,hp12⟩:=Vm c10 hp10 (xs:=xs10) hl10
   have y13:=(y11).trans x12
   have bt_13:=bt_11.keep x12
   have br_13:=br_11.keep x12
   have bu_13:=bu_11.keep x12
   have l14:=bt_13.ld68
   have l15:=bx.ld30 hl10
   simp only [Co,Bk,Bj,Ch,A7,Bf,Br,Bu,Bd,Bp,A5,Bc,Ba,A0,A1,ofOptS,Cp,Nat.reduceLT,Nat.reduceEqDiff,Aa,Ab,Ac,Gu,q12]
   refine WD_byFl (x:=⟨6,7,[0,1,2,3,4,5],[7]⟩) [(0,true),(1,true),(2,true),(3,true),(1,false),(0,false),(4,true),(5,true),(6,true),(7,true)] (by kernel_rfl) (by kernel_rfl) (by decide) ?_
   have ne16:=Gp ho
   simp only [A5,Bc,Ba,A0,A1,Bm,B5,ofOpt,Cp,Nat.reduceLT,Nat.reduceEqDiff,Aa,Ab,Ac,Af,Ag,Ah,Aj,Ak,Am,Dr,Ee,Eb,Du,F4,hf2,l14,l15]
   refine WC.mono (ihbrk _ _ c12 hp12 hi10 ne16) ?_
   cases hX17:P ts n .brk j10 with
   | out=>exact absurd hX17 ne16
   | bad a e =>
    rintro _ ⟨S17,rfl,x17⟩
    simp only [Cl,Cg,Fp,F7]
    exact ⟨_,rfl,y13.trans x17⟩
   | ok a17 j17 =>
    rw [hX17] at ho; rw [D2] at ho ⊢
    rintro _ ⟨v17,S17,rfl,hr17,x17,c17,hi17⟩
    obtain ⟨xs17,rfl,hl17⟩:=RepE.agg hr17
    have rf17:=RepE.refl hr17
    have hp17:p < S17.next:=Nat.lt_of_lt_of_le hp12 x17.1
    have y18:=(y13).trans x17
    have bt_18:=bt_13.keep x17
    have br_18:=br_13.keep x17
    have bu_18:=bu_13.keep x17
    have bx_18:=bx.keep x17
    have l19:=bt_18.ld68
    have l20:=bx_18.ld30 hl10
    have l21:=lR xs10 xs17 hl10 hl17
    simp only [A5,Bc,Ba,A0,A1,Bm,B5,ofOpt,Bb,Cp,Bz,Nat.reduceLT,Nat.reduceEqDiff,Aa,Ab,Ac,Aj,Ak,Dr,Kf,Ee,Eb,Du,Ep,D6,Em,G1,hf3,rf10,l19,l20,l21]
    refine WC.mono (T9 _ 12 t (.sl 1 0 6 [.agg xs10,.agg xs17]) (.inr ⟨_,_,_,rfl⟩)) ?_
    rintro _ ⟨S22,rfl,k22⟩
    have x22:=k22.x p
    have c22:=c17.keep hp17 k22
    have hp22:p < S22.next:=Nat.lt_of_lt_of_le hp17 x22.1
    have y23:=(y18).trans x22
    have bt_23:=bt_18.keep x22
    have br_23:=br_18.keep x22
    have bu_23:=bu_18.keep x22
    have bx_23:=bx_18.keep x22
    obtain ⟨S24,q24,x24,c24,be,hp24⟩:=Vm c22 hp22 (xs:=exC 12 t.pos 0 [] false (.sl 1 0 6 [.agg xs10,.agg xs17])) rfl
    have y25:=(y23).trans x24
    have bt_25:=bt_23.keep x24
    have br_25:=br_23.keep x24
    have bu_25:=bu_23.keep x24
    have bx_25:=bx_23.keep x24
    have bu2:=bu_25.text
    simp only [A6,Bk,Bj,A7,Bf,Bd,A5,Bc,Ba,A0,A1,ofOpt,ofOptS,Cp,Nat.reduceLT,Nat.reduceEqDiff,Aa,Ab,Ac,Gu,Nh,Dr,Ee,Fb,Fa,Du,Ep,Ei,q24,fa2,bu2,fe3]
    have st26:=Yr be.get a5.text
    have hne26:S22.next ≠ (S.newBox (El t)).next:=by have:=br_23.lt; omega
    obtain ⟨px26,pc26,pb26,pr26⟩:=Zj (ys:=exC 12 t.pos 0 a5.text false (.sl 1 0 6 [.agg xs10,.agg xs17])) y25 y23.1 be c24 br_25 hne26
    have le2:=pb26.ld30 rfl
    obtain ⟨g27,h27,gx,gc⟩:=G4 (S0:=S) pc26 pr26 rfl x1.1 px26 (xs:=(exC 12 t.pos 0 a5.text false (.sl 1 0 6 [.agg xs10,.agg xs17]))) rfl
    simp only [A6,Bk,B1,Bj,Ch,A7,Bf,Br,Bu,Bd,A5,Bc,Ba,A0,A1,ofOpt,Cp,Bi,B0,Bg,Cs,Nat.reduceLT,Nat.reduceEqDiff,Aa,Ab,Ac,st26,le2,g27,h27]
    exact ⟨_,_,rfl,(.mk 12 t.pos 0 a5.text false _ _ (.row _ _ _ _ (.cons _ _ _ _ hr10 (.cons _ _ _ _ hr17 .nil)))),gx,gc,hi17⟩
theorem await_p (h2p:2 ≤ p) (hn:n ≤ 1000000) (ihlit:Con p k ts 220 (P ts n .lit)) (S:St) (i:Nat) (h:Cur S p k ts i) (hp:p < S.next) (hi:i < ts.length) (t:Tk) (ho:sI ts n t i ≠ .out):WC E1 218 [.ptr p 0,Ga t] S (Re p k ts S RepE (sI ts n t i)):=by
 have eP:sI ts n t i=(Gz ts 1 i).bind fun u j=>if (tk ts j).text ∈ [[97,102,116,101,114]] then (Ef ts [[40]] (j + 1)).bind fun _ j=>(P ts n .lit j).bind fun x m=>(Ik ts (P ts n .lit) n [x] m).bind fun l m=>.ok (.mk 14 t.pos 0 u.text false l) m else .ok (.mk 14 t.pos 0 u.text false []) j:=rfl
 rw [eP] at ho ⊢
 clear eP
 obtain ⟨fn1,hf1⟩:=R2
 obtain ⟨fn2,hf2⟩:=Lj
 obtain ⟨fn3,hf3⟩:=Qa
 obtain ⟨fn4,hf4⟩:=fnOk202
 refine Dv Tryz.f218 (by kernel_rfl) (by kernel_rfl) (by kernel_rfl) (by show (_:Nat) ≤ _;simp [Tryz.f218]) ?_
 obtain ⟨x1,c1,bt,hp1⟩:=boxIn h hp t
 have y2:=x1
 obtain ⟨x3,c3,br,hp3⟩:=Ks c1 hp1
 have y4:=(y2).trans x3
 have bt_4:=bt.keep x3
 simp only [A6,Co,Bk,Bj,Ch,A7,Bf,Bd,A5,Bc,Ba,Ce,A0,A1,ofOptS,Cp,Nat.reduceLT,Nat.reduceAdd,Nat.reduceEqDiff,Aa,Ab,Ac,Ae,Tryz.f218,Uf,Ug,Gu]
 have lp1:=bt_4.pos
 refine WD_byFl (x:=⟨8,5,[0,1,2,3,4,5,6,7],[9]⟩) [(0,true),(1,true),(2,true),(3,true),(4,true),(5,true),(1,false),(6,true),(7,true),(8,true),(9,true)] (by kernel_rfl) (by kernel_rfl) (by decide) ?_
 simp only [A5,Bc,Ba,A0,A1,Bm,B5,ofOpt,Bb,Cp,Nat.reduceLT,Nat.reduceEqDiff,Aa,Ab,Ac,Af,Ag,Ah,Aj,Ak,Am,fp0,Dr,Ee,Eb,Du,F4,hf1,fd1,lp1]
 refine WC.mono (Wj c3 hp3 hi hts 1 (by decide)) ?_
 cases hX5:Gz ts 1 i with
 | out=>exact absurd hX5 (Nj _ _ _)
 | bad a e =>
  rintro _ ⟨S5,rfl,x5⟩
  simp only [Cl,Cg,Fp,F7]
  exact ⟨_,rfl,y4.trans x5⟩
 | ok a5 j5 =>
  rw [hX5] at ho; rw [D2] at ho ⊢
  rintro _ ⟨_,S5,rfl,rfl,x5,c5,hi5⟩
  have hp5:p < S5.next:=Nat.lt_of_lt_of_le hp3 x5.1
  have y6:=(y4).trans x5
  have bt_6:=bt_4.keep x5
  have br_6:=br.keep x5
  have lp2:=bt_6.pos
  obtain ⟨S7,q7,x7,c7,be,hp7⟩:=Vm c5 hp5 (xs:=exC 14 t.pos 0 a5.text false .nils) rfl
  have y8:=(y6).trans x7
  have bt_8:=bt_6.keep x7
  have br_8:=br_6.keep x7
  by_cases hm:(tk ts j5).text ∈ [[97,102,116,101,114]]
  ·rw [if_pos hm] at ho ⊢
   simp only [A6,Bk,Bj,A7,Bf,Bh,Bd,A5,Bc,Ba,A0,A1,Bm,B5,ofOpt,ofOptS,Bb,Cp,Bz,Nat.reduceLT,Nat.reduceEqDiff,Aa,Ab,Ac,Aj,Ak,Gu,fp0,Ec,Nh,Dr,Kf,Ee,Fb,Fa,Du,Ep,Ei,D6,Em,hf2,lp2,dL,b30a,Jp,q7]
   refine WC.mono (L4 c7 hp7 hi5 hts 1 0 [[97,102,116,101,114]] (by decide) (by decide) hm) ?_
   rintro _ ⟨S9,rfl,x9,c9,hi9,hp9⟩
   have y10:=(y8).trans x9
   have bt_10:=bt_8.keep x9
   have br_10:=br_8.keep x9
   have be_10:=be.keep x9
   obtain ⟨S11,q11,x11,c11,bt2,hp11⟩:=Fs c9 hp9 (tk ts j5)
   have y12:=(y10).trans x11
   have bt_12:=bt_10.keep x11
   have br_12:=br_10.keep x11
   have be_12:=be_10.keep x11
   simp only [Bo,A6,Bk,Bl,Bj,Ch,A7,Bf,Br,Bh,Bu,Bd,Bp,De,A5,Bc,Ba,A0,A1,Bm,B5,ofOpt,ofOptS,Bb,Cp,Bz,Nat.reduceLT,Nat.reduceEqDiff,Aa,Ab,Ac,Ag,Ah,Aj,Ak,G9,fp0,Cw,Ec,hf3,q11]
   refine WC.mono (Jc c11 hp11 hi9 hts 1 0 [[40]] (by decide) (by decide)) ?_
   cases hX13:Ef ts [[40]] (j5 + 1) with
   | out=>exact absurd hX13 (G3 _ _ _)
   | bad a e =>
    rintro _ ⟨S13,rfl,x13⟩
    simp only [Cl,Cq,Cg]
    exact ⟨_,rfl,y12.trans x13⟩
   | ok a13 j13 =>
    rw [hX13] at ho; rw [D2] at ho ⊢
    rintro _ ⟨_,S13,rfl,rfl,x13,c13,hi13⟩
    have hp13:p < S13.next:=Nat.lt_of_lt_of_le hp11 x13.1
    have y14:=(y12).trans x13
    have bt_14:=bt_12.keep x13
    have br_14:=br_12.keep x13
    have be_14:=be_12.keep x13
    have bt2_14:=bt2.keep x13
    simp only [A6,Bj,Ch,A7,Bf,Bh,Bd,Bp,A5,Bc,Ba,A0,A1,Bm,B5,ofOpt,Nat.reduceLT,Nat.reduceEqDiff,Aa,Ab,Ac,Aj,Ak,hf4]
    have hb2:((P ts n .lit j13).bind fun x m=>Ik ts (P ts n .lit) n [x] m) ≠ .out:=by
     intro e
     cases hL:P ts n .lit j13 with
     | out=>rw [hL] at ho; exact ho rfl
     | bad a e1=>rw [hL] at e; cases e
     | ok a j=>rw [hL] at e ho; rw [D2] at e ho; rw [e] at ho; exact ho rfl
    have assoc:((P ts n .lit j13).bind fun x m=>(Ik ts (P ts n .lit) n [x] m).bind fun l m=>PR.ok (PE.mk 14 t.pos 0 a5.text false l) m)=((P ts n .lit j13).bind fun x m=>Ik ts (P ts n .lit) n [x] m).bind fun l m=>PR.ok (PE.mk 14 t.pos 0 a5.text false l) m:=by
     cases P ts n .lit j13 <;> rfl
    rw [assoc]
    refine WC.mono (rest_p hts h2p 220 _ fnOk220 ihlit n hn _ _ c13 hp13 hi13 hb2) ?_
    cases hX:(P ts n .lit j13).bind fun x m=>Ik ts (P ts n .lit) n [x] m with
    | out=>exact absurd hX hb2
    | bad a e =>
     rintro _ ⟨S99,rfl,x99⟩
     simp only [Cl,Cq,Cg]
     exact ⟨_,rfl,y14.trans x99⟩
    | ok l j =>
     rw [D2]
     rintro _ ⟨v,S99,rfl,hv,x99,c99,hi99⟩
     have hp99:p < S99.next:=Nat.lt_of_lt_of_le hp13 x99.1
     have y16:=(y14).trans x99
     have bt_16:=bt_14.keep x99
     have br_16:=br_14.keep x99
     have be_16:=be_14.keep x99
     have bt2_16:=bt2_14.keep x99
     have sk:Dt Tryz.prog S99 28 (.ptr S5.next 5) v=some (S99.put S5.next (exC 14 t.pos 0 a5.text false v)):=st30_kids be_16.get v hv.kids
     have st17:=(rfl:(0:Nat)=0)
     have hne17:S5.next ≠ (S.newBox (El t)).next:=by have:=br_6.lt; omega
     obtain ⟨px17,pc17,pb17,pr17⟩:=Zj (ys:=exC 14 t.pos 0 a5.text false v) y16 y6.1 be_16 c99 br_16 hne17
     have le2:=pb17.ld30 rfl
     obtain ⟨g18,h18,gx,gc⟩:=G4 (S0:=S) pc17 pr17 rfl x1.1 px17 (xs:=(exC 14 t.pos 0 a5.text false v)) rfl
     simp only [A6,Bk,B1,Bj,Ch,A7,Bf,Br,Bu,Bd,Bp,A5,Bc,Ba,A0,A1,ofOpt,Cp,Bi,B0,Bg,Cs,Nat.reduceLT,Nat.reduceEqDiff,Aa,Ab,Ac,sk,fe5,le2,g18,h18]
     exact ⟨_,_,rfl,(.mk 14 t.pos 0 a5.text false _ _ hv),gx,gc,hi99⟩
  ·rw [if_neg hm] at ho ⊢
   simp only [A6,Bk,Bj,A7,Bf,Bh,Bd,A5,Bc,Ba,A0,A1,Bm,B5,ofOpt,ofOptS,Bb,Cp,Bz,Nat.reduceLT,Nat.reduceEqDiff,Aa,Ab,Ac,Aj,Ak,Gu,fp0,Ec,Nh,Dr,Kf,Ee,Fb,Fa,Du,Ep,Ei,D6,Em,hf2,lp2,dL,b30a,Jp,q7]
   refine WC.mono (Np c7 hp7 hi5 hts 1 0 [[97,102,116,101,114]] (by decide) hm) ?_
   rintro _ ⟨S19,rfl,x19,c19,hi19,hp19⟩
   have y20:=(y8).trans x19
   have bt_20:=bt_8.keep x19
   have br_20:=br_8.keep x19
   have be_20:=be.keep x19
   obtain ⟨S21,q21,x21,c21,bt2,hp21⟩:=Fs c19 hp19 Ea
   have y22:=(y20).trans x21
   have bt_22:=bt_20.keep x21
   have br_22:=br_20.keep x21
   have be_22:=be_20.keep x21
   have l23:=be_22.ld30 rfl
   obtain ⟨g24,h24,gx,gc⟩:=G4 (S0:=S) c21 br_22 rfl x1.1 y22 (xs:=(exC 14 t.pos 0 a5.text false .nils)) rfl
   simp only [Bo,A6,Bk,Bl,B1,Bj,Ch,A7,Bf,Br,Bh,Bu,Bd,Bp,C8,A5,Bc,Ba,A0,A1,Bm,B5,ofOpt,ofOptS,Bb,Cp,Bz,Bi,B0,Bg,Cs,Nat.reduceLT,Nat.reduceEqDiff,Aa,Ab,Ac,Ag,Ah,Aj,Ak,G9,fp0,Cw,Ec,hf3,q21,l23,g24,h24]
   exact ⟨_,_,rfl,(.mk 14 t.pos 0 a5.text false _ _ .nil),gx,gc,hi19⟩
theorem primary_p (h2p:2 ≤ p) (hn:n ≤ 1000000) (ihbrk:Con p k ts 219 (P ts n .brk)) (ihlit:Con p k ts 220 (P ts n .lit)) (ihname:∀ S i,Cur S p k ts i → p < S.next → i < ts.length → (tk ts i).kind=1 → P ts n .name i ≠ .out → WC E1 215 [.ptr p 0] S (Re p k ts S RepE (P ts n .name i))):Con p k ts 214 (P ts (n + 1) .primary):=fun S i h hp hi ho=>by
 obtain ⟨fn1,hf1⟩:=R3
 obtain ⟨fn2,hf2⟩:=fnOk212
 obtain ⟨fn3,hf3⟩:=fnOk215
 obtain ⟨fn4,hf4⟩:=Lj
 obtain ⟨fn5,hf5⟩:=fnOk216
 obtain ⟨fn6,hf6⟩:=fnOk217
 obtain ⟨fn7,hf7⟩:=fnOk218
 obtain ⟨fn8,hf8⟩:=fnOk219
 refine Dv Tryz.f214 (by kernel_rfl) (by kernel_rfl) (by kernel_rfl) (by show (_:Nat) ≤ _;simp [Tryz.f214]) ?_
 have eP:P ts (n + 1) .primary i=if (tk ts i).kind=2 then Ni ts i else if (tk ts i).kind=1 then P ts n .name i else if (tk ts i).text=[116,114,117,101] ∨ (tk ts i).text=[102,97,108,115,101] then .ok (Lc (tk ts i)) (i + 1) else if (tk ts i).text=[109,101,114,103,101] then (Gz ts 1 (i + 1)).bind fun t j=>(P ts n .brk j).bind fun x j=>(P ts n .brk j).bind fun y j=>.ok (.mk 12 (tk ts i).pos 0 t.text false [x,y]) j else if (tk ts i).text=[97,119,97,105,116] then (Gz ts 1 (i + 1)).bind fun t j=>if (tk ts j).text ∈ [[97,102,116,101,114]] then (Ef ts [[40]] (j + 1)).bind fun _ j=>(P ts n .lit j).bind fun x m=>(Ik ts (P ts n .lit) n [x] m).bind fun l m=>.ok (.mk 14 (tk ts i).pos 0 t.text false l) m else .ok (.mk 14 (tk ts i).pos 0 t.text false []) j else P ts n .brk i:=rfl
 rw [eP] at ho ⊢
 clear eP
 obtain ⟨x1,c1,br,hp1⟩:=Ks h hp
 have y2:=x1
 simp only [A6,Bk,Bj,Ch,A7,Bf,Bh,Bd,A5,Bc,Ba,Ce,A0,A1,Bm,B5,ofOpt,ofOptS,Cp,Nat.reduceLT,Nat.reduceEqDiff,Aa,Ab,Ac,Ae,Aj,Ak,Tryz.f214,Gu,fp0,hf1]
 refine WC.mono (cS _ p k ts i c1 hp1 hi) ?_
 rintro _ ⟨S3,rfl,k3⟩
 have x3:=k3.x p
 have c3:=c1.keep hp1 k3
 have hp3:p < S3.next:=Nat.lt_of_lt_of_le hp1 x3.1
 have y4:=(y2).trans x3
 have br_4:=br.keep x3
 have e0:=Nn hi
 by_cases h2:(tk ts i).kind=2
 ·rw [if_pos h2] at ho ⊢
  have n2:(((ts[i].kind:Nat):Int) == 2)=true:=by rw [← e0,h2]; rfl
  simp only [Bo,A6,Bk,Bl,Bq,Bj,Cf,Ch,A7,Bf,Bh,Bd,Bp,De,A5,Bc,Ba,A0,A1,Bm,B5,ofOpt,Bb,Cp,Bz,Bs,B9,Nat.reduceLT,Nat.reduceEqDiff,Aa,Ab,Ac,Aj,Ak,Am,fp0,V2,hf2,hf3,hf4,Ly,Dq,n2]
  refine WC.mono (pM hts _ _ c3 hp3 hi ho) ?_
  cases hX5:Ni ts i with
  | out=>exact absurd hX5 ho
  | bad a e =>
   rintro _ ⟨S5,rfl,x5⟩
   simp only [Cl,Dc,Cq,Cg]
   exact ⟨_,rfl,y4.trans x5⟩
  | ok a5 j5 =>
   rintro _ ⟨v5,S5,rfl,hr5,x5,c5,hi5⟩
   obtain ⟨xs5,rfl,hl5⟩:=RepE.agg hr5
   have hp5:p < S5.next:=Nat.lt_of_lt_of_le hp3 x5.1
   have y6:=(y4).trans x5
   have br_6:=br_4.keep x5
   obtain ⟨g7,h7,gx,gc⟩:=G4 (S0:=S) c5 br_6 rfl (Nat.le_refl _) y6 (xs:=xs5) hl5
   simp only [B1,Bj,Dd,C9,Ch,A7,Br,Bu,Bd,Bp,A5,Bc,Ba,A0,A1,Cp,Bi,B0,Bg,Cs,Nat.reduceLT,Nat.reduceEqDiff,Aa,Ab,Ac,g7,h7]
   exact ⟨_,_,rfl,hr5,gx,gc,hi5⟩
 ·rw [if_neg h2] at ho ⊢
  have n2:(((ts[i].kind:Nat):Int) == 2)=false:=by rw [← e0,beq_eq_false_iff_ne]; omega
  by_cases h1:(tk ts i).kind=1
  ·rw [if_pos h1] at ho ⊢
   have n1:(((ts[i].kind:Nat):Int) == 1)=true:=by rw [← e0,h1]; rfl
   simp only [Bo,A6,Bk,Bl,Bq,Bj,Cf,Ch,A7,Bf,Bh,Bd,Bp,De,C8,A5,Bc,Ba,A0,A1,Bm,B5,ofOpt,Bb,Cp,Bz,Bs,B9,Nat.reduceLT,Nat.reduceEqDiff,Aa,Ab,Ac,Aj,Ak,Am,fp0,V2,hf2,hf3,hf4,Ly,Dq,n2,n1]
   refine WC.mono (ihname _ _ c3 hp3 hi h1 ho) ?_
   cases hX8:P ts n .name i with
   | out=>exact absurd hX8 ho
   | bad a e =>
    rintro _ ⟨S8,rfl,x8⟩
    simp only [Cl,Dc,Cq,Cg]
    exact ⟨_,rfl,y4.trans x8⟩
   | ok a8 j8 =>
    rintro _ ⟨v8,S8,rfl,hr8,x8,c8,hi8⟩
    obtain ⟨xs8,rfl,hl8⟩:=RepE.agg hr8
    have hp8:p < S8.next:=Nat.lt_of_lt_of_le hp3 x8.1
    have y9:=(y4).trans x8
    have br_9:=br_4.keep x8
    obtain ⟨g10,h10,gx,gc⟩:=G4 (S0:=S) c8 br_9 rfl (Nat.le_refl _) y9 (xs:=xs8) hl8
    simp only [B1,Bj,Dd,C9,Ch,A7,Br,Bu,Bd,Bp,A5,Bc,Ba,A0,A1,Cp,Bi,B0,Bg,Cs,Nat.reduceLT,Nat.reduceEqDiff,Aa,Ab,Ac,g10,h10]
    exact ⟨_,_,rfl,hr8,gx,gc,hi8⟩
  ·rw [if_neg h1] at ho ⊢
   have n1:(((ts[i].kind:Nat):Int) == 1)=false:=by rw [← e0,beq_eq_false_iff_ne]; omega
   by_cases hT:(tk ts i).text=[116,114,117,101] ∨ (tk ts i).text=[102,97,108,115,101]
   ·rw [if_pos hT] at ho ⊢
    rcases hT with hq | hq
    ·have hq0:=hq
     have hm:(tk ts i).text ∈ [[116,114,117,101],[102,97,108,115,101],[109,101,114,103,101],[97,119,97,105,116]]:=by rw [hq]; decide
     simp only [Bo,A6,Bk,Bl,Bq,Bj,Cf,Ch,A7,Bf,Bh,Bd,Bp,C8,A5,Bc,Ba,A0,A1,Bm,B5,ofOpt,Bb,Cp,Bz,Bs,B9,Nat.reduceLT,Nat.reduceEqDiff,Aa,Ab,Ac,Aj,Ak,Am,fp0,V2,hf2,hf3,hf4,Ly,Dq,n2,n1]
     refine WC.mono (L4 c3 hp3 hi hts 1 0 [[116,114,117,101],[102,97,108,115,101],[109,101,114,103,101],[97,119,97,105,116]] (by decide) (by decide) hm) ?_
     rintro _ ⟨S11,rfl,x11,c11,hi11,hp11⟩
     have y12:=(y4).trans x11
     have br_12:=br_4.keep x11
     obtain ⟨S13,q13,x13,c13,bt,hp13⟩:=Fs c11 hp11 (tk ts i)
     have y14:=(y12).trans x13
     have br_14:=br_12.keep x13
     have tx:=bt.text
     have d0:decide ((tk ts i).text=[116,114,117,101])=true:=by rw [hq]; decide
     have d1:decide ((tk ts i).text=[102,97,108,115,101])=false:=by rw [hq]; decide
     have d2:decide ((tk ts i).text=[109,101,114,103,101])=false:=by rw [hq]; decide
     have d3:decide ((tk ts i).text=[97,119,97,105,116])=false:=by rw [hq]; decide
     have l15:=bt.ld68
     simp only [Bo,A6,Bk,Bl,Bq,Bj,Cf,Ch,A7,Bf,Br,Bh,Bu,Bd,Bp,De,C8,A5,Bc,Ba,A0,A1,Bm,B5,ofOpt,ofOptS,Bb,Cp,Nat.reduceLT,Nat.reduceEqDiff,Aa,Ab,Ac,Ag,Ah,Aj,Ak,Am,G9,Cw,hf5,hf6,hf7,hf8,q13,tx,d0,d1,d2,d3,fa2,Cy,Wp,l15]
     refine WC.mono (yH _ p k ts _ c13 hp13 (tk ts i)) ?_
     rintro _ ⟨S16,rfl,x16,c16,hp16⟩
     have y17:=(y14).trans x16
     have br_17:=br_14.keep x16
     have bt_17:=bt.keep x16
     obtain ⟨g18,h18,gx,gc⟩:=G4 (S0:=S) c16 br_17 rfl (Nat.le_refl _) y17 (xs:=(exC 2 (tk ts i).pos (if (tk ts i).text=[116,114,117,101] then 1 else 0) [] false .nils)) rfl
     simp only [B1,Bj,Dd,C9,Ch,A7,Br,Bu,Bd,Bp,A5,Bc,Ba,A0,A1,Cp,Bi,B0,Bg,Cs,Nat.reduceLT,Nat.reduceEqDiff,Aa,Ab,Ac,g18,h18]
     exact ⟨_,_,rfl,fL (tk ts i),gx,gc,hi11⟩
    ·have hq0:=hq
     have hm:(tk ts i).text ∈ [[116,114,117,101],[102,97,108,115,101],[109,101,114,103,101],[97,119,97,105,116]]:=by rw [hq]; decide
     simp only [Bo,A6,Bk,Bl,Bq,Bj,Cf,Ch,A7,Bf,Bh,Bd,Bp,C8,A5,Bc,Ba,A0,A1,Bm,B5,ofOpt,Bb,Cp,Bz,Bs,B9,Nat.reduceLT,Nat.reduceEqDiff,Aa,Ab,Ac,Aj,Ak,Am,fp0,V2,hf2,hf3,hf4,Ly,Dq,n2,n1]
     refine WC.mono (L4 c3 hp3 hi hts 1 0 [[116,114,117,101],[102,97,108,115,101],[109,101,114,103,101],[97,119,97,105,116]] (by decide) (by decide) hm) ?_
     rintro _ ⟨S19,rfl,x19,c19,hi19,hp19⟩
     have y20:=(y4).trans x19
     have br_20:=br_4.keep x19
     obtain ⟨S21,q21,x21,c21,bt,hp21⟩:=Fs c19 hp19 (tk ts i)
     have y22:=(y20).trans x21
     have br_22:=br_20.keep x21
     have tx:=bt.text
     have d0:decide ((tk ts i).text=[116,114,117,101])=false:=by rw [hq]; decide
     have d1:decide ((tk ts i).text=[102,97,108,115,101])=true:=by rw [hq]; decide
     have d2:decide ((tk ts i).text=[109,101,114,103,101])=false:=by rw [hq]; decide
     have d3:decide ((tk ts i).text=[97,119,97,105,116])=false:=by rw [hq]; decide
     have l23:=bt.ld68
     simp only [Bo,A6,Bk,Bl,Bq,Bj,Cf,Ch,A7,Bf,Br,Bh,Bu,Bd,Bp,De,C8,A5,Bc,Ba,A0,A1,Bm,B5,ofOpt,ofOptS,Bb,Cp,Nat.reduceLT,Nat.reduceEqDiff,Aa,Ab,Ac,Ag,Ah,Aj,Ak,Am,G9,Cw,hf5,hf6,hf7,hf8,q21,tx,d0,d1,d2,d3,fa2,Cy,Wp,l23]
     refine WC.mono (yH _ p k ts _ c21 hp21 (tk ts i)) ?_
     rintro _ ⟨S24,rfl,x24,c24,hp24⟩
     have y25:=(y22).trans x24
     have br_25:=br_22.keep x24
     have bt_25:=bt.keep x24
     obtain ⟨g26,h26,gx,gc⟩:=G4 (S0:=S) c24 br_25 rfl (Nat.le_refl _) y25 (xs:=(exC 2 (tk ts i).pos (if (tk ts i).text=[116,114,117,101] then 1 else 0) [] false .nils)) rfl
     simp only [B1,Bj,Dd,C9,Ch,A7,Br,Bu,Bd,Bp,A5,Bc,Ba,A0,A1,Cp,Bi,B0,Bg,Cs,Nat.reduceLT,Nat.reduceEqDiff,Aa,Ab,Ac,g26,h26]
     exact ⟨_,_,rfl,fL (tk ts i),gx,gc,hi19⟩
   ·rw [if_neg hT] at ho ⊢
    by_cases hq:(tk ts i).text=[109,101,114,103,101]
    ·rw [if_pos hq] at ho ⊢
     have eM:((Gz ts 1 (i + 1)).bind fun t j=>(P ts n .brk j).bind fun x j=>(P ts n .brk j).bind fun y j=>.ok (.mk 12 (tk ts i).pos 0 t.text false [x,y]) j)=pV ts n (tk ts i) (i + 1):=rfl
     rw [eM] at ho ⊢
     clear eM
     have hm:(tk ts i).text ∈ [[116,114,117,101],[102,97,108,115,101],[109,101,114,103,101],[97,119,97,105,116]]:=by rw [hq]; decide
     simp only [Bo,A6,Bk,Bl,Bq,Bj,Cf,Ch,A7,Bf,Bh,Bd,Bp,C8,A5,Bc,Ba,A0,A1,Bm,B5,ofOpt,Bb,Cp,Bz,Bs,B9,Nat.reduceLT,Nat.reduceEqDiff,Aa,Ab,Ac,Aj,Ak,Am,fp0,V2,hf2,hf3,hf4,Ly,Dq,n2,n1]
     refine WC.mono (L4 c3 hp3 hi hts 1 0 [[116,114,117,101],[102,97,108,115,101],[109,101,114,103,101],[97,119,97,105,116]] (by decide) (by decide) hm) ?_
     rintro _ ⟨S27,rfl,x27,c27,hi27,hp27⟩
     have y28:=(y4).trans x27
     have br_28:=br_4.keep x27
     obtain ⟨S29,q29,x29,c29,bt,hp29⟩:=Fs c27 hp27 (tk ts i)
     have y30:=(y28).trans x29
     have br_30:=br_28.keep x29
     have tx:=bt.text
     have d0:decide ((tk ts i).text=[116,114,117,101])=false:=by rw [hq]; decide
     have d1:decide ((tk ts i).text=[102,97,108,115,101])=false:=by rw [hq]; decide
     have d2:decide ((tk ts i).text=[109,101,114,103,101])=true:=by rw [hq]; decide
     have d3:decide ((tk ts i).text=[97,119,97,105,116])=false:=by rw [hq]; decide
     have l31:=bt.ld68
     simp only [Bo,A6,Bk,Bl,Bq,Bj,Cf,Ch,A7,Bf,Br,Bh,Bu,Bd,Bp,De,C8,A5,Bc,Ba,A0,A1,Bm,B5,ofOpt,ofOptS,Bb,Cp,Nat.reduceLT,Nat.reduceEqDiff,Aa,Ab,Ac,Ag,Ah,Aj,Ak,Am,G9,Cw,hf5,hf6,hf7,hf8,q29,tx,d0,d1,d2,d3,fa2,Cy,Wp,l31]
     refine WC.mono (merge_p hts n ihbrk _ _ c29 hp29 hi27 (tk ts i) ho) ?_
     cases hX32:pV ts n (tk ts i) (i + 1) with
     | out=>exact absurd hX32 ho
     | bad a e =>
      rintro _ ⟨S32,rfl,x32⟩
      simp only [Cl,Dc,Cq,Cg]
      exact ⟨_,rfl,y30.trans x32⟩
     | ok a32 j32 =>
      rintro _ ⟨v32,S32,rfl,hr32,x32,c32,hi32⟩
      obtain ⟨xs32,rfl,hl32⟩:=RepE.agg hr32
      have hp32:p < S32.next:=Nat.lt_of_lt_of_le hp29 x32.1
      have y33:=(y30).trans x32
      have br_33:=br_30.keep x32
      have bt_33:=bt.keep x32
      obtain ⟨g34,h34,gx,gc⟩:=G4 (S0:=S) c32 br_33 rfl (Nat.le_refl _) y33 (xs:=xs32) hl32
      simp only [B1,Bj,Dd,C9,Ch,A7,Br,Bu,Bd,Bp,A5,Bc,Ba,A0,A1,Cp,Bi,B0,Bg,Cs,Nat.reduceLT,Nat.reduceEqDiff,Aa,Ab,Ac,g34,h34]
      exact ⟨_,_,rfl,hr32,gx,gc,hi32⟩
    ·rw [if_neg hq] at ho ⊢
     by_cases hq:(tk ts i).text=[97,119,97,105,116]
     ·rw [if_pos hq] at ho ⊢
      have eM:((Gz ts 1 (i + 1)).bind fun t j=>if (tk ts j).text ∈ [[97,102,116,101,114]] then (Ef ts [[40]] (j + 1)).bind fun _ j=>(P ts n .lit j).bind fun x m=>(Ik ts (P ts n .lit) n [x] m).bind fun l m=>.ok (.mk 14 (tk ts i).pos 0 t.text false l) m else .ok (.mk 14 (tk ts i).pos 0 t.text false []) j)=sI ts n (tk ts i) (i + 1):=rfl
      rw [eM] at ho ⊢
      clear eM
      have hm:(tk ts i).text ∈ [[116,114,117,101],[102,97,108,115,101],[109,101,114,103,101],[97,119,97,105,116]]:=by rw [hq]; decide
      simp only [Bo,A6,Bk,Bl,Bq,Bj,Cf,Ch,A7,Bf,Bh,Bd,Bp,C8,A5,Bc,Ba,A0,A1,Bm,B5,ofOpt,Bb,Cp,Bz,Bs,B9,Nat.reduceLT,Nat.reduceEqDiff,Aa,Ab,Ac,Aj,Ak,Am,fp0,V2,hf2,hf3,hf4,Ly,Dq,n2,n1]
      refine WC.mono (L4 c3 hp3 hi hts 1 0 [[116,114,117,101],[102,97,108,115,101],[109,101,114,103,101],[97,119,97,105,116]] (by decide) (by decide) hm) ?_
      rintro _ ⟨S35,rfl,x35,c35,hi35,hp35⟩
      have y36:=(y4).trans x35
      have br_36:=br_4.keep x35
      obtain ⟨S37,q37,x37,c37,bt,hp37⟩:=Fs c35 hp35 (tk ts i)
      have y38:=(y36).trans x37
      have br_38:=br_36.keep x37
      have tx:=bt.text
      have d0:decide ((tk ts i).text=[116,114,117,101])=false:=by rw [hq]; decide
      have d1:decide ((tk ts i).text=[102,97,108,115,101])=false:=by rw [hq]; decide
      have d2:decide ((tk ts i).text=[109,101,114,103,101])=false:=by rw [hq]; decide
      have d3:decide ((tk ts i).text=[97,119,97,105,116])=true:=by rw [hq]; decide
      have l39:=bt.ld68
      simp only [Bo,A6,Bk,Bl,Bq,Bj,Cf,Ch,A7,Bf,Br,Bh,Bu,Bd,Bp,De,C8,A5,Bc,Ba,A0,A1,Bm,B5,ofOpt,ofOptS,Bb,Cp,Nat.reduceLT,Nat.reduceEqDiff,Aa,Ab,Ac,Ag,Ah,Aj,Ak,Am,G9,Cw,hf5,hf6,hf7,hf8,q37,tx,d0,d1,d2,d3,fa2,Cy,Wp,l39]
      refine WC.mono (await_p hts n h2p hn ihlit _ _ c37 hp37 hi35 (tk ts i) ho) ?_
      cases hX40:sI ts n (tk ts i) (i + 1) with
      | out=>exact absurd hX40 ho
      | bad a e =>
       rintro _ ⟨S40,rfl,x40⟩
       simp only [Cl,Dc,Cq,Cg]
       exact ⟨_,rfl,y38.trans x40⟩
      | ok a40 j40 =>
       rintro _ ⟨v40,S40,rfl,hr40,x40,c40,hi40⟩
       obtain ⟨xs40,rfl,hl40⟩:=RepE.agg hr40
       have hp40:p < S40.next:=Nat.lt_of_lt_of_le hp37 x40.1
       have y41:=(y38).trans x40
       have br_41:=br_38.keep x40
       have bt_41:=bt.keep x40
       obtain ⟨g42,h42,gx,gc⟩:=G4 (S0:=S) c40 br_41 rfl (Nat.le_refl _) y41 (xs:=xs40) hl40
       simp only [B1,Bj,Dd,C9,Ch,A7,Br,Bu,Bd,Bp,A5,Bc,Ba,A0,A1,Cp,Bi,B0,Bg,Cs,Nat.reduceLT,Nat.reduceEqDiff,Aa,Ab,Ac,g42,h42]
       exact ⟨_,_,rfl,hr40,gx,gc,hi40⟩
     ·rw [if_neg hq] at ho ⊢
      have hm:(tk ts i).text ∉ [[116,114,117,101],[102,97,108,115,101],[109,101,114,103,101],[97,119,97,105,116]]:=by
       intro hm
       simp only [List.mem_cons,List.not_mem_nil,or_false] at hm
       rcases hm with e | e | e | e
       ·exact hT (.inl e)
       ·exact hT (.inr e)
       ·exact absurd e (by assumption)
       ·exact absurd e (by assumption)
      simp only [Bo,A6,Bk,Bl,Bq,Bj,Cf,Ch,A7,Bf,Bh,Bd,Bp,C8,A5,Bc,Ba,A0,A1,Bm,B5,ofOpt,Bb,Cp,Bz,Bs,B9,Nat.reduceLT,Nat.reduceEqDiff,Aa,Ab,Ac,Aj,Ak,Am,fp0,V2,hf2,hf3,hf4,Ly,Dq,n2,n1]
      refine WC.mono (Np c3 hp3 hi hts 1 0 [[116,114,117,101],[102,97,108,115,101],[109,101,114,103,101],[97,119,97,105,116]] (by decide) hm) ?_
      rintro _ ⟨S43,rfl,x43,c43,hi43,hp43⟩
      have y44:=(y4).trans x43
      have br_44:=br_4.keep x43
      obtain ⟨S45,q45,x45,c45,bt,hp45⟩:=Fs c43 hp43 Ea
      have y46:=(y44).trans x45
      have br_46:=br_44.keep x45
      have tx:=bt.text
      have d0:decide (Ea.text=[116,114,117,101])=false:=by decide
      have d1:decide (Ea.text=[102,97,108,115,101])=false:=by decide
      have d2:decide (Ea.text=[109,101,114,103,101])=false:=by decide
      have d3:decide (Ea.text=[97,119,97,105,116])=false:=by decide
      simp only [Bo,A6,Bk,Bl,Bq,Bj,Cf,Ch,A7,Bf,Br,Bh,Bu,Bd,Bp,C8,A5,Bc,Ba,A0,A1,Bm,B5,ofOpt,ofOptS,Bb,Cp,Nat.reduceLT,Nat.reduceEqDiff,Aa,Ab,Ac,Ag,Ah,Aj,Ak,Am,G9,Cw,hf8,q45,tx,d0,d1,d2,d3,fa2,Cy,Wp]
      refine WC.mono (ihbrk _ _ c45 hp45 hi43 ho) ?_
      cases hX47:P ts n .brk i with
      | out=>exact absurd hX47 ho
      | bad a e =>
       rintro _ ⟨S47,rfl,x47⟩
       simp only [Cl,Cq,Cg]
       exact ⟨_,rfl,y46.trans x47⟩
      | ok a47 j47 =>
       rintro _ ⟨v47,S47,rfl,hr47,x47,c47,hi47⟩
       obtain ⟨xs47,rfl,hl47⟩:=RepE.agg hr47
       have hp47:p < S47.next:=Nat.lt_of_lt_of_le hp45 x47.1
       have y48:=(y46).trans x47
       have br_48:=br_46.keep x47
       have bt_48:=bt.keep x47
       obtain ⟨g49,h49,gx,gc⟩:=G4 (S0:=S) c47 br_48 rfl (Nat.le_refl _) y48 (xs:=xs47) hl47
       simp only [B1,Bj,Ch,A7,Br,Bu,Bd,Bp,A5,Bc,Ba,A0,A1,Cp,Bi,B0,Bg,Cs,Nat.reduceLT,Nat.reduceEqDiff,Aa,Ab,Ac,g49,h49]
       exact ⟨_,_,rfl,hr47,gx,gc,hi47⟩
structure Reads (p k:Nat) (ts:List Tk) (n:Nat):Prop where
 expr:Con p k ts 47 (P ts n .expr)
 arrow:Con p k ts 80 (P ts n .arrow)
 or:Con p k ts 116 (P ts n .or)
 and:Con p k ts 149 (P ts n .and)
 not:Con p k ts 175 (P ts n .not)
 sum:Con p k ts 201 (P ts n .sum)
 term:Con p k ts 208 (P ts n .term)
 unary:Con p k ts 210 (P ts n .unary)
 when:Con p k ts 213 (P ts n .when)
 primary:Con p k ts 214 (P ts n .primary)
 call:Con p k ts 159 (P ts n .call)
 brk:Con p k ts 219 (P ts n .brk)
 lit:Con p k ts 220 (P ts n .lit)
 name:∀ S i,Cur S p k ts i → p < S.next → i < ts.length → (tk ts i).kind=1 → P ts n .name i ≠ .out → WC E1 215 [.ptr p 0] S (Re p k ts S RepE (P ts n .name i))
omit n
theorem Sl (h2p:2 ≤ p):∀ n,n ≤ 1000000 → Reads p k ts n
 | 0,_=>⟨fun _ _ _ _ _ h=>absurd rfl h,fun _ _ _ _ _ h=>absurd rfl h,fun _ _ _ _ _ h=>absurd rfl h,fun _ _ _ _ _ h=>absurd rfl h,fun _ _ _ _ _ h=>absurd rfl h,fun _ _ _ _ _ h=>absurd rfl h,fun _ _ _ _ _ h=>absurd rfl h,fun _ _ _ _ _ h=>absurd rfl h,fun _ _ _ _ _ h=>absurd rfl h,fun _ _ _ _ _ h=>absurd rfl h,fun _ _ _ _ _ h=>absurd rfl h,fun _ _ _ _ _ h=>absurd rfl h,fun _ _ _ _ _ h=>absurd rfl h,fun _ _ _ _ _ _ h=>absurd rfl h⟩
 | n + 1,hn=>by
  have r:=Sl h2p n (by omega)
  exact ⟨expr_p hts n r.expr r.arrow,arrow_p hts n r.arrow r.or,or_p hts n r.and,and_p hts n r.not,not_p hts n r.not r.sum,sum_p hts n r.term,term_p hts n r.unary,unary_p hts n r.unary r.when,when_p hts n r.primary,primary_p hts n h2p (by omega) r.brk r.lit r.name,call_p hts n h2p (by omega) r.expr,brk_p hts n r.expr,lit_p hts n,name_p hts n r.call⟩
end
end Go.Ax
