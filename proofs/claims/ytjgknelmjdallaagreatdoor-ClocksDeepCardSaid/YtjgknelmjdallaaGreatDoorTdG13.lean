/- Lf -/
import Derived.Test.YtjgknelmjdallaaGreatDoorTdG12
set_option linter.unusedVariables false
set_option linter.unusedSimpArgs false
set_option maxHeartbeats 16000000
noncomputable section
namespace Go.Ax
open Go.RowKit Go.Proofs
set_option maxRecDepth 100000
def Qk (l:List UInt8):Nat → Nat → Option ((Nat × Nat) ⊕ List Tk)
 | 0,_=>none
 | n + 1,i=>if i < l.length then (match Ja (l.drop i) i with
   | none=>none
   | some p=>if p.2=0 then (match Qk l n (i + p.1.text.length + Im (l.length + 1) (l.drop (i + p.1.text.length))) with
     | none=>none
     | some (.inl x)=>some (.inl x)
     | some (.inr ts)=>some (.inr (p.1 :: ts))) else some (.inl (i,p.2)))
  else some (.inr [⟨5,l.length,[],0⟩])
def Kt (l:List UInt8):Option ((Nat × Nat) ⊕ List Tk):=if 4000 < l.length then some (.inl (4000,3)) else Qk l (l.length + 1) (Im (l.length + 1) l)
theorem startsW_len {s l:List UInt8} (h:Ey s l=true):s.length ≤ l.length:=by
 unfold Ey at h
 rw [decide_eq_true_iff] at h
 have:=congrArg List.length h
 simp at this; omega
theorem cW {l:List UInt8} {i:Nat} {t:Tk} (h:Ja l i=some (t,0)):t.text.length ≤ l.length:=by
 unfold Ja at h
 split at h
 ·cases h
 ·rename_i b r
  split at h
  ·injection h with h
   unfold O9 at h
   split at h
   ·injection h with h1 h2; subst h1; rw [List.length_take]; omega
   ·split at h
    ·injection h with h1 h2; cases h2
    ·injection h with h1 h2; subst h1; rw [List.length_take]; omega
  ·split at h
   ·unfold aH at h
    split at h
    ·injection h with h; injection h with h1 h2; cases h2
    ·split at h
     ·split at h
      ·injection h with h; injection h with h1 h2; cases h2
      ·injection h with h; injection h with h1 h2; subst h1; rw [List.length_take]; omega
     ·injection h with h; injection h with h1 h2; cases h2
   ·injection h with h
    unfold Nr at h
    split at h
    ·rename_i s hs
     injection h with h1 h2; subst h1
     have hq:Ey s (b :: r)=true:=by simpa using List.find?_some hs
     exact startsW_len hq
    ·injection h with h1 h2; cases h2
def Ds (a e:Nat):List AV:=[Dq a,Dq e]
theorem a33:Fo Tryz.prog 33=some true:=by kernel_rfl
theorem s33:Fu Tryz.prog 33=some 2:=by kernel_rfl
theorem Ov (S:St):Js Tryz.prog S 33=some (.ptr S.next 0,S.newBox (Ds 0 0)):=rfl
theorem P2 {S:St} {id:Nat} {cs ys:List AV} (h:S.mem.get id=some (.box cs)) (hl:cs.length=2) (hy:ys.length=2):Dt Tryz.prog S 33 (.ptr id 0) (.agg ys)=some (S.put id ys):=by
 have h2:(AV.agg ys).noTup=true:=rfl
 simp [Dt,h,s33,h2,AV.cells,hl,hy,St.put,List.drop_eq_nil_of_le]
theorem Io (S:St) (id:Nat) (cs:List AV) (hl:cs.length=2):Cd Tryz.prog (S.put id cs) 33 (.ptr id 0)=some (.agg cs):=by
 have e:cs.take 2=cs:=List.take_of_length_le (by omega)
 simp [Cd,D0,Ed,a33,s33,hl,e]
theorem b33_0:Gc Tryz.prog 33 []=some (.agg (Ds 0 0)):=rfl
theorem xT (a e:Int):Gc Tryz.prog 33 [(0,.v (.int .i64 a)),(1,.v (.int .i64 e))]=some (.agg [.v (.int .i64 a),.v (.int .i64 e)]):=rfl
theorem Tl (a b:AV):H9 Tryz.prog 31 a b=false:=by
 have h:Tryz.prog.underlying 31=some (.int .i64):=rfl
 unfold H9; rw [h]
theorem e63:Ir Tryz.prog 63=some (none,68):=by kernel_rfl
theorem u63:Tryz.prog.underlying 63=some (.slice 68):=by kernel_rfl
theorem i68:(Tryz.prog.info? 68).map (fun i=>(i.zero,i.size,i.bytes))=some (some (.agg #[.int .i64 0,.int .i64 0,.string ⟨#[]⟩,.int .u64 0]),4,40):=by kernel_rfl
theorem z68:Mi Tryz.prog 68=some (Ga Ea):=by kernel_rfl
theorem row63 (t:Tk):Dw Tryz.prog 63 1 [(0,Ga t)]=some (.sl 1 0 4 [Ga t]):=by
 have h1:(Ga t).noTup=true:=rfl
 have h2:(Ga t).cells.length=4:=rfl
 simp [Dw,e63,s68,z68,h1,h2]
theorem app63 (S:St) (a b:AV):Gw E1 S 63 63 a b=Fh Tryz.prog S 63 63 a b:=rfl
def sS (lo:Nat) (S:St) (a:AV) (es:List AV):Prop:=(a=.nils ∧ es=[]) ∨ ∃ tok,2 ≤ tok ∧ lo ≤ tok ∧ tok < S.next ∧ a=.sl tok 0 4 es ∧ S.mem.get tok=some (.tip (es.length * 4))
theorem sS.keep {lo:Nat} {S S':St} {a:AV} {es:List AV} (h:sS lo S a es) (k:En S S'):sS lo S' a es:=by
 rcases h with h | ⟨tok,h1,h2,h3,h4,h5⟩
 ·exact .inl h
 ·exact .inr ⟨tok,h1,h2,Nat.lt_of_lt_of_le h3 k.1,h4,by rw [k.2 tok h3]; exact h5⟩
theorem row_push {lo:Nat} {S:St} {a:AV} {es:List AV} (h:sS lo S a es) (hn:2 ≤ S.next) (hlo:lo ≤ S.next) (t:Tk) (hl:es.length ≤ 100000) :
  ∃ S',Fh Tryz.prog S 63 63 a (.sl 1 0 4 [Ga t])=some (.sl S.next 0 4 (es ++ [Ga t]),S') ∧ sS lo S' (.sl S.next 0 4 (es ++ [Ga t])) (es ++ [Ga t]) ∧ S.next ≤ S'.next ∧ ∀ id cs,id < S.next → S.mem.get id=some (.box cs) ∨ id < lo → S'.mem.get id=S.mem.get id:=by
 obtain ⟨i,hi,hz0,hz1,hz2⟩:=Hb i68
 rcases h with ⟨rfl,rfl⟩ | ⟨tok,h1,h2,h3,rfl,h5⟩
 ·refine ⟨S.grown 1 4,?_,.inr ⟨S.next,hn,hlo,Nat.lt_succ_self _,rfl,?_⟩,Nat.le_succ _,fun id cs hid _=>?_⟩
  ·simp [Fh,e63,hi,hz0,hz1,hz2,Mr,u63,Value.cells]
  ·show (S.mem.set S.next _).get S.next=_
   rw [T.get_set,if_pos rfl]; rfl
  ·show (S.mem.set S.next _).get id=_
   rw [T.get_set,if_neg (by omega)]
 ·obtain ⟨k,rfl⟩:∃ k,tok=k + 2:=⟨tok - 2,by omega⟩
  have hb1:(es.length + 1) * 40 ≤ 140737488355328:=by omega
  have hb2:es.length + 1 ≤ 9223372036854775807:=by omega
  refine ⟨S.grown (k + 2) ((es ++ [Ga t]).length * 4),?_,.inr ⟨S.next,hn,hlo,Nat.lt_succ_self _,rfl,?_⟩,Nat.le_succ _,fun id cs hid hor=>?_⟩
  ·simp [Fh,e63,hi,hz0,hz1,hz2,Mr,u63,Value.cells,Px,h5,hb1,hb2]
  ·show ((S.mem.set (k + 2) none).set S.next _).get S.next=_
   rw [T.get_set,if_pos rfl]
  ·show ((S.mem.set (k + 2) none).set S.next _).get id=_
   rw [T.get_set,if_neg (by omega),T.get_set,if_neg (fun e=>by
    subst e
    rcases hor with h | h
    ·rw [h5] at h; cases h
    ·omega)]
def mS:Code:=match Tryz.f25.body with
 | some (.seq _ (.seq _ (.seq _ (.seq (.seq _ (.block _ (.loop c))) _))))=>c
 | _=>.skip
theorem ld33_get {S:St} {id:Nat} {cs:List AV} (h:S.mem.get id=some (.box cs)) (hl:cs.length=2):Cd Tryz.prog S 33 (.ptr id 0)=some (.agg cs):=by
 have e:cs.take 2=cs:=List.take_of_length_le (by omega)
 simp [Cd,D0,h,a33,s33,hl,e]
theorem dD {S:St} {id:Nat} {t:Tk} (h:S.mem.get id=some (.box (El t))):Cd Tryz.prog S 68 (.ptr id 0)=some (Ga t):=by
 simp [Cd,D0,h,a68,s68,El,Ga]
theorem fa68 (id:Nat):C2 Tryz.prog 68 (.ptr id 0) 2=some (.ptr id 2):=by kernel_rfl
theorem mH {S:St} {id:Nat} {t:Tk} (h:S.mem.get id=some (.box (El t))):Cd Tryz.prog S 9 (.ptr id 2)=some (Bt t.text):=by
 simp [Cd,D0,h,a9,El]
def LoopPost (l:List UInt8) (S0:St) (acc:List Tk) (out:(Nat × Nat) ⊕ List Tk) (r:O):Prop:=match out with
 | .inl x=>∃ t' S',r=.out .ret ⟨t',[]⟩ S' ∧ t'.get 2=some .nils ∧ t'.get 3=some (.ptr S0.next 0) ∧ S'.mem.get S0.next=some (.box (Ds x.1 x.2)) ∧ En S0 S'
 | .inr ts=>∃ t' S' a' acc',r=.out (.exit 0) ⟨t',[]⟩ S' ∧ t'.get 0=some (Bt l) ∧ t'.get 3=some (.ptr S0.next 0) ∧ t'.get 4=some a' ∧ sS (S0.next + 1) S' a' (acc'.map Ga) ∧ acc' ++ [⟨5,l.length,[],0⟩]=acc ++ ts ∧ acc'.length ≤ l.length ∧ S'.mem.get S0.next=some (.box (Ds 0 0)) ∧ En S0 S' ∧ S0.next < S'.next ∧ 2 ≤ S'.next
theorem all_loop (l:List UInt8) (hl:l.length ≤ 4000) (S0:St):∀ (n i:Nat) (t:T AV) (S:St) (a:AV) (acc:List Tk) (out:(Nat × Nat) ⊕ List Tk),Qk l n i=some out → i ≤ l.length → n + acc.length ≤ l.length + 1 → t.get 0=some (Bt l) → t.get 3=some (.ptr S0.next 0) → t.get 4=some a → t.get 5=some (Dq i) →
  sS (S0.next + 1) S a (acc.map Ga) → S.mem.get S0.next=some (.box (Ds 0 0)) → En S0 S → S0.next < S.next → 2 ≤ S.next → WX E1 47 (.loop mS) ⟨t,[]⟩ S (LoopPost l S0 acc out)
 | 0,i,t,S,a,acc,out,ho,hi,hn,h0,h3,h4,h5,hr,hb,hk,hlt,h2=>by cases ho
 | n + 1,i,t,S,a,acc,out,ho,hi,hn,h0,h3,h4,h5,hr,hb,hk,hlt,h2=>by
  refine Do (Dh ?_)
  obtain ⟨fn1,hf1⟩:=fnOk66
  obtain ⟨fn2,hf2⟩:=fnOk65
  unfold Qk at ho
  by_cases hil:i < l.length
  ·rw [if_pos hil] at ho
   have hltI:((i:Int) < (l.length:Int)):=by omega
   cases hq:Ja (l.drop i) i with
   | none=>rw [hq] at ho; cases ho
   | some p =>
    obtain ⟨tk,e⟩:=p
    rw [hq] at ho
    simp only at ho
    simp only [Bt,Dq] at h0 h5 ⊢
    simp only [Bv,Bo,A6,Bk,Bl,Bq,C1,Bj,C7,Ch,A7,Bf,Bh,Bd,De,A5,Bc,Ba,A0,Bm,B5,ofOpt,Cp,Bs,Cu,Nat.reduceLT,Nat.reduceEqDiff,Aa,Ab,Ac,Aj,Ak,Am,Ap,mS,Tryz.f25,h0,h5,dC,hltI,hf1]
    refine WC.mono (next_w l (by omega) i hil S (tk,e) hq) ?_
    rintro _ ⟨S2,rfl,k2⟩
    have kS:En S0 S2:=hk.trans k2
    have hb2:S2.mem.get S0.next=some (.box (Ds 0 0)):=by rw [k2.2 _ hlt]; exact hb
    have hlt2:S0.next < S2.next:=Nat.lt_of_lt_of_le hlt k2.1
    have hr2:=hr.keep k2
    have q1:Dt Tryz.prog (S2.newBox (El Ea)) 68 (.ptr S2.next 0) (Ga tk)=some ((S2.newBox (El Ea)).put S2.next (El tk)):=Pc S2 (El Ea) (El tk) rfl rfl
    have kN:En S2 ((S2.newBox (El Ea)).put S2.next (El tk)):=Et (Cz S2 _) (Nat.le_refl _) _
    generalize hS3:(S2.newBox (El Ea)).put S2.next (El tk)=S3 at q1 kN
    have hn3:S3.next=S2.next + 1:=by rw [← hS3]; rfl
    have hg3:S3.mem.get S2.next=some (.box (El tk)):=by rw [← hS3]; exact Ed _ _ _
    have hb3:S3.mem.get S0.next=some (.box (Ds 0 0)):=by rw [kN.2 _ hlt2]; exact hb2
    have hr3:=hr2.keep kN
    by_cases he:e=0
    ·subst he
     rw [if_pos rfl] at ho
     obtain ⟨S4,hap,hr4,hle4,hk4⟩:=row_push hr3 (by omega) (by omega) tk (by simp; omega)
     have hb4:S4.mem.get S0.next=some (.box (Ds 0 0)):=by rw [hk4 S0.next (Ds 0 0) (by omega) (.inl hb3)]; exact hb3
     have hg4:S4.mem.get S2.next=some (.box (El tk)):=by rw [hk4 S2.next (El tk) (by omega) (.inl hg3)]; exact hg3
     have kS4:En S0 S4:=⟨by have:=kS.1; omega,fun id hid=>by rw [hk4 id [] (by have:=kS.1; omega) (.inr (by omega)),kN.2 id (by have:=kS.1; omega)]; exact kS.2 id hid⟩
     have hnl:=cW hq
     rw [List.length_drop] at hnl
     have hw:=K9 (i:=i) (j:=tk.text.length) (by omega)
     have ld1:=dD hg3
     have z0:(((0:Nat):Int) != 0)=false:=rfl
     have ld2:=mH hg4
     have hrow:=row63 tk
     unfold Bt at ld2
     simp only [Bo,A6,Bk,Bl,Bj,Ch,A7,Bf,Br,Bh,Bu,Bd,Bp,C8,A5,Bc,Ba,A0,Bm,B5,ofOpt,ofOptS,Bb,Cp,Bz,Bs,Dg,Di,Nat.reduceLT,Nat.reduceEqDiff,Aa,Ab,Ac,Ag,Ah,Aj,Ak,Am,Cw,G9,q1,Tl,Dq,app63,z0,ld1,ld2,hap,hrow,fa68,hw,dC,h0,h4,h5,hf2]
     refine WC.mono (skip_w l (by omega) (l.length + 1) (i + tk.text.length) (by omega) (by omega) S4) ?_
     rintro _ rfl
     simp only [Bw,Cf,Ch,A7,Bf,Bd,Bp,A5,Bc,Ba,A0,ofOpt,Nat.reduceLT,Nat.reduceEqDiff,Aa,Ab,Ac]
     have hsk:=Pd (l.length + 1) (l.drop (i + tk.text.length))
     rw [List.length_drop] at hsk
     cases hrest:Qk l n (i + tk.text.length + Im (l.length + 1) (l.drop (i + tk.text.length))) with
     | none=>rw [hrest] at ho; cases ho
     | some out2 =>
      rw [hrest] at ho
      refine WX.mono (all_loop l hl S0 n _ _ S4 _ (acc ++ [tk]) out2 hrest (by omega) (by simp; omega) ?_ ?_ ?_ ?_ (by rw [List.map_append]; exact hr4) hb4 kS4 (by omega) (by omega)) ?_
      ·simp only [A0,Nat.reduceEqDiff,Ab,h0]; rfl
      ·simp only [A0,Nat.reduceEqDiff,Ab,h3]
      ·simp only [A0,Nat.reduceEqDiff,Aa,Ab]
      ·simp only [A0,Nat.reduceEqDiff,Aa]
      ·intro r hp
       cases out2 with
       | inl x=>injection ho with ho; subst ho; exact hp
       | inr ts =>
        injection ho with ho; subst ho
        obtain ⟨t',S',a',acc',g1,g2,g3,g4,g5,g6,g7⟩:=hp
        exact ⟨t',S',a',acc',g1,g2,g3,g4,g5,by rw [g6]; simp,g7⟩
    ·rw [if_neg he] at ho
     injection ho with ho; subst ho
     have hne:(((e:Nat):Int) != 0)=true:=by rw [bne_iff_ne]; omega
     have st:=P2 hb3 rfl (show ([.v (.int .i64 i),.v (.int .i64 e)]:List AV).length=2 from rfl)
     simp only [Dk,Bo,A6,Bk,Bl,B1,Bj,Dd,C9,Ch,A7,Bf,Br,Bu,Bd,Bp,De,A5,Bc,Ba,A0,ofOpt,ofOptS,Bb,Cp,Bz,Di,Nat.reduceLT,Nat.reduceEqDiff,Aa,Ab,Ac,Ag,Ah,Am,Cw,G9,q1,Tl,Dq,hne,xT,h3,h5,st]
     refine ⟨_,_,rfl,?_,?_,Ed _ _ _,?_⟩
     ·simp only [A0,Nat.reduceEqDiff,Aa]
     ·simp only [A0,Nat.reduceEqDiff,Ab,h3]
     ·exact Et (kS.trans kN) (Nat.le_refl _) _
  ·rw [if_neg hil] at ho
   injection ho with ho; subst ho
   have hltI:¬ ((i:Int) < (l.length:Int)):=by omega
   simp only [Bt,Dq] at h0 h5 ⊢
   simp only [Bv,Bo,A6,Bk,Bl,Bq,C1,Bj,C7,Ch,A7,Bf,Bd,C8,A5,Bc,Ba,A0,Bm,B5,ofOpt,Cp,Bs,Cu,Nat.reduceLT,Nat.reduceEqDiff,Aa,Ab,Ac,Aj,Ak,Am,Aq,mS,Tryz.f25,h0,h5,dC,hltI]
   refine ⟨_,S,a,acc,rfl,?_,?_,?_,hr,rfl,by omega,hb,hk,hlt,h2⟩
   ·simp only [A0,Nat.reduceEqDiff,Ab,h0]; rfl
   ·simp only [A0,Nat.reduceEqDiff,Ab,h3]
   ·simp only [A0,Nat.reduceEqDiff,Ab,h4]
def LexPost (S:St) (out:(Nat × Nat) ⊕ List Tk) (r:R):Prop:=match out with
 | .inl x=>∃ S',r=.ret (.tup [.nils,.agg (Ds x.1 x.2)]) S' ∧ En S S'
 | .inr ts=>∃ S' tok,r=.ret (.tup [.sl tok 0 4 (ts.map Ga),.agg (Ds 0 0)]) S' ∧ En S S'
theorem all_w (l:List UInt8) (S:St) (hS:2 ≤ S.next) (hsz:l.length ≤ 1000000) (out:(Nat × Nat) ⊕ List Tk) (ho:Kt l=some out):WC E1 25 [Bt l] S (LexPost S out):=by
 refine Dv Tryz.f25 (by kernel_rfl) (by kernel_rfl) (by kernel_rfl) (by show (_:Nat) ≤ _;simp [Tryz.f25]) ?_
 obtain ⟨fn2,hf2⟩:=fnOk65
 have hn:=Cv S (Ds 0 0)
 have kn:=Cz S (Ds 0 0)
 unfold Kt at ho
 simp only [Bt]
 by_cases h4:4000 < l.length
 ·rw [if_pos h4] at ho
  injection ho with ho; subst ho
  have hg:((l.length:Nat):Int) > 4000:=by omega
  have q1:=P2 hn rfl (show ([.v (.int .i64 4000),.v (.int .i64 3)]:List AV).length=2 from rfl)
  have q2:=Io (S.newBox (Ds 0 0)) S.next [.v (.int .i64 4000),.v (.int .i64 3)] rfl
  simp only [Bo,A6,Bk,Bl,B1,Bj,Dd,Ch,A7,Bf,Br,Bu,Bd,De,A5,Bc,Ba,Ce,A0,A1,Bm,B5,ofOpt,ofOptS,Bb,Cp,Bz,Bs,Bi,B0,Bg,Cs,D8,Nat.reduceLT,Nat.reduceEqDiff,Aa,Ab,Ac,Ae,Aj,Ak,Am,Ap,Tryz.f25,Ov,dC,hg,xT,q1,q2]
  exact ⟨_,rfl,Et kn (Nat.le_refl _) _⟩
 ·rw [if_neg h4] at ho
  have hg:¬ ((l.length:Nat):Int) > 4000:=by omega
  have hsk:=Pd (l.length + 1) l
  have key:=fun t h0 h3 h4' h5=>all_loop l (by omega) S (l.length + 1) (Im (l.length + 1) l) t (S.newBox (Ds 0 0)) .nils [] out ho hsk (by simp) h0 h3 h4' h5 (.inl ⟨rfl,rfl⟩) hn kn (Nat.lt_succ_self _) (Nat.le_succ_of_le hS)
  unfold mS at key
  simp only [Tryz.f25] at key
  simp only [Bo,A6,Bk,Bl,Bj,Ch,A7,Bf,Bh,Bd,C8,A5,Bc,Ba,Ce,A0,A1,Bm,B5,ofOpt,ofOptS,Bb,Cp,Bz,Bs,D8,Nat.reduceLT,Nat.reduceEqDiff,Aa,Ab,Ac,Ae,Aj,Ak,Am,Aq,Tryz.f25,Ov,dC,hg,hf2]
  refine WC.mono (skip_w l (by omega) (l.length + 1) 0 (by omega) (by omega) _) ?_
  rintro _ rfl
  simp only [List.drop_zero,Nat.zero_add]
  simp only [Bq,Dx,Bj,Ch,A7,Bf,Bd,Bp,A5,Bc,Ba,A0,A1,ofOpt,Nat.reduceLT,Nat.reduceEqDiff,Aa,Ab,Ac]
  refine WX.mono (key _ ?_ ?_ ?_ ?_) ?_
  ·simp only [A0,A1,Nat.reduceEqDiff,Aa,Ab]; rfl
  ·simp only [A0,A1,Nat.reduceEqDiff,Aa,Ab]
  ·simp only [A0,A1,Nat.reduceEqDiff,Aa,Ab]
  ·simp only [A0,A1,Nat.reduceEqDiff,Aa,Ab]
  ·intro r hp
   cases out with
   | inl x =>
    obtain ⟨t',S',rfl,g2,g3,g4,g5⟩:=hp
    have q2:=ld33_get g4 rfl
    simp only [Dd,C9,Cp,Bi,B0,Bg,Cs,g2,g3,q2]
    exact ⟨_,rfl,g5⟩
   | inr ts =>
    obtain ⟨t',S',a',acc',rfl,g0,g3,g4,g5,g6,g7,g8,g9,g10,g11⟩:=hp
    unfold Bt at g0
    obtain ⟨S4,hap,hr4,hle4,hk4⟩:=row_push g5 (by omega) (by omega) ⟨5,l.length,[],0⟩ (by simp; omega)
    have hb4:S4.mem.get S.next=some (.box (Ds 0 0)):=by rw [hk4 S.next (Ds 0 0) g10 (.inl g8)]; exact g8
    have k4:En S S4:=⟨by have:=g9.1; omega,fun id hid=>by rw [hk4 id [] (by have:=g9.1; omega) (.inr (by omega))]; exact g9.2 id hid⟩
    have hb:Gc Tryz.prog 68 [(0,.v (.int .i64 5)),(1,.v (.int .i64 (l.length:Int)))]=some (Ga ⟨5,l.length,[],0⟩):=rfl
    have hrow:=row63 ⟨5,l.length,[],0⟩
    have q1:=P2 hb4 rfl (show (Ds 0 0).length=2 from rfl)
    have q2:=Io S4 S.next (Ds 0 0) rfl
    simp only [A6,Bk,B1,Bj,C7,C5,Ch,A7,Bf,Br,Bu,Bd,A5,Bc,Ba,A0,Bm,ofOpt,ofOptS,Bb,Cp,Bz,Bi,B0,Bg,Cs,Nat.reduceLT,Nat.reduceEqDiff,Aa,Ab,Ac,g0,g3,g4,dC,app63,hb,hrow,hap,b33_0,q1,q2]
    refine ⟨S4.put S.next (Ds 0 0),S'.next,?_,Et k4 (Nat.le_refl _) _⟩
    have e:acc'.map Ga ++ [Ga ⟨5,l.length,[],0⟩]=ts.map Ga:=by
     have:=congrArg (List.map Ga) g6
     simpa using this
    rw [e]
def Cur (S:St) (p k:Nat) (ts:List Tk) (i:Nat):Prop:=S.mem.get p=some (.box [.sl k 0 4 (ts.map Ga),Dq i])
theorem Fy {S:St} {cs:List AV} {id:Nat} (h:id < S.next):(S.newBox cs).mem.get id=S.mem.get id:=by
 show (S.mem.set S.next _).get id=_
 rw [T.get_set,if_neg (by omega)]
theorem Eg {S:St} {b id:Nat} {cs:List AV} (h:id ≠ b):(S.put b cs).mem.get id=S.mem.get id:=by
 show (S.mem.set b _).get id=_
 rw [T.get_set,if_neg h]
theorem Cur.keep {S S':St} {p k i:Nat} {ts:List Tk} (h:Cur S p k ts i) (hp:p < S.next) (hk:En S S'):Cur S' p k ts i:=(hk.2 p hp).trans h
theorem s144:∀ p,C2 Tryz.prog 144 (.ptr p 0) 0=some (.ptr p 0) ∧ C2 Tryz.prog 144 (.ptr p 0) 1=some (.ptr p 1):=fun p=>⟨by kernel_rfl,by kernel_rfl⟩
theorem fc0 (p:Nat):C2 Tryz.prog 144 (.ptr p 0) 0=some (.ptr p 0):=(s144 p).1
theorem fc1 (p:Nat):C2 Tryz.prog 144 (.ptr p 0) 1=some (.ptr p 1):=(s144 p).2
theorem fp0 (p:Nat):C2 Tryz.prog 146 (.ptr p 0) 0=some (.ptr p 0):=by kernel_rfl
theorem a63:Fo Tryz.prog 63=some false:=by kernel_rfl
theorem a3:Fo Tryz.prog 3=some false:=by kernel_rfl
theorem s3:Fu Tryz.prog 3=some 1:=by kernel_rfl
theorem Cur.ld0 {S:St} {p k i:Nat} {ts:List Tk} (h:Cur S p k ts i):Cd Tryz.prog S 63 (.ptr p 0)=some (.sl k 0 4 (ts.map Ga)):=by
 unfold Cur at h
 simp [Cd,D0,h,a63]
theorem Cur.ld1 {S:St} {p k i:Nat} {ts:List Tk} (h:Cur S p k ts i):Cd Tryz.prog S 3 (.ptr p 1)=some (Dq i):=by
 unfold Cur at h
 simp [Cd,D0,h,a3]
theorem idx63 (k:Nat) (ts:List Tk) (i:Nat) (h:i < ts.length):Cm Tryz.prog 63 (.sl k 0 4 (ts.map Ga)) (.v (.int .i64 (i:Int)))=some (.ep (El ts[i])):=by
 have h0:(0:Int) ≤ (i:Int):=by omega
 simp [Cm,h0,e63,s68,h,Ga,AV.cells]
theorem ldEp68 (S:St) (t:Tk):Cd Tryz.prog S 68 (.ep (El t))=some (Ga t):=by
 simp [Cd,D0,a68,s68,El,Ga]
theorem fld68 (t:Tk):Pe Tryz.prog 68 (Ga t) 0=some (Dq t.kind) ∧ Pe Tryz.prog 68 (Ga t) 1=some (Dq t.pos) ∧ Pe Tryz.prog 68 (Ga t) 2=some (Bt t.text) ∧ Pe Tryz.prog 68 (Ga t) 3=some (W9 t.num):=⟨by kernel_rfl,by kernel_rfl,by kernel_rfl,by kernel_rfl⟩
theorem Ly (t:Tk):Pe Tryz.prog 68 (Ga t) 0=some (Dq t.kind):=(fld68 t).1
theorem dL (t:Tk):Pe Tryz.prog 68 (Ga t) 2=some (Bt t.text):=(fld68 t).2.2.1
theorem Yp (S0 S:St) (t t':Tk) (b:Nat) (h:S.mem.get b=some (.box (El t))):Dt Tryz.prog S 68 (.ptr b 0) (Ga t')=some (S.put b (El t')):=st68 h rfl rfl
theorem cS (S:St) (p k:Nat) (ts:List Tk) (i:Nat) (h:Cur S p k ts i) (hp:p < S.next) (hi:i < ts.length):WC E1 113 [.ptr p 0] S (fun r=>∃ S',r=.ret (Ga ts[i]) S' ∧ En S S'):=by
 refine Dv Tryz.f113 (by kernel_rfl) (by kernel_rfl) (by kernel_rfl) (by show (_:Nat) ≤ _;simp [Tryz.f113]) ?_
 have h1:Cur (S.newBox (El Ea)) p k ts i:=(Fy hp).trans h
 have q0:=h1.ld0
 have q1:=h1.ld1
 have q2:=idx63 k ts i hi
 have q3:Dt Tryz.prog (S.newBox (El Ea)) 68 (.ptr S.next 0) (Ga ts[i])=some ((S.newBox (El Ea)).put S.next (El ts[i])):=Pc S (El Ea) (El ts[i]) rfl rfl
 have q4:Cd Tryz.prog ((S.newBox (El Ea)).put S.next (El ts[i])) 68 (.ptr S.next 0)=some (Ga ts[i]):=Kb _ _ _ rfl
 simp only [A6,Co,Bk,Bj,Ch,A7,Bf,Bd,A5,Bc,Ce,ofOptS,Cp,Nat.reduceLT,Ac,Ae,Tryz.f113,G9]
 refine Fv [(0,true),(1,true),(2,true),(3,true),(4,true),(5,true),(6,true),(7,true),(8,true),(9,true),(10,true)] (by kernel_rfl) (by kernel_rfl) ?_
 unfold Dq at q1
 simp only [B1,Bj,A5,Bc,Ba,A0,A1,ofOpt,Cp,Bi,B0,Bg,Cs,Nat.reduceLT,Nat.reduceEqDiff,Aa,Ab,Ac,Af,Ag,Ah,Nh,Dr,Ee,Fb,Fa,Du,Ei,F4,fc0,fc1,q0,q1,q2,q3,q4,ldEp68]
 exact ⟨_,rfl,Et (Cz S _) (Nat.le_refl _) _⟩
theorem R3:∃ fn,E1.F 113=some fn:=Option.isSome_iff_exists.1 (by kernel_rfl)
theorem X3:∃ fn,E1.F 91=some fn:=Option.isSome_iff_exists.1 (by kernel_rfl)
theorem fnOk115:∃ fn,E1.F 115=some fn:=Option.isSome_iff_exists.1 (by kernel_rfl)
theorem fnOk114:∃ fn,E1.F 114=some fn:=Option.isSome_iff_exists.1 (by kernel_rfl)
def wsA (tok off:Nat) (ws:List (List UInt8)):AV:=.sl tok off 1 (ws.map Bt)
theorem Si (S:St) (p k:Nat) (ts:List Tk) (i:Nat) (h:Cur S p k ts i) (hp:p < S.next) (hi:i < ts.length) (tok off:Nat) (ws:List (List UInt8)) (hw:ws.length ≤ 1000):WC E1 91 [.ptr p 0,wsA tok off ws] S (fun r=>∃ S',r=.ret (.v (.bool (decide (ts[i].text ∈ ws)))) S' ∧ En S S'):=by
 refine Dv Tryz.f91 (by kernel_rfl) (by kernel_rfl) (by kernel_rfl) (by show (_:Nat) ≤ _;simp [Tryz.f91]) ?_
 obtain ⟨fn1,hf1⟩:=R3
 obtain ⟨fn2,hf2⟩:=fnOk129
 simp only [A6,Bk,Bj,Ch,A7,Bf,Bh,Bd,A5,Bc,Ba,Ce,A0,A1,Bm,B5,ofOpt,Bb,Nat.reduceLT,Nat.reduceAdd,Nat.reduceEqDiff,Aa,Ab,Ac,Ae,Aj,Ak,Tryz.f91,hf1]
 refine WC.mono (cS S p k ts i h hp hi) ?_
 rintro _ ⟨S2,rfl,hk⟩
 simp only [A7,Bf,Bh,Bd,Bp,A5,Bc,Ba,A0,A1,Bm,B5,ofOpt,Cp,Nat.reduceLT,Nat.reduceEqDiff,Aa,Ab,Ac,Aj,Ak,dL,hf2]
 refine WC.mono (bB tok off ws ts[i].text (by omega) S2) ?_
 rintro _ rfl
 simp only [B1,Bj,Ch,A7,Bf,Bd,Bp,A5,Bc,Ba,A0,A1,ofOpt,Bi,B0,Bg,Cs,Nat.reduceLT,Nat.reduceEqDiff,Aa,Ab,Ac]
 exact ⟨_,rfl,hk⟩
def D7 (p:Nat) (S S':St):Prop:=S.next ≤ S'.next ∧ ∀ id,id < S.next → id ≠ p → S'.mem.get id=S.mem.get id
theorem En.x {S S':St} (h:En S S') (p:Nat):D7 p S S':=⟨h.1,fun id hid _=>h.2 id hid⟩
theorem D7.trans {p:Nat} {S S1 S2:St} (h:D7 p S S1) (k:D7 p S1 S2):D7 p S S2:=⟨Nat.le_trans h.1 k.1,fun id hid hn=>(k.2 id (Nat.lt_of_lt_of_le hid h.1) hn).trans (h.2 id hid hn)⟩
theorem fc68 (b:Nat):C2 Tryz.prog 68 (.ptr b 0) 0=some (.ptr b 0) ∧ C2 Tryz.prog 68 (.ptr b 0) 1=some (.ptr b 1) ∧ C2 Tryz.prog 68 (.ptr b 0) 3=some (.ptr b 3):=⟨by kernel_rfl,by kernel_rfl,by kernel_rfl⟩
theorem st3cur {S:St} {p k i:Nat} {ts:List Tk} (h:Cur S p k ts i) (j:Nat):Dt Tryz.prog S 3 (.ptr p 1) (.v (.int .i64 (j:Int)))=some (S.put p [.sl k 0 4 (ts.map Ga),Dq j]):=by
 unfold Cur at h
 have h2:(AV.v (.int .i64 (j:Int))).noTup=true:=rfl
 simp [Dt,h,s3,h2,AV.cells,St.put,Dq]
theorem step_w (S:St) (p k:Nat) (ts:List Tk) (i:Nat) (h:Cur S p k ts i) (hp:p < S.next) (hi:i < ts.length) (hl:ts.length ≤ 1000000):WC E1 115 [.ptr p 0] S (fun r=>∃ S',r=.ret (Ga ts[i]) S' ∧ D7 p S S' ∧ Cur S' p k ts (i + 1)):=by
 refine Dv Tryz.f115 (by kernel_rfl) (by kernel_rfl) (by kernel_rfl) (by show (_:Nat) ≤ _;simp [Tryz.f115]) ?_
 obtain ⟨fn1,hf1⟩:=R3
 have h1:Cur (S.newBox (El Ea)) p k ts i:=(Fy hp).trans h
 simp only [A6,Bk,Bj,Ch,A7,Bf,Bh,Bd,A5,Bc,Ba,Ce,A0,A1,Bm,B5,ofOpt,ofOptS,Cp,Nat.reduceLT,Nat.reduceEqDiff,Aa,Ab,Ac,Ae,Aj,Ak,Tryz.f115,G9,hf1]
 refine WC.mono (cS _ p k ts i h1 (Nat.lt_succ_of_lt hp) hi) ?_
 rintro _ ⟨S2,rfl,hk⟩
 have hn2:S.next < S2.next:=hk.1
 have h2:Cur S2 p k ts i:=h1.keep (Nat.lt_succ_of_lt hp) hk
 have g2:S2.mem.get S.next=some (.box (El Ea)):=(hk.2 _ (Nat.lt_succ_self _)).trans (Cv S _)
 have q1:Dt Tryz.prog (S2.newBox (El Ea)) 68 (.ptr S2.next 0) (Ga ts[i])=some ((S2.newBox (El Ea)).put S2.next (El ts[i])):=Pc S2 (El Ea) (El ts[i]) rfl rfl
 have k3:En S2 ((S2.newBox (El Ea)).put S2.next (El ts[i])):=Et (Cz S2 _) (Nat.le_refl _) _
 have g3:=Ed (S2.newBox (El Ea)) S2.next (El ts[i])
 generalize hS3:(S2.newBox (El Ea)).put S2.next (El ts[i])=S3 at q1 k3 g3
 have h3:Cur S3 p k ts i:=h2.keep (by omega) k3
 have q2:=h3.ld1
 have q3:=st3cur h3 (i + 1)
 have hw:=K8 (i:=i) (by omega)
 have g4:(S3.put p [.sl k 0 4 (ts.map Ga),Dq (i + 1)]).mem.get S2.next=some (.box (El ts[i])):=(Eg (by omega)).trans g3
 have g5:(S3.put p [.sl k 0 4 (ts.map Ga),Dq (i + 1)]).mem.get S.next=some (.box (El Ea)):=(Eg (by omega)).trans ((k3.2 _ hn2).trans g2)
 have q4:=dD g4
 have q5:Dt Tryz.prog _ 68 (.ptr S.next 0) (Ga ts[i])=some _:=Yp S _ Ea ts[i] S.next g5
 have q6:Cd Tryz.prog ((S3.put p [.sl k 0 4 (ts.map Ga),Dq (i + 1)]).put S.next (El ts[i])) 68 (.ptr S.next 0)=some (Ga ts[i]):=Kb _ _ _ rfl
 unfold Dq at q2 q3 q4 q5 q6
 simp only [A6,Bk,B1,Bj,Ch,A7,Bf,Br,Bu,Bd,Bp,A5,Bc,Ba,A0,A1,ofOpt,ofOptS,Bb,Cp,Bs,Bi,B0,Bg,Cs,Dg,Nat.reduceLT,Nat.reduceEqDiff,Aa,Ab,Ac,Am,G9,q1,fc1,q2,hw,q3,q4,q5,q6]
 refine ⟨_,rfl,⟨?_,fun id hid hne=>?_⟩,?_⟩
 ·have:=hk.1; have:=k3.1; show S.next ≤ S3.next; omega
 ·rw [Eg (by omega),Eg hne,k3.2 id (by omega),hk.2 id (Nat.lt_succ_of_lt hid),Fy hid]
 ·exact (Eg (by omega)).trans (Ed _ _ _)
def Ia (t:Tk):Nat:=if t.kind=5 then 2 else 1
def Zm (a e:Nat):AV:=.iface 33 (.agg (Ds a e))
theorem mkI33 (a e:Nat):T8 Tryz.prog 33 (.agg [.v (.int .i64 (a:Int)),.v (.int .i64 (e:Int))])=some (.iface 33 (.agg [.v (.int .i64 (a:Int)),.v (.int .i64 (e:Int))])):=by kernel_rfl
theorem ld3k {S:St} {id:Nat} {t:Tk} (h:S.mem.get id=some (.box (El t))):Cd Tryz.prog S 3 (.ptr id 0)=some (Dq t.kind) ∧ Cd Tryz.prog S 3 (.ptr id 1)=some (Dq t.pos):=by
 constructor <;> simp [Cd,D0,h,a3,El]
theorem oV (S:St) (p k:Nat) (ts:List Tk) (i:Nat) (h:Cur S p k ts i) (hp:p < S.next) (hi:i < ts.length):WC E1 114 [.ptr p 0] S (fun r=>∃ S',r=.pan (Zm ts[i].pos (Ia ts[i])) S' ∧ En S S'):=by
 refine Dv Tryz.f114 (by kernel_rfl) (by kernel_rfl) (by kernel_rfl) (by show (_:Nat) ≤ _;simp [Tryz.f114]) ?_
 obtain ⟨fn1,hf1⟩:=R3
 simp only [A6,Bk,A7,Bf,Bh,Bd,A5,Bc,Ba,Ce,A0,A1,Bm,B5,ofOpt,Nat.reduceLT,Nat.reduceEqDiff,Aa,Ab,Ac,Ae,Aj,Ak,Tryz.f114,hf1]
 refine WC.mono (cS _ p k ts i h hp hi) ?_
 rintro _ ⟨S2,rfl,hk⟩
 have q1:Dt Tryz.prog (S2.newBox (El Ea)) 68 (.ptr S2.next 0) (Ga ts[i])=some ((S2.newBox (El Ea)).put S2.next (El ts[i])):=Pc S2 (El Ea) (El ts[i]) rfl rfl
 have k3:En S2 ((S2.newBox (El Ea)).put S2.next (El ts[i])):=Et (Cz S2 _) (Nat.le_refl _) _
 obtain ⟨q2,q3⟩:=ld3k (Ed (S2.newBox (El Ea)) S2.next (El ts[i]))
 have f0:=(fc68 S2.next).1
 have f1:=(fc68 S2.next).2.1
 unfold Dq at q2 q3
 by_cases h5:ts[i].kind=5
 ·have e:Ia ts[i]=2:=by unfold Ia; rw [if_pos h5]
  have n5:(((ts[i].kind:Nat):Int) == 5)=true:=by rw [h5]; rfl
  have m:=mkI33 ts[i].pos 2
  simp only [Bo,A6,Bk,Bl,Bj,Ch,A7,Bf,Br,Bu,Bd,Bp,De,A5,Bc,Ba,A0,A1,ofOpt,ofOptS,Bb,Cp,Bz,Bs,B9,Nat.reduceLT,Nat.reduceEqDiff,Aa,Ab,Ac,Am,G9,q1,f0,q2,n5,f1,q3,xT]
  have m:T8 Tryz.prog 33 (.agg [.v (.int .i64 (ts[i].pos:Int)),.v (.int .i64 2)])=some (.iface 33 (.agg [.v (.int .i64 (ts[i].pos:Int)),.v (.int .i64 2)])):=m
  simp only [Cl,A7,Bf,D5,Bd,A5,Bc,Ba,A0,A1,Cg,Nat.reduceLT,Nat.reduceEqDiff,Aa,Ab,Ac,m]
  rw [e]
  exact ⟨_,rfl,hk.trans k3⟩
 ·have e:Ia ts[i]=1:=by unfold Ia; rw [if_neg h5]
  have n5:(((ts[i].kind:Nat):Int) == 5)=false:=by rw [beq_eq_false_iff_ne]; omega
  have m:T8 Tryz.prog 33 (.agg [.v (.int .i64 (ts[i].pos:Int)),.v (.int .i64 1)])=some (.iface 33 (.agg [.v (.int .i64 (ts[i].pos:Int)),.v (.int .i64 1)])):=mkI33 ts[i].pos 1
  simp only [Bo,A6,Bk,Bl,Bj,Ch,A7,Bf,Br,D5,Bu,Bd,Bp,C8,A5,Bc,Ba,A0,A1,ofOpt,ofOptS,Bb,Cp,Bz,Bs,Cg,B9,Nat.reduceLT,Nat.reduceEqDiff,Aa,Ab,Ac,Am,G9,q1,f0,q2,n5,f1,q3,xT,m]
  rw [e]
  exact ⟨_,rfl,hk.trans k3⟩
theorem take_yes (S:St) (p k:Nat) (ts:List Tk) (i:Nat) (h:Cur S p k ts i) (hp:p < S.next) (hi:i < ts.length) (hl:ts.length ≤ 1000000) (tok off:Nat) (ws:List (List UInt8)) (hw:ws.length ≤ 1000) (hm:ts[i].text ∈ ws):WC E1 79 [.ptr p 0,wsA tok off ws] S (fun r=>∃ S',r=.ret (.tup [Ga ts[i],.v (.bool true)]) S' ∧ D7 p S S' ∧ Cur S' p k ts (i + 1)):=by
 refine Dv Tryz.f79 (by kernel_rfl) (by kernel_rfl) (by kernel_rfl) (by show (_:Nat) ≤ _;simp [Tryz.f79]) ?_
 obtain ⟨fn1,hf1⟩:=X3
 obtain ⟨fn2,hf2⟩:=fnOk115
 have h1:Cur (S.newBox (El Ea)) p k ts i:=(Fy hp).trans h
 simp only [A6,Bk,Bj,Ch,A7,Bf,Bh,Bd,A5,Bc,Ba,Ce,A0,A1,Bm,B5,ofOpt,ofOptS,Bb,Cp,Nat.reduceLT,Nat.reduceAdd,Nat.reduceEqDiff,Aa,Ab,Ac,Ae,Aj,Ak,Tryz.f79,G9,hf1]
 refine WC.mono (Si _ p k ts i h1 (Nat.lt_succ_of_lt hp) hi tok off ws hw) ?_
 rintro _ ⟨S2,rfl,hk⟩
 rw [decide_eq_true hm]
 simp only [Bo,A6,Bk,Bl,Bj,Ch,A7,Bf,Bh,Bd,Bp,C8,A5,Bc,Ba,A0,A1,Bm,B5,ofOpt,Cp,Fj,Bz,C6,Db,Nat.reduceLT,Nat.reduceEqDiff,Aa,Ab,Ac,Aj,Ak,Ar,hf2]
 refine WC.mono (step_w S2 p k ts i (h1.keep (Nat.lt_succ_of_lt hp) hk) (Nat.lt_of_lt_of_le (Nat.lt_succ_of_lt hp) hk.1) hi hl) ?_
 rintro _ ⟨S3,rfl,hx,hc⟩
 have hn2:S.next < S2.next:=hk.1
 have g3:S3.mem.get S.next=some (.box (El Ea)):=(hx.2 _ hn2 (by omega)).trans ((hk.2 _ (Nat.lt_succ_self _)).trans (Cv S _))
 have q1:=Yp S S3 Ea ts[i] S.next g3
 have q2:Cd Tryz.prog (S3.put S.next (El ts[i])) 68 (.ptr S.next 0)=some (Ga ts[i]):=Kb _ _ _ rfl
 simp only [B1,Bj,Ch,A7,Bf,Br,Bu,Bd,Bp,A5,Bc,Ba,A0,A1,ofOpt,Bb,Cp,Bi,B0,Bg,Cs,Nat.reduceLT,Nat.reduceEqDiff,Aa,Ab,Ac,q1,q2]
 refine ⟨_,rfl,⟨?_,fun id hid hne=>?_⟩,?_⟩
 ·have:=hx.1; show S.next ≤ S3.next; omega
 ·rw [Eg (by omega),hx.2 id (by omega) hne,hk.2 id (Nat.lt_succ_of_lt hid),Fy hid]
 ·exact (Eg (by omega)).trans hc
theorem take_no (S:St) (p k:Nat) (ts:List Tk) (i:Nat) (h:Cur S p k ts i) (hp:p < S.next) (hi:i < ts.length) (tok off:Nat) (ws:List (List UInt8)) (hw:ws.length ≤ 1000) (hm:ts[i].text ∉ ws):WC E1 79 [.ptr p 0,wsA tok off ws] S (fun r=>∃ S',r=.ret (.tup [Ga Ea,.v (.bool false)]) S' ∧ En S S'):=by
 refine Dv Tryz.f79 (by kernel_rfl) (by kernel_rfl) (by kernel_rfl) (by show (_:Nat) ≤ _;simp [Tryz.f79]) ?_
 obtain ⟨fn1,hf1⟩:=X3
 have h1:Cur (S.newBox (El Ea)) p k ts i:=(Fy hp).trans h
 simp only [A6,Bk,Bj,Ch,A7,Bf,Bh,Bd,A5,Bc,Ba,Ce,A0,A1,Bm,B5,ofOpt,ofOptS,Bb,Cp,Nat.reduceLT,Nat.reduceAdd,Nat.reduceEqDiff,Aa,Ab,Ac,Ae,Aj,Ak,Tryz.f79,G9,hf1]
 refine WC.mono (Si _ p k ts i h1 (Nat.lt_succ_of_lt hp) hi tok off ws hw) ?_
 rintro _ ⟨S2,rfl,hk⟩
 rw [decide_eq_false hm]
 have g2:S2.mem.get S.next=some (.box (El Ea)):=(hk.2 _ (Nat.lt_succ_self _)).trans (Cv S _)
 have q1:Dt Tryz.prog S2 68 (.ptr S.next 0) (.agg (El Ea))=some (S2.put S.next (El Ea)):=st68 g2 rfl rfl
 have q2:Cd Tryz.prog (S2.put S.next (El Ea)) 68 (.ptr S.next 0)=some (Ga Ea):=Kb _ _ _ rfl
 simp only [Bo,A6,Bk,Bl,B1,Bj,Dd,Ch,A7,Bf,Br,Bu,Bd,Bp,De,A5,Bc,Ba,A0,A1,Bm,B5,ofOpt,Bb,Cp,Fj,Bz,Bi,B0,Bg,Cs,C6,Db,Nat.reduceLT,Nat.reduceEqDiff,Aa,Ab,Ac,Aj,Ak,Au,kP,q1,q2]
 exact ⟨_,rfl,Et ((Cz S _).trans hk) (Nat.le_refl _) _⟩
theorem need_yes (S:St) (p k:Nat) (ts:List Tk) (i:Nat) (h:Cur S p k ts i) (hp:p < S.next) (hi:i < ts.length) (hl:ts.length ≤ 1000000) (tok off:Nat) (ws:List (List UInt8)) (hw:ws.length ≤ 1000) (hm:ts[i].text ∈ ws):WC E1 81 [.ptr p 0,wsA tok off ws] S (fun r=>∃ S',r=.ret (Ga ts[i]) S' ∧ D7 p S S' ∧ Cur S' p k ts (i + 1)):=by
 refine Dv Tryz.f81 (by kernel_rfl) (by kernel_rfl) (by kernel_rfl) (by show (_:Nat) ≤ _;simp [Tryz.f81]) ?_
 obtain ⟨fn1,hf1⟩:=X3
 obtain ⟨fn2,hf2⟩:=fnOk115
 have h1:Cur (S.newBox (El Ea)) p k ts i:=(Fy hp).trans h
 simp only [A6,Bk,Bj,Ch,A7,Bf,Bh,Bd,A5,Bc,Ba,Ce,A0,A1,Bm,B5,ofOpt,ofOptS,Cp,Nat.reduceLT,Nat.reduceAdd,Nat.reduceEqDiff,Aa,Ab,Ac,Ae,Aj,Ak,Tryz.f81,G9,hf1]
 refine WC.mono (Si _ p k ts i h1 (Nat.lt_succ_of_lt hp) hi tok off ws hw) ?_
 rintro _ ⟨S2,rfl,hk⟩
 rw [decide_eq_true hm]
 simp only [Bo,A6,Bk,Bl,Bj,Ch,A7,Bf,Bh,Bd,Bp,C8,A5,Bc,Ba,A0,A1,Bm,B5,ofOpt,Cp,Fj,C6,Db,Nat.reduceLT,Nat.reduceEqDiff,Aa,Ab,Ac,Aj,Ak,Ar,hf2]
 refine WC.mono (step_w S2 p k ts i (h1.keep (Nat.lt_succ_of_lt hp) hk) (Nat.lt_of_lt_of_le (Nat.lt_succ_of_lt hp) hk.1) hi hl) ?_
 rintro _ ⟨S3,rfl,hx,hc⟩
 have hn2:S.next < S2.next:=hk.1
 have g3:S3.mem.get S.next=some (.box (El Ea)):=(hx.2 _ hn2 (by omega)).trans ((hk.2 _ (Nat.lt_succ_self _)).trans (Cv S _))
 have q1:=Yp S S3 Ea ts[i] S.next g3
 have q2:Cd Tryz.prog (S3.put S.next (El ts[i])) 68 (.ptr S.next 0)=some (Ga ts[i]):=Kb _ _ _ rfl
 simp only [B1,Bj,Ch,A7,Br,Bu,Bd,Bp,A5,Bc,Ba,A0,A1,Cp,Bi,B0,Bg,Cs,Nat.reduceLT,Nat.reduceEqDiff,Aa,Ab,Ac,q1,q2]
 refine ⟨_,rfl,⟨?_,fun id hid hne=>?_⟩,?_⟩
 ·have:=hx.1; show S.next ≤ S3.next; omega
 ·rw [Eg (by omega),hx.2 id (by omega) hne,hk.2 id (Nat.lt_succ_of_lt hid),Fy hid]
 ·exact (Eg (by omega)).trans hc
theorem need_no (S:St) (p k:Nat) (ts:List Tk) (i:Nat) (h:Cur S p k ts i) (hp:p < S.next) (hi:i < ts.length) (tok off:Nat) (ws:List (List UInt8)) (hw:ws.length ≤ 1000) (hm:ts[i].text ∉ ws):WC E1 81 [.ptr p 0,wsA tok off ws] S (fun r=>∃ S',r=.pan (Zm ts[i].pos (Ia ts[i])) S' ∧ En S S'):=by
 refine Dv Tryz.f81 (by kernel_rfl) (by kernel_rfl) (by kernel_rfl) (by show (_:Nat) ≤ _;simp [Tryz.f81]) ?_
 obtain ⟨fn1,hf1⟩:=X3
 obtain ⟨fn2,hf2⟩:=fnOk114
 have h1:Cur (S.newBox (El Ea)) p k ts i:=(Fy hp).trans h
 simp only [A6,Bk,Bj,Ch,A7,Bf,Bh,Bd,A5,Bc,Ba,Ce,A0,A1,Bm,B5,ofOpt,ofOptS,Cp,Nat.reduceLT,Nat.reduceAdd,Nat.reduceEqDiff,Aa,Ab,Ac,Ae,Aj,Ak,Tryz.f81,G9,hf1]
 refine WC.mono (Si _ p k ts i h1 (Nat.lt_succ_of_lt hp) hi tok off ws hw) ?_
 rintro _ ⟨S2,rfl,hk⟩
 rw [decide_eq_false hm]
 simp only [Bo,A6,Bk,Bl,Bj,Ch,A7,Bf,Bh,Bd,Bp,De,A5,Bc,Ba,A0,A1,Bm,B5,ofOpt,Cp,Fj,C6,Db,Nat.reduceLT,Nat.reduceEqDiff,Aa,Ab,Ac,Aj,Ak,Au,hf2]
 refine WC.mono (oV S2 p k ts i (h1.keep (Nat.lt_succ_of_lt hp) hk) (Nat.lt_of_lt_of_le (Nat.lt_succ_of_lt hp) hk.1) hi) ?_
 rintro _ ⟨S3,rfl,hx⟩
 simp only [Cl,Cq,Cg]
 exact ⟨_,rfl,(Cz S _).trans (hk.trans hx)⟩
theorem qH (S:St) (p k:Nat) (ts:List Tk) (i:Nat) (h:Cur S p k ts i) (hp:p < S.next) (hi:i < ts.length) (hl:ts.length ≤ 1000000) (kind:Nat) (hm:ts[i].kind=kind):WC E1 124 [.ptr p 0,Dq kind] S (fun r=>∃ S',r=.ret (Ga ts[i]) S' ∧ D7 p S S' ∧ Cur S' p k ts (i + 1)):=by
 refine Dv Tryz.f124 (by kernel_rfl) (by kernel_rfl) (by kernel_rfl) (by show (_:Nat) ≤ _;simp [Tryz.f124]) ?_
 obtain ⟨fn1,hf1⟩:=R3
 obtain ⟨fn2,hf2⟩:=fnOk115
 have h1:Cur (S.newBox (El Ea)) p k ts i:=(Fy hp).trans h
 have hq:(((ts[i].kind:Nat):Int) != (kind:Int))=false:=by rw [hm]; simp
 simp only [A6,Bk,Bj,Ch,A7,Bf,Bh,Bd,A5,Bc,Ba,Ce,A0,A1,Bm,B5,ofOpt,ofOptS,Cp,Nat.reduceLT,Nat.reduceAdd,Nat.reduceEqDiff,Aa,Ab,Ac,Ae,Aj,Ak,Tryz.f124,G9,hf1]
 refine WC.mono (cS _ p k ts i h1 (Nat.lt_succ_of_lt hp) hi) ?_
 rintro _ ⟨S2,rfl,hk⟩
 simp only [Bo,A6,Bk,Bl,Bj,Ch,A7,Bf,Bh,Bd,Bp,C8,A5,Bc,Ba,A0,A1,Bm,B5,ofOpt,Cp,Bs,Di,Nat.reduceLT,Nat.reduceEqDiff,Aa,Ab,Ac,Aj,Ak,Am,Ly,Dq,hq,hf2]
 refine WC.mono (step_w S2 p k ts i (h1.keep (Nat.lt_succ_of_lt hp) hk) (Nat.lt_of_lt_of_le (Nat.lt_succ_of_lt hp) hk.1) hi hl) ?_
 rintro _ ⟨S3,rfl,hx,hc⟩
 have hn2:S.next < S2.next:=hk.1
 have g3:S3.mem.get S.next=some (.box (El Ea)):=(hx.2 _ hn2 (by omega)).trans ((hk.2 _ (Nat.lt_succ_self _)).trans (Cv S _))
 have q1:=Yp S S3 Ea ts[i] S.next g3
 have q2:Cd Tryz.prog (S3.put S.next (El ts[i])) 68 (.ptr S.next 0)=some (Ga ts[i]):=Kb _ _ _ rfl
 simp only [B1,Bj,Ch,A7,Br,Bu,Bd,Bp,A5,Bc,Ba,A0,A1,Cp,Bi,B0,Bg,Cs,Nat.reduceLT,Nat.reduceEqDiff,Aa,Ab,Ac,q1,q2]
 refine ⟨_,rfl,⟨?_,fun id hid hne=>?_⟩,?_⟩
 ·have:=hx.1; show S.next ≤ S3.next; omega
 ·rw [Eg (by omega),hx.2 id (by omega) hne,hk.2 id (Nat.lt_succ_of_lt hid),Fy hid]
 ·exact (Eg (by omega)).trans hc
theorem kind_no (S:St) (p k:Nat) (ts:List Tk) (i:Nat) (h:Cur S p k ts i) (hp:p < S.next) (hi:i < ts.length) (kind:Nat) (hm:ts[i].kind ≠ kind):WC E1 124 [.ptr p 0,Dq kind] S (fun r=>∃ S',r=.pan (Zm ts[i].pos (Ia ts[i])) S' ∧ En S S'):=by
 refine Dv Tryz.f124 (by kernel_rfl) (by kernel_rfl) (by kernel_rfl) (by show (_:Nat) ≤ _;simp [Tryz.f124]) ?_
 obtain ⟨fn1,hf1⟩:=R3
 obtain ⟨fn2,hf2⟩:=fnOk114
 have h1:Cur (S.newBox (El Ea)) p k ts i:=(Fy hp).trans h
 have hq:(((ts[i].kind:Nat):Int) != (kind:Int))=true:=by rw [bne_iff_ne]; omega
 simp only [A6,Bk,Bj,Ch,A7,Bf,Bh,Bd,A5,Bc,Ba,Ce,A0,A1,Bm,B5,ofOpt,ofOptS,Cp,Nat.reduceLT,Nat.reduceAdd,Nat.reduceEqDiff,Aa,Ab,Ac,Ae,Aj,Ak,Tryz.f124,G9,hf1]
 refine WC.mono (cS _ p k ts i h1 (Nat.lt_succ_of_lt hp) hi) ?_
 rintro _ ⟨S2,rfl,hk⟩
 simp only [Bo,A6,Bk,Bl,Bj,Ch,A7,Bf,Bh,Bd,Bp,De,A5,Bc,Ba,A0,A1,Bm,B5,ofOpt,Cp,Bs,Di,Nat.reduceLT,Nat.reduceEqDiff,Aa,Ab,Ac,Aj,Ak,Am,Ly,Dq,hq,hf2]
 refine WC.mono (oV S2 p k ts i (h1.keep (Nat.lt_succ_of_lt hp) hk) (Nat.lt_of_lt_of_le (Nat.lt_succ_of_lt hp) hk.1) hi) ?_
 rintro _ ⟨S3,rfl,hx⟩
 simp only [Cl,Cq,Cg]
 exact ⟨_,rfl,(Cz S _).trans (hk.trans hx)⟩
def exC (kind pos:Nat) (n:Int) (name:List UInt8) (off:Bool) (kv:AV):List AV:=[Dq kind,Dq pos,.v (.int .i64 n),Bt name,.v (.bool off),kv]
def exZ:List AV:=exC 0 0 0 [] false .nils
def sU (kv:AV):Prop:=kv=.nils ∨ ∃ tok off es,kv=.sl tok off 6 es
theorem a30:Fo Tryz.prog 30=some true:=by kernel_rfl
theorem s30:Fu Tryz.prog 30=some 6:=by kernel_rfl
theorem Gu (S:St):Js Tryz.prog S 30=some (.ptr S.next 0,S.newBox exZ):=rfl
theorem Xa {S:St} {id:Nat} {cs ys:List AV} (h:S.mem.get id=some (.box cs)) (hl:cs.length=6) (hy:ys.length=6):Dt Tryz.prog S 30 (.ptr id 0) (.agg ys)=some (S.put id ys):=by
 have h2:(AV.agg ys).noTup=true:=rfl
 simp [Dt,h,s30,h2,AV.cells,hl,hy,St.put,List.drop_eq_nil_of_le]
theorem ld30 {S:St} {id:Nat} {cs:List AV} (h:S.mem.get id=some (.box cs)) (hl:cs.length=6):Cd Tryz.prog S 30 (.ptr id 0)=some (.agg cs):=by
 have e:cs.take 6=cs:=List.take_of_length_le (by omega)
 simp [Cd,D0,h,a30,s30,hl,e]
theorem b30 (k a:Int) (kv:AV) (h:sU kv):Gc Tryz.prog 30 [(0,.v (.int .i64 k)),(1,.v (.int .i64 a)),(5,kv)]=some (.agg [.v (.int .i64 k),.v (.int .i64 a),.v (.int .i64 0),Bt [],.v (.bool false),kv]):=by
 rcases h with rfl | ⟨tok,off,es,rfl⟩ <;> rfl
theorem ld3b {S:St} {id:Nat} {t:Tk} (h:S.mem.get id=some (.box (El t))):Cd Tryz.prog S 3 (.ptr id 1)=some (.v (.int .i64 (t.pos:Int))):=(ld3k h).2
theorem fd1 (b:Nat):C2 Tryz.prog 68 (.ptr b 0) 1=some (.ptr b 1):=(fc68 b).2.1
theorem fd3 (b:Nat):C2 Tryz.prog 68 (.ptr b 0) 3=some (.ptr b 3):=(fc68 b).2.2
theorem Uf (t:Tk):(Ga t).noTup=true:=rfl
theorem Ug (t:Tk):(Ga t).cells=El t:=rfl
theorem Ca (xs:List AV):(AV.agg xs).noTup=true:=rfl
theorem Cb (xs:List AV):(AV.agg xs).cells=xs:=rfl
theorem Qz (S:St) (b:Nat) (cs:List AV):(S.put b cs).next=S.next:=rfl
theorem T9 (S:St) (kind:Nat) (t:Tk) (kv:AV) (hk:sU kv):WC E1 82 [Dq kind,Ga t,kv] S (fun r=>∃ S',r=.ret (.agg (exC kind t.pos 0 [] false kv)) S' ∧ En S S'):=by
 refine Dv Tryz.f82 (by kernel_rfl) (by kernel_rfl) (by kernel_rfl) (by show (_:Nat) ≤ _;simp [Tryz.f82]) ?_
 have g1:((S.newBox (El t)).newBox exZ).mem.get S.next=some (.box (El t)):=(Fy (Nat.lt_succ_self _)).trans (Cv S _)
 have g2:((S.newBox (El t)).newBox exZ).mem.get (S.newBox (El t)).next=some (.box exZ):=Cv _ _
 have q1:=ld3b g1
 have q2:=b30 kind t.pos kv hk
 have q3:=Xa g2 rfl (show ([.v (.int .i64 (kind:Int)),.v (.int .i64 (t.pos:Int)),.v (.int .i64 0),Bt [],.v (.bool false),kv]:List AV).length=6 from rfl)
 have q4:=ld30 (Ed ((S.newBox (El t)).newBox exZ) (S.newBox (El t)).next [.v (.int .i64 (kind:Int)),.v (.int .i64 (t.pos:Int)),.v (.int .i64 0),Bt [],.v (.bool false),kv]) rfl
 simp only [Dq]
 simp only [A6,Bk,B1,Bj,Ch,A7,Bf,Br,Bu,Bd,A5,Bc,Ba,Ce,A0,A1,ofOpt,ofOptS,Cp,Bz,Bi,B0,Bg,Cs,Nat.reduceLT,Nat.reduceAdd,Nat.reduceEqDiff,Aa,Ab,Ac,Ae,Tryz.f82,Uf,Ug,Gu,fd1,q1,q2,q3,q4]
 refine ⟨_,rfl,Et ((Cz S _).trans (Cz _ _)) (Nat.le_succ _) _⟩
theorem X4:∃ fn,E1.F 82=some fn:=Option.isSome_iff_exists.1 (by kernel_rfl)
theorem e28:Ir Tryz.prog 28=some (none,30):=by kernel_rfl
theorem z30:Mi Tryz.prog 30=some (.agg exZ):=by kernel_rfl
theorem lR (xs ys:List AV) (hx:xs.length=6) (hy:ys.length=6):Dw Tryz.prog 28 2 [(0,.agg xs),(1,.agg ys)]=some (.sl 1 0 6 [.agg xs,.agg ys]):=by
 simp [Dw,e28,s30,z30,Ca,Cb,hx,hy]
 rfl
theorem Yx (xs:List AV) (hx:xs.length=6):Dw Tryz.prog 28 1 [(0,.agg xs)]=some (.sl 1 0 6 [.agg xs]):=by
 simp [Dw,e28,s30,z30,Ca,Cb,hx]
theorem row28_3 (xs ys zs:List AV) (hx:xs.length=6) (hy:ys.length=6) (hz:zs.length=6):Dw Tryz.prog 28 3 [(0,.agg xs),(1,.agg ys),(2,.agg zs)]=some (.sl 1 0 6 [.agg xs,.agg ys,.agg zs]):=by
 simp [Dw,e28,s30,z30,Ca,Cb,hx,hy,hz]
 rfl
theorem fa30 (b:Nat):C2 Tryz.prog 30 (.ptr b 0) 2=some (.ptr b 2) ∧ C2 Tryz.prog 30 (.ptr b 0) 3=some (.ptr b 3) ∧ C2 Tryz.prog 30 (.ptr b 0) 4=some (.ptr b 4):=⟨by kernel_rfl,by kernel_rfl,by kernel_rfl⟩
theorem Yr {S:St} {id kind pos:Nat} {n:Int} {name:List UInt8} {off:Bool} {kv:AV} (h:S.mem.get id=some (.box (exC kind pos n name off kv))) (s:List UInt8):Dt Tryz.prog S 9 (.ptr id 3) (.v (.string ⟨⟨s⟩⟩))=some (S.put id (exC kind pos n s off kv)):=by
 have h2:(AV.v (.string ⟨⟨s⟩⟩)).noTup=true:=rfl
 simp [Dt,h,s9,h2,AV.cells,St.put,exC,Bt]
theorem st30_n {S:St} {id kind pos:Nat} {n:Int} {name:List UInt8} {off:Bool} {kv:AV} (h:S.mem.get id=some (.box (exC kind pos n name off kv))) (m:Int):Dt Tryz.prog S 2 (.ptr id 2) (.v (.int .i64 m))=some (S.put id (exC kind pos m name off kv)):=by
 have h2:(AV.v (.int .i64 m)).noTup=true:=rfl
 have s2:Fu Tryz.prog 2=some 1:=by kernel_rfl
 simp [Dt,h,s2,h2,AV.cells,St.put,exC]
theorem binary_w (S:St) (t:Tk) (xs ys:List AV) (hx:xs.length=6) (hy:ys.length=6):WC E1 174 [Ga t,.agg xs,.agg ys] S (fun r=>∃ S',r=.ret (.agg (exC 6 t.pos 0 t.text false (.sl 1 0 6 [.agg xs,.agg ys]))) S' ∧ En S S'):=by
 refine Dv Tryz.f174 (by kernel_rfl) (by kernel_rfl) (by kernel_rfl) (by show (_:Nat) ≤ _;simp [Tryz.f174]) ?_
 obtain ⟨fn1,hf1⟩:=X4
 generalize hS1:S.newBox (El t)=S1
 generalize hS2:S1.newBox xs=S2
 generalize hS3:S2.newBox ys=S3
 generalize hS4:S3.newBox exZ=S4
 have n1:S1.next=S.next + 1:=by rw [← hS1]; rfl
 have n2:S2.next=S.next + 2:=by rw [← hS2]; show S1.next + 1=_; omega
 have n3:S3.next=S.next + 3:=by rw [← hS3]; show S2.next + 1=_; omega
 have n4:S4.next=S.next + 4:=by rw [← hS4]; show S3.next + 1=_; omega
 have k1:En S S1:=by rw [← hS1]; exact Cz _ _
 have k2:En S1 S2:=by rw [← hS2]; exact Cz _ _
 have k3:En S2 S3:=by rw [← hS3]; exact Cz _ _
 have k4:En S3 S4:=by rw [← hS4]; exact Cz _ _
 have gt:S4.mem.get S.next=some (.box (El t)):=((k2.trans (k3.trans k4)).2 _ (by omega)).trans (by rw [← hS1]; exact Cv _ _)
 have gx:S4.mem.get S1.next=some (.box xs):=((k3.trans k4).2 _ (by omega)).trans (by rw [← hS2]; exact Cv _ _)
 have gy:S4.mem.get S2.next=some (.box ys):=(k4.2 _ (by omega)).trans (by rw [← hS3]; exact Cv _ _)
 have gz:S4.mem.get S3.next=some (.box exZ):=by rw [← hS4]; exact Cv _ _
 have l1:=dD gt
 have l2:=ld30 gx hx
 have l3:=ld30 gy hy
 have r1:=lR xs ys hx hy
 simp only [A6,Bk,Bj,Ch,A7,Bf,Bh,Bd,A5,Bc,Ba,Ce,A0,A1,Bm,B5,ofOpt,ofOptS,Bb,Cp,Bz,Nat.reduceLT,Nat.reduceAdd,Nat.reduceEqDiff,Aa,Ab,Ac,Ae,Aj,Ak,Tryz.f174,Uf,Ug,Ca,Cb,Gu,hS1,hS2,hS3,hS4,l1,l2,l3,r1,hf1]
 refine WC.mono (T9 S4 6 t (.sl 1 0 6 [.agg xs,.agg ys]) (.inr ⟨_,_,_,rfl⟩)) ?_
 rintro _ ⟨S5,rfl,k5⟩
 have gn:(S5.newBox exZ).mem.get S5.next=some (.box exZ):=Cv _ _
 have q1:=Xa gn rfl (show (exC 6 t.pos 0 [] false (.sl 1 0 6 [.agg xs,.agg ys])).length=6 from rfl)
 generalize hS6:(S5.newBox exZ).put S5.next (exC 6 t.pos 0 [] false (.sl 1 0 6 [.agg xs,.agg ys]))=S6 at q1
 have k6:En S5 S6:=by rw [← hS6]; exact Et (Cz _ _) (Nat.le_refl _) _
 have g6:S6.mem.get S5.next=some (.box (exC 6 t.pos 0 [] false (.sl 1 0 6 [.agg xs,.agg ys]))):=by rw [← hS6]; exact Ed _ _ _
 have gt6:S6.mem.get S.next=some (.box (El t)):=((k5.trans k6).2 _ (by omega)).trans gt
 have gz6:S6.mem.get S3.next=some (.box exZ):=((k5.trans k6).2 _ (by omega)).trans gz
 have ft:=fa68 S.next
 have lt:=mH gt6
 have fe:=(fa30 S5.next).2.1
 have q2:=Yr g6 t.text
 have g7:(S6.put S5.next (exC 6 t.pos 0 t.text false (.sl 1 0 6 [.agg xs,.agg ys]))).mem.get S5.next=some (.box (exC 6 t.pos 0 t.text false (.sl 1 0 6 [.agg xs,.agg ys]))):=Ed _ _ _
 have hne:S3.next ≠ S5.next:=by have:=k5.1; omega
 have gz7:(S6.put S5.next (exC 6 t.pos 0 t.text false (.sl 1 0 6 [.agg xs,.agg ys]))).mem.get S3.next=some (.box exZ):=(Eg hne).trans gz6
 have l7:=ld30 g7 rfl
 have q3:=Xa gz7 rfl (show (exC 6 t.pos 0 t.text false (.sl 1 0 6 [.agg xs,.agg ys])).length=6 from rfl)
 have l8:=ld30 (Ed (S6.put S5.next (exC 6 t.pos 0 t.text false (.sl 1 0 6 [.agg xs,.agg ys]))) S3.next (exC 6 t.pos 0 t.text false (.sl 1 0 6 [.agg xs,.agg ys]))) rfl
 unfold Bt at lt
 simp only [A6,Bk,B1,Bj,Ch,A7,Bf,Br,Bu,Bd,Bp,A5,Bc,Ba,A0,A1,ofOpt,ofOptS,Cp,Bi,B0,Bg,Cs,Nat.reduceLT,Nat.reduceEqDiff,Aa,Ab,Ac,Gu,q1,ft,lt,fe,q2,l7,q3,l8]
 refine ⟨_,rfl,?_⟩
 have kk:En S S6:=k1.trans (k2.trans (k3.trans (k4.trans (k5.trans k6))))
 exact Et (Et kk (by have:=k5.1; omega) _) (by omega) _
def convX (P:Program) (G:Gl) (f:T AV) (S:St) (o:Oper):OR:=ground P G f S o
def convO (r:OR) (S:St) (x:Option AV):OR:=match x with
 | some (.v (.int .u64 n))=>.val (.v (.int .i64 (IntKind.i64.wrap n))) S
 | _=>r
theorem xD (n:Int):Hh Tryz.prog 66 2 (.v (.int .u64 n))=none:=by
 have h1:Tryz.prog.underlying 66=some (.int .u64):=rfl
 simp only [Hh,h1]
theorem kB (f:T AV) (S:St) (dst:Option Tmp) (k:Tmp) (ty:TypeId) (pos:String) (af:Array Edge) (gd:Option (Nat × Bool)) :
  ground Tryz.prog gR f S { dst:=dst,op:=.convert 66 2 (.tmp k),type:=ty,pos:=pos,after:=af,guard:=gd }=convO (convX Tryz.prog gR f S { dst:=dst,op:=.convert 66 2 (.tmp k),type:=ty,pos:=pos,after:=af,guard:=gd }) S (f.get k):=by
 unfold convO
 split
 ·rename_i n h
  have hg:Dp gR f (.tmp k)=some (.int .u64 n):=by unfold Dp; simp only [Ba,h]; rfl
  unfold ground
  simp only [Op.operands,List.all_cons,List.all_nil,hg,Option.isSome_some,Bool.and_self,Aa]
  have e:execOp (fun x=>(Dp gR f x).getD undef) { dst:=dst,op:=.convert 66 2 (.tmp k),type:=ty,pos:=pos,after:=af,guard:=gd }=execOp (fun _=>.int .u64 n) { dst:=none,op:=.convert 66 2 (.tmp 0),type:=ty,pos := "", after:=#[],guard:=none }:=by
   simp only [execOp,hg,Ae]
  rw [e]
  have e3:Rr Tryz.prog 4000 (execOp (fun _=>Value.int .u64 n) { dst:=none,op:=.convert 66 2 (.tmp 0),type:=ty,pos := "", after:=#[],guard:=none })=some (.int .i64 (IntKind.i64.wrap n)):=by rfl
  rw [e3]; rfl
 ·rfl
theorem convO_u (r:OR) (S:St) (n:Int):convO r S (some (.v (.int .u64 n)))=.val (.v (.int .i64 (IntKind.i64.wrap n))) S:=rfl
def negX (P:Program) (G:Gl) (f:T AV) (S:St) (o:Oper):OR:=ground P G f S o
def negO (r:OR) (S:St) (x:Option AV):OR:=match x with
 | some (.v (.int .i64 n))=>.val (.v (.int .i64 (IntKind.i64.wrap (0 - n)))) S
 | _=>r
theorem ground_neg (f:T AV) (S:St) (dst:Option Tmp) (k:Tmp) (ty:TypeId) (pos:String) (af:Array Edge) (gd:Option (Nat × Bool)) :
  ground Tryz.prog gR f S { dst:=dst,op:=.unOp .neg 2 (.tmp k),type:=ty,pos:=pos,after:=af,guard:=gd }=negO (negX Tryz.prog gR f S { dst:=dst,op:=.unOp .neg 2 (.tmp k),type:=ty,pos:=pos,after:=af,guard:=gd }) S (f.get k):=by
 unfold negO
 split
 ·rename_i n h
  have hg:Dp gR f (.tmp k)=some (.int .i64 n):=by unfold Dp; simp only [Ba,h]; rfl
  unfold ground
  simp only [Op.operands,List.all_cons,List.all_nil,hg,Option.isSome_some,Bool.and_self,Aa]
  have e:execOp (fun x=>(Dp gR f x).getD undef) { dst:=dst,op:=.unOp .neg 2 (.tmp k),type:=ty,pos:=pos,after:=af,guard:=gd }=execOp (fun _=>.int .i64 n) { dst:=none,op:=.unOp .neg 2 (.tmp 0),type:=ty,pos := "", after:=#[],guard:=none }:=by
   simp only [execOp,hg,Ae]
  rw [e]
  have e3:Rr Tryz.prog 4000 (execOp (fun _=>Value.int .i64 n) { dst:=none,op:=.unOp .neg 2 (.tmp 0),type:=ty,pos := "", after:=#[],guard:=none })=some (.int .i64 (IntKind.i64.wrap (0 - n))):=by rfl
  rw [e3]; rfl
 ·rfl
theorem negO_i (r:OR) (S:St) (n:Int):negO r S (some (.v (.int .i64 n)))=.val (.v (.int .i64 (IntKind.i64.wrap (0 - n)))) S:=rfl
theorem Ec (a:ByteArray):Dw Tryz.prog 69 1 [(0,.v (.string a))]=some (.sl 1 0 1 [.v (.string a)]):=by kernel_rfl
theorem Yw (a b:ByteArray):Dw Tryz.prog 69 2 [(0,.v (.string a)),(1,.v (.string b))]=some (.sl 1 0 1 [.v (.string a),.v (.string b)]):=by kernel_rfl
theorem row69_3 (a b c:ByteArray):Dw Tryz.prog 69 3 [(0,.v (.string a)),(1,.v (.string b)),(2,.v (.string c))]=some (.sl 1 0 1 [.v (.string a),.v (.string b),.v (.string c)]):=by kernel_rfl
theorem V2 (a b c d:ByteArray):Dw Tryz.prog 69 4 [(0,.v (.string a)),(1,.v (.string b)),(2,.v (.string c)),(3,.v (.string d))]=some (.sl 1 0 1 [.v (.string a),.v (.string b),.v (.string c),.v (.string d)]):=by kernel_rfl
theorem row69_6 (a b c d e f:ByteArray):Dw Tryz.prog 69 6 [(0,.v (.string a)),(1,.v (.string b)),(2,.v (.string c)),(3,.v (.string d)),(4,.v (.string e)),(5,.v (.string f))]=some (.sl 1 0 1 [.v (.string a),.v (.string b),.v (.string c),.v (.string d),.v (.string e),.v (.string f)]):=by kernel_rfl
end Go.Ax
