/- Lf -/
import Derived.Test.YtjgknelmjdallaaGreatDoorTbG13
set_option linter.unusedVariables false
set_option linter.unusedSimpArgs false
set_option maxHeartbeats 16000000
noncomputable section
namespace Go.Ax
open Go.RowKit Go.Proofs
set_option maxRecDepth 100000
def P3 (l:List UInt8):Nat → Nat → Option ((Nat × Nat) ⊕ List Tk)
 | 0,_=>none
 | n + 1,i=>if i < l.length then (match Iv (l.drop i) i with
   | none=>none
   | some p=>if p.2=0 then (match P3 l n (i + p.1.text.length + H7 (l.length + 1) (l.drop (i + p.1.text.length))) with
     | none=>none
     | some (.inl x)=>some (.inl x)
     | some (.inr ts)=>some (.inr (p.1 :: ts))) else some (.inl (i,p.2)))
  else some (.inr [⟨5,l.length,[],0⟩])
def Kd (l:List UInt8):Option ((Nat × Nat) ⊕ List Tk):=if 4000 < l.length then some (.inl (4000,3)) else P3 l (l.length + 1) (H7 (l.length + 1) l)
theorem yM {s l:List UInt8} (h:Eu s l=true):s.length ≤ l.length:=by
 unfold Eu at h
 rw [decide_eq_true_iff] at h
 have:=congrArg List.length h
 simp at this; omega
theorem aS {l:List UInt8} {i:Nat} {t:Tk} (h:Iv l i=some (t,0)):t.text.length ≤ l.length:=by
 unfold Iv at h
 split at h
 ·cases h
 ·rename_i b r
  split at h
  ·injection h with h
   unfold Oj at h
   split at h
   ·injection h with h1 h2; subst h1; rw [List.length_take]; omega
   ·split at h
    ·injection h with h1 h2; cases h2
    ·injection h with h1 h2; subst h1; rw [List.length_take]; omega
  ·split at h
   ·unfold Y8 at h
    split at h
    ·injection h with h; injection h with h1 h2; cases h2
    ·split at h
     ·split at h
      ·injection h with h; injection h with h1 h2; cases h2
      ·injection h with h; injection h with h1 h2; subst h1; rw [List.length_take]; omega
     ·injection h with h; injection h with h1 h2; cases h2
   ·injection h with h
    unfold Mo at h
    split at h
    ·rename_i s hs
     injection h with h1 h2; subst h1
     have hq:Eu s (b :: r)=true:=by simpa using List.find?_some hs
     exact yM hq
    ·injection h with h1 h2; cases h2
def Dh (a e:Nat):List AV:=[Dl a,Dl e]
theorem a33:Fq Tryz.prog 33=some true:=by kernel_rfl
theorem s33:Fm Tryz.prog 33=some 2:=by kernel_rfl
theorem Oi (S:St):Jt Tryz.prog S 33=some (.ptr S.next 0,S.newBox (Dh 0 0)):=rfl
theorem Qe {S:St} {id:Nat} {cs ys:List AV} (h:S.mem.get id=some (.box cs)) (hl:cs.length=2) (hy:ys.length=2):Dk Tryz.prog S 33 (.ptr id 0) (.agg ys)=some (S.put id ys):=by
 have h2:(AV.agg ys).noTup=true:=rfl
 simp [Dk,h,s33,h2,AV.cells,hl,hy,St.put,List.drop_eq_nil_of_le]
theorem Il (S:St) (id:Nat) (cs:List AV) (hl:cs.length=2):Ci Tryz.prog (S.put id cs) 33 (.ptr id 0)=some (.agg cs):=by
 have e:cs.take 2=cs:=List.take_of_length_le (by omega)
 simp [Ci,Dv,Ef,a33,s33,hl,e]
theorem b33_0:Gn Tryz.prog 33 []=some (.agg (Dh 0 0)):=rfl
theorem uA (a e:Int):Gn Tryz.prog 33 [(0,.v (.int .i64 a)),(1,.v (.int .i64 e))]=some (.agg [.v (.int .i64 a),.v (.int .i64 e)]):=rfl
theorem Xr (a b:AV):Hz Tryz.prog 31 a b=false:=by
 have h:Tryz.prog.underlying 31=some (.int .i64):=rfl
 unfold Hz; rw [h]
theorem e63:Ih Tryz.prog 63=some (none,68):=by kernel_rfl
theorem u63:Tryz.prog.underlying 63=some (.slice 68):=by kernel_rfl
theorem i68:(Tryz.prog.info? 68).map (fun i=>(i.zero,i.size,i.bytes))=some (some (.agg #[.int .i64 0,.int .i64 0,.string ⟨#[]⟩,.int .u64 0]),4,40):=by kernel_rfl
theorem z68:L3 Tryz.prog 68=some (F0 D5):=by kernel_rfl
theorem row63 (t:Tk):Do Tryz.prog 63 1 [(0,F0 t)]=some (.sl 1 0 4 [F0 t]):=by
 have h1:(F0 t).noTup=true:=rfl
 have h2:(F0 t).cells.length=4:=rfl
 simp [Do,e63,s68,z68,h1,h2]
theorem app63 (S:St) (a b:AV):Hl E1 S 63 63 a b=Fo Tryz.prog S 63 63 a b:=rfl
def oY (lo:Nat) (S:St) (a:AV) (es:List AV):Prop:=(a=.nils ∧ es=[]) ∨ ∃ tok,2 ≤ tok ∧ lo ≤ tok ∧ tok < S.next ∧ a=.sl tok 0 4 es ∧ S.mem.get tok=some (.tip (es.length * 4))
theorem oY.keep {lo:Nat} {S S':St} {a:AV} {es:List AV} (h:oY lo S a es) (k:En S S'):oY lo S' a es:=by
 rcases h with h | ⟨tok,h1,h2,h3,h4,h5⟩
 ·exact .inl h
 ·exact .inr ⟨tok,h1,h2,Nat.lt_of_lt_of_le h3 k.1,h4,by rw [k.2 tok h3]; exact h5⟩
theorem yZ {lo:Nat} {S:St} {a:AV} {es:List AV} (h:oY lo S a es) (hn:2 ≤ S.next) (hlo:lo ≤ S.next) (t:Tk) (hl:es.length ≤ 100000) :
  ∃ S',Fo Tryz.prog S 63 63 a (.sl 1 0 4 [F0 t])=some (.sl S.next 0 4 (es ++ [F0 t]),S') ∧ oY lo S' (.sl S.next 0 4 (es ++ [F0 t])) (es ++ [F0 t]) ∧ S.next ≤ S'.next ∧ ∀ id cs,id < S.next → S.mem.get id=some (.box cs) ∨ id < lo → S'.mem.get id=S.mem.get id:=by
 obtain ⟨i,hi,hz0,hz1,hz2⟩:=Hs i68
 rcases h with ⟨rfl,rfl⟩ | ⟨tok,h1,h2,h3,rfl,h5⟩
 ·refine ⟨S.grown 1 4,?_,.inr ⟨S.next,hn,hlo,Nat.lt_succ_self _,rfl,?_⟩,Nat.le_succ _,fun id cs hid _=>?_⟩
  ·simp [Fo,e63,hi,hz0,hz1,hz2,Nr,u63,Value.cells]
  ·show (S.mem.set S.next _).get S.next=_
   rw [T.get_set,if_pos rfl]; rfl
  ·show (S.mem.set S.next _).get id=_
   rw [T.get_set,if_neg (by omega)]
 ·obtain ⟨k,rfl⟩:∃ k,tok=k + 2:=⟨tok - 2,by omega⟩
  have hb1:(es.length + 1) * 40 ≤ 140737488355328:=by omega
  have hb2:es.length + 1 ≤ 9223372036854775807:=by omega
  refine ⟨S.grown (k + 2) ((es ++ [F0 t]).length * 4),?_,.inr ⟨S.next,hn,hlo,Nat.lt_succ_self _,rfl,?_⟩,Nat.le_succ _,fun id cs hid hor=>?_⟩
  ·simp [Fo,e63,hi,hz0,hz1,hz2,Nr,u63,Value.cells,Qb,h5,hb1,hb2]
  ·show ((S.mem.set (k + 2) none).set S.next _).get S.next=_
   rw [T.get_set,if_pos rfl]
  ·show ((S.mem.set (k + 2) none).set S.next _).get id=_
   rw [T.get_set,if_neg (by omega),T.get_set,if_neg (fun e=>by
    subst e
    rcases hor with h | h
    ·rw [h5] at h; cases h
    ·omega)]
def iY:Code:=match Tryz.f25.body with
 | some (.seq _ (.seq _ (.seq _ (.seq (.seq _ (.block _ (.loop c))) _))))=>c
 | _=>.skip
theorem ld33_get {S:St} {id:Nat} {cs:List AV} (h:S.mem.get id=some (.box cs)) (hl:cs.length=2):Ci Tryz.prog S 33 (.ptr id 0)=some (.agg cs):=by
 have e:cs.take 2=cs:=List.take_of_length_le (by omega)
 simp [Ci,Dv,h,a33,s33,hl,e]
theorem bA {S:St} {id:Nat} {t:Tk} (h:S.mem.get id=some (.box (Eh t))):Ci Tryz.prog S 68 (.ptr id 0)=some (F0 t):=by
 simp [Ci,Dv,h,a68,s68,Eh,F0]
theorem fa68 (id:Nat):C2 Tryz.prog 68 (.ptr id 0) 2=some (.ptr id 2):=by kernel_rfl
theorem iP {S:St} {id:Nat} {t:Tk} (h:S.mem.get id=some (.box (Eh t))):Ci Tryz.prog S 9 (.ptr id 2)=some (Bq t.text):=by
 simp [Ci,Dv,h,a9,Eh]
def LoopPost (l:List UInt8) (S0:St) (acc:List Tk) (out:(Nat × Nat) ⊕ List Tk) (r:O):Prop:=match out with
 | .inl x=>∃ t' S',r=.out .ret ⟨t',[]⟩ S' ∧ t'.get 2=some .nils ∧ t'.get 3=some (.ptr S0.next 0) ∧ S'.mem.get S0.next=some (.box (Dh x.1 x.2)) ∧ En S0 S'
 | .inr ts=>∃ t' S' a' acc',r=.out (.exit 0) ⟨t',[]⟩ S' ∧ t'.get 0=some (Bq l) ∧ t'.get 3=some (.ptr S0.next 0) ∧ t'.get 4=some a' ∧ oY (S0.next + 1) S' a' (acc'.map F0) ∧ acc' ++ [⟨5,l.length,[],0⟩]=acc ++ ts ∧ acc'.length ≤ l.length ∧ S'.mem.get S0.next=some (.box (Dh 0 0)) ∧ En S0 S' ∧ S0.next < S'.next ∧ 2 ≤ S'.next
theorem all_loop (l:List UInt8) (hl:l.length ≤ 4000) (S0:St):∀ (n i:Nat) (t:T AV) (S:St) (a:AV) (acc:List Tk) (out:(Nat × Nat) ⊕ List Tk),P3 l n i=some out → i ≤ l.length → n + acc.length ≤ l.length + 1 → t.get 0=some (Bq l) → t.get 3=some (.ptr S0.next 0) → t.get 4=some a → t.get 5=some (Dl i) →
  oY (S0.next + 1) S a (acc.map F0) → S.mem.get S0.next=some (.box (Dh 0 0)) → En S0 S → S0.next < S.next → 2 ≤ S.next → WX E1 47 (.loop iY) ⟨t,[]⟩ S (LoopPost l S0 acc out)
 | 0,i,t,S,a,acc,out,ho,hi,hn,h0,h3,h4,h5,hr,hb,hk,hlt,h2=>by cases ho
 | n + 1,i,t,S,a,acc,out,ho,hi,hn,h0,h3,h4,h5,hr,hb,hk,hlt,h2=>by
  refine D2 (Ds ?_)
  obtain ⟨fn1,hf1⟩:=fnOk66
  obtain ⟨fn2,hf2⟩:=fnOk65
  unfold P3 at ho
  by_cases hil:i < l.length
  ·rw [if_pos hil] at ho
   have hltI:((i:Int) < (l.length:Int)):=by omega
   cases hq:Iv (l.drop i) i with
   | none=>rw [hq] at ho; cases ho
   | some p =>
    obtain ⟨tk,e⟩:=p
    rw [hq] at ho
    simp only at ho
    simp only [Bq,Dl] at h0 h5 ⊢
    simp only [Bz,Bp,A6,Bk,Bn,Bt,C9,Bi,C0,B8,A7,Bd,Bh,Bb,C7,A5,Ba,A8,A0,Bo,B5,ofOpt,Cg,Bu,C3,Nat.reduceLT,Nat.reduceEqDiff,Aa,Ab,Ac,Aj,Ak,Am,Ap,iY,Tryz.f25,h0,h5,aZ,hltI,hf1]
    refine WC.mono (next_w l (by omega) i hil S (tk,e) hq) ?_
    rintro _ ⟨S2,rfl,k2⟩
    have kS:En S0 S2:=hk.trans k2
    have hb2:S2.mem.get S0.next=some (.box (Dh 0 0)):=by rw [k2.2 _ hlt]; exact hb
    have hlt2:S0.next < S2.next:=Nat.lt_of_lt_of_le hlt k2.1
    have hr2:=hr.keep k2
    have q1:Dk Tryz.prog (S2.newBox (Eh D5)) 68 (.ptr S2.next 0) (F0 tk)=some ((S2.newBox (Eh D5)).put S2.next (Eh tk)):=On S2 (Eh D5) (Eh tk) rfl rfl
    have kN:En S2 ((S2.newBox (Eh D5)).put S2.next (Eh tk)):=Eo (Cz S2 _) (Nat.le_refl _) _
    generalize hS3:(S2.newBox (Eh D5)).put S2.next (Eh tk)=S3 at q1 kN
    have hn3:S3.next=S2.next + 1:=by rw [← hS3]; rfl
    have hg3:S3.mem.get S2.next=some (.box (Eh tk)):=by rw [← hS3]; exact Ef _ _ _
    have hb3:S3.mem.get S0.next=some (.box (Dh 0 0)):=by rw [kN.2 _ hlt2]; exact hb2
    have hr3:=hr2.keep kN
    by_cases he:e=0
    ·subst he
     rw [if_pos rfl] at ho
     obtain ⟨S4,hap,hr4,hle4,hk4⟩:=yZ hr3 (by omega) (by omega) tk (by simp; omega)
     have hb4:S4.mem.get S0.next=some (.box (Dh 0 0)):=by rw [hk4 S0.next (Dh 0 0) (by omega) (.inl hb3)]; exact hb3
     have hg4:S4.mem.get S2.next=some (.box (Eh tk)):=by rw [hk4 S2.next (Eh tk) (by omega) (.inl hg3)]; exact hg3
     have kS4:En S0 S4:=⟨by have:=kS.1; omega,fun id hid=>by rw [hk4 id [] (by have:=kS.1; omega) (.inr (by omega)),kN.2 id (by have:=kS.1; omega)]; exact kS.2 id hid⟩
     have hnl:=aS hq
     rw [List.length_drop] at hnl
     have hw:=Ki (i:=i) (j:=tk.text.length) (by omega)
     have ld1:=bA hg3
     have z0:(((0:Nat):Int) != 0)=false:=rfl
     have ld2:=iP hg4
     have hrow:=row63 tk
     unfold Bq at ld2
     simp only [Bp,A6,Bk,Bn,Bi,B8,A7,Bd,Bm,Bh,Bs,Bb,Bl,C1,A5,Ba,A8,A0,Bo,B5,ofOpt,ofOptS,A9,Cg,Bv,Bu,Dd,Da,Nat.reduceLT,Nat.reduceEqDiff,Aa,Ab,Ac,Ag,Ah,Aj,Ak,Am,Cp,Gu,q1,Xr,Dl,app63,z0,ld1,ld2,hap,hrow,fa68,hw,aZ,h0,h4,h5,hf2]
     refine WC.mono (skip_w l (by omega) (l.length + 1) (i + tk.text.length) (by omega) (by omega) S4) ?_
     rintro _ rfl
     simp only [Bw,B6,B8,A7,Bd,Bb,Bl,A5,Ba,A8,A0,ofOpt,Nat.reduceLT,Nat.reduceEqDiff,Aa,Ab,Ac]
     have hsk:=Oo (l.length + 1) (l.drop (i + tk.text.length))
     rw [List.length_drop] at hsk
     cases hrest:P3 l n (i + tk.text.length + H7 (l.length + 1) (l.drop (i + tk.text.length))) with
     | none=>rw [hrest] at ho; cases ho
     | some out2 =>
      rw [hrest] at ho
      refine WX.mono (all_loop l hl S0 n _ _ S4 _ (acc ++ [tk]) out2 hrest (by omega) (by simp; omega) ?_ ?_ ?_ ?_ (by rw [List.map_append]; exact hr4) hb4 kS4 (by omega) (by omega)) ?_
      ·simp only [A0,Nat.reduceEqDiff,Ab,h0]; rfl
      ·simp only [A0,Nat.reduceEqDiff,Ab,h3]
      ·simp only [A0,Nat.reduceEqDiff,Aa,Ab]
      ·simp only [A0,Nat.reduceEqDiff,Aa]
      ·intro r hp
       cases out2 with
       | inl x=>injection ho with ho; subst ho; exact hp
       | inr ts =>
        injection ho with ho; subst ho
        obtain ⟨t',S',a',acc',g1,g2,g3,g4,g5,g6,g7⟩:=hp
        exact ⟨t',S',a',acc',g1,g2,g3,g4,g5,by rw [g6]; simp,g7⟩
    ·rw [if_neg he] at ho
     injection ho with ho; subst ho
     have hne:(((e:Nat):Int) != 0)=true:=by rw [bne_iff_ne]; omega
     have st:=Qe hb3 rfl (show ([.v (.int .i64 i),.v (.int .i64 e)]:List AV).length=2 from rfl)
     simp only [Di,Bp,A6,Bk,Bn,B0,Bi,C6,C4,B8,A7,Bd,Bm,Bs,Bb,Bl,C7,A5,Ba,A8,A0,ofOpt,ofOptS,A9,Cg,Bv,Da,Nat.reduceLT,Nat.reduceEqDiff,Aa,Ab,Ac,Ag,Ah,Am,Cp,Gu,q1,Xr,Dl,hne,uA,h3,h5,st]
     refine ⟨_,_,rfl,?_,?_,Ef _ _ _,?_⟩
     ·simp only [A0,Nat.reduceEqDiff,Aa]
     ·simp only [A0,Nat.reduceEqDiff,Ab,h3]
     ·exact Eo (kS.trans kN) (Nat.le_refl _) _
  ·rw [if_neg hil] at ho
   injection ho with ho; subst ho
   have hltI:¬ ((i:Int) < (l.length:Int)):=by omega
   simp only [Bq,Dl] at h0 h5 ⊢
   simp only [Bz,Bp,A6,Bk,Bn,Bt,C9,Bi,C0,B8,A7,Bd,Bb,C1,A5,Ba,A8,A0,Bo,B5,ofOpt,Cg,Bu,C3,Nat.reduceLT,Nat.reduceEqDiff,Aa,Ab,Ac,Aj,Ak,Am,Aq,iY,Tryz.f25,h0,h5,aZ,hltI]
   refine ⟨_,S,a,acc,rfl,?_,?_,?_,hr,rfl,by omega,hb,hk,hlt,h2⟩
   ·simp only [A0,Nat.reduceEqDiff,Ab,h0]; rfl
   ·simp only [A0,Nat.reduceEqDiff,Ab,h3]
   ·simp only [A0,Nat.reduceEqDiff,Ab,h4]
def LexPost (S:St) (out:(Nat × Nat) ⊕ List Tk) (r:R):Prop:=match out with
 | .inl x=>∃ S',r=.ret (.tup [.nils,.agg (Dh x.1 x.2)]) S' ∧ En S S'
 | .inr ts=>∃ S' tok,r=.ret (.tup [.sl tok 0 4 (ts.map F0),.agg (Dh 0 0)]) S' ∧ En S S'
theorem all_w (l:List UInt8) (S:St) (hS:2 ≤ S.next) (hsz:l.length ≤ 1000000) (out:(Nat × Nat) ⊕ List Tk) (ho:Kd l=some out):WC E1 25 [Bq l] S (LexPost S out):=by
 refine Dt Tryz.f25 (by kernel_rfl) (by kernel_rfl) (by kernel_rfl) (by show (_:Nat) ≤ _;simp [Tryz.f25]) ?_
 obtain ⟨fn2,hf2⟩:=fnOk65
 have hn:=Cu S (Dh 0 0)
 have kn:=Cz S (Dh 0 0)
 unfold Kd at ho
 simp only [Bq]
 by_cases h4:4000 < l.length
 ·rw [if_pos h4] at ho
  injection ho with ho; subst ho
  have hg:((l.length:Nat):Int) > 4000:=by omega
  have q1:=Qe hn rfl (show ([.v (.int .i64 4000),.v (.int .i64 3)]:List AV).length=2 from rfl)
  have q2:=Il (S.newBox (Dh 0 0)) S.next [.v (.int .i64 4000),.v (.int .i64 3)] rfl
  simp only [Bp,A6,Bk,Bn,B0,Bi,C6,B8,A7,Bd,Bm,Bs,Bb,C7,A5,Ba,A8,Cd,A0,A1,Bo,B5,ofOpt,ofOptS,A9,Cg,Bv,Bu,Bj,By,Bg,Cn,D1,Nat.reduceLT,Nat.reduceEqDiff,Aa,Ab,Ac,Ae,Aj,Ak,Am,Ap,Tryz.f25,Oi,aZ,hg,uA,q1,q2]
  exact ⟨_,rfl,Eo kn (Nat.le_refl _) _⟩
 ·rw [if_neg h4] at ho
  have hg:¬ ((l.length:Nat):Int) > 4000:=by omega
  have hsk:=Oo (l.length + 1) l
  have key:=fun t h0 h3 h4' h5=>all_loop l (by omega) S (l.length + 1) (H7 (l.length + 1) l) t (S.newBox (Dh 0 0)) .nils [] out ho hsk (by simp) h0 h3 h4' h5 (.inl ⟨rfl,rfl⟩) hn kn (Nat.lt_succ_self _) (Nat.le_succ_of_le hS)
  unfold iY at key
  simp only [Tryz.f25] at key
  simp only [Bp,A6,Bk,Bn,Bi,B8,A7,Bd,Bh,Bb,C1,A5,Ba,A8,Cd,A0,A1,Bo,B5,ofOpt,ofOptS,A9,Cg,Bv,Bu,D1,Nat.reduceLT,Nat.reduceEqDiff,Aa,Ab,Ac,Ae,Aj,Ak,Am,Aq,Tryz.f25,Oi,aZ,hg,hf2]
  refine WC.mono (skip_w l (by omega) (l.length + 1) 0 (by omega) (by omega) _) ?_
  rintro _ rfl
  simp only [List.drop_zero,Nat.zero_add]
  simp only [Bt,D0,Bi,B8,A7,Bd,Bb,Bl,A5,Ba,A8,A0,A1,ofOpt,Nat.reduceLT,Nat.reduceEqDiff,Aa,Ab,Ac]
  refine WX.mono (key _ ?_ ?_ ?_ ?_) ?_
  ·simp only [A0,A1,Nat.reduceEqDiff,Aa,Ab]; rfl
  ·simp only [A0,A1,Nat.reduceEqDiff,Aa,Ab]
  ·simp only [A0,A1,Nat.reduceEqDiff,Aa,Ab]
  ·simp only [A0,A1,Nat.reduceEqDiff,Aa,Ab]
  ·intro r hp
   cases out with
   | inl x =>
    obtain ⟨t',S',rfl,g2,g3,g4,g5⟩:=hp
    have q2:=ld33_get g4 rfl
    simp only [C6,C4,Cg,Bj,By,Bg,Cn,g2,g3,q2]
    exact ⟨_,rfl,g5⟩
   | inr ts =>
    obtain ⟨t',S',a',acc',rfl,g0,g3,g4,g5,g6,g7,g8,g9,g10,g11⟩:=hp
    unfold Bq at g0
    obtain ⟨S4,hap,hr4,hle4,hk4⟩:=yZ g5 (by omega) (by omega) ⟨5,l.length,[],0⟩ (by simp; omega)
    have hb4:S4.mem.get S.next=some (.box (Dh 0 0)):=by rw [hk4 S.next (Dh 0 0) g10 (.inl g8)]; exact g8
    have k4:En S S4:=⟨by have:=g9.1; omega,fun id hid=>by rw [hk4 id [] (by have:=g9.1; omega) (.inr (by omega))]; exact g9.2 id hid⟩
    have hb:Gn Tryz.prog 68 [(0,.v (.int .i64 5)),(1,.v (.int .i64 (l.length:Int)))]=some (F0 ⟨5,l.length,[],0⟩):=rfl
    have hrow:=row63 ⟨5,l.length,[],0⟩
    have q1:=Qe hb4 rfl (show (Dh 0 0).length=2 from rfl)
    have q2:=Il S4 S.next (Dh 0 0) rfl
    simp only [A6,Bk,B0,Bi,C0,Cv,B8,A7,Bd,Bm,Bs,Bb,A5,Ba,A8,A0,Bo,ofOpt,ofOptS,A9,Cg,Bv,Bj,By,Bg,Cn,Nat.reduceLT,Nat.reduceEqDiff,Aa,Ab,Ac,g0,g3,g4,aZ,app63,hb,hrow,hap,b33_0,q1,q2]
    refine ⟨S4.put S.next (Dh 0 0),S'.next,?_,Eo k4 (Nat.le_refl _) _⟩
    have e:acc'.map F0 ++ [F0 ⟨5,l.length,[],0⟩]=ts.map F0:=by
     have:=congrArg (List.map F0) g6
     simpa using this
    rw [e]
def Cur (S:St) (p k:Nat) (ts:List Tk) (i:Nat):Prop:=S.mem.get p=some (.box [.sl k 0 4 (ts.map F0),Dl i])
theorem Fp {S:St} {cs:List AV} {id:Nat} (h:id < S.next):(S.newBox cs).mem.get id=S.mem.get id:=by
 show (S.mem.set S.next _).get id=_
 rw [T.get_set,if_neg (by omega)]
theorem Ek {S:St} {b id:Nat} {cs:List AV} (h:id ≠ b):(S.put b cs).mem.get id=S.mem.get id:=by
 show (S.mem.set b _).get id=_
 rw [T.get_set,if_neg h]
theorem Cur.keep {S S':St} {p k i:Nat} {ts:List Tk} (h:Cur S p k ts i) (hp:p < S.next) (hk:En S S'):Cur S' p k ts i:=(hk.2 p hp).trans h
theorem s144:∀ p,C2 Tryz.prog 144 (.ptr p 0) 0=some (.ptr p 0) ∧ C2 Tryz.prog 144 (.ptr p 0) 1=some (.ptr p 1):=fun p=>⟨by kernel_rfl,by kernel_rfl⟩
theorem fc0 (p:Nat):C2 Tryz.prog 144 (.ptr p 0) 0=some (.ptr p 0):=(s144 p).1
theorem fc1 (p:Nat):C2 Tryz.prog 144 (.ptr p 0) 1=some (.ptr p 1):=(s144 p).2
theorem fp0 (p:Nat):C2 Tryz.prog 146 (.ptr p 0) 0=some (.ptr p 0):=by kernel_rfl
theorem a63:Fq Tryz.prog 63=some false:=by kernel_rfl
theorem a3:Fq Tryz.prog 3=some false:=by kernel_rfl
theorem s3:Fm Tryz.prog 3=some 1:=by kernel_rfl
theorem Cur.ld0 {S:St} {p k i:Nat} {ts:List Tk} (h:Cur S p k ts i):Ci Tryz.prog S 63 (.ptr p 0)=some (.sl k 0 4 (ts.map F0)):=by
 unfold Cur at h
 simp [Ci,Dv,h,a63]
theorem Cur.ld1 {S:St} {p k i:Nat} {ts:List Tk} (h:Cur S p k ts i):Ci Tryz.prog S 3 (.ptr p 1)=some (Dl i):=by
 unfold Cur at h
 simp [Ci,Dv,h,a3]
theorem idx63 (k:Nat) (ts:List Tk) (i:Nat) (h:i < ts.length):Cl Tryz.prog 63 (.sl k 0 4 (ts.map F0)) (.v (.int .i64 (i:Int)))=some (.ep (Eh ts[i])):=by
 have h0:(0:Int) ≤ (i:Int):=by omega
 simp [Cl,h0,e63,s68,h,F0,AV.cells]
theorem ldEp68 (S:St) (t:Tk):Ci Tryz.prog S 68 (.ep (Eh t))=some (F0 t):=by
 simp [Ci,Dv,a68,s68,Eh,F0]
theorem fld68 (t:Tk):Ou Tryz.prog 68 (F0 t) 0=some (Dl t.kind) ∧ Ou Tryz.prog 68 (F0 t) 1=some (Dl t.pos) ∧ Ou Tryz.prog 68 (F0 t) 2=some (Bq t.text) ∧ Ou Tryz.prog 68 (F0 t) 3=some (V2 t.num):=⟨by kernel_rfl,by kernel_rfl,by kernel_rfl,by kernel_rfl⟩
theorem K9 (t:Tk):Ou Tryz.prog 68 (F0 t) 0=some (Dl t.kind):=(fld68 t).1
theorem bI (t:Tk):Ou Tryz.prog 68 (F0 t) 2=some (Bq t.text):=(fld68 t).2.2.1
theorem Xg (S0 S:St) (t t':Tk) (b:Nat) (h:S.mem.get b=some (.box (Eh t))):Dk Tryz.prog S 68 (.ptr b 0) (F0 t')=some (S.put b (Eh t')):=st68 h rfl rfl
theorem aP (S:St) (p k:Nat) (ts:List Tk) (i:Nat) (h:Cur S p k ts i) (hp:p < S.next) (hi:i < ts.length):WC E1 113 [.ptr p 0] S (fun r=>∃ S',r=.ret (F0 ts[i]) S' ∧ En S S'):=by
 refine Dt Tryz.f113 (by kernel_rfl) (by kernel_rfl) (by kernel_rfl) (by show (_:Nat) ≤ _;simp [Tryz.f113]) ?_
 have h1:Cur (S.newBox (Eh D5)) p k ts i:=(Fp hp).trans h
 have q0:=h1.ld0
 have q1:=h1.ld1
 have q2:=idx63 k ts i hi
 have q3:Dk Tryz.prog (S.newBox (Eh D5)) 68 (.ptr S.next 0) (F0 ts[i])=some ((S.newBox (Eh D5)).put S.next (Eh ts[i])):=On S (Eh D5) (Eh ts[i]) rfl rfl
 have q4:Ci Tryz.prog ((S.newBox (Eh D5)).put S.next (Eh ts[i])) 68 (.ptr S.next 0)=some (F0 ts[i]):=Jl _ _ _ rfl
 simp only [A6,Cm,Bk,Bi,B8,A7,Bd,Bb,A5,Ba,Cd,ofOptS,Cg,Nat.reduceLT,Ac,Ae,Tryz.f113,Gu]
 refine Fz [(0,true),(1,true),(2,true),(3,true),(4,true),(5,true),(6,true),(7,true),(8,true),(9,true),(10,true)] (by kernel_rfl) (by kernel_rfl) ?_
 unfold Dl at q1
 simp only [B0,Bi,A5,Ba,A8,A0,A1,ofOpt,Cg,Bj,By,Bg,Cn,Nat.reduceLT,Nat.reduceEqDiff,Aa,Ab,Ac,Af,Ag,Ah,Mf,Dq,D9,E4,E3,Dg,Ed,F9,fc0,fc1,q0,q1,q2,q3,q4,ldEp68]
 exact ⟨_,rfl,Eo (Cz S _) (Nat.le_refl _) _⟩
theorem Rd:∃ fn,E1.F 113=some fn:=Option.isSome_iff_exists.1 (by kernel_rfl)
theorem Wx:∃ fn,E1.F 91=some fn:=Option.isSome_iff_exists.1 (by kernel_rfl)
theorem wO:∃ fn,E1.F 115=some fn:=Option.isSome_iff_exists.1 (by kernel_rfl)
theorem wP:∃ fn,E1.F 114=some fn:=Option.isSome_iff_exists.1 (by kernel_rfl)
def wsA (tok off:Nat) (ws:List (List UInt8)):AV:=.sl tok off 1 (ws.map Bq)
theorem Rp (S:St) (p k:Nat) (ts:List Tk) (i:Nat) (h:Cur S p k ts i) (hp:p < S.next) (hi:i < ts.length) (tok off:Nat) (ws:List (List UInt8)) (hw:ws.length ≤ 1000):WC E1 91 [.ptr p 0,wsA tok off ws] S (fun r=>∃ S',r=.ret (.v (.bool (decide (ts[i].text ∈ ws)))) S' ∧ En S S'):=by
 refine Dt Tryz.f91 (by kernel_rfl) (by kernel_rfl) (by kernel_rfl) (by show (_:Nat) ≤ _;simp [Tryz.f91]) ?_
 obtain ⟨fn1,hf1⟩:=Rd
 obtain ⟨fn2,hf2⟩:=fnOk129
 simp only [A6,Bk,Bi,B8,A7,Bd,Bh,Bb,A5,Ba,A8,Cd,A0,A1,Bo,B5,ofOpt,A9,Nat.reduceLT,Nat.reduceAdd,Nat.reduceEqDiff,Aa,Ab,Ac,Ae,Aj,Ak,Tryz.f91,hf1]
 refine WC.mono (aP S p k ts i h hp hi) ?_
 rintro _ ⟨S2,rfl,hk⟩
 simp only [A7,Bd,Bh,Bb,Bl,A5,Ba,A8,A0,A1,Bo,B5,ofOpt,Cg,Nat.reduceLT,Nat.reduceEqDiff,Aa,Ab,Ac,Aj,Ak,bI,hf2]
 refine WC.mono (Zo tok off ws ts[i].text (by omega) S2) ?_
 rintro _ rfl
 simp only [B0,Bi,B8,A7,Bd,Bb,Bl,A5,Ba,A8,A0,A1,ofOpt,Bj,By,Bg,Cn,Nat.reduceLT,Nat.reduceEqDiff,Aa,Ab,Ac]
 exact ⟨_,rfl,hk⟩
def Eb (p:Nat) (S S':St):Prop:=S.next ≤ S'.next ∧ ∀ id,id < S.next → id ≠ p → S'.mem.get id=S.mem.get id
theorem En.x {S S':St} (h:En S S') (p:Nat):Eb p S S':=⟨h.1,fun id hid _=>h.2 id hid⟩
theorem Eb.trans {p:Nat} {S S1 S2:St} (h:Eb p S S1) (k:Eb p S1 S2):Eb p S S2:=⟨Nat.le_trans h.1 k.1,fun id hid hn=>(k.2 id (Nat.lt_of_lt_of_le hid h.1) hn).trans (h.2 id hid hn)⟩
theorem fc68 (b:Nat):C2 Tryz.prog 68 (.ptr b 0) 0=some (.ptr b 0) ∧ C2 Tryz.prog 68 (.ptr b 0) 1=some (.ptr b 1) ∧ C2 Tryz.prog 68 (.ptr b 0) 3=some (.ptr b 3):=⟨by kernel_rfl,by kernel_rfl,by kernel_rfl⟩
theorem st3cur {S:St} {p k i:Nat} {ts:List Tk} (h:Cur S p k ts i) (j:Nat):Dk Tryz.prog S 3 (.ptr p 1) (.v (.int .i64 (j:Int)))=some (S.put p [.sl k 0 4 (ts.map F0),Dl j]):=by
 unfold Cur at h
 have h2:(AV.v (.int .i64 (j:Int))).noTup=true:=rfl
 simp [Dk,h,s3,h2,AV.cells,St.put,Dl]
theorem step_w (S:St) (p k:Nat) (ts:List Tk) (i:Nat) (h:Cur S p k ts i) (hp:p < S.next) (hi:i < ts.length) (hl:ts.length ≤ 1000000):WC E1 115 [.ptr p 0] S (fun r=>∃ S',r=.ret (F0 ts[i]) S' ∧ Eb p S S' ∧ Cur S' p k ts (i + 1)):=by
 refine Dt Tryz.f115 (by kernel_rfl) (by kernel_rfl) (by kernel_rfl) (by show (_:Nat) ≤ _;simp [Tryz.f115]) ?_
 obtain ⟨fn1,hf1⟩:=Rd
 have h1:Cur (S.newBox (Eh D5)) p k ts i:=(Fp hp).trans h
 simp only [A6,Bk,Bi,B8,A7,Bd,Bh,Bb,A5,Ba,A8,Cd,A0,A1,Bo,B5,ofOpt,ofOptS,Cg,Nat.reduceLT,Nat.reduceEqDiff,Aa,Ab,Ac,Ae,Aj,Ak,Tryz.f115,Gu,hf1]
 refine WC.mono (aP _ p k ts i h1 (Nat.lt_succ_of_lt hp) hi) ?_
 rintro _ ⟨S2,rfl,hk⟩
 have hn2:S.next < S2.next:=hk.1
 have h2:Cur S2 p k ts i:=h1.keep (Nat.lt_succ_of_lt hp) hk
 have g2:S2.mem.get S.next=some (.box (Eh D5)):=(hk.2 _ (Nat.lt_succ_self _)).trans (Cu S _)
 have q1:Dk Tryz.prog (S2.newBox (Eh D5)) 68 (.ptr S2.next 0) (F0 ts[i])=some ((S2.newBox (Eh D5)).put S2.next (Eh ts[i])):=On S2 (Eh D5) (Eh ts[i]) rfl rfl
 have k3:En S2 ((S2.newBox (Eh D5)).put S2.next (Eh ts[i])):=Eo (Cz S2 _) (Nat.le_refl _) _
 have g3:=Ef (S2.newBox (Eh D5)) S2.next (Eh ts[i])
 generalize hS3:(S2.newBox (Eh D5)).put S2.next (Eh ts[i])=S3 at q1 k3 g3
 have h3:Cur S3 p k ts i:=h2.keep (by omega) k3
 have q2:=h3.ld1
 have q3:=st3cur h3 (i + 1)
 have hw:=Kh (i:=i) (by omega)
 have g4:(S3.put p [.sl k 0 4 (ts.map F0),Dl (i + 1)]).mem.get S2.next=some (.box (Eh ts[i])):=(Ek (by omega)).trans g3
 have g5:(S3.put p [.sl k 0 4 (ts.map F0),Dl (i + 1)]).mem.get S.next=some (.box (Eh D5)):=(Ek (by omega)).trans ((k3.2 _ hn2).trans g2)
 have q4:=bA g4
 have q5:Dk Tryz.prog _ 68 (.ptr S.next 0) (F0 ts[i])=some _:=Xg S _ D5 ts[i] S.next g5
 have q6:Ci Tryz.prog ((S3.put p [.sl k 0 4 (ts.map F0),Dl (i + 1)]).put S.next (Eh ts[i])) 68 (.ptr S.next 0)=some (F0 ts[i]):=Jl _ _ _ rfl
 unfold Dl at q2 q3 q4 q5 q6
 simp only [A6,Bk,B0,Bi,B8,A7,Bd,Bm,Bs,Bb,Bl,A5,Ba,A8,A0,A1,ofOpt,ofOptS,A9,Cg,Bu,Bj,By,Bg,Cn,Dd,Nat.reduceLT,Nat.reduceEqDiff,Aa,Ab,Ac,Am,Gu,q1,fc1,q2,hw,q3,q4,q5,q6]
 refine ⟨_,rfl,⟨?_,fun id hid hne=>?_⟩,?_⟩
 ·have:=hk.1; have:=k3.1; show S.next ≤ S3.next; omega
 ·rw [Ek (by omega),Ek hne,k3.2 id (by omega),hk.2 id (Nat.lt_succ_of_lt hid),Fp hid]
 ·exact (Ek (by omega)).trans (Ef _ _ _)
def Hr (t:Tk):Nat:=if t.kind=5 then 2 else 1
def Ye (a e:Nat):AV:=.iface 33 (.agg (Dh a e))
theorem mkI33 (a e:Nat):Ta Tryz.prog 33 (.agg [.v (.int .i64 (a:Int)),.v (.int .i64 (e:Int))])=some (.iface 33 (.agg [.v (.int .i64 (a:Int)),.v (.int .i64 (e:Int))])):=by kernel_rfl
theorem ld3k {S:St} {id:Nat} {t:Tk} (h:S.mem.get id=some (.box (Eh t))):Ci Tryz.prog S 3 (.ptr id 0)=some (Dl t.kind) ∧ Ci Tryz.prog S 3 (.ptr id 1)=some (Dl t.pos):=by
 constructor <;> simp [Ci,Dv,h,a3,Eh]
theorem kZ (S:St) (p k:Nat) (ts:List Tk) (i:Nat) (h:Cur S p k ts i) (hp:p < S.next) (hi:i < ts.length):WC E1 114 [.ptr p 0] S (fun r=>∃ S',r=.pan (Ye ts[i].pos (Hr ts[i])) S' ∧ En S S'):=by
 refine Dt Tryz.f114 (by kernel_rfl) (by kernel_rfl) (by kernel_rfl) (by show (_:Nat) ≤ _;simp [Tryz.f114]) ?_
 obtain ⟨fn1,hf1⟩:=Rd
 simp only [A6,Bk,A7,Bd,Bh,Bb,A5,Ba,A8,Cd,A0,A1,Bo,B5,ofOpt,Nat.reduceLT,Nat.reduceEqDiff,Aa,Ab,Ac,Ae,Aj,Ak,Tryz.f114,hf1]
 refine WC.mono (aP _ p k ts i h hp hi) ?_
 rintro _ ⟨S2,rfl,hk⟩
 have q1:Dk Tryz.prog (S2.newBox (Eh D5)) 68 (.ptr S2.next 0) (F0 ts[i])=some ((S2.newBox (Eh D5)).put S2.next (Eh ts[i])):=On S2 (Eh D5) (Eh ts[i]) rfl rfl
 have k3:En S2 ((S2.newBox (Eh D5)).put S2.next (Eh ts[i])):=Eo (Cz S2 _) (Nat.le_refl _) _
 obtain ⟨q2,q3⟩:=ld3k (Ef (S2.newBox (Eh D5)) S2.next (Eh ts[i]))
 have f0:=(fc68 S2.next).1
 have f1:=(fc68 S2.next).2.1
 unfold Dl at q2 q3
 by_cases h5:ts[i].kind=5
 ·have e:Hr ts[i]=2:=by unfold Hr; rw [if_pos h5]
  have n5:(((ts[i].kind:Nat):Int) == 5)=true:=by rw [h5]; rfl
  have m:=mkI33 ts[i].pos 2
  simp only [Bp,A6,Bk,Bn,Bi,B8,A7,Bd,Bm,Bs,Bb,Bl,C7,A5,Ba,A8,A0,A1,ofOpt,ofOptS,A9,Cg,Bv,Bu,B9,Nat.reduceLT,Nat.reduceEqDiff,Aa,Ab,Ac,Am,Gu,q1,f0,q2,n5,f1,q3,uA]
  have m:Ta Tryz.prog 33 (.agg [.v (.int .i64 (ts[i].pos:Int)),.v (.int .i64 2)])=some (.iface 33 (.agg [.v (.int .i64 (ts[i].pos:Int)),.v (.int .i64 2)])):=m
  simp only [Cc,A7,Bd,Dx,Bb,A5,Ba,A8,A0,A1,B7,Nat.reduceLT,Nat.reduceEqDiff,Aa,Ab,Ac,m]
  rw [e]
  exact ⟨_,rfl,hk.trans k3⟩
 ·have e:Hr ts[i]=1:=by unfold Hr; rw [if_neg h5]
  have n5:(((ts[i].kind:Nat):Int) == 5)=false:=by rw [beq_eq_false_iff_ne]; omega
  have m:Ta Tryz.prog 33 (.agg [.v (.int .i64 (ts[i].pos:Int)),.v (.int .i64 1)])=some (.iface 33 (.agg [.v (.int .i64 (ts[i].pos:Int)),.v (.int .i64 1)])):=mkI33 ts[i].pos 1
  simp only [Bp,A6,Bk,Bn,Bi,B8,A7,Bd,Bm,Dx,Bs,Bb,Bl,C1,A5,Ba,A8,A0,A1,ofOpt,ofOptS,A9,Cg,Bv,Bu,B7,B9,Nat.reduceLT,Nat.reduceEqDiff,Aa,Ab,Ac,Am,Gu,q1,f0,q2,n5,f1,q3,uA,m]
  rw [e]
  exact ⟨_,rfl,hk.trans k3⟩
theorem yH (S:St) (p k:Nat) (ts:List Tk) (i:Nat) (h:Cur S p k ts i) (hp:p < S.next) (hi:i < ts.length) (hl:ts.length ≤ 1000000) (tok off:Nat) (ws:List (List UInt8)) (hw:ws.length ≤ 1000) (hm:ts[i].text ∈ ws):WC E1 79 [.ptr p 0,wsA tok off ws] S (fun r=>∃ S',r=.ret (.tup [F0 ts[i],.v (.bool true)]) S' ∧ Eb p S S' ∧ Cur S' p k ts (i + 1)):=by
 refine Dt Tryz.f79 (by kernel_rfl) (by kernel_rfl) (by kernel_rfl) (by show (_:Nat) ≤ _;simp [Tryz.f79]) ?_
 obtain ⟨fn1,hf1⟩:=Wx
 obtain ⟨fn2,hf2⟩:=wO
 have h1:Cur (S.newBox (Eh D5)) p k ts i:=(Fp hp).trans h
 simp only [A6,Bk,Bi,B8,A7,Bd,Bh,Bb,A5,Ba,A8,Cd,A0,A1,Bo,B5,ofOpt,ofOptS,A9,Cg,Nat.reduceLT,Nat.reduceAdd,Nat.reduceEqDiff,Aa,Ab,Ac,Ae,Aj,Ak,Tryz.f79,Gu,hf1]
 refine WC.mono (Rp _ p k ts i h1 (Nat.lt_succ_of_lt hp) hi tok off ws hw) ?_
 rintro _ ⟨S2,rfl,hk⟩
 rw [decide_eq_true hm]
 simp only [Bp,A6,Bk,Bn,Bi,B8,A7,Bd,Bh,Bb,Bl,C1,A5,Ba,A8,A0,A1,Bo,B5,ofOpt,Cg,Fd,Bv,Cy,C8,Nat.reduceLT,Nat.reduceEqDiff,Aa,Ab,Ac,Aj,Ak,Ar,hf2]
 refine WC.mono (step_w S2 p k ts i (h1.keep (Nat.lt_succ_of_lt hp) hk) (Nat.lt_of_lt_of_le (Nat.lt_succ_of_lt hp) hk.1) hi hl) ?_
 rintro _ ⟨S3,rfl,hx,hc⟩
 have hn2:S.next < S2.next:=hk.1
 have g3:S3.mem.get S.next=some (.box (Eh D5)):=(hx.2 _ hn2 (by omega)).trans ((hk.2 _ (Nat.lt_succ_self _)).trans (Cu S _))
 have q1:=Xg S S3 D5 ts[i] S.next g3
 have q2:Ci Tryz.prog (S3.put S.next (Eh ts[i])) 68 (.ptr S.next 0)=some (F0 ts[i]):=Jl _ _ _ rfl
 simp only [B0,Bi,B8,A7,Bd,Bm,Bs,Bb,Bl,A5,Ba,A8,A0,A1,ofOpt,A9,Cg,Bj,By,Bg,Cn,Nat.reduceLT,Nat.reduceEqDiff,Aa,Ab,Ac,q1,q2]
 refine ⟨_,rfl,⟨?_,fun id hid hne=>?_⟩,?_⟩
 ·have:=hx.1; show S.next ≤ S3.next; omega
 ·rw [Ek (by omega),hx.2 id (by omega) hne,hk.2 id (Nat.lt_succ_of_lt hid),Fp hid]
 ·exact (Ek (by omega)).trans hc
theorem take_no (S:St) (p k:Nat) (ts:List Tk) (i:Nat) (h:Cur S p k ts i) (hp:p < S.next) (hi:i < ts.length) (tok off:Nat) (ws:List (List UInt8)) (hw:ws.length ≤ 1000) (hm:ts[i].text ∉ ws):WC E1 79 [.ptr p 0,wsA tok off ws] S (fun r=>∃ S',r=.ret (.tup [F0 D5,.v (.bool false)]) S' ∧ En S S'):=by
 refine Dt Tryz.f79 (by kernel_rfl) (by kernel_rfl) (by kernel_rfl) (by show (_:Nat) ≤ _;simp [Tryz.f79]) ?_
 obtain ⟨fn1,hf1⟩:=Wx
 have h1:Cur (S.newBox (Eh D5)) p k ts i:=(Fp hp).trans h
 simp only [A6,Bk,Bi,B8,A7,Bd,Bh,Bb,A5,Ba,A8,Cd,A0,A1,Bo,B5,ofOpt,ofOptS,A9,Cg,Nat.reduceLT,Nat.reduceAdd,Nat.reduceEqDiff,Aa,Ab,Ac,Ae,Aj,Ak,Tryz.f79,Gu,hf1]
 refine WC.mono (Rp _ p k ts i h1 (Nat.lt_succ_of_lt hp) hi tok off ws hw) ?_
 rintro _ ⟨S2,rfl,hk⟩
 rw [decide_eq_false hm]
 have g2:S2.mem.get S.next=some (.box (Eh D5)):=(hk.2 _ (Nat.lt_succ_self _)).trans (Cu S _)
 have q1:Dk Tryz.prog S2 68 (.ptr S.next 0) (.agg (Eh D5))=some (S2.put S.next (Eh D5)):=st68 g2 rfl rfl
 have q2:Ci Tryz.prog (S2.put S.next (Eh D5)) 68 (.ptr S.next 0)=some (F0 D5):=Jl _ _ _ rfl
 simp only [Bp,A6,Bk,Bn,B0,Bi,C6,B8,A7,Bd,Bm,Bs,Bb,Bl,C7,A5,Ba,A8,A0,A1,Bo,B5,ofOpt,A9,Cg,Fd,Bv,Bj,By,Bg,Cn,Cy,C8,Nat.reduceLT,Nat.reduceEqDiff,Aa,Ab,Ac,Aj,Ak,Au,gO,q1,q2]
 exact ⟨_,rfl,Eo ((Cz S _).trans hk) (Nat.le_refl _) _⟩
theorem need_yes (S:St) (p k:Nat) (ts:List Tk) (i:Nat) (h:Cur S p k ts i) (hp:p < S.next) (hi:i < ts.length) (hl:ts.length ≤ 1000000) (tok off:Nat) (ws:List (List UInt8)) (hw:ws.length ≤ 1000) (hm:ts[i].text ∈ ws):WC E1 81 [.ptr p 0,wsA tok off ws] S (fun r=>∃ S',r=.ret (F0 ts[i]) S' ∧ Eb p S S' ∧ Cur S' p k ts (i + 1)):=by
 refine Dt Tryz.f81 (by kernel_rfl) (by kernel_rfl) (by kernel_rfl) (by show (_:Nat) ≤ _;simp [Tryz.f81]) ?_
 obtain ⟨fn1,hf1⟩:=Wx
 obtain ⟨fn2,hf2⟩:=wO
 have h1:Cur (S.newBox (Eh D5)) p k ts i:=(Fp hp).trans h
 simp only [A6,Bk,Bi,B8,A7,Bd,Bh,Bb,A5,Ba,A8,Cd,A0,A1,Bo,B5,ofOpt,ofOptS,Cg,Nat.reduceLT,Nat.reduceAdd,Nat.reduceEqDiff,Aa,Ab,Ac,Ae,Aj,Ak,Tryz.f81,Gu,hf1]
 refine WC.mono (Rp _ p k ts i h1 (Nat.lt_succ_of_lt hp) hi tok off ws hw) ?_
 rintro _ ⟨S2,rfl,hk⟩
 rw [decide_eq_true hm]
 simp only [Bp,A6,Bk,Bn,Bi,B8,A7,Bd,Bh,Bb,Bl,C1,A5,Ba,A8,A0,A1,Bo,B5,ofOpt,Cg,Fd,Cy,C8,Nat.reduceLT,Nat.reduceEqDiff,Aa,Ab,Ac,Aj,Ak,Ar,hf2]
 refine WC.mono (step_w S2 p k ts i (h1.keep (Nat.lt_succ_of_lt hp) hk) (Nat.lt_of_lt_of_le (Nat.lt_succ_of_lt hp) hk.1) hi hl) ?_
 rintro _ ⟨S3,rfl,hx,hc⟩
 have hn2:S.next < S2.next:=hk.1
 have g3:S3.mem.get S.next=some (.box (Eh D5)):=(hx.2 _ hn2 (by omega)).trans ((hk.2 _ (Nat.lt_succ_self _)).trans (Cu S _))
 have q1:=Xg S S3 D5 ts[i] S.next g3
 have q2:Ci Tryz.prog (S3.put S.next (Eh ts[i])) 68 (.ptr S.next 0)=some (F0 ts[i]):=Jl _ _ _ rfl
 simp only [B0,Bi,B8,A7,Bm,Bs,Bb,Bl,A5,Ba,A8,A0,A1,Cg,Bj,By,Bg,Cn,Nat.reduceLT,Nat.reduceEqDiff,Aa,Ab,Ac,q1,q2]
 refine ⟨_,rfl,⟨?_,fun id hid hne=>?_⟩,?_⟩
 ·have:=hx.1; show S.next ≤ S3.next; omega
 ·rw [Ek (by omega),hx.2 id (by omega) hne,hk.2 id (Nat.lt_succ_of_lt hid),Fp hid]
 ·exact (Ek (by omega)).trans hc
theorem need_no (S:St) (p k:Nat) (ts:List Tk) (i:Nat) (h:Cur S p k ts i) (hp:p < S.next) (hi:i < ts.length) (tok off:Nat) (ws:List (List UInt8)) (hw:ws.length ≤ 1000) (hm:ts[i].text ∉ ws):WC E1 81 [.ptr p 0,wsA tok off ws] S (fun r=>∃ S',r=.pan (Ye ts[i].pos (Hr ts[i])) S' ∧ En S S'):=by
 refine Dt Tryz.f81 (by kernel_rfl) (by kernel_rfl) (by kernel_rfl) (by show (_:Nat) ≤ _;simp [Tryz.f81]) ?_
 obtain ⟨fn1,hf1⟩:=Wx
 obtain ⟨fn2,hf2⟩:=wP
 have h1:Cur (S.newBox (Eh D5)) p k ts i:=(Fp hp).trans h
 simp only [A6,Bk,Bi,B8,A7,Bd,Bh,Bb,A5,Ba,A8,Cd,A0,A1,Bo,B5,ofOpt,ofOptS,Cg,Nat.reduceLT,Nat.reduceAdd,Nat.reduceEqDiff,Aa,Ab,Ac,Ae,Aj,Ak,Tryz.f81,Gu,hf1]
 refine WC.mono (Rp _ p k ts i h1 (Nat.lt_succ_of_lt hp) hi tok off ws hw) ?_
 rintro _ ⟨S2,rfl,hk⟩
 rw [decide_eq_false hm]
 simp only [Bp,A6,Bk,Bn,Bi,B8,A7,Bd,Bh,Bb,Bl,C7,A5,Ba,A8,A0,A1,Bo,B5,ofOpt,Cg,Fd,Cy,C8,Nat.reduceLT,Nat.reduceEqDiff,Aa,Ab,Ac,Aj,Ak,Au,hf2]
 refine WC.mono (kZ S2 p k ts i (h1.keep (Nat.lt_succ_of_lt hp) hk) (Nat.lt_of_lt_of_le (Nat.lt_succ_of_lt hp) hk.1) hi) ?_
 rintro _ ⟨S3,rfl,hx⟩
 simp only [Cc,Ch,B7]
 exact ⟨_,rfl,(Cz S _).trans (hk.trans hx)⟩
theorem mL (S:St) (p k:Nat) (ts:List Tk) (i:Nat) (h:Cur S p k ts i) (hp:p < S.next) (hi:i < ts.length) (hl:ts.length ≤ 1000000) (kind:Nat) (hm:ts[i].kind=kind):WC E1 124 [.ptr p 0,Dl kind] S (fun r=>∃ S',r=.ret (F0 ts[i]) S' ∧ Eb p S S' ∧ Cur S' p k ts (i + 1)):=by
 refine Dt Tryz.f124 (by kernel_rfl) (by kernel_rfl) (by kernel_rfl) (by show (_:Nat) ≤ _;simp [Tryz.f124]) ?_
 obtain ⟨fn1,hf1⟩:=Rd
 obtain ⟨fn2,hf2⟩:=wO
 have h1:Cur (S.newBox (Eh D5)) p k ts i:=(Fp hp).trans h
 have hq:(((ts[i].kind:Nat):Int) != (kind:Int))=false:=by rw [hm]; simp
 simp only [A6,Bk,Bi,B8,A7,Bd,Bh,Bb,A5,Ba,A8,Cd,A0,A1,Bo,B5,ofOpt,ofOptS,Cg,Nat.reduceLT,Nat.reduceAdd,Nat.reduceEqDiff,Aa,Ab,Ac,Ae,Aj,Ak,Tryz.f124,Gu,hf1]
 refine WC.mono (aP _ p k ts i h1 (Nat.lt_succ_of_lt hp) hi) ?_
 rintro _ ⟨S2,rfl,hk⟩
 simp only [Bp,A6,Bk,Bn,Bi,B8,A7,Bd,Bh,Bb,Bl,C1,A5,Ba,A8,A0,A1,Bo,B5,ofOpt,Cg,Bu,Da,Nat.reduceLT,Nat.reduceEqDiff,Aa,Ab,Ac,Aj,Ak,Am,K9,Dl,hq,hf2]
 refine WC.mono (step_w S2 p k ts i (h1.keep (Nat.lt_succ_of_lt hp) hk) (Nat.lt_of_lt_of_le (Nat.lt_succ_of_lt hp) hk.1) hi hl) ?_
 rintro _ ⟨S3,rfl,hx,hc⟩
 have hn2:S.next < S2.next:=hk.1
 have g3:S3.mem.get S.next=some (.box (Eh D5)):=(hx.2 _ hn2 (by omega)).trans ((hk.2 _ (Nat.lt_succ_self _)).trans (Cu S _))
 have q1:=Xg S S3 D5 ts[i] S.next g3
 have q2:Ci Tryz.prog (S3.put S.next (Eh ts[i])) 68 (.ptr S.next 0)=some (F0 ts[i]):=Jl _ _ _ rfl
 simp only [B0,Bi,B8,A7,Bm,Bs,Bb,Bl,A5,Ba,A8,A0,A1,Cg,Bj,By,Bg,Cn,Nat.reduceLT,Nat.reduceEqDiff,Aa,Ab,Ac,q1,q2]
 refine ⟨_,rfl,⟨?_,fun id hid hne=>?_⟩,?_⟩
 ·have:=hx.1; show S.next ≤ S3.next; omega
 ·rw [Ek (by omega),hx.2 id (by omega) hne,hk.2 id (Nat.lt_succ_of_lt hid),Fp hid]
 ·exact (Ek (by omega)).trans hc
theorem wE (S:St) (p k:Nat) (ts:List Tk) (i:Nat) (h:Cur S p k ts i) (hp:p < S.next) (hi:i < ts.length) (kind:Nat) (hm:ts[i].kind ≠ kind):WC E1 124 [.ptr p 0,Dl kind] S (fun r=>∃ S',r=.pan (Ye ts[i].pos (Hr ts[i])) S' ∧ En S S'):=by
 refine Dt Tryz.f124 (by kernel_rfl) (by kernel_rfl) (by kernel_rfl) (by show (_:Nat) ≤ _;simp [Tryz.f124]) ?_
 obtain ⟨fn1,hf1⟩:=Rd
 obtain ⟨fn2,hf2⟩:=wP
 have h1:Cur (S.newBox (Eh D5)) p k ts i:=(Fp hp).trans h
 have hq:(((ts[i].kind:Nat):Int) != (kind:Int))=true:=by rw [bne_iff_ne]; omega
 simp only [A6,Bk,Bi,B8,A7,Bd,Bh,Bb,A5,Ba,A8,Cd,A0,A1,Bo,B5,ofOpt,ofOptS,Cg,Nat.reduceLT,Nat.reduceAdd,Nat.reduceEqDiff,Aa,Ab,Ac,Ae,Aj,Ak,Tryz.f124,Gu,hf1]
 refine WC.mono (aP _ p k ts i h1 (Nat.lt_succ_of_lt hp) hi) ?_
 rintro _ ⟨S2,rfl,hk⟩
 simp only [Bp,A6,Bk,Bn,Bi,B8,A7,Bd,Bh,Bb,Bl,C7,A5,Ba,A8,A0,A1,Bo,B5,ofOpt,Cg,Bu,Da,Nat.reduceLT,Nat.reduceEqDiff,Aa,Ab,Ac,Aj,Ak,Am,K9,Dl,hq,hf2]
 refine WC.mono (kZ S2 p k ts i (h1.keep (Nat.lt_succ_of_lt hp) hk) (Nat.lt_of_lt_of_le (Nat.lt_succ_of_lt hp) hk.1) hi) ?_
 rintro _ ⟨S3,rfl,hx⟩
 simp only [Cc,Ch,B7]
 exact ⟨_,rfl,(Cz S _).trans (hk.trans hx)⟩
def exC (kind pos:Nat) (n:Int) (name:List UInt8) (off:Bool) (kv:AV):List AV:=[Dl kind,Dl pos,.v (.int .i64 n),Bq name,.v (.bool off),kv]
def exZ:List AV:=exC 0 0 0 [] false .nils
def pA (kv:AV):Prop:=kv=.nils ∨ ∃ tok off es,kv=.sl tok off 6 es
theorem a30:Fq Tryz.prog 30=some true:=by kernel_rfl
theorem s30:Fm Tryz.prog 30=some 6:=by kernel_rfl
theorem Gd (S:St):Jt Tryz.prog S 30=some (.ptr S.next 0,S.newBox exZ):=rfl
theorem V3 {S:St} {id:Nat} {cs ys:List AV} (h:S.mem.get id=some (.box cs)) (hl:cs.length=6) (hy:ys.length=6):Dk Tryz.prog S 30 (.ptr id 0) (.agg ys)=some (S.put id ys):=by
 have h2:(AV.agg ys).noTup=true:=rfl
 simp [Dk,h,s30,h2,AV.cells,hl,hy,St.put,List.drop_eq_nil_of_le]
theorem ld30 {S:St} {id:Nat} {cs:List AV} (h:S.mem.get id=some (.box cs)) (hl:cs.length=6):Ci Tryz.prog S 30 (.ptr id 0)=some (.agg cs):=by
 have e:cs.take 6=cs:=List.take_of_length_le (by omega)
 simp [Ci,Dv,h,a30,s30,hl,e]
theorem b30 (k a:Int) (kv:AV) (h:pA kv):Gn Tryz.prog 30 [(0,.v (.int .i64 k)),(1,.v (.int .i64 a)),(5,kv)]=some (.agg [.v (.int .i64 k),.v (.int .i64 a),.v (.int .i64 0),Bq [],.v (.bool false),kv]):=by
 rcases h with rfl | ⟨tok,off,es,rfl⟩ <;> rfl
theorem ld3b {S:St} {id:Nat} {t:Tk} (h:S.mem.get id=some (.box (Eh t))):Ci Tryz.prog S 3 (.ptr id 1)=some (.v (.int .i64 (t.pos:Int))):=(ld3k h).2
theorem fd1 (b:Nat):C2 Tryz.prog 68 (.ptr b 0) 1=some (.ptr b 1):=(fc68 b).2.1
theorem fd3 (b:Nat):C2 Tryz.prog 68 (.ptr b 0) 3=some (.ptr b 3):=(fc68 b).2.2
theorem Tl (t:Tk):(F0 t).noTup=true:=rfl
theorem Tm (t:Tk):(F0 t).cells=Eh t:=rfl
theorem Ca (xs:List AV):(AV.agg xs).noTup=true:=rfl
theorem Cb (xs:List AV):(AV.agg xs).cells=xs:=rfl
theorem Qk (S:St) (b:Nat) (cs:List AV):(S.put b cs).next=S.next:=rfl
theorem Tc (S:St) (kind:Nat) (t:Tk) (kv:AV) (hk:pA kv):WC E1 82 [Dl kind,F0 t,kv] S (fun r=>∃ S',r=.ret (.agg (exC kind t.pos 0 [] false kv)) S' ∧ En S S'):=by
 refine Dt Tryz.f82 (by kernel_rfl) (by kernel_rfl) (by kernel_rfl) (by show (_:Nat) ≤ _;simp [Tryz.f82]) ?_
 have g1:((S.newBox (Eh t)).newBox exZ).mem.get S.next=some (.box (Eh t)):=(Fp (Nat.lt_succ_self _)).trans (Cu S _)
 have g2:((S.newBox (Eh t)).newBox exZ).mem.get (S.newBox (Eh t)).next=some (.box exZ):=Cu _ _
 have q1:=ld3b g1
 have q2:=b30 kind t.pos kv hk
 have q3:=V3 g2 rfl (show ([.v (.int .i64 (kind:Int)),.v (.int .i64 (t.pos:Int)),.v (.int .i64 0),Bq [],.v (.bool false),kv]:List AV).length=6 from rfl)
 have q4:=ld30 (Ef ((S.newBox (Eh t)).newBox exZ) (S.newBox (Eh t)).next [.v (.int .i64 (kind:Int)),.v (.int .i64 (t.pos:Int)),.v (.int .i64 0),Bq [],.v (.bool false),kv]) rfl
 simp only [Dl]
 simp only [A6,Bk,B0,Bi,B8,A7,Bd,Bm,Bs,Bb,A5,Ba,A8,Cd,A0,A1,ofOpt,ofOptS,Cg,Bv,Bj,By,Bg,Cn,Nat.reduceLT,Nat.reduceAdd,Nat.reduceEqDiff,Aa,Ab,Ac,Ae,Tryz.f82,Tl,Tm,Gd,fd1,q1,q2,q3,q4]
 refine ⟨_,rfl,Eo ((Cz S _).trans (Cz _ _)) (Nat.le_succ _) _⟩
theorem Wy:∃ fn,E1.F 82=some fn:=Option.isSome_iff_exists.1 (by kernel_rfl)
theorem e28:Ih Tryz.prog 28=some (none,30):=by kernel_rfl
theorem z30:L3 Tryz.prog 30=some (.agg exZ):=by kernel_rfl
theorem iD (xs ys:List AV) (hx:xs.length=6) (hy:ys.length=6):Do Tryz.prog 28 2 [(0,.agg xs),(1,.agg ys)]=some (.sl 1 0 6 [.agg xs,.agg ys]):=by
 simp [Do,e28,s30,z30,Ca,Cb,hx,hy]
 rfl
theorem Xn (xs:List AV) (hx:xs.length=6):Do Tryz.prog 28 1 [(0,.agg xs)]=some (.sl 1 0 6 [.agg xs]):=by
 simp [Do,e28,s30,z30,Ca,Cb,hx]
theorem row28_3 (xs ys zs:List AV) (hx:xs.length=6) (hy:ys.length=6) (hz:zs.length=6):Do Tryz.prog 28 3 [(0,.agg xs),(1,.agg ys),(2,.agg zs)]=some (.sl 1 0 6 [.agg xs,.agg ys,.agg zs]):=by
 simp [Do,e28,s30,z30,Ca,Cb,hx,hy,hz]
 rfl
theorem fa30 (b:Nat):C2 Tryz.prog 30 (.ptr b 0) 2=some (.ptr b 2) ∧ C2 Tryz.prog 30 (.ptr b 0) 3=some (.ptr b 3) ∧ C2 Tryz.prog 30 (.ptr b 0) 4=some (.ptr b 4):=⟨by kernel_rfl,by kernel_rfl,by kernel_rfl⟩
theorem Xi {S:St} {id kind pos:Nat} {n:Int} {name:List UInt8} {off:Bool} {kv:AV} (h:S.mem.get id=some (.box (exC kind pos n name off kv))) (s:List UInt8):Dk Tryz.prog S 9 (.ptr id 3) (.v (.string ⟨⟨s⟩⟩))=some (S.put id (exC kind pos n s off kv)):=by
 have h2:(AV.v (.string ⟨⟨s⟩⟩)).noTup=true:=rfl
 simp [Dk,h,s9,h2,AV.cells,St.put,exC,Bq]
theorem st30_n {S:St} {id kind pos:Nat} {n:Int} {name:List UInt8} {off:Bool} {kv:AV} (h:S.mem.get id=some (.box (exC kind pos n name off kv))) (m:Int):Dk Tryz.prog S 2 (.ptr id 2) (.v (.int .i64 m))=some (S.put id (exC kind pos m name off kv)):=by
 have h2:(AV.v (.int .i64 m)).noTup=true:=rfl
 have s2:Fm Tryz.prog 2=some 1:=by kernel_rfl
 simp [Dk,h,s2,h2,AV.cells,St.put,exC]
theorem binary_w (S:St) (t:Tk) (xs ys:List AV) (hx:xs.length=6) (hy:ys.length=6):WC E1 174 [F0 t,.agg xs,.agg ys] S (fun r=>∃ S',r=.ret (.agg (exC 6 t.pos 0 t.text false (.sl 1 0 6 [.agg xs,.agg ys]))) S' ∧ En S S'):=by
 refine Dt Tryz.f174 (by kernel_rfl) (by kernel_rfl) (by kernel_rfl) (by show (_:Nat) ≤ _;simp [Tryz.f174]) ?_
 obtain ⟨fn1,hf1⟩:=Wy
 generalize hS1:S.newBox (Eh t)=S1
 generalize hS2:S1.newBox xs=S2
 generalize hS3:S2.newBox ys=S3
 generalize hS4:S3.newBox exZ=S4
 have n1:S1.next=S.next + 1:=by rw [← hS1]; rfl
 have n2:S2.next=S.next + 2:=by rw [← hS2]; show S1.next + 1=_; omega
 have n3:S3.next=S.next + 3:=by rw [← hS3]; show S2.next + 1=_; omega
 have n4:S4.next=S.next + 4:=by rw [← hS4]; show S3.next + 1=_; omega
 have k1:En S S1:=by rw [← hS1]; exact Cz _ _
 have k2:En S1 S2:=by rw [← hS2]; exact Cz _ _
 have k3:En S2 S3:=by rw [← hS3]; exact Cz _ _
 have k4:En S3 S4:=by rw [← hS4]; exact Cz _ _
 have gt:S4.mem.get S.next=some (.box (Eh t)):=((k2.trans (k3.trans k4)).2 _ (by omega)).trans (by rw [← hS1]; exact Cu _ _)
 have gx:S4.mem.get S1.next=some (.box xs):=((k3.trans k4).2 _ (by omega)).trans (by rw [← hS2]; exact Cu _ _)
 have gy:S4.mem.get S2.next=some (.box ys):=(k4.2 _ (by omega)).trans (by rw [← hS3]; exact Cu _ _)
 have gz:S4.mem.get S3.next=some (.box exZ):=by rw [← hS4]; exact Cu _ _
 have l1:=bA gt
 have l2:=ld30 gx hx
 have l3:=ld30 gy hy
 have r1:=iD xs ys hx hy
 simp only [A6,Bk,Bi,B8,A7,Bd,Bh,Bb,A5,Ba,A8,Cd,A0,A1,Bo,B5,ofOpt,ofOptS,A9,Cg,Bv,Nat.reduceLT,Nat.reduceAdd,Nat.reduceEqDiff,Aa,Ab,Ac,Ae,Aj,Ak,Tryz.f174,Tl,Tm,Ca,Cb,Gd,hS1,hS2,hS3,hS4,l1,l2,l3,r1,hf1]
 refine WC.mono (Tc S4 6 t (.sl 1 0 6 [.agg xs,.agg ys]) (.inr ⟨_,_,_,rfl⟩)) ?_
 rintro _ ⟨S5,rfl,k5⟩
 have gn:(S5.newBox exZ).mem.get S5.next=some (.box exZ):=Cu _ _
 have q1:=V3 gn rfl (show (exC 6 t.pos 0 [] false (.sl 1 0 6 [.agg xs,.agg ys])).length=6 from rfl)
 generalize hS6:(S5.newBox exZ).put S5.next (exC 6 t.pos 0 [] false (.sl 1 0 6 [.agg xs,.agg ys]))=S6 at q1
 have k6:En S5 S6:=by rw [← hS6]; exact Eo (Cz _ _) (Nat.le_refl _) _
 have g6:S6.mem.get S5.next=some (.box (exC 6 t.pos 0 [] false (.sl 1 0 6 [.agg xs,.agg ys]))):=by rw [← hS6]; exact Ef _ _ _
 have gt6:S6.mem.get S.next=some (.box (Eh t)):=((k5.trans k6).2 _ (by omega)).trans gt
 have gz6:S6.mem.get S3.next=some (.box exZ):=((k5.trans k6).2 _ (by omega)).trans gz
 have ft:=fa68 S.next
 have lt:=iP gt6
 have fe:=(fa30 S5.next).2.1
 have q2:=Xi g6 t.text
 have g7:(S6.put S5.next (exC 6 t.pos 0 t.text false (.sl 1 0 6 [.agg xs,.agg ys]))).mem.get S5.next=some (.box (exC 6 t.pos 0 t.text false (.sl 1 0 6 [.agg xs,.agg ys]))):=Ef _ _ _
 have hne:S3.next ≠ S5.next:=by have:=k5.1; omega
 have gz7:(S6.put S5.next (exC 6 t.pos 0 t.text false (.sl 1 0 6 [.agg xs,.agg ys]))).mem.get S3.next=some (.box exZ):=(Ek hne).trans gz6
 have l7:=ld30 g7 rfl
 have q3:=V3 gz7 rfl (show (exC 6 t.pos 0 t.text false (.sl 1 0 6 [.agg xs,.agg ys])).length=6 from rfl)
 have l8:=ld30 (Ef (S6.put S5.next (exC 6 t.pos 0 t.text false (.sl 1 0 6 [.agg xs,.agg ys]))) S3.next (exC 6 t.pos 0 t.text false (.sl 1 0 6 [.agg xs,.agg ys]))) rfl
 unfold Bq at lt
 simp only [A6,Bk,B0,Bi,B8,A7,Bd,Bm,Bs,Bb,Bl,A5,Ba,A8,A0,A1,ofOpt,ofOptS,Cg,Bj,By,Bg,Cn,Nat.reduceLT,Nat.reduceEqDiff,Aa,Ab,Ac,Gd,q1,ft,lt,fe,q2,l7,q3,l8]
 refine ⟨_,rfl,?_⟩
 have kk:En S S6:=k1.trans (k2.trans (k3.trans (k4.trans (k5.trans k6))))
 exact Eo (Eo kk (by have:=k5.1; omega) _) (by omega) _
def convX (P:Program) (G:Gl) (f:T AV) (S:St) (o:Oper):OR:=ground P G f S o
def convO (r:OR) (S:St) (x:Option AV):OR:=match x with
 | some (.v (.int .u64 n))=>.val (.v (.int .i64 (IntKind.i64.wrap n))) S
 | _=>r
theorem tK (n:Int):Kp Tryz.prog 66 2 (.v (.int .u64 n))=none:=by
 have h1:Tryz.prog.underlying 66=some (.int .u64):=rfl
 simp only [Kp,h1]
theorem gC (f:T AV) (S:St) (dst:Option Tmp) (k:Tmp) (ty:TypeId) (pos:String) (af:Array Edge) (gd:Option (Nat × Bool)) :
  ground Tryz.prog gR f S { dst:=dst,op:=.convert 66 2 (.tmp k),type:=ty,pos:=pos,after:=af,guard:=gd }=convO (convX Tryz.prog gR f S { dst:=dst,op:=.convert 66 2 (.tmp k),type:=ty,pos:=pos,after:=af,guard:=gd }) S (f.get k):=by
 unfold convO
 split
 ·rename_i n h
  have hg:Dc gR f (.tmp k)=some (.int .u64 n):=by unfold Dc; simp only [A8,h]; rfl
  unfold ground
  simp only [Op.operands,List.all_cons,List.all_nil,hg,Option.isSome_some,Bool.and_self,Aa]
  have e:execOp (fun x=>(Dc gR f x).getD undef) { dst:=dst,op:=.convert 66 2 (.tmp k),type:=ty,pos:=pos,after:=af,guard:=gd }=execOp (fun _=>.int .u64 n) { dst:=none,op:=.convert 66 2 (.tmp 0),type:=ty,pos := "", after:=#[],guard:=none }:=by
   simp only [execOp,hg,Ae]
  rw [e]
  have e3:Q3 Tryz.prog 4000 (execOp (fun _=>Value.int .u64 n) { dst:=none,op:=.convert 66 2 (.tmp 0),type:=ty,pos := "", after:=#[],guard:=none })=some (.int .i64 (IntKind.i64.wrap n)):=by rfl
  rw [e3]; rfl
 ·rfl
theorem convO_u (r:OR) (S:St) (n:Int):convO r S (some (.v (.int .u64 n)))=.val (.v (.int .i64 (IntKind.i64.wrap n))) S:=rfl
def negX (P:Program) (G:Gl) (f:T AV) (S:St) (o:Oper):OR:=ground P G f S o
def negO (r:OR) (S:St) (x:Option AV):OR:=match x with
 | some (.v (.int .i64 n))=>.val (.v (.int .i64 (IntKind.i64.wrap (0 - n)))) S
 | _=>r
theorem ground_neg (f:T AV) (S:St) (dst:Option Tmp) (k:Tmp) (ty:TypeId) (pos:String) (af:Array Edge) (gd:Option (Nat × Bool)) :
  ground Tryz.prog gR f S { dst:=dst,op:=.unOp .neg 2 (.tmp k),type:=ty,pos:=pos,after:=af,guard:=gd }=negO (negX Tryz.prog gR f S { dst:=dst,op:=.unOp .neg 2 (.tmp k),type:=ty,pos:=pos,after:=af,guard:=gd }) S (f.get k):=by
 unfold negO
 split
 ·rename_i n h
  have hg:Dc gR f (.tmp k)=some (.int .i64 n):=by unfold Dc; simp only [A8,h]; rfl
  unfold ground
  simp only [Op.operands,List.all_cons,List.all_nil,hg,Option.isSome_some,Bool.and_self,Aa]
  have e:execOp (fun x=>(Dc gR f x).getD undef) { dst:=dst,op:=.unOp .neg 2 (.tmp k),type:=ty,pos:=pos,after:=af,guard:=gd }=execOp (fun _=>.int .i64 n) { dst:=none,op:=.unOp .neg 2 (.tmp 0),type:=ty,pos := "", after:=#[],guard:=none }:=by
   simp only [execOp,hg,Ae]
  rw [e]
  have e3:Q3 Tryz.prog 4000 (execOp (fun _=>Value.int .i64 n) { dst:=none,op:=.unOp .neg 2 (.tmp 0),type:=ty,pos := "", after:=#[],guard:=none })=some (.int .i64 (IntKind.i64.wrap (0 - n))):=by rfl
  rw [e3]; rfl
 ·rfl
theorem negO_i (r:OR) (S:St) (n:Int):negO r S (some (.v (.int .i64 n)))=.val (.v (.int .i64 (IntKind.i64.wrap (0 - n)))) S:=rfl
theorem D7 (a:ByteArray):Do Tryz.prog 69 1 [(0,.v (.string a))]=some (.sl 1 0 1 [.v (.string a)]):=by kernel_rfl
theorem Xm (a b:ByteArray):Do Tryz.prog 69 2 [(0,.v (.string a)),(1,.v (.string b))]=some (.sl 1 0 1 [.v (.string a),.v (.string b)]):=by kernel_rfl
theorem row69_3 (a b c:ByteArray):Do Tryz.prog 69 3 [(0,.v (.string a)),(1,.v (.string b)),(2,.v (.string c))]=some (.sl 1 0 1 [.v (.string a),.v (.string b),.v (.string c)]):=by kernel_rfl
theorem U0 (a b c d:ByteArray):Do Tryz.prog 69 4 [(0,.v (.string a)),(1,.v (.string b)),(2,.v (.string c)),(3,.v (.string d))]=some (.sl 1 0 1 [.v (.string a),.v (.string b),.v (.string c),.v (.string d)]):=by kernel_rfl
theorem row69_6 (a b c d e f:ByteArray):Do Tryz.prog 69 6 [(0,.v (.string a)),(1,.v (.string b)),(2,.v (.string c)),(3,.v (.string d)),(4,.v (.string e)),(5,.v (.string f))]=some (.sl 1 0 1 [.v (.string a),.v (.string b),.v (.string c),.v (.string d),.v (.string e),.v (.string f)]):=by kernel_rfl
end Go.Ax
