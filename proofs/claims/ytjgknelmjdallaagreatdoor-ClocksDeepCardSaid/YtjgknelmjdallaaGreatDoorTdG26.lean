/- Dc -/
import Derived.Test.YtjgknelmjdallaaGreatDoorTdG25
set_option linter.unusedVariables false
set_option linter.unusedSimpArgs false
set_option maxHeartbeats 16000000
noncomputable section
namespace Go.Ax
open Go.RowKit Go.Proofs
set_option maxRecDepth 100000
theorem named_w {v:AV} {nd:PN} (h:Gr v nd) (hl:nd.ins.length + nd.outs.length + nd.vars.length ≤ 3000) (name:List UInt8) (S:St):WC E10 136 [v,Bt name] S (fun r=>∃ S',r=.ret (.tup [Fq ((H7 (Kq nd) name).getD Mp),.v (.bool (H7 (Kq nd) name).isSome)]) S' ∧ En S S'):=by
 obtain ⟨a,bb,c,d,es,rfl,ha,hb,hcv,hd,he⟩:=h
 refine Dv Tryz.f136 (by kernel_rfl) (by kernel_rfl) (by kernel_rfl) (by show (_:Nat) ≤ _;simp [Tryz.f136]) ?_
 have ra:=fW ha
 have rb:=fW hb
 have rc:=fW hcv
 have g1:=Cv S (Fg nd.name nd.pos a bb c d)
 have k1:=Cz S (Fg nd.name nd.pos a bb c d)
 have n1:(S.newBox (Fg nd.name nd.pos a bb c d)).next=S.next + 1:=rfl
 generalize hS1:S.newBox (Fg nd.name nd.pos a bb c d)=S1 at g1 k1 n1
 have al:=T3 S1
 have g2:(S1.newBox J0).mem.get S1.next=some (.box (Eu Mp)):=Cv S1 J0
 have q2:(S1.newBox J0).mem.get S.next=_:=(Fy (by omega)).trans g1
 have k2:=k1.trans (Cz S1 J0)
 have n2:(S1.newBox J0).next=S.next + 1 + 1:=by show S1.next + 1=_; omega
 generalize hS2:S1.newBox J0=S2 at g2 q2 k2 n2 al
 have l2:Cd Tryz.prog S2 46 (.ptr S.next 2)=some a:=gV q2
 have l3:Cd Tryz.prog S2 46 (.ptr S.next 3)=some bb:=ld46_3 q2
 have l4:Cd Tryz.prog S2 46 (.ptr S.next 4)=some c:=ld46_4 q2
 have bl:=bl228 ra rb rc
 have x0:=ix228_0 (b:=bb) (c:=c) ra
 have x1:=ix228_1 (a:=a) (c:=c) rb
 have x2:=ix228_2 (a:=a) (b:=bb) rc
 have w1:IntKind.i64.wrap (0 + 1)=1:=by rw [IntKind.wrap_i64]; rfl
 have w2:IntKind.i64.wrap (1 + 1)=2:=by rw [IntKind.wrap_i64]; rfl
 have w3:IntKind.i64.wrap (2 + 1)=3:=by rw [IntKind.wrap_i64]; rfl
 have t03:((0:Int) < 3):=by decide
 have t13:((1:Int) < 3):=by decide
 have t23:((2:Int) < 3):=by decide
 have t33:¬ ((3:Int) < 3):=by decide
 have fin:∀ d S',S'.mem.get S1.next=some (.box (Eu d)) → Cd Tryz.prog S' 54 (.ptr S1.next 0)=some (.agg (Eu d)):=fun d S' h=>ld54q h
 have hfd:H7 (Kq nd) name=(match H7 nd.ins name with | some d=>some d | none=>match H7 nd.outs name with | some d=>some d | none=>H7 nd.vars name):=by
  unfold Kq
  rw [iA,iA]
  cases H7 nd.ins name <;> rfl
 rw [hfd]
 have kfin:∀ {S'},D7 S1.next S2 S' → En S S':=fun {S'} k=>⟨Nat.le_trans k2.1 k.1,fun id hid=>(k.2 id (by omega) (by omega)).trans (k2.2 id hid)⟩
 simp only [A6,Bk,Bq,Dx,A4,Be,A7,A9,A8,A5,Bc,Ba,Ce,A0,A1,ofOpt,ofOptS,Bb,Bz,Nat.reduceLT,Nat.reduceAdd,Nat.reduceEqDiff,Aa,Ab,Ac,Ae,K5,Tryz.f136,Ca,Cb,hS1,al,aU,aT,qZ,l2,l3,l4,bl]
 refine Do (Dh ?_)
 have len0:=Rj S2 ha
 have key0:=fun t0 t=>nm_lp nd.ins ha (by omega) name S1.next S2 (by omega) t0 nd.ins.length 0 t S2 (by omega)
 unfold nmIn at key0
 simp only [Tryz.f136] at key0
 simp only [Bv,Bo,A6,Bk,Bl,Bq,Dx,C1,A4,Ci,Da,Be,A7,A9,A8,B8,A5,Bc,Ba,A0,A1,Bm,ofOpt,Bb,Bz,Bs,Cu,Nat.reduceLT,Nat.reduceEqDiff,Aa,Ab,Ac,Am,Ap,K5,t03,x0,len0]
 refine WX.mono (key0 _ _ ?_ ?_ ?_ ?_ ?_ ⟨rfl,rfl,rfl,rfl,rfl⟩ g2 ⟨Nat.le_refl _,fun _ _ _=>rfl⟩) ?_
 ·simp only [A0,A1,Nat.reduceEqDiff,Aa,Ab]; try rfl
 ·simp only [A0,A1,Nat.reduceEqDiff,Aa,Ab]
 ·simp only [A0,A1,Nat.reduceEqDiff,Aa,Ab]
 ·simp only [A0,A1,Nat.reduceEqDiff,Aa,Ab]; rfl
 ·simp only [A0,A1,Nat.reduceEqDiff,Aa,Ab]; rfl
 rw [List.drop_zero]
 rintro r0 (⟨d0,hf0,t0,S3,rfl,u4,u5,u6,ku⟩ | ⟨hf0,t0,S3,rfl,v1,v4,v5,v16,v17,kk0,gz0⟩)
 ·have ld:=fin _ _ u6
  simp only [Dk,B4,B3,Bi,B0,Bg,Cs,K5,u4,u5,ld]
  rw [hf0]
  exact ⟨_,rfl,kfin ku⟩
 rw [hf0]
 have f10:t0.get 1=some (.v (.string ⟨⟨name⟩⟩)):=by rw [v1]; simp only [A0,A1,Nat.reduceEqDiff,Aa,Ab]; try rfl
 have f40:t0.get 4=some (.ptr S1.next 0):=by rw [v4]; simp only [A0,A1,Nat.reduceEqDiff,Aa,Ab]; try rfl
 have f160:t0.get 16=some (.agg [a,bb,c]):=by rw [v16]; simp only [A0,A1,Nat.reduceEqDiff,Aa,Ab]; try rfl
 have f170:t0.get 17=some (.v (.int .i64 0)):=by rw [v17]; simp only [A0,A1,Nat.reduceEqDiff,Aa,Ab]
 simp only [Bw,Bv,A6,Bk,A4,Ci,Bn,Da,Be,A7,A9,A8,A5,Bc,Ba,A0,ofOpt,Bb,Bz,Bs,Dg,Nat.reduceLT,Nat.reduceEqDiff,Aa,Ab,Ac,Am,K5,w1,f170]
 refine Do (Dh ?_)
 have len1:=Rj S3 hb
 have key1:=fun t0 t=>nm_lp nd.outs hb (by omega) name S1.next S2 (by omega) t0 nd.outs.length 0 t S3 (by omega)
 unfold nmIn at key1
 simp only [Tryz.f136] at key1
 simp only [Bv,Bo,A6,Bk,Bl,Bq,Dx,C1,A4,Ci,Da,Be,A7,A9,A8,B8,A5,Bc,Ba,A0,Bm,ofOpt,Bb,Bz,Bs,Cu,Nat.reduceLT,Nat.reduceEqDiff,Aa,Ab,Ac,Am,Ap,K5,t13,x1,len1,f160,f170]
 refine WX.mono (key1 _ _ ?_ ?_ ?_ ?_ ?_ ⟨rfl,rfl,rfl,rfl,rfl⟩ gz0 kk0) ?_
 ·simp only [A0,A1,Nat.reduceEqDiff,Aa,Ab,f10]; try rfl
 ·simp only [A0,A1,Nat.reduceEqDiff,Aa,Ab,f40]
 ·simp only [A0,A1,Nat.reduceEqDiff,Aa,Ab]
 ·simp only [A0,A1,Nat.reduceEqDiff,Aa,Ab]; rfl
 ·simp only [A0,A1,Nat.reduceEqDiff,Aa,Ab]; rfl
 rw [List.drop_zero]
 rintro r1 (⟨d1,hf1,t1,S4,rfl,u4,u5,u6,ku⟩ | ⟨hf1,t1,S4,rfl,v1,v4,v5,v16,v17,kk1,gz1⟩)
 ·have ld:=fin _ _ u6
  simp only [Dk,B4,B3,Bi,B0,Bg,Cs,K5,u4,u5,ld]
  rw [hf1]
  exact ⟨_,rfl,kfin ku⟩
 rw [hf1]
 have f11:t1.get 1=some (.v (.string ⟨⟨name⟩⟩)):=by rw [v1]; simp only [A0,A1,Nat.reduceEqDiff,Aa,Ab,f10]; try rfl
 have f41:t1.get 4=some (.ptr S1.next 0):=by rw [v4]; simp only [A0,A1,Nat.reduceEqDiff,Aa,Ab,f40]; try rfl
 have f161:t1.get 16=some (.agg [a,bb,c]):=by rw [v16]; simp only [A0,A1,Nat.reduceEqDiff,Aa,Ab,f160]; try rfl
 have f171:t1.get 17=some (.v (.int .i64 1)):=by rw [v17]; simp only [A0,A1,Nat.reduceEqDiff,Aa,Ab]
 simp only [Bw,Bv,A6,Bk,A4,Ci,Bn,Da,Be,A7,A9,A8,A5,Bc,Ba,A0,ofOpt,Bb,Bz,Bs,Dg,Nat.reduceLT,Nat.reduceEqDiff,Aa,Ab,Ac,Am,K5,w2,f171]
 refine Do (Dh ?_)
 have len2:=Rj S4 hcv
 have key2:=fun t0 t=>nm_lp nd.vars hcv (by omega) name S1.next S2 (by omega) t0 nd.vars.length 0 t S4 (by omega)
 unfold nmIn at key2
 simp only [Tryz.f136] at key2
 simp only [Bv,Bo,A6,Bk,Bl,Bq,Dx,C1,A4,Ci,Da,Be,A7,A9,A8,B8,A5,Bc,Ba,A0,Bm,ofOpt,Bb,Bz,Bs,Cu,Nat.reduceLT,Nat.reduceEqDiff,Aa,Ab,Ac,Am,Ap,K5,t23,x2,len2,f161,f171]
 refine WX.mono (key2 _ _ ?_ ?_ ?_ ?_ ?_ ⟨rfl,rfl,rfl,rfl,rfl⟩ gz1 kk1) ?_
 ·simp only [A0,A1,Nat.reduceEqDiff,Aa,Ab,f11]; try rfl
 ·simp only [A0,A1,Nat.reduceEqDiff,Aa,Ab,f41]
 ·simp only [A0,A1,Nat.reduceEqDiff,Aa,Ab]
 ·simp only [A0,A1,Nat.reduceEqDiff,Aa,Ab]; rfl
 ·simp only [A0,A1,Nat.reduceEqDiff,Aa,Ab]; rfl
 rw [List.drop_zero]
 rintro r2 (⟨d2,hf2,t2,S5,rfl,u4,u5,u6,ku⟩ | ⟨hf2,t2,S5,rfl,v1,v4,v5,v16,v17,kk2,gz2⟩)
 ·have ld:=fin _ _ u6
  simp only [Dk,B4,B3,Bi,B0,Bg,Cs,K5,u4,u5,ld]
  rw [hf2]
  exact ⟨_,rfl,kfin ku⟩
 rw [hf2]
 have f12:t2.get 1=some (.v (.string ⟨⟨name⟩⟩)):=by rw [v1]; simp only [A0,A1,Nat.reduceEqDiff,Aa,Ab,f11]; try rfl
 have f42:t2.get 4=some (.ptr S1.next 0):=by rw [v4]; simp only [A0,A1,Nat.reduceEqDiff,Aa,Ab,f41]; try rfl
 have f162:t2.get 16=some (.agg [a,bb,c]):=by rw [v16]; simp only [A0,A1,Nat.reduceEqDiff,Aa,Ab,f161]; try rfl
 have f172:t2.get 17=some (.v (.int .i64 2)):=by rw [v17]; simp only [A0,A1,Nat.reduceEqDiff,Aa,Ab]
 simp only [Bw,Bv,A6,Bk,A4,Ci,Bn,Da,Be,A7,A9,A8,A5,Bc,Ba,A0,ofOpt,Bb,Bz,Bs,Dg,Nat.reduceLT,Nat.reduceEqDiff,Aa,Ab,Ac,Am,K5,w3,f172]
 refine Do (Dh ?_)
 have stz:=Xj gz2 rfl Mp
 have lz:=fin Mp _ (Ed S5 S1.next (Eu Mp))
 simp only [Bv,Bo,A6,Bk,Bl,Bq,C1,B1,A4,Ci,Da,Be,A7,A9,C4,Df,A8,B6,A5,Bc,Ba,A0,ofOpt,Bb,Bz,Bs,Bi,B0,Bg,Cs,Cu,Nat.reduceLT,Nat.reduceEqDiff,Aa,Ab,Ac,Am,Aq,K5,e10_G,t33,f42,f162,f172,bl54z,stz,lz]
 exact ⟨_,rfl,kfin (kk2.trans ⟨Nat.le_refl _,fun id _ hne=>Eg hne⟩)⟩
abbrev Gd:=List UInt8 × Bool
def gC (g:Gd):List AV:=[Bt g.1,.v (.bool g.2)]
def gA (g:Gd):AV:=.agg (gC g)
def Fc:List Gd → List AV
 | []=>[]
 | g :: l=>gC g ++ Fc l
theorem Tx (l:List Gd):Fc l=Er (l.map gA):=by
 induction l with
 | nil=>rfl
 | cons g l ih =>
  show gC g ++ Fc l=AV.cells (gA g) ++ Er (l.map gA)
  rw [ih]; rfl
theorem Wt (l:List Gd):(Fc l).length=l.length * 2:=by
 induction l with
 | nil=>rfl
 | cons g l ih=>show (gC g ++ Fc l).length=_; rw [List.length_append,ih]; simp [gC]; omega
theorem rY (l m:List Gd):Fc (l ++ m)=Fc l ++ Fc m:=by
 induction l with
 | nil=>rfl
 | cons g l ih=>show gC g ++ Fc (l ++ m)=(gC g ++ Fc l) ++ Fc m; rw [ih,List.append_assoc]
theorem Yg:∀ (l:List Gd) (k:Nat),(Fc l).drop (k * 2)=Fc (l.drop k)
 | l,0=>rfl
 | [],k + 1=>by simp [Fc]
 | g :: l,k + 1=>by
  show (gC g ++ Fc l).drop ((k + 1) * 2)=Fc (l.drop k)
  rw [← Yg l k,show (k + 1) * 2=2 + k * 2 by omega,← List.drop_drop]
  rfl
theorem kL:∀ (l:List Gd) (k:Nat),(Fc l).take (k * 2)=Fc (l.take k)
 | l,0=>by simp [Fc]
 | [],k + 1=>by simp [Fc]
 | g :: l,k + 1=>by
  show (gC g ++ Fc l).take ((k + 1) * 2)=gC g ++ Fc (l.take k)
  rw [← kL l k,show (k + 1) * 2=k * 2 + 1 + 1 by omega]
  rfl
theorem cellsG_set (l:List Gd) (k:Nat) (h:k < l.length) (g:Gd):(Fc l).take (k * 2) ++ (gC g ++ (Fc l).drop (k * 2 + 2))=Fc (l.set k g):=by
 rw [kL,show k * 2 + 2=(k + 1) * 2 by omega,Yg,List.set_eq_take_append_cons_drop,if_pos h,rY]
 rfl
theorem jE:Fu Tryz.prog 208=some 2:=by kernel_rfl
theorem ag208:Fo Tryz.prog 208=some true:=by kernel_rfl
theorem dX:Ir Tryz.prog 169=some (none,208):=by kernel_rfl
theorem nD:Tryz.prog.underlying 169=some (.slice 208):=by kernel_rfl
theorem ld208 {S:St} {id:Nat} {l:List Gd} (h:S.mem.get id=some (.box (Fc l))) (k:Nat) (hk:k < l.length):Cd Tryz.prog S 208 (.ptr id (k * 2))=some (gA l[k]):=by
 have hd:=Yg l k
 rw [List.drop_eq_getElem_cons hk] at hd
 have hle:k * 2 ≤ (Fc l).length:=by rw [Wt]; omega
 simp only [Cd,D0,h,if_pos hle,ag208,jE,hd]
 simp [Fc,gC,gA]
theorem st208 {S:St} {id:Nat} {l:List Gd} (h:S.mem.get id=some (.box (Fc l))) (k:Nat) (hk:k < l.length) (g:Gd):Dt Tryz.prog S 208 (.ptr id (k * 2)) (gA g)=some (S.put id (Fc (l.set k g))):=by
 have hs:=cellsG_set l k hk g
 have hle:k * 2 + 2 ≤ (Fc l).length:=by rw [Wt]; omega
 have hn:(gA g).noTup=true:=rfl
 have hc:(gA g).cells=gC g:=rfl
 have hl:(gC g).length=2:=rfl
 simp only [Dt,h,jE,hn,hc,hl]
 simp [hle,hs,St.put]
theorem ix169b (id n k:Nat) (hk:k < n):Cm Tryz.prog 169 (.bs id 0 n 2) (.v (.int .i64 (k:Int)))=some (.ptr id (k * 2)):=by
 simp [Cm,dX,jE,hk]
theorem zU (S:St) (id n:Nat):Fw Tryz.prog S 169 (.bs id 0 n 2)=some n:=by simp [Fw,nD]
theorem zT (S:St):Fw Tryz.prog S 169 .nils=some 0:=by simp [Fw,nD]
def swL:Nat → List Gd → List Gd
 | 0,l=>l
 | i + 1,l=>((swL i l).set i ((swL i l).getD (l.length - 1 - i) ([],false))).set (l.length - 1 - i) ((swL i l).getD i ([],false))
theorem lH:∀ (i:Nat) (l:List Gd),(swL i l).length=l.length
 | 0,l=>rfl
 | i + 1,l=>by unfold swL; rw [List.length_set,List.length_set,lH i l]
theorem swL_get:∀ (i:Nat) (l:List Gd),2 * i ≤ l.length → ∀ k,k < l.length → (swL i l)[k]? = if k < i ∨ l.length - i ≤ k then l[l.length - 1 - k]? else l[k]?
 | 0,l,h,k,hk=>by
  rw [if_neg (by omega)]; rfl
 | i + 1,l,h,k,hk=>by
  have ih:=swL_get i l (by omega)
  have hlen:=lH i l
  have e1:(swL i l).getD (l.length - 1 - i) ([],false)=l[l.length - 1 - i]'(by omega):=by
   rw [List.getD_eq_getElem?_getD,ih _ (by omega),if_neg (by omega),List.getElem?_eq_getElem (by omega)]; rfl
  have e2:(swL i l).getD i ([],false)=l[i]'(by omega):=by
   rw [List.getD_eq_getElem?_getD,ih _ (by omega),if_neg (by omega),List.getElem?_eq_getElem (by omega)]; rfl
  unfold swL
  rw [e1,e2,List.getElem?_set,List.getElem?_set,List.length_set,hlen]
  by_cases h1:l.length - 1 - i=k
  ·subst h1
   rw [if_pos rfl,if_pos hk,if_pos (by omega)]
   rw [show l.length - 1 - (l.length - 1 - i)=i by omega,List.getElem?_eq_getElem (by omega)]
  ·rw [if_neg h1]
   by_cases h2:i=k
   ·subst h2
    rw [if_pos rfl,if_pos hk,if_pos (by omega),List.getElem?_eq_getElem (by omega)]
   ·rw [if_neg h2,ih k hk]
    by_cases h3:k < i ∨ l.length - i ≤ k
    ·rw [if_pos h3,if_pos (by omega)]
    ·rw [if_neg h3,if_neg (by omega)]
theorem swL_rev (i:Nat) (l:List Gd) (h:2 * i ≤ l.length) (h2:¬ (i + 1 < l.length - i)):swL i l=l.reverse:=by
 refine List.ext_getElem? fun k=>?_
 by_cases hk:k < l.length
 ·rw [swL_get i l h k hk,List.getElem?_reverse hk]
  by_cases h3:k < i ∨ l.length - i ≤ k
  ·rw [if_pos h3]
  ·rw [if_neg h3]
   have:l.length - 1 - k=k:=by omega
   rw [this]
 ·rw [List.getElem?_eq_none (by rw [lH]; omega),List.getElem?_eq_none (by rw [List.length_reverse]; omega)]
theorem Zd (k:IntKind) (x y:Int):Ej .sub (.v (.int k x)) (.v (.int k y))=some (.v (.int k (k.wrap (x - y)))):=by simp [Ej]
def rvB:Code:=match Tryz.f137.body with
 | some (.seq _ (.block _ (.loop b)))=>b
 | _=>.skip
def LoopRv (id:Nat) (l:List Gd) (S0:St) (r:O):Prop:=∃ t' S',r=.out (.exit 0) ⟨t',[]⟩ S' ∧ S'.mem.get id=some (.box (Fc l.reverse)) ∧ D7 id S0 S' ∧ S'.next=S0.next
theorem rv_lp (id:Nat) (l:List Gd) (hl:l.length ≤ 1000000) (S0:St):∀ (n i:Nat) (t:T AV) (S:St),2 * (n + i) + 1 ≥ l.length → 2 * i ≤ l.length → t.get 0=some (.bs id 0 l.length 2) → t.get 2=some (Dq i) → t.get 3=some (.v (.int .i64 ((l.length:Int) - 1 - i))) → S.mem.get id=some (.box (Fc (swL i l))) → D7 id S0 S → S.next=S0.next →
  WX E10 28 (.loop rvB) ⟨t,[]⟩ S (LoopRv id l S0)
 | n,i,t,S,hn,hi,h0,h2,h3,hm,hk,hx=>by
  refine Do (Dh ?_)
  simp only [Dq] at h2
  by_cases hlt:((i:Int) < (l.length:Int) - 1 - i)
  ·have hi2:i < l.length:=by omega
   have hj2:l.length - 1 - i < l.length:=by omega
   have ej:(l.length:Int) - 1 - (i:Int)=((l.length - 1 - i:Nat):Int):=by omega
   rw [ej] at h3
   have hlt':((i:Int) < ((l.length - 1 - i:Nat):Int)):=by omega
   have x1:=ix169b id l.length i hi2
   have x2:=ix169b id l.length (l.length - 1 - i) hj2
   have hlen:=lH i l
   have a1:=ld208 hm i (by omega)
   have a2:=ld208 hm (l.length - 1 - i) (by omega)
   have s1:=st208 hm i (by omega) ((swL i l)[l.length - 1 - i]'(by omega))
   have g1:=Ed S id (Fc ((swL i l).set i ((swL i l)[l.length - 1 - i]'(by omega))))
   have s2:=st208 g1 (l.length - 1 - i) (by rw [List.length_set]; omega) ((swL i l)[i]'(by omega))
   have hsw:(((swL i l).set i ((swL i l)[l.length - 1 - i]'(by omega))).set (l.length - 1 - i) ((swL i l)[i]'(by omega)))=swL (i + 1) l:=by
    show _=((swL i l).set i ((swL i l).getD (l.length - 1 - i) ([],false))).set (l.length - 1 - i) ((swL i l).getD i ([],false))
    rw [List.getD_eq_getElem?_getD,List.getD_eq_getElem?_getD,List.getElem?_eq_getElem (by omega),List.getElem?_eq_getElem (by omega)]
    rfl
   rw [hsw] at s2
   have w1:IntKind.i64.wrap ((i:Int) + 1)=((i + 1:Nat):Int):=by rw [IntKind.wrap_i64]; omega
   have w2:IntKind.i64.wrap (((l.length - 1 - i:Nat):Int) - 1)=(l.length:Int) - 1 - ((i + 1:Nat):Int):=by rw [IntKind.wrap_i64]; omega
   have k2:D7 id S ((S.put id (Fc ((swL i l).set i ((swL i l)[l.length - 1 - i]'(by omega))))).put id (Fc (swL (i + 1) l))):=⟨Nat.le_refl _,fun b _ hne=>(Eg hne).trans (Eg hne)⟩
   have g2:=Ed (S.put id (Fc ((swL i l).set i ((swL i l)[l.length - 1 - i]'(by omega))))) id (Fc (swL (i + 1) l))
   have nxa:(S.put id (Fc ((swL i l).set i ((swL i l)[l.length - 1 - i]'(by omega))))).next=S0.next:=hx
   generalize S.put id (Fc ((swL i l).set i ((swL i l)[l.length - 1 - i]'(by omega))))=Sa at s1 s2 k2 g2 nxa
   have nx:(Sa.put id (Fc (swL (i + 1) l))).next=S0.next:=nxa
   generalize hS2:Sa.put id (Fc (swL (i + 1) l))=S2 at s2 k2 g2 nx
   cases n with
   | zero=>omega
   | succ n =>
    simp only [Bv,Bo,A6,Co,Bk,Bl,Bq,C1,A4,Ci,Be,A7,A9,A8,B8,A5,Bc,Ba,A0,ofOpt,Bs,Cu,Nat.reduceLT,Nat.reduceEqDiff,Aa,Ab,Ac,Am,Ap,K5,rvB,Tryz.f137,h2,h3,hlt']
    refine Fv [(0,true),(1,true),(2,true),(3,true),(4,true),(5,true),(6,true),(7,true),(8,true),(9,true),(10,true),(11,true),(12,true),(13,true),(14,true),(15,true)] (by kernel_rfl) (by kernel_rfl) ?_
    simp only [A6,A4,Bn,A7,A9,A8,A5,Bc,Ba,A0,ofOpt,Bb,Bs,Dg,Nat.reduceLT,Nat.reduceEqDiff,Aa,Ab,Ac,Af,Ag,Ah,Am,K5,e10_G,h0,h2,h3,x1,x2,a1,a2,s1,s2,D9,Dr,Ct,O5,Oz,B7,Dj,F4]
    simp only [Bw,Be,A7,A9,A8,A5,Bc,Ba,A0,ofOpt,Nat.reduceLT,Nat.reduceEqDiff,Aa,Ab,Ac,Zd,w1,w2]
    refine rv_lp id l hl S0 n (i + 1) _ S2 (by omega) (by omega) ?_ ?_ ?_ g2 (hk.trans k2) nx
    ·simp only [A0,A1,Nat.reduceEqDiff,Aa,Ab,h0]
    ·simp only [A0,A1,Nat.reduceEqDiff,Aa,Ab]; rfl
    ·simp only [A0,A1,Nat.reduceEqDiff,Aa,Ab]
  ·have hlt2:¬ ((i:Int) < (l.length:Int) - 1 - i):=hlt
   simp only [Bv,Bo,A6,Co,Bk,Bl,Bq,C1,A4,Ci,Be,A7,A9,A8,B6,A5,Bc,Ba,A0,ofOpt,Bs,Cu,Nat.reduceLT,Nat.reduceEqDiff,Aa,Ab,Ac,Am,Aq,K5,rvB,Tryz.f137,h2,h3,hlt2]
   rw [swL_rev i l hi (by omega)] at hm
   exact ⟨_,_,rfl,hm,hk,hx⟩
theorem i208:(Tryz.prog.info? 208).map (fun i=>(i.zero,i.size,i.bytes))=some (some (.agg #[.string ⟨#[]⟩,.bool false]),2,24):=by kernel_rfl
theorem zr208:Mi Tryz.prog 208=some (gA ([],false)):=by kernel_rfl
theorem bl208 (n:List UInt8) (o:Bool):Gc Tryz.prog 208 [(0,.v (.string ⟨⟨n⟩⟩)),(1,.v (.bool o))]=some (gA (n,o)):=by kernel_rfl
theorem row169_1 (g:Gd):Dw Tryz.prog 169 1 [(0,gA g)]=some (.sl 1 0 2 [gA g]):=by
 simp [Dw,dX,jE,zr208,Ca,Cb,gA,gC]
theorem app169n (S:St) (g:Gd):Gw E10 S 169 169 .nils (.sl 1 0 2 [gA g])=some (.bs S.next 0 1 2,S.newBox (Fc [g])):=by
 obtain ⟨i,hi,hz0,hz1,hz2⟩:=Hb i208
 have e:Gw E10 S 169 169 .nils (.sl 1 0 2 [gA g])=(match I9 Tryz.prog S 169 169 true .nils (.sl 1 0 2 [gA g]) with | some r=>some r | none=>Fh Tryz.prog S 169 169 .nils (.sl 1 0 2 [gA g])):=rfl
 rw [e]
 have hf:Er [gA g]=Fc [g]:=(Tx [g]).symm
 simp [I9,dX,hi,hz0,hz1,hz2,Mr,nD,Value.cells,hf]
theorem app169b (S:St) (id:Nat) (l:List Gd) (hl:l.length ≤ 1000000) (hm:S.mem.get (id + 2)=some (.box (Fc l))) (g:Gd):Gw E10 S 169 169 (.bs (id + 2) 0 l.length 2) (.sl 1 0 2 [gA g])=some (.bs S.next 0 (l.length + 1) 2,S.moved (id + 2) (Fc (l ++ [g]))):=by
 obtain ⟨i,hi,hz0,hz1,hz2⟩:=Hb i208
 have e:Gw E10 S 169 169 (.bs (id + 2) 0 l.length 2) (.sl 1 0 2 [gA g])=(match I9 Tryz.prog S 169 169 true (.bs (id + 2) 0 l.length 2) (.sl 1 0 2 [gA g]) with | some r=>some r | none=>Fh Tryz.prog S 169 169 (.bs (id + 2) 0 l.length 2) (.sl 1 0 2 [gA g])):=rfl
 rw [e]
 have hf:Er [gA g]=Fc [g]:=(Tx [g]).symm
 have h1:l.length * 2 ≤ (Fc l).length:=by rw [Wt]; exact Nat.le_refl _
 have h2:(l.length + 1) * 24 ≤ 140737488355328:=by omega
 have h3:l.length + 1 ≤ 9223372036854775807:=by omega
 have h4:(Fc l).take (l.length * 2) ++ Fc [g]=Fc (l ++ [g]):=by
  rw [List.take_of_length_le (by rw [Wt]; exact Nat.le_refl _),rY]
 simp [I9,dX,hi,hz0,hz1,hz2,Mr,nD,Value.cells,hf,hm,h1,h2,h3,h4]
theorem moved_get (S:St) (id:Nat) (cs:List AV):(S.moved (id + 2) cs).mem.get S.next=some (.box cs):=by
 show ((S.kill (id + 2)).mem.set S.next _).get S.next=_
 rw [T.get_set,if_pos rfl]
theorem moved_old (S:St) (id:Nat) (cs:List AV) {k:Nat} (hk:k < S.next) (hne:k ≠ id + 2):(S.moved (id + 2) cs).mem.get k=S.mem.get k:=by
 show ((S.kill (id + 2)).mem.set S.next _).get k=_
 rw [T.get_set,if_neg (by omega),St.kill_get S (id + 2) k (by omega),if_neg hne]
def OwnG (S0 S:St) (v:AV) (l:List Gd):Prop:=(l=[] ∧ v=.nils) ∨ (l ≠ [] ∧ ∃ id,S0.next ≤ id + 2 ∧ id + 2 < S.next ∧ v=.bs (id + 2) 0 l.length 2 ∧ S.mem.get (id + 2)=some (.box (Fc l)))
theorem rev_w (id:Nat) (l:List Gd) (hl:l.length ≤ 1000000) (S:St) (hm:S.mem.get id=some (.box (Fc l))):WC E10 137 [.bs id 0 l.length 2] S (fun r=>∃ S',r=.ret (.tup []) S' ∧ S'.mem.get id=some (.box (Fc l.reverse)) ∧ D7 id S S' ∧ S'.next=S.next):=by
 refine Dv Tryz.f137 (by kernel_rfl) (by kernel_rfl) (by kernel_rfl) (by show (_:Nat) ≤ _;simp [Tryz.f137]) ?_
 have hlen:=zU S id l.length
 have key:=fun t=>rv_lp id l hl S l.length 0 t S (by omega) (by omega)
 unfold rvB at key
 simp only [Tryz.f137] at key
 have w1:IntKind.i64.wrap ((l.length:Int) - 1)=(l.length:Int) - 1 - ((0:Nat):Int):=by rw [IntKind.wrap_i64]; omega
 simp only [A6,Bk,Bq,Dx,A4,Be,A7,A9,A8,A5,Bc,Ba,Ce,A0,A1,Bm,ofOpt,Bb,Bs,Nat.reduceLT,Nat.reduceEqDiff,Aa,Ab,Ac,Ae,Am,K5,Tryz.f137,hlen,Zd,w1]
 refine WX.mono (key _ ?_ ?_ ?_ hm ⟨Nat.le_refl _,fun _ _ _=>rfl⟩ (by trivial)) ?_
 ·simp only [A0,A1,Nat.reduceEqDiff,Aa,Ab]
 ·simp only [A0,A1,Nat.reduceEqDiff,Aa,Ab]; rfl
 ·simp only [A0,A1,Nat.reduceEqDiff,Aa,Ab]
 rintro _ ⟨t',S',rfl,h1,h2,h3⟩
 simp only [Da,B0,Bg,Cs,Aa,Gm]
 exact ⟨_,rfl,h1,h2,h3⟩
theorem rev_nil (S:St):WC E10 137 [.nils] S (fun r=>r=.ret (.tup []) S):=by
 refine Dv Tryz.f137 (by kernel_rfl) (by kernel_rfl) (by kernel_rfl) (by show (_:Nat) ≤ _;simp [Tryz.f137]) ?_
 have hlen:=zT S
 have w1:IntKind.i64.wrap (((0:Nat):Int) - 1)=-1:=by rw [IntKind.wrap_i64]; rfl
 have hlt:¬ ((0:Int) < -1):=by decide
 simp only [A6,Bk,Bq,Dx,A4,Be,A7,A9,A8,A5,Bc,Ba,Ce,A0,A1,Bm,ofOpt,Bb,Bs,Nat.reduceLT,Nat.reduceEqDiff,Aa,Ab,Ac,Ae,Am,K5,Tryz.f137,hlen,Zd,w1]
 refine Do (Dh ?_)
 simp only [Bv,Bo,A6,Co,Bk,Bl,Bq,C1,A4,Ci,Da,Be,A7,A9,A8,B6,A5,Bc,Ba,A0,A1,ofOpt,Bs,B0,Bg,Cs,Cu,Nat.reduceLT,Nat.reduceEqDiff,Aa,Ab,Ad,Am,Aq,K5,hlt,Gm]
def ofL (ds:List PD):Nat → List UInt8 → List Gd → Option (List Gd × Bool)
 | 0,_,_=>none
 | n + 1,name,acc=>if ((H7 ds name).getD Mp).clock=[] then some (acc.reverse,true) else if acc.length=ds.length then some ([],false) else ofL ds n ((H7 ds name).getD Mp).clock (acc ++ [(((H7 ds name).getD Mp).clock,((H7 ds name).getD Mp).off)])
def ofB:Code:=match Tryz.f107.body with
 | some (.seq _ (.seq _ (.seq _ (.block _ (.loop b)))))=>b
 | _=>.skip
def LoopOf (S0:St) (l:List Gd) (ok:Bool) (r:O):Prop:=∃ t' S' v,r=.out .ret ⟨t',[]⟩ S' ∧ t'.get 4=some v ∧ t'.get 5=some (.v (.bool ok)) ∧ OwnG S0 S' v l ∧ En S0 S'
theorem fa54_4 (b:Nat):C2 Tryz.prog 54 (.ptr b 0) 4=some (.ptr b 5):=by kernel_rfl
theorem of_lp {cs:List AV} {nd:PN} (h:Gr (.agg cs) nd) (hcl:cs.length=6) (hl:nd.ins.length + nd.outs.length + nd.vars.length ≤ 3000) (p:Nat) (S0:St) (hp:p < S0.next) (hp2:2 ≤ S0.next):∀ (n:Nat) (name:List UInt8) (acc:List Gd) (t:T AV) (S:St) (c:AV) (l:List Gd) (ok:Bool),ofL (Kq nd) n name acc=some (l,ok) → acc.length ≤ (Kq nd).length → t.get 1=some (Bt name) → t.get 2=some (.ptr p 0) → t.get 6=some (Dq (Kq nd).length) → t.get 7=some c → OwnG S0 S c acc → S.mem.get p=some (.box cs) → En S0 S →
  WX E10 41 (.loop ofB) ⟨t,[]⟩ S (LoopOf S0 l ok)
 | 0,name,acc,t,S,c,l,ok,he,ha,h1,h2,h6,h7,hc,hm,hk=>by cases he
 | n + 1,name,acc,t,S,c,l,ok,he,ha,h1,h2,h6,h7,hc,hm,hk=>by
  refine Do (Dh ?_)
  obtain ⟨fn1,hf136⟩:=fnt_136
  obtain ⟨fn2,hf137⟩:=fnt_137
  have lq:=ldU Vp N4 hm hcl
  simp only [Dq] at h6
  unfold ofL at he
  have hall:(Kq nd).length ≤ 3000:=by unfold Kq; simp only [List.length_append]; omega
  simp only [A6,Bk,Bq,A7,A9,By,A8,A5,Bc,Ba,A0,Bm,B5,ofOpt,Nat.reduceLT,Nat.reduceEqDiff,Aa,Ab,Ac,Aj,Ak,K5,ofB,Tryz.f107,h1,h2,lq,hf136]
  refine WC.mono (named_w h hl name S) ?_
  rintro _ ⟨S1,rfl,k1⟩
  generalize (H7 (Kq nd) name).isSome=fs
  generalize (H7 (Kq nd) name).getD Mp=d at he ⊢
  have al:=T3 S1
  have q1:=Xj (Cv S1 J0) rfl d
  obtain ⟨k2,g2,l2⟩:=Jj S1 J0 (Eu d)
  generalize hS2:(S1.newBox J0).put S1.next (Eu d)=S2 at q1 k2 g2 l2
  have lc:Cd Tryz.prog S2 9 (.ptr S1.next 4)=some (.v (.string ⟨⟨d.clock⟩⟩)):=by rw [Q3,g2]; rfl
  have lo:Cd Tryz.prog S2 4 (.ptr S1.next 5)=some (.v (.bool d.off)):=by rw [qG,g2]; rfl
  have kk:=k1.trans k2
  have kk2:=hk.trans kk
  have hpl:p < S.next:=Nat.lt_of_lt_of_le hp hk.1
  have hm2:S2.mem.get p=_:=(kk.2 p hpl).trans hm
  have hda:Fq d=.agg (Eu d):=rfl
  by_cases hz:d.clock=[]
  ·rw [if_pos hz] at he
   injection he with he; injection he with e1 e2
   subst e1; subst e2
   have e0:decide (d.clock=[])=true:=decide_eq_true hz
   rcases hc with ⟨rfl,rfl⟩ | ⟨hne,id,hid,hidl,rfl,hbm⟩
   ·simp only [A6,Bk,Bl,Bq,A4,Be,A7,A9,C4,By,Df,A8,Cj,B8,A5,Bc,Ba,A0,Bm,B5,ofOpt,ofOptS,Bb,Nat.reduceLT,Nat.reduceEqDiff,Aa,Ab,Ac,Ag,Ah,Aj,Ak,Am,K5,Ge,Cy,h7,hda,Cw,al,q1,iC,lc,e0,hf137]
    refine WC.mono (rev_nil S2) ?_
    rintro _ rfl
    simp only [Dk,A6,Bk,B1,A4,B4,B3,Be,A7,A9,A8,Cj,A5,Bc,Ba,A0,ofOpt,Bb,Nat.reduceLT,Nat.reduceEqDiff,Aa,Ab,Ac,h7]
    exact ⟨_,_,_,rfl,(by simp only [A0,A1,Nat.reduceEqDiff,Aa,Ab]; try rfl),by simp only [A0,A1,Nat.reduceEqDiff,Aa,Ab],.inl ⟨rfl,rfl⟩,kk2⟩
   ·have hbm2:S2.mem.get (id + 2)=_:=(kk.2 (id + 2) hidl).trans hbm
    simp only [A6,Bk,Bl,Bq,A4,Be,A7,A9,C4,By,Df,A8,Cj,B8,A5,Bc,Ba,A0,Bm,B5,ofOpt,ofOptS,Bb,Nat.reduceLT,Nat.reduceEqDiff,Aa,Ab,Ac,Ag,Ah,Aj,Ak,Am,K5,Ge,Cy,h7,hda,Cw,al,q1,iC,lc,e0,hf137]
    refine WC.mono (rev_w (id + 2) acc (by omega) S2 hbm2) ?_
    rintro _ ⟨S3,rfl,r1,r2,r3⟩
    simp only [Dk,A6,Bk,B1,A4,B4,B3,Be,A7,A9,A8,Cj,A5,Bc,Ba,A0,ofOpt,Bb,Nat.reduceLT,Nat.reduceEqDiff,Aa,Ab,Ac,h7]
    refine ⟨_,_,_,rfl,by simp only [A0,A1,Nat.reduceEqDiff,Aa,Ab]; rfl,by simp only [A0,A1,Nat.reduceEqDiff,Aa,Ab],.inr ⟨by simpa using hne,id,hid,?_,by rw [List.length_reverse],r1⟩,⟨Nat.le_trans kk2.1 r2.1,fun k hk2=>(r2.2 k (Nat.lt_of_lt_of_le hk2 kk2.1) (by omega)).trans (kk2.2 k hk2)⟩⟩
    have:=kk.1
    omega
  ·rw [if_neg hz] at he
   have e0:decide (d.clock=[])=false:=decide_eq_false hz
   by_cases hmost:acc.length=(Kq nd).length
   ·rw [if_pos hmost] at he
    injection he with he; injection he with e1 e2
    subst e1; subst e2
    have e3:((acc.length:Int) == ((Kq nd).length:Int))=true:=by rw [beq_iff_eq]; omega
    have hlc:Fw Tryz.prog S2 169 c=some acc.length:=by
     rcases hc with ⟨rfl,rfl⟩ | ⟨hne,id,hid,hidl,rfl,hbm⟩
     ·exact zT S2
     ·exact zU S2 _ _
    simp only [Dk,Bo,A6,Bk,Bl,Bq,B1,A4,B4,Bn,B3,Be,A7,A9,C4,Df,A8,Cj,B8,B6,A5,Bc,Ba,A0,Bm,B5,ofOpt,ofOptS,Bb,Bs,B9,Nat.reduceLT,Nat.reduceEqDiff,Aa,Ab,Ac,Ag,Ah,Aj,Ak,Am,K5,Ge,Cy,h6,h7,hda,Cw,al,q1,iC,lc,e0,hlc,e3]
    exact ⟨_,_,_,rfl,(by simp only [A0,A1,Nat.reduceEqDiff,Aa,Ab]; try rfl),by simp only [A0,A1,Nat.reduceEqDiff,Aa,Ab],.inl ⟨rfl,rfl⟩,kk2⟩
   ·rw [if_neg hmost] at he
    have e3:((acc.length:Int) == ((Kq nd).length:Int))=false:=by rw [beq_eq_false_iff_ne]; omega
    have hb:=bl208 d.clock d.off
    have hr:=row169_1 (d.clock,d.off)
    rcases hc with ⟨rfl,rfl⟩ | ⟨hne,id,hid,hidl,rfl,hbm⟩
    ·have hlc:=zT S2
     have e3:(((0:Nat):Int) == ((Kq nd).length:Int))=false:=e3
     have hap:=app169n S2 (d.clock,d.off)
     have gn:=Cv S2 (Fc [(d.clock,d.off)])
     have kn:=Cz S2 (Fc [(d.clock,d.off)])
     have lx:Cd Tryz.prog (S2.newBox (Fc [(d.clock,d.off)])) 9 (.ptr S1.next 4)=some (.v (.string ⟨⟨d.clock⟩⟩)):=by rw [Q3,kn.2 _ l2,g2]; rfl
     have hm3:=(kn.2 p (Nat.lt_of_lt_of_le hpl kk.1)).trans hm2
     have nx:(S2.newBox (Fc [(d.clock,d.off)])).next=S2.next + 1:=rfl
     generalize S2.newBox (Fc [(d.clock,d.off)])=S3 at hap gn kn lx hm3 nx
     simp only [Bw,Dk,Bo,A6,Bk,Bl,Bq,B1,A4,B4,Bn,B3,Be,A7,A9,C4,Df,A8,Cj,B6,A5,Bc,Ba,A0,Bm,B5,ofOpt,ofOptS,Bb,Bz,Bs,B9,Nat.reduceLT,Nat.reduceEqDiff,Aa,Ab,Ac,Ag,Ah,Aj,Ak,Am,K5,Ge,Cy,h6,h7,hda,Cw,al,q1,iC,fa54_4,lc,lo,e0,hlc,e3,hb,hr,hap,lx]
     have n2:2 ≤ S2.next:=Nat.le_trans hp2 kk2.1
     refine of_lp h hcl hl p S0 hp hp2 n d.clock [(d.clock,d.off)] _ S3 _ l ok he (by simp only [List.length_cons,List.length_nil] at hmost ha ⊢; omega) ?_ ?_ ?_ ?_ (.inr ⟨by simp,S2.next - 2,by have:=kk2.1; omega,by omega,rfl,by rw [show S2.next - 2 + 2=S2.next by omega]; exact gn⟩) hm3 (kk2.trans kn)
     ·simp only [A0,A1,Nat.reduceEqDiff,Aa,Ab]; rfl
     ·simp only [A0,A1,Nat.reduceEqDiff,Aa,Ab,h2]
     ·simp only [A0,A1,Nat.reduceEqDiff,Aa,Ab,h6]; rfl
     ·simp only [A0,A1,Nat.reduceEqDiff,Aa,Ab]; rw [show S2.next - 2 + 2=S2.next by omega]; rfl
    ·have hlc:=zU S2 (id + 2) acc.length
     have hbm2:S2.mem.get (id + 2)=_:=(kk.2 (id + 2) hidl).trans hbm
     have hap:=app169b S2 id acc (by omega) hbm2 (d.clock,d.off)
     have gn:=moved_get S2 id (Fc (acc ++ [(d.clock,d.off)]))
     have ko:∀ k,k < S2.next → k ≠ id + 2 → (S2.moved (id + 2) (Fc (acc ++ [(d.clock,d.off)]))).mem.get k=S2.mem.get k:=fun k h1 h2=>moved_old S2 id _ h1 h2
     have lx:Cd Tryz.prog (S2.moved (id + 2) (Fc (acc ++ [(d.clock,d.off)]))) 9 (.ptr S1.next 4)=some (.v (.string ⟨⟨d.clock⟩⟩)):=by
      rw [Q3,ko _ l2 (by have:=k1.1; omega),g2]; rfl
     have hm3:=(ko p (Nat.lt_of_lt_of_le hpl kk.1) (by omega)).trans hm2
     have nx:(S2.moved (id + 2) (Fc (acc ++ [(d.clock,d.off)]))).next=S2.next + 1:=rfl
     generalize S2.moved (id + 2) (Fc (acc ++ [(d.clock,d.off)]))=S3 at hap gn ko lx hm3 nx
     simp only [Bw,Dk,Bo,A6,Bk,Bl,Bq,B1,A4,B4,Bn,B3,Be,A7,A9,C4,Df,A8,Cj,B6,A5,Bc,Ba,A0,Bm,B5,ofOpt,ofOptS,Bb,Bz,Bs,B9,Nat.reduceLT,Nat.reduceEqDiff,Aa,Ab,Ac,Ag,Ah,Aj,Ak,Am,K5,Ge,Cy,h6,h7,hda,Cw,al,q1,iC,fa54_4,lc,lo,e0,hlc,e3,hb,hr,hap,lx]
     have n2:2 ≤ S2.next:=Nat.le_trans hp2 kk2.1
     refine of_lp h hcl hl p S0 hp hp2 n d.clock (acc ++ [(d.clock,d.off)]) _ S3 _ l ok he (by simp only [List.length_append,List.length_cons,List.length_nil]; omega) ?_ ?_ ?_ ?_ (.inr ⟨by simp,S2.next - 2,by have:=kk2.1; omega,by omega,rfl,by rw [show S2.next - 2 + 2=S2.next by omega]; exact gn⟩) hm3 ⟨by have:=kk2.1; omega,fun k hk2=>(ko k (Nat.lt_of_lt_of_le hk2 kk2.1) (by omega)).trans (kk2.2 k hk2)⟩
     ·simp only [A0,A1,Nat.reduceEqDiff,Aa,Ab]; rfl
     ·simp only [A0,A1,Nat.reduceEqDiff,Aa,Ab,h2]
     ·simp only [A0,A1,Nat.reduceEqDiff,Aa,Ab,h6]; rfl
     ·simp only [A0,A1,Nat.reduceEqDiff,Aa,Ab]; rw [show S2.next - 2 + 2=S2.next by omega,List.length_append]; rfl
end Go.Ax
noncomputable section
namespace Go.Ax
open Go.RowKit Go.Proofs
set_option maxRecDepth 100000
theorem of_w {v:AV} {nd:PN} (h:Gr v nd) (hl:nd.ins.length + nd.outs.length + nd.vars.length ≤ 3000) (name:List UInt8) (n:Nat) (l:List Gd) (ok:Bool) (ho:ofL (Kq nd) n name []=some (l,ok)) (S:St) (hS:2 ≤ S.next):WC E10 107 [v,Bt name] S (fun r=>∃ v' S',r=.ret (.tup [v',.v (.bool ok)]) S' ∧ OwnG S S' v' l ∧ En S S'):=by
 have hall:=fun S=>all_is h hl S
 have h0:=h
 obtain ⟨cs,rfl,hcl,_⟩:=Wl h
 refine Dv Tryz.f107 (by kernel_rfl) (by kernel_rfl) (by kernel_rfl) (by show (_:Nat) ≤ _;simp [Tryz.f107]) ?_
 obtain ⟨fn1,hf22⟩:=fnt_22
 have g1:=Cv S cs
 have k1:=Cz S cs
 have n1:(S.newBox cs).next=S.next + 1:=rfl
 generalize hS1:S.newBox cs=S1 at g1 k1 n1
 have lq:=ldU Vp N4 g1 hcl
 obtain ⟨w,hw,hrow⟩:=hall S1
 have len:=Rj S1 hrow
 have key:=fun t=>of_lp h0 hcl hl S.next S1 (by omega) (by omega) n name [] t S1 .nils l ok ho (Nat.zero_le _)
 unfold ofB at key
 simp only [Tryz.f107] at key
 simp only [A6,Bk,A4,Be,A7,A9,By,A8,A5,Bc,Ba,Ce,A0,A1,Bm,B5,ofOpt,Bb,Nat.reduceLT,Nat.reduceAdd,Nat.reduceEqDiff,Aa,Ab,Ac,Ae,Aj,Ak,K5,Tryz.f107,Ca,Cb,hS1,lq,hf22]
 refine WC.mono (i10_22 _ _ (fun r=>r=.ret w S1) hw) ?_
 rintro _ rfl
 simp only [A6,Bk,Bq,Dx,A4,Be,A7,A9,A8,Cj,A5,Bc,Ba,A0,A1,Bm,ofOpt,Bb,Nat.reduceLT,Nat.reduceEqDiff,Aa,Ab,Ac,K5,len]
 refine WX.mono (key _ ?_ ?_ ?_ ?_ (.inl ⟨rfl,rfl⟩) g1 ⟨Nat.le_refl _,fun _ _=>rfl⟩) ?_
 ·simp only [A0,A1,Nat.reduceEqDiff,Aa,Ab]; try rfl
 ·simp only [A0,A1,Nat.reduceEqDiff,Aa,Ab]
 ·simp only [A0,A1,Nat.reduceEqDiff,Aa,Ab]; rfl
 ·simp only [A0,A1,Nat.reduceEqDiff,Aa,Ab]; try rfl
 rintro _ ⟨t',S',v',rfl,h4,h5,hown,hk⟩
 simp only [B3,Bi,B0,Bg,Cs,h4,h5]
 refine ⟨_,_,rfl,?_,k1.trans hk⟩
 rcases hown with h | ⟨hne,id,a1,a2,a3,a4⟩
 ·exact .inl h
 ·exact .inr ⟨hne,id,by omega,a2,a3,a4⟩
def rowG (l:List Gd):AV:=match l with
 | []=>.nils
 | g :: r=>.sl 0 0 2 ((g :: r).map gA)
def OfOk (v:AV) (s:ByteArray) (p:PN × Nat × List Gd × Bool):Prop:=Gr v p.1 ∧ p.1.ins.length + p.1.outs.length + p.1.vars.length ≤ 3000 ∧ ofL (Kq p.1) p.2.1 s.data.toList []=some (p.2.2.1,p.2.2.2)
open Classical in
def ofI (args:List AV) (S:St):R:=match args with
 | [v,.v (.string s)]=>if h:∃ p,OfOk v s p then .ret (.tup [rowG (Classical.choose h).2.2.1,.v (.bool (Classical.choose h).2.2.2)]) S else .fail
 | _=>.fail
theorem eO (l:List Gd):∀ a ∈ Er (l.map gA),a.plain=true:=by
 rw [← Tx]
 induction l with
 | nil=>intro a ha; cases ha
 | cons g l ih =>
  intro a ha
  rcases List.mem_append.1 (show a ∈ gC g ++ Fc l from ha) with h | h
  ·simp only [gC,List.mem_cons,List.not_mem_nil,or_false] at h
   rcases h with rfl | rfl <;> rfl
  ·exact ih a h
theorem of_I (base:Nat) (w0:World) (args:List AV) (S:St) (hne:ofI args S ≠ .fail) (γ:Gh) (w:World) (vs:List Value) (hS:SR base w0 γ S w) (hg:GR γ w E10.G) (hv:VRL γ w args vs):Calls Tryz.prog 107 vs.toArray w (O7 base w0 γ S w (ofI args S)):=by
 generalize hr:ofI args S=r at hne ⊢
 unfold ofI at hr
 split at hr
 case h_2=>exact absurd hr.symm hne
 rename_i v s
 split at hr
 case isFalse=>exact absurd hr.symm hne
 rename_i hex
 have hp:=Classical.choose_spec hex
 generalize Classical.choose hex=p at hr hp
 obtain ⟨nd,n,l,ok⟩:=p
 obtain ⟨h1,h2,h3⟩:=hp
 obtain ⟨r2,⟨m0,hm⟩,v',S',rfl,hown,hk⟩:=of_w h1 h2 s.data.toList n l ok h3 S hS.pos
 have hc:=hm m0 (Nat.le_refl _)
 have:=Ng e10_ok e10_intr (Jf e10_ok e10_mix) m0 base w0 107 [v,Bt s.data.toList] S (by show ckN E10 m0 107 _ S ≠ _; rw [hc]; exact fun e=>by cases e) γ w vs hS hg hv (by kernel_rfl)
 rw [show Vl E10 (Dm E10) m0 107 [v,Bt s.data.toList] S=_ from hc] at this
 refine this.mono fun x w' hx=>?_
 subst hr
 obtain ⟨γ',y,k1,k2,k3,rfl⟩:=hx
 cases k3 with
 | tup _ xs hxl hxv =>
  have hxl:xs.length=2:=hxl
  obtain ⟨x0,x1,rfl⟩:∃ a b,xs=[a,b]:=by
   match xs,hxl with
   | [a,b],_=>exact ⟨a,b,rfl⟩
  have v0:VR γ' w' v' x0:=hxv 0 (by show 0 < 2; decide) (by show 0 < 2; decide)
  have v1:VR γ' w' (.v (.bool ok)) x1:=hxv 1 (by show 1 < 2; decide) (by show 1 < 2; decide)
  have fin:∀ {γ2:Gh},VR γ2 w' (rowG l) x0 → VR γ2 w' (.tup [rowG l,.v (.bool ok)]) (.tuple #[x0,x1]):=fun {γ2} hq=>by
   cases v1
   refine .tup [rowG l,.v (.bool ok)] [x0,_] rfl (fun k hk1 hk2=>?_)
   match k,hk1 with
   | 0,_=>exact hq
   | 1,_=>exact .v _ rfl
  rcases hown with ⟨rfl,rfl⟩ | ⟨hnl,id,a1,a2,rfl,a4⟩
  ·obtain ⟨q1,q2⟩:=hS.forget k1 k2 hk.2
   refine ⟨_,_,q1,q2,fin ?_,rfl⟩
   cases v0; exact .nils
  ·rw [Tx] at a4
   have hes:∀ e ∈ l.map gA,e.cells.length=2:=fun e he=>by
    obtain ⟨g,_,rfl⟩:=List.mem_map.1 he; rfl
   obtain ⟨b,hl,hf⟩:=VR.frozen k1 (Nat.le_add_left 2 id) a4 (by simp) hes (eO l) v0
   obtain ⟨z1,z2,_⟩:=k1.freeze (Nat.le_add_left 2 id) a4 hl
   obtain ⟨q1,q2⟩:=hS.forget z1 (k2.trans z2) (fun k hk2=>by
    rw [St.kill_get S' (id + 2) k (by omega),if_neg (by omega)]
    exact hk.2 k hk2)
   refine ⟨_,_,q1,q2,fin ?_,rfl⟩
   cases l with
   | nil=>exact absurd rfl hnl
   | cons g r=>exact hf.rowPlain2 (eO (g :: r)) (fun _ _ h=>h)
def knownI11 (k:Nat):Option (List AV → St → R):=Bool.rec (mI k) (some ofI) (Nat.beq k 107)
def E11:Env:={ P:=Tryz.prog,G:=G7,F:=E1.F,I:=knownI11,M:=yW }
theorem e11_ok:E11.Ok:=⟨fun k fn h=>Rv.fn k fn h⟩
theorem e11_mix:E11.P.follows .mixedOrders=true:=Rn
theorem e11_intr:Kw E11:=fun k g hk base w0 args S hne γ w vs hS hg hv=>by
 have hk2:(Bool.rec (mI k) (some ofI) (Nat.beq k 107):Option (List AV → St → R))=some g:=hk
 cases hb:Nat.beq k 107 with
 | true =>
  rw [hb] at hk2
  injection hk2 with hk2; subst hk2
  have:k=107:=Nat.eq_of_beq_eq_true hb
  subst this
  exact of_I base w0 args S hne γ w vs hS hg hv
 | false =>
  rw [hb] at hk2
  exact e9_intr k g hk2 base w0 args S hne γ w vs hS hg hv
theorem Fe:E11.P=Tryz.prog:=_root_.id rfl
theorem Sw:E11.G=G7:=_root_.id rfl
theorem i11_19 (args:List AV) (S:St) (Q:R → Prop) (h:Q (L6 args S)):WC E11 19 args S Q:=Ln (g:=L6) (by kernel_rfl) h
theorem declA_inj {d e:PD} (h:Fq d=Fq e):d=e:=by
 obtain ⟨a1,a2,a3,a4,a5,a6⟩:=d
 obtain ⟨b1,b2,b3,b4,b5,b6⟩:=e
 simp only [Fq,Eu,Bt,Dq,AV.agg.injEq,List.cons.injEq,AV.v.injEq,Value.string.injEq,Value.int.injEq,Value.bool.injEq,ByteArray.mk.injEq,Array.mk.injEq,Ad,Ac] at h
 obtain ⟨rfl,h2,rfl,rfl,rfl,rfl⟩:=h
 have:a2=b2:=by omega
 subst this
 rfl
theorem wZ:∀ {l m:List PD},l.map Fq=m.map Fq → l=m
 | [],[],_=>rfl
 | d :: l,e :: m,h=>by
  rw [List.map_cons,List.map_cons,List.cons.injEq] at h
  rw [declA_inj h.1,wZ h.2]
 | [],_ :: _,h=>by cases h
 | _ :: _,[],h=>by cases h
theorem aN {v:AV} {l m:List PD} (h:F2 6 Fq v l) (k:F2 6 Fq v m):l=m:=by
 rcases h with ⟨rfl,rfl⟩ | ⟨tok,off,rfl⟩
 ·rcases k with ⟨_,rfl⟩ | ⟨_,_,k⟩
  ·rfl
  ·cases k
 ·rcases k with ⟨k,_⟩ | ⟨_,_,k⟩
  ·cases k
  ·injection k with _ _ _ k
   exact wZ k
theorem isNode_uniq {v:AV} {x y:PN} (h:Gr v x) (k:Gr v y):Kq x=Kq y:=by
 obtain ⟨a,b,c,d,es,rfl,h1,h2,h3,_⟩:=h
 obtain ⟨a',b',c',d',es',e,k1,k2,k3,_⟩:=k
 simp only [Fg,AV.agg.injEq,List.cons.injEq] at e
 obtain ⟨_,_,rfl,rfl,rfl,_⟩:=e
 unfold Kq
 rw [aN h1 k1,aN h2 k2,aN h3 k3]
theorem ofL_uniq {ds:List PD}:∀ (n m:Nat) (name:List UInt8) (acc:List Gd) (x y:List Gd × Bool),ofL ds n name acc=some x → ofL ds m name acc=some y → x=y
 | 0,_,_,_,_,_,h,_=>by cases h
 | _ + 1,0,_,_,_,_,_,h=>by cases h
 | n + 1,m + 1,name,acc,x,y,h,k=>by
  unfold ofL at h k
  split at h
  ·rename_i hc
   rw [if_pos hc] at k
   injection h with h; injection k with k
   rw [← h,← k]
  ·rename_i hc
   rw [if_neg hc] at k
   split at h
   ·rename_i hm
    rw [if_pos hm] at k
    injection h with h; injection k with k
    rw [← h,← k]
   ·rename_i hm
    rw [if_neg hm] at k
    exact ofL_uniq n m _ _ x y h k
theorem i11_107 {v:AV} {nd:PN} (h:Gr v nd) (hl:nd.ins.length + nd.outs.length + nd.vars.length ≤ 3000) (name:List UInt8) (n:Nat) (l:List Gd) (ok:Bool) (ho:ofL (Kq nd) n name []=some (l,ok)) (S:St):WC E11 107 [v,Bt name] S (fun r=>r=.ret (.tup [rowG l,.v (.bool ok)]) S):=by
 refine Ln (g:=ofI) (by kernel_rfl) ?_
 have hex:∃ p,OfOk v ⟨⟨name⟩⟩ p:=⟨(nd,n,l,ok),h,hl,ho⟩
 have hs:=Classical.choose_spec hex
 have e:ofI [v,Bt name] S=.ret (.tup [rowG (Classical.choose hex).2.2.1,.v (.bool (Classical.choose hex).2.2.2)]) S:=dif_pos hex
 rw [e]
 generalize Classical.choose hex=p at hs
 obtain ⟨nd',n',l',ok'⟩:=p
 obtain ⟨g1,g2,g3⟩:=hs
 have ha:=isNode_uniq h g1
 have g3:ofL (Kq nd') n' name []=some (l',ok'):=g3
 rw [← ha] at g3
 have:=ofL_uniq n' n name [] _ _ g3 ho
 injection this with q1 q2
 rw [q1,q2]
end Go.Ax
noncomputable section
namespace Go.Ax
open Go.RowKit Go.Proofs
set_option maxRecDepth 100000
theorem fnv_71:∃ fn,E11.F 71=some fn:=Option.isSome_iff_exists.1 (by kernel_rfl)
theorem fnv_72:∃ fn,E11.F 72=some fn:=Option.isSome_iff_exists.1 (by kernel_rfl)
theorem fnv_107:∃ fn,E11.F 107=some fn:=Option.isSome_iff_exists.1 (by kernel_rfl)
theorem mL:∃ fn,E11.F 108=some fn:=Option.isSome_iff_exists.1 (by kernel_rfl)
theorem fnv_109:∃ fn,E11.F 109=some fn:=Option.isSome_iff_exists.1 (by kernel_rfl)
theorem fnv_138:∃ fn,E11.F 138=some fn:=Option.isSome_iff_exists.1 (by kernel_rfl)
theorem fnv_139:∃ fn,E11.F 139=some fn:=Option.isSome_iff_exists.1 (by kernel_rfl)
theorem fnv_140:∃ fn,E11.F 140=some fn:=Option.isSome_iff_exists.1 (by kernel_rfl)
theorem fnv_164:∃ fn,E11.F 164=some fn:=Option.isSome_iff_exists.1 (by kernel_rfl)
theorem fnv_165:∃ fn,E11.F 165=some fn:=Option.isSome_iff_exists.1 (by kernel_rfl)
theorem f208:∃ f0 f1:Field,fieldsOf Tryz.prog 208=some #[f0,f1] ∧ (f0.name = "Name" ∧ f0.type=9 ∧ f0.offset=0) ∧ f1.name = "Off" ∧ f1.type=4 ∧ f1.offset=1 :=
 ⟨_,_,rfl,⟨rfl,rfl,rfl⟩,rfl,rfl,rfl⟩
theorem a9g:Fo Tryz.prog 9=some false:=by kernel_rfl
theorem a4g:Fo Tryz.prog 4=some false:=by kernel_rfl
theorem u9g:Tryz.prog.underlying 9=some .string:=by kernel_rfl
theorem u4g:Tryz.prog.underlying 4=some .bool:=by kernel_rfl
theorem sh208:Tryz.prog.stoodInHeld 208=false:=by kernel_rfl
theorem eg208:Tryz.prog.eqGuardType Tryz.prog.depth 208=false:=by kernel_rfl
def eqG (a b:Gd):Bool:=decide (a.1=b.1) && (a.2 == b.2)
theorem neq208 (a b:Gd):Kv Tryz.prog .neq 208 (gA a) (gA b)=some (.v (.bool (!(eqG a b)))):=by
 obtain ⟨f0,f1,hf,⟨n0,t0,o0⟩,n1,t1,o1⟩:=f208
 obtain ⟨n,o⟩:=a
 obtain ⟨m,p⟩:=b
 have hfl:Yc Tryz.prog [Bt n,.v (.bool o)] [Bt m,.v (.bool p)] [f0,f1]=some (eqG (n,o) (m,p)):=by
  have hb:Kp n m=decide (n=m):=by
   rw [Kc]
   by_cases hs:n=m
   ·subst hs; simp
   ·rw [decide_eq_false hs,beq_eq_false_iff_ne]; exact hs
  simp only [Yc,n0,t0,o0,n1,t1,o1,a9g,a4g,iF,u9g,u4g,Bt,hb]
  unfold eqG
  by_cases hs:n=m
  ·subst hs
   have hbb:Kp n n=true:=by rw [hb]; simp
   cases o <;> cases p <;> simp [hbb]
  ·have hbn:Kp n m=false:=by rw [hb,decide_eq_false hs]
   cases o <;> cases p <;> simp [hs,hbn]
 simp only [Kv,gA,gC,hf,sh208,eg208,hfl,and_self,Aa]
theorem ne208 (f:T AV) (S:St) (o:Oper) (a b:Gd):Mb Tryz.prog G7 f S o .neq 208 (gA a) (gA b)=.val (.v (.bool (!(eqG a b)))) S:=by
 unfold Mb
 rw [neq208]
theorem nn208 (a b:AV):H9 Tryz.prog 208 a b=false:=by
 have u:(match Tryz.prog.underlying 208 with | some (.struct _)=>true | _=>false)=true:=by kernel_rfl
 unfold H9
 split at u
 ·rename_i fs h; rw [h]
 ·cases u
theorem fb208 (op:BinOp) (a b:Gd):Ej op (gA a) (gA b)=none:=rfl
theorem zS (S:St) {v:AV} {l:List Gd} (h:F2 2 gA v l):Fw Tryz.prog S 169 v=some l.length:=by
 rcases h with ⟨rfl,rfl⟩ | ⟨tok,off,rfl⟩ <;> simp [Fw,nD]
theorem ix169r {v:AV} {l:List Gd} (h:F2 2 gA v l) (j:Nat) (hj:j < l.length):Cm Tryz.prog 169 v (.v (.int .i64 (j:Int)))=some (.ep (gC l[j])):=by
 rcases h with ⟨rfl,rfl⟩ | ⟨tok,off,rfl⟩
 ·cases hj
 ·have h0:(0:Int) ≤ (j:Int):=by omega
  simp [Cm,h0,dX,jE,List.getElem?_map,List.getElem?_eq_getElem hj,gA,AV.cells]
theorem ldep208 (S:St) (g:Gd):Cd Tryz.prog S 208 (.ep (gC g))=some (gA g):=by
 simp [Cd,D0,ag208,jE,gA,gC]
theorem gL_refl:∀ l:List Gd,Mo (l.map gA) (l.map gA)=true
 | []=>rfl
 | g :: l=>by
  have h:=gL_refl l
  simp only [List.map_cons,Mo,h,Bool.and_true]
  simp [gA,gC,Gj,Mo,Bt,eqS,Jk]
theorem uQ {v:AV} {l:List Gd} (h:F2 2 gA v l):Gj v v=true:=by
 rcases h with ⟨rfl,_⟩ | ⟨tok,off,rfl⟩
 ·rfl
 ·simp [Gj,gL_refl]
theorem Yv (l:List Gd):F2 2 gA (rowG l) l:=by
 cases l with
 | nil=>exact .inl ⟨rfl,rfl⟩
 | cons g r=>exact .inr ⟨0,0,rfl⟩
def Mv:List Gd → List Gd → Bool
 | [],[]=>true
 | a :: l,b :: m=>eqG a b && Mv l m
 | _,_=>false
theorem uN:∀ {l m:List Gd},l.length ≠ m.length → Mv l m=false
 | [],[],h=>absurd rfl h
 | [],_ :: _,_=>rfl
 | _ :: _,[],_=>rfl
 | a :: l,b :: m,h=>by
  show (eqG a b && Mv l m)=false
  rw [uN (fun e=>h (by simp [e])),Bool.and_false]
def egB:Code:=match Tryz.f164.body with
 | some (.seq _ (.seq _ (.seq (.seq _ (.block _ (.loop b))) _)))=>b
 | _=>.skip
def LoopEg (x:Bool) (S:St) (r:O):Prop:=(x=false ∧ ∃ t',r=.out .ret ⟨t',[]⟩ S ∧ t'.get 4=some (.v (.bool false))) ∨ (x=true ∧ ∃ t',r=.out (.exit 0) ⟨t',[]⟩ S)
theorem eg_lp {v w:AV} {l m:List Gd} (hv:F2 2 gA v l) (hw:F2 2 gA w m) (hlm:l.length=m.length) (hl:l.length ≤ 1000000):∀ (n j:Nat) (t:T AV) (S:St),j + n=l.length → t.get 0=some v → t.get 1=some w → t.get 12=some (Dq l.length) → t.get 13=some (Dq j) →
  WX E11 26 (.loop egB) ⟨t,[]⟩ S (LoopEg (Mv (l.drop j) (m.drop j)) S)
 | 0,j,t,S,hj,h0,h1,h12,h13=>by
  refine Do (Dh ?_)
  have hlt:¬ ((j:Int) < (l.length:Int)):=by omega
  simp only [Dq] at h12 h13
  simp only [Bv,Bo,A6,Co,Bk,Bl,Bq,C1,A4,Ci,Be,A7,A9,A8,B6,A5,Bc,Ba,A0,ofOpt,Bs,Cu,Nat.reduceLT,Nat.reduceEqDiff,Aa,Ab,Ac,Am,Aq,Fe,egB,Tryz.f164,h12,h13,hlt]
  rw [List.drop_of_length_le (by omega),List.drop_of_length_le (by omega)]
  exact .inr ⟨rfl,_,rfl⟩
 | n + 1,j,t,S,hj,h0,h1,h12,h13=>by
  refine Do (Dh ?_)
  have hjl:j < l.length:=by omega
  have hjm:j < m.length:=by omega
  have hlt:((j:Int) < (l.length:Int)):=by omega
  have hw1:IntKind.i64.wrap ((j:Int) + 1)=((j + 1:Nat):Int):=by rw [IntKind.wrap_i64]; omega
  have x1:=ix169r hv j hjl
  have x2:=ix169r hw j hjm
  rw [List.drop_eq_getElem_cons hjl,List.drop_eq_getElem_cons hjm]
  have hs:Mv (l[j] :: l.drop (j + 1)) (m[j] :: m.drop (j + 1))=(eqG l[j] m[j] && Mv (l.drop (j + 1)) (m.drop (j + 1))):=rfl
  rw [hs]
  generalize l[j]=a at x1
  generalize m[j]=b at x2
  have e1:=ldep208 S a
  have e2:=ldep208 S b
  have nq:=fun f S' o=>ne208 f S' o a b
  simp only [Dq] at h12 h13
  cases hab:eqG a b
  ·rw [hab] at nq
   simp only [Bv,Bo,A6,Co,Bk,Bl,Bq,C1,A4,Ci,Be,A7,A9,A8,B8,A5,Bc,Ba,A0,ofOpt,Bs,Cu,Nat.reduceLT,Nat.reduceEqDiff,Aa,Ab,Ac,Am,Ap,Fe,egB,Tryz.f164,h12,h13,hlt]
   refine Fv [(0,true),(1,true),(2,true),(3,true),(4,true),(5,true),(6,true),(7,true),(8,true)] (by kernel_rfl) (by kernel_rfl) ?_
   simp only [Dk,Bo,A6,Bk,Bl,B1,A4,B4,Bn,B3,Be,A7,A9,A8,B8,A5,Bc,Ba,A0,ofOpt,Bb,Bs,Nat.reduceLT,Nat.reduceEqDiff,Aa,Ab,Ac,Af,Ag,Ah,Am,Au,Fe,Sw,h0,h1,x1,x2,e1,e2,nn208,fb208,nq,D9,Dr,Ct,B7,Dj,F4]
   exact .inl ⟨rfl,_,rfl,by simp only [A0,A1,Nat.reduceEqDiff,Aa,Ab]⟩
  ·rw [hab] at nq
   simp only [Bv,Bo,A6,Co,Bk,Bl,Bq,C1,A4,Ci,Be,A7,A9,A8,B8,A5,Bc,Ba,A0,ofOpt,Bs,Cu,Nat.reduceLT,Nat.reduceEqDiff,Aa,Ab,Ac,Am,Ap,Fe,egB,Tryz.f164,h12,h13,hlt]
   refine Fv [(0,true),(1,true),(2,true),(3,true),(4,true),(5,true),(6,true),(7,true),(8,true)] (by kernel_rfl) (by kernel_rfl) ?_
   simp only [Bw,Dk,Bo,A6,Bk,Bl,B1,A4,B4,Bn,B3,Be,A7,A9,A8,B6,A5,Bc,Ba,A0,ofOpt,Bb,Bs,Dg,Nat.reduceLT,Nat.reduceEqDiff,Aa,Ab,Ac,Af,Ag,Ah,Am,Ar,Fe,Sw,h0,h1,h13,x1,x2,e1,e2,nn208,fb208,nq,hw1,D9,Dr,Ct,B7,Dj,F4]
   rw [Bool.true_and]
   refine eg_lp hv hw hlm hl n (j + 1) _ S (by omega) ?_ ?_ ?_ ?_
   ·simp only [A0,A1,Nat.reduceEqDiff,Aa,Ab,h0]
   ·simp only [A0,A1,Nat.reduceEqDiff,Aa,Ab,h1]
   ·simp only [A0,A1,Nat.reduceEqDiff,Aa,Ab,h12]; rfl
   ·simp only [A0,A1,Nat.reduceEqDiff,Aa,Ab]; rfl
theorem equal_w {v w:AV} {l m:List Gd} (hv:F2 2 gA v l) (hw:F2 2 gA w m) (hl:l.length ≤ 1000000) (hm:m.length ≤ 1000000) (S:St):WC E11 164 [v,w] S (fun r=>r=.ret (.v (.bool (Mv l m))) S):=by
 refine Dv Tryz.f164 (by kernel_rfl) (by kernel_rfl) (by kernel_rfl) (by show (_:Nat) ≤ _;simp [Tryz.f164]) ?_
 have l1:=zS S hv
 have l2:=zS S hw
 by_cases hlm:l.length=m.length
 ·have e0:((l.length:Int) != (m.length:Int))=false:=by rw [bne_eq_false_iff_eq]; omega
  have key:=fun t=>eg_lp hv hw hlm hl l.length 0 t S (by omega)
  unfold egB at key
  simp only [Tryz.f164] at key
  simp only [Bo,A6,Bk,Bl,Bq,Dx,B1,A4,B4,Be,A7,A9,A8,B6,A5,Bc,Ba,Ce,A0,A1,Bm,ofOpt,Bb,Bs,Bi,B0,Bg,Cs,Di,Nat.reduceLT,Nat.reduceAdd,Nat.reduceEqDiff,Aa,Ab,Ac,Ae,Am,Fe,Tryz.f164,l1,l2,e0]
  refine WX.mono (key _ ?_ ?_ ?_ ?_) ?_
  ·simp only [A0,A1,Nat.reduceEqDiff,Aa,Ab]
  ·simp only [A0,A1,Nat.reduceEqDiff,Aa,Ab]
  ·simp only [A0,A1,Nat.reduceEqDiff,Aa,Ab]; rfl
  ·simp only [A0,A1,Nat.reduceEqDiff,Aa,Ab]; rfl
  rw [List.drop_zero,List.drop_zero]
  rintro r (⟨hx,t',rfl,h4⟩ | ⟨hx,t',rfl⟩)
  ·rw [hx]
   simp only [B4,B3,Bi,B0,Bg,Cs,h4]
  ·rw [hx]
   simp only [A6,Bk,B1,A4,Ci,Da,Be,A7,A9,A8,A5,Bc,Ba,A0,ofOpt,Bb,Bi,B0,Bg,Cs,Nat.reduceLT,Aa,Ad]
 ·have e0:((l.length:Int) != (m.length:Int))=true:=by rw [bne_iff_ne]; omega
  rw [uN hlm]
  simp only [Bo,A6,Bk,Bl,Bq,Dx,B1,A4,B4,Be,A7,A9,A8,B8,A5,Bc,Ba,Ce,A0,A1,Bm,ofOpt,Bb,Bs,Bi,B0,Bg,Cs,Di,Nat.reduceLT,Nat.reduceAdd,Nat.reduceEqDiff,Aa,Ab,Ac,Ad,Ae,Am,Fe,Tryz.f164,l1,l2,e0]
theorem yU {v w:AV} {l m:List Gd} (hv:F2 2 gA v l) (hw:F2 2 gA w m) (hl:l.length ≤ 1000000) (hm:m.length ≤ 1000000) (S:St):WC E11 139 [v,w] S (fun r=>r=.ret (.v (.bool (Mv l m))) S):=by
 refine Dv Tryz.f139 (by kernel_rfl) (by kernel_rfl) (by kernel_rfl) (by show (_:Nat) ≤ _;simp [Tryz.f139]) ?_
 obtain ⟨fn1,hf164⟩:=fnv_164
 simp only [A6,Bk,A4,Be,A7,A9,By,A8,A5,Bc,Ba,Ce,A0,A1,Bm,B5,ofOpt,Bb,Nat.reduceLT,Nat.reduceAdd,Nat.reduceEqDiff,Aa,Ab,Ac,Ae,Aj,Ak,Tryz.f139,hf164]
 refine WC.mono (equal_w hv hw hl hm S) ?_
 rintro _ rfl
 simp only [B1,A4,Be,A7,A9,A8,Cj,A5,Bc,Ba,A0,A1,ofOpt,Bi,B0,Bg,Cs,Nat.reduceLT,Nat.reduceEqDiff,Aa,Ab,Ad]
theorem sl3_169 {v:AV} {l:List Gd} (h:F2 2 gA v l):∃ u,Y1 Tryz.prog 169 v (.v (.int .i64 (l.length:Int))) (.v (.int .i64 (l.length:Int)))=some u ∧ (u=.nils ∧ l=[] ∨ u=.sl 1 0 2 (l.map gA)):=by
 rcases h with ⟨rfl,rfl⟩ | ⟨tok,off,rfl⟩
 ·exact ⟨.nils,by simp [Y1,dX,jE,Jl],.inl ⟨rfl,rfl⟩⟩
 ·refine ⟨.sl 1 0 2 (l.map gA),?_,.inr rfl⟩
  have h0:(0:Int) ≤ (l.length:Int):=by omega
  have e2:(l.map gA).take l.length=l.map gA:=List.take_of_length_le (by simp)
  simp [Y1,dX,jE,Jl,h0,e2]
theorem appOn {u:AV} {l:List Gd} (hu:u=.nils ∧ l=[] ∨ u=.sl 1 0 2 (l.map gA)) (hl:l.length ≤ 1000000) (S:St) (g:Gd):∃ v' S',Gw E11 S 169 169 u (.sl 1 0 2 [gA g])=some (v',S') ∧ F2 2 gA v' (l ++ [g]) ∧ En S S':=by
 obtain ⟨i,hi,hz0,hz1,hz2⟩:=Hb i208
 have e:Gw E11 S 169 169 u (.sl 1 0 2 [gA g])=Fh Tryz.prog S 169 169 u (.sl 1 0 2 [gA g]):=rfl
 rw [e]
 have h2:(l.length + 1) * 24 ≤ 140737488355328:=by omega
 have h3:l.length + 1 ≤ 9223372036854775807:=by omega
 rcases hu with ⟨rfl,rfl⟩ | rfl
 ·refine ⟨.sl S.next 0 2 [gA g],S.grown 1 2,?_,.inr ⟨_,_,rfl⟩,Tp S 2⟩
  simp [Fh,dX,hi,hz0,hz1,hz2,Mr,nD,Value.cells]
 ·refine ⟨.sl S.next 0 2 ((l ++ [g]).map gA),S.grown 1 ((l.length + 1) * 2),?_,.inr ⟨_,_,rfl⟩,Tp S _⟩
  simp [Fh,dX,hi,hz0,hz1,hz2,Mr,nD,Value.cells,h2,h3,Px]
theorem on_gw {v:AV} {l:List Gd} (hv:F2 2 gA v l) (hl:l.length ≤ 1000000) (n:List UInt8) (o:Bool) (S:St):WC E11 165 [v,Bt n,.v (.bool o)] S (fun r=>∃ v' S',r=.ret v' S' ∧ F2 2 gA v' (l ++ [(n,o)]) ∧ En S S'):=by
 refine Dv Tryz.f165 (by kernel_rfl) (by kernel_rfl) (by kernel_rfl) (by show (_:Nat) ≤ _;simp [Tryz.f165]) ?_
 have l1:=zS S hv
 obtain ⟨u,hs,hu⟩:=sl3_169 hv
 obtain ⟨v',S',ha,hr,hk⟩:=appOn hu hl S (n,o)
 have hb:Gc Tryz.prog 208 [(0,Bt n),(1,.v (.bool o))]=some (gA (n,o)):=bl208 n o
 have hr1:=row169_1 (n,o)
 simp only [A6,Bk,B1,A4,Be,A7,A9,A8,A5,Bc,Ba,Ce,A0,A1,Bm,ofOpt,ofOptS,Bb,Bz,Bi,B0,Bg,Cs,Nat.reduceLT,Nat.reduceAdd,Nat.reduceEqDiff,Aa,Ab,Ac,Ae,Fe,Tryz.f165,l1,lI,hs,hb,hr1,ha]
 exact ⟨_,_,rfl,hr,hk⟩
end Go.Ax
