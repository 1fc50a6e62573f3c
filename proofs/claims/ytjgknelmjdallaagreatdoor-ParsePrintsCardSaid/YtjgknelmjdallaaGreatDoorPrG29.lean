/- Bp -/
import Derived.Test.YtjgknelmjdallaaGreatDoorPrG28
import Derived.Test.YtjgknelmjdallaaGreatDoorPrG24
import Derived.Test.YtjgknelmjdallaaGreatDoorPrG25
import Derived.Test.YtjgknelmjdallaaGreatDoorPrG21
import Derived.Test.YtjgknelmjdallaaGreatDoorPrG26
import Derived.Test.YtjgknelmjdallaaGreatDoorPrG12
import Derived.Lib.LaidTab
set_option linter.unusedVariables false
set_option linter.unusedSimpArgs false
noncomputable section
namespace Go.Ax
open Go.RowKit Go.Proofs
set_option maxRecDepth 100000
theorem aH {l:List (List UInt8 × Nat)} (h:mM l) {r:List UInt8} {vs:List TK} (hf:Fol r) (hr:SpT r vs):SpT (Kq l ++ r) (Hm l ++ vs):=by
 match l,h with
 | [x],h =>
  have e:Kq [x]=x.1:=by
   unfold Kq
   rw [if_neg (by simp)]
   exact Lib.join_one _ _
  rw [e]
  exact Pv (h.2 x (by simp)) hf hr
 | x :: y :: q,h =>
  have e:Kq (x :: y :: q) ++ r=40 :: (Lib.join ((x :: y :: q).map (·.1)) [44,32] ++ 41 :: r):=by
   unfold Kq
   rw [if_pos (by simp)]
   simp
  have e2:Hm (x :: y :: q)=Ft (G9 P6 (x :: y :: q)):=by unfold Hm; rw [if_pos (by simp)]
  rw [e,e2]
  exact Rx (T:=fun x=>x.1) (J:=P6) (x :: y :: q) (fun z hz r vs hf hr=>Pv (h.2 z hz) hf hr) hr
def eqL8 (q:PQ):List UInt8:=32 :: 32 :: (eqT q ++ [59,10])
theorem spelt_eq {q:PQ} (h:Re q) {r:List UInt8} {vs:List TK} (hr:SpT r vs):SpT (eqL8 q ++ r) (eqJ q ++ vs):=by
 have hend:SpT (59 :: 10 :: r) (sg [59] :: vs):=K6 (s:=[59]) (by decide) (.nl _ _ hr)
 have he:=(vY h.2.1).1 (59 :: 10 :: r) (sg [59] :: vs) (V5 rfl) hend
 have ej:eqJ q ++ vs=Hm q.left ++ sg [61] :: (T7 q ++ sg [59] :: vs):=by unfold eqJ; simp
 rw [ej]
 unfold eqL8 eqT T7
 refine .blank _ _ (.blank _ _ ?_)
 by_cases ha:q.async=true
 ·rw [if_pos ha,if_pos ha]
  have e:((((Kq q.left ++ [32,61,32]) ++ [97,115,121,110,99,32]) ++ Fz q.e) ++ [59,10]) ++ r=Kq q.left ++ (32 :: ([61] ++ 32 :: (Pp ++ 32 :: (Fz q.e ++ 59 :: 10 :: r)))):=by simp
  have goal:=aH h.1 (Qf _) (.blank _ _ (wA (s:=[61]) (by decide) (Kx (w:=Pp) (by decide) he)))
  rw [← e] at goal
  exact goal
 ·rw [if_neg ha,if_neg ha]
  have e:(((Kq q.left ++ [32,61,32]) ++ Fz q.e) ++ [59,10]) ++ r=Kq q.left ++ (32 :: ([61] ++ 32 :: (Fz q.e ++ 59 :: 10 :: r))):=by simp
  have goal:=aH h.1 (Qf _) (.blank _ _ (wA (s:=[61]) (by decide) he))
  rw [← e] at goal
  exact goal
def eO:List PQ → List UInt8
 | []=>[]
 | q :: l=>eqL8 q ++ eO l
theorem fH:∀ (l:List PQ),(∀ q ∈ l,Re q) → ∀ {r:List UInt8} {vs:List TK},SpT r vs → SpT (eO l ++ r) (Xr l ++ vs)
 | [],_,r,vs,h=>h
 | q :: l,he,r,vs,h=>by
  show SpT ((eqL8 q ++ eO l) ++ r) ((eqJ q ++ Xr l) ++ vs)
  rw [List.append_assoc,List.append_assoc]
  exact spelt_eq (he q (List.mem_cons_self ..)) (fH l (fun x hx=>he x (List.mem_cons_of_mem _ hx)) h)
def Pi:List PD → List UInt8
 | []=>[]
 | d :: l=>32 :: (G4 d ++ 59 :: Pi l)
theorem Yb:∀ (l:List PD),(∀ d ∈ l,Jr d) → ∀ {r:List UInt8} {vs:List TK},SpT r vs → SpT (Pi l ++ 10 :: r) (K5 l ++ vs)
 | [],_,r,vs,h=>.nl _ _ h
 | d :: l,he,r,vs,h=>by
  have ih:=Yb l (fun x hx=>he x (List.mem_cons_of_mem _ hx)) h
  have e1:Pi (d :: l) ++ 10 :: r=32 :: (G4 d ++ 59 :: (Pi l ++ 10 :: r)):=by
   show 32 :: (G4 d ++ 59 :: Pi l) ++ 10 :: r=_
   simp
  have e2:K5 (d :: l) ++ vs=Gp d ++ sg [59] :: (K5 l ++ vs):=by
   show (Gp d ++ sg [59] :: K5 l) ++ vs=_
   simp
  rw [e1,e2]
  exact .blank _ _ (kC (he d (List.mem_cons_self ..)) _ _ (V5 rfl) (K6 (s:=[59]) (by decide) ih))
theorem join_vars (d:PD):∀ l:List PD,[32] ++ (Jb (d :: l) [59,32] ++ [59,10])=Pi (d :: l) ++ [10]:=by
 intro l
 induction l generalizing d with
 | nil =>
  have e:Jb [d] [59,32]=G4 d:=Lib.join_one _ _
  rw [e]
  show _=32 :: (G4 d ++ 59 :: []) ++ [10]
  simp
 | cons b l ih =>
  have e2:Jb (d :: b :: l) [59,32]=G4 d ++ ([59,32] ++ Jb (b :: l) [59,32]):=by
   unfold Jb
   simp [Lib.join]
  rw [e2]
  have:=ih b
  show _=32 :: (G4 d ++ 59 :: Pi (b :: l)) ++ [10]
  have e3:32 :: (G4 d ++ 59 :: Pi (b :: l)) ++ [10]=32 :: (G4 d ++ 59 :: (Pi (b :: l) ++ [10])):=by simp
  rw [e3,← this]
  simp
def Ub (l:List PD):List UInt8:=if 0 < l.length then ([118,97,114,32] ++ Jb l [59,32]) ++ [59,10] else []
theorem sE (l:List PD) (he:∀ d ∈ l,Jr d) {r:List UInt8} {vs:List TK} (h:SpT r vs):SpT (Ub l ++ r) (O8 l ++ vs):=by
 cases l with
 | nil=>exact h
 | cons d l =>
  have e1:Ub (d :: l) ++ r=[118,97,114] ++ (Pi (d :: l) ++ 10 :: r):=by
   unfold Ub
   rw [if_pos (by simp)]
   have e:=join_vars d l
   have e4:(([118,97,114,32] ++ Jb (d :: l) [59,32]) ++ [59,10]) ++ r=[118,97,114] ++ (([32] ++ (Jb (d :: l) [59,32] ++ [59,10])) ++ r):=by simp
   rw [e4,e]
   simp
  have e2:O8 (d :: l) ++ vs=kw [118,97,114] :: (K5 (d :: l) ++ vs):=by unfold O8; rw [if_neg (by simp)]; rfl
  rw [e1,e2]
  exact aK (w:=[118,97,114]) (by decide) (Qf _) (Yb (d :: l) he h)
def Xe (n:PN):List UInt8:=[110,111,100,101,32] ++ (n.name ++ ([40] ++ (Jb n.ins [44,32] ++ ([41,32,114,101,116,117,114,110,115,32,40] ++ (Jb n.outs [44,32] ++ ([41,10] ++ (Ub n.vars ++ ([108,101,116,10] ++ (eO n.eqs ++ [116,101,108,10])))))))))
theorem sG {n:PN} (h:GoodNode n) {r:List UInt8} {vs:List TK} (hr:SpT r vs):SpT (Xe n ++ r) (Rk n ++ vs):=by
 have h9:SpT ([116,101,108] ++ 10 :: r) (kw [116,101,108] :: vs):=aK (w:=[116,101,108]) (by decide) (V5 rfl) (.nl _ _ hr)
 have h8:=fH n.eqs h.eqs h9
 have h7:SpT ([108,101,116] ++ 10 :: (eO n.eqs ++ ([116,101,108] ++ 10 :: r))) (kw [108,101,116] :: (Xr n.eqs ++ kw [116,101,108] :: vs)):=aK (w:=[108,101,116]) (by decide) (V5 rfl) (.nl _ _ h8)
 have h6:=sE n.vars h.vars h7
 have h5:=Rx (T:=G4) (J:=Gp) n.outs (fun d hd=>kC (h.outs d hd).1) (.nl _ _ h6)
 have h4:SpT ([114,101,116,117,114,110,115] ++ 32 :: _) (kw [114,101,116,117,114,110,115] :: _):=Kx (w:=[114,101,116,117,114,110,115]) (by decide) h5
 have h3:=Rx (T:=G4) (J:=Gp) n.ins (fun d hd=>kC (h.ins d hd).1) (.blank _ _ h4)
 have h2:SpT (n.name ++ _) (nm n.name :: _):=Pv h.name (fol_l _) h3
 have h1:SpT ([110,111,100,101] ++ 32 :: _) (kw [110,111,100,101] :: _):=Kx (w:=[110,111,100,101]) (by decide) h2
 have ej:Rk n ++ vs=kw [110,111,100,101] :: nm n.name :: (Ft (G9 Gp n.ins) ++ (kw [114,101,116,117,114,110,115] :: (Ft (G9 Gp n.outs) ++ (O8 n.vars ++ (kw [108,101,116] :: (Xr n.eqs ++ (kw [116,101,108] :: vs))))))):=by
  unfold Rk; simp
 have et:Xe n ++ r=[110,111,100,101] ++ 32 :: (n.name ++ 40 :: (Lib.join (n.ins.map G4) [44,32] ++ 41 :: 32 :: ([114,101,116,117,114,110,115] ++ 32 :: 40 :: (Lib.join (n.outs.map G4) [44,32] ++ 41 :: 10 :: (Ub n.vars ++ ([108,101,116] ++ 10 :: (eO n.eqs ++ ([116,101,108] ++ 10 :: r)))))))):=by
  unfold Xe Jb; simp
 rw [ej,et]
 exact h1
def sS:List PN → List UInt8
 | []=>[]
 | n :: l=>Xe n ++ sS l
theorem aG:∀ (l:List PN),(∀ x ∈ l,GoodNode x) → SpT (sS l) (gD l)
 | [],_=>.fin
 | n :: l,h=>sG (h n (List.mem_cons_self ..)) (aG l (fun x hx=>h x (List.mem_cons_of_mem _ hx)))
theorem qR:∀ (l:List ByteArray),(Ld l).data.toList=(l.map fun b=>b.data.toList).flatten:=by
 have key:∀ (l:List ByteArray) (a:ByteArray),(l.foldl (· ++ ·) a).data.toList=a.data.toList ++ (l.map fun b=>b.data.toList).flatten:=by
  intro l
  induction l with
  | nil=>intro a; simp
  | cons b l ih=>intro a; rw [List.foldl_cons,ih]; simp
 intro l
 unfold Ld
 rw [key]; rfl
theorem node_list (n:PN):(Iv 0 (Mk n)).data.toList=Xe n:=by
 have hq:(Ld (n.eqs.map (eqL 0))).data.toList=eO n.eqs:=by
  rw [qR]
  generalize n.eqs=l
  induction l with
  | nil=>rfl
  | cons q l ih =>
   simp only [List.map_cons,List.flatten_cons]
   rw [ih]
   show ((eqL 0 q).data.toList) ++ eO l=eqL8 q ++ eO l
   congr 1
 have hv:(Ru (Mk n)).data.toList=Ub n.vars:=by
  unfold Ru Ub dS Mk
  split <;> simp
 unfold Iv Lk Xe
 simp only [ByteArray.data_append,Array.toList_append,hv]
 have hq':(Ld (List.map (eqL 0) (Mk n).eqs)).data.toList=eO n.eqs:=hq
 rw [hq']
 unfold dS Mk
 simp
theorem prog_list (l:List PN):(Mi l).data.toList=sS l:=by
 unfold Mi Uj
 rw [qR]
 induction l with
 | nil=>rfl
 | cons n l ih =>
  simp only [List.map_cons,List.flatten_cons]
  rw [ih,node_list]; rfl
end Go.Ax
noncomputable section
namespace Go.Ax
open Go.RowKit Go.Proofs
set_option maxRecDepth 100000
theorem reread {l:List UInt8} {ts:List Tk} (hlx:Jz l=some (.inr ts)) {ns:List PN} (hr:J6 70000 (.inr ts)=some (.inl ns)) (h4:(Mi ns).data.toList.length ≤ 4000):∃ us ms,Jz (Mi ns).data.toList=some (.inr us) ∧ J6 70000 (.inr us)=some (.inl ms) ∧ Each2 Qn ns ms:=by
 obtain ⟨j0,hp0,_,_⟩:=sN hlx hr
 obtain ⟨hne,hg⟩:=program_g (lex_names hlx) 70000 0 ns j0 hp0
 rw [prog_list] at h4 ⊢
 obtain ⟨us,hu,hs⟩:=sp_lex (aG ns hg) h4
 obtain ⟨ms,j,hl,hk,N,hN⟩:=sR hne hg hs
 refine ⟨us,ms,hu,?_,hl⟩
 have hok:=(read_s hu).1
 have hno:Eh us 70000 0 ≠ .out:=fun e=>hok (by unfold J6; simp only [e])
 have h1:=dZ (Nat.le_max_right N 70000) 0 hno
 rw [hN _ (Nat.le_max_left N 70000)] at h1
 unfold J6
 simp only [← h1]
 rw [if_pos hk]
end Go.Ax
noncomputable section
namespace Go.Ax
open Go.RowKit Go.Proofs
set_option maxRecDepth 100000
noncomputable def sU:Code:=match Tryz.f4.body with
 | some (.seq _ (.seq _ (.seq _ r)))=>r
 | _=>.skip
def EndsR (r:O):Prop:=∃ f' S',r=.out .ret ⟨f',[]⟩ S' ∧ f'.get 2=some (.v (.bool true))
set_option maxHeartbeats 16000000 in
theorem pr_rest (s:List UInt8) (hs:s.length ≤ 1500) (out:(Nat × Nat) ⊕ List Tk) (hlx:Jz s=some out) (S:St) (t:T AV) (h0:t.get 0=some (.v (.string ⟨⟨s⟩⟩))):W E7 42 sU ⟨t,[]⟩ S EndsR:=by
 obtain ⟨fn1,hf1⟩:=fn7_19
 obtain ⟨fn2,hf2⟩:=fn7_20
 simp only [A8,Bj,A9,Bo,B6,Bn,A4,Bd,Bc,A0,Bm,Bz,ofOpt,Nat.reduceLT,Aa,Ac,Aj,Ak,sU,h0,Tryz.f4,hf1]
 refine xW _ _ _ ?_
 have hpc:Lt [.v (.string ⟨⟨s⟩⟩)] S=Lt [Cj s] S:=rfl
 rw [hpc]
 rcases Zf (l:=s) (by omega) hlx S with ⟨ns,v,hr,hp,hi⟩ | ⟨y,hr,hp⟩
 ·rw [hp]
  cases out with
  | inl x=>cases hr
  | inr ts =>
  have q1:=Rq (Do S (Dl 0 0)) rfl (rfl:(Dl 0 0).length=2)
  have q2:=I6 (S.newBox (Dl 0 0)) S.next (Dl 0 0) rfl
  generalize hS1:(S.newBox (Dl 0 0)).put S.next (Dl 0 0)=S1 at q1 q2
  simp only [Br,A8,Bj,Bp,A6,Bl,A9,Bo,F4,B6,Gj,Bn,Cz,Dh,A4,Bd,Bc,A0,Bm,Bz,ofOpt,ofOptS,Bs,Nat.reduceLT,Nat.reduceEqDiff,Aa,Ab,Ac,Ag,Ah,Aj,Ak,Am,Tp,uQ,nn33,fb33,h0,q1,q2,hf2,Ss,bd33,B8,eq7nz]
  have htl:ts.length ≤ 1501:=by have:=Xg hlx; omega
  obtain ⟨j,hpj,hnf,hnl⟩:=sN hlx hr
  have hat:=lD hlx
  have hj:j < ts.length:=((W7 (Tf hlx).1 hat 70000 (by omega) (by omega) (Tf hlx).2).2 ns j hpj).1
  have hok1:Ph v ns:=⟨hi,fun n hn=>(hnf n hn).mono (by omega),by omega⟩
  refine xV hok1 _ _ ?_
  generalize hTT:Mi ns=TT
  rcases TT with ⟨⟨TL⟩⟩
  by_cases hbig:4000 < TL.length
  ·have hd:decide ((TL.length:Int) > 4000)=true:=decide_eq_true (by omega)
   simp only [Br,A8,Bj,Bp,By,A6,Ff,Cb,Gg,Bl,A9,Bo,B6,Bn,Cz,C6,A4,Bd,Bc,A0,Bm,Bz,ofOpt,Be,B5,Dr,Nat.reduceLT,Nat.reduceEqDiff,Aa,Ab,Ac,Aj,Ak,Am,Tp,wV,hd,hf1]
   exact ⟨_,_,rfl,by simp only [A0,Nat.reduceEqDiff,Ab,Aa]⟩
  ·have hd:decide ((TL.length:Int) > 4000)=false:=decide_eq_false (by omega)
   simp only [Br,A8,Bj,Bp,By,A6,Ff,Cb,Gg,Bl,A9,Bo,B6,Bn,Cz,Dh,A4,Bd,Bc,A0,Bm,Bz,ofOpt,Be,B5,Dr,Nat.reduceLT,Nat.reduceEqDiff,Aa,Ab,Ac,Aj,Ak,Am,Tp,wV,hd,hf1]
   refine xW _ _ _ ?_
   have hlen:(Mi ns).data.toList.length ≤ 4000:=by
    rw [hTT]; show TL.length ≤ 4000; omega
   obtain ⟨us,ms,hu1,hm1,hm2⟩:=reread hlx hr hlen
   rw [hTT] at hu1 hlen
   change Jz TL=some (.inr us) at hu1
   change TL.length ≤ 4000 at hlen
   have hpc2:∀ S',Lt [.v (.string ⟨⟨TL⟩⟩)] S' = Lt [Cj TL] S':=fun S'=>rfl
   rw [hpc2]
   rcases Zf (l:=TL) (by omega) hu1 S1 with ⟨ns2,v2,hr2,hp2,hi2⟩ | ⟨y,hr2,hp2⟩
   ·rw [hp2]
    have he:ns2=ms:=by rw [hm1] at hr2; injection hr2 with hr2; injection hr2 with hr2; exact hr2.symm
    subst he
    have hok2:Ph v2 ns2:=⟨hi2,fun n hn=>by
     obtain ⟨a,ha,hl⟩:=hm2.mem n hn
     exact gN hl (hok1.2.1 a ha),by rw [← hm2.len]; exact hok1.2.2⟩
    have q5:=Rq (Do S1 (Dl 0 0)) rfl (rfl:(Dl 0 0).length=2)
    have q6:=I6 (S1.newBox (Dl 0 0)) S1.next (Dl 0 0) rfl
    generalize hS3:(S1.newBox (Dl 0 0)).put S1.next (Dl 0 0)=S3 at q5 q6
    simp only [A8,Bj,A6,Bl,A9,Bo,F4,B6,Gj,Bn,Cz,A4,Bd,Bc,A0,Bm,Bz,ofOpt,ofOptS,Bs,Nat.reduceLT,Nat.reduceEqDiff,Aa,Ab,Ac,Af,Ag,Ah,Ai,Aj,Ak,Al,Am,Tp,uQ,nn33,fbe33,q5,q6,hf2,Ss,bd33,B8,eq7ez]
    refine xV hok2 _ _ ?_
    rw [← bC hm2,hTT]
    simp only [By,A6,Bl,A9,Bo,Bn,Cz,A4,Bd,Bc,A0,ofOpt,Nat.reduceLT,Nat.reduceEqDiff,Aa,Ab,Ac,Af,Ag,Ah,Ai,Al,Am,Dg,Tp,yO]
    exact ⟨_,_,rfl,by simp only [A0,Nat.reduceEqDiff,Ab,Aa]⟩
   ·rw [hm1] at hr2; injection hr2 with hr2; cases hr2
 ·rw [hp]
  have hy:=fZ hr (fun x hx=>cA (by rw [hlx,hx]))
  have q1:=Rq (Do S (Dl 0 0)) rfl (rfl:(Dl y.1 y.2).length=2)
  have q2:=I6 (S.newBox (Dl 0 0)) S.next (Dl y.1 y.2) rfl
  generalize hS1:(S.newBox (Dl 0 0)).put S.next (Dl y.1 y.2)=S1 at q1 q2
  have e33:=fun f S o=>eq7n f S o y.1 y.2
  have hb:(!(((y.1:Nat):Int) == 0 && (((y.2:Nat):Int) == 0 && true)))=true:=by
   have:(((y.2:Nat):Int) == 0)=false:=by rw [beq_eq_false_iff_ne]; omega
   rw [this]; simp
  rw [hb] at e33
  have e00:(((0:Nat):Int) == 0)=true:=rfl
  simp only [Br,A8,Bj,Bp,By,A6,Cb,Bl,A9,Bo,F4,B6,Gj,Bn,Cz,C6,A4,Bd,Bc,A0,Bm,Bz,ofOpt,ofOptS,Be,Bs,B5,Ci,Nat.reduceLT,Nat.reduceEqDiff,Aa,Ab,Ac,Ag,Ah,Aj,Ak,Am,Tp,uQ,nn33,fb33,h0,q1,q2,e33,len40n,e00,Ss,bd33,B8]
  exact ⟨_,_,rfl,by simp only [A0,Nat.reduceEqDiff,Ab,Aa]⟩
end Go.Ax
noncomputable section
namespace Go.Ax
open Go.RowKit Go.Proofs
set_option maxRecDepth 100000
def puI0 (args:List AV):Option AV:=match args with
 | [.v (.string s),.v (.int .i64 10),.v (.int .i64 64)]=>if s.data.toList ≠ [] ∧ s.data.toList.all Tq=true ∧ H9 0 s.data.toList < 18446744073709551616 ∧ s.size ≤ 9223372036854775806 then some (.tup [.v (.int .u64 (H9 0 s.data.toList)),.v .nilIface]) else none
 | _=>none
def E0:Env:={ P:=Tryz.prog,G:=fun _=>none,F:=E1.F,I:=fun k=>Bool.rec (Bool.rec none (some (Rl 6)) (Nat.beq k 94)) (some (F3 puI0)) (Nat.beq k 133),M:=rowM }
theorem e0_ok:E0.Ok:=⟨fun k fn h=>T3.fn k fn h⟩
theorem e0_mix:E0.P.follows .mixedOrders=true:=Ur
theorem puI0_ok:∀ args a,puI0 args=some a → ∀ γ w (vs:List Value),VRL γ w args vs → Calls Tryz.prog 133 vs.toArray w fun e w'=>Below w.heap.size w w' ∧ ∃ v,e=.returned v ∧ ∀ γ w,VR γ w a v:=by
 intro args a h γ w vs hv
 unfold puI0 at h
 split at h
 ·rename_i s
  split at h
  ·rename_i hc
   obtain ⟨h0,h1,h2,h3⟩:=hc
   injection h with h; subst h
   obtain ⟨x,y,z,rfl,hx,hy,hz⟩:=hv.three
   cases hx; cases hy; cases hz
   refine (Tryz.strconv_ParseUint_10_at64_ok s h3 _ (oO h0 h1 h2) w).mono fun e w' he=>⟨?_,_,he.1,fun γ w=>?_⟩
   ·rcases he.2 with rfl | rfl
    ·exact .refl _ _
    ·exact Lib.bytesWorld_below _ _ _
   ·exact .tup _ _ rfl (fun k hk hk'=>by
     match k,hk with
     | 0,_=>exact .v _ rfl
     | 1,_=>exact .v _ rfl)
  ·cases h
 ·cases h
theorem e0_intr:Kf E0:=fun k g hk base w0 args S hne γ w vs hS hg hv=>by
 have hk2:(Bool.rec (Bool.rec none (some (Rl 6)) (Nat.beq k 94)) (some (F3 puI0)) (Nat.beq k 133):Option (List AV → St → R))=some g:=hk
 cases hb:Nat.beq k 133 with
 | false =>
  rw [hb] at hk2
  cases hc:Nat.beq k 94 with
  | false=>rw [hc] at hk2; cases hk2
  | true =>
   rw [hc] at hk2
   injection hk2 with hk2; subst hk2
   have:k=94:=Nat.eq_of_beq_eq_true hc
   subst this
   exact grow_I base w0 args S hne γ w vs hS hv
 | true =>
  rw [hb] at hk2
  injection hk2 with hk2; subst hk2
  have:k=133:=Nat.eq_of_beq_eq_true hb
  subst this
  exact plainI_ok (P:=Tryz.prog) (k:=133) puI0_ok base w0 args S hne γ w vs hS hv
theorem oK (w:World):Calls Tryz.prog 12 #[] w fun e w'=>e=.returned (.bool true) ∧ Below w.heap.size w w' :=
 qU (E:=E0) e0_ok e0_intr e0_mix rfl (m:=2000) (k:=12) (args:=[]) (by kernel_rfl) (by kernel_rfl) (vs:=[]) ⟨rfl,fun k hk=>by cases hk⟩
end Go.Ax
noncomputable section
namespace Go.Ax
open Go.RowKit Go.Proofs
set_option maxRecDepth 100000
def PowIn (w:World):Prop:=Lib.TabIs Tryz.prog w "internal/strconv.uint64pow10" .u64 Lib.pow10Tab
theorem PowIn.gr {w:World} (h:PowIn w):GR (GhW w) w gF:=by
 unfold PowIn Lib.TabIs World.var? at h
 rw [gPow6] at h
 simp only [Ai] at h
 split at h
 ·rename_i arr T fr ha
  injection h with h
  have hsz:arr.size=20:=by rw [h]; simp [Lib.pow10Tab_length]
  intro g cs hg
  unfold gF at hg
  cases hb:Nat.beq g 0 with
  | false=>rw [hb] at hg; cases hg
  | true =>
   have:g=0:=Nat.eq_of_beq_eq_true hb
   subst this
   rw [hb] at hg
   injection hg with hg; subst hg
   have hcell:∀ k,k < To.length → w.cell? ⟨0,0 + k,none⟩=some (arr.getD k undef):=fun k hk=>by
    rw [P2] at hk
    rw [Nat.zero_add,Kb ha,Array.getElem?_eq_getElem (by omega)]
    simp [Array.getD,show k < arr.size by omega]
   refine ⟨.ep To 0 0 (fun k=>arr.getD k undef) (fun k hk=>⟨⟨World.block_lt_of_cell? w _ (hcell k hk),_,hcell k hk⟩,hcell k hk⟩) (fun x hx=>?_) (fun k hk=>?_),fun _=>⟨arr,T,fr,ha,by rw [hsz,P2]⟩⟩
   ·unfold To at hx
    obtain ⟨z,_,rfl⟩:=List.mem_map.1 hx
    rfl
   ·have hk2:=hk
    rw [P2] at hk2
    have e:arr.getD k undef=.int .u64 (Lib.pow10Tab[k]'(by rw [Lib.pow10Tab_length]; omega)):=by
     rw [h]
     simp [Array.getD,Lib.pow10Tab_length,hk2]
    have e3:To[k]=.v (.int .u64 (Lib.pow10Tab[k]'(by rw [Lib.pow10Tab_length]; omega))):=by simp [To]
    rw [e]
    have key:∀ a:AV,a=.v (.int .u64 (Lib.pow10Tab[k]'(by rw [Lib.pow10Tab_length]; omega))) → VR (GhW w) w a (.int .u64 (Lib.pow10Tab[k]'(by rw [Lib.pow10Tab_length]; omega))):=fun a h=>h ▸ .v _ rfl
    exact key _ e3
 ·cases h
theorem g7_of {w:World} (h1:RngIn w) (h2:PowIn w):GR (GhW w) w G7:=by
 intro g cs hg
 have hg':=hg
 unfold G7 at hg
 cases hb:Nat.beq g 0 with
 | true =>
  have:g=0:=Nat.eq_of_beq_eq_true hb
  subst this
  exact h2.gr 0 cs hg'
 | false =>
  rw [hb] at hg
  exact h1.gr g cs hg
theorem u9b:Tryz.prog.underlying 9=some .string:=by kernel_rfl
end Go.Ax
noncomputable section
namespace Go.Ax
open Go.RowKit Go.Proofs
set_option maxRecDepth 100000
def qP (s:ByteArray):ByteArray:=if 1500 < s.size then s.extract 0 1500 else s
theorem cutF_size (s:ByteArray):(qP s).size ≤ 1500:=by
 unfold qP; split
 ·rw [ByteArray.size_extract]; omega
 ·omega
set_option maxHeartbeats 400000 in
theorem cutF_any (s:ByteArray) (w:World) (hs:s.size ≤ 9223372036854775807) :
  Calls Tryz.prog 18 #[.string s,.int .i64 1500] w fun e w'=>e=.returned (.string (qP s)) ∧ w=w':=by
 by_cases h:(1500:Int) < s.size
 ·have H:=Lib.hid (show qP s=s.extract 0 1500 by unfold qP; rw [if_pos (by omega)])
  go_enter Tryz.func18,Tryz.ntmps18
  go_wp2
  go_ret
  rw [H.out]; exact ⟨rfl,rfl⟩
 ·have H:=Lib.hid (show qP s=s by unfold qP; rw [if_neg (by omega)])
  go_enter Tryz.func18,Tryz.ntmps18
  go_wp2
  go_ret
  rw [H.out]; exact ⟨rfl,rfl⟩
theorem pr_any (s0:ByteArray) (w:World) (hs0:s0.size ≤ 9223372036854775807) (hr:RngIn w) (hp:PowIn w):Calls Tryz.prog 4 #[.string s0] w fun x w'=>x=.returned (.bool true) ∧ Below w.heap.size w w':=by
 have HG:=Lib.hid (g7_of hr hp); clear hr hp
 have hs:=cutF_size s0
 go_enter Tryz.func4,Tryz.ntmps4
 refine wp_seq_k fun K0 h0=>?_
 have H0:=Lib.hid h0; clear h0
 go_wp2_with fail
 refine H0.out _ _ ?_
 clear H0 K0
 refine wp_seq_k fun K1 h1=>?_
 have H1:=Lib.hid h1; clear h1
 go_wp2_with fail
 refine (cutF_any s0 _ hs0).mono ?_
 rintro x w' ⟨rfl,rfl⟩
 generalize qP s0=s at *
 go_wp2_with fail
 refine H1.out _ _ ?_
 clear H1 K1
 refine wp_seq_k fun K2 h2=>?_
 have H2:=Lib.hid h2; clear h2
 go_wp2_with fail
 refine (oK _).mono ?_
 rintro x w1 ⟨rfl,hb1⟩
 go_wp2_with fail
 refine H2.out _ _ ?_
 clear H2 K2
 obtain ⟨out,ho⟩:=gV s.data.toList
 have hl:s.data.toList.length ≤ 1500:=by rw [Array.length_toList]; exact hs
 have hg:GR (GhW w1) w1 G7:=HG.out.mono (Sj hb1)
 have hW:=pr_rest s.data.toList hl out ho St0 (T.leaf.set 0 (some (.v (.string ⟨⟨s.data.toList⟩⟩)))) (by rw [T.get_set,if_pos rfl])
 refine codeWG (c:=sU) (E:=E7) e7_ok yU e7_mix (t:=2) hW (SR.whole w1) hg ?_ rfl rfl ?_
 ·intro t a h
  rw [T.get_set] at h
  split at h
  ·rename_i e; subst e
   injection h with h; subst h
   exact ⟨(show 0 < 42 by decide),.v _ rfl⟩
  ·cases h
 intro act' w' hsz hd ht hb2
 refine ⟨hd,.bool true,?_,rfl,hb1.trans (hb2.mono hb1.size)⟩
 have h4:act'.tmps.getD 2 undef=.bool true:=by simp [Array.getD_eq_getD_getElem?,ht]
 simp [results,Tryz.f4,h4,go_sem,ht]
end Go.Ax
