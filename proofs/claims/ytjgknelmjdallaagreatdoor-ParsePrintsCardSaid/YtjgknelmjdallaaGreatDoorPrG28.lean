/- Bk -/
import Derived.Test.YtjgknelmjdallaaGreatDoorPrG27
import Derived.Test.YtjgknelmjdallaaGreatDoorPrG23
import Derived.Test.YtjgknelmjdallaaGreatDoorPrG18
import Derived.Test.YtjgknelmjdallaaGreatDoorPrG20
set_option linter.unusedVariables false
set_option linter.unusedSimpArgs false
noncomputable section
namespace Go.Ax
open Go.RowKit Go.Proofs
set_option maxRecDepth 100000
def HdL (t:List UInt8) (us:List TK):Prop:=∃ q,t=Gk us ++ q ∧ (Gk us=[45] ∨ ∃ c p,Gk us=c :: p ∧ c ≠ 45 ∧ c ≠ 62)
theorem HdL.ne {t:List UInt8} {us:List TK} (h:HdL t us):us ≠ []:=by
 obtain ⟨q,_,h⟩:=h
 intro e
 subst e
 rcases h with h | ⟨c,p,h,_⟩ <;> cases h
theorem HdL.app {t:List UInt8} {us:List TK} (h:HdL t us) (a:List UInt8) (b:List TK):HdL (t ++ a) (us ++ b):=by
 have hne:=h.ne
 obtain ⟨q,h1,h2⟩:=h
 refine ⟨q ++ a,?_,?_⟩
 ·rw [Ha hne,h1,List.append_assoc]
 ·rw [Ha hne]; exact h2
theorem Qd {k:Nat} {c:UInt8} {p:List UInt8} {n:Nat} (h:c ≠ 45 ∧ c ≠ 62) (a:List UInt8) (b:List TK):HdL ((c :: p) ++ a) ((k,c :: p,n) :: b):=⟨a,rfl,.inr ⟨c,p,rfl,h⟩⟩
theorem letter_hd {c:UInt8} (h:F0 c=true):c ≠ 45 ∧ c ≠ 62:=by
 have h':∀ x:Fin 256,F0 ⟨⟨x⟩⟩=true → (⟨⟨x⟩⟩:UInt8) ≠ 45 ∧ (⟨⟨x⟩⟩:UInt8) ≠ 62:=by decide
 exact h' ⟨c.toNat,c.toNat_lt⟩ h
theorem pR {w:List UInt8} (h:Hw w) (a:List UInt8) (b:List TK):HdL (w ++ a) (nm w :: b):=by
 obtain ⟨c,p,rfl,hc,_⟩:=h.2.1
 exact Qd (letter_hd hc) a b
theorem hdL_kid {e:PE} (h:HdL (Fz e) (Fp e)) {kids:List PE} {k:Nat} (h1:(Cx kids)[k]? = some ⟨Fz e,Ea e,Lj e⟩) (h2:(Ez kids)[k]? = some (dV e)) (least:Nat):HdL (kT (Cx kids) k least) (kJ (Ez kids) k least):=by
 unfold kT kJ
 rw [h1,h2]
 show HdL (if Ea e < least then _ else _) (if Ea e < least then _ else _)
 split
 ·exact ⟨_,rfl,.inr ⟨40,[],rfl,by decide,by decide⟩⟩
 ·exact h
theorem hdL_minus {t:List UInt8} {us:List TK} (h:HdL t us):D5 [45] t=true ↔ Gk us=[45]:=by
 obtain ⟨q,h1,h2⟩:=h
 rcases h2 with h2 | ⟨c,p,h2,h3,h4⟩
 ·rw [h1,h2]; exact ⟨fun _=>rfl,fun _=>by unfold D5; simp⟩
 ·rw [h1,h2]
  refine ⟨fun hs=>?_,fun e=>?_⟩
  ·unfold D5 at hs
   rw [decide_eq_true_iff] at hs
   simp at hs; exact absurd hs h3
  ·injection e with e _; exact absurd e h3
theorem vY {e:PE} (h:GoodT e):Qm (Fz e) (Fp e) ∧ HdL (Fz e) (Fp e):=by
 induction h with
 | mk kind pos n name off kids hs hk ih =>
  have et:=Qo kind pos n name off kids
  have ex:Fz (.mk kind pos n name off kids)=U5 kind n name off (Cx kids):=by rw [Fz]
  have kid:∀ {x:PE},x ∈ kids → ∀ (k least:Nat),(Cx kids)[k]? = some ⟨Fz x,Ea x,Lj x⟩ → (Ez kids)[k]? = some (dV x) → Qm (kT (Cx kids) k least) (kJ (Ez kids) k least):=fun hx k least h1 h2=>zV (ih _ hx).1 h1 h2 least
  have hkid:∀ {x:PE},x ∈ kids → ∀ (k least:Nat),(Cx kids)[k]? = some ⟨Fz x,Ea x,Lj x⟩ → (Ez kids)[k]? = some (dV x) → HdL (kT (Cx kids) k least) (kJ (Ez kids) k least):=fun hx k least h1 h2=>hdL_kid (ih _ hx).2 h1 h2 least
  rw [et,ex]
  cases hs with
  | num _ hr =>
   show Qm (Lib.itoa n) (Xd n) ∧ HdL (Lib.itoa n) (Xd n)
   unfold Lib.itoa Xd
   by_cases hn:n < 0
   ·rw [if_pos hn,if_pos hn]
    refine ⟨fun r vs hf hr'=>?_,⟨_,rfl,.inl rfl⟩⟩
    obtain ⟨c,q,e,h1,h2⟩:=Sn n.natAbs
    exact aJ (fun c' q' e'=>by
     rw [e] at e'
     injection e' with e' _
     subst e'
     exact ⟨fun x=>by subst x; simp at h1,fun x=>by subst x; simp at h2⟩) (sp_num (by omega) hf hr')
   ·rw [if_neg hn,if_neg hn]
    refine ⟨fun r vs hf hr'=>sp_num (by omega) hf hr',?_⟩
    obtain ⟨c,q,e,h1,h2⟩:=Sn n.toNat
    exact ⟨[],(List.append_nil _).symm,.inr ⟨c,q,e,fun x=>by subst x; simp at h1,fun x=>by subst x; simp at h2⟩⟩
  | truth _ hr =>
   rcases hr with rfl | rfl
   ·exact ⟨fun r vs hf hr'=>aK (w:=[102,97,108,115,101]) (by decide) hf hr',Qd (c:=102) (p:=[97,108,115,101]) (by decide) [] []⟩
   ·exact ⟨fun r vs hf hr'=>aK (w:=[116,114,117,101]) (by decide) hf hr',Qd (c:=116) (p:=[114,117,101]) (by decide) [] []⟩
  | var _ hn =>
   refine ⟨fun r vs hf hr'=>Pv hn hf hr',?_⟩
   have:=pR hn [] []
   rw [List.append_nil] at this; exact this
  | neg x =>
   have hs:=kid (x:=x) (by simp) 0 8 rfl rfl
   have hd:=hkid (x:=x) (by simp) 0 8 rfl rfl
   show Qm (tD (Cx [x])) (eH (Ez [x])) ∧ HdL (tD (Cx [x])) (eH (Ez [x]))
   unfold tD eH
   have hc:((∃ k,(Cx [x])[0]? = some k ∧ k.kind=1) ∨ D5 [45] (kT (Cx [x]) 0 8)=true) ↔ ((∃ k,(Ez [x])[0]? = some k ∧ k.kind=1) ∨ Gk (kJ (Ez [x]) 0 8)=[45]):=by
    rw [hdL_minus hd]
    refine or_congr ⟨?_,?_⟩ Iff.rfl
    ·rintro ⟨k,e,h⟩; injection e with e; subst e; exact ⟨_,rfl,h⟩
    ·rintro ⟨k,e,h⟩; injection e with e; subst e; exact ⟨_,rfl,h⟩
   by_cases hq:(∃ k,(Ez [x])[0]? = some k ∧ k.kind=1) ∨ Gk (kJ (Ez [x]) 0 8)=[45]
   ·rw [if_pos hq,if_pos (hc.2 hq)]
    refine ⟨fun r vs hf hr'=>?_,⟨_,rfl,.inl rfl⟩⟩
    have:=Sz hs hr'
    have e:([45,40] ++ kT (Cx [x]) 0 8 ++ [41]) ++ r=[45] ++ (40 :: (kT (Cx [x]) 0 8 ++ 41 :: r)):=by simp
    rw [e]
    exact aJ (fun c q e=>by injection e with e _; subst e; decide) this
   ·rw [if_neg hq,if_neg (fun h=>hq (hc.1 h))]
    refine ⟨fun r vs hf hr'=>?_,⟨_,rfl,.inl rfl⟩⟩
    have e:([45] ++ kT (Cx [x]) 0 8) ++ r=[45] ++ (kT (Cx [x]) 0 8 ++ r):=by simp
    rw [e]
    refine aJ (fun c q e=>?_) (hs r vs hf hr')
    obtain ⟨q',h1,h2⟩:=hd
    rcases h2 with h2 | ⟨c',p',h2,h3,h4⟩
    ·exact absurd (.inr h2) hq
    ·rw [h1,h2] at e
     injection e with e _
     subst e; exact ⟨h3,h4⟩
  | not x =>
   have hs:=kid (x:=x) (by simp) 0 4 rfl rfl
   exact ⟨fun r vs hf hr'=>Kx (w:=[110,111,116]) (by decide) (hs r vs hf hr'),Qd (c:=110) (p:=[111,116]) (by decide) _ _⟩
  | pre x =>
   have hs:=kid (x:=x) (by simp) 0 8 rfl rfl
   exact ⟨fun r vs hf hr'=>Kx (w:=[112,114,101]) (by decide) (hs r vs hf hr'),Qd (c:=112) (p:=[114,101]) (by decide) _ _⟩
  | bin _ x y hm =>
   have h0:=kid (x:=x) (by simp) 0 (if H6 name=5 then 6 else H6 name) rfl rfl
   have h1:=kid (x:=y) (by simp) 1 (H6 name + 1) rfl rfl
   have hd:=hkid (x:=x) (by simp) 0 (if H6 name=5 then 6 else H6 name) rfl rfl
   have hw:name ∈ Jk ∨ name ∈ Fb:=by
    rcases hm with hm | hm | hm | hm | hm <;> simp [D9] at hm
    ·rcases hm with rfl | rfl <;> decide
    ·subst hm; decide
    ·rcases hm with rfl | rfl | rfl | rfl | rfl | rfl <;> decide
    ·rcases hm with rfl | rfl <;> decide
    ·rcases hm with rfl | rfl | rfl <;> decide
   refine ⟨fun r vs hf hr'=>?_,?_⟩
   ·show SpT (((((_ ++ [32]) ++ name) ++ [32]) ++ _) ++ r) ((_ ++ opT name :: _) ++ vs)
    simp only [List.append_assoc,List.cons_append,Aj]
    exact h0 _ _ (Qf _) (.blank _ _ (sp_ob hw (h1 r vs hf hr')))
   ·show HdL ((((_ ++ [32]) ++ name) ++ [32]) ++ _) _
    simp only [List.append_assoc]
    exact hd.app _ _
  | ite x y z =>
   have h0:=kid (x:=x) (by simp) 0 0 rfl rfl
   have h1:=kid (x:=y) (by simp) 1 0 rfl rfl
   have h2:=kid (x:=z) (by simp) 2 0 rfl rfl
   refine ⟨fun r vs hf hr'=>?_,?_⟩
   ·show SpT (((((([105,102,32] ++ _) ++ [32,116,104,101,110,32]) ++ _) ++ [32,101,108,115,101,32]) ++ _) ++ r) ((kw [105,102] :: (_ ++ kw [116,104,101,110] :: (_ ++ kw [101,108,115,101] :: _))) ++ vs)
    simp only [List.append_assoc,List.cons_append,Aj]
    exact Kx (w:=[105,102]) (by decide) (h0 _ _ (Qf _) (.blank _ _ (Kx (w:=[116,104,101,110]) (by decide) (h1 _ _ (Qf _) (.blank _ _ (Kx (w:=[101,108,115,101]) (by decide) (h2 r vs hf hr')))))))
   ·exact ⟨_,by show (((([105,102,32] ++ _) ++ [32,116,104,101,110,32]) ++ _) ++ [32,101,108,115,101,32]) ++ _=[105,102] ++ _; simp only [List.append_assoc,List.cons_append,Aj]; rfl,.inr ⟨105,[102],rfl,by decide,by decide⟩⟩
  | arrow x y =>
   have h0:=kid (x:=x) (by simp) 0 2 rfl rfl
   have h1:=kid (x:=y) (by simp) 1 1 rfl rfl
   have hd:=hkid (x:=x) (by simp) 0 2 rfl rfl
   refine ⟨fun r vs hf hr'=>?_,?_⟩
   ·show SpT (((_ ++ [32,45,62,32]) ++ _) ++ r) ((_ ++ sg [45,62] :: _) ++ vs)
    simp only [List.append_assoc,List.cons_append,Aj]
    exact h0 _ _ (Qf _) (.blank _ _ (wA (s:=[45,62]) (by decide) (h1 r vs hf hr')))
   ·show HdL ((_ ++ [32,45,62,32]) ++ _) _
    simp only [List.append_assoc]
    exact hd.app _ _
  | fby x y hc =>
   have h0:=kid (x:=x) (by simp) 0 0 rfl rfl
   have h1:=kid (x:=y) (by simp) 1 1 rfl rfl
   have hd:=hkid (x:=x) (by simp) 0 0 rfl rfl
   refine ⟨fun r vs hf hr'=>?_,?_⟩
   ·show SpT (((_ ++ [32,102,98,121,32]) ++ _) ++ r) ((_ ++ kw [102,98,121] :: _) ++ vs)
    simp only [List.append_assoc,List.cons_append,Aj]
    exact h0 _ _ (Qf _) (.blank _ _ (Kx (w:=[102,98,121]) (by decide) (h1 r vs hf hr')))
   ·show HdL ((_ ++ [32,102,98,121,32]) ++ _) _
    simp only [List.append_assoc]
    exact hd.app _ _
  | when _ off x hn =>
   have h0:=kid (x:=x) (by simp) 0 9 rfl rfl
   have hd:=hkid (x:=x) (by simp) 0 9 rfl rfl
   refine ⟨fun r vs hf hr'=>?_,hd.app _ _⟩
   show SpT ((_ ++ O7 name off) ++ r) ((_ ++ Lf name off) ++ vs)
   rw [List.append_assoc,List.append_assoc]
   cases off with
   | false =>
    exact h0 _ _ (Qf _) (.blank _ _ (Kx (w:=[119,104,101,110]) (by decide) (Pv hn hf hr')))
   | true =>
    exact h0 _ _ (Qf _) (.blank _ _ (Kx (w:=[119,104,101,110]) (by decide) (Kx (w:=[110,111,116]) (by decide) (Pv hn hf hr'))))
  | merge _ x y hn =>
   have h0:=kid (x:=x) (by simp) 0 0 rfl rfl
   have h1:=kid (x:=y) (by simp) 1 0 rfl rfl
   refine ⟨fun r vs hf hr'=>?_,?_⟩
   ·have b1:=Sz h1 hr'
    have b0:=Sz h0 (.blank _ _ b1)
    show SpT (((((([109,101,114,103,101,32] ++ name) ++ [32,40]) ++ _) ++ [41,32,40]) ++ _) ++ [41] ++ r) ((kw [109,101,114,103,101] :: nm name :: (_ ++ _)) ++ vs)
    simp only [List.append_assoc,List.cons_append,Aj]
    exact Kx (w:=[109,101,114,103,101]) (by decide) (Pv hn (Qf _) (.blank _ _ b0))
   ·exact ⟨_,by show ((((([109,101,114,103,101,32] ++ name) ++ [32,40]) ++ _) ++ [41,32,40]) ++ _) ++ [41]=[109,101,114,103,101] ++ _; simp only [List.append_assoc,List.cons_append,Aj]; rfl,.inr ⟨109,[101,114,103,101],rfl,by decide,by decide⟩⟩
  | call _ l hn =>
   refine ⟨fun r vs hf hr'=>?_,?_⟩
   ·have b:=aI kids (fun e he=>(ih e he).1) hr'
    show SpT ((((name ++ [40]) ++ _) ++ [41]) ++ r) (nm name :: (_ ++ vs))
    simp only [List.append_assoc,List.cons_append,Aj]
    exact Pv hn (fol_l _) b
   ·show HdL ((((name ++ [40]) ++ _) ++ [41])) _
    simp only [List.append_assoc]
    exact pR hn _ _
  | await _ l hn hl =>
   cases kids with
   | nil =>
    exact ⟨fun r vs hf hr'=>Kx (w:=[97,119,97,105,116]) (by decide) (Pv hn hf hr'),Qd (c:=97) (p:=[119,97,105,116]) (by decide) _ _⟩
   | cons e l =>
    refine ⟨fun r vs hf hr'=>?_,?_⟩
    ·have b:=aI (e :: l) (fun e he=>(ih e he).1) hr'
     show SpT ((([97,119,97,105,116,32] ++ name) ++ (([32,97,102,116,101,114,32,40] ++ Kr (Cx (e :: l))) ++ [41])) ++ r) (kw [97,119,97,105,116] :: nm name :: kw [97,102,116,101,114] :: (Ft (Ly (Ez (e :: l))) ++ vs))
     simp only [List.append_assoc,List.cons_append,Aj]
     exact Kx (w:=[97,119,97,105,116]) (by decide) (Pv hn (Qf _) (.blank _ _ (Kx (w:=[97,102,116,101,114]) (by decide) b)))
    ·exact ⟨_,by show ([97,119,97,105,116,32] ++ name) ++ (([32,97,102,116,101,114,32,40] ++ Kr (Cx (e :: l))) ++ [41])=[97,119,97,105,116] ++ _; simp only [List.append_assoc,List.cons_append,Aj]; rfl,.inr ⟨97,[119,97,105,116],rfl,by decide,by decide⟩⟩
end Go.Ax
noncomputable section
namespace Go.Ax
open Go.RowKit Go.Proofs
set_option maxRecDepth 100000
def tyW (b:Bool):List UInt8:=if b then [98,111,111,108] else [105,110,116]
def mY (b f:Bool):List TK:=if f then [kw [102,117,116,117,114,101],kw (tyW b)] else [kw (tyW b)]
def Ku (d:PD):List TK:=nm d.name :: sg [58] :: mY d.bool d.fut
def Gp (d:PD):List TK:=if d.clock=[] then Ku d else Ku d ++ Lf d.clock d.off
def Jr (d:PD):Prop:=Hw d.name ∧ (d.clock=[] → d.off=false) ∧ (d.clock ≠ [] → Hw d.clock)
theorem sF (b f:Bool):Qm (Pr b f) (mY b f):=by
 intro r vs hf hr
 have h1:SpT (tyW b ++ r) (kw (tyW b) :: vs):=aK (by cases b <;> decide) hf hr
 unfold Pr mY
 cases f with
 | true=>exact Kx (w:=[102,117,116,117,114,101]) (by decide) h1
 | false=>exact h1
theorem nF {name:List UInt8} (hn:Hw name) (off:Bool) {r:List UInt8} {vs:List TK} (hf:Fol r) (hr:SpT r vs):SpT (O7 name off ++ r) (Lf name off ++ vs):=by
 cases off with
 | false=>exact .blank _ _ (Kx (w:=[119,104,101,110]) (by decide) (Pv hn hf hr))
 | true=>exact .blank _ _ (Kx (w:=[119,104,101,110]) (by decide) (Kx (w:=[110,111,116]) (by decide) (Pv hn hf hr)))
theorem rS (name:List UInt8) (off:Bool) (r:List UInt8):Fol (O7 name off ++ r):=by
 cases off <;> exact Qf _
theorem kC {d:PD} (h:Jr d):Qm (G4 d) (Gp d):=by
 intro r vs hf hr
 unfold G4 Gp
 have base:∀ r vs,Fol r → SpT r vs → SpT (((d.name ++ [58,32]) ++ Pr d.bool d.fut) ++ r) (Ku d ++ vs):=fun r vs hf hr=>by
  simp only [List.append_assoc,List.cons_append,Aj]
  exact Pv h.1 (V5 (c:=58) rfl) (K6 (s:=[58]) (by decide) (.blank _ _ (sF _ _ r vs hf hr)))
 split
 ·exact base r vs hf hr
 ·rename_i hc
  have e1:(((d.name ++ [58,32]) ++ Pr d.bool d.fut) ++ O7 d.clock d.off) ++ r=((d.name ++ [58,32]) ++ Pr d.bool d.fut) ++ (O7 d.clock d.off ++ r):=List.append_assoc ..
  have e2:(Ku d ++ Lf d.clock d.off) ++ vs=Ku d ++ (Lf d.clock d.off ++ vs):=List.append_assoc ..
  rw [e1,e2]
  exact base _ _ (rS _ _ _) (nF (h.2.2 hc) _ hf hr)
theorem nL {ts:List Tk} {i:Nat} {a b c:List TK} (h:Dd ts i ((a ++ b) ++ c)):Dd ts i (a ++ (b ++ c)):=by rw [List.append_assoc] at h; exact h
theorem mD {d:PD} {ts:List Tk} {i:Nat} {rest:List TK} (hs:Dd ts i (Ku d ++ rest)):∃ p,He ts i=.ok ⟨d.name,p,d.bool,d.fut,[],false⟩ (i + (Ku d).length):=by
 have h0:Dd ts i (nm d.name :: sg [58] :: (mY d.bool d.fut ++ rest)):=hs
 obtain ⟨k0,t0,-,-,h1⟩:=h0.cons
 obtain ⟨k1,t1,-,-,h2⟩:=h1.cons
 have t0:(tk ts i).text=d.name:=t0
 have hb:∀ b:Bool,decide (tyW b=[98,111,111,108])=b:=by intro b; cases b <;> decide
 have hm:∀ b:Bool,tyW b ∈ ([[105,110,116],[98,111,111,108]]:List (List UInt8)):=by intro b; cases b <;> decide
 have hnf:∀ b:Bool,tyW b ∉ ([[102,117,116,117,114,101]]:List (List UInt8)):=by intro b; cases b <;> decide
 refine ⟨(tk ts i).pos,?_⟩
 unfold He
 rw [Nw k0]
 show (C7 ts [[58]] (i + 1)).bind _=_
 rw [Hg (by rw [t1]; decide)]
 show (if (tk ts (i + 1 + 1)).text ∈ [[102,117,116,117,114,101]] then (C7 ts [[105,110,116],[98,111,111,108]] (i + 1 + 1 + 1)).bind _ else (C7 ts [[105,110,116],[98,111,111,108]] (i + 1 + 1)).bind _)=_
 unfold Ku mY at *
 cases hf:d.fut with
 | true =>
  rw [hf] at h2
  obtain ⟨k2,t2,-,-,h3⟩:=Dd.cons (x:=kw [102,117,116,117,114,101]) (r:=kw (tyW d.bool) :: rest) h2
  obtain ⟨k3,t3,-,-,-⟩:=h3.cons
  have t3:(tk ts (i + 1 + 1 + 1)).text=tyW d.bool:=t3
  rw [if_pos (by rw [t2]; decide),Hg (by rw [t3]; exact hm _)]
  show PR.ok (PD.mk (tk ts i).text (tk ts i).pos (decide ((tk ts (i + 1 + 1 + 1)).text=_)) true [] false) _=_
  rw [t0,t3,hb]; rfl
 | false =>
  rw [hf] at h2
  obtain ⟨k2,t2,-,-,-⟩:=Dd.cons (x:=kw (tyW d.bool)) (r:=rest) h2
  have t2:(tk ts (i + 1 + 1)).text=tyW d.bool:=t2
  rw [if_neg (by rw [t2]; exact hnf _),Hg (by rw [t2]; exact hm _)]
  show PR.ok (PD.mk (tk ts i).text (tk ts i).pos (decide ((tk ts (i + 1 + 1)).text=_)) false [] false) _=_
  rw [t0,t2,hb]; rfl
theorem clock_rd {name:List UInt8} (hn:Y1 name) {off:Bool} {ts:List Tk} {i:Nat} {rest:List TK} (hs:Dd ts i (Lf name off ++ rest)):(tk ts i).text=[119,104,101,110] ∧ Hc ts (i + 1)=.ok (name,off) (i + (Lf name off).length):=by
 unfold Hc
 cases off with
 | false =>
  obtain ⟨k0,t0,-,-,h3⟩:=Dd.cons (x:=kw [119,104,101,110]) (r:=nm name :: rest) hs
  obtain ⟨k1,t1,-,-,-⟩:=h3.cons
  have t1:(tk ts (i + 1)).text=name:=t1
  refine ⟨t0,?_⟩
  rw [if_neg (by rw [t1]; intro hc; simp at hc; subst hc; exact hn.1 (by decide)),Nw k1]
  show PR.ok ((tk ts (i + 1)).text,false) _=_
  rw [t1]; rfl
 | true =>
  obtain ⟨k0,t0,-,-,h3⟩:=Dd.cons (x:=kw [119,104,101,110]) (r:=kw [110,111,116] :: nm name :: rest) hs
  obtain ⟨k1,t1,-,-,h4⟩:=h3.cons
  obtain ⟨k2,t2,-,-,-⟩:=h4.cons
  have t2:(tk ts (i + 1 + 1)).text=name:=t2
  refine ⟨t0,?_⟩
  rw [if_pos (by rw [t1]; decide),Nw k2]
  show PR.ok ((tk ts (i + 1 + 1)).text,true) _=_
  rw [t2]; rfl
theorem dD {d:PD} (h:Jr d) {ts:List Tk} {i:Nat} {rest:List TK} (hs:Dd ts i (Gp d ++ sg [59] :: rest)):∃ d',Fi ts i=.ok d' (i + (Gp d).length + 1) ∧ N7 d d':=by
 unfold Gp at hs ⊢
 unfold Fi
 by_cases hc:d.clock=[]
 ·rw [if_pos hc] at hs ⊢
  obtain ⟨p,hp⟩:=mD hs
  obtain ⟨k1,t1,-,-,-⟩:=hs.skip.cons
  rw [hp]
  refine ⟨⟨d.name,p,d.bool,d.fut,[],false⟩,?_,rfl,rfl,rfl,hc,h.2.1 hc⟩
  show (if (tk ts (i + (Ku d).length)).text ∈ [[119,104,101,110]] then _ else (C7 ts [[59]] (i + (Ku d).length)).bind _)=_
  rw [if_neg (by rw [t1]; decide),Hg (by rw [t1]; decide)]; rfl
 ·rw [if_neg hc] at hs ⊢
  have hs1:=nL hs
  obtain ⟨p,hp⟩:=mD hs1
  obtain ⟨h1,h2⟩:=clock_rd (h.2.2 hc).1 hs1.skip
  obtain ⟨k1,t1,-,-,-⟩:=hs1.skip.skip.cons
  rw [hp]
  refine ⟨⟨d.name,p,d.bool,d.fut,d.clock,d.off⟩,?_,rfl,rfl,rfl,rfl,rfl⟩
  show (if (tk ts (i + (Ku d).length)).text ∈ [[119,104,101,110]] then (Hc ts (i + (Ku d).length + 1)).bind _ else _)=_
  rw [if_pos (by rw [h1]; decide),h2]
  show (C7 ts [[59]] (i + (Ku d).length + (Lf d.clock d.off).length)).bind _=_
  rw [Hg (by rw [t1]; decide),List.length_append,← Nat.add_assoc]; rfl
def Oq {α:Type} (J:α → List TK):List α → List TK
 | []=>[]
 | x :: l=>sg [44] :: (J x ++ Oq J l)
def rowT {α:Type} (T:α → List UInt8):List α → List UInt8
 | []=>[]
 | x :: l=>44 :: 32 :: (T x ++ rowT T l)
def G9 {α:Type} (J:α → List TK):List α → List TK
 | []=>[]
 | x :: l=>J x ++ Oq J l
theorem join_rowT {α:Type} (T:α → List UInt8) (x:α):∀ (l:List α),Lib.join ((x :: l).map T) [44,32]=T x ++ rowT T l:=by
 intro l
 induction l generalizing x with
 | nil=>show Lib.join [T x] [44,32]=_; rw [Lib.join_one]; exact (List.append_nil _).symm
 | cons b l ih =>
  have e2:Lib.join ((x :: b :: l).map T) [44,32]=T x ++ ([44,32] ++ Lib.join ((b :: l).map T) [44,32]):=by
   simp [Lib.join]
  rw [e2,ih]; rfl
theorem aE {α:Type} {T:α → List UInt8} {J:α → List TK}:∀ (l:List α),(∀ x ∈ l,Qm (T x) (J x)) → ∀ r vs,SpT r vs → SpT (rowT T l ++ 41 :: r) (Oq J l ++ sg [41] :: vs)
 | [],_,r,vs,h=>K6 (s:=[41]) (by decide) h
 | e :: l,he,r,vs,h=>by
  have ih:=aE l (fun x hx=>he x (List.mem_cons_of_mem _ hx)) r vs h
  have hf:Fol (rowT T l ++ 41 :: r):=by
   cases l with
   | nil=>exact qC _
   | cons b l=>exact xY _
  have:=he e (List.mem_cons_self ..) _ _ hf ih
  show SpT (44 :: 32 :: ((T e ++ rowT T l) ++ 41 :: r)) (sg [44] :: ((J e ++ Oq J l) ++ sg [41] :: vs))
  rw [List.append_assoc,List.append_assoc]
  exact K6 (s:=[44]) (by decide) (.blank _ _ this)
theorem Rx {α:Type} {T:α → List UInt8} {J:α → List TK} (l:List α) (he:∀ x ∈ l,Qm (T x) (J x)) {r:List UInt8} {vs:List TK} (h:SpT r vs):SpT (40 :: (Lib.join (l.map T) [44,32] ++ 41 :: r)) (Ft (G9 J l) ++ vs):=by
 cases l with
 | nil=>exact K6 (s:=[40]) (by decide) (K6 (s:=[41]) (by decide) h)
 | cons e l =>
  have ej:Ft (G9 J (e :: l)) ++ vs=sg [40] :: (J e ++ (Oq J l ++ sg [41] :: vs)):=by
   show sg [40] :: ((J e ++ Oq J l) ++ [sg [41]]) ++ vs=_
   simp
  rw [join_rowT,ej,List.append_assoc]
  have ih:=aE (T:=T) (J:=J) l (fun x hx=>he x (List.mem_cons_of_mem _ hx)) r vs h
  have hf:Fol (rowT T l ++ 41 :: r):=by
   cases l with
   | nil=>exact qC _
   | cons b l=>exact xY _
  exact K6 (s:=[40]) (by decide) (he e (List.mem_cons_self ..) _ _ hf ih)
def RdG {α:Type} (J:α → List TK) (R:α → α → Prop) (ts:List Tk) (kid:Nat → PR α) (x:α):Prop:=∀ i rest,Dd ts i (J x ++ rest) → ∃ x',kid i=.ok x' (i + (J x).length) ∧ R x x'
theorem aV {α:Type} {J:α → List TK} {R:α → α → Prop} {ts:List Tk} {kid:Nat → PR α} {rest:List TK}:∀ (l:List α),(∀ x ∈ l,RdG J R ts kid x) → ∀ (acc acc':List α),Each2 R acc acc' → ∀ i,Dd ts i (Oq J l ++ sg [41] :: rest) → ∃ l',Each2 R (acc ++ l) l' ∧ ∀ q,l.length + 1 ≤ q → Gb ts kid q acc' i=.ok l' (i + (Oq J l).length + 1)
 | [],_,acc,acc',hl,i,hs=>by
  obtain ⟨k0,t0,-,-,-⟩:=Dd.cons (x:=sg [41]) (r:=rest) hs
  refine ⟨acc',by rw [List.append_nil]; exact hl,fun q hq=>?_⟩
  obtain ⟨q,rfl⟩:∃ m,q=m + 1:=⟨q - 1,by simp at hq; omega⟩
  show (if (tk ts i).text ∈ [[44]] then _ else (C7 ts [[41]] i).bind fun _ j=>.ok acc' j)=_
  rw [if_neg (by rw [t0]; decide),Hg (by rw [t0]; decide)]; rfl
 | e :: l,he,acc,acc',hl,i,hs=>by
  have hs':Dd ts i (sg [44] :: (J e ++ (Oq J l ++ sg [41] :: rest))):=by
   have:Oq J (e :: l) ++ sg [41] :: rest=sg [44] :: (J e ++ (Oq J l ++ sg [41] :: rest)):=by
    show sg [44] :: (J e ++ Oq J l) ++ _=_
    rw [List.cons_append,List.append_assoc]
   rw [← this]; exact hs
  obtain ⟨k0,t0,-,-,h1⟩:=hs'.cons
  obtain ⟨e',p1,hx⟩:=he e (List.mem_cons_self ..) (i + 1) _ h1
  obtain ⟨l',hl',p2⟩:=aV l (fun x hx=>he x (List.mem_cons_of_mem _ hx)) (acc ++ [e]) (acc' ++ [e']) (hl.snoc hx) (i + 1 + (J e).length) h1.skip
  refine ⟨l',by rw [List.append_assoc] at hl'; exact hl',fun q hq=>?_⟩
  obtain ⟨q,rfl⟩:∃ m,q=m + 1:=⟨q - 1,by simp at hq; omega⟩
  show (if (tk ts i).text ∈ [[44]] then (kid (i + 1)).bind _ else _)=_
  rw [if_pos (by rw [t0]; decide),p1]
  show Gb ts kid q (acc' ++ [e']) (i + 1 + (J e).length)=_
  rw [p2 q (by simp at hq; omega)]
  congr 1
  show _=i + (sg [44] :: (J e ++ Oq J l)).length + 1
  simp; omega
theorem pC {α:Type} {J:α → List TK} {R:α → α → Prop} {ts:List Tk} {kid:Nat → PR α} {rest:List TK} (l:List α) (he:∀ x ∈ l,RdG J R ts kid x) (hh:∀ x ∈ l,J x ≠ [] ∧ Gk (J x) ≠ [41]) {i:Nat} (hs:Dd ts i (Ft (G9 J l) ++ rest)):∃ l',Each2 R l l' ∧ ∀ q,l.length + 1 ≤ q → Iw ts kid q i=.ok l' (i + (Ft (G9 J l)).length):=by
 cases l with
 | nil =>
  obtain ⟨k1,t1,-,-,h1⟩:=Dd.cons (x:=sg [40]) (r:=sg [41] :: rest) hs
  obtain ⟨k2,t2,-,-,-⟩:=h1.cons
  refine ⟨[],.nil,fun q _=>?_⟩
  unfold Iw
  rw [Hg (by rw [t1]; decide)]
  show (if (tk ts (i + 1)).text ∈ [[41]] then _ else _)=_
  rw [if_pos (by rw [t2]; decide)]; rfl
 | cons e l =>
  have ej:Ft (G9 J (e :: l)) ++ rest=sg [40] :: (J e ++ (Oq J l ++ sg [41] :: rest)):=by
   show sg [40] :: ((J e ++ Oq J l) ++ [sg [41]]) ++ rest=_
   simp
  have el:i + (Ft (G9 J (e :: l))).length=i + 1 + (J e).length + (Oq J l).length + 1:=by
   show i + (sg [40] :: ((J e ++ Oq J l) ++ [sg [41]])).length=_
   simp; omega
  rw [ej] at hs
  obtain ⟨k1,t1,-,-,h1⟩:=hs.cons
  obtain ⟨e',p1,hx⟩:=he e (List.mem_cons_self ..) (i + 1) _ h1
  obtain ⟨l',hl',p2⟩:=aV l (fun x hx=>he x (List.mem_cons_of_mem _ hx)) [e] [e'] (Each2.one hx) (i + 1 + (J e).length) h1.skip
  refine ⟨l',hl',fun q hq=>?_⟩
  have hk:=hh e (List.mem_cons_self ..)
  have hx2:(tk ts (i + 1)).text ≠ [41]:=by rw [h1.head,Ha hk.1]; exact hk.2
  unfold Iw
  rw [Hg (by rw [t1]; decide)]
  show (if (tk ts (i + 1)).text ∈ [[41]] then _ else (kid (i + 1)).bind _)=_
  rw [if_neg (by simpa using hx2),p1]
  show Gb ts kid q [e'] (i + 1 + (J e).length)=_
  rw [p2 q (by simp at hq ⊢; omega),el]
end Go.Ax
noncomputable section
namespace Go.Ax
open Go.RowKit Go.Proofs
set_option maxRecDepth 100000
abbrev Pp:List UInt8:=[97,115,121,110,99]
theorem Zo {x:PE} (h:GoodT x) (ih:Gk (Fp x) ≠ Pp) {ks:List KJ} {k:Nat} (hk:ks[k]? = some (dV x)) (least:Nat) (r:List TK):Gk (kJ ks k least ++ r) ≠ Pp:=by
 have hne:=(vY h).2.ne
 by_cases hb:Ea x < least
 ·rw [tQ hk hb]; show ([40]:List UInt8) ≠ _; decide
 ·rw [lI hk hb,Ha hne]; exact ih
theorem no_async {e:PE} (h:GoodT e):Gk (Fp e) ≠ Pp:=by
 induction h with
 | mk kind pos n name off kids hs hk ih =>
  rw [Qo]
  have hn:∀ w:List UInt8,Hw w → w ≠ Pp:=fun w hw e=>hw.1.1 (e ▸ by decide)
  cases hs with
  | num _ hr =>
   show Gk (Xd n) ≠ _
   unfold Xd
   split
   ·show ([45]:List UInt8) ≠ _; decide
   ·exact Uv _ (by decide)
  | truth _ hr=>rcases hr with rfl | rfl <;> decide
  | var _ h=>exact hn _ h
  | neg x =>
   show Gk (eH _) ≠ _
   unfold eH
   split <;> (show ([45]:List UInt8) ≠ _; decide)
  | not x=>show ([110,111,116]:List UInt8) ≠ _; decide
  | bin _ x y hm=>exact Zo (hk x (by simp)) (ih x (by simp)) (k:=0) rfl _ _
  | ite x y z=>show ([105,102]:List UInt8) ≠ _; decide
  | arrow x y=>exact Zo (hk x (by simp)) (ih x (by simp)) (k:=0) rfl _ _
  | fby x y h=>exact Zo (hk x (by simp)) (ih x (by simp)) (k:=0) rfl _ _
  | pre x=>show ([112,114,101]:List UInt8) ≠ _; decide
  | when _ _ x h=>exact Zo (hk x (by simp)) (ih x (by simp)) (k:=0) rfl _ _
  | merge _ x y h=>show ([109,101,114,103,101]:List UInt8) ≠ _; decide
  | call _ _ h=>exact hn _ h
  | await _ _ h hl =>
   cases kids <;> (show ([97,119,97,105,116]:List UInt8) ≠ _; decide)
theorem call_rd {e:PE} (h:GoodT e) (hk:Lj e=13) {ts:List Tk} {i:Nat} {rest:List TK} (hs:Dd ts i (Fp e ++ rest)) (hst:Gq 10 rest):RdA ts i (i + (Fp e).length) e .call:=by
 have hb:=(back_e h).1
 cases h with
 | mk kind pos n name off kids hsh hkk =>
  have:kind=13:=hk
  subst this
  cases hsh with
  | call _ _ hn =>
   obtain ⟨e',he,N,hP⟩:=hb.a (L:=10) (Nat.le_refl _) (by decide) hs hst
   have et:Fp (.mk 13 pos 0 name false kids)=nm name :: Ft (Ly (Ez kids)):=Qo ..
   have hs':Dd ts i (nm name :: sg [40] :: ((Ly (Ez kids) ++ [sg [41]]) ++ rest)):=by rw [et] at hs; exact hs
   obtain ⟨k0,t0,-,-,h1⟩:=hs'.cons
   have k0:(tk ts i).kind=1:=k0
   obtain ⟨k1,t1,-,-,-⟩:=h1.cons
   refine ⟨e',he,N,fun m hm=>?_⟩
   have:=hP (m + 2) (by omega)
   have e2:P ts (m + 2) .primary i=P ts m .call i:=by
    rw [Ky,k0,if_neg (by decide),if_pos rfl]
    show (if (tk ts (i + 1)).text=[40] then P ts m .call i else _)=_
    rw [if_pos t1]
   rw [← e2]; exact this
abbrev P6 (x:List UInt8 × Nat):List TK:=[nm x.1]
def Hm (l:List (List UInt8 × Nat)):List TK:=if 1 < l.length then Ft (G9 P6 l) else G9 P6 l
def mM (l:List (List UInt8 × Nat)):Prop:=l ≠ [] ∧ ∀ x ∈ l,Hw x.1
theorem Zm {ts:List Tk} (x:List UInt8 × Nat):RdG P6 rH ts (G1 ts) x:=fun i rest hs=>by
 obtain ⟨k0,t0,-,-,-⟩:=Dd.cons (x:=nm x.1) (r:=rest) hs
 refine ⟨((tk ts i).text,(tk ts i).pos),?_,t0.symm⟩
 unfold G1
 rw [Nw k0]; rfl
theorem lefts_rd {l:List (List UInt8 × Nat)} (h:mM l) {ts:List Tk} {i:Nat} {rest:List TK} (hs:Dd ts i (Hm l ++ rest)):∃ l',Each2 rH l l' ∧ ∀ q,l.length + 1 ≤ q → Ib ts q i=.ok l' (i + (Hm l).length):=by
 match l,h with
 | [x],h =>
  obtain ⟨k0,t0,-,-,-⟩:=Dd.cons (x:=nm x.1) (r:=rest) hs
  obtain ⟨x',p,hx⟩:=Zm x i rest hs
  refine ⟨[x'],Each2.one hx,fun q hq=>?_⟩
  unfold Ib
  rw [if_pos k0,p]; rfl
 | x :: y :: r,h =>
  have ej:Hm (x :: y :: r) ++ rest=sg [40] :: (P6 x ++ sg [44] :: (P6 y ++ (Oq P6 r ++ sg [41] :: rest))):=by
   unfold Hm
   rw [if_pos (by simp)]
   show sg [40] :: ((P6 x ++ Oq P6 (y :: r)) ++ [sg [41]]) ++ rest=_
   simp [Oq]
  have el:i + (Hm (x :: y :: r)).length=i + 1 + 1 + 1 + 1 + (Oq P6 r).length + 1:=by
   unfold Hm
   rw [if_pos (by simp)]
   show i + (sg [40] :: ((P6 x ++ Oq P6 (y :: r)) ++ [sg [41]])).length=_
   simp [Oq]; omega
  rw [ej] at hs
  obtain ⟨k0,t0,-,-,h1⟩:=hs.cons
  obtain ⟨x',p1,hx⟩:=Zm x (i + 1) _ h1
  have h2:Dd ts (i + 1 + 1) _:=h1.skip
  obtain ⟨k2,t2,-,-,h3⟩:=h2.cons
  obtain ⟨y',p2,hy⟩:=Zm y (i + 1 + 1 + 1) _ h3
  have h4:Dd ts (i + 1 + 1 + 1 + 1) _:=h3.skip
  obtain ⟨l',hl,p3⟩:=aV r (fun x _=>Zm x) [y] [y'] (Each2.one hy) (i + 1 + 1 + 1 + 1) h4
  refine ⟨x' :: l',.cons _ _ _ _ hx hl,fun q hq=>?_⟩
  unfold Ib
  rw [if_neg (by rw [k0]; decide),Hg (by rw [t0]; decide)]
  show (G1 ts (i + 1)).bind _=_
  rw [p1]
  show (C7 ts [[44]] (i + 1 + 1)).bind _=_
  rw [Hg (by rw [t2]; decide)]
  show ((G1 ts (i + 1 + 1 + 1)).bind fun y m=>Gb ts (G1 ts) q [y] m).bind _=_
  rw [p2]
  show (Gb ts (G1 ts) q [y'] (i + 1 + 1 + 1 + 1)).bind _=_
  rw [p3 q (by simp at hq; omega),el]; rfl
def T7 (q:PQ):List TK:=if q.async then kw Pp :: Fp q.e else Fp q.e
def eqJ (q:PQ):List TK:=Hm q.left ++ sg [61] :: (T7 q ++ [sg [59]])
def Re (q:PQ):Prop:=mM q.left ∧ GoodT q.e ∧ (q.async=true → Lj q.e=13) ∧ ¬ Nn q.e > 40
theorem aA (r:List TK):Gq 0 (sg [59] :: r):=Me fun k hk=>by unfold D9; split <;> decide
theorem eq_rd {q:PQ} (h:Re q) {ts:List Tk} {i:Nat} {rest:List TK} (hs:Dd ts i (eqJ q ++ rest)):∃ q',Y2 q q' ∧ ∃ N,∀ n,N ≤ n → eqP ts n i=.ok q' (i + (eqJ q).length):=by
 have hs1:Dd ts i (Hm q.left ++ sg [61] :: (T7 q ++ sg [59] :: rest)):=by
  have:eqJ q ++ rest=Hm q.left ++ sg [61] :: (T7 q ++ sg [59] :: rest):=by unfold eqJ; simp
  rw [← this]; exact hs
 have el:i + (eqJ q).length=i + (Hm q.left).length + 1 + (T7 q).length + 1:=by unfold eqJ; simp; omega
 obtain ⟨ls,hl,p1⟩:=lefts_rd h.1 hs1
 obtain ⟨k1,t1,-,-,h2⟩:=hs1.skip.cons
 rw [el]
 by_cases ha:q.async=true
 ·have eb:T7 q=kw Pp :: Fp q.e:=by unfold T7; rw [if_pos ha]
  rw [eb] at h2 ⊢
  obtain ⟨k2,t2,-,-,h3⟩:=Dd.cons (x:=kw Pp) (r:=Fp q.e ++ sg [59] :: rest) h2
  obtain ⟨e',he,N,p2⟩:=call_rd h.2.1 (h.2.2.1 ha) h3 ((aA rest).mono (Nat.zero_le _))
  obtain ⟨k4,t4,-,-,-⟩:=h3.skip.cons
  refine ⟨⟨ls,true,e'⟩,⟨hl,ha,he⟩,N + q.left.length + 1,fun n hn=>?_⟩
  unfold eqP
  rw [p1 n (by omega)]
  show (C7 ts [[61]] (i + (Hm q.left).length)).bind _=_
  rw [Hg (by rw [t1]; decide)]
  show (if (tk ts (i + (Hm q.left).length + 1)).text ∈ [[97,115,121,110,99]] then ((P ts n .call (i + (Hm q.left).length + 1 + 1)).bind fun e j=>if Nn e > 40 then .bad (sV e) 3 else .ok e j).bind _ else _)=_
  rw [if_pos (by rw [t2]; decide),p2 n (by omega)]
  show (if Nn e' > 40 then _ else PR.ok e' _).bind _=_
  rw [if_neg (by rw [← Tm he]; exact h.2.2.2)]
  show (C7 ts [[59]] (i + (Hm q.left).length + 1 + 1 + (Fp q.e).length)).bind _=_
  rw [Hg (by rw [t4]; decide)]
  show PR.ok _ _=PR.ok _ _
  congr 1
  simp; omega
 ·have ha':q.async=false:=by simpa using ha
  have eb:T7 q=Fp q.e:=by unfold T7; rw [if_neg ha]
  rw [eb] at h2 ⊢
  have hit:=(back_e h.2.1).1
  obtain ⟨e',he,N,p2⟩:=hit.a (L:=0) (Nat.zero_le _) (by decide) h2 (aA rest)
  obtain ⟨k4,t4,-,-,-⟩:=h2.skip.cons
  have hna:(tk ts (i + (Hm q.left).length + 1)).text ≠ Pp:=by rw [h2.head,Ha hit.1.ne]; exact no_async h.2.1
  refine ⟨⟨ls,false,e'⟩,⟨hl,ha',he⟩,N + q.left.length + 1,fun n hn=>?_⟩
  unfold eqP
  rw [p1 n (by omega)]
  show (C7 ts [[61]] (i + (Hm q.left).length)).bind _=_
  rw [Hg (by rw [t1]; decide)]
  show (if (tk ts (i + (Hm q.left).length + 1)).text ∈ [[97,115,121,110,99]] then _ else ((P ts n .expr (i + (Hm q.left).length + 1)).bind fun e j=>if Nn e > 40 then .bad (sV e) 3 else .ok e j).bind _)=_
  rw [if_neg (by simpa using hna),show P ts n .expr (i + (Hm q.left).length + 1)=_ from p2 n (by omega)]
  show (if Nn e' > 40 then _ else PR.ok e' _).bind _=_
  rw [if_neg (by rw [← Tm he]; exact h.2.2.2)]
  show (C7 ts [[59]] (i + (Hm q.left).length + 1 + (Fp q.e).length)).bind _=_
  rw [Hg (by rw [t4]; decide)]; rfl
end Go.Ax
noncomputable section
namespace Go.Ax
open Go.RowKit Go.Proofs
set_option maxRecDepth 100000
def Xr:List PQ → List TK
 | []=>[]
 | q :: l=>eqJ q ++ Xr l
theorem eqJ_head {q:PQ} (h:Re q):eqJ q ≠ [] ∧ Gk (eqJ q) ≠ [116,101,108]:=by
 have hl:=h.1
 unfold eqJ Hm
 match hq:q.left,hl with
 | [x],hl =>
  refine ⟨by simp,fun e=>?_⟩
  have hx:x.1=[116,101,108]:=e
  have:=hl.2 x (by simp)
  rw [hx] at this
  exact this.1.1 (by decide)
 | x :: y :: r,hl =>
  rw [if_pos (by simp)]
  exact ⟨by simp,by show ([40]:List UInt8) ≠ _; decide⟩
theorem eqs_rd {ts:List Tk} {rest:List TK}:∀ (l:List PQ),(∀ q ∈ l,Re q) → ∀ (acc acc':List PQ),Each2 Y2 acc acc' → ∀ i,Dd ts i (Xr l ++ kw [116,101,108] :: rest) → ∃ l',Each2 Y2 (acc ++ l) l' ∧ ∃ N,∀ n q,N ≤ n → N ≤ q → Ny ts n q acc' i=.ok l' (i + (Xr l).length)
 | [],_,acc,acc',hl,i,hs=>by
  obtain ⟨k0,t0,-,-,-⟩:=Dd.cons (x:=kw [116,101,108]) (r:=rest) hs
  refine ⟨acc',by rw [List.append_nil]; exact hl,1,fun n q _ hq=>?_⟩
  obtain ⟨q,rfl⟩:∃ m,q=m + 1:=⟨q - 1,by omega⟩
  show (if (tk ts i).text ∈ [[116,101,108]] then PR.ok acc' i else _)=_
  rw [if_pos (by rw [t0]; decide)]; rfl
 | e :: l,he,acc,acc',hl,i,hs=>by
  have hs':Dd ts i (eqJ e ++ (Xr l ++ kw [116,101,108] :: rest)):=nL hs
  have hg:=he e (List.mem_cons_self ..)
  obtain ⟨hne,hh⟩:=eqJ_head hg
  obtain ⟨e',hx,N1,p1⟩:=eq_rd hg hs'
  obtain ⟨l',hl',N2,p2⟩:=eqs_rd l (fun x hx=>he x (List.mem_cons_of_mem _ hx)) (acc ++ [e]) (acc' ++ [e']) (hl.snoc hx) _ hs'.skip
  refine ⟨l',by rw [List.append_assoc] at hl'; exact hl',N1 + N2 + 1,fun n q hn hq=>?_⟩
  obtain ⟨q,rfl⟩:∃ m,q=m + 1:=⟨q - 1,by omega⟩
  have ht:(tk ts i).text ≠ [116,101,108]:=by rw [hs'.head,Ha hne]; exact hh
  show (if (tk ts i).text ∈ [[116,101,108]] then _ else (eqP ts n i).bind fun q j=>Ny ts n _ (acc' ++ [q]) j)=_
  rw [if_neg (by simpa using ht),p1 n (by omega)]
  show Ny ts n q (acc' ++ [e']) _=_
  rw [p2 n q (by omega) (by omega)]
  congr 1
  show _=i + (eqJ e ++ Xr l).length
  rw [List.length_append,Nat.add_assoc]
def K5:List PD → List TK
 | []=>[]
 | d :: l=>Gp d ++ sg [59] :: K5 l
def O8 (l:List PD):List TK:=if l=[] then [] else kw [118,97,114] :: K5 l
theorem mS {ts:List Tk} {t:TK} {rest:List TK} (ht:t.1 ≠ 1):∀ (l:List PD),(∀ d ∈ l,Jr d) → ∀ (acc acc':List PD),Each2 N7 acc acc' → ∀ i,Dd ts i (K5 l ++ t :: rest) → ∃ l',Each2 N7 (acc ++ l) l' ∧ ∀ q,l.length + 1 ≤ q → Iu ts q acc' i=.ok l' (i + (K5 l).length)
 | [],_,acc,acc',hl,i,hs=>by
  obtain ⟨k0,t0,-,-,-⟩:=Dd.cons (x:=t) (r:=rest) hs
  refine ⟨acc',by rw [List.append_nil]; exact hl,fun q hq=>?_⟩
  obtain ⟨q,rfl⟩:∃ m,q=m + 1:=⟨q - 1,by simp at hq; omega⟩
  show (if (tk ts i).kind=1 then _ else PR.ok acc' i)=_
  rw [if_neg (by rw [k0]; exact ht)]; rfl
 | d :: l,he,acc,acc',hl,i,hs=>by
  have hs':Dd ts i (Gp d ++ sg [59] :: (K5 l ++ t :: rest)):=Nf hs
  obtain ⟨d',p1,hx⟩:=dD (he d (List.mem_cons_self ..)) hs'
  obtain ⟨k1,t1,-,-,h2⟩:=hs'.skip.cons
  obtain ⟨l',hl',p2⟩:=mS ht l (fun x hx=>he x (List.mem_cons_of_mem _ hx)) (acc ++ [d]) (acc' ++ [d']) (hl.snoc hx) _ h2
  refine ⟨l',by rw [List.append_assoc] at hl'; exact hl',fun q hq=>?_⟩
  obtain ⟨q,rfl⟩:∃ m,q=m + 1:=⟨q - 1,by simp at hq; omega⟩
  have k0:(tk ts i).kind=1:=by
   have hd:∃ r,Gp d=nm d.name :: r:=by unfold Gp Ku; split <;> exact ⟨_,rfl⟩
   obtain ⟨r,er⟩:=hd
   rw [er] at hs'
   exact hs'.cons.1
  show (if (tk ts i).kind=1 then (Fi ts i).bind fun d j=>Iu ts q (acc' ++ [d]) j else _)=_
  rw [if_pos k0,p1]
  show Iu ts q (acc' ++ [d']) _=_
  rw [p2 q (by simp at hq; omega)]
  congr 1
  show _=i + (Gp d ++ sg [59] :: K5 l).length
  simp; omega
theorem vars_rd {ts:List Tk} {rest:List TK} (l:List PD) (he:∀ d ∈ l,Jr d) {i:Nat} (hs:Dd ts i (O8 l ++ kw [108,101,116] :: rest)):∃ l',Each2 N7 l l' ∧ ∀ q,l.length + 1 ≤ q → Lo ts q i=.ok l' (i + (O8 l).length):=by
 cases l with
 | nil =>
  obtain ⟨k0,t0,-,-,-⟩:=Dd.cons (x:=kw [108,101,116]) (r:=rest) hs
  refine ⟨[],.nil,fun q hq=>?_⟩
  unfold Lo
  rw [if_neg (by rw [t0]; decide)]; rfl
 | cons d l =>
  have ej:O8 (d :: l)=kw [118,97,114] :: K5 (d :: l):=by unfold O8; rw [if_neg (by simp)]
  rw [ej] at hs ⊢
  obtain ⟨k0,t0,-,-,h1⟩:=Dd.cons (x:=kw [118,97,114]) (r:=K5 (d :: l) ++ kw [108,101,116] :: rest) hs
  have hs':Dd ts (i + 1) (Gp d ++ sg [59] :: (K5 l ++ kw [108,101,116] :: rest)):=Nf h1
  obtain ⟨d',p1,hx⟩:=dD (he d (List.mem_cons_self ..)) hs'
  obtain ⟨k1,t1,-,-,h2⟩:=hs'.skip.cons
  obtain ⟨l',hl',p2⟩:=mS (t:=kw [108,101,116]) (by decide) l (fun x hx=>he x (List.mem_cons_of_mem _ hx)) [d] [d'] (Each2.one hx) _ h2
  refine ⟨l',hl',fun q hq=>?_⟩
  unfold Lo
  rw [if_pos (by rw [t0]; decide),p1]
  show Iu ts q [d'] _=_
  rw [p2 q (by simp at hq; omega)]
  congr 1
  show _=i + (kw [118,97,114] :: (Gp d ++ sg [59] :: K5 l)).length
  simp; omega
def Rk (n:PN):List TK:=kw [110,111,100,101] :: nm n.name :: (Ft (G9 Gp n.ins) ++ kw [114,101,116,117,114,110,115] :: (Ft (G9 Gp n.outs) ++ (O8 n.vars ++ kw [108,101,116] :: (Xr n.eqs ++ [kw [116,101,108]]))))
structure GoodNode (n:PN):Prop where
 name:Hw n.name
 ins:∀ d ∈ n.ins,Jr d ∧ d.clock=[]
 outs:∀ d ∈ n.outs,Jr d ∧ d.clock=[]
 vars:∀ d ∈ n.vars,Jr d
 eqs:∀ q ∈ n.eqs,Re q
theorem oP {ts:List Tk} {d:PD} (h:Jr d ∧ d.clock=[]):RdG Gp N7 ts (He ts) d:=fun i rest hs=>by
 have ej:Gp d=Ku d:=by unfold Gp; rw [if_pos h.2]
 rw [ej] at hs ⊢
 obtain ⟨p,hp⟩:=mD hs
 exact ⟨_,hp,rfl,rfl,rfl,h.2,h.1.2.1 h.2⟩
theorem cZ {d:PD} (h:Jr d):Gp d ≠ [] ∧ Gk (Gp d) ≠ [41]:=by
 have hd:∃ r,Gp d=nm d.name :: r:=by unfold Gp Ku; split <;> exact ⟨_,rfl⟩
 obtain ⟨r,er⟩:=hd
 rw [er]
 refine ⟨by simp,fun e=>?_⟩
 have e:d.name=[41]:=e
 have:=h.1
 rw [e] at this
 exact this.1.2 (by decide)
theorem xA {x:PN} (h:GoodNode x) {ts:List Tk} {i:Nat} {rest:List TK} (hs:Dd ts i (Rk x ++ rest)):∃ x',Qn x x' ∧ ∃ N,∀ n,N ≤ n → Jg ts n i=.ok x' (i + (Rk x).length):=by
 have ej:Rk x ++ rest=kw [110,111,100,101] :: nm x.name :: (Ft (G9 Gp x.ins) ++ (kw [114,101,116,117,114,110,115] :: (Ft (G9 Gp x.outs) ++ (O8 x.vars ++ (kw [108,101,116] :: (Xr x.eqs ++ (kw [116,101,108] :: rest))))))):=by
  unfold Rk; simp
 have el:i + (Rk x).length=i + 1 + 1 + (Ft (G9 Gp x.ins)).length + 1 + (Ft (G9 Gp x.outs)).length + (O8 x.vars).length + 1 + (Xr x.eqs).length + 1:=by
  unfold Rk; simp; omega
 rw [ej] at hs
 rw [el]
 obtain ⟨k0,t0,-,-,h0⟩:=hs.cons
 obtain ⟨k1,t1,-,-,h1⟩:=h0.cons
 have t1:(tk ts (i + 1)).text=x.name:=t1
 obtain ⟨ins,hins,p2⟩:=pC x.ins (fun d hd=>oP (h.ins d hd)) (fun d hd=>cZ (h.ins d hd).1) h1
 have h2:=h1.skip
 obtain ⟨k3,t3,-,-,h3⟩:=h2.cons
 obtain ⟨outs,houts,p4⟩:=pC x.outs (fun d hd=>oP (h.outs d hd)) (fun d hd=>cZ (h.outs d hd).1) h3
 have h4:=h3.skip
 obtain ⟨vars,hvars,p5⟩:=vars_rd x.vars h.vars h4
 have h5:=h4.skip
 obtain ⟨k6,t6,-,-,h6⟩:=h5.cons
 obtain ⟨eqs,heqs,N,p7⟩:=eqs_rd x.eqs h.eqs [] [] .nil _ h6
 obtain ⟨k8,t8,-,-,-⟩:=h6.skip.cons
 refine ⟨⟨x.name,(tk ts (i + 1)).pos,ins,outs,vars,eqs⟩,⟨rfl,hins,houts,hvars,heqs⟩,N + x.ins.length + x.outs.length + x.vars.length + 1,fun n hn=>?_⟩
 unfold Jg
 rw [Hg (by rw [t0]; decide)]
 show (Fk ts 1 (i + 1)).bind _=_
 rw [Nw k1]
 show (Iw ts (He ts) n (i + 1 + 1)).bind _=_
 rw [p2 n (by omega)]
 show (C7 ts [[114,101,116,117,114,110,115]] (i + 1 + 1 + (Ft (G9 Gp x.ins)).length)).bind _=_
 rw [Hg (by rw [t3]; decide)]
 show (Iw ts (He ts) n (i + 1 + 1 + (Ft (G9 Gp x.ins)).length + 1)).bind _=_
 rw [p4 n (by omega)]
 show (Lo ts n (i + 1 + 1 + (Ft (G9 Gp x.ins)).length + 1 + (Ft (G9 Gp x.outs)).length)).bind _=_
 rw [p5 n (by omega)]
 show (C7 ts [[108,101,116]] (i + 1 + 1 + (Ft (G9 Gp x.ins)).length + 1 + (Ft (G9 Gp x.outs)).length + (O8 x.vars).length)).bind _=_
 rw [Hg (by rw [t6]; decide)]
 show (Ny ts n n [] (i + 1 + 1 + (Ft (G9 Gp x.ins)).length + 1 + (Ft (G9 Gp x.outs)).length + (O8 x.vars).length + 1)).bind _=_
 rw [p7 n n (by omega) (by omega)]
 show (C7 ts [[116,101,108]] (i + 1 + 1 + (Ft (G9 Gp x.ins)).length + 1 + (Ft (G9 Gp x.outs)).length + (O8 x.vars).length + 1 + (Xr x.eqs).length)).bind _=_
 rw [Hg (by rw [t8]; decide)]
 show PR.ok (PN.mk (tk ts (i + 1)).text _ ins outs vars eqs) _=_
 rw [t1]
def gD:List PN → List TK
 | []=>[finT]
 | x :: l=>Rk x ++ gD l
theorem wR {ts:List Tk}:∀ (l:List PN),(∀ x ∈ l,GoodNode x) → ∀ (acc acc':List PN),Each2 Qn acc acc' → ∀ i,Dd ts i (gD l) → ∃ l' j,Each2 Qn (acc ++ l) l' ∧ (tk ts j).kind=5 ∧ ∃ N,∀ n q,N ≤ n → N ≤ q → Jt ts n q acc' i=.ok l' j
 | [],_,acc,acc',hl,i,hs=>by
  obtain ⟨k0,t0,-,-,-⟩:=Dd.cons (x:=finT) (r:=[]) hs
  refine ⟨acc',i,by rw [List.append_nil]; exact hl,k0,1,fun n q _ hq=>?_⟩
  obtain ⟨q,rfl⟩:∃ m,q=m + 1:=⟨q - 1,by omega⟩
  show (if (tk ts i).text ∈ [[110,111,100,101]] then _ else PR.ok acc' i)=_
  rw [if_neg (by rw [t0]; decide)]
 | e :: l,he,acc,acc',hl,i,hs=>by
  have hs':Dd ts i (Rk e ++ gD l):=hs
  obtain ⟨e',hx,N1,p1⟩:=xA (he e (List.mem_cons_self ..)) hs'
  obtain ⟨l',j,hl',hk,N2,p2⟩:=wR l (fun x hx=>he x (List.mem_cons_of_mem _ hx)) (acc ++ [e]) (acc' ++ [e']) (hl.snoc hx) _ hs'.skip
  refine ⟨l',j,by rw [List.append_assoc] at hl'; exact hl',hk,N1 + N2 + 1,fun n q hn hq=>?_⟩
  obtain ⟨q,rfl⟩:∃ m,q=m + 1:=⟨q - 1,by omega⟩
  have t0:(tk ts i).text=[110,111,100,101]:=hs'.cons.2.1
  show (if (tk ts i).text ∈ [[110,111,100,101]] then (Jg ts n i).bind fun y j=>Jt ts n q (acc' ++ [y]) j else _)=_
  rw [if_pos (by rw [t0]; decide),p1 n (by omega)]
  show Jt ts n q (acc' ++ [e']) _=_
  rw [p2 n q (by omega) (by omega)]
theorem sR {ts:List Tk} {l:List PN} (hne:l ≠ []) (h:∀ x ∈ l,GoodNode x) (hs:Dd ts 0 (gD l)):∃ l' j,Each2 Qn l l' ∧ (tk ts j).kind=5 ∧ ∃ N,∀ n,N ≤ n → Eh ts n 0=.ok l' j:=by
 cases l with
 | nil=>exact absurd rfl hne
 | cons e l =>
  have hs':Dd ts 0 (Rk e ++ gD l):=hs
  obtain ⟨e',hx,N1,p1⟩:=xA (h e (List.mem_cons_self ..)) hs'
  obtain ⟨l',j,hl',hk,N2,p2⟩:=wR l (fun x hx=>h x (List.mem_cons_of_mem _ hx)) [e] [e'] (Each2.one hx) _ hs'.skip
  refine ⟨l',j,hl',hk,N1 + N2 + 1,fun n hn=>?_⟩
  unfold Eh
  rw [p1 n (by omega)]
  show Jt ts n n [e'] _=_
  rw [p2 n n (by omega) (by omega)]
end Go.Ax
noncomputable section
namespace Go.Ax
open Go.RowKit Go.Proofs
set_option maxRecDepth 100000
theorem tC {l:List UInt8} {a:Nat} {t:Tk} (h:Hf l a=some (t,0)) (hk:t.kind=1):Hw t.text:=by
 unfold Hf at h
 cases l with
 | nil=>cases h
 | cons b r =>
  simp only at h
  split at h
  ·rename_i hb
   injection h with h
   unfold Ln at h
   split at h
   ·injection h with h1 h2; subst h1; cases hk
   ·rename_i hw
    split at h
    ·injection h with h1 h2; cases h2
    ·rename_i hl
     injection h with h1 h2
     subst h1
     have hpos:cnt Ds (b :: r)=cnt Ds r + 1:=Zt (by unfold Ds; rw [hb]; rfl)
     have htake:(b :: r).take (cnt Ds (b :: r))=b :: r.take (cnt Ds r):=by rw [hpos]; rfl
     have hall:=(So Ds r).1
     have hlen:=(So Ds (b :: r)).2
     refine ⟨⟨hw,fun hs=>?_⟩,⟨b,r.take (cnt Ds r),htake,hb,hall⟩,by show (List.take _ _).length ≤ 30; rw [hlen]; omega⟩
     change (b :: r).take (cnt Ds (b :: r)) ∈ Fb at hs
     rw [htake] at hs
     have hn:∀ s ∈ Fb,∀ c q,s=c :: q → F0 c=false:=by
      intro s hs c q e
      simp only [Fb,List.mem_cons,List.not_mem_nil,or_false] at hs
      rcases hs with h | h | h | h | h | h | h | h | h | h | h | h | h | h | h | h <;> (rw [h] at e; injection e with e _; subst e; decide)
     have:=hn _ hs b _ rfl
     rw [hb] at this; cases this
  ·split at h
   ·unfold Ul at h
    split at h
    ·injection h with h; injection h with h1 h2; cases h2
    ·split at h
     ·split at h
      ·injection h with h; injection h with h1 h2; cases h2
      ·injection h with h; injection h with h1 h2; subst h1; cases hk
     ·injection h with h; injection h with h1 h2; cases h2
   ·injection h with h
    unfold Kp at h
    split at h
    ·injection h with h1 h2; subst h1; cases hk
    ·injection h with h1 h2; cases h2
theorem uE {ts:List Tk} (h:FromLex ts):∀ t ∈ ts,t.kind=1 → Hw t.text:=by
 induction h with
 | last t h =>
  intro x hx hk
  rw [List.mem_singleton] at hx
  subst hx
  rw [h.1] at hk; cases hk
 | cons t r l a h hr ih =>
  intro x hx hk
  rcases List.mem_cons.1 hx with rfl | hx
  ·exact tC h hk
  ·exact ih x hx hk
theorem lex_names {l:List UInt8} {ts:List Tk} (h:Jz l=some (.inr ts)):NameL ts:=by
 intro i hk
 cases hg:ts[i]? with
 | none =>
  have:tk ts i=C1:=by unfold tk; rw [hg]; rfl
  rw [this] at hk; cases hk
 | some t =>
  have:tk ts i=t:=by unfold tk; rw [hg]; rfl
  rw [this] at hk ⊢
  exact uE (Xh h) t (List.mem_of_getElem? hg) hk
theorem name_ne {s:List UInt8} (h:Hw s):s ≠ []:=by
 obtain ⟨b,r,e,_⟩:=h.2.1
 rw [e]; simp
section
variable {ts:List Tk} (hts:NameL ts)
include hts
theorem vB (i:Nat):OkR (fun d _=>Jr d ∧ d.clock=[] ∧ d.off=false) (He ts i):=by
 unfold He
 refine (Jl 1 i).bind fun t j e=>(Ey _ j).bind fun _ j e1=>?_
 have hn:Hw t.text:=by rw [e.1]; exact hts _ e.2.2
 exact OkR.ite (fun _=>(Ey _ _).bind fun u m e2=>.ok ⟨⟨hn,fun _=>rfl,fun h=>absurd rfl h⟩,rfl,rfl⟩) (fun _=>(Ey _ _).bind fun u m e2=>.ok ⟨⟨hn,fun _=>rfl,fun h=>absurd rfl h⟩,rfl,rfl⟩)
theorem iU (i:Nat):OkR (fun d _=>Jr d) (Fi ts i):=by
 unfold Fi
 refine (vB hts i).bind fun d j e=>OkR.ite (fun _=>(zB hts _).bind fun c j e1=>(Ey _ j).bind fun _ j e2=>.ok ⟨e.1.1,fun h=>absurd h (name_ne e1),fun _=>e1⟩) (fun _=>(Ey _ j).bind fun _ j e2=>.ok e.1)
theorem lF (i:Nat):OkR (fun x _=>Hw x.1) (G1 ts i):=by
 unfold G1
 exact (Jl 1 i).bind fun t j e=>.ok (by show Hw t.text; rw [e.1]; exact hts _ e.2.2)
omit hts in
theorem kM {α:Type} {Q:α → Prop} {kid:Nat → PR α} (hk:∀ i,OkR (fun e _=>Q e) (kid i)):∀ (n:Nat) (l:List α) (i:Nat),(∀ e ∈ l,Q e) → OkR (fun l' _=>(∀ e ∈ l',Q e) ∧ (l ≠ [] → l' ≠ [])) (Gb ts kid n l i)
 | 0,_,_,_=>.out
 | n + 1,l,i,hl=>by
  unfold Gb
  refine OkR.ite (fun hm=>(hk (i + 1)).bind fun y j e=>?_) (fun _=>(Ey _ i).bind fun _ j e=>.ok ⟨hl,id⟩)
  intro l' j' h'
  have:=kM hk n (l ++ [y]) j (fun x hx=>by simp at hx; rcases hx with h | rfl; exact hl _ h; exact e) l' j' h'
  exact ⟨this.1,fun _=>this.2 (by simp)⟩
omit hts in
theorem xM {α:Type} {Q:α → Prop} {kid:Nat → PR α} (hk:∀ i,OkR (fun e _=>Q e) (kid i)) (n i:Nat):OkR (fun l _=>∀ e ∈ l,Q e) (Iw ts kid n i):=by
 unfold Iw
 refine (Ey _ i).bind fun _ j e=>?_
 refine OkR.ite (fun _=>.ok (fun e h=>(by cases h))) (fun _=>(hk _).bind fun x m e2=>?_)
 exact fun l j h=>(kM hk n [x] m (fun y hy=>by simp at hy; subst hy; exact e2) l j h).1
theorem vars_g:∀ (n:Nat) (l:List PD) (i:Nat),(∀ d ∈ l,Jr d) → OkR (fun l _=>∀ d ∈ l,Jr d) (Iu ts n l i)
 | 0,_,_,_=>.out
 | n + 1,l,i,hl=>by
  unfold Iu
  exact OkR.ite (fun _=>(iU hts i).bind fun d j e=>vars_g n _ j (fun x hx=>by simp at hx; rcases hx with h | rfl; exact hl _ h; exact e)) (fun _=>.ok hl)
theorem varsQ_g (n i:Nat):OkR (fun l _=>∀ d ∈ l,Jr d) (Lo ts n i):=by
 unfold Lo
 exact OkR.ite (fun _=>(iU hts _).bind fun d j e=>vars_g hts n _ j (fun x hx=>by simp at hx; subst hx; exact e)) (fun _=>.ok (fun e h=>(by cases h)))
theorem lefts_g (n i:Nat):OkR (fun l _=>mM l) (Ib ts n i):=by
 unfold Ib
 refine OkR.ite (fun _=>(lF hts i).bind fun x j e=>.ok ⟨by simp,fun y hy=>by simp at hy; subst hy; exact e⟩) (fun _=>?_)
 refine (Ey _ i).bind fun _ j e=>(lF hts j).bind fun x j e1=>(Ey _ j).bind fun _ j e2=>OkR.bind (Q:=fun l _=>∀ y ∈ l,Hw y.1) ?_ fun l m e3=>.ok ⟨by simp,fun y hy=>by
  rcases List.mem_cons.1 hy with rfl | hy
  ·exact e1
  ·exact e3 y hy⟩
 exact (lF hts j).bind fun y m e3=>fun l' j' h'=>(kM (Q:=fun (x:List UInt8 × Nat)=>Hw x.1) (lF hts) n [y] m (fun z hz=>by simp at hz; subst hz; exact e3) l' j' h').1
omit hts in
theorem call_kind:∀ (n i:Nat),OkR (fun e _=>Lj e=13) (P ts n .call i)
 | 0,i=>.out
 | n + 1,i=>by
  simp only [P]
  exact (Jl 1 i).bind fun t j e=>OkR.bind (Q:=fun _ _=>True) (fun _ _ _=>trivial) fun l m _=>.ok rfl
omit hts in
theorem fM {Q:PE → Prop} {kid:Nat → PR PE} (i:Nat) (h:OkR (fun e _=>Q e) (kid i)):OkR (fun e _=>Q e ∧ ¬ Nn e > 40) (F2 kid i):=by
 unfold F2
 exact h.bind fun e j he=>OkR.ite (fun _=>.bad) (fun hd=>.ok ⟨he,hd⟩)
theorem eq_g (n i:Nat):OkR (fun q _=>Re q) (eqP ts n i):=by
 unfold eqP
 refine (lefts_g hts n i).bind fun ls j e=>(Ey _ j).bind fun _ j e1=>OkR.ite (fun _=>?_) (fun _=>?_)
 ·refine (fM (Q:=fun e=>GoodT e ∧ Lj e=13) (j + 1) (fun a k hk=>⟨(P_g hts n .call _ a k hk).1,call_kind n _ a k hk⟩)).bind fun x m e2=>(Ey _ m).bind fun _ m e3=>.ok ⟨e,e2.1.1,fun _=>e2.1.2,e2.2⟩
 ·refine (fM (Q:=GoodT) j (fun a k hk=>(P_g hts n .expr _ a k hk).1)).bind fun x m e2=>(Ey _ m).bind fun _ m e3=>.ok ⟨e,e2.1,fun h=>(by cases h),e2.2⟩
theorem eqs_g (N:Nat):∀ (n:Nat) (l:List PQ) (i:Nat),(∀ q ∈ l,Re q) → OkR (fun l _=>∀ q ∈ l,Re q) (Ny ts N n l i)
 | 0,_,_,_=>.out
 | n + 1,l,i,hl=>by
  unfold Ny
  exact OkR.ite (fun _=>.ok hl) (fun _=>(eq_g hts N i).bind fun q j e=>eqs_g N n _ j (fun x hx=>by simp at hx; rcases hx with h | rfl; exact hl _ h; exact e))
theorem node_g (n i:Nat):OkR (fun x _=>GoodNode x) (Jg ts n i):=by
 unfold Jg
 have hd:∀ i,OkR (fun d _=>Jr d ∧ d.clock=[]) (He ts i):=fun i a j h=>⟨(vB hts i a j h).1,(vB hts i a j h).2.1⟩
 exact (Ey _ i).bind fun _ j e0=>(Jl 1 j).bind fun t j e1=>(xM (Q:=fun (d:PD)=>Jr d ∧ d.clock=[]) hd n j).bind fun ins j e2=>(Ey _ j).bind fun _ j e3=>(xM (Q:=fun (d:PD)=>Jr d ∧ d.clock=[]) hd n j).bind fun outs j e4=>(varsQ_g hts n j).bind fun vars j e5=>(Ey _ j).bind fun _ j e6=>(eqs_g hts n n [] j (fun q h=>(by cases h))).bind fun qs j e7=>(Ey _ j).bind fun _ j e8=>.ok ⟨by show Hw t.text; rw [e1.1]; exact hts _ e1.2.2,e2,e4,e5,e7⟩
theorem prog_g (N:Nat):∀ (n:Nat) (l:List PN) (i:Nat),l ≠ [] → (∀ x ∈ l,GoodNode x) → OkR (fun l _=>l ≠ [] ∧ ∀ x ∈ l,GoodNode x) (Jt ts N n l i)
 | 0,_,_,_,_=>.out
 | n + 1,l,i,h0,hl=>by
  unfold Jt
  exact OkR.ite (fun _=>(node_g hts N i).bind fun q j e=>prog_g N n _ j (by simp) (fun x hx=>by simp at hx; rcases hx with h | rfl; exact hl _ h; exact e)) (fun _=>.ok ⟨h0,hl⟩)
theorem program_g (n i:Nat):OkR (fun l _=>l ≠ [] ∧ ∀ x ∈ l,GoodNode x) (Eh ts n i):=by
 unfold Eh
 exact (node_g hts n i).bind fun x j e=>prog_g hts n n [x] j (by simp) (fun y hy=>by simp at hy; subst hy; exact e)
omit hts in
theorem eqP_le (n i:Nat):(eqP ts n i).le (eqP ts (n + 1) i):=by
 have hr:∀ (n:Nat) (l:List (List UInt8 × Nat)) (i:Nat),(Gb ts (G1 ts) n l i).le (Gb ts (G1 ts) (n + 1) l i):=by
  intro n
  induction n with
  | zero=>intro l i ho; exact absurd rfl ho
  | succ n ih =>
   intro l i
   unfold Gb
   exact Lz (E8 (le_refl _) fun a j=>ih _ j) (le_refl _)
 have hl:(Ib ts n i).le (Ib ts (n + 1) i):=by
  unfold Ib
  exact Lz (le_refl _) (E8 (le_refl _) fun _ j=>E8 (le_refl _) fun x j=>E8 (le_refl _) fun _ j=>E8 (E8 (le_refl _) fun y m=>hr n _ _) fun _ _=>le_refl _)
 unfold eqP
 refine E8 hl fun ls j=>E8 (le_refl _) fun _ j=>Lz ?_ ?_
 ·exact E8 (E8 (P_le n .call _) fun _ _=>le_refl _) fun _ _=>le_refl _
 ·exact E8 (E8 (P_le n .expr _) fun _ _=>le_refl _) fun _ _=>le_refl _
omit hts in
theorem yS (N:Nat):∀ (n:Nat) (l:List PQ) (i:Nat),(Ny ts N n l i).le (Ny ts (N + 1) (n + 1) l i)
 | 0,l,i=>fun ho=>absurd rfl ho
 | n + 1,l,i=>by
  unfold Ny
  exact Lz (le_refl _) (E8 (eqP_le N i) fun q j=>yS N n _ j)
omit hts in
theorem iN (n i:Nat):(Iw ts (He ts) n i).le (Iw ts (He ts) (n + 1) i):=by
 have hr:∀ (n:Nat) (l:List PD) (i:Nat),(Gb ts (He ts) n l i).le (Gb ts (He ts) (n + 1) l i):=by
  intro n
  induction n with
  | zero=>intro l i ho; exact absurd rfl ho
  | succ n ih =>
   intro l i
   unfold Gb
   exact Lz (E8 (le_refl _) fun a j=>ih _ j) (le_refl _)
 unfold Iw
 exact E8 (le_refl _) fun _ j=>Lz (le_refl _) (E8 (le_refl _) fun x m=>hr n _ _)
omit hts in
theorem mT:∀ (n:Nat) (l:List PD) (i:Nat),(Iu ts n l i).le (Iu ts (n + 1) l i)
 | 0,l,i=>fun ho=>absurd rfl ho
 | n + 1,l,i=>by
  unfold Iu
  exact Lz (E8 (le_refl _) fun d j=>mT n _ j) (le_refl _)
omit hts in
theorem oW (n i:Nat):(Jg ts n i).le (Jg ts (n + 1) i):=by
 unfold Jg
 refine E8 (le_refl _) fun _ j=>E8 (le_refl _) fun t j=>E8 (iN n j) fun ins j=>E8 (le_refl _) fun _ j=>E8 (iN n j) fun outs j=>E8 ?_ fun vars j=>E8 (le_refl _) fun _ j=>E8 (yS n n [] j) fun qs j=>E8 (le_refl _) fun _ j=>le_refl _
 unfold Lo
 exact Lz (E8 (le_refl _) fun x m=>mT n _ m) (le_refl _)
omit hts in
theorem oI (N:Nat):∀ (n:Nat) (l:List PN) (i:Nat),(Jt ts N n l i).le (Jt ts (N + 1) (n + 1) l i)
 | 0,l,i=>fun ho=>absurd rfl ho
 | n + 1,l,i=>by
  unfold Jt
  exact Lz (E8 (oW N i) fun q j=>oI N n _ j) (le_refl _)
omit hts in
theorem oE (n i:Nat):(Eh ts n i).le (Eh ts (n + 1) i):=by
 unfold Eh
 exact E8 (oW n i) fun x j=>oI n n [x] j
omit hts in
theorem dZ {n m:Nat} (h:n ≤ m) (i:Nat):(Eh ts n i).le (Eh ts m i):=by
 induction h with
 | refl=>exact le_refl _
 | step _ ih=>exact fun ho=>(oE _ _ (by rw [ih ho]; exact ho)).trans (ih ho)
end
end Go.Ax
