/- Bf -/
import Derived.Test.YtjgknelmjdallaaGreatDoorBkG22
import Derived.Test.YtjgknelmjdallaaGreatDoorBkG21
import Derived.Test.YtjgknelmjdallaaGreatDoorBkG18
import Derived.Test.YtjgknelmjdallaaGreatDoorBkG12
import Derived.ProofKit
import Derived.Lib.Hide
import Derived.Laws.BitsLemmas
import Derived.IntWalk
import Derived.Laws.Unary
set_option linter.unusedVariables false
set_option linter.unusedSimpArgs false
noncomputable section
namespace Go.Ax
open Go.RowKit Go.Proofs
set_option maxRecDepth 100000
def RdC (nt:NT) (e:PE):Prop:=∀ (ts:List Tk) (i:Nat) (t:TK) (rest:List TK),(t=sg [44] ∨ t=sg [41]) → Fi ts i (Gy e ++ t :: rest) → RdA ts i (i + (Gy e).length) e nt
theorem stops_c {t:TK} (h:t=sg [44] ∨ t=sg [41]) (r:List TK):Hf 0 (t :: r):=by
 rcases h with rfl | rfl <;> exact O9 fun k hk=>by unfold Ep; split <;> decide
theorem X9 (l:List PE) (rest:List TK):∃ t r,(t=sg [44] ∨ t=sg [41]) ∧ Oc (Fs l) ++ sg [41] :: rest=t :: r:=by
 cases l with
 | nil=>exact ⟨_,_,.inr rfl,rfl⟩
 | cons e l=>exact ⟨_,_,.inl rfl,rfl⟩
theorem mD {nt:NT} {ts:List Tk} {rest:List TK}:∀ (l:List PE),(∀ e ∈ l,RdC nt e) → ∀ (acc acc':List PE),LikeL acc acc' → ∀ i,Fi ts i (Oc (Fs l) ++ sg [41] :: rest) → ∃ l',LikeL (acc ++ l) l' ∧ ∃ N,∀ n q,N ≤ n → N ≤ q → Hc ts (P ts n nt) q acc' i=.ok l' (i + (Oc (Fs l)).length + 1)
 | [],_,acc,acc',hl,i,hs=>by
  obtain ⟨k0,t0,-,-,-⟩:=Fi.cons (x:=sg [41]) (r:=rest) hs
  refine ⟨acc',by rw [List.append_nil]; exact hl,1,fun n q _ hq=>?_⟩
  obtain ⟨q,rfl⟩:∃ m,q=m + 1:=⟨q - 1,by omega⟩
  show (if (tk ts i).text ∈ [[44]] then _ else (D7 ts [[41]] i).bind fun _ j=>.ok acc' j)=_
  rw [if_neg (by rw [t0]; decide),Tb (by rw [t0]; decide)]; rfl
 | e :: l,he,acc,acc',hl,i,hs=>by
  have hs':Fi ts i (sg [44] :: (Gy e ++ (Oc (Fs l) ++ sg [41] :: rest))):=by
   have:Oc (Fs (e :: l)) ++ sg [41] :: rest=sg [44] :: (Gy e ++ (Oc (Fs l) ++ sg [41] :: rest)):=by
    show sg [44] :: (Gy e ++ Oc (Fs l)) ++ _=_
    rw [List.cons_append,List.append_assoc]
   rw [← this]; exact hs
  obtain ⟨k0,t0,-,-,h1⟩:=hs'.cons
  obtain ⟨t,r,ht,er⟩:=X9 l rest
  have h1':=h1
  rw [er] at h1'
  obtain ⟨e',hx,N1,p1⟩:=he e (List.mem_cons_self ..) ts (i + 1) t r ht h1'
  obtain ⟨l',hl',N2,p2⟩:=mD l (fun x hx=>he x (List.mem_cons_of_mem _ hx)) (acc ++ [e]) (acc' ++ [e']) (hl.snoc hx) (i + 1 + (Gy e).length) h1.skip
  refine ⟨l',by rw [List.append_assoc] at hl'; exact hl',N1 + N2 + 1,fun n q hn hq=>?_⟩
  obtain ⟨q,rfl⟩:∃ m,q=m + 1:=⟨q - 1,by omega⟩
  show (if (tk ts i).text ∈ [[44]] then (P ts n nt (i + 1)).bind _ else _)=_
  rw [if_pos (by rw [t0]; decide),p1 n (by omega)]
  show Hc ts (P ts n nt) q (acc' ++ [e']) (i + 1 + (Gy e).length)=_
  rw [p2 n q (by omega) (by omega)]
  congr 1
  show _=i + (sg [44] :: (Gy e ++ Oc (Fs l))).length + 1
  simp; omega
theorem pT {e:PE} (h:It 0 (Gy e) e):RdC .expr e:=fun ts i t rest ht hs=>h.a (L:=0) (Nat.le_refl _) (by decide) hs (stops_c ht rest)
theorem jD (kind pos pos':Nat) (n:Int) (name:List UInt8) (off:Bool) {l l':List PE} (h:LikeL l l'):LikeE (.mk kind pos n name off l) (.mk kind pos' n name off l'):=.mk _ _ _ _ _ _ _ _ h
theorem join_cons (e:PE) (l:List PE) (rest:List TK):Ie (Og (Fs (e :: l))) ++ rest=sg [40] :: (Gy e ++ (Oc (Fs l) ++ sg [41] :: rest)):=by
 show sg [40] :: ((Gy e ++ Oc (Fs l)) ++ [sg [41]]) ++ rest=_
 simp
theorem qZ (e:PE) (l:List PE) (i:Nat):i + (Ie (Og (Fs (e :: l)))).length=i + 1 + (Gy e).length + (Oc (Fs l)).length + 1:=by
 show i + (sg [40] :: ((Gy e ++ Oc (Fs l)) ++ [sg [41]])).length=_
 simp; omega
theorem it_call (pos:Nat) {name:List UInt8} (hn:fT name) (l:List PE) (hl:∀ e ∈ l,It 0 (Gy e) e):It 10 (nm name :: Ie (Og (Fs l))) (.mk 13 pos 0 name false l):=by
 refine ⟨aM hn _,fun ts i rest hs=>?_⟩
 have hp:RdA ts i (i + (nm name :: Ie (Og (Fs l))).length) (.mk 13 pos 0 name false l) .primary:=by
  obtain ⟨k0,t0,-,-,h0⟩:=Fi.cons (x:=nm name) (r:=Ie (Og (Fs l)) ++ rest) hs
  have k0:(tk ts i).kind=1:=k0
  have t0:(tk ts i).text=name:=t0
  have key:∃ l',LikeL l l' ∧ ∃ N,∀ n q,N ≤ n → N ≤ q → Jm ts (P ts n .expr) q (i + 1)=.ok l' (i + 1 + (Ie (Og (Fs l))).length):=by
   cases l with
   | nil =>
    obtain ⟨k1,t1,-,-,h1⟩:=Fi.cons (x:=sg [40]) (r:=sg [41] :: rest) h0
    obtain ⟨k2,t2,-,-,-⟩:=h1.cons
    refine ⟨[],.nil,0,fun n q _ _=>?_⟩
    unfold Jm
    rw [Tb (by rw [t1]; decide)]
    show (if (tk ts (i + 1 + 1)).text ∈ [[41]] then _ else _)=_
    rw [if_pos (by rw [t2]; decide)]; rfl
   | cons e l =>
    rw [join_cons] at h0
    obtain ⟨k1,t1,-,-,h1⟩:=h0.cons
    obtain ⟨t,r,ht,er⟩:=X9 l rest
    have h1':=h1
    rw [er] at h1'
    have he:=hl e (List.mem_cons_self ..)
    obtain ⟨e',hx,N1,p1⟩:=pT he ts (i + 1 + 1) t r ht h1'
    obtain ⟨l',hl',N2,p2⟩:=mD l (fun x hx=>pT (hl x (List.mem_cons_of_mem _ hx))) [e] [e'] (.cons _ _ _ _ hx .nil) (i + 1 + 1 + (Gy e).length) h1.skip
    refine ⟨l',hl',N1 + N2,fun n q hn hq=>?_⟩
    unfold Jm
    rw [Tb (by rw [t1]; decide)]
    have hh:(tk ts (i + 1 + 1)).text ≠ [41]:=by rw [h1.head,Jq he.1.ne]; exact he.1.hb
    show (if (tk ts (i + 1 + 1)).text ∈ [[41]] then _ else (P ts n .expr (i + 1 + 1)).bind _)=_
    rw [if_neg (by simpa using hh),p1 n (by omega)]
    show Hc ts (P ts n .expr) q [e'] (i + 1 + 1 + (Gy e).length)=_
    rw [p2 n q (by omega) (by omega),qZ]
  obtain ⟨l',hl',N,hk⟩:=key
  have h40:(tk ts (i + 1)).text=[40]:=by
   rw [h0.head]; rfl
  have ej:i + (nm name :: Ie (Og (Fs l))).length=i + 1 + (Ie (Og (Fs l))).length:=by rw [List.length_cons]; omega
  rw [ej]
  refine ⟨.mk 13 (tk ts i).pos 0 name false l',jD _ _ _ _ _ _ hl',N + 3,fun n hle=>?_⟩
  obtain ⟨m,rfl⟩:∃ m,n=m + 3:=⟨n - 3,by omega⟩
  rw [Mj,k0,if_neg (by decide),if_pos rfl]
  show (if (tk ts (i + 1)).text=[40] then (F8 ts 1 i).bind (fun t j=>(Jm ts (P ts m .expr) m j).bind fun l k=>PR.ok (PE.mk 13 t.pos 0 t.text false l) k) else _)=_
  rw [if_pos h40,Vn k0]
  show (Jm ts (P ts m .expr) m (i + 1)).bind _=_
  rw [hk m m (by omega) (by omega)]
  show PR.ok (PE.mk 13 (tk ts i).pos 0 (tk ts i).text false l') _=_
  rw [t0]
 exact ⟨Zp ((aM hn _).mono (by omega)) hs (Il hs) fun _=>hp,fun _ _=>lO (nt:=.primary) hp⟩
theorem V4 (kind pos:Nat) (n:Int) (name:List UInt8) (off:Bool) (kids:List PE):Gy (.mk kind pos n name off kids)=toksK kind n name off (Fs kids):=by rw [Gy]
theorem lit_rd {e:PE} (h:GoodT e) (hc:G8 e=true):RdC .lit e:=by
 intro ts i t rest ht hs
 cases h with
 | mk kind pos n name off kids hsh hk =>
  have hk2:kind=1 ∨ kind=2:=by simpa [G8] using hc
  rcases hk2 with rfl | rfl
  ·cases hsh with
   | num _ hr =>
    rw [V4] at hs ⊢
    refine ⟨.mk 1 (tk ts i).pos n [] false [],dK _ _ _ _ _ _,1,fun m hm=>?_⟩
    obtain ⟨m,rfl⟩:∃ q,m=q + 1:=⟨m - 1,by omega⟩
    show (if (tk ts i).text ∈ [[116,114,117,101],[102,97,108,115,101]] then _ else K3 ts i)=_
    change Fi ts i (cZ n ++ t :: rest) at hs
    change _=PR.ok _ (i + (cZ n).length)
    unfold cZ at hs ⊢
    by_cases hn:n < 0
    ·rw [if_pos hn] at hs ⊢
     have hs':Fi ts i (sg [45] :: (2,Lib.decDigits n.natAbs,n.natAbs) :: t :: rest):=hs
     rw [if_neg (by rw [hs'.cons.2.1]; decide),neg_y hs' ⟨hr.1,hn⟩]; rfl
    ·rw [if_neg hn] at hs ⊢
     have hs':Fi ts i ((2,Lib.decDigits n.toNat,n.toNat) :: t :: rest):=hs
     have ht:(tk ts i).text=Lib.decDigits n.toNat:=hs'.cons.2.1
     rw [if_neg (by rw [ht]; intro hc; simp at hc; rcases hc with hc | hc <;> exact Y3 _ (by decide) hc),num_y hs' (by omega),num_eq hn]; rfl
  ·cases hsh with
   | truth _ hr =>
    rw [V4] at hs ⊢
    refine ⟨.mk 2 (tk ts i).pos n [] false [],dK _ _ _ _ _ _,1,fun m hm=>?_⟩
    obtain ⟨m,rfl⟩:∃ q,m=q + 1:=⟨m - 1,by omega⟩
    show (if (tk ts i).text ∈ [[116,114,117,101],[102,97,108,115,101]] then PR.ok (Jh (tk ts i)) (i + 1) else K3 ts i)=_
    rcases hr with rfl | rfl
    ·have t0:=(Fi.cons (x:=kw [102,97,108,115,101]) (r:=t :: rest) hs).2.1
     rw [if_pos (by rw [t0]; decide)]
     unfold Jh
     rw [t0]; rfl
    ·have t0:=(Fi.cons (x:=kw [116,114,117,101]) (r:=t :: rest) hs).2.1
     rw [if_pos (by rw [t0]; decide)]
     unfold Jh
     rw [t0]; rfl
theorem it_await0 (pos:Nat) {name:List UInt8} (hn:fT name):It 10 [kw [97,119,97,105,116],nm name] (.mk 14 pos 0 name false []):=by
 have hd:Hd 10 [kw [97,119,97,105,116],nm name]:=by
  refine ⟨fun e=>(by cases e),fun _=>?_,fun _=>?_,fun _=>?_,?_⟩ <;> simp [Ia]
 refine ⟨hd,fun ts i rest hs=>?_⟩
 obtain ⟨k0,t0,-,-,h0⟩:=Fi.cons (x:=kw [97,119,97,105,116]) (r:=nm name :: rest) hs
 obtain ⟨k1,t1,-,-,h1⟩:=h0.cons
 have t1:(tk ts (i + 1)).text=name:=t1
 have hp:Hf 10 rest → RdA ts i (i + 2) (.mk 14 pos 0 name false []) .primary:=fun hst=>by
  refine ⟨.mk 14 (tk ts i).pos 0 name false [],dK _ _ _ _ _ _,1,fun m hm=>?_⟩
  obtain ⟨m,rfl⟩:∃ q,m=q + 1:=⟨m - 1,by omega⟩
  rw [Mj,k0,t0,if_neg (by decide),if_neg (by decide),if_neg (by decide),if_neg (by decide),if_pos rfl,Vn k1]
  show (if (tk ts (i + 1 + 1)).text ∈ [[97,102,116,101,114]] then _ else PR.ok (PE.mk 14 (tk ts i).pos 0 (tk ts (i + 1)).text false []) (i + 1 + 1))=_
  have hne:(tk ts (i + 1 + 1)).text ≠ [97,102,116,101,114]:=by rw [h1.head]; exact hst.ne (k:=10) (by omega) (by decide)
  rw [if_neg (by simpa using hne),t1]
 exact ⟨Zp (hd.mono (by omega)) hs (Il hs) hp,fun _ hst=>lO (nt:=.primary) (hp hst)⟩
theorem it_await1 (pos:Nat) {name:List UInt8} (hn:fT name) (e:PE) (l:List PE) (hl:∀ x ∈ e :: l,RdC .lit x):It 10 (kw [97,119,97,105,116] :: nm name :: kw [97,102,116,101,114] :: Ie (Og (Fs (e :: l)))) (.mk 14 pos 0 name false (e :: l)):=by
 have hd:Hd 10 (kw [97,119,97,105,116] :: nm name :: kw [97,102,116,101,114] :: Ie (Og (Fs (e :: l)))):=by
  refine ⟨fun e=>(by cases e),fun _=>?_,fun _=>?_,fun _=>?_,?_⟩ <;> simp [Ia]
 refine ⟨hd,fun ts i rest hs=>?_⟩
 have hp:RdA ts i (i + (kw [97,119,97,105,116] :: nm name :: kw [97,102,116,101,114] :: Ie (Og (Fs (e :: l)))).length) (.mk 14 pos 0 name false (e :: l)) .primary:=by
  obtain ⟨k0,t0,-,-,h0⟩:=Fi.cons (x:=kw [97,119,97,105,116]) (r:=nm name :: kw [97,102,116,101,114] :: (Ie (Og (Fs (e :: l))) ++ rest)) hs
  obtain ⟨k1,t1,-,-,h1⟩:=h0.cons
  have t1:(tk ts (i + 1)).text=name:=t1
  obtain ⟨k2,t2,-,-,h2⟩:=h1.cons
  rw [join_cons] at h2
  obtain ⟨k3,t3,-,-,h3⟩:=h2.cons
  obtain ⟨t,r,ht,er⟩:=X9 l rest
  have h3':=h3
  rw [er] at h3'
  obtain ⟨e',hx,N1,p1⟩:=hl e (List.mem_cons_self ..) ts (i + 1 + 1 + 1 + 1) t r ht h3'
  obtain ⟨l',hl',N2,p2⟩:=mD l (fun x hx=>hl x (List.mem_cons_of_mem _ hx)) [e] [e'] (.cons _ _ _ _ hx .nil) (i + 1 + 1 + 1 + 1 + (Gy e).length) h3.skip
  have ej:i + (kw [97,119,97,105,116] :: nm name :: kw [97,102,116,101,114] :: Ie (Og (Fs (e :: l)))).length=i + 1 + 1 + 1 + 1 + (Gy e).length + (Oc (Fs l)).length + 1:=by
   have:=qZ e l (i + 3)
   rw [List.length_cons,List.length_cons,List.length_cons]; omega
  rw [ej]
  refine ⟨.mk 14 (tk ts i).pos 0 name false l',jD _ _ _ _ _ _ hl',N1 + N2 + 1,fun n hle=>?_⟩
  obtain ⟨m,rfl⟩:∃ m,n=m + 1:=⟨n - 1,by omega⟩
  rw [Mj,k0,t0,if_neg (by decide),if_neg (by decide),if_neg (by decide),if_neg (by decide),if_pos rfl,Vn k1]
  show (if (tk ts (i + 1 + 1)).text ∈ [[97,102,116,101,114]] then (D7 ts [[40]] (i + 1 + 1 + 1)).bind _ else _)=_
  rw [if_pos (by rw [t2]; decide),Tb (by rw [t3]; decide)]
  show (P ts m .lit (i + 1 + 1 + 1 + 1)).bind _=_
  rw [p1 m (by omega)]
  show (Hc ts (P ts m .lit) m [e'] (i + 1 + 1 + 1 + 1 + (Gy e).length)).bind _=_
  rw [p2 m m (by omega) (by omega)]
  show PR.ok (PE.mk 14 (tk ts i).pos 0 (tk ts (i + 1)).text false l') _=_
  rw [t1]
 exact ⟨Zp (hd.mono (by omega)) hs (Il hs) fun _=>hp,fun _ _=>lO (nt:=.primary) hp⟩
end Go.Ax
noncomputable section
namespace Go.Ax
open Go.RowKit Go.Proofs
set_option maxRecDepth 100000
theorem sign2 {s:List UInt8} (h:s ∈ Ep 2):F1 s=2:=by simp [Ep] at h; rcases h with rfl | rfl <;> decide
theorem sign3 {s:List UInt8} (h:s ∈ Ep 3):F1 s=3:=by simp [Ep] at h; subst h; decide
theorem sign5 {s:List UInt8} (h:s ∈ Ep 5):F1 s=5:=by simp [Ep] at h; rcases h with rfl | rfl | rfl | rfl | rfl | rfl <;> decide
theorem sign6 {s:List UInt8} (h:s ∈ Ep 6):F1 s=6:=by simp [Ep] at h; rcases h with rfl | rfl <;> decide
theorem sign7 {s:List UInt8} (h:s ∈ Ep 7):F1 s=7:=by simp [Ep] at h; rcases h with rfl | rfl | rfl <;> decide
def NumQ (e:PE):Prop:=∀ y r,Gy e=y :: r → y.1=2 → 8 ≤ Dh e → I4 e=1 ∨ Ia r=[119,104,101,110]
theorem P5 {e:PE} (h:∀ y r,Gy e=y :: r → y.1 ≠ 2):NumQ e:=fun y r e1 e2=>absurd e2 (h y r e1)
theorem Mk {e:PE} (h:Dh e < 8):NumQ e:=fun y r e1 e2 e3=>by omega
def gK (e:PE):KJ:=⟨Gy e,Dh e,I4 e⟩
theorem kj_brk {e:PE} {ks:List KJ} {k least:Nat} (hk:ks[k]? = some (gK e)) (h:Dh e < least):kJ ks k least=Ie (Gy e):=by
 unfold kJ; rw [hk]; show (if Dh e < least then _ else _)=_; rw [if_pos h]; rfl
theorem vH {e:PE} {ks:List KJ} {k least:Nat} (hk:ks[k]? = some (gK e)) (h:¬ Dh e < least):kJ ks k least=Gy e:=by
 unfold kJ; rw [hk]; show (if Dh e < least then _ else _)=_; rw [if_neg h]; rfl
theorem sS {e:PE} (h:G8 e=true):8 ≤ Dh e:=by
 cases e with
 | mk kind pos n name off kids =>
  have hk:kind=1 ∨ kind=2:=by simpa [G8] using h
  rcases hk with rfl | rfl
  ·show 8 ≤ (if n < 0 then 8 else 10); split <;> omega
  ·show 8 ≤ 10; omega
theorem back_e {e:PE} (h:GoodT e):It (Dh e) (Gy e) e ∧ NumQ e:=by
 induction h with
 | mk kind pos n name off kids hs hk ih =>
  have kid:∀ {x:PE},x ∈ kids → ∀ (k least:Nat),least ≤ 10 → (Fs kids)[k]? = some (gK x) → It least (kJ (Fs kids) k least) x:=fun hx k least hl he=>it_kid (ih _ hx).1 _ k he least hl
  have et:=V4 kind pos n name off kids
  cases hs with
  | num _ hr =>
   rw [et]
   refine ⟨it_num pos n hr,fun y r e1 e2 e3=>.inl rfl⟩
  | truth _ hr =>
   refine ⟨by rw [et]; exact it_truth pos n hr,P5 fun y r e1=>?_⟩
   rw [et] at e1
   injection e1 with e1 _; subst e1; show (3:Nat) ≠ 2; decide
  | var _ hn =>
   refine ⟨by rw [et]; exact it_var pos hn.1,P5 fun y r e1=>?_⟩
   rw [et] at e1
   injection e1 with e1 _; subst e1; show (1:Nat) ≠ 2; decide
  | neg x =>
   have hx:=ih x (List.mem_cons_self ..)
   have hkk:=kid (List.mem_cons_self ..) 0 8 (by omega) rfl
   have e8:Gy (.mk 4 pos 0 [] false [x])=qM (Fs [x]):=et
   refine ⟨?_,P5 fun y r e1=>?_⟩
   ·rw [e8]
    show It 8 (qM (Fs [x])) _
    unfold qM
    split
    ·exact it_neg pos ((it_brk (hkk.mono (by omega))).mono (by omega)) fun y r e1 e2=>by
      unfold Ie at e1
      injection e1 with e1 _; subst e1; cases e2
    ·rename_i hc
     refine it_neg pos hkk fun y r e1 e2=>?_
     have h1:I4 x ≠ 1:=fun q=>hc (.inl ⟨gK x,rfl,q⟩)
     have h8:(Fs [x])[0]? = some (gK x):=rfl
     by_cases hb:Dh x < 8
     ·rw [kj_brk h8 hb] at e1
      unfold Ie at e1
      injection e1 with e1 _; subst e1; cases e2
     ·rw [vH h8 hb] at e1
      exact (hx.2 y r e1 e2 (by omega)).resolve_left h1
   ·rw [e8] at e1
    unfold qM at e1
    split at e1 <;> (injection e1 with e1 _; subst e1; decide)
  | not x =>
   refine ⟨?_,Mk (show (4:Nat) < 8 by omega)⟩
   rw [et]
   exact it_not pos (kid (List.mem_cons_self ..) 0 4 (by omega) rfl)
  | pre x =>
   refine ⟨?_,P5 fun y r e1=>?_⟩
   ·rw [et]
    exact it_pre pos (kid (List.mem_cons_self ..) 0 8 (by omega) rfl)
   ·rw [et] at e1
    injection e1 with e1 _; subst e1; decide
  | bin _ x y hm =>
   have hx:∀ least,least ≤ 10 → It least (kJ (Fs [x,y]) 0 least) x:=fun least hl=>kid (by simp) 0 least hl rfl
   have hy:∀ least,least ≤ 10 → It least (kJ (Fs [x,y]) 1 least) y:=fun least hl=>kid (by simp) 1 least hl rfl
   have eb:Dh (.mk 6 pos 0 name false [x,y])=F1 name:=rfl
   have e6:Gy (.mk 6 pos 0 name false [x,y])=kJ (Fs [x,y]) 0 (if F1 name=5 then 6 else F1 name) ++ opT name :: kJ (Fs [x,y]) 1 (F1 name + 1):=et
   rcases hm with hm | hm | hm | hm | hm
   ·have e:=sign2 hm
    refine ⟨?_,Mk (by rw [eb,e]; omega)⟩
    rw [eb,e6,e]
    exact aU pos (by omega) (hx 2 (by omega)) (hy 3 (by omega)) hm
   ·have e:=sign3 hm
    refine ⟨?_,Mk (by rw [eb,e]; omega)⟩
    rw [eb,e6,e]
    exact aU pos (by omega) (hx 3 (by omega)) (hy 4 (by omega)) hm
   ·have e:=sign5 hm
    refine ⟨?_,Mk (by rw [eb,e]; omega)⟩
    rw [eb,e6,e]
    exact it_cmp pos (hx 6 (by omega)) (hy 6 (by omega)) hm
   ·have e:=sign6 hm
    refine ⟨?_,Mk (by rw [eb,e]; omega)⟩
    rw [eb,e6,e]
    exact aU pos (by omega) (hx 6 (by omega)) (hy 7 (by omega)) hm
   ·have e:=sign7 hm
    refine ⟨?_,Mk (by rw [eb,e]; omega)⟩
    rw [eb,e6,e]
    exact aU pos (by omega) (hx 7 (by omega)) (hy 8 (by omega)) hm
  | ite x y z =>
   refine ⟨?_,Mk (show (0:Nat) < 8 by omega)⟩
   rw [et]
   exact it_ite pos (kid (by simp) 0 0 (by omega) rfl) (kid (by simp) 1 0 (by omega) rfl) (kid (by simp) 2 0 (by omega) rfl)
  | arrow x y =>
   refine ⟨?_,Mk (show (1:Nat) < 8 by omega)⟩
   rw [et]
   exact it_arrow pos (kid (by simp) 0 2 (by omega) rfl) (kid (by simp) 1 1 (by omega) rfl)
  | fby x y hc =>
   refine ⟨?_,Mk (show (1:Nat) < 8 by omega)⟩
   rw [et]
   have h0:It 2 (kJ (Fs [x,y]) 0 0) x:=by
    rw [vH (e:=x) (k:=0) rfl (by omega)]
    exact (ih x (by simp)).1.mono (by have:=sS hc; omega)
   exact it_fby pos h0 (kid (by simp) 1 1 (by omega) rfl) hc
  | when _ off x hn =>
   refine ⟨?_,fun y r e1 e2 e3=>.inr ?_⟩
   ·rw [et]
    exact it_when pos hn.1 off (kid (by simp) 0 9 (by omega) rfl)
   ·have e9:Gy (.mk 11 pos 0 name off [x])=kJ (Fs [x]) 0 9 ++ Qg name off:=et
    rw [e9] at e1
    have h9:(Fs [x])[0]? = some (gK x):=rfl
    have hw:Ia (Qg name off)=[119,104,101,110]:=by unfold Qg; cases off <;> rfl
    have hx:=ih x (by simp)
    by_cases hb:Dh x < 9
    ·rw [kj_brk h9 hb] at e1
     injection e1 with e1 _; subst e1; cases e2
    ·rw [vH h9 hb] at e1
     cases hq:Gy x with
     | nil=>exact absurd hq hx.1.1.ne
     | cons y' r' =>
      rw [hq] at e1
      injection e1 with e1 e4
      subst e1
      subst e4
      rcases hx.2 _ _ hq e2 (by omega) with hk1 | hk1
      ·have hr:r' = []:=by
        cases hk x (by simp) with
        | mk kind' pos' n' name' off' kids' hs' hk' =>
         have:kind' = 1:=hk1
         subst this
         cases hs' with
         | num _ hr =>
          have e5:Gy (.mk 1 pos' n' [] false [])=cZ n':=V4 ..
          rw [e5] at hq
          unfold cZ at hq
          split at hq
          ·injection hq with q1 q2; subst q1; cases e2
          ·injection hq with q1 q2; exact q2.symm
       rw [hr]; exact hw
      ·have hne:r' ≠ []:=fun q=>by rw [q] at hk1; cases hk1
       exact (Jq hne).trans hk1
  | merge _ x y hn =>
   refine ⟨?_,P5 fun y r e1=>?_⟩
   ·rw [et]
    exact it_merge pos hn.1 (kid (by simp) 0 0 (by omega) rfl) (kid (by simp) 1 0 (by omega) rfl)
   ·rw [et] at e1
    injection e1 with e1 _; subst e1; decide
  | call _ l hn =>
   refine ⟨?_,P5 fun y r e1=>?_⟩
   ·rw [et]
    exact it_call pos hn.1 kids fun e he=>(ih e he).1.mono (Nat.zero_le _)
   ·rw [et] at e1
    injection e1 with e1 _; subst e1; show (1:Nat) ≠ 2; decide
  | await _ l hn hl =>
   cases kids with
   | nil =>
    refine ⟨?_,P5 fun y r e1=>?_⟩
    ·rw [et]; exact it_await0 pos hn.1
    ·rw [et] at e1
     injection e1 with e1 _; subst e1; decide
   | cons e l =>
    refine ⟨?_,P5 fun y r e1=>?_⟩
    ·rw [et]; exact it_await1 pos hn.1 e l fun x hx=>lit_rd (hk x hx) (hl x hx)
    ·rw [et] at e1
     injection e1 with e1 _; subst e1; show (3:Nat) ≠ 2; decide
end Go.Ax
noncomputable section
namespace Go.Ax
open Go.RowKit Go.Proofs
set_option maxRecDepth 100000
def NameL (ts:List Tk):Prop:=∀ i,(tk ts i).kind=1 → Ox (tk ts i).text
def GE (e:PE) (_:Nat):Prop:=GoodT e
def GC (e:PE) (_:Nat):Prop:=GoodT e ∧ G8 e=true
theorem GC.e {x:PR PE} (h:OkR GC x):OkR GE x:=fun a j e=>(h a j e).1
section
variable {ts:List Tk} (hts:NameL ts)
include hts
omit hts in
omit hts in
omit hts in
omit hts in
omit hts in
end
end Go.Ax
noncomputable section
namespace Go.Ax
open Go.RowKit Go.Proofs
set_option maxRecDepth 100000
abbrev finT:TK:=(5,[],0)
structure Lead (w r:List UInt8) (t:TK):Prop where
 next:∀ i,H7 (w ++ r) i=some (⟨t.1,i,t.2.1,t.2.2⟩,0)
 text:t.2.1=w
 ne:w ≠ []
 nb:cnt Ei (w ++ r)=0
 nc:Ef [45,45] (w ++ r)=false
inductive SpT:List UInt8 → List TK → Prop where
 | fin:SpT [] [finT]
 | blank (r:List UInt8) (us:List TK) (h:SpT r us):SpT (32 :: r) us
 | nl (r:List UInt8) (us:List TK) (h:SpT r us):SpT (10 :: r) us
 | tok (w r:List UInt8) (t:TK) (us:List TK) (hl:Lead w r t) (h:SpT r us):SpT (w ++ r) (t :: us)
inductive HeadOk:List UInt8 → List TK → Prop where
 | fin:HeadOk [] [finT]
 | tok (w r:List UInt8) (t:TK) (us:List TK) (hl:Lead w r t) (h:SpT r us):HeadOk (w ++ r) (t :: us)
theorem xO {s:List UInt8} {us:List TK} (h:SpT s us) (N:Nat):Hg (N + 1) s ≤ s.length ∧ HeadOk (s.drop (Hg (N + 1) s)) us:=by
 induction h with
 | fin=>exact ⟨Nat.le_of_eq (Nl rfl rfl _),by rw [Nl rfl rfl]; exact .fin⟩
 | blank r us h ih =>
  rw [Lr (.inl rfl),Nat.add_comm 1,List.drop_succ_cons]
  exact ⟨by simp; exact ih.1,ih.2⟩
 | nl r us h ih =>
  rw [Lr (.inr (.inl rfl)),Nat.add_comm 1,List.drop_succ_cons]
  exact ⟨by simp; exact ih.1,ih.2⟩
 | tok w r t us hl h ih =>
  rw [Nl hl.nb hl.nc]
  exact ⟨Nat.zero_le _,.tok w r t us hl h⟩
theorem sp_len {s:List UInt8} {us:List TK} (h:SpT s us):us.length ≤ s.length + 1:=by
 induction h with
 | fin=>simp
 | blank r us h ih=>simp; omega
 | nl r us h ih=>simp; omega
 | tok w r t us hl h ih =>
  have:=List.length_pos_iff.2 hl.ne
  simp; omega
theorem sp_all {X:List UInt8}:∀ (us:List TK) (m i:Nat),HeadOk (X.drop i) us → i ≤ X.length → us.length ≤ m → ∃ ts,N0 X m i=some (.inr ts) ∧ ts.map absT=us:=by
 intro us
 induction us with
 | nil=>intro m i h; generalize X.drop i=Y at h; cases h
 | cons u us ih =>
  intro m i h hi hm
  obtain ⟨M,rfl⟩:∃ M,m=M + 1:=⟨m - 1,by simp at hm; omega⟩
  generalize hX:X.drop i=Y at h
  cases h with
  | fin =>
   have hl:X.length ≤ i:=List.drop_eq_nil_iff.1 hX
   refine ⟨_,by unfold N0; rw [if_neg (by omega)],rfl⟩
  | tok w r t us hl h =>
   have hlen:X.length - i=w.length + r.length:=by have:=congrArg List.length hX; simpa using this
   have hw:=List.length_pos_iff.2 hl.ne
   have hd2:X.drop (i + w.length)=r:=by rw [← List.drop_drop,hX]; simp
   obtain ⟨h1,h2⟩:=xO h X.length
   obtain ⟨ts,ht,hm2⟩:=ih M (i + w.length + Hg (X.length + 1) r) (by rw [← List.drop_drop,hd2]; exact h2) (by omega) (by simp at hm; omega)
   refine ⟨⟨u.1,i,u.2.1,u.2.2⟩ :: ts,?_,by rw [List.map_cons,hm2]; rfl⟩
   unfold N0
   rw [if_pos (by omega),hX,hl.next i]
   simp only [Aa]
   rw [hl.text,hd2,ht]
theorem sp_lex {X:List UInt8} {us:List TK} (h:SpT X us) (hX:X.length ≤ 4000):∃ ts,Kp X=some (.inr ts) ∧ Fi ts 0 us:=by
 obtain ⟨h1,h2⟩:=xO h X.length
 obtain ⟨ts,ht,hm⟩:=sp_all us (X.length + 1) _ h2 h1 (sp_len h)
 refine ⟨ts,by unfold Kp; rw [if_neg (by omega)]; exact ht,by unfold Fi; rw [List.drop_zero]; exact hm⟩
def Fol (r:List UInt8):Prop:=∀ c q,r=c :: q → Eu c=false
theorem oB (p:UInt8 → Bool) {r:List UInt8} (hr:∀ c q,r=c :: q → p c=false):∀ (w:List UInt8),(∀ b ∈ w,p b=true) → cnt p (w ++ r)=w.length
 | [],_=>by
  show cnt p r=0
  cases r with
  | nil=>rfl
  | cons c q=>unfold cnt; rw [hr c q rfl]; rfl
 | b :: w,h=>by
  show cnt p (b :: (w ++ r))=_
  unfold cnt
  rw [h b (List.mem_cons_self ..),if_pos rfl,oB p hr w (fun x hx=>h x (List.mem_cons_of_mem _ hx))]
  rfl
theorem jJ {w r:List UInt8} (hw:∃ b q,w=b :: q ∧ Gk b=true ∧ ∀ c ∈ q,Eu c=true) (hl:w ∈ J0 ∨ w.length ≤ 30) (hr:Fol r):Lead w r (if w ∈ J0 then kw w else nm w):=by
 obtain ⟨b,q,rfl,hb,hq⟩:=hw
 have hn:=Vl hb
 have hc:cnt Eu ((b :: q) ++ r)=(b :: q).length:=oB Eu hr _ (fun c hc=>by
  rcases List.mem_cons.1 hc with rfl | hc
  ·unfold Eu; rw [hb]; rfl
  ·exact hq c hc)
 refine ⟨fun i=>?_,by split <;> rfl,by simp,Nt hn.1,Qj hn.2⟩
 show (if Gk b then some (Mz ((b :: q) ++ r) i) else _)=_
 rw [if_pos hb]
 unfold Mz
 rw [hc,List.take_left]
 split
 ·rfl
 ·rename_i h
  rw [if_neg (by have:=hl.resolve_left h; omega)]
theorem dec_all (u:Nat):(∀ b ∈ Lib.decDigits u,D1 b=true) ∧ (∀ r,Lib.decDigits u=48 :: r → r=[]) ∧ ∀ a,Io a (Lib.decDigits u)=a * 10 ^ (Lib.decDigits u).length + u:=by
 induction u using Nat.strongRecOn with
 | _ u ih =>
  rw [Lib.decDigits]
  have hd:∀ d,d < 10 → (UInt8.ofNat (48 + d)).toNat=48 + d:=fun d h=>by simp [UInt8.toNat_ofNat]; omega
  have hg:∀ d,d < 10 → D1 (UInt8.ofNat (48 + d))=true:=fun d h=>by unfold D1; rw [hd d h]; simp; omega
  split
  ·rename_i h
   refine ⟨fun b hb=>?_,fun r e=>by injection e with _ e; exact e.symm,fun a=>?_⟩
   ·rw [List.mem_singleton] at hb; subst hb; exact hg u h
   ·show a * 10 + ((UInt8.ofNat (48 + u)).toNat - 48)=a * 10 ^ 1 + u
    rw [hd u h]; omega
  ·rename_i h
   obtain ⟨h1,h2,h3⟩:=ih (u / 10) (by omega)
   have happ:∀ (l:List UInt8) (a:Nat) (c:UInt8),Io a (l ++ [c])=Io a l * 10 + (c.toNat - 48):=by
    intro l
    induction l with
    | nil=>intro a c; rfl
    | cons x l ihl=>intro a c; exact ihl _ c
   refine ⟨fun b hb=>?_,fun r e=>?_,fun a=>?_⟩
   ·rcases List.mem_append.1 hb with hb | hb
    ·exact h1 b hb
    ·rw [List.mem_singleton] at hb; subst hb; exact hg _ (Nat.mod_lt _ (by omega))
   ·exfalso
    obtain ⟨c,q,ec,_⟩:=Q7 (u / 10)
    rw [ec] at e
    injection e with e1 e2
    subst e1
    have hq:=h2 q ec
    subst hq
    have h0:=h3 0
    have e9:Io 0 [48]=0:=rfl
    rw [ec,e9,Nat.zero_mul,Nat.zero_add] at h0
    omega
   ·rw [happ,h3,hd _ (Nat.mod_lt _ (by omega)),List.length_append,List.length_singleton,Nat.pow_succ,Nat.add_mul,Nat.mul_assoc]
    omega
theorem lead_num {u:Nat} (hu:u ≤ 9223372036854775808) {r:List UInt8} (hr:Fol r):Lead (Lib.decDigits u) r (2,Lib.decDigits u,u):=by
 obtain ⟨h1,h2,h3⟩:=dec_all u
 obtain ⟨c,q,e,hc1,hc2⟩:=Q7 u
 have hc:D1 c=true:=h1 c (by rw [e]; exact List.mem_cons_self ..)
 have hn:=Un hc
 have hcnt:cnt D1 (Lib.decDigits u ++ r)=(Lib.decDigits u).length:=oB D1 (fun c q e=>by
  have:=hr c q e
  unfold Eu at this
  simp at this; exact this.2) _ h1
 have hv:Io 0 (Lib.decDigits u)=u:=by rw [h3]; omega
 refine ⟨fun i=>?_,rfl,by rw [e]; simp,by rw [e]; exact Nt hn.1,by rw [e]; exact Qj hn.2.1⟩
 have hnum:Wq (Lib.decDigits u ++ r) i=some (⟨2,i,Lib.decDigits u,u⟩,0):=by
  unfold Wq
  rw [hcnt,List.take_left,hv,if_neg (fun hx=>?_),if_pos (by omega),if_neg (by omega)]
  have h48:c=48:=by
   have:=hx.2; rw [e] at this; simpa using this
  subst h48
  have:=h2 q e
  rw [e,this] at hx
  simp at hx
 rw [e] at hnum ⊢
 show (if Gk c then _ else if D1 c then Wq ((c :: q) ++ r) i else _)=_
 rw [hn.2.2,hc,if_neg (by simp),if_pos rfl,hnum]
theorem lead_any {s r:List UInt8} (h:s ∈ ([[40],[41],[44],[59],[58],[43],[42],[47]]:List (List UInt8))):Lead s r (sg s):=by
 simp only [List.mem_cons,List.not_mem_nil,or_false] at h
 rcases h with rfl | rfl | rfl | rfl | rfl | rfl | rfl | rfl <;> exact ⟨fun i=>by
  show some (Ll _ i)=_
  unfold Ll
  rw [show Fz.find? (fun s=>Ef s _)=some _ from rfl],rfl,by simp,rfl,Qj (by decide)⟩
theorem vF {s r:List UInt8} (h:s ∈ Fz):Lead s (32 :: r) (sg s):=by
 obtain ⟨h1,h2,b,q,e,h3,h4,h5⟩:=hU h (.inl rfl) r
 refine ⟨fun i=>?_,rfl,by rw [e]; simp,?_,h2⟩
 ·have hs:Ll (s ++ 32 :: r) i=(⟨4,i,s,0⟩,0):=by unfold Ll; rw [h1]
  rw [e] at hs ⊢
  show (if Gk b then _ else if D1 b then _ else some (Ll ((b :: q) ++ 32 :: r) i))=_
  rw [h3,h4,hs]; rfl
 ·rw [e]; exact Nt h5
end Go.Ax
noncomputable section
namespace Go.Ax
open Go.RowKit Go.Proofs
set_option maxRecDepth 100000
theorem words_ok:∀ w ∈ J0,∃ b q,w=b :: q ∧ Gk b=true ∧ ∀ c ∈ q,Eu c=true:=by
 have h:∀ w ∈ J0,(match w with | b :: q=>Gk b && q.all Eu | []=>false)=true:=by decide
 intro w hw
 have:=h w hw
 cases w with
 | nil=>cases this
 | cons b q =>
  simp only [Bool.and_eq_true,List.all_eq_true] at this
  exact ⟨b,q,rfl,this.1,this.2⟩
theorem sp_kw {w r:List UInt8} {us:List TK} (hw:w ∈ J0) (hr:Fol r) (h:SpT r us):SpT (w ++ r) (kw w :: us):=by
 have:=jJ (words_ok w hw) (.inl hw) hr
 rw [if_pos hw] at this
 exact .tok _ _ _ _ this h
theorem bO {w r:List UInt8} {us:List TK} (hw:Ox w) (hr:Fol r) (h:SpT r us):SpT (w ++ r) (nm w :: us):=by
 have:=jJ hw.2.1 (.inr hw.2.2) hr
 rw [if_neg hw.1.1] at this
 exact .tok _ _ _ _ this h
theorem sp_num {u:Nat} {r:List UInt8} {us:List TK} (hu:u ≤ 9223372036854775808) (hr:Fol r) (h:SpT r us):SpT (Lib.decDigits u ++ r) ((2,Lib.decDigits u,u) :: us):=.tok _ _ _ _ (lead_num hu hr) h
theorem Vd {s r:List UInt8} {us:List TK} (hs:s ∈ ([[40],[41],[44],[59],[58],[43],[42],[47]]:List (List UInt8))) (h:SpT r us):SpT (s ++ r) (sg s :: us):=.tok _ _ _ _ (lead_any hs) h
theorem sp_sb {s r:List UInt8} {us:List TK} (hs:s ∈ Fz) (h:SpT r us):SpT (s ++ 32 :: r) (sg s :: us):=.tok _ _ _ _ (vF hs) (.blank _ _ h)
theorem P0 {w r:List UInt8} {us:List TK} (hw:w ∈ J0) (h:SpT r us):SpT (w ++ 32 :: r) (kw w :: us):=sp_kw hw (fun c q e=>by injection e with e _; subst e; rfl) (.blank _ _ h)
theorem sp_ob {s r:List UInt8} {us:List TK} (hs:s ∈ J0 ∨ s ∈ Fz) (h:SpT r us):SpT (s ++ 32 :: r) (opT s :: us):=by
 unfold opT
 split
 ·rename_i hw; exact P0 hw h
 ·rename_i hw; exact sp_sb (hs.resolve_left hw) h
theorem bP {r:List UInt8} {us:List TK} (hr:∀ c q,r=c :: q → c ≠ 45 ∧ c ≠ 62) (h:SpT r us):SpT ([45] ++ r) (sg [45] :: us):=by
 refine .tok _ _ _ _ ⟨fun i=>?_,rfl,by simp,rfl,?_⟩ h
 ·show some (Ll _ i)=_
  have e:Fz.find? (fun s=>Ef s ([45] ++ r))=some [45]:=by
   cases r with
   | nil=>rfl
   | cons c q =>
    obtain ⟨h1,h2⟩:=hr c q rfl
    have n1:Ef [45,62] (45 :: c :: q)=false:=by
     unfold Ef; rw [decide_eq_false_iff_not]; intro e; simp at e; exact h2 e
    have n2:∀ (a:UInt8) (b:List UInt8),a ≠ 45 → Ef (a :: b) (45 :: c :: q)=false:=fun a b ha=>by
     unfold Ef; rw [decide_eq_false_iff_not]; intro e; simp at e; exact ha e.1.symm
    have y:Ef [45] (45 :: c :: q)=true:=by unfold Ef; simp
    simp only [Fz,List.singleton_append,List.find?_cons,n1,y,n2 60 _ (by decide),n2 62 _ (by decide),n2 40 _ (by decide),n2 41 _ (by decide),n2 44 _ (by decide),n2 59 _ (by decide),n2 58 _ (by decide),n2 61 _ (by decide),n2 43 _ (by decide)]
  unfold Ll
  rw [e]
 ·cases r with
  | nil=>rfl
  | cons c q =>
   unfold Ef; rw [decide_eq_false_iff_not]; intro e; simp at e; exact (hr c q rfl).1 e
theorem zV {c:UInt8} {q:List UInt8} (h:Eu c=false):Fol (c :: q):=fun c' q' e=>by injection e with e _; subst e; exact h
theorem W9 (q:List UInt8):Fol (32 :: q):=zV rfl
theorem fol_r (q:List UInt8):Fol (41 :: q):=zV rfl
theorem fol_l (q:List UInt8):Fol (40 :: q):=zV rfl
theorem fol_k (q:List UInt8):Fol (44 :: q):=zV rfl
def Xz (t:List UInt8) (us:List TK):Prop:=∀ r vs,Fol r → SpT r vs → SpT (t ++ r) (us ++ vs)
theorem T6 {t:List UInt8} {us:List TK} (h:Xz t us) {r:List UInt8} {vs:List TK} (hr:SpT r vs):SpT (40 :: (t ++ 41 :: r)) (Ie us ++ vs):=by
 have e:Ie us ++ vs=sg [40] :: (us ++ sg [41] :: vs):=by unfold Ie; simp
 rw [e]
 exact Vd (s:=[40]) (by decide) (h _ _ (fol_r _) (Vd (s:=[41]) (by decide) hr))
theorem spelt_kid {e:PE} (h:Xz (Dz e) (Gy e)) {kids:List PE} {k:Nat} (h1:(De kids)[k]? = some ⟨Dz e,Dh e,I4 e⟩) (h2:(Fs kids)[k]? = some (gK e)) (least:Nat):Xz (kT (De kids) k least) (kJ (Fs kids) k least):=by
 intro r vs hf hr
 unfold kT kJ
 rw [h1,h2]
 show SpT ((if Dh e < least then _ else _) ++ r) ((if Dh e < least then _ else _) ++ vs)
 split
 ·have:=T6 h hr
  show SpT (40 :: ((Dz e ++ [41]) ++ r)) _
  rw [List.append_assoc]
  exact this
 ·exact h r vs hf hr
def iH:List PE → List UInt8
 | []=>[]
 | e :: l=>44 :: 32 :: (Dz e ++ iH l)
theorem vJ (e:PE):∀ (l:List PE),Kj (De (e :: l))=Dz e ++ iH l:=by
 intro l
 induction l generalizing e with
 | nil=>show Lib.join [Dz e] [44,32]=_; rw [Lib.join_one]; exact (List.append_nil _).symm
 | cons b l ih =>
  have e2:Kj (De (e :: b :: l))=Dz e ++ ([44,32] ++ Kj (De (b :: l))):=by
   show Lib.join (Dz e :: Dz b :: _) [44,32]=_
   simp [Lib.join,Kj,De]
  rw [e2,ih]; rfl
theorem bM:∀ (l:List PE),(∀ e ∈ l,Xz (Dz e) (Gy e)) → ∀ r vs,SpT r vs → SpT (iH l ++ 41 :: r) (Oc (Fs l) ++ sg [41] :: vs)
 | [],_,r,vs,h=>Vd (s:=[41]) (by decide) h
 | e :: l,he,r,vs,h=>by
  have ih:=bM l (fun x hx=>he x (List.mem_cons_of_mem _ hx)) r vs h
  have hf:Fol (iH l ++ 41 :: r):=by
   cases l with
   | nil=>exact fol_r _
   | cons b l=>exact fol_k _
  have:=he e (List.mem_cons_self ..) _ _ hf ih
  show SpT (44 :: 32 :: ((Dz e ++ iH l) ++ 41 :: r)) (sg [44] :: ((Gy e ++ Oc (Fs l)) ++ sg [41] :: vs))
  rw [List.append_assoc,List.append_assoc]
  exact Vd (s:=[44]) (by decide) (.blank _ _ this)
theorem bN (l:List PE) (he:∀ e ∈ l,Xz (Dz e) (Gy e)) {r:List UInt8} {vs:List TK} (h:SpT r vs):SpT (40 :: (Kj (De l) ++ 41 :: r)) (Ie (Og (Fs l)) ++ vs):=by
 cases l with
 | nil=>exact Vd (s:=[40]) (by decide) (Vd (s:=[41]) (by decide) h)
 | cons e l =>
  rw [vJ,join_cons,List.append_assoc]
  have ih:=bM l (fun x hx=>he x (List.mem_cons_of_mem _ hx)) r vs h
  have hf:Fol (iH l ++ 41 :: r):=by
   cases l with
   | nil=>exact fol_r _
   | cons b l=>exact fol_k _
  exact Vd (s:=[40]) (by decide) (he e (List.mem_cons_self ..) _ _ hf ih)
end Go.Ax
noncomputable section
namespace Go.Ax
open Go.RowKit Go.Proofs
set_option maxRecDepth 100000
def HdL (t:List UInt8) (us:List TK):Prop:=∃ q,t=Ia us ++ q ∧ (Ia us=[45] ∨ ∃ c p,Ia us=c :: p ∧ c ≠ 45 ∧ c ≠ 62)
theorem HdL.ne {t:List UInt8} {us:List TK} (h:HdL t us):us ≠ []:=by
 obtain ⟨q,_,h⟩:=h
 intro e
 subst e
 rcases h with h | ⟨c,p,h,_⟩ <;> cases h
theorem HdL.app {t:List UInt8} {us:List TK} (h:HdL t us) (a:List UInt8) (b:List TK):HdL (t ++ a) (us ++ b):=by
 have hne:=h.ne
 obtain ⟨q,h1,h2⟩:=h
 refine ⟨q ++ a,?_,?_⟩
 ·rw [Jq hne,h1,List.append_assoc]
 ·rw [Jq hne]; exact h2
theorem Q1 {k:Nat} {c:UInt8} {p:List UInt8} {n:Nat} (h:c ≠ 45 ∧ c ≠ 62) (a:List UInt8) (b:List TK):HdL ((c :: p) ++ a) ((k,c :: p,n) :: b):=⟨a,rfl,.inr ⟨c,p,rfl,h⟩⟩
theorem letter_hd {c:UInt8} (h:Gk c=true):c ≠ 45 ∧ c ≠ 62:=by
 have h':∀ x:Fin 256,Gk ⟨⟨x⟩⟩=true → (⟨⟨x⟩⟩:UInt8) ≠ 45 ∧ (⟨⟨x⟩⟩:UInt8) ≠ 62:=by decide
 exact h' ⟨c.toNat,c.toNat_lt⟩ h
theorem rJ {w:List UInt8} (h:Ox w) (a:List UInt8) (b:List TK):HdL (w ++ a) (nm w :: b):=by
 obtain ⟨c,p,rfl,hc,_⟩:=h.2.1
 exact Q1 (letter_hd hc) a b
theorem hdL_kid {e:PE} (h:HdL (Dz e) (Gy e)) {kids:List PE} {k:Nat} (h1:(De kids)[k]? = some ⟨Dz e,Dh e,I4 e⟩) (h2:(Fs kids)[k]? = some (gK e)) (least:Nat):HdL (kT (De kids) k least) (kJ (Fs kids) k least):=by
 unfold kT kJ
 rw [h1,h2]
 show HdL (if Dh e < least then _ else _) (if Dh e < least then _ else _)
 split
 ·exact ⟨_,rfl,.inr ⟨40,[],rfl,by decide,by decide⟩⟩
 ·exact h
theorem hdL_minus {t:List UInt8} {us:List TK} (h:HdL t us):Ef [45] t=true ↔ Ia us=[45]:=by
 obtain ⟨q,h1,h2⟩:=h
 rcases h2 with h2 | ⟨c,p,h2,h3,h4⟩
 ·rw [h1,h2]; exact ⟨fun _=>rfl,fun _=>by unfold Ef; simp⟩
 ·rw [h1,h2]
  refine ⟨fun hs=>?_,fun e=>?_⟩
  ·unfold Ef at hs
   rw [decide_eq_true_iff] at hs
   simp at hs; exact absurd hs h3
  ·injection e with e _; exact absurd e h3
theorem spelt_e {e:PE} (h:GoodT e):Xz (Dz e) (Gy e) ∧ HdL (Dz e) (Gy e):=by
 induction h with
 | mk kind pos n name off kids hs hk ih =>
  have et:=V4 kind pos n name off kids
  have ex:Dz (.mk kind pos n name off kids)=Md kind n name off (De kids):=by rw [Dz]
  have kid:∀ {x:PE},x ∈ kids → ∀ (k least:Nat),(De kids)[k]? = some ⟨Dz x,Dh x,I4 x⟩ → (Fs kids)[k]? = some (gK x) → Xz (kT (De kids) k least) (kJ (Fs kids) k least):=fun hx k least h1 h2=>spelt_kid (ih _ hx).1 h1 h2 least
  have hkid:∀ {x:PE},x ∈ kids → ∀ (k least:Nat),(De kids)[k]? = some ⟨Dz x,Dh x,I4 x⟩ → (Fs kids)[k]? = some (gK x) → HdL (kT (De kids) k least) (kJ (Fs kids) k least):=fun hx k least h1 h2=>hdL_kid (ih _ hx).2 h1 h2 least
  rw [et,ex]
  cases hs with
  | num _ hr =>
   show Xz (Lib.itoa n) (cZ n) ∧ HdL (Lib.itoa n) (cZ n)
   unfold Lib.itoa cZ
   by_cases hn:n < 0
   ·rw [if_pos hn,if_pos hn]
    refine ⟨fun r vs hf hr'=>?_,⟨_,rfl,.inl rfl⟩⟩
    obtain ⟨c,q,e,h1,h2⟩:=Q7 n.natAbs
    exact bP (fun c' q' e'=>by
     rw [e] at e'
     injection e' with e' _
     subst e'
     exact ⟨fun x=>by subst x; simp at h1,fun x=>by subst x; simp at h2⟩) (sp_num (by omega) hf hr')
   ·rw [if_neg hn,if_neg hn]
    refine ⟨fun r vs hf hr'=>sp_num (by omega) hf hr',?_⟩
    obtain ⟨c,q,e,h1,h2⟩:=Q7 n.toNat
    exact ⟨[],(List.append_nil _).symm,.inr ⟨c,q,e,fun x=>by subst x; simp at h1,fun x=>by subst x; simp at h2⟩⟩
  | truth _ hr =>
   rcases hr with rfl | rfl
   ·exact ⟨fun r vs hf hr'=>sp_kw (w:=[102,97,108,115,101]) (by decide) hf hr',Q1 (c:=102) (p:=[97,108,115,101]) (by decide) [] []⟩
   ·exact ⟨fun r vs hf hr'=>sp_kw (w:=[116,114,117,101]) (by decide) hf hr',Q1 (c:=116) (p:=[114,117,101]) (by decide) [] []⟩
  | var _ hn =>
   refine ⟨fun r vs hf hr'=>bO hn hf hr',?_⟩
   have:=rJ hn [] []
   rw [List.append_nil] at this; exact this
  | neg x =>
   have hs:=kid (x:=x) (by simp) 0 8 rfl rfl
   have hd:=hkid (x:=x) (by simp) 0 8 rfl rfl
   show Xz (Yj (De [x])) (qM (Fs [x])) ∧ HdL (Yj (De [x])) (qM (Fs [x]))
   unfold Yj qM
   have hc:((∃ k,(De [x])[0]? = some k ∧ k.kind=1) ∨ Ef [45] (kT (De [x]) 0 8)=true) ↔ ((∃ k,(Fs [x])[0]? = some k ∧ k.kind=1) ∨ Ia (kJ (Fs [x]) 0 8)=[45]):=by
    rw [hdL_minus hd]
    refine or_congr ⟨?_,?_⟩ Iff.rfl
    ·rintro ⟨k,e,h⟩; injection e with e; subst e; exact ⟨_,rfl,h⟩
    ·rintro ⟨k,e,h⟩; injection e with e; subst e; exact ⟨_,rfl,h⟩
   by_cases hq:(∃ k,(Fs [x])[0]? = some k ∧ k.kind=1) ∨ Ia (kJ (Fs [x]) 0 8)=[45]
   ·rw [if_pos hq,if_pos (hc.2 hq)]
    refine ⟨fun r vs hf hr'=>?_,⟨_,rfl,.inl rfl⟩⟩
    have:=T6 hs hr'
    have e:([45,40] ++ kT (De [x]) 0 8 ++ [41]) ++ r=[45] ++ (40 :: (kT (De [x]) 0 8 ++ 41 :: r)):=by simp
    rw [e]
    exact bP (fun c q e=>by injection e with e _; subst e; decide) this
   ·rw [if_neg hq,if_neg (fun h=>hq (hc.1 h))]
    refine ⟨fun r vs hf hr'=>?_,⟨_,rfl,.inl rfl⟩⟩
    have e:([45] ++ kT (De [x]) 0 8) ++ r=[45] ++ (kT (De [x]) 0 8 ++ r):=by simp
    rw [e]
    refine bP (fun c q e=>?_) (hs r vs hf hr')
    obtain ⟨q',h1,h2⟩:=hd
    rcases h2 with h2 | ⟨c',p',h2,h3,h4⟩
    ·exact absurd (.inr h2) hq
    ·rw [h1,h2] at e
     injection e with e _
     subst e; exact ⟨h3,h4⟩
  | not x =>
   have hs:=kid (x:=x) (by simp) 0 4 rfl rfl
   exact ⟨fun r vs hf hr'=>P0 (w:=[110,111,116]) (by decide) (hs r vs hf hr'),Q1 (c:=110) (p:=[111,116]) (by decide) _ _⟩
  | pre x =>
   have hs:=kid (x:=x) (by simp) 0 8 rfl rfl
   exact ⟨fun r vs hf hr'=>P0 (w:=[112,114,101]) (by decide) (hs r vs hf hr'),Q1 (c:=112) (p:=[114,101]) (by decide) _ _⟩
  | bin _ x y hm =>
   have h0:=kid (x:=x) (by simp) 0 (if F1 name=5 then 6 else F1 name) rfl rfl
   have h1:=kid (x:=y) (by simp) 1 (F1 name + 1) rfl rfl
   have hd:=hkid (x:=x) (by simp) 0 (if F1 name=5 then 6 else F1 name) rfl rfl
   have hw:name ∈ J0 ∨ name ∈ Fz:=by
    rcases hm with hm | hm | hm | hm | hm <;> simp [Ep] at hm
    ·rcases hm with rfl | rfl <;> decide
    ·subst hm; decide
    ·rcases hm with rfl | rfl | rfl | rfl | rfl | rfl <;> decide
    ·rcases hm with rfl | rfl <;> decide
    ·rcases hm with rfl | rfl | rfl <;> decide
   refine ⟨fun r vs hf hr'=>?_,?_⟩
   ·show SpT (((((_ ++ [32]) ++ name) ++ [32]) ++ _) ++ r) ((_ ++ opT name :: _) ++ vs)
    simp only [List.append_assoc,List.cons_append,Aj]
    exact h0 _ _ (W9 _) (.blank _ _ (sp_ob hw (h1 r vs hf hr')))
   ·show HdL ((((_ ++ [32]) ++ name) ++ [32]) ++ _) _
    simp only [List.append_assoc]
    exact hd.app _ _
  | ite x y z =>
   have h0:=kid (x:=x) (by simp) 0 0 rfl rfl
   have h1:=kid (x:=y) (by simp) 1 0 rfl rfl
   have h2:=kid (x:=z) (by simp) 2 0 rfl rfl
   refine ⟨fun r vs hf hr'=>?_,?_⟩
   ·show SpT (((((([105,102,32] ++ _) ++ [32,116,104,101,110,32]) ++ _) ++ [32,101,108,115,101,32]) ++ _) ++ r) ((kw [105,102] :: (_ ++ kw [116,104,101,110] :: (_ ++ kw [101,108,115,101] :: _))) ++ vs)
    simp only [List.append_assoc,List.cons_append,Aj]
    exact P0 (w:=[105,102]) (by decide) (h0 _ _ (W9 _) (.blank _ _ (P0 (w:=[116,104,101,110]) (by decide) (h1 _ _ (W9 _) (.blank _ _ (P0 (w:=[101,108,115,101]) (by decide) (h2 r vs hf hr')))))))
   ·exact ⟨_,by show (((([105,102,32] ++ _) ++ [32,116,104,101,110,32]) ++ _) ++ [32,101,108,115,101,32]) ++ _=[105,102] ++ _; simp only [List.append_assoc,List.cons_append,Aj]; rfl,.inr ⟨105,[102],rfl,by decide,by decide⟩⟩
  | arrow x y =>
   have h0:=kid (x:=x) (by simp) 0 2 rfl rfl
   have h1:=kid (x:=y) (by simp) 1 1 rfl rfl
   have hd:=hkid (x:=x) (by simp) 0 2 rfl rfl
   refine ⟨fun r vs hf hr'=>?_,?_⟩
   ·show SpT (((_ ++ [32,45,62,32]) ++ _) ++ r) ((_ ++ sg [45,62] :: _) ++ vs)
    simp only [List.append_assoc,List.cons_append,Aj]
    exact h0 _ _ (W9 _) (.blank _ _ (sp_sb (s:=[45,62]) (by decide) (h1 r vs hf hr')))
   ·show HdL ((_ ++ [32,45,62,32]) ++ _) _
    simp only [List.append_assoc]
    exact hd.app _ _
  | fby x y hc =>
   have h0:=kid (x:=x) (by simp) 0 0 rfl rfl
   have h1:=kid (x:=y) (by simp) 1 1 rfl rfl
   have hd:=hkid (x:=x) (by simp) 0 0 rfl rfl
   refine ⟨fun r vs hf hr'=>?_,?_⟩
   ·show SpT (((_ ++ [32,102,98,121,32]) ++ _) ++ r) ((_ ++ kw [102,98,121] :: _) ++ vs)
    simp only [List.append_assoc,List.cons_append,Aj]
    exact h0 _ _ (W9 _) (.blank _ _ (P0 (w:=[102,98,121]) (by decide) (h1 r vs hf hr')))
   ·show HdL ((_ ++ [32,102,98,121,32]) ++ _) _
    simp only [List.append_assoc]
    exact hd.app _ _
  | when _ off x hn =>
   have h0:=kid (x:=x) (by simp) 0 9 rfl rfl
   have hd:=hkid (x:=x) (by simp) 0 9 rfl rfl
   refine ⟨fun r vs hf hr'=>?_,hd.app _ _⟩
   show SpT ((_ ++ Oy name off) ++ r) ((_ ++ Qg name off) ++ vs)
   rw [List.append_assoc,List.append_assoc]
   cases off with
   | false =>
    exact h0 _ _ (W9 _) (.blank _ _ (P0 (w:=[119,104,101,110]) (by decide) (bO hn hf hr')))
   | true =>
    exact h0 _ _ (W9 _) (.blank _ _ (P0 (w:=[119,104,101,110]) (by decide) (P0 (w:=[110,111,116]) (by decide) (bO hn hf hr'))))
  | merge _ x y hn =>
   have h0:=kid (x:=x) (by simp) 0 0 rfl rfl
   have h1:=kid (x:=y) (by simp) 1 0 rfl rfl
   refine ⟨fun r vs hf hr'=>?_,?_⟩
   ·have b1:=T6 h1 hr'
    have b0:=T6 h0 (.blank _ _ b1)
    show SpT (((((([109,101,114,103,101,32] ++ name) ++ [32,40]) ++ _) ++ [41,32,40]) ++ _) ++ [41] ++ r) ((kw [109,101,114,103,101] :: nm name :: (_ ++ _)) ++ vs)
    simp only [List.append_assoc,List.cons_append,Aj]
    exact P0 (w:=[109,101,114,103,101]) (by decide) (bO hn (W9 _) (.blank _ _ b0))
   ·exact ⟨_,by show ((((([109,101,114,103,101,32] ++ name) ++ [32,40]) ++ _) ++ [41,32,40]) ++ _) ++ [41]=[109,101,114,103,101] ++ _; simp only [List.append_assoc,List.cons_append,Aj]; rfl,.inr ⟨109,[101,114,103,101],rfl,by decide,by decide⟩⟩
  | call _ l hn =>
   refine ⟨fun r vs hf hr'=>?_,?_⟩
   ·have b:=bN kids (fun e he=>(ih e he).1) hr'
    show SpT ((((name ++ [40]) ++ _) ++ [41]) ++ r) (nm name :: (_ ++ vs))
    simp only [List.append_assoc,List.cons_append,Aj]
    exact bO hn (fol_l _) b
   ·show HdL ((((name ++ [40]) ++ _) ++ [41])) _
    simp only [List.append_assoc]
    exact rJ hn _ _
  | await _ l hn hl =>
   cases kids with
   | nil =>
    exact ⟨fun r vs hf hr'=>P0 (w:=[97,119,97,105,116]) (by decide) (bO hn hf hr'),Q1 (c:=97) (p:=[119,97,105,116]) (by decide) _ _⟩
   | cons e l =>
    refine ⟨fun r vs hf hr'=>?_,?_⟩
    ·have b:=bN (e :: l) (fun e he=>(ih e he).1) hr'
     show SpT ((([97,119,97,105,116,32] ++ name) ++ (([32,97,102,116,101,114,32,40] ++ Kj (De (e :: l))) ++ [41])) ++ r) (kw [97,119,97,105,116] :: nm name :: kw [97,102,116,101,114] :: (Ie (Og (Fs (e :: l))) ++ vs))
     simp only [List.append_assoc,List.cons_append,Aj]
     exact P0 (w:=[97,119,97,105,116]) (by decide) (bO hn (W9 _) (.blank _ _ (P0 (w:=[97,102,116,101,114]) (by decide) b)))
    ·exact ⟨_,by show ([97,119,97,105,116,32] ++ name) ++ (([32,97,102,116,101,114,32,40] ++ Kj (De (e :: l))) ++ [41])=[97,119,97,105,116] ++ _; simp only [List.append_assoc,List.cons_append,Aj]; rfl,.inr ⟨97,[119,97,105,116],rfl,by decide,by decide⟩⟩
end Go.Ax
noncomputable section
namespace Go.Ax
open Go.RowKit Go.Proofs
open Classical
set_option maxRecDepth 100000
set_option maxHeartbeats 16000000 in
theorem qD (l:List UInt8) (S:St) (hS:2 ≤ S.next) (hsz:l.length ≤ 1000000) (out:(Nat × Nat) ⊕ List Tk) (hlx:Kp l=some out) (n:Nat) (hn:n ≤ 1000000) (hok:P1 n out ≠ none):WC E1 15 [Bp l] S (lI S (P1 n out)):=by
 refine Dx Tryz.f15 (by kernel_rfl) (by kernel_rfl) (by kernel_rfl) (show (_:Nat) ≤ _ from by show (_:Nat) ≤ _; simp [Tryz.f15]) ?_
 obtain ⟨fn1,hf1⟩:=fnOk44
 have k1:=C4 S exZ
 have k2:=C4 (S.newBox exZ) (Dc 0 0)
 have k12:=k1.trans k2
 have g2:((S.newBox exZ).newBox (Dc 0 0)).mem.get S.next=some (.box exZ):=(Gc (Nat.lt_succ_self _)).trans (Db S _)
 have g3:=Db (S.newBox exZ) (Dc 0 0)
 have hn2:(S.newBox exZ).next=S.next + 1:=rfl
 generalize hS2:(S.newBox exZ).newBox (Dc 0 0)=S2 at k12 g2 g3
 have l2:S.next + 2 ≤ S2.next:=by rw [← hS2]; exact Nat.le_refl _
 simp only [A6,Bl,A4,Bh,A7,Bj,Cb,Bi,A5,Bc,Ba,Cc,A0,A1,Bo,B5,ofOpt,ofOptS,B9,Nat.reduceLT,Nat.reduceEqDiff,Aa,Ab,Ac,Ae,Aj,Ak,Tryz.f15,Fy,Mv,hS2,hf1,hn2]
 refine WC.mono (readE_p l S2 (by omega) hsz out hlx n hn (fun ts e=>?_)) ?_
 ·subst e
  intro e
  exact hok (by unfold P1; simp only [e])
 ·cases hR:P1 n out with
  | none=>exact absurd hR hok
  | some y =>
   cases y with
   | inl e =>
    rintro _ ⟨xs,S3,rfl,hv,k3⟩
    obtain ⟨ys,hys,hyl⟩:=hv.agg
    injection hys with hys
    subst hys
    have p2:=(k3.2 S.next (by omega)).trans g2
    have p3:=(k3.2 (S.next + 1) (by omega)).trans g3
    have q4:C7 Tryz.prog S3 30 (.ptr S.next 0) (.agg xs)=some (S3.put S.next xs):=Sg p2 rfl hyl
    have p4:(S3.put S.next xs).mem.get (S.next + 1)=some (.box (Dc 0 0)):=(Et (by omega)).trans p3
    have q5:C7 Tryz.prog (S3.put S.next xs) 33 (.ptr (S.next + 1) 0) (.agg (Dc 0 0))=some ((S3.put S.next xs).put (S.next + 1) (Dc 0 0)):=O2 p4 rfl rfl
    have p5:((S3.put S.next xs).put (S.next + 1) (Dc 0 0)).mem.get S.next=some (.box xs):=(Et (by omega)).trans (Ek _ _ _)
    have q6:=ld30 p5 hyl
    have q7:=H9 (S3.put S.next xs) (S.next + 1) (Dc 0 0) rfl
    simp only [Bw,A4,Bh,A7,Bj,Eb,En,Bi,Cz,A5,Bc,Ba,A0,A1,ofOpt,B9,Bg,By,Bf,Cl,Nat.reduceLT,Nat.reduceEqDiff,Aa,Ab,Ac,Ag,Ah,Cj,q4,q5,q6,q7]
    exact ⟨xs,_,rfl,hv,Ee (Ee (k12.trans k3) (Nat.le_refl _) _) (Nat.le_succ _) _⟩
   | inr y =>
    rintro _ ⟨S3,rfl,k3⟩
    have p2:=(k3.2 S.next (by omega)).trans g2
    have p3:=(k3.2 (S.next + 1) (by omega)).trans g3
    have q4:C7 Tryz.prog S3 30 (.ptr S.next 0) (.agg exZ)=some (S3.put S.next exZ):=Sg p2 rfl rfl
    have p4:(S3.put S.next exZ).mem.get (S.next + 1)=some (.box (Dc 0 0)):=(Et (by omega)).trans p3
    have q5:C7 Tryz.prog (S3.put S.next exZ) 33 (.ptr (S.next + 1) 0) (.agg (Dc y.1 y.2))=some ((S3.put S.next exZ).put (S.next + 1) (Dc y.1 y.2)):=O2 p4 rfl rfl
    have p5:((S3.put S.next exZ).put (S.next + 1) (Dc y.1 y.2)).mem.get S.next=some (.box exZ):=(Et (by omega)).trans (Ek _ _ _)
    have q6:=ld30 p5 rfl
    have q7:=H9 (S3.put S.next exZ) (S.next + 1) (Dc y.1 y.2) rfl
    simp only [Bw,A4,Bh,A7,Bj,Eb,En,Bi,Cz,A5,Bc,Ba,A0,A1,ofOpt,B9,Bg,By,Bf,Cl,Nat.reduceLT,Nat.reduceEqDiff,Aa,Ab,Ac,Ag,Ah,Cj,q4,q5,q6,q7]
    exact ⟨_,rfl,Ee (Ee (k12.trans k3) (Nat.le_refl _) _) (Nat.le_succ _) _⟩
theorem yL {l:List UInt8} {out:(Nat × Nat) ⊕ List Tk} (h:Kp l=some out):P1 70000 out ≠ none:=by
 cases out with
 | inl x=>exact fun e=>by cases e
 | inr ts =>
  obtain ⟨h1,h2⟩:=Uf h
  have h3:=qU h
  have hs:=X5 h1 (mW h) 70000 (by omega) (by decide) .expr h2
  intro e
  unfold P1 at e
  simp only at e
  cases hp:U4 ts 70000 0 with
  | out=>exact hs.1 hp
  | bad a x=>rw [hp] at e; cases e
  | ok a j=>rw [hp] at e; simp only at e; split at e <;> cases e
def sD (l:List UInt8):R:=if h:∃ r,CT E1 15 [Bp l] St0 r then Classical.choose h else .fail
theorem sC {l:List UInt8} {r:R} (h:CT E1 15 [Bp l] St0 r):sD l=r:=by
 have he:∃ r,CT E1 15 [Bp l] St0 r:=⟨r,h⟩
 unfold sD
 rw [dif_pos he]
 exact (Classical.choose_spec he).one h
def Q4 (args:List AV) (S:St):R:=match args with
 | [.v (.string s)]=>match Lj (sD s.data.toList) with
  | some a=>.ret a S
  | none=>.fail
 | _=>.fail
theorem expr_I8 (base:Nat) (w0:World) (args:List AV) (S:St) (hne:Q4 args S ≠ .fail) (γ:Gh) (w:World) (vs:List Value) (hS:SR base w0 γ S w) (hg:GR γ w gR) (hv:VRL γ w args vs):Calls Tryz.prog 15 vs.toArray w (Ni base w0 γ S w (Q4 args S)):=by
 generalize hr:Q4 args S=r at hne ⊢
 unfold Q4 at hr
 split at hr
 case h_2=>exact absurd hr.symm hne
 rename_i s
 split at hr
 case h_2=>exact absurd hr.symm hne
 rename_i a ha
 subst hr
 by_cases h:∃ r,CT E1 15 [Bp s.data.toList] St0 r
 ·obtain ⟨r,h⟩:=h
  rw [sC h] at ha
  refine memoCT h ha (by kernel_rfl) hS hg (fun γ'=>?_)
  refine ⟨hv.1,fun k h1 h2=>?_⟩
  match k,h1 with
  | 0,_ =>
   have:=hv.2 0 (by simp) h2
   generalize vs[0]=z at this
   cases this
   exact .v _ rfl
 ·unfold sD at ha
  rw [dif_neg h] at ha
  cases ha
theorem expr_is {l:List UInt8} {out:(Nat × Nat) ⊕ List Tk} (hsz:l.length ≤ 1000000) (hlx:Kp l=some out) (S:St) :
  (∃ e xs,P1 70000 out=some (.inl e) ∧ Q4 [Bp l] S=.ret (.tup [.agg xs,.agg (Dc 0 0)]) S ∧ RepE (.agg xs) e) ∨ (∃ y:Nat × Nat,P1 70000 out=some (.inr y) ∧ Q4 [Bp l] S=.ret (.tup [.agg exZ,.agg (Dc y.1 y.2)]) S):=by
 have hok:=yL hlx
 obtain ⟨r,hct,hpost⟩:=qD l St0 (Nat.le_refl _) hsz out hlx 70000 (by omega) hok
 have hp:Q4 [Bp l] S=match Lj (sD l) with | some a=>.ret a S | none=>.fail:=rfl
 rw [sC hct] at hp
 cases hx:P1 70000 out with
 | none=>exact absurd hx hok
 | some x =>
  rw [hx] at hpost
  cases x with
  | inl e =>
   obtain ⟨xs,S',rfl,hi,hk⟩:=hpost
   obtain ⟨h1,h2⟩:=Ua hi
   refine .inl ⟨e,Hy xs,rfl,?_,h2⟩
   rw [hp]
   have e:Lj (.ret (.tup [.agg xs,.agg (Dc 0 0)]) S')=some (.tup [.agg (Hy xs),.agg (Dc 0 0)]):=by
    have h1:Ix xs=true:=h1
    have hf:Kk (.tup [.agg xs,.agg (Dc 0 0)])=true:=by
     show (Ix xs && (Ix (Dc 0 0) && true))=true
     rw [h1]; rfl
    simp only [Lj,hf]
    rfl
   rw [e]
  | inr y =>
   obtain ⟨S',rfl,hk⟩:=hpost
   refine .inr ⟨y,rfl,?_⟩
   rw [hp]
   have e:Lj (.ret (.tup [.agg exZ,.agg (Dc y.1 y.2)]) S')=some (.tup [.agg exZ,.agg (Dc y.1 y.2)]):=rfl
   rw [e]
def Xy (v:AV) (e:PE):Prop:=RepE v e ∧ Fit e ∧ Gj e ≤ 1000000
def gT:List AV → Option AV
 | [v]=>if h:∃ e,Xy v e then some (Bp (Dz (Classical.choose h))) else none
 | _=>none
theorem text_is {v:AV} {e:PE} (h:Xy v e):gT [v]=some (Bp (Dz e)):=by
 have he:∃ e,Xy v e:=⟨e,h⟩
 unfold gT
 simp only
 rw [dif_pos he,cE (Classical.choose_spec he).1 h.1]
theorem tW {w:World} {v:AV} {e:PE} (hg:GR (GhW w) w gF) (h:Xy v e) {x:Value} (hx:VR (GhW w) w v x):Calls Tryz.prog 17 #[x] w fun r w'=>r=.returned (.string ⟨⟨Dz e⟩⟩) ∧ Below w.heap.size w w':=by
 obtain ⟨hr,hf,hs⟩:=h
 obtain ⟨ys,rfl,_⟩:=hr.agg
 obtain ⟨r2,⟨m0,hm⟩,S',rfl,_⟩:=tV hf hs ys hr St0 (Nat.le_refl _)
 have hc:=hm m0 (Nat.le_refl _)
 have:=Nx e6_ok e6_intr (I6 e6_ok e6_mix) m0 w.heap.size w 17 [.agg ys] St0 (by show ckN E6 m0 17 _ St0 ≠ _; rw [hc]; exact fun e=>by cases e) (GhW w) w [x] (SR.whole w) hg (VRL.cons hx (VRL.nil _ _)) (by kernel_rfl)
 rw [show Tv E6 (C1 E6) m0 17 [.agg ys] St0=_ from hc] at this
 refine this.mono fun r w' hx=>?_
 obtain ⟨γ',y,k1,k2,k3,rfl⟩:=hx
 unfold Bp at k3
 cases k3
 exact ⟨rfl,k1.below⟩
def knownI8 (k:Nat):Option (List AV → St → R):=Bool.rec (Bool.rec none (some (F4 gT)) (Nat.beq k 17)) (some Q4) (Nat.beq k 15)
def E8:Env:={ P:=Tryz.prog,G:=G7,F:=E1.F,I:=knownI8,M:=rowM }
theorem e8_ok:E8.Ok:=⟨fun k fn h=>To.fn k fn h⟩
theorem e8_mix:E8.P.follows .mixedOrders=true:=Tp
theorem e8_intr:Kg E8:=fun k g hk base w0 args S hne γ w vs hS hg hv=>by
 have hk2:(Bool.rec (Bool.rec none (some (F4 gT)) (Nat.beq k 17)) (some Q4) (Nat.beq k 15):Option (List AV → St → R))=some g:=hk
 cases hb:Nat.beq k 15 with
 | true =>
  rw [hb] at hk2
  injection hk2 with hk2; subst hk2
  have:k=15:=Nat.eq_of_beq_eq_true hb
  subst this
  exact expr_I8 base w0 args S hne γ w vs hS (G7_R hg) hv
 | false =>
  rw [hb] at hk2
  cases hd:Nat.beq k 17 with
  | false=>rw [hd] at hk2; cases hk2
  | true =>
   rw [hd] at hk2
   injection hk2 with hk2; subst hk2
   have:k=17:=Nat.eq_of_beq_eq_true hd
   subst this
   refine Wh hne hS fun a ha=>?_
   unfold gT at ha
   split at ha
   ·rename_i v
    split at ha
    ·rename_i h
     injection ha with ha; subst ha
     obtain ⟨h1,h2,h3⟩:=Classical.choose_spec h
     generalize Classical.choose h=e at h1 h2 h3
     obtain ⟨f1,f2⟩:=Ua h1
     obtain ⟨hl,hvk⟩:=hv
     match vs,hl with
     | [x],_ =>
      have hx:VR γ w v x:=hvk 0 (by simp) (by simp)
      have hx':VR (GhW w) w (clean v) x:=hx.clean (fun b o ho=>by
       obtain ⟨y,hy⟩:=hS.imc b o ho
       exact ⟨World.block_lt_of_cell? w _ hy,y,hy⟩) f1
      refine (tW (rR hS (G7_F hg)) ⟨f2,h2,h3⟩ hx').mono fun e w' he=>?_
      exact ⟨he.2,_,he.1,fun γ w=>.v _ rfl⟩
    ·cases ha
   ·cases ha
theorem D6:E8.P=Tryz.prog:=_root_.id rfl
theorem Hx:E8.G=G7:=_root_.id rfl
end Go.Ax
noncomputable section
namespace Go.Ax
open Go.RowKit Go.Proofs
set_option maxRecDepth 100000
def fr (k:Int) (b:Bool):T AV:=(T.leaf.set 0 (some (.v (.int .i64 k)))).set 1 (some (.v (.bool b)))
end Go.Ax
