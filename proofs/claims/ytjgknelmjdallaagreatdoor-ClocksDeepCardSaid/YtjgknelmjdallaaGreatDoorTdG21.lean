/- Bf -/
import Derived.Test.YtjgknelmjdallaaGreatDoorTdG20
import Derived.Test.YtjgknelmjdallaaGreatDoorTdG19
set_option linter.unusedVariables false
set_option linter.unusedSimpArgs false
noncomputable section
namespace Go.Ax
open Go.RowKit Go.Proofs
set_option maxRecDepth 100000
def RdC (nt:NT) (e:PE):Prop:=∀ (ts:List Tk) (i:Nat) (t:TK) (rest:List TK),(t=sg [44] ∨ t=sg [41]) → Ek ts i (G6 e ++ t :: rest) → RdA ts i (i + (G6 e).length) e nt
theorem stops_c {t:TK} (h:t=sg [44] ∨ t=sg [41]) (r:List TK):Ij 0 (t :: r):=by
 rcases h with rfl | rfl <;> exact P1 fun k hk=>by unfold Fd; split <;> decide
theorem fZ (l:List PE) (rest:List TK):∃ t r,(t=sg [44] ∨ t=sg [41]) ∧ Qy (F6 l) ++ sg [41] :: rest=t :: r:=by
 cases l with
 | nil=>exact ⟨_,_,.inr rfl,rfl⟩
 | cons e l=>exact ⟨_,_,.inl rfl,rfl⟩
theorem yY {nt:NT} {ts:List Tk} {rest:List TK}:∀ (l:List PE),(∀ e ∈ l,RdC nt e) → ∀ (acc acc':List PE),LikeL acc acc' → ∀ i,Ek ts i (Qy (F6 l) ++ sg [41] :: rest) → ∃ l',LikeL (acc ++ l) l' ∧ ∃ N,∀ n q,N ≤ n → N ≤ q → Ik ts (P ts n nt) q acc' i=.ok l' (i + (Qy (F6 l)).length + 1)
 | [],_,acc,acc',hl,i,hs=>by
  obtain ⟨k0,t0,-,-,-⟩:=Ek.cons (x:=sg [41]) (r:=rest) hs
  refine ⟨acc',by rw [List.append_nil]; exact hl,1,fun n q _ hq=>?_⟩
  obtain ⟨q,rfl⟩:∃ m,q=m + 1:=⟨q - 1,by omega⟩
  show (if (tk ts i).text ∈ [[44]] then _ else (Ef ts [[41]] i).bind fun _ j=>.ok acc' j)=_
  rw [if_neg (by rw [t0]; decide),Jb (by rw [t0]; decide)]; rfl
 | e :: l,he,acc,acc',hl,i,hs=>by
  have hs':Ek ts i (sg [44] :: (G6 e ++ (Qy (F6 l) ++ sg [41] :: rest))):=by
   have:Qy (F6 (e :: l)) ++ sg [41] :: rest=sg [44] :: (G6 e ++ (Qy (F6 l) ++ sg [41] :: rest)):=by
    show sg [44] :: (G6 e ++ Qy (F6 l)) ++ _=_
    rw [List.cons_append,List.append_assoc]
   rw [← this]; exact hs
  obtain ⟨k0,t0,-,-,h1⟩:=hs'.cons
  obtain ⟨t,r,ht,er⟩:=fZ l rest
  have h1':=h1
  rw [er] at h1'
  obtain ⟨e',hx,N1,p1⟩:=he e (List.mem_cons_self ..) ts (i + 1) t r ht h1'
  obtain ⟨l',hl',N2,p2⟩:=yY l (fun x hx=>he x (List.mem_cons_of_mem _ hx)) (acc ++ [e]) (acc' ++ [e']) (hl.snoc hx) (i + 1 + (G6 e).length) h1.skip
  refine ⟨l',by rw [List.append_assoc] at hl'; exact hl',N1 + N2 + 1,fun n q hn hq=>?_⟩
  obtain ⟨q,rfl⟩:∃ m,q=m + 1:=⟨q - 1,by omega⟩
  show (if (tk ts i).text ∈ [[44]] then (P ts n nt (i + 1)).bind _ else _)=_
  rw [if_pos (by rw [t0]; decide),p1 n (by omega)]
  show Ik ts (P ts n nt) q (acc' ++ [e']) (i + 1 + (G6 e).length)=_
  rw [p2 n q (by omega) (by omega)]
  congr 1
  show _=i + (sg [44] :: (G6 e ++ Qy (F6 l))).length + 1
  simp; omega
theorem rdc_expr {e:PE} (h:It 0 (G6 e) e):RdC .expr e:=fun ts i t rest ht hs=>h.a (L:=0) (Nat.le_refl _) (by decide) hs (stops_c ht rest)
theorem vT (kind pos pos':Nat) (n:Int) (name:List UInt8) (off:Bool) {l l':List PE} (h:LikeL l l'):LikeE (.mk kind pos n name off l) (.mk kind pos' n name off l'):=.mk _ _ _ _ _ _ _ _ h
theorem join_cons (e:PE) (l:List PE) (rest:List TK):G5 (Pi (F6 (e :: l))) ++ rest=sg [40] :: (G6 e ++ (Qy (F6 l) ++ sg [41] :: rest)):=by
 show sg [40] :: ((G6 e ++ Qy (F6 l)) ++ [sg [41]]) ++ rest=_
 simp
theorem join_len (e:PE) (l:List PE) (i:Nat):i + (G5 (Pi (F6 (e :: l)))).length=i + 1 + (G6 e).length + (Qy (F6 l)).length + 1:=by
 show i + (sg [40] :: ((G6 e ++ Qy (F6 l)) ++ [sg [41]])).length=_
 simp; omega
theorem it_call (pos:Nat) {name:List UInt8} (hn:kU name) (l:List PE) (hl:∀ e ∈ l,It 0 (G6 e) e):It 10 (nm name :: G5 (Pi (F6 l))) (.mk 13 pos 0 name false l):=by
 refine ⟨mC hn _,fun ts i rest hs=>?_⟩
 have hp:RdA ts i (i + (nm name :: G5 (Pi (F6 l))).length) (.mk 13 pos 0 name false l) .primary:=by
  obtain ⟨k0,t0,-,-,h0⟩:=Ek.cons (x:=nm name) (r:=G5 (Pi (F6 l)) ++ rest) hs
  have k0:(tk ts i).kind=1:=k0
  have t0:(tk ts i).text=name:=t0
  have key:∃ l',LikeL l l' ∧ ∃ N,∀ n q,N ≤ n → N ≤ q → Lg ts (P ts n .expr) q (i + 1)=.ok l' (i + 1 + (G5 (Pi (F6 l))).length):=by
   cases l with
   | nil =>
    obtain ⟨k1,t1,-,-,h1⟩:=Ek.cons (x:=sg [40]) (r:=sg [41] :: rest) h0
    obtain ⟨k2,t2,-,-,-⟩:=h1.cons
    refine ⟨[],.nil,0,fun n q _ _=>?_⟩
    unfold Lg
    rw [Jb (by rw [t1]; decide)]
    show (if (tk ts (i + 1 + 1)).text ∈ [[41]] then _ else _)=_
    rw [if_pos (by rw [t2]; decide)]; rfl
   | cons e l =>
    rw [join_cons] at h0
    obtain ⟨k1,t1,-,-,h1⟩:=h0.cons
    obtain ⟨t,r,ht,er⟩:=fZ l rest
    have h1':=h1
    rw [er] at h1'
    have he:=hl e (List.mem_cons_self ..)
    obtain ⟨e',hx,N1,p1⟩:=rdc_expr he ts (i + 1 + 1) t r ht h1'
    obtain ⟨l',hl',N2,p2⟩:=yY l (fun x hx=>rdc_expr (hl x (List.mem_cons_of_mem _ hx))) [e] [e'] (.cons _ _ _ _ hx .nil) (i + 1 + 1 + (G6 e).length) h1.skip
    refine ⟨l',hl',N1 + N2,fun n q hn hq=>?_⟩
    unfold Lg
    rw [Jb (by rw [t1]; decide)]
    have hh:(tk ts (i + 1 + 1)).text ≠ [41]:=by rw [h1.head,I2 he.1.ne]; exact he.1.hb
    show (if (tk ts (i + 1 + 1)).text ∈ [[41]] then _ else (P ts n .expr (i + 1 + 1)).bind _)=_
    rw [if_neg (by simpa using hh),p1 n (by omega)]
    show Ik ts (P ts n .expr) q [e'] (i + 1 + 1 + (G6 e).length)=_
    rw [p2 n q (by omega) (by omega),join_len]
  obtain ⟨l',hl',N,hk⟩:=key
  have h40:(tk ts (i + 1)).text=[40]:=by
   rw [h0.head]; rfl
  have ej:i + (nm name :: G5 (Pi (F6 l))).length=i + 1 + (G5 (Pi (F6 l))).length:=by rw [List.length_cons]; omega
  rw [ej]
  refine ⟨.mk 13 (tk ts i).pos 0 name false l',vT _ _ _ _ _ _ hl',N + 3,fun n hle=>?_⟩
  obtain ⟨m,rfl⟩:∃ m,n=m + 3:=⟨n - 3,by omega⟩
  rw [N5,k0,if_neg (by decide),if_pos rfl]
  show (if (tk ts (i + 1)).text=[40] then (Gz ts 1 i).bind (fun t j=>(Lg ts (P ts m .expr) m j).bind fun l k=>PR.ok (PE.mk 13 t.pos 0 t.text false l) k) else _)=_
  rw [if_pos h40,Rk k0]
  show (Lg ts (P ts m .expr) m (i + 1)).bind _=_
  rw [hk m m (by omega) (by omega)]
  show PR.ok (PE.mk 13 (tk ts i).pos 0 (tk ts i).text false l') _=_
  rw [t0]
 exact ⟨jS ((mC hn _).mono (by omega)) hs (J5 hs) fun _=>hp,fun _ _=>yF (nt:=.primary) hp⟩
theorem Vr (kind pos:Nat) (n:Int) (name:List UInt8) (off:Bool) (kids:List PE):G6 (.mk kind pos n name off kids)=toksK kind n name off (F6 kids):=by rw [G6]
theorem lit_rd {e:PE} (h:GoodT e) (hc:Iu e=true):RdC .lit e:=by
 intro ts i t rest ht hs
 cases h with
 | mk kind pos n name off kids hsh hk =>
  have hk2:kind=1 ∨ kind=2:=by simpa [Iu] using hc
  rcases hk2 with rfl | rfl
  ·cases hsh with
   | num _ hr =>
    rw [Vr] at hs ⊢
    refine ⟨.mk 1 (tk ts i).pos n [] false [],qA _ _ _ _ _ _,1,fun m hm=>?_⟩
    obtain ⟨m,rfl⟩:∃ q,m=q + 1:=⟨m - 1,by omega⟩
    show (if (tk ts i).text ∈ [[116,114,117,101],[102,97,108,115,101]] then _ else Ni ts i)=_
    change Ek ts i (gL n ++ t :: rest) at hs
    change _=PR.ok _ (i + (gL n).length)
    unfold gL at hs ⊢
    by_cases hn:n < 0
    ·rw [if_pos hn] at hs ⊢
     have hs':Ek ts i (sg [45] :: (2,Lib.decDigits n.natAbs,n.natAbs) :: t :: rest):=hs
     rw [if_neg (by rw [hs'.cons.2.1]; decide),neg_y hs' ⟨hr.1,hn⟩]; rfl
    ·rw [if_neg hn] at hs ⊢
     have hs':Ek ts i ((2,Lib.decDigits n.toNat,n.toNat) :: t :: rest):=hs
     have ht:(tk ts i).text=Lib.decDigits n.toNat:=hs'.cons.2.1
     rw [if_neg (by rw [ht]; intro hc; simp at hc; rcases hc with hc | hc <;> exact bA _ (by decide) hc),num_y hs' (by omega),num_eq hn]; rfl
  ·cases hsh with
   | truth _ hr =>
    rw [Vr] at hs ⊢
    refine ⟨.mk 2 (tk ts i).pos n [] false [],qA _ _ _ _ _ _,1,fun m hm=>?_⟩
    obtain ⟨m,rfl⟩:∃ q,m=q + 1:=⟨m - 1,by omega⟩
    show (if (tk ts i).text ∈ [[116,114,117,101],[102,97,108,115,101]] then PR.ok (Lc (tk ts i)) (i + 1) else Ni ts i)=_
    rcases hr with rfl | rfl
    ·have t0:=(Ek.cons (x:=kw [102,97,108,115,101]) (r:=t :: rest) hs).2.1
     rw [if_pos (by rw [t0]; decide)]
     unfold Lc
     rw [t0]; rfl
    ·have t0:=(Ek.cons (x:=kw [116,114,117,101]) (r:=t :: rest) hs).2.1
     rw [if_pos (by rw [t0]; decide)]
     unfold Lc
     rw [t0]; rfl
theorem it_await0 (pos:Nat) {name:List UInt8} (hn:kU name):It 10 [kw [97,119,97,105,116],nm name] (.mk 14 pos 0 name false []):=by
 have hd:Hd 10 [kw [97,119,97,105,116],nm name]:=by
  refine ⟨fun e=>(by cases e),fun _=>?_,fun _=>?_,fun _=>?_,?_⟩ <;> simp [Ie]
 refine ⟨hd,fun ts i rest hs=>?_⟩
 obtain ⟨k0,t0,-,-,h0⟩:=Ek.cons (x:=kw [97,119,97,105,116]) (r:=nm name :: rest) hs
 obtain ⟨k1,t1,-,-,h1⟩:=h0.cons
 have t1:(tk ts (i + 1)).text=name:=t1
 have hp:Ij 10 rest → RdA ts i (i + 2) (.mk 14 pos 0 name false []) .primary:=fun hst=>by
  refine ⟨.mk 14 (tk ts i).pos 0 name false [],qA _ _ _ _ _ _,1,fun m hm=>?_⟩
  obtain ⟨m,rfl⟩:∃ q,m=q + 1:=⟨m - 1,by omega⟩
  rw [N5,k0,t0,if_neg (by decide),if_neg (by decide),if_neg (by decide),if_neg (by decide),if_pos rfl,Rk k1]
  show (if (tk ts (i + 1 + 1)).text ∈ [[97,102,116,101,114]] then _ else PR.ok (PE.mk 14 (tk ts i).pos 0 (tk ts (i + 1)).text false []) (i + 1 + 1))=_
  have hne:(tk ts (i + 1 + 1)).text ≠ [97,102,116,101,114]:=by rw [h1.head]; exact hst.ne (k:=10) (by omega) (by decide)
  rw [if_neg (by simpa using hne),t1]
 exact ⟨jS (hd.mono (by omega)) hs (J5 hs) hp,fun _ hst=>yF (nt:=.primary) (hp hst)⟩
theorem it_await1 (pos:Nat) {name:List UInt8} (hn:kU name) (e:PE) (l:List PE) (hl:∀ x ∈ e :: l,RdC .lit x):It 10 (kw [97,119,97,105,116] :: nm name :: kw [97,102,116,101,114] :: G5 (Pi (F6 (e :: l)))) (.mk 14 pos 0 name false (e :: l)):=by
 have hd:Hd 10 (kw [97,119,97,105,116] :: nm name :: kw [97,102,116,101,114] :: G5 (Pi (F6 (e :: l)))):=by
  refine ⟨fun e=>(by cases e),fun _=>?_,fun _=>?_,fun _=>?_,?_⟩ <;> simp [Ie]
 refine ⟨hd,fun ts i rest hs=>?_⟩
 have hp:RdA ts i (i + (kw [97,119,97,105,116] :: nm name :: kw [97,102,116,101,114] :: G5 (Pi (F6 (e :: l)))).length) (.mk 14 pos 0 name false (e :: l)) .primary:=by
  obtain ⟨k0,t0,-,-,h0⟩:=Ek.cons (x:=kw [97,119,97,105,116]) (r:=nm name :: kw [97,102,116,101,114] :: (G5 (Pi (F6 (e :: l))) ++ rest)) hs
  obtain ⟨k1,t1,-,-,h1⟩:=h0.cons
  have t1:(tk ts (i + 1)).text=name:=t1
  obtain ⟨k2,t2,-,-,h2⟩:=h1.cons
  rw [join_cons] at h2
  obtain ⟨k3,t3,-,-,h3⟩:=h2.cons
  obtain ⟨t,r,ht,er⟩:=fZ l rest
  have h3':=h3
  rw [er] at h3'
  obtain ⟨e',hx,N1,p1⟩:=hl e (List.mem_cons_self ..) ts (i + 1 + 1 + 1 + 1) t r ht h3'
  obtain ⟨l',hl',N2,p2⟩:=yY l (fun x hx=>hl x (List.mem_cons_of_mem _ hx)) [e] [e'] (.cons _ _ _ _ hx .nil) (i + 1 + 1 + 1 + 1 + (G6 e).length) h3.skip
  have ej:i + (kw [97,119,97,105,116] :: nm name :: kw [97,102,116,101,114] :: G5 (Pi (F6 (e :: l)))).length=i + 1 + 1 + 1 + 1 + (G6 e).length + (Qy (F6 l)).length + 1:=by
   have:=join_len e l (i + 3)
   rw [List.length_cons,List.length_cons,List.length_cons]; omega
  rw [ej]
  refine ⟨.mk 14 (tk ts i).pos 0 name false l',vT _ _ _ _ _ _ hl',N1 + N2 + 1,fun n hle=>?_⟩
  obtain ⟨m,rfl⟩:∃ m,n=m + 1:=⟨n - 1,by omega⟩
  rw [N5,k0,t0,if_neg (by decide),if_neg (by decide),if_neg (by decide),if_neg (by decide),if_pos rfl,Rk k1]
  show (if (tk ts (i + 1 + 1)).text ∈ [[97,102,116,101,114]] then (Ef ts [[40]] (i + 1 + 1 + 1)).bind _ else _)=_
  rw [if_pos (by rw [t2]; decide),Jb (by rw [t3]; decide)]
  show (P ts m .lit (i + 1 + 1 + 1 + 1)).bind _=_
  rw [p1 m (by omega)]
  show (Ik ts (P ts m .lit) m [e'] (i + 1 + 1 + 1 + 1 + (G6 e).length)).bind _=_
  rw [p2 m m (by omega) (by omega)]
  show PR.ok (PE.mk 14 (tk ts i).pos 0 (tk ts (i + 1)).text false l') _=_
  rw [t1]
 exact ⟨jS (hd.mono (by omega)) hs (J5 hs) fun _=>hp,fun _ _=>yF (nt:=.primary) hp⟩
theorem sign2 {s:List UInt8} (h:s ∈ Fd 2):Gy s=2:=by simp [Fd] at h; rcases h with rfl | rfl <;> decide
theorem sign3 {s:List UInt8} (h:s ∈ Fd 3):Gy s=3:=by simp [Fd] at h; subst h; decide
theorem sign5 {s:List UInt8} (h:s ∈ Fd 5):Gy s=5:=by simp [Fd] at h; rcases h with rfl | rfl | rfl | rfl | rfl | rfl <;> decide
theorem sign6 {s:List UInt8} (h:s ∈ Fd 6):Gy s=6:=by simp [Fd] at h; rcases h with rfl | rfl <;> decide
theorem sign7 {s:List UInt8} (h:s ∈ Fd 7):Gy s=7:=by simp [Fd] at h; rcases h with rfl | rfl | rfl <;> decide
def NumQ (e:PE):Prop:=∀ y r,G6 e=y :: r → y.1=2 → 8 ≤ D1 e → Ic e=1 ∨ Ie r=[119,104,101,110]
theorem Ti {e:PE} (h:∀ y r,G6 e=y :: r → y.1 ≠ 2):NumQ e:=fun y r e1 e2=>absurd e2 (h y r e1)
theorem Pf {e:PE} (h:D1 e < 8):NumQ e:=fun y r e1 e2 e3=>by omega
def sV (e:PE):KJ:=⟨G6 e,D1 e,Ic e⟩
theorem kj_brk {e:PE} {ks:List KJ} {k least:Nat} (hk:ks[k]? = some (sV e)) (h:D1 e < least):kJ ks k least=G5 (G6 e):=by
 unfold kJ; rw [hk]; show (if D1 e < least then _ else _)=_; rw [if_pos h]; rfl
theorem kj_own {e:PE} {ks:List KJ} {k least:Nat} (hk:ks[k]? = some (sV e)) (h:¬ D1 e < least):kJ ks k least=G6 e:=by
 unfold kJ; rw [hk]; show (if D1 e < least then _ else _)=_; rw [if_neg h]; rfl
theorem binds_const {e:PE} (h:Iu e=true):8 ≤ D1 e:=by
 cases e with
 | mk kind pos n name off kids =>
  have hk:kind=1 ∨ kind=2:=by simpa [Iu] using h
  rcases hk with rfl | rfl
  ·show 8 ≤ (if n < 0 then 8 else 10); split <;> omega
  ·show 8 ≤ 10; omega
theorem back_e {e:PE} (h:GoodT e):It (D1 e) (G6 e) e ∧ NumQ e:=by
 induction h with
 | mk kind pos n name off kids hs hk ih =>
  have kid:∀ {x:PE},x ∈ kids → ∀ (k least:Nat),least ≤ 10 → (F6 kids)[k]? = some (sV x) → It least (kJ (F6 kids) k least) x:=fun hx k least hl he=>it_kid (ih _ hx).1 _ k he least hl
  have et:=Vr kind pos n name off kids
  cases hs with
  | num _ hr =>
   rw [et]
   refine ⟨it_num pos n hr,fun y r e1 e2 e3=>.inl rfl⟩
  | truth _ hr =>
   refine ⟨by rw [et]; exact it_truth pos n hr,Ti fun y r e1=>?_⟩
   rw [et] at e1
   injection e1 with e1 _; subst e1; show (3:Nat) ≠ 2; decide
  | var _ hn =>
   refine ⟨by rw [et]; exact it_var pos hn.1,Ti fun y r e1=>?_⟩
   rw [et] at e1
   injection e1 with e1 _; subst e1; show (1:Nat) ≠ 2; decide
  | neg x =>
   have hx:=ih x (List.mem_cons_self ..)
   have hkk:=kid (List.mem_cons_self ..) 0 8 (by omega) rfl
   have e8:G6 (.mk 4 pos 0 [] false [x])=tI (F6 [x]):=et
   refine ⟨?_,Ti fun y r e1=>?_⟩
   ·rw [e8]
    show It 8 (tI (F6 [x])) _
    unfold tI
    split
    ·exact it_neg pos ((it_brk (hkk.mono (by omega))).mono (by omega)) fun y r e1 e2=>by
      unfold G5 at e1
      injection e1 with e1 _; subst e1; cases e2
    ·rename_i hc
     refine it_neg pos hkk fun y r e1 e2=>?_
     have h1:Ic x ≠ 1:=fun q=>hc (.inl ⟨sV x,rfl,q⟩)
     have h8:(F6 [x])[0]? = some (sV x):=rfl
     by_cases hb:D1 x < 8
     ·rw [kj_brk h8 hb] at e1
      unfold G5 at e1
      injection e1 with e1 _; subst e1; cases e2
     ·rw [kj_own h8 hb] at e1
      exact (hx.2 y r e1 e2 (by omega)).resolve_left h1
   ·rw [e8] at e1
    unfold tI at e1
    split at e1 <;> (injection e1 with e1 _; subst e1; decide)
  | not x =>
   refine ⟨?_,Pf (show (4:Nat) < 8 by omega)⟩
   rw [et]
   exact it_not pos (kid (List.mem_cons_self ..) 0 4 (by omega) rfl)
  | pre x =>
   refine ⟨?_,Ti fun y r e1=>?_⟩
   ·rw [et]
    exact it_pre pos (kid (List.mem_cons_self ..) 0 8 (by omega) rfl)
   ·rw [et] at e1
    injection e1 with e1 _; subst e1; decide
  | bin _ x y hm =>
   have hx:∀ least,least ≤ 10 → It least (kJ (F6 [x,y]) 0 least) x:=fun least hl=>kid (by simp) 0 least hl rfl
   have hy:∀ least,least ≤ 10 → It least (kJ (F6 [x,y]) 1 least) y:=fun least hl=>kid (by simp) 1 least hl rfl
   have eb:D1 (.mk 6 pos 0 name false [x,y])=Gy name:=rfl
   have e6:G6 (.mk 6 pos 0 name false [x,y])=kJ (F6 [x,y]) 0 (if Gy name=5 then 6 else Gy name) ++ opT name :: kJ (F6 [x,y]) 1 (Gy name + 1):=et
   rcases hm with hm | hm | hm | hm | hm
   ·have e:=sign2 hm
    refine ⟨?_,Pf (by rw [eb,e]; omega)⟩
    rw [eb,e6,e]
    exact mR pos (by omega) (hx 2 (by omega)) (hy 3 (by omega)) hm
   ·have e:=sign3 hm
    refine ⟨?_,Pf (by rw [eb,e]; omega)⟩
    rw [eb,e6,e]
    exact mR pos (by omega) (hx 3 (by omega)) (hy 4 (by omega)) hm
   ·have e:=sign5 hm
    refine ⟨?_,Pf (by rw [eb,e]; omega)⟩
    rw [eb,e6,e]
    exact it_cmp pos (hx 6 (by omega)) (hy 6 (by omega)) hm
   ·have e:=sign6 hm
    refine ⟨?_,Pf (by rw [eb,e]; omega)⟩
    rw [eb,e6,e]
    exact mR pos (by omega) (hx 6 (by omega)) (hy 7 (by omega)) hm
   ·have e:=sign7 hm
    refine ⟨?_,Pf (by rw [eb,e]; omega)⟩
    rw [eb,e6,e]
    exact mR pos (by omega) (hx 7 (by omega)) (hy 8 (by omega)) hm
  | ite x y z =>
   refine ⟨?_,Pf (show (0:Nat) < 8 by omega)⟩
   rw [et]
   exact it_ite pos (kid (by simp) 0 0 (by omega) rfl) (kid (by simp) 1 0 (by omega) rfl) (kid (by simp) 2 0 (by omega) rfl)
  | arrow x y =>
   refine ⟨?_,Pf (show (1:Nat) < 8 by omega)⟩
   rw [et]
   exact it_arrow pos (kid (by simp) 0 2 (by omega) rfl) (kid (by simp) 1 1 (by omega) rfl)
  | fby x y hc =>
   refine ⟨?_,Pf (show (1:Nat) < 8 by omega)⟩
   rw [et]
   have h0:It 2 (kJ (F6 [x,y]) 0 0) x:=by
    rw [kj_own (e:=x) (k:=0) rfl (by omega)]
    exact (ih x (by simp)).1.mono (by have:=binds_const hc; omega)
   exact it_fby pos h0 (kid (by simp) 1 1 (by omega) rfl) hc
  | when _ off x hn =>
   refine ⟨?_,fun y r e1 e2 e3=>.inr ?_⟩
   ·rw [et]
    exact it_when pos hn.1 off (kid (by simp) 0 9 (by omega) rfl)
   ·have e9:G6 (.mk 11 pos 0 name off [x])=kJ (F6 [x]) 0 9 ++ Ox name off:=et
    rw [e9] at e1
    have h9:(F6 [x])[0]? = some (sV x):=rfl
    have hw:Ie (Ox name off)=[119,104,101,110]:=by unfold Ox; cases off <;> rfl
    have hx:=ih x (by simp)
    by_cases hb:D1 x < 9
    ·rw [kj_brk h9 hb] at e1
     injection e1 with e1 _; subst e1; cases e2
    ·rw [kj_own h9 hb] at e1
     cases hq:G6 x with
     | nil=>exact absurd hq hx.1.1.ne
     | cons y' r' =>
      rw [hq] at e1
      injection e1 with e1 e4
      subst e1
      subst e4
      rcases hx.2 _ _ hq e2 (by omega) with hk1 | hk1
      ·have hr:r' = []:=by
        cases hk x (by simp) with
        | mk kind' pos' n' name' off' kids' hs' hk' =>
         have:kind' = 1:=hk1
         subst this
         cases hs' with
         | num _ hr =>
          have e5:G6 (.mk 1 pos' n' [] false [])=gL n':=Vr ..
          rw [e5] at hq
          unfold gL at hq
          split at hq
          ·injection hq with q1 q2; subst q1; cases e2
          ·injection hq with q1 q2; exact q2.symm
       rw [hr]; exact hw
      ·have hne:r' ≠ []:=fun q=>by rw [q] at hk1; cases hk1
       exact (I2 hne).trans hk1
  | merge _ x y hn =>
   refine ⟨?_,Ti fun y r e1=>?_⟩
   ·rw [et]
    exact it_merge pos hn.1 (kid (by simp) 0 0 (by omega) rfl) (kid (by simp) 1 0 (by omega) rfl)
   ·rw [et] at e1
    injection e1 with e1 _; subst e1; decide
  | call _ l hn =>
   refine ⟨?_,Ti fun y r e1=>?_⟩
   ·rw [et]
    exact it_call pos hn.1 kids fun e he=>(ih e he).1.mono (Nat.zero_le _)
   ·rw [et] at e1
    injection e1 with e1 _; subst e1; show (1:Nat) ≠ 2; decide
  | await _ l hn hl =>
   cases kids with
   | nil =>
    refine ⟨?_,Ti fun y r e1=>?_⟩
    ·rw [et]; exact it_await0 pos hn.1
    ·rw [et] at e1
     injection e1 with e1 _; subst e1; decide
   | cons e l =>
    refine ⟨?_,Ti fun y r e1=>?_⟩
    ·rw [et]; exact it_await1 pos hn.1 e l fun x hx=>lit_rd (hk x hx) (hl x hx)
    ·rw [et] at e1
     injection e1 with e1 _; subst e1; show (3:Nat) ≠ 2; decide
def NameL (ts:List Tk):Prop:=∀ i,(tk ts i).kind=1 → Gt (tk ts i).text
def GE (e:PE) (_:Nat):Prop:=GoodT e
def GC (e:PE) (_:Nat):Prop:=GoodT e ∧ Iu e=true
theorem GC.e {x:PR PE} (h:OkR GC x):OkR GE x:=fun a j e=>(h a j e).1
section
variable {ts:List Tk} (hts:NameL ts)
include hts
omit hts in
omit hts in
omit hts in
omit hts in
omit hts in
end
abbrev finT:TK:=(5,[],0)
structure Lead (w r:List UInt8) (t:TK):Prop where
 next:∀ i,Ja (w ++ r) i=some (⟨t.1,i,t.2.1,t.2.2⟩,0)
 text:t.2.1=w
 ne:w ≠ []
 nb:cnt E4 (w ++ r)=0
 nc:Ey [45,45] (w ++ r)=false
inductive SpT:List UInt8 → List TK → Prop where
 | fin:SpT [] [finT]
 | blank (r:List UInt8) (us:List TK) (h:SpT r us):SpT (32 :: r) us
 | nl (r:List UInt8) (us:List TK) (h:SpT r us):SpT (10 :: r) us
 | tok (w r:List UInt8) (t:TK) (us:List TK) (hl:Lead w r t) (h:SpT r us):SpT (w ++ r) (t :: us)
inductive HeadOk:List UInt8 → List TK → Prop where
 | fin:HeadOk [] [finT]
 | tok (w r:List UInt8) (t:TK) (us:List TK) (hl:Lead w r t) (h:SpT r us):HeadOk (w ++ r) (t :: us)
theorem sp_skip {s:List UInt8} {us:List TK} (h:SpT s us) (N:Nat):Im (N + 1) s ≤ s.length ∧ HeadOk (s.drop (Im (N + 1) s)) us:=by
 induction h with
 | fin=>exact ⟨Nat.le_of_eq (P3 rfl rfl _),by rw [P3 rfl rfl]; exact .fin⟩
 | blank r us h ih =>
  rw [Oe (.inl rfl),Nat.add_comm 1,List.drop_succ_cons]
  exact ⟨by simp; exact ih.1,ih.2⟩
 | nl r us h ih =>
  rw [Oe (.inr (.inl rfl)),Nat.add_comm 1,List.drop_succ_cons]
  exact ⟨by simp; exact ih.1,ih.2⟩
 | tok w r t us hl h ih =>
  rw [P3 hl.nb hl.nc]
  exact ⟨Nat.zero_le _,.tok w r t us hl h⟩
theorem sp_len {s:List UInt8} {us:List TK} (h:SpT s us):us.length ≤ s.length + 1:=by
 induction h with
 | fin=>simp
 | blank r us h ih=>simp; omega
 | nl r us h ih=>simp; omega
 | tok w r t us hl h ih =>
  have:=List.length_pos_iff.2 hl.ne
  simp; omega
theorem sp_all {X:List UInt8}:∀ (us:List TK) (m i:Nat),HeadOk (X.drop i) us → i ≤ X.length → us.length ≤ m → ∃ ts,Qk X m i=some (.inr ts) ∧ ts.map absT=us:=by
 intro us
 induction us with
 | nil=>intro m i h; generalize X.drop i=Y at h; cases h
 | cons u us ih =>
  intro m i h hi hm
  obtain ⟨M,rfl⟩:∃ M,m=M + 1:=⟨m - 1,by simp at hm; omega⟩
  generalize hX:X.drop i=Y at h
  cases h with
  | fin =>
   have hl:X.length ≤ i:=List.drop_eq_nil_iff.1 hX
   refine ⟨_,by unfold Qk; rw [if_neg (by omega)],rfl⟩
  | tok w r t us hl h =>
   have hlen:X.length - i=w.length + r.length:=by have:=congrArg List.length hX; simpa using this
   have hw:=List.length_pos_iff.2 hl.ne
   have hd2:X.drop (i + w.length)=r:=by rw [← List.drop_drop,hX]; simp
   obtain ⟨h1,h2⟩:=sp_skip h X.length
   obtain ⟨ts,ht,hm2⟩:=ih M (i + w.length + Im (X.length + 1) r) (by rw [← List.drop_drop,hd2]; exact h2) (by omega) (by simp at hm; omega)
   refine ⟨⟨u.1,i,u.2.1,u.2.2⟩ :: ts,?_,by rw [List.map_cons,hm2]; rfl⟩
   unfold Qk
   rw [if_pos (by omega),hX,hl.next i]
   simp only [Aa]
   rw [hl.text,hd2,ht]
theorem sp_lex {X:List UInt8} {us:List TK} (h:SpT X us) (hX:X.length ≤ 4000):∃ ts,Kt X=some (.inr ts) ∧ Ek ts 0 us:=by
 obtain ⟨h1,h2⟩:=sp_skip h X.length
 obtain ⟨ts,ht,hm⟩:=sp_all us (X.length + 1) _ h2 h1 (sp_len h)
 refine ⟨ts,by unfold Kt; rw [if_neg (by omega)]; exact ht,by unfold Ek; rw [List.drop_zero]; exact hm⟩
def Fol (r:List UInt8):Prop:=∀ c q,r=c :: q → Es c=false
theorem cnt_fol (p:UInt8 → Bool) {r:List UInt8} (hr:∀ c q,r=c :: q → p c=false):∀ (w:List UInt8),(∀ b ∈ w,p b=true) → cnt p (w ++ r)=w.length
 | [],_=>by
  show cnt p r=0
  cases r with
  | nil=>rfl
  | cons c q=>unfold cnt; rw [hr c q rfl]; rfl
 | b :: w,h=>by
  show cnt p (b :: (w ++ r))=_
  unfold cnt
  rw [h b (List.mem_cons_self ..),if_pos rfl,cnt_fol p hr w (fun x hx=>h x (List.mem_cons_of_mem _ hx))]
  rfl
theorem vY {w r:List UInt8} (hw:∃ b q,w=b :: q ∧ G0 b=true ∧ ∀ c ∈ q,Es c=true) (hl:w ∈ La ∨ w.length ≤ 30) (hr:Fol r):Lead w r (if w ∈ La then kw w else nm w):=by
 obtain ⟨b,q,rfl,hb,hq⟩:=hw
 have hn:=aK hb
 have hc:cnt Es ((b :: q) ++ r)=(b :: q).length:=cnt_fol Es hr _ (fun c hc=>by
  rcases List.mem_cons.1 hc with rfl | hc
  ·unfold Es; rw [hb]; rfl
  ·exact hq c hc)
 refine ⟨fun i=>?_,by split <;> rfl,by simp,Qe hn.1,Ui hn.2⟩
 show (if G0 b then some (O9 ((b :: q) ++ r) i) else _)=_
 rw [if_pos hb]
 unfold O9
 rw [hc,List.take_left]
 split
 ·rfl
 ·rename_i h
  rw [if_neg (by have:=hl.resolve_left h; omega)]
theorem dec_all (u:Nat):(∀ b ∈ Lib.decDigits u,Eh b=true) ∧ (∀ r,Lib.decDigits u=48 :: r → r=[]) ∧ ∀ a,J6 a (Lib.decDigits u)=a * 10 ^ (Lib.decDigits u).length + u:=by
 induction u using Nat.strongRecOn with
 | _ u ih =>
  rw [Lib.decDigits]
  have hd:∀ d,d < 10 → (UInt8.ofNat (48 + d)).toNat=48 + d:=fun d h=>by simp [UInt8.toNat_ofNat]; omega
  have hg:∀ d,d < 10 → Eh (UInt8.ofNat (48 + d))=true:=fun d h=>by unfold Eh; rw [hd d h]; simp; omega
  split
  ·rename_i h
   refine ⟨fun b hb=>?_,fun r e=>by injection e with _ e; exact e.symm,fun a=>?_⟩
   ·rw [List.mem_singleton] at hb; subst hb; exact hg u h
   ·show a * 10 + ((UInt8.ofNat (48 + u)).toNat - 48)=a * 10 ^ 1 + u
    rw [hd u h]; omega
  ·rename_i h
   obtain ⟨h1,h2,h3⟩:=ih (u / 10) (by omega)
   have happ:∀ (l:List UInt8) (a:Nat) (c:UInt8),J6 a (l ++ [c])=J6 a l * 10 + (c.toNat - 48):=by
    intro l
    induction l with
    | nil=>intro a c; rfl
    | cons x l ihl=>intro a c; exact ihl _ c
   refine ⟨fun b hb=>?_,fun r e=>?_,fun a=>?_⟩
   ·rcases List.mem_append.1 hb with hb | hb
    ·exact h1 b hb
    ·rw [List.mem_singleton] at hb; subst hb; exact hg _ (Nat.mod_lt _ (by omega))
   ·exfalso
    obtain ⟨c,q,ec,_⟩:=Vi (u / 10)
    rw [ec] at e
    injection e with e1 e2
    subst e1
    have hq:=h2 q ec
    subst hq
    have h0:=h3 0
    have e9:J6 0 [48]=0:=rfl
    rw [ec,e9,Nat.zero_mul,Nat.zero_add] at h0
    omega
   ·rw [happ,h3,hd _ (Nat.mod_lt _ (by omega)),List.length_append,List.length_singleton,Nat.pow_succ,Nat.add_mul,Nat.mul_assoc]
    omega
theorem lead_num {u:Nat} (hu:u ≤ 9223372036854775808) {r:List UInt8} (hr:Fol r):Lead (Lib.decDigits u) r (2,Lib.decDigits u,u):=by
 obtain ⟨h1,h2,h3⟩:=dec_all u
 obtain ⟨c,q,e,hc1,hc2⟩:=Vi u
 have hc:Eh c=true:=h1 c (by rw [e]; exact List.mem_cons_self ..)
 have hn:=Zg hc
 have hcnt:cnt Eh (Lib.decDigits u ++ r)=(Lib.decDigits u).length:=cnt_fol Eh (fun c q e=>by
  have:=hr c q e
  unfold Es at this
  simp at this; exact this.2) _ h1
 have hv:J6 0 (Lib.decDigits u)=u:=by rw [h3]; omega
 refine ⟨fun i=>?_,rfl,by rw [e]; simp,by rw [e]; exact Qe hn.1,by rw [e]; exact Ui hn.2.1⟩
 have hnum:aH (Lib.decDigits u ++ r) i=some (⟨2,i,Lib.decDigits u,u⟩,0):=by
  unfold aH
  rw [hcnt,List.take_left,hv,if_neg (fun hx=>?_),if_pos (by omega),if_neg (by omega)]
  have h48:c=48:=by
   have:=hx.2; rw [e] at this; simpa using this
  subst h48
  have:=h2 q e
  rw [e,this] at hx
  simp at hx
 rw [e] at hnum ⊢
 show (if G0 c then _ else if Eh c then aH ((c :: q) ++ r) i else _)=_
 rw [hn.2.2,hc,if_neg (by simp),if_pos rfl,hnum]
theorem lead_any {s r:List UInt8} (h:s ∈ ([[40],[41],[44],[59],[58],[43],[42],[47]]:List (List UInt8))):Lead s r (sg s):=by
 simp only [List.mem_cons,List.not_mem_nil,or_false] at h
 rcases h with rfl | rfl | rfl | rfl | rfl | rfl | rfl | rfl <;> exact ⟨fun i=>by
  show some (Nr _ i)=_
  unfold Nr
  rw [show Gb.find? (fun s=>Ey s _)=some _ from rfl],rfl,by simp,rfl,Ui (by decide)⟩
theorem lead_blank {s r:List UInt8} (h:s ∈ Gb):Lead s (32 :: r) (sg s):=by
 obtain ⟨h1,h2,b,q,e,h3,h4,h5⟩:=uJ h (.inl rfl) r
 refine ⟨fun i=>?_,rfl,by rw [e]; simp,?_,h2⟩
 ·have hs:Nr (s ++ 32 :: r) i=(⟨4,i,s,0⟩,0):=by unfold Nr; rw [h1]
  rw [e] at hs ⊢
  show (if G0 b then _ else if Eh b then _ else some (Nr ((b :: q) ++ 32 :: r) i))=_
  rw [h3,h4,hs]; rfl
 ·rw [e]; exact Qe h5
theorem words_ok:∀ w ∈ La,∃ b q,w=b :: q ∧ G0 b=true ∧ ∀ c ∈ q,Es c=true:=by
 have h:∀ w ∈ La,(match w with | b :: q=>G0 b && q.all Es | []=>false)=true:=by decide
 intro w hw
 have:=h w hw
 cases w with
 | nil=>cases this
 | cons b q =>
  simp only [Bool.and_eq_true,List.all_eq_true] at this
  exact ⟨b,q,rfl,this.1,this.2⟩
theorem jJ {w r:List UInt8} {us:List TK} (hw:w ∈ La) (hr:Fol r) (h:SpT r us):SpT (w ++ r) (kw w :: us):=by
 have:=vY (words_ok w hw) (.inl hw) hr
 rw [if_pos hw] at this
 exact .tok _ _ _ _ this h
theorem Tf {w r:List UInt8} {us:List TK} (hw:Gt w) (hr:Fol r) (h:SpT r us):SpT (w ++ r) (nm w :: us):=by
 have:=vY hw.2.1 (.inr hw.2.2) hr
 rw [if_neg hw.1.1] at this
 exact .tok _ _ _ _ this h
theorem sp_num {u:Nat} {r:List UInt8} {us:List TK} (hu:u ≤ 9223372036854775808) (hr:Fol r) (h:SpT r us):SpT (Lib.decDigits u ++ r) ((2,Lib.decDigits u,u) :: us):=.tok _ _ _ _ (lead_num hu hr) h
theorem Ms {s r:List UInt8} {us:List TK} (hs:s ∈ ([[40],[41],[44],[59],[58],[43],[42],[47]]:List (List UInt8))) (h:SpT r us):SpT (s ++ r) (sg s :: us):=.tok _ _ _ _ (lead_any hs) h
theorem uG {s r:List UInt8} {us:List TK} (hs:s ∈ Gb) (h:SpT r us):SpT (s ++ 32 :: r) (sg s :: us):=.tok _ _ _ _ (lead_blank hs) (.blank _ _ h)
theorem Lt {w r:List UInt8} {us:List TK} (hw:w ∈ La) (h:SpT r us):SpT (w ++ 32 :: r) (kw w :: us):=jJ hw (fun c q e=>by injection e with e _; subst e; rfl) (.blank _ _ h)
theorem sp_ob {s r:List UInt8} {us:List TK} (hs:s ∈ La ∨ s ∈ Gb) (h:SpT r us):SpT (s ++ 32 :: r) (opT s :: us):=by
 unfold opT
 split
 ·rename_i hw; exact Lt hw h
 ·rename_i hw; exact uG (hs.resolve_left hw) h
theorem nY {r:List UInt8} {us:List TK} (hr:∀ c q,r=c :: q → c ≠ 45 ∧ c ≠ 62) (h:SpT r us):SpT ([45] ++ r) (sg [45] :: us):=by
 refine .tok _ _ _ _ ⟨fun i=>?_,rfl,by simp,rfl,?_⟩ h
 ·show some (Nr _ i)=_
  have e:Gb.find? (fun s=>Ey s ([45] ++ r))=some [45]:=by
   cases r with
   | nil=>rfl
   | cons c q =>
    obtain ⟨h1,h2⟩:=hr c q rfl
    have n1:Ey [45,62] (45 :: c :: q)=false:=by
     unfold Ey; rw [decide_eq_false_iff_not]; intro e; simp at e; exact h2 e
    have n2:∀ (a:UInt8) (b:List UInt8),a ≠ 45 → Ey (a :: b) (45 :: c :: q)=false:=fun a b ha=>by
     unfold Ey; rw [decide_eq_false_iff_not]; intro e; simp at e; exact ha e.1.symm
    have y:Ey [45] (45 :: c :: q)=true:=by unfold Ey; simp
    simp only [Gb,List.singleton_append,List.find?_cons,n1,y,n2 60 _ (by decide),n2 62 _ (by decide),n2 40 _ (by decide),n2 41 _ (by decide),n2 44 _ (by decide),n2 59 _ (by decide),n2 58 _ (by decide),n2 61 _ (by decide),n2 43 _ (by decide)]
  unfold Nr
  rw [e]
 ·cases r with
  | nil=>rfl
  | cons c q =>
   unfold Ey; rw [decide_eq_false_iff_not]; intro e; simp at e; exact (hr c q rfl).1 e
theorem X0 {c:UInt8} {q:List UInt8} (h:Es c=false):Fol (c :: q):=fun c' q' e=>by injection e with e _; subst e; exact h
theorem Rt (q:List UInt8):Fol (32 :: q):=X0 rfl
theorem fol_r (q:List UInt8):Fol (41 :: q):=X0 rfl
theorem fol_l (q:List UInt8):Fol (40 :: q):=X0 rfl
theorem fol_k (q:List UInt8):Fol (44 :: q):=X0 rfl
def Vq (t:List UInt8) (us:List TK):Prop:=∀ r vs,Fol r → SpT r vs → SpT (t ++ r) (us ++ vs)
theorem Yt {t:List UInt8} {us:List TK} (h:Vq t us) {r:List UInt8} {vs:List TK} (hr:SpT r vs):SpT (40 :: (t ++ 41 :: r)) (G5 us ++ vs):=by
 have e:G5 us ++ vs=sg [40] :: (us ++ sg [41] :: vs):=by unfold G5; simp
 rw [e]
 exact Ms (s:=[40]) (by decide) (h _ _ (fol_r _) (Ms (s:=[41]) (by decide) hr))
theorem spelt_kid {e:PE} (h:Vq (D3 e) (G6 e)) {kids:List PE} {k:Nat} (h1:(Dz kids)[k]? = some ⟨D3 e,D1 e,Ic e⟩) (h2:(F6 kids)[k]? = some (sV e)) (least:Nat):Vq (kT (Dz kids) k least) (kJ (F6 kids) k least):=by
 intro r vs hf hr
 unfold kT kJ
 rw [h1,h2]
 show SpT ((if D1 e < least then _ else _) ++ r) ((if D1 e < least then _ else _) ++ vs)
 split
 ·have:=Yt h hr
  show SpT (40 :: ((D3 e ++ [41]) ++ r)) _
  rw [List.append_assoc]
  exact this
 ·exact h r vs hf hr
def cB:List PE → List UInt8
 | []=>[]
 | e :: l=>44 :: 32 :: (D3 e ++ cB l)
theorem Sp (e:PE):∀ (l:List PE),K4 (Dz (e :: l))=D3 e ++ cB l:=by
 intro l
 induction l generalizing e with
 | nil=>show Lib.join [D3 e] [44,32]=_; rw [Lib.join_one]; exact (List.append_nil _).symm
 | cons b l ih =>
  have e2:K4 (Dz (e :: b :: l))=D3 e ++ ([44,32] ++ K4 (Dz (b :: l))):=by
   show Lib.join (D3 e :: D3 b :: _) [44,32]=_
   simp [Lib.join,K4,Dz]
  rw [e2,ih]; rfl
theorem nV:∀ (l:List PE),(∀ e ∈ l,Vq (D3 e) (G6 e)) → ∀ r vs,SpT r vs → SpT (cB l ++ 41 :: r) (Qy (F6 l) ++ sg [41] :: vs)
 | [],_,r,vs,h=>Ms (s:=[41]) (by decide) h
 | e :: l,he,r,vs,h=>by
  have ih:=nV l (fun x hx=>he x (List.mem_cons_of_mem _ hx)) r vs h
  have hf:Fol (cB l ++ 41 :: r):=by
   cases l with
   | nil=>exact fol_r _
   | cons b l=>exact fol_k _
  have:=he e (List.mem_cons_self ..) _ _ hf ih
  show SpT (44 :: 32 :: ((D3 e ++ cB l) ++ 41 :: r)) (sg [44] :: ((G6 e ++ Qy (F6 l)) ++ sg [41] :: vs))
  rw [List.append_assoc,List.append_assoc]
  exact Ms (s:=[44]) (by decide) (.blank _ _ this)
theorem nX (l:List PE) (he:∀ e ∈ l,Vq (D3 e) (G6 e)) {r:List UInt8} {vs:List TK} (h:SpT r vs):SpT (40 :: (K4 (Dz l) ++ 41 :: r)) (G5 (Pi (F6 l)) ++ vs):=by
 cases l with
 | nil=>exact Ms (s:=[40]) (by decide) (Ms (s:=[41]) (by decide) h)
 | cons e l =>
  rw [Sp,join_cons,List.append_assoc]
  have ih:=nV l (fun x hx=>he x (List.mem_cons_of_mem _ hx)) r vs h
  have hf:Fol (cB l ++ 41 :: r):=by
   cases l with
   | nil=>exact fol_r _
   | cons b l=>exact fol_k _
  exact Ms (s:=[40]) (by decide) (he e (List.mem_cons_self ..) _ _ hf ih)
def HdL (t:List UInt8) (us:List TK):Prop:=∃ q,t=Ie us ++ q ∧ (Ie us=[45] ∨ ∃ c p,Ie us=c :: p ∧ c ≠ 45 ∧ c ≠ 62)
theorem HdL.ne {t:List UInt8} {us:List TK} (h:HdL t us):us ≠ []:=by
 obtain ⟨q,_,h⟩:=h
 intro e
 subst e
 rcases h with h | ⟨c,p,h,_⟩ <;> cases h
theorem HdL.app {t:List UInt8} {us:List TK} (h:HdL t us) (a:List UInt8) (b:List TK):HdL (t ++ a) (us ++ b):=by
 have hne:=h.ne
 obtain ⟨q,h1,h2⟩:=h
 refine ⟨q ++ a,?_,?_⟩
 ·rw [I2 hne,h1,List.append_assoc]
 ·rw [I2 hne]; exact h2
theorem U8 {k:Nat} {c:UInt8} {p:List UInt8} {n:Nat} (h:c ≠ 45 ∧ c ≠ 62) (a:List UInt8) (b:List TK):HdL ((c :: p) ++ a) ((k,c :: p,n) :: b):=⟨a,rfl,.inr ⟨c,p,rfl,h⟩⟩
theorem letter_hd {c:UInt8} (h:G0 c=true):c ≠ 45 ∧ c ≠ 62:=by
 have h':∀ x:Fin 256,G0 ⟨⟨x⟩⟩=true → (⟨⟨x⟩⟩:UInt8) ≠ 45 ∧ (⟨⟨x⟩⟩:UInt8) ≠ 62:=by decide
 exact h' ⟨c.toNat,c.toNat_lt⟩ h
theorem hdL_name {w:List UInt8} (h:Gt w) (a:List UInt8) (b:List TK):HdL (w ++ a) (nm w :: b):=by
 obtain ⟨c,p,rfl,hc,_⟩:=h.2.1
 exact U8 (letter_hd hc) a b
theorem hdL_kid {e:PE} (h:HdL (D3 e) (G6 e)) {kids:List PE} {k:Nat} (h1:(Dz kids)[k]? = some ⟨D3 e,D1 e,Ic e⟩) (h2:(F6 kids)[k]? = some (sV e)) (least:Nat):HdL (kT (Dz kids) k least) (kJ (F6 kids) k least):=by
 unfold kT kJ
 rw [h1,h2]
 show HdL (if D1 e < least then _ else _) (if D1 e < least then _ else _)
 split
 ·exact ⟨_,rfl,.inr ⟨40,[],rfl,by decide,by decide⟩⟩
 ·exact h
theorem hdL_minus {t:List UInt8} {us:List TK} (h:HdL t us):Ey [45] t=true ↔ Ie us=[45]:=by
 obtain ⟨q,h1,h2⟩:=h
 rcases h2 with h2 | ⟨c,p,h2,h3,h4⟩
 ·rw [h1,h2]; exact ⟨fun _=>rfl,fun _=>by unfold Ey; simp⟩
 ·rw [h1,h2]
  refine ⟨fun hs=>?_,fun e=>?_⟩
  ·unfold Ey at hs
   rw [decide_eq_true_iff] at hs
   simp at hs; exact absurd hs h3
  ·injection e with e _; exact absurd e h3
theorem yR {e:PE} (h:GoodT e):Vq (D3 e) (G6 e) ∧ HdL (D3 e) (G6 e):=by
 induction h with
 | mk kind pos n name off kids hs hk ih =>
  have et:=Vr kind pos n name off kids
  have ex:D3 (.mk kind pos n name off kids)=Pb kind n name off (Dz kids):=by rw [D3]
  have kid:∀ {x:PE},x ∈ kids → ∀ (k least:Nat),(Dz kids)[k]? = some ⟨D3 x,D1 x,Ic x⟩ → (F6 kids)[k]? = some (sV x) → Vq (kT (Dz kids) k least) (kJ (F6 kids) k least):=fun hx k least h1 h2=>spelt_kid (ih _ hx).1 h1 h2 least
  have hkid:∀ {x:PE},x ∈ kids → ∀ (k least:Nat),(Dz kids)[k]? = some ⟨D3 x,D1 x,Ic x⟩ → (F6 kids)[k]? = some (sV x) → HdL (kT (Dz kids) k least) (kJ (F6 kids) k least):=fun hx k least h1 h2=>hdL_kid (ih _ hx).2 h1 h2 least
  rw [et,ex]
  cases hs with
  | num _ hr =>
   show Vq (Lib.itoa n) (gL n) ∧ HdL (Lib.itoa n) (gL n)
   unfold Lib.itoa gL
   by_cases hn:n < 0
   ·rw [if_pos hn,if_pos hn]
    refine ⟨fun r vs hf hr'=>?_,⟨_,rfl,.inl rfl⟩⟩
    obtain ⟨c,q,e,h1,h2⟩:=Vi n.natAbs
    exact nY (fun c' q' e'=>by
     rw [e] at e'
     injection e' with e' _
     subst e'
     exact ⟨fun x=>by subst x; simp at h1,fun x=>by subst x; simp at h2⟩) (sp_num (by omega) hf hr')
   ·rw [if_neg hn,if_neg hn]
    refine ⟨fun r vs hf hr'=>sp_num (by omega) hf hr',?_⟩
    obtain ⟨c,q,e,h1,h2⟩:=Vi n.toNat
    exact ⟨[],(List.append_nil _).symm,.inr ⟨c,q,e,fun x=>by subst x; simp at h1,fun x=>by subst x; simp at h2⟩⟩
  | truth _ hr =>
   rcases hr with rfl | rfl
   ·exact ⟨fun r vs hf hr'=>jJ (w:=[102,97,108,115,101]) (by decide) hf hr',U8 (c:=102) (p:=[97,108,115,101]) (by decide) [] []⟩
   ·exact ⟨fun r vs hf hr'=>jJ (w:=[116,114,117,101]) (by decide) hf hr',U8 (c:=116) (p:=[114,117,101]) (by decide) [] []⟩
  | var _ hn =>
   refine ⟨fun r vs hf hr'=>Tf hn hf hr',?_⟩
   have:=hdL_name hn [] []
   rw [List.append_nil] at this; exact this
  | neg x =>
   have hs:=kid (x:=x) (by simp) 0 8 rfl rfl
   have hd:=hkid (x:=x) (by simp) 0 8 rfl rfl
   show Vq (gP (Dz [x])) (tI (F6 [x])) ∧ HdL (gP (Dz [x])) (tI (F6 [x]))
   unfold gP tI
   have hc:((∃ k,(Dz [x])[0]? = some k ∧ k.kind=1) ∨ Ey [45] (kT (Dz [x]) 0 8)=true) ↔ ((∃ k,(F6 [x])[0]? = some k ∧ k.kind=1) ∨ Ie (kJ (F6 [x]) 0 8)=[45]):=by
    rw [hdL_minus hd]
    refine or_congr ⟨?_,?_⟩ Iff.rfl
    ·rintro ⟨k,e,h⟩; injection e with e; subst e; exact ⟨_,rfl,h⟩
    ·rintro ⟨k,e,h⟩; injection e with e; subst e; exact ⟨_,rfl,h⟩
   by_cases hq:(∃ k,(F6 [x])[0]? = some k ∧ k.kind=1) ∨ Ie (kJ (F6 [x]) 0 8)=[45]
   ·rw [if_pos hq,if_pos (hc.2 hq)]
    refine ⟨fun r vs hf hr'=>?_,⟨_,rfl,.inl rfl⟩⟩
    have:=Yt hs hr'
    have e:([45,40] ++ kT (Dz [x]) 0 8 ++ [41]) ++ r=[45] ++ (40 :: (kT (Dz [x]) 0 8 ++ 41 :: r)):=by simp
    rw [e]
    exact nY (fun c q e=>by injection e with e _; subst e; decide) this
   ·rw [if_neg hq,if_neg (fun h=>hq (hc.1 h))]
    refine ⟨fun r vs hf hr'=>?_,⟨_,rfl,.inl rfl⟩⟩
    have e:([45] ++ kT (Dz [x]) 0 8) ++ r=[45] ++ (kT (Dz [x]) 0 8 ++ r):=by simp
    rw [e]
    refine nY (fun c q e=>?_) (hs r vs hf hr')
    obtain ⟨q',h1,h2⟩:=hd
    rcases h2 with h2 | ⟨c',p',h2,h3,h4⟩
    ·exact absurd (.inr h2) hq
    ·rw [h1,h2] at e
     injection e with e _
     subst e; exact ⟨h3,h4⟩
  | not x =>
   have hs:=kid (x:=x) (by simp) 0 4 rfl rfl
   exact ⟨fun r vs hf hr'=>Lt (w:=[110,111,116]) (by decide) (hs r vs hf hr'),U8 (c:=110) (p:=[111,116]) (by decide) _ _⟩
  | pre x =>
   have hs:=kid (x:=x) (by simp) 0 8 rfl rfl
   exact ⟨fun r vs hf hr'=>Lt (w:=[112,114,101]) (by decide) (hs r vs hf hr'),U8 (c:=112) (p:=[114,101]) (by decide) _ _⟩
  | bin _ x y hm =>
   have h0:=kid (x:=x) (by simp) 0 (if Gy name=5 then 6 else Gy name) rfl rfl
   have h1:=kid (x:=y) (by simp) 1 (Gy name + 1) rfl rfl
   have hd:=hkid (x:=x) (by simp) 0 (if Gy name=5 then 6 else Gy name) rfl rfl
   have hw:name ∈ La ∨ name ∈ Gb:=by
    rcases hm with hm | hm | hm | hm | hm <;> simp [Fd] at hm
    ·rcases hm with rfl | rfl <;> decide
    ·subst hm; decide
    ·rcases hm with rfl | rfl | rfl | rfl | rfl | rfl <;> decide
    ·rcases hm with rfl | rfl <;> decide
    ·rcases hm with rfl | rfl | rfl <;> decide
   refine ⟨fun r vs hf hr'=>?_,?_⟩
   ·show SpT (((((_ ++ [32]) ++ name) ++ [32]) ++ _) ++ r) ((_ ++ opT name :: _) ++ vs)
    simp only [List.append_assoc,List.cons_append,Aj]
    exact h0 _ _ (Rt _) (.blank _ _ (sp_ob hw (h1 r vs hf hr')))
   ·show HdL ((((_ ++ [32]) ++ name) ++ [32]) ++ _) _
    simp only [List.append_assoc]
    exact hd.app _ _
  | ite x y z =>
   have h0:=kid (x:=x) (by simp) 0 0 rfl rfl
   have h1:=kid (x:=y) (by simp) 1 0 rfl rfl
   have h2:=kid (x:=z) (by simp) 2 0 rfl rfl
   refine ⟨fun r vs hf hr'=>?_,?_⟩
   ·show SpT (((((([105,102,32] ++ _) ++ [32,116,104,101,110,32]) ++ _) ++ [32,101,108,115,101,32]) ++ _) ++ r) ((kw [105,102] :: (_ ++ kw [116,104,101,110] :: (_ ++ kw [101,108,115,101] :: _))) ++ vs)
    simp only [List.append_assoc,List.cons_append,Aj]
    exact Lt (w:=[105,102]) (by decide) (h0 _ _ (Rt _) (.blank _ _ (Lt (w:=[116,104,101,110]) (by decide) (h1 _ _ (Rt _) (.blank _ _ (Lt (w:=[101,108,115,101]) (by decide) (h2 r vs hf hr')))))))
   ·exact ⟨_,by show (((([105,102,32] ++ _) ++ [32,116,104,101,110,32]) ++ _) ++ [32,101,108,115,101,32]) ++ _=[105,102] ++ _; simp only [List.append_assoc,List.cons_append,Aj]; rfl,.inr ⟨105,[102],rfl,by decide,by decide⟩⟩
  | arrow x y =>
   have h0:=kid (x:=x) (by simp) 0 2 rfl rfl
   have h1:=kid (x:=y) (by simp) 1 1 rfl rfl
   have hd:=hkid (x:=x) (by simp) 0 2 rfl rfl
   refine ⟨fun r vs hf hr'=>?_,?_⟩
   ·show SpT (((_ ++ [32,45,62,32]) ++ _) ++ r) ((_ ++ sg [45,62] :: _) ++ vs)
    simp only [List.append_assoc,List.cons_append,Aj]
    exact h0 _ _ (Rt _) (.blank _ _ (uG (s:=[45,62]) (by decide) (h1 r vs hf hr')))
   ·show HdL ((_ ++ [32,45,62,32]) ++ _) _
    simp only [List.append_assoc]
    exact hd.app _ _
  | fby x y hc =>
   have h0:=kid (x:=x) (by simp) 0 0 rfl rfl
   have h1:=kid (x:=y) (by simp) 1 1 rfl rfl
   have hd:=hkid (x:=x) (by simp) 0 0 rfl rfl
   refine ⟨fun r vs hf hr'=>?_,?_⟩
   ·show SpT (((_ ++ [32,102,98,121,32]) ++ _) ++ r) ((_ ++ kw [102,98,121] :: _) ++ vs)
    simp only [List.append_assoc,List.cons_append,Aj]
    exact h0 _ _ (Rt _) (.blank _ _ (Lt (w:=[102,98,121]) (by decide) (h1 r vs hf hr')))
   ·show HdL ((_ ++ [32,102,98,121,32]) ++ _) _
    simp only [List.append_assoc]
    exact hd.app _ _
  | when _ off x hn =>
   have h0:=kid (x:=x) (by simp) 0 9 rfl rfl
   have hd:=hkid (x:=x) (by simp) 0 9 rfl rfl
   refine ⟨fun r vs hf hr'=>?_,hd.app _ _⟩
   show SpT ((_ ++ L3 name off) ++ r) ((_ ++ Ox name off) ++ vs)
   rw [List.append_assoc,List.append_assoc]
   cases off with
   | false =>
    exact h0 _ _ (Rt _) (.blank _ _ (Lt (w:=[119,104,101,110]) (by decide) (Tf hn hf hr')))
   | true =>
    exact h0 _ _ (Rt _) (.blank _ _ (Lt (w:=[119,104,101,110]) (by decide) (Lt (w:=[110,111,116]) (by decide) (Tf hn hf hr'))))
  | merge _ x y hn =>
   have h0:=kid (x:=x) (by simp) 0 0 rfl rfl
   have h1:=kid (x:=y) (by simp) 1 0 rfl rfl
   refine ⟨fun r vs hf hr'=>?_,?_⟩
   ·have b1:=Yt h1 hr'
    have b0:=Yt h0 (.blank _ _ b1)
    show SpT (((((([109,101,114,103,101,32] ++ name) ++ [32,40]) ++ _) ++ [41,32,40]) ++ _) ++ [41] ++ r) ((kw [109,101,114,103,101] :: nm name :: (_ ++ _)) ++ vs)
    simp only [List.append_assoc,List.cons_append,Aj]
    exact Lt (w:=[109,101,114,103,101]) (by decide) (Tf hn (Rt _) (.blank _ _ b0))
   ·exact ⟨_,by show ((((([109,101,114,103,101,32] ++ name) ++ [32,40]) ++ _) ++ [41,32,40]) ++ _) ++ [41]=[109,101,114,103,101] ++ _; simp only [List.append_assoc,List.cons_append,Aj]; rfl,.inr ⟨109,[101,114,103,101],rfl,by decide,by decide⟩⟩
  | call _ l hn =>
   refine ⟨fun r vs hf hr'=>?_,?_⟩
   ·have b:=nX kids (fun e he=>(ih e he).1) hr'
    show SpT ((((name ++ [40]) ++ _) ++ [41]) ++ r) (nm name :: (_ ++ vs))
    simp only [List.append_assoc,List.cons_append,Aj]
    exact Tf hn (fol_l _) b
   ·show HdL ((((name ++ [40]) ++ _) ++ [41])) _
    simp only [List.append_assoc]
    exact hdL_name hn _ _
  | await _ l hn hl =>
   cases kids with
   | nil =>
    exact ⟨fun r vs hf hr'=>Lt (w:=[97,119,97,105,116]) (by decide) (Tf hn hf hr'),U8 (c:=97) (p:=[119,97,105,116]) (by decide) _ _⟩
   | cons e l =>
    refine ⟨fun r vs hf hr'=>?_,?_⟩
    ·have b:=nX (e :: l) (fun e he=>(ih e he).1) hr'
     show SpT ((([97,119,97,105,116,32] ++ name) ++ (([32,97,102,116,101,114,32,40] ++ K4 (Dz (e :: l))) ++ [41])) ++ r) (kw [97,119,97,105,116] :: nm name :: kw [97,102,116,101,114] :: (G5 (Pi (F6 (e :: l))) ++ vs))
     simp only [List.append_assoc,List.cons_append,Aj]
     exact Lt (w:=[97,119,97,105,116]) (by decide) (Tf hn (Rt _) (.blank _ _ (Lt (w:=[97,102,116,101,114]) (by decide) b)))
    ·exact ⟨_,by show ([97,119,97,105,116,32] ++ name) ++ (([32,97,102,116,101,114,32,40] ++ K4 (Dz (e :: l))) ++ [41])=[97,119,97,105,116] ++ _; simp only [List.append_assoc,List.cons_append,Aj]; rfl,.inr ⟨97,[119,97,105,116],rfl,by decide,by decide⟩⟩
end Go.Ax
