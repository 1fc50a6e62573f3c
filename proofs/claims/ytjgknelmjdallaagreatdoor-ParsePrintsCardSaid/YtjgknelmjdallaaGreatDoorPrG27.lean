/- Be -/
import Derived.Test.YtjgknelmjdallaaGreatDoorPrG26
import Derived.Test.YtjgknelmjdallaaGreatDoorPrG24
set_option linter.unusedVariables false
set_option linter.unusedSimpArgs false
noncomputable section
namespace Go.Ax
open Go.RowKit Go.Proofs
set_option maxRecDepth 100000
theorem oR {L:Nat} {name:List UInt8} (h:name ∈ D9 L) (hc:L=2 ∨ L=3 ∨ L=5 ∨ L=6 ∨ L=7):∀ k,L < k → name ∉ D9 k:=by
 intro k hk
 rcases hc with rfl | rfl | rfl | rfl | rfl <;> simp only [D9,List.mem_cons,List.mem_nil_iff,or_false] at h
 ·rcases h with rfl | rfl <;> (unfold D9; split <;> first | omega | decide)
 ·subst h; (unfold D9; split <;> first | omega | decide)
 ·rcases h with rfl | rfl | rfl | rfl | rfl | rfl <;> (unfold D9; split <;> first | omega | decide)
 ·rcases h with rfl | rfl <;> (unfold D9; split <;> first | omega | decide)
 ·rcases h with rfl | rfl | rfl <;> (unfold D9; split <;> first | omega | decide)
theorem Vk (name:List UInt8):(opT name).2.1=name:=by unfold opT; split <;> rfl
theorem Nf {ts:List Tk} {i:Nat} {a b rest:List TK} {x:TK} (h:Dd ts i ((a ++ x :: b) ++ rest)):Dd ts i (a ++ x :: (b ++ rest)):=by
 rw [List.append_assoc,List.cons_append] at h; exact h
theorem Zl (i:Nat) (a b:List TK) (x:TK):i + (a ++ x :: b).length=i + a.length + 1 + b.length:=by simp; omega
section
variable {a b:List TK} {x y:PE} (pos:Nat) {name:List UInt8}
theorem bin_rd {L:Nat} (hc:L=2 ∨ L=3 ∨ L=6 ∨ L=7) (ha:It L a x) (hb:It (L + 1) b y) (hm:name ∈ D9 L) {ts:List Tk} {i:Nat} {rest:List TK} (hs:Dd ts i ((a ++ opT name :: b) ++ rest)) (hst:Gq (L + 1) rest):RdB ts i (i + (a ++ opT name :: b).length) (.mk 6 pos 0 name false [x,y]) L:=by
 have hs1:=Nf hs
 have hd:=oR hm (by omega)
 have hso:Gq (L + 1) (opT name :: (b ++ rest)):=fun k hk=>by
  show (opT name).2.1 ∉ _
  rw [Vk]; exact hd k (by omega)
 obtain ⟨x',hx,N1,k,h1⟩:=ha.b (Nat.le_refl _) hc hs1 hso
 obtain ⟨k1,t1,-,-,hs2⟩:=hs1.skip.cons
 rw [Vk] at t1
 obtain ⟨y',hy,N2,h2⟩:=hb.a (Nat.le_refl _) (by omega) hs2 hst
 rw [Zl]
 refine ⟨.mk 6 (tk ts (i + a.length)).pos 0 name false [x',y'],pD _ _ _ _ _ _ hx hy,N1 + N2 + k + 1,k + 1,fun n hn=>?_⟩
 rw [h1 n (by omega)]
 obtain ⟨q,hq⟩:∃ q,n - k=q + 1:=⟨n - k - 1,by omega⟩
 have hq2:n - (k + 1)=q:=by omega
 rw [hq,hq2]
 show (if (tk ts (i + a.length)).text ∈ D9 L then (P ts n (eG (L + 1)) (i + a.length + 1)).bind (fun y j=>Jd ts (D9 L) (P ts n (eG (L + 1))) q (.mk 6 (tk ts (i + a.length)).pos 0 (tk ts (i + a.length)).text false [x',y]) j) else _)=_
 rw [if_pos (by rw [t1]; exact hm),h2 n (by omega),t1]; rfl
theorem Zu {L:Nat} (hc:L=2 ∨ L=3 ∨ L=6 ∨ L=7) (ha:It L a x) (hb:It (L + 1) b y) (hm:name ∈ D9 L):It L (a ++ opT name :: b) (.mk 6 pos 0 name false [x,y]):=by
 have hd:Hd L (a ++ opT name :: b):=cH ha.1
 refine ⟨hd,fun ts i rest hs=>⟨?_,fun h=>by omega⟩⟩
 have hh:=hs.head
 rw [Ha hd.ne] at hh
 have hr:=fun hst=>bin_rd pos hc ha hb hm hs hst
 have hv:=H8 hs
 rcases hc with rfl | rfl | rfl | rfl
 ·exact low2 (by rw [hh]; exact hd.h1 (by omega)) hv hr
 ·exact low3 (by rw [hh]; exact hd.h1 (by omega)) hv hr
 ·exact low6 (by rw [hh]; exact hd.h1 (by omega)) (by rw [hh]; exact hd.h5 (by omega)) hv hr
 ·exact low7 (by rw [hh]; exact hd.h1 (by omega)) (by rw [hh]; exact hd.h5 (by omega)) hv hr
theorem it_cmp (ha:It 6 a x) (hb:It 6 b y) (hm:name ∈ D9 5):It 5 (a ++ opT name :: b) (.mk 6 pos 0 name false [x,y]):=by
 have hd:Hd 6 (a ++ opT name :: b):=cH ha.1
 refine ⟨hd.mono (by omega),fun ts i rest hs=>⟨?_,fun h=>by omega⟩⟩
 have hh:=hs.head
 rw [Ha hd.ne] at hh
 have hv:=H8 hs
 refine low5 (by rw [hh]; exact hd.h1 (by omega)) hv fun hst=>?_
 have hs1:=Nf hs
 have hdj:=oR hm (by omega)
 have hso:Gq 6 (opT name :: (b ++ rest)):=fun k hk=>by
  show (opT name).2.1 ∉ _
  rw [Vk]; exact hdj k (by omega)
 obtain ⟨x',hx,N1,h1⟩:=ha.a (L:=6) (Nat.le_refl _) (by decide) hs1 hso
 obtain ⟨k1,t1,-,-,hs2⟩:=hs1.skip.cons
 rw [Vk] at t1
 obtain ⟨y',hy,N2,h2⟩:=hb.a (L:=6) (Nat.le_refl _) (by decide) hs2 (hst.mono (by omega))
 rw [Zl]
 refine ⟨.mk 6 (tk ts (i + a.length)).pos 0 name false [x',y'],pD _ _ _ _ _ _ hx hy,N1 + N2 + 1,fun n hn=>?_⟩
 obtain ⟨m,rfl⟩:∃ m,n=m + 1:=⟨n - 1,by omega⟩
 show (if (tk ts i).text ∈ [[110,111,116]] then _ else (P ts m .sum i).bind fun x j=>if (tk ts j).text ∈ D9 5 then (P ts m .sum (j + 1)).bind (fun y k=>PR.ok (PE.mk 6 (tk ts j).pos 0 (tk ts j).text false [x,y]) k) else _)=_
 rw [if_neg (by rw [hh]; simpa using hd.h5 (by omega)),show P ts m .sum i=_ from h1 m (by omega)]
 show (if (tk ts (i + a.length)).text ∈ D9 5 then _ else _)=_
 rw [if_pos (by rw [t1]; exact hm),show P ts m .sum (i + a.length + 1)=_ from h2 m (by omega),t1]; rfl
theorem Me {L:Nat} {t:TK} {r:List TK} (h:∀ k,L ≤ k → t.2.1 ∉ D9 k):Gq L (t :: r):=h
theorem it_arrow (ha:It 2 a x) (hb:It 1 b y):It 1 (a ++ sg [45,62] :: b) (.mk 8 pos 0 [] false [x,y]):=by
 have hd:Hd 2 (a ++ sg [45,62] :: b):=cH ha.1
 refine ⟨hd.mono (by omega),fun ts i rest hs=>⟨?_,fun h=>by omega⟩⟩
 have hh:=hs.head
 rw [Ha hd.ne] at hh
 refine low1 (by rw [hh]; exact hd.h1 (by omega)) fun hst=>?_
 have hs1:=Nf hs
 have hso:Gq 2 (sg [45,62] :: (b ++ rest)):=Me fun k hk=>by
  unfold D9; split <;> first | omega | decide
 obtain ⟨x',hx,N1,h1⟩:=ha.a (L:=2) (Nat.le_refl _) (by decide) hs1 hso
 obtain ⟨k1,t1,-,-,hs2⟩:=hs1.skip.cons
 obtain ⟨y',hy,N2,h2⟩:=hb.a (L:=1) (Nat.le_refl _) (by decide) hs2 hst
 rw [Zl]
 refine ⟨.mk 8 (tk ts (i + a.length)).pos 0 [] false [x',y'],pD _ _ _ _ _ _ hx hy,N1 + N2 + 1,fun n hn=>?_⟩
 obtain ⟨m,rfl⟩:∃ m,n=m + 1:=⟨n - 1,by omega⟩
 show (P ts m .or i).bind _=_
 rw [show P ts m .or i=_ from h1 m (by omega)]
 show (if (tk ts (i + a.length)).text ∈ [[45,62]] then _ else _)=_
 rw [if_pos (by rw [t1]; decide),show P ts m .arrow (i + a.length + 1)=_ from h2 m (by omega)]; rfl
theorem it_fby (ha:It 2 a x) (hb:It 1 b y) (hx:Ip x=true):It 1 (a ++ kw [102,98,121] :: b) (.mk 9 pos 0 [] false [x,y]):=by
 have hd:Hd 2 (a ++ kw [102,98,121] :: b):=cH ha.1
 refine ⟨hd.mono (by omega),fun ts i rest hs=>⟨?_,fun h=>by omega⟩⟩
 have hh:=hs.head
 rw [Ha hd.ne] at hh
 refine low1 (by rw [hh]; exact hd.h1 (by omega)) fun hst=>?_
 have hs1:=Nf hs
 have hso:Gq 2 (kw [102,98,121] :: (b ++ rest)):=Me fun k hk=>by
  unfold D9; split <;> first | omega | decide
 obtain ⟨x',hl,N1,h1⟩:=ha.a (L:=2) (Nat.le_refl _) (by decide) hs1 hso
 obtain ⟨k1,t1,-,-,hs2⟩:=hs1.skip.cons
 obtain ⟨y',hy,N2,h2⟩:=hb.a (L:=1) (Nat.le_refl _) (by decide) hs2 hst
 rw [Zl]
 refine ⟨.mk 9 (tk ts (i + a.length)).pos 0 [] false [x',y'],pD _ _ _ _ _ _ hl hy,N1 + N2 + 1,fun n hn=>?_⟩
 obtain ⟨m,rfl⟩:∃ m,n=m + 1:=⟨n - 1,by omega⟩
 show (P ts m .or i).bind _=_
 rw [show P ts m .or i=_ from h1 m (by omega)]
 show (if (tk ts (i + a.length)).text ∈ [[45,62]] then _ else if Ip x' = false then PR.ok x' (i + a.length) else if (tk ts (i + a.length)).text ∈ [[102,98,121]] then _ else _)=_
 rw [if_neg (by rw [t1]; decide),if_neg (by rw [← dC hl,hx]; simp),if_pos (by rw [t1]; decide),show P ts m .arrow (i + a.length + 1)=_ from h2 m (by omega)]; rfl
theorem it_ite {c:List TK} {z:PE} (ha:It 0 a x) (hb:It 0 b y) (hc:It 0 c z):It 0 (kw [105,102] :: (a ++ kw [116,104,101,110] :: (b ++ kw [101,108,115,101] :: c))) (.mk 7 pos 0 [] false [x,y,z]):=by
 refine ⟨⟨fun e=>(by cases e),fun h=>absurd h (by omega),fun h=>absurd h (by omega),fun h=>absurd h (by omega),(by simp [Gk])⟩,fun ts i rest hs=>⟨?_,fun h=>by omega⟩⟩
 refine low0 fun hst=>?_
 obtain ⟨k0,t0,-,-,h0⟩:=Dd.cons (x:=kw [105,102]) (r:=(a ++ kw [116,104,101,110] :: (b ++ kw [101,108,115,101] :: c)) ++ rest) hs
 have h1:=Nf h0
 have s1:∀ r,Gq 0 (kw [116,104,101,110] :: r):=fun r=>Me fun k hk=>by unfold D9; split <;> decide
 have s2:∀ r,Gq 0 (kw [101,108,115,101] :: r):=fun r=>Me fun k hk=>by unfold D9; split <;> decide
 obtain ⟨x',hx,N1,p1⟩:=ha.a (L:=0) (Nat.le_refl _) (by decide) h1 (s1 _)
 obtain ⟨k1,t1,-,-,h2⟩:=h1.skip.cons
 have h2':=Nf h2
 obtain ⟨y',hy,N2,p2⟩:=hb.a (L:=0) (Nat.le_refl _) (by decide) h2' (s2 _)
 obtain ⟨k2,t2,-,-,h3⟩:=h2'.skip.cons
 obtain ⟨z',hz,N3,p3⟩:=hc.a (L:=0) (Nat.le_refl _) (by decide) h3 hst
 have ej:i + (kw [105,102] :: (a ++ kw [116,104,101,110] :: (b ++ kw [101,108,115,101] :: c))).length=i + 1 + a.length + 1 + b.length + 1 + c.length:=by simp; omega
 rw [ej]
 refine ⟨.mk 7 (tk ts i).pos 0 [] false [x',y',z'],like3 _ _ _ _ _ _ hx hy hz,N1 + N2 + N3 + 1,fun n hn=>?_⟩
 obtain ⟨m,rfl⟩:∃ m,n=m + 1:=⟨n - 1,by omega⟩
 show (if (tk ts i).text ∈ [[105,102]] then (P ts m .expr (i + 1)).bind _ else _)=_
 rw [if_pos (by rw [t0]; decide),show P ts m .expr (i + 1)=_ from p1 m (by omega)]
 show (C7 ts [[116,104,101,110]] (i + 1 + a.length)).bind _=_
 rw [Hg (by rw [t1]; decide)]
 show (P ts m .expr (i + 1 + a.length + 1)).bind _=_
 rw [show P ts m .expr (i + 1 + a.length + 1)=_ from p2 m (by omega)]
 show (C7 ts [[101,108,115,101]] (i + 1 + a.length + 1 + b.length)).bind _=_
 rw [Hg (by rw [t2]; decide)]
 show (P ts m .expr (i + 1 + a.length + 1 + b.length + 1)).bind _=_
 rw [show P ts m .expr (i + 1 + a.length + 1 + b.length + 1)=_ from p3 m (by omega)]; rfl
theorem it_when (hn:Y1 name) (off:Bool) (ha:It 9 a x):It 9 (a ++ Lf name off) (.mk 11 pos 0 name off [x]):=by
 have hd:Hd 9 (a ++ Lf name off):=cH ha.1
 refine ⟨hd,fun ts i rest hs=>?_⟩
 have hw:∃ t r,Lf name off=t :: r ∧ t=kw [119,104,101,110]:=by unfold Lf; cases off <;> exact ⟨_,_,rfl,rfl⟩
 have hr:Gq 10 rest → RdW ts i (i + (a ++ Lf name off).length) (.mk 11 pos 0 name off [x]):=fun hst=>by
  have hs1:Dd ts i (a ++ (Lf name off ++ rest)):=by rw [← List.append_assoc]; exact hs
  have hso:Gq 10 (Lf name off ++ rest):=by
   obtain ⟨t,r,e,et⟩:=hw
   rw [e,et]
   exact Me fun k hk=>by unfold D9; split <;> first | omega | decide
  obtain ⟨x',hx,N,k,h1⟩:=ha.w (Nat.le_refl _) hs1 hso
  have h2:=hs1.skip
  rw [List.length_append,← Nat.add_assoc]
  have key:Hc ts (i + a.length + 1)=.ok (name,off) (i + a.length + (Lf name off).length) ∧ (tk ts (i + a.length)).text=[119,104,101,110]:=by
   unfold Hc
   cases off with
   | false =>
    obtain ⟨k0,t0,-,-,h3⟩:=Dd.cons (x:=kw [119,104,101,110]) (r:=nm name :: rest) h2
    obtain ⟨k1,t1,-,-,-⟩:=h3.cons
    have t1:(tk ts (i + a.length + 1)).text=name:=t1
    refine ⟨?_,t0⟩
    rw [if_neg (by rw [t1]; intro hc; simp at hc; subst hc; exact hn.1 (by decide)),Nw k1]
    show PR.ok ((tk ts (i + a.length + 1)).text,false) _=_
    rw [t1]; rfl
   | true =>
    obtain ⟨k0,t0,-,-,h3⟩:=Dd.cons (x:=kw [119,104,101,110]) (r:=kw [110,111,116] :: nm name :: rest) h2
    obtain ⟨k1,t1,-,-,h4⟩:=h3.cons
    obtain ⟨k2,t2,-,-,-⟩:=h4.cons
    refine ⟨?_,t0⟩
    have t2:(tk ts (i + a.length + 1 + 1)).text=name:=t2
    rw [if_pos (by rw [t1]; decide),Nw k2]
    show PR.ok ((tk ts (i + a.length + 1 + 1)).text,true) _=_
    rw [t2]; rfl
  refine ⟨.mk 11 (tk ts (i + a.length)).pos 0 name off [x'],xP _ _ _ _ _ _ hx,N + k + 1,k + 1,fun n hle=>?_⟩
  rw [h1 n (by omega)]
  obtain ⟨q,hq⟩:∃ q,n - k=q + 1:=⟨n - k - 1,by omega⟩
  have hq2:n - (k + 1)=q:=by omega
  rw [hq,hq2]
  show (if (tk ts (i + a.length)).text ∈ [[119,104,101,110]] then (Hc ts (i + a.length + 1)).bind _ else _)=_
  rw [if_pos (by rw [key.2]; decide),key.1]; rfl
 exact ⟨low9 hd hs (H8 hs) hr,fun _=>hr⟩
theorem it_merge (hn:Y1 name) (ha:It 0 a x) (hb:It 0 b y):It 10 (kw [109,101,114,103,101] :: nm name :: (Ft a ++ Ft b)) (.mk 12 pos 0 name false [x,y]):=by
 have hd:Hd 10 (kw [109,101,114,103,101] :: nm name :: (Ft a ++ Ft b)):=by
  refine ⟨fun e=>(by cases e),fun _=>?_,fun _=>?_,fun _=>?_,?_⟩ <;> simp [Gk]
 refine ⟨hd,fun ts i rest hs=>?_⟩
 have hp:RdA ts i (i + (kw [109,101,114,103,101] :: nm name :: (Ft a ++ Ft b)).length) (.mk 12 pos 0 name false [x,y]) .primary:=by
  obtain ⟨k0,t0,-,-,h0⟩:=Dd.cons (x:=kw [109,101,114,103,101]) (r:=nm name :: ((Ft a ++ Ft b) ++ rest)) hs
  obtain ⟨k1,t1,-,-,h1⟩:=h0.cons
  have t1:(tk ts (i + 1)).text=name:=t1
  rw [List.append_assoc] at h1
  obtain ⟨x',hx,N1,p1⟩:=vJ ha h1
  obtain ⟨y',hy,N2,p2⟩:=vJ hb h1.skip
  have ej:i + (kw [109,101,114,103,101] :: nm name :: (Ft a ++ Ft b)).length=i + 1 + 1 + (Ft a).length + (Ft b).length:=by simp; omega
  rw [ej]
  refine ⟨.mk 12 (tk ts i).pos 0 name false [x',y'],pD _ _ _ _ _ _ hx hy,N1 + N2 + 1,fun n hn=>?_⟩
  obtain ⟨m,rfl⟩:∃ m,n=m + 1:=⟨n - 1,by omega⟩
  rw [Ky,k0,t0,if_neg (by decide),if_neg (by decide),if_neg (by decide),if_pos rfl,Nw k1]
  show (P ts m .brk (i + 1 + 1)).bind _=_
  rw [p1 m (by omega)]
  show (P ts m .brk (i + 1 + 1 + (Ft a).length)).bind _=_
  rw [p2 m (by omega)]
  show PR.ok (PE.mk 12 (tk ts i).pos 0 (tk ts (i + 1)).text false [x',y']) _=_
  rw [t1]
 exact ⟨Yl (hd.mono (by omega)) hs (H8 hs) fun _=>hp,fun _ _=>jR (nt:=.primary) hp⟩
end
end Go.Ax
noncomputable section
namespace Go.Ax
open Go.RowKit Go.Proofs
set_option maxRecDepth 100000
def RdC (nt:NT) (e:PE):Prop:=∀ (ts:List Tk) (i:Nat) (t:TK) (rest:List TK),(t=sg [44] ∨ t=sg [41]) → Dd ts i (Fp e ++ t :: rest) → RdA ts i (i + (Fp e).length) e nt
theorem stops_c {t:TK} (h:t=sg [44] ∨ t=sg [41]) (r:List TK):Gq 0 (t :: r):=by
 rcases h with rfl | rfl <;> exact Me fun k hk=>by unfold D9; split <;> decide
theorem W4 (l:List PE) (rest:List TK):∃ t r,(t=sg [44] ∨ t=sg [41]) ∧ Nh (Ez l) ++ sg [41] :: rest=t :: r:=by
 cases l with
 | nil=>exact ⟨_,_,.inr rfl,rfl⟩
 | cons e l=>exact ⟨_,_,.inl rfl,rfl⟩
theorem kK {nt:NT} {ts:List Tk} {rest:List TK}:∀ (l:List PE),(∀ e ∈ l,RdC nt e) → ∀ (acc acc':List PE),LikeL acc acc' → ∀ i,Dd ts i (Nh (Ez l) ++ sg [41] :: rest) → ∃ l',LikeL (acc ++ l) l' ∧ ∃ N,∀ n q,N ≤ n → N ≤ q → Gs ts (P ts n nt) q acc' i=.ok l' (i + (Nh (Ez l)).length + 1)
 | [],_,acc,acc',hl,i,hs=>by
  obtain ⟨k0,t0,-,-,-⟩:=Dd.cons (x:=sg [41]) (r:=rest) hs
  refine ⟨acc',by rw [List.append_nil]; exact hl,1,fun n q _ hq=>?_⟩
  obtain ⟨q,rfl⟩:∃ m,q=m + 1:=⟨q - 1,by omega⟩
  show (if (tk ts i).text ∈ [[44]] then _ else (C7 ts [[41]] i).bind fun _ j=>.ok acc' j)=_
  rw [if_neg (by rw [t0]; decide),Hg (by rw [t0]; decide)]; rfl
 | e :: l,he,acc,acc',hl,i,hs=>by
  have hs':Dd ts i (sg [44] :: (Fp e ++ (Nh (Ez l) ++ sg [41] :: rest))):=by
   have:Nh (Ez (e :: l)) ++ sg [41] :: rest=sg [44] :: (Fp e ++ (Nh (Ez l) ++ sg [41] :: rest)):=by
    show sg [44] :: (Fp e ++ Nh (Ez l)) ++ _=_
    rw [List.cons_append,List.append_assoc]
   rw [← this]; exact hs
  obtain ⟨k0,t0,-,-,h1⟩:=hs'.cons
  obtain ⟨t,r,ht,er⟩:=W4 l rest
  have h1':=h1
  rw [er] at h1'
  obtain ⟨e',hx,N1,p1⟩:=he e (List.mem_cons_self ..) ts (i + 1) t r ht h1'
  obtain ⟨l',hl',N2,p2⟩:=kK l (fun x hx=>he x (List.mem_cons_of_mem _ hx)) (acc ++ [e]) (acc' ++ [e']) (hl.snoc hx) (i + 1 + (Fp e).length) h1.skip
  refine ⟨l',by rw [List.append_assoc] at hl'; exact hl',N1 + N2 + 1,fun n q hn hq=>?_⟩
  obtain ⟨q,rfl⟩:∃ m,q=m + 1:=⟨q - 1,by omega⟩
  show (if (tk ts i).text ∈ [[44]] then (P ts n nt (i + 1)).bind _ else _)=_
  rw [if_pos (by rw [t0]; decide),p1 n (by omega)]
  show Gs ts (P ts n nt) q (acc' ++ [e']) (i + 1 + (Fp e).length)=_
  rw [p2 n q (by omega) (by omega)]
  congr 1
  show _=i + (sg [44] :: (Fp e ++ Nh (Ez l))).length + 1
  simp; omega
theorem oC {e:PE} (h:It 0 (Fp e) e):RdC .expr e:=fun ts i t rest ht hs=>h.a (L:=0) (Nat.le_refl _) (by decide) hs (stops_c ht rest)
theorem gU (kind pos pos':Nat) (n:Int) (name:List UInt8) (off:Bool) {l l':List PE} (h:LikeL l l'):LikeE (.mk kind pos n name off l) (.mk kind pos' n name off l'):=.mk _ _ _ _ _ _ _ _ h
theorem Xm (e:PE) (l:List PE) (rest:List TK):Ft (Ly (Ez (e :: l))) ++ rest=sg [40] :: (Fp e ++ (Nh (Ez l) ++ sg [41] :: rest)):=by
 show sg [40] :: ((Fp e ++ Nh (Ez l)) ++ [sg [41]]) ++ rest=_
 simp
theorem pH (e:PE) (l:List PE) (i:Nat):i + (Ft (Ly (Ez (e :: l)))).length=i + 1 + (Fp e).length + (Nh (Ez l)).length + 1:=by
 show i + (sg [40] :: ((Fp e ++ Nh (Ez l)) ++ [sg [41]])).length=_
 simp; omega
theorem it_call (pos:Nat) {name:List UInt8} (hn:Y1 name) (l:List PE) (hl:∀ e ∈ l,It 0 (Fp e) e):It 10 (nm name :: Ft (Ly (Ez l))) (.mk 13 pos 0 name false l):=by
 refine ⟨Zk hn _,fun ts i rest hs=>?_⟩
 have hp:RdA ts i (i + (nm name :: Ft (Ly (Ez l))).length) (.mk 13 pos 0 name false l) .primary:=by
  obtain ⟨k0,t0,-,-,h0⟩:=Dd.cons (x:=nm name) (r:=Ft (Ly (Ez l)) ++ rest) hs
  have k0:(tk ts i).kind=1:=k0
  have t0:(tk ts i).text=name:=t0
  have key:∃ l',LikeL l l' ∧ ∃ N,∀ n q,N ≤ n → N ≤ q → I5 ts (P ts n .expr) q (i + 1)=.ok l' (i + 1 + (Ft (Ly (Ez l))).length):=by
   cases l with
   | nil =>
    obtain ⟨k1,t1,-,-,h1⟩:=Dd.cons (x:=sg [40]) (r:=sg [41] :: rest) h0
    obtain ⟨k2,t2,-,-,-⟩:=h1.cons
    refine ⟨[],.nil,0,fun n q _ _=>?_⟩
    unfold I5
    rw [Hg (by rw [t1]; decide)]
    show (if (tk ts (i + 1 + 1)).text ∈ [[41]] then _ else _)=_
    rw [if_pos (by rw [t2]; decide)]; rfl
   | cons e l =>
    rw [Xm] at h0
    obtain ⟨k1,t1,-,-,h1⟩:=h0.cons
    obtain ⟨t,r,ht,er⟩:=W4 l rest
    have h1':=h1
    rw [er] at h1'
    have he:=hl e (List.mem_cons_self ..)
    obtain ⟨e',hx,N1,p1⟩:=oC he ts (i + 1 + 1) t r ht h1'
    obtain ⟨l',hl',N2,p2⟩:=kK l (fun x hx=>oC (hl x (List.mem_cons_of_mem _ hx))) [e] [e'] (.cons _ _ _ _ hx .nil) (i + 1 + 1 + (Fp e).length) h1.skip
    refine ⟨l',hl',N1 + N2,fun n q hn hq=>?_⟩
    unfold I5
    rw [Hg (by rw [t1]; decide)]
    have hh:(tk ts (i + 1 + 1)).text ≠ [41]:=by rw [h1.head,Ha he.1.ne]; exact he.1.hb
    show (if (tk ts (i + 1 + 1)).text ∈ [[41]] then _ else (P ts n .expr (i + 1 + 1)).bind _)=_
    rw [if_neg (by simpa using hh),p1 n (by omega)]
    show Gs ts (P ts n .expr) q [e'] (i + 1 + 1 + (Fp e).length)=_
    rw [p2 n q (by omega) (by omega),pH]
  obtain ⟨l',hl',N,hk⟩:=key
  have h40:(tk ts (i + 1)).text=[40]:=by
   rw [h0.head]; rfl
  have ej:i + (nm name :: Ft (Ly (Ez l))).length=i + 1 + (Ft (Ly (Ez l))).length:=by rw [List.length_cons]; omega
  rw [ej]
  refine ⟨.mk 13 (tk ts i).pos 0 name false l',gU _ _ _ _ _ _ hl',N + 3,fun n hle=>?_⟩
  obtain ⟨m,rfl⟩:∃ m,n=m + 3:=⟨n - 3,by omega⟩
  rw [Ky,k0,if_neg (by decide),if_pos rfl]
  show (if (tk ts (i + 1)).text=[40] then (Fk ts 1 i).bind (fun t j=>(I5 ts (P ts m .expr) m j).bind fun l k=>PR.ok (PE.mk 13 t.pos 0 t.text false l) k) else _)=_
  rw [if_pos h40,Nw k0]
  show (I5 ts (P ts m .expr) m (i + 1)).bind _=_
  rw [hk m m (by omega) (by omega)]
  show PR.ok (PE.mk 13 (tk ts i).pos 0 (tk ts i).text false l') _=_
  rw [t0]
 exact ⟨Yl ((Zk hn _).mono (by omega)) hs (H8 hs) fun _=>hp,fun _ _=>jR (nt:=.primary) hp⟩
theorem Qo (kind pos:Nat) (n:Int) (name:List UInt8) (off:Bool) (kids:List PE):Fp (.mk kind pos n name off kids)=toksK kind n name off (Ez kids):=by rw [Fp]
theorem lit_rd {e:PE} (h:GoodT e) (hc:Ip e=true):RdC .lit e:=by
 intro ts i t rest ht hs
 cases h with
 | mk kind pos n name off kids hsh hk =>
  have hk2:kind=1 ∨ kind=2:=by simpa [Ip] using hc
  rcases hk2 with rfl | rfl
  ·cases hsh with
   | num _ hr =>
    rw [Qo] at hs ⊢
    refine ⟨.mk 1 (tk ts i).pos n [] false [],bZ _ _ _ _ _ _,1,fun m hm=>?_⟩
    obtain ⟨m,rfl⟩:∃ q,m=q + 1:=⟨m - 1,by omega⟩
    show (if (tk ts i).text ∈ [[116,114,117,101],[102,97,108,115,101]] then _ else Kg ts i)=_
    change Dd ts i (Xd n ++ t :: rest) at hs
    change _=PR.ok _ (i + (Xd n).length)
    unfold Xd at hs ⊢
    by_cases hn:n < 0
    ·rw [if_pos hn] at hs ⊢
     have hs':Dd ts i (sg [45] :: (2,Lib.decDigits n.natAbs,n.natAbs) :: t :: rest):=hs
     rw [if_neg (by rw [hs'.cons.2.1]; decide),neg_y hs' ⟨hr.1,hn⟩]; rfl
    ·rw [if_neg hn] at hs ⊢
     have hs':Dd ts i ((2,Lib.decDigits n.toNat,n.toNat) :: t :: rest):=hs
     have ht:(tk ts i).text=Lib.decDigits n.toNat:=hs'.cons.2.1
     rw [if_neg (by rw [ht]; intro hc; simp at hc; rcases hc with hc | hc <;> exact Uv _ (by decide) hc),num_y hs' (by omega),num_eq hn]; rfl
  ·cases hsh with
   | truth _ hr =>
    rw [Qo] at hs ⊢
    refine ⟨.mk 2 (tk ts i).pos n [] false [],bZ _ _ _ _ _ _,1,fun m hm=>?_⟩
    obtain ⟨m,rfl⟩:∃ q,m=q + 1:=⟨m - 1,by omega⟩
    show (if (tk ts i).text ∈ [[116,114,117,101],[102,97,108,115,101]] then PR.ok (I2 (tk ts i)) (i + 1) else Kg ts i)=_
    rcases hr with rfl | rfl
    ·have t0:=(Dd.cons (x:=kw [102,97,108,115,101]) (r:=t :: rest) hs).2.1
     rw [if_pos (by rw [t0]; decide)]
     unfold I2
     rw [t0]; rfl
    ·have t0:=(Dd.cons (x:=kw [116,114,117,101]) (r:=t :: rest) hs).2.1
     rw [if_pos (by rw [t0]; decide)]
     unfold I2
     rw [t0]; rfl
theorem it_await0 (pos:Nat) {name:List UInt8} (hn:Y1 name):It 10 [kw [97,119,97,105,116],nm name] (.mk 14 pos 0 name false []):=by
 have hd:Hd 10 [kw [97,119,97,105,116],nm name]:=by
  refine ⟨fun e=>(by cases e),fun _=>?_,fun _=>?_,fun _=>?_,?_⟩ <;> simp [Gk]
 refine ⟨hd,fun ts i rest hs=>?_⟩
 obtain ⟨k0,t0,-,-,h0⟩:=Dd.cons (x:=kw [97,119,97,105,116]) (r:=nm name :: rest) hs
 obtain ⟨k1,t1,-,-,h1⟩:=h0.cons
 have t1:(tk ts (i + 1)).text=name:=t1
 have hp:Gq 10 rest → RdA ts i (i + 2) (.mk 14 pos 0 name false []) .primary:=fun hst=>by
  refine ⟨.mk 14 (tk ts i).pos 0 name false [],bZ _ _ _ _ _ _,1,fun m hm=>?_⟩
  obtain ⟨m,rfl⟩:∃ q,m=q + 1:=⟨m - 1,by omega⟩
  rw [Ky,k0,t0,if_neg (by decide),if_neg (by decide),if_neg (by decide),if_neg (by decide),if_pos rfl,Nw k1]
  show (if (tk ts (i + 1 + 1)).text ∈ [[97,102,116,101,114]] then _ else PR.ok (PE.mk 14 (tk ts i).pos 0 (tk ts (i + 1)).text false []) (i + 1 + 1))=_
  have hne:(tk ts (i + 1 + 1)).text ≠ [97,102,116,101,114]:=by rw [h1.head]; exact hst.ne (k:=10) (by omega) (by decide)
  rw [if_neg (by simpa using hne),t1]
 exact ⟨Yl (hd.mono (by omega)) hs (H8 hs) hp,fun _ hst=>jR (nt:=.primary) (hp hst)⟩
theorem it_await1 (pos:Nat) {name:List UInt8} (hn:Y1 name) (e:PE) (l:List PE) (hl:∀ x ∈ e :: l,RdC .lit x):It 10 (kw [97,119,97,105,116] :: nm name :: kw [97,102,116,101,114] :: Ft (Ly (Ez (e :: l)))) (.mk 14 pos 0 name false (e :: l)):=by
 have hd:Hd 10 (kw [97,119,97,105,116] :: nm name :: kw [97,102,116,101,114] :: Ft (Ly (Ez (e :: l)))):=by
  refine ⟨fun e=>(by cases e),fun _=>?_,fun _=>?_,fun _=>?_,?_⟩ <;> simp [Gk]
 refine ⟨hd,fun ts i rest hs=>?_⟩
 have hp:RdA ts i (i + (kw [97,119,97,105,116] :: nm name :: kw [97,102,116,101,114] :: Ft (Ly (Ez (e :: l)))).length) (.mk 14 pos 0 name false (e :: l)) .primary:=by
  obtain ⟨k0,t0,-,-,h0⟩:=Dd.cons (x:=kw [97,119,97,105,116]) (r:=nm name :: kw [97,102,116,101,114] :: (Ft (Ly (Ez (e :: l))) ++ rest)) hs
  obtain ⟨k1,t1,-,-,h1⟩:=h0.cons
  have t1:(tk ts (i + 1)).text=name:=t1
  obtain ⟨k2,t2,-,-,h2⟩:=h1.cons
  rw [Xm] at h2
  obtain ⟨k3,t3,-,-,h3⟩:=h2.cons
  obtain ⟨t,r,ht,er⟩:=W4 l rest
  have h3':=h3
  rw [er] at h3'
  obtain ⟨e',hx,N1,p1⟩:=hl e (List.mem_cons_self ..) ts (i + 1 + 1 + 1 + 1) t r ht h3'
  obtain ⟨l',hl',N2,p2⟩:=kK l (fun x hx=>hl x (List.mem_cons_of_mem _ hx)) [e] [e'] (.cons _ _ _ _ hx .nil) (i + 1 + 1 + 1 + 1 + (Fp e).length) h3.skip
  have ej:i + (kw [97,119,97,105,116] :: nm name :: kw [97,102,116,101,114] :: Ft (Ly (Ez (e :: l)))).length=i + 1 + 1 + 1 + 1 + (Fp e).length + (Nh (Ez l)).length + 1:=by
   have:=pH e l (i + 3)
   rw [List.length_cons,List.length_cons,List.length_cons]; omega
  rw [ej]
  refine ⟨.mk 14 (tk ts i).pos 0 name false l',gU _ _ _ _ _ _ hl',N1 + N2 + 1,fun n hle=>?_⟩
  obtain ⟨m,rfl⟩:∃ m,n=m + 1:=⟨n - 1,by omega⟩
  rw [Ky,k0,t0,if_neg (by decide),if_neg (by decide),if_neg (by decide),if_neg (by decide),if_pos rfl,Nw k1]
  show (if (tk ts (i + 1 + 1)).text ∈ [[97,102,116,101,114]] then (C7 ts [[40]] (i + 1 + 1 + 1)).bind _ else _)=_
  rw [if_pos (by rw [t2]; decide),Hg (by rw [t3]; decide)]
  show (P ts m .lit (i + 1 + 1 + 1 + 1)).bind _=_
  rw [p1 m (by omega)]
  show (Gs ts (P ts m .lit) m [e'] (i + 1 + 1 + 1 + 1 + (Fp e).length)).bind _=_
  rw [p2 m m (by omega) (by omega)]
  show PR.ok (PE.mk 14 (tk ts i).pos 0 (tk ts (i + 1)).text false l') _=_
  rw [t1]
 exact ⟨Yl (hd.mono (by omega)) hs (H8 hs) fun _=>hp,fun _ _=>jR (nt:=.primary) hp⟩
end Go.Ax
noncomputable section
namespace Go.Ax
open Go.RowKit Go.Proofs
set_option maxRecDepth 100000
theorem sign2 {s:List UInt8} (h:s ∈ D9 2):H6 s=2:=by simp [D9] at h; rcases h with rfl | rfl <;> decide
theorem sign3 {s:List UInt8} (h:s ∈ D9 3):H6 s=3:=by simp [D9] at h; subst h; decide
theorem sign5 {s:List UInt8} (h:s ∈ D9 5):H6 s=5:=by simp [D9] at h; rcases h with rfl | rfl | rfl | rfl | rfl | rfl <;> decide
theorem sign6 {s:List UInt8} (h:s ∈ D9 6):H6 s=6:=by simp [D9] at h; rcases h with rfl | rfl <;> decide
theorem sign7 {s:List UInt8} (h:s ∈ D9 7):H6 s=7:=by simp [D9] at h; rcases h with rfl | rfl | rfl <;> decide
def NumQ (e:PE):Prop:=∀ y r,Fp e=y :: r → y.1=2 → 8 ≤ Ea e → Lj e=1 ∨ Gk r=[119,104,101,110]
theorem Pb {e:PE} (h:∀ y r,Fp e=y :: r → y.1 ≠ 2):NumQ e:=fun y r e1 e2=>absurd e2 (h y r e1)
theorem Lu {e:PE} (h:Ea e < 8):NumQ e:=fun y r e1 e2 e3=>by omega
def dV (e:PE):KJ:=⟨Fp e,Ea e,Lj e⟩
theorem tQ {e:PE} {ks:List KJ} {k least:Nat} (hk:ks[k]? = some (dV e)) (h:Ea e < least):kJ ks k least=Ft (Fp e):=by
 unfold kJ; rw [hk]; show (if Ea e < least then _ else _)=_; rw [if_pos h]; rfl
theorem lI {e:PE} {ks:List KJ} {k least:Nat} (hk:ks[k]? = some (dV e)) (h:¬ Ea e < least):kJ ks k least=Fp e:=by
 unfold kJ; rw [hk]; show (if Ea e < least then _ else _)=_; rw [if_neg h]; rfl
theorem qW {e:PE} (h:Ip e=true):8 ≤ Ea e:=by
 cases e with
 | mk kind pos n name off kids =>
  have hk:kind=1 ∨ kind=2:=by simpa [Ip] using h
  rcases hk with rfl | rfl
  ·show 8 ≤ (if n < 0 then 8 else 10); split <;> omega
  ·show 8 ≤ 10; omega
theorem back_e {e:PE} (h:GoodT e):It (Ea e) (Fp e) e ∧ NumQ e:=by
 induction h with
 | mk kind pos n name off kids hs hk ih =>
  have kid:∀ {x:PE},x ∈ kids → ∀ (k least:Nat),least ≤ 10 → (Ez kids)[k]? = some (dV x) → It least (kJ (Ez kids) k least) x:=fun hx k least hl he=>it_kid (ih _ hx).1 _ k he least hl
  have et:=Qo kind pos n name off kids
  cases hs with
  | num _ hr =>
   rw [et]
   refine ⟨it_num pos n hr,fun y r e1 e2 e3=>.inl rfl⟩
  | truth _ hr =>
   refine ⟨by rw [et]; exact it_truth pos n hr,Pb fun y r e1=>?_⟩
   rw [et] at e1
   injection e1 with e1 _; subst e1; show (3:Nat) ≠ 2; decide
  | var _ hn =>
   refine ⟨by rw [et]; exact it_var pos hn.1,Pb fun y r e1=>?_⟩
   rw [et] at e1
   injection e1 with e1 _; subst e1; show (1:Nat) ≠ 2; decide
  | neg x =>
   have hx:=ih x (List.mem_cons_self ..)
   have hkk:=kid (List.mem_cons_self ..) 0 8 (by omega) rfl
   have e8:Fp (.mk 4 pos 0 [] false [x])=eH (Ez [x]):=et
   refine ⟨?_,Pb fun y r e1=>?_⟩
   ·rw [e8]
    show It 8 (eH (Ez [x])) _
    unfold eH
    split
    ·exact it_neg pos ((it_brk (hkk.mono (by omega))).mono (by omega)) fun y r e1 e2=>by
      unfold Ft at e1
      injection e1 with e1 _; subst e1; cases e2
    ·rename_i hc
     refine it_neg pos hkk fun y r e1 e2=>?_
     have h1:Lj x ≠ 1:=fun q=>hc (.inl ⟨dV x,rfl,q⟩)
     have h8:(Ez [x])[0]? = some (dV x):=rfl
     by_cases hb:Ea x < 8
     ·rw [tQ h8 hb] at e1
      unfold Ft at e1
      injection e1 with e1 _; subst e1; cases e2
     ·rw [lI h8 hb] at e1
      exact (hx.2 y r e1 e2 (by omega)).resolve_left h1
   ·rw [e8] at e1
    unfold eH at e1
    split at e1 <;> (injection e1 with e1 _; subst e1; decide)
  | not x =>
   refine ⟨?_,Lu (show (4:Nat) < 8 by omega)⟩
   rw [et]
   exact it_not pos (kid (List.mem_cons_self ..) 0 4 (by omega) rfl)
  | pre x =>
   refine ⟨?_,Pb fun y r e1=>?_⟩
   ·rw [et]
    exact it_pre pos (kid (List.mem_cons_self ..) 0 8 (by omega) rfl)
   ·rw [et] at e1
    injection e1 with e1 _; subst e1; decide
  | bin _ x y hm =>
   have hx:∀ least,least ≤ 10 → It least (kJ (Ez [x,y]) 0 least) x:=fun least hl=>kid (by simp) 0 least hl rfl
   have hy:∀ least,least ≤ 10 → It least (kJ (Ez [x,y]) 1 least) y:=fun least hl=>kid (by simp) 1 least hl rfl
   have eb:Ea (.mk 6 pos 0 name false [x,y])=H6 name:=rfl
   have e6:Fp (.mk 6 pos 0 name false [x,y])=kJ (Ez [x,y]) 0 (if H6 name=5 then 6 else H6 name) ++ opT name :: kJ (Ez [x,y]) 1 (H6 name + 1):=et
   rcases hm with hm | hm | hm | hm | hm
   ·have e:=sign2 hm
    refine ⟨?_,Lu (by rw [eb,e]; omega)⟩
    rw [eb,e6,e]
    exact Zu pos (by omega) (hx 2 (by omega)) (hy 3 (by omega)) hm
   ·have e:=sign3 hm
    refine ⟨?_,Lu (by rw [eb,e]; omega)⟩
    rw [eb,e6,e]
    exact Zu pos (by omega) (hx 3 (by omega)) (hy 4 (by omega)) hm
   ·have e:=sign5 hm
    refine ⟨?_,Lu (by rw [eb,e]; omega)⟩
    rw [eb,e6,e]
    exact it_cmp pos (hx 6 (by omega)) (hy 6 (by omega)) hm
   ·have e:=sign6 hm
    refine ⟨?_,Lu (by rw [eb,e]; omega)⟩
    rw [eb,e6,e]
    exact Zu pos (by omega) (hx 6 (by omega)) (hy 7 (by omega)) hm
   ·have e:=sign7 hm
    refine ⟨?_,Lu (by rw [eb,e]; omega)⟩
    rw [eb,e6,e]
    exact Zu pos (by omega) (hx 7 (by omega)) (hy 8 (by omega)) hm
  | ite x y z =>
   refine ⟨?_,Lu (show (0:Nat) < 8 by omega)⟩
   rw [et]
   exact it_ite pos (kid (by simp) 0 0 (by omega) rfl) (kid (by simp) 1 0 (by omega) rfl) (kid (by simp) 2 0 (by omega) rfl)
  | arrow x y =>
   refine ⟨?_,Lu (show (1:Nat) < 8 by omega)⟩
   rw [et]
   exact it_arrow pos (kid (by simp) 0 2 (by omega) rfl) (kid (by simp) 1 1 (by omega) rfl)
  | fby x y hc =>
   refine ⟨?_,Lu (show (1:Nat) < 8 by omega)⟩
   rw [et]
   have h0:It 2 (kJ (Ez [x,y]) 0 0) x:=by
    rw [lI (e:=x) (k:=0) rfl (by omega)]
    exact (ih x (by simp)).1.mono (by have:=qW hc; omega)
   exact it_fby pos h0 (kid (by simp) 1 1 (by omega) rfl) hc
  | when _ off x hn =>
   refine ⟨?_,fun y r e1 e2 e3=>.inr ?_⟩
   ·rw [et]
    exact it_when pos hn.1 off (kid (by simp) 0 9 (by omega) rfl)
   ·have e9:Fp (.mk 11 pos 0 name off [x])=kJ (Ez [x]) 0 9 ++ Lf name off:=et
    rw [e9] at e1
    have h9:(Ez [x])[0]? = some (dV x):=rfl
    have hw:Gk (Lf name off)=[119,104,101,110]:=by unfold Lf; cases off <;> rfl
    have hx:=ih x (by simp)
    by_cases hb:Ea x < 9
    ·rw [tQ h9 hb] at e1
     injection e1 with e1 _; subst e1; cases e2
    ·rw [lI h9 hb] at e1
     cases hq:Fp x with
     | nil=>exact absurd hq hx.1.1.ne
     | cons y' r' =>
      rw [hq] at e1
      injection e1 with e1 e4
      subst e1
      subst e4
      rcases hx.2 _ _ hq e2 (by omega) with hk1 | hk1
      ·have hr:r' = []:=by
        cases hk x (by simp) with
        | mk kind' pos' n' name' off' kids' hs' hk' =>
         have:kind' = 1:=hk1
         subst this
         cases hs' with
         | num _ hr =>
          have e5:Fp (.mk 1 pos' n' [] false [])=Xd n':=Qo ..
          rw [e5] at hq
          unfold Xd at hq
          split at hq
          ·injection hq with q1 q2; subst q1; cases e2
          ·injection hq with q1 q2; exact q2.symm
       rw [hr]; exact hw
      ·have hne:r' ≠ []:=fun q=>by rw [q] at hk1; cases hk1
       exact (Ha hne).trans hk1
  | merge _ x y hn =>
   refine ⟨?_,Pb fun y r e1=>?_⟩
   ·rw [et]
    exact it_merge pos hn.1 (kid (by simp) 0 0 (by omega) rfl) (kid (by simp) 1 0 (by omega) rfl)
   ·rw [et] at e1
    injection e1 with e1 _; subst e1; decide
  | call _ l hn =>
   refine ⟨?_,Pb fun y r e1=>?_⟩
   ·rw [et]
    exact it_call pos hn.1 kids fun e he=>(ih e he).1.mono (Nat.zero_le _)
   ·rw [et] at e1
    injection e1 with e1 _; subst e1; show (1:Nat) ≠ 2; decide
  | await _ l hn hl =>
   cases kids with
   | nil =>
    refine ⟨?_,Pb fun y r e1=>?_⟩
    ·rw [et]; exact it_await0 pos hn.1
    ·rw [et] at e1
     injection e1 with e1 _; subst e1; decide
   | cons e l =>
    refine ⟨?_,Pb fun y r e1=>?_⟩
    ·rw [et]; exact it_await1 pos hn.1 e l fun x hx=>lit_rd (hk x hx) (hl x hx)
    ·rw [et] at e1
     injection e1 with e1 _; subst e1; show (3:Nat) ≠ 2; decide
end Go.Ax
noncomputable section
namespace Go.Ax
open Go.RowKit Go.Proofs
set_option maxRecDepth 100000
def NameL (ts:List Tk):Prop:=∀ i,(tk ts i).kind=1 → Hw (tk ts i).text
theorem pV {kind pos:Nat} {n:Int} {name:List UInt8} {off:Bool} (h:Shape kind n name off []):GoodT (.mk kind pos n name off []):=.mk _ _ _ _ _ _ h (fun e he=>by cases he)
theorem xX {kind pos:Nat} {n:Int} {name:List UInt8} {off:Bool} {x:PE} (h:Shape kind n name off [x]) (hx:GoodT x):GoodT (.mk kind pos n name off [x]):=.mk _ _ _ _ _ _ h (fun e he=>by simp at he; subst he; exact hx)
theorem pU {kind pos:Nat} {n:Int} {name:List UInt8} {off:Bool} {x y:PE} (h:Shape kind n name off [x,y]) (hx:GoodT x) (hy:GoodT y):GoodT (.mk kind pos n name off [x,y]):=.mk _ _ _ _ _ _ h (fun e he=>by simp at he; rcases he with rfl | rfl; exact hx; exact hy)
theorem good3 {kind pos:Nat} {n:Int} {name:List UInt8} {off:Bool} {x y z:PE} (h:Shape kind n name off [x,y,z]) (hx:GoodT x) (hy:GoodT y) (hz:GoodT z):GoodT (.mk kind pos n name off [x,y,z]):=.mk _ _ _ _ _ _ h (fun e he=>by simp at he; rcases he with rfl | rfl | rfl; exact hx; exact hy; exact hz)
def GE (e:PE) (_:Nat):Prop:=GoodT e
def GC (e:PE) (_:Nat):Prop:=GoodT e ∧ Ip e=true
theorem GC.e {x:PR PE} (h:OkR GC x):OkR GE x:=fun a j e=>(h a j e).1
section
variable {ts:List Tk} (hts:NameL ts)
include hts
omit hts in
theorem wY (i:Nat):OkR GC (Kg ts i):=by
 unfold Kg
 split
 ·exact .out
 ·refine OkR.ite (fun _=>?_) (fun _=>?_)
  ·split
   ·exact .out
   ·exact OkR.ite (fun _=>.ok ⟨pV (.num _ (Y8 _)),rfl⟩) (fun _=>.bad)
  ·exact OkR.ite (fun _=>OkR.ite (fun _=>.bad) (fun _=>.ok ⟨pV (.num _ (Y8 _)),rfl⟩)) (fun _=>.bad)
omit hts in
theorem jU (i:Nat):GC (I2 (tk ts i)) (i + 1):=by
 unfold I2
 refine ⟨pV (.truth _ ?_),rfl⟩
 split
 ·exact .inr rfl
 ·exact .inl rfl
theorem zB (i:Nat):OkR (fun c j=>Hw c.1) (Hc ts i):=by
 unfold Hc
 refine OkR.ite (fun _=>?_) (fun _=>?_)
 ·exact (Jl 1 (i + 1)).bind fun a j e=>.ok (by rw [e.1]; exact hts _ e.2.2)
 ·exact (Jl 1 i).bind fun a j e=>.ok (by rw [e.1]; exact hts _ e.2.2)
omit hts in
theorem nU (ws:List (List UInt8)) (hws:∀ w ∈ ws,w ∈ D9 2 ∨ w ∈ D9 3 ∨ w ∈ D9 5 ∨ w ∈ D9 6 ∨ w ∈ D9 7) {kid:Nat → PR PE} (hk:∀ i,OkR GE (kid i)):∀ (n:Nat) (x:PE) (i:Nat),GoodT x → OkR GE (Jd ts ws kid n x i)
 | 0,_,_,_=>.out
 | n + 1,x,i,hx=>by
  unfold Jd
  refine OkR.ite (fun hm=>(hk (i + 1)).bind fun y j e=>?_) (fun _=>.ok hx)
  exact nU ws hws hk n _ j (pU (.bin _ _ _ (hws _ hm)) hx e)
theorem when_g:∀ (n:Nat) (x:PE) (i:Nat),GoodT x → OkR GE (Jf ts n x i)
 | 0,_,_,_=>.out
 | n + 1,x,i,hx=>by
  unfold Jf
  refine OkR.ite (fun hm=>(zB hts (i + 1)).bind fun c j e=>?_) (fun _=>.ok hx)
  exact when_g n _ j (xX (.when _ _ _ e) hx)
omit hts in
theorem sL {Q:PE → Prop} {kid:Nat → PR PE} (hk:∀ i,OkR (fun e _=>Q e) (kid i)):∀ (n:Nat) (l:List PE) (i:Nat),(∀ e ∈ l,Q e) → OkR (fun l _=>∀ e ∈ l,Q e) (Gs ts kid n l i)
 | 0,_,_,_=>.out
 | n + 1,l,i,hl=>by
  unfold Gs
  refine OkR.ite (fun hm=>(hk (i + 1)).bind fun y j e=>?_) (fun _=>(Ey _ i).bind fun _ j e=>.ok hl)
  exact sL hk n _ j (fun x hx=>by simp at hx; rcases hx with h | rfl; exact hl _ h; exact e)
omit hts in
theorem list_g {Q:PE → Prop} {kid:Nat → PR PE} (hk:∀ i,OkR (fun e _=>Q e) (kid i)) (n i:Nat):OkR (fun l _=>∀ e ∈ l,Q e) (I5 ts kid n i):=by
 unfold I5
 refine (Ey _ i).bind fun _ j e=>?_
 refine OkR.ite (fun _=>.ok (fun e h=>(by cases h))) (fun _=>(hk _).bind fun x m e2=>?_)
 exact sL hk n [x] m (fun y hy=>by simp at hy; subst hy; exact e2)
def GN (nt:NT) (e:PE):Prop:=GoodT e ∧ (nt=.lit → Ip e=true)
theorem P_g:∀ (n:Nat) (nt:NT) (i:Nat),OkR (fun e _=>GN nt e) (P ts n nt i)
 | 0,nt,i=>by cases nt <;> exact .out
 | n + 1,nt,i=>by
  have ih:=P_g n
  have g:∀ nt i,OkR GE (P ts n nt i):=fun nt i a j e=>(ih nt i a j e).1
  have up:∀ {nt:NT} {x:PR PE},nt ≠ .lit → OkR GE x → OkR (fun e _=>GN nt e) x:=fun hn h a j e=>⟨h a j e,fun q=>absurd q hn⟩
  have h2:∀ w ∈ D9 2,w ∈ D9 2 ∨ w ∈ D9 3 ∨ w ∈ D9 5 ∨ w ∈ D9 6 ∨ w ∈ D9 7:=fun w h=>.inl h
  have h3:∀ w ∈ D9 3,w ∈ D9 2 ∨ w ∈ D9 3 ∨ w ∈ D9 5 ∨ w ∈ D9 6 ∨ w ∈ D9 7:=fun w h=>.inr (.inl h)
  have h6:∀ w ∈ D9 6,w ∈ D9 2 ∨ w ∈ D9 3 ∨ w ∈ D9 5 ∨ w ∈ D9 6 ∨ w ∈ D9 7:=fun w h=>.inr (.inr (.inr (.inl h)))
  have h7:∀ w ∈ D9 7,w ∈ D9 2 ∨ w ∈ D9 3 ∨ w ∈ D9 5 ∨ w ∈ D9 6 ∨ w ∈ D9 7:=fun w h=>.inr (.inr (.inr (.inr h)))
  cases nt with
  | expr =>
   refine up (fun q=>by cases q) ?_
   simp only [P]
   refine OkR.ite (fun _=>?_) (fun _=>g .arrow i)
   exact (g .expr (i + 1)).bind fun a j e1=>(Ey _ j).bind fun _ j' e2=>(g .expr j').bind fun b j2 e3=>(Ey _ j2).bind fun _ j3 e4=>(g .expr j3).bind fun c j4 e5=>.ok (good3 (.ite _ _ _) e1 e3 e5)
  | arrow =>
   refine up (fun q=>by cases q) ?_
   simp only [P]
   refine (g .or i).bind fun a j e1=>?_
   refine OkR.ite (fun _=>(g .arrow (j + 1)).bind fun b m e2=>.ok (pU (.arrow _ _) e1 e2)) (fun _=>?_)
   refine OkR.ite (fun _=>.ok e1) (fun hc=>?_)
   exact OkR.ite (fun _=>(g .arrow (j + 1)).bind fun b m e2=>.ok (pU (.fby _ _ (by simpa using hc)) e1 e2)) (fun _=>.ok e1)
  | or =>
   refine up (fun q=>by cases q) ?_
   simp only [P]
   exact (g .and i).bind fun a j e1=>nU _ h2 (g .and) n _ _ e1
  | and =>
   refine up (fun q=>by cases q) ?_
   simp only [P]
   exact (g .not i).bind fun a j e1=>nU _ h3 (g .not) n _ _ e1
  | not =>
   refine up (fun q=>by cases q) ?_
   simp only [P]
   refine OkR.ite (fun _=>(g .not (i + 1)).bind fun a j e1=>.ok (xX (.not _) e1)) (fun _=>?_)
   refine (g .sum i).bind fun a j e1=>?_
   exact OkR.ite (fun hm=>(g .sum (j + 1)).bind fun b m e2=>.ok (pU (.bin _ _ _ (.inr (.inr (.inl hm)))) e1 e2)) (fun _=>.ok e1)
  | sum =>
   refine up (fun q=>by cases q) ?_
   simp only [P]
   exact (g .term i).bind fun a j e1=>nU _ h6 (g .term) n _ _ e1
  | term =>
   refine up (fun q=>by cases q) ?_
   simp only [P]
   exact (g .unary i).bind fun a j e1=>nU _ h7 (g .unary) n _ _ e1
  | unary =>
   refine up (fun q=>by cases q) ?_
   simp only [P]
   refine OkR.ite (fun _=>(g .unary (i + 1)).bind fun a j e1=>.ok (xX (.pre _) e1)) (fun _=>?_)
   refine OkR.ite (fun _=>GC.e (wY i)) (fun _=>?_)
   exact OkR.ite (fun _=>(g .unary (i + 1)).bind fun a j e1=>.ok (xX (.neg _) e1)) (fun _=>g .when i)
  | when =>
   refine up (fun q=>by cases q) ?_
   simp only [P]
   exact (g .primary i).bind fun a j e1=>when_g hts n _ _ e1
  | primary =>
   refine up (fun q=>by cases q) ?_
   simp only [P]
   refine OkR.ite (fun _=>GC.e (wY i)) (fun _=>?_)
   refine OkR.ite (fun _=>g .name i) (fun _=>?_)
   refine OkR.ite (fun _=>.ok (jU i).1) (fun _=>?_)
   refine OkR.ite (fun _=>?_) (fun _=>?_)
   ·exact (Jl 1 (i + 1)).bind fun t j e=>(g .brk j).bind fun a j2 e1=>(g .brk j2).bind fun b j3 e2=>.ok (pU (.merge _ _ _ (by rw [e.1]; exact hts _ e.2.2)) e1 e2)
   refine OkR.ite (fun _=>?_) (fun _=>g .brk i)
   refine (Jl 1 (i + 1)).bind fun t j e=>?_
   refine OkR.ite (fun _=>?_) (fun _=>.ok (pV (.await _ _ (by rw [e.1]; exact hts _ e.2.2) (fun x hx=>by cases hx))))
   refine (Ey _ (j + 1)).bind fun _ j' e2=>(ih .lit j').bind fun a m e1=>?_
   refine (sL (ih .lit) n [a] m (fun y hy=>by simp at hy; subst hy; exact e1)).bind fun l m e3=>.ok (.mk _ _ _ _ _ _ (.await _ _ (by rw [e.1]; exact hts _ e.2.2) (fun x hx=>(e3 x hx).2 rfl)) (fun x hx=>(e3 x hx).1))
  | name =>
   refine up (fun q=>by cases q) ?_
   simp only [P]
   exact OkR.ite (fun _=>g .call i) (fun _=>(Jl 1 i).bind fun t j e=>.ok (pV (.var _ (by rw [e.1]; exact hts _ e.2.2))))
  | call =>
   refine up (fun q=>by cases q) ?_
   simp only [P]
   exact (Jl 1 i).bind fun t j e=>(list_g (Q:=GoodT) (fun i=>g .expr i) n j).bind fun l m e2=>.ok (.mk _ _ _ _ _ _ (.call _ _ (by rw [e.1]; exact hts _ e.2.2)) e2)
  | brk =>
   refine up (fun q=>by cases q) ?_
   simp only [P]
   exact (Ey _ i).bind fun _ j e0=>(g .expr j).bind fun a j2 e1=>(Ey _ j2).bind fun _ j3 e2=>.ok e1
  | lit =>
   simp only [P]
   exact OkR.ite (fun _=>.ok ⟨(jU i).1,fun _=>(jU i).2⟩) (fun _=>fun a j e=>⟨(wY i a j e).1,fun _=>(wY i a j e).2⟩)
end
end Go.Ax
noncomputable section
namespace Go.Ax
open Go.RowKit Go.Proofs
set_option maxRecDepth 100000
abbrev finT:TK:=(5,[],0)
structure Lead (w r:List UInt8) (t:TK):Prop where
 next:∀ i,Hf (w ++ r) i=some (⟨t.1,i,t.2.1,t.2.2⟩,0)
 text:t.2.1=w
 ne:w ≠ []
 nb:cnt Dw (w ++ r)=0
 nc:D5 [45,45] (w ++ r)=false
inductive SpT:List UInt8 → List TK → Prop where
 | fin:SpT [] [finT]
 | blank (r:List UInt8) (us:List TK) (h:SpT r us):SpT (32 :: r) us
 | nl (r:List UInt8) (us:List TK) (h:SpT r us):SpT (10 :: r) us
 | tok (w r:List UInt8) (t:TK) (us:List TK) (hl:Lead w r t) (h:SpT r us):SpT (w ++ r) (t :: us)
inductive HeadOk:List UInt8 → List TK → Prop where
 | fin:HeadOk [] [finT]
 | tok (w r:List UInt8) (t:TK) (us:List TK) (hl:Lead w r t) (h:SpT r us):HeadOk (w ++ r) (t :: us)
theorem vZ {s:List UInt8} {us:List TK} (h:SpT s us) (N:Nat):Gw (N + 1) s ≤ s.length ∧ HeadOk (s.drop (Gw (N + 1) s)) us:=by
 induction h with
 | fin=>exact ⟨Nat.le_of_eq (Mh rfl rfl _),by rw [Mh rfl rfl]; exact .fin⟩
 | blank r us h ih =>
  rw [K7 (.inl rfl),Nat.add_comm 1,List.drop_succ_cons]
  exact ⟨by simp; exact ih.1,ih.2⟩
 | nl r us h ih =>
  rw [K7 (.inr (.inl rfl)),Nat.add_comm 1,List.drop_succ_cons]
  exact ⟨by simp; exact ih.1,ih.2⟩
 | tok w r t us hl h ih =>
  rw [Mh hl.nb hl.nc]
  exact ⟨Nat.zero_le _,.tok w r t us hl h⟩
theorem sp_len {s:List UInt8} {us:List TK} (h:SpT s us):us.length ≤ s.length + 1:=by
 induction h with
 | fin=>simp
 | blank r us h ih=>simp; omega
 | nl r us h ih=>simp; omega
 | tok w r t us hl h ih =>
  have:=List.length_pos_iff.2 hl.ne
  simp; omega
theorem sp_all {X:List UInt8}:∀ (us:List TK) (m i:Nat),HeadOk (X.drop i) us → i ≤ X.length → us.length ≤ m → ∃ ts,Mx X m i=some (.inr ts) ∧ ts.map absT=us:=by
 intro us
 induction us with
 | nil=>intro m i h; generalize X.drop i=Y at h; cases h
 | cons u us ih =>
  intro m i h hi hm
  obtain ⟨M,rfl⟩:∃ M,m=M + 1:=⟨m - 1,by simp at hm; omega⟩
  generalize hX:X.drop i=Y at h
  cases h with
  | fin =>
   have hl:X.length ≤ i:=List.drop_eq_nil_iff.1 hX
   refine ⟨_,by unfold Mx; rw [if_neg (by omega)],rfl⟩
  | tok w r t us hl h =>
   have hlen:X.length - i=w.length + r.length:=by have:=congrArg List.length hX; simpa using this
   have hw:=List.length_pos_iff.2 hl.ne
   have hd2:X.drop (i + w.length)=r:=by rw [← List.drop_drop,hX]; simp
   obtain ⟨h1,h2⟩:=vZ h X.length
   obtain ⟨ts,ht,hm2⟩:=ih M (i + w.length + Gw (X.length + 1) r) (by rw [← List.drop_drop,hd2]; exact h2) (by omega) (by simp at hm; omega)
   refine ⟨⟨u.1,i,u.2.1,u.2.2⟩ :: ts,?_,by rw [List.map_cons,hm2]; rfl⟩
   unfold Mx
   rw [if_pos (by omega),hX,hl.next i]
   simp only [Aa]
   rw [hl.text,hd2,ht]
theorem sp_lex {X:List UInt8} {us:List TK} (h:SpT X us) (hX:X.length ≤ 4000):∃ ts,Jz X=some (.inr ts) ∧ Dd ts 0 us:=by
 obtain ⟨h1,h2⟩:=vZ h X.length
 obtain ⟨ts,ht,hm⟩:=sp_all us (X.length + 1) _ h2 h1 (sp_len h)
 refine ⟨ts,by unfold Jz; rw [if_neg (by omega)]; exact ht,by unfold Dd; rw [List.drop_zero]; exact hm⟩
def Fol (r:List UInt8):Prop:=∀ c q,r=c :: q → Ds c=false
theorem mG (p:UInt8 → Bool) {r:List UInt8} (hr:∀ c q,r=c :: q → p c=false):∀ (w:List UInt8),(∀ b ∈ w,p b=true) → cnt p (w ++ r)=w.length
 | [],_=>by
  show cnt p r=0
  cases r with
  | nil=>rfl
  | cons c q=>unfold cnt; rw [hr c q rfl]; rfl
 | b :: w,h=>by
  show cnt p (b :: (w ++ r))=_
  unfold cnt
  rw [h b (List.mem_cons_self ..),if_pos rfl,mG p hr w (fun x hx=>h x (List.mem_cons_of_mem _ hx))]
  rfl
theorem gY {w r:List UInt8} (hw:∃ b q,w=b :: q ∧ F0 b=true ∧ ∀ c ∈ q,Ds c=true) (hl:w ∈ Jk ∨ w.length ≤ 30) (hr:Fol r):Lead w r (if w ∈ Jk then kw w else nm w):=by
 obtain ⟨b,q,rfl,hb,hq⟩:=hw
 have hn:=Un hb
 have hc:cnt Ds ((b :: q) ++ r)=(b :: q).length:=mG Ds hr _ (fun c hc=>by
  rcases List.mem_cons.1 hc with rfl | hc
  ·unfold Ds; rw [hb]; rfl
  ·exact hq c hc)
 refine ⟨fun i=>?_,by split <;> rfl,by simp,Ms hn.1,Pu hn.2⟩
 show (if F0 b then some (Ln ((b :: q) ++ r) i) else _)=_
 rw [if_pos hb]
 unfold Ln
 rw [hc,List.take_left]
 split
 ·rfl
 ·rename_i h
  rw [if_neg (by have:=hl.resolve_left h; omega)]
theorem dec_all (u:Nat):(∀ b ∈ Lib.decDigits u,Da b=true) ∧ (∀ r,Lib.decDigits u=48 :: r → r=[]) ∧ ∀ a,H9 a (Lib.decDigits u)=a * 10 ^ (Lib.decDigits u).length + u:=by
 induction u using Nat.strongRecOn with
 | _ u ih =>
  rw [Lib.decDigits]
  have hd:∀ d,d < 10 → (UInt8.ofNat (48 + d)).toNat=48 + d:=fun d h=>by simp [UInt8.toNat_ofNat]; omega
  have hg:∀ d,d < 10 → Da (UInt8.ofNat (48 + d))=true:=fun d h=>by unfold Da; rw [hd d h]; simp; omega
  split
  ·rename_i h
   refine ⟨fun b hb=>?_,fun r e=>by injection e with _ e; exact e.symm,fun a=>?_⟩
   ·rw [List.mem_singleton] at hb; subst hb; exact hg u h
   ·show a * 10 + ((UInt8.ofNat (48 + u)).toNat - 48)=a * 10 ^ 1 + u
    rw [hd u h]; omega
  ·rename_i h
   obtain ⟨h1,h2,h3⟩:=ih (u / 10) (by omega)
   have happ:∀ (l:List UInt8) (a:Nat) (c:UInt8),H9 a (l ++ [c])=H9 a l * 10 + (c.toNat - 48):=by
    intro l
    induction l with
    | nil=>intro a c; rfl
    | cons x l ihl=>intro a c; exact ihl _ c
   refine ⟨fun b hb=>?_,fun r e=>?_,fun a=>?_⟩
   ·rcases List.mem_append.1 hb with hb | hb
    ·exact h1 b hb
    ·rw [List.mem_singleton] at hb; subst hb; exact hg _ (Nat.mod_lt _ (by omega))
   ·exfalso
    obtain ⟨c,q,ec,_⟩:=Sn (u / 10)
    rw [ec] at e
    injection e with e1 e2
    subst e1
    have hq:=h2 q ec
    subst hq
    have h0:=h3 0
    have e9:H9 0 [48]=0:=rfl
    rw [ec,e9,Nat.zero_mul,Nat.zero_add] at h0
    omega
   ·rw [happ,h3,hd _ (Nat.mod_lt _ (by omega)),List.length_append,List.length_singleton,Nat.pow_succ,Nat.add_mul,Nat.mul_assoc]
    omega
theorem lead_num {u:Nat} (hu:u ≤ 9223372036854775808) {r:List UInt8} (hr:Fol r):Lead (Lib.decDigits u) r (2,Lib.decDigits u,u):=by
 obtain ⟨h1,h2,h3⟩:=dec_all u
 obtain ⟨c,q,e,hc1,hc2⟩:=Sn u
 have hc:Da c=true:=h1 c (by rw [e]; exact List.mem_cons_self ..)
 have hn:=Tl hc
 have hcnt:cnt Da (Lib.decDigits u ++ r)=(Lib.decDigits u).length:=mG Da (fun c q e=>by
  have:=hr c q e
  unfold Ds at this
  simp at this; exact this.2) _ h1
 have hv:H9 0 (Lib.decDigits u)=u:=by rw [h3]; omega
 refine ⟨fun i=>?_,rfl,by rw [e]; simp,by rw [e]; exact Ms hn.1,by rw [e]; exact Pu hn.2.1⟩
 have hnum:Ul (Lib.decDigits u ++ r) i=some (⟨2,i,Lib.decDigits u,u⟩,0):=by
  unfold Ul
  rw [hcnt,List.take_left,hv,if_neg (fun hx=>?_),if_pos (by omega),if_neg (by omega)]
  have h48:c=48:=by
   have:=hx.2; rw [e] at this; simpa using this
  subst h48
  have:=h2 q e
  rw [e,this] at hx
  simp at hx
 rw [e] at hnum ⊢
 show (if F0 c then _ else if Da c then Ul ((c :: q) ++ r) i else _)=_
 rw [hn.2.2,hc,if_neg (by simp),if_pos rfl,hnum]
theorem lead_any {s r:List UInt8} (h:s ∈ ([[40],[41],[44],[59],[58],[43],[42],[47]]:List (List UInt8))):Lead s r (sg s):=by
 simp only [List.mem_cons,List.not_mem_nil,or_false] at h
 rcases h with rfl | rfl | rfl | rfl | rfl | rfl | rfl | rfl <;> exact ⟨fun i=>by
  show some (Kp _ i)=_
  unfold Kp
  rw [show Fb.find? (fun s=>D5 s _)=some _ from rfl],rfl,by simp,rfl,Pu (by decide)⟩
theorem tO {s r:List UInt8} (h:s ∈ Fb):Lead s (32 :: r) (sg s):=by
 obtain ⟨h1,h2,b,q,e,h3,h4,h5⟩:=fK h (.inl rfl) r
 refine ⟨fun i=>?_,rfl,by rw [e]; simp,?_,h2⟩
 ·have hs:Kp (s ++ 32 :: r) i=(⟨4,i,s,0⟩,0):=by unfold Kp; rw [h1]
  rw [e] at hs ⊢
  show (if F0 b then _ else if Da b then _ else some (Kp ((b :: q) ++ 32 :: r) i))=_
  rw [h3,h4,hs]; rfl
 ·rw [e]; exact Ms h5
end Go.Ax
noncomputable section
namespace Go.Ax
open Go.RowKit Go.Proofs
set_option maxRecDepth 100000
theorem words_ok:∀ w ∈ Jk,∃ b q,w=b :: q ∧ F0 b=true ∧ ∀ c ∈ q,Ds c=true:=by
 have h:∀ w ∈ Jk,(match w with | b :: q=>F0 b && q.all Ds | []=>false)=true:=by decide
 intro w hw
 have:=h w hw
 cases w with
 | nil=>cases this
 | cons b q =>
  simp only [Bool.and_eq_true,List.all_eq_true] at this
  exact ⟨b,q,rfl,this.1,this.2⟩
theorem aK {w r:List UInt8} {us:List TK} (hw:w ∈ Jk) (hr:Fol r) (h:SpT r us):SpT (w ++ r) (kw w :: us):=by
 have:=gY (words_ok w hw) (.inl hw) hr
 rw [if_pos hw] at this
 exact .tok _ _ _ _ this h
theorem Pv {w r:List UInt8} {us:List TK} (hw:Hw w) (hr:Fol r) (h:SpT r us):SpT (w ++ r) (nm w :: us):=by
 have:=gY hw.2.1 (.inr hw.2.2) hr
 rw [if_neg hw.1.1] at this
 exact .tok _ _ _ _ this h
theorem sp_num {u:Nat} {r:List UInt8} {us:List TK} (hu:u ≤ 9223372036854775808) (hr:Fol r) (h:SpT r us):SpT (Lib.decDigits u ++ r) ((2,Lib.decDigits u,u) :: us):=.tok _ _ _ _ (lead_num hu hr) h
theorem K6 {s r:List UInt8} {us:List TK} (hs:s ∈ ([[40],[41],[44],[59],[58],[43],[42],[47]]:List (List UInt8))) (h:SpT r us):SpT (s ++ r) (sg s :: us):=.tok _ _ _ _ (lead_any hs) h
theorem wA {s r:List UInt8} {us:List TK} (hs:s ∈ Fb) (h:SpT r us):SpT (s ++ 32 :: r) (sg s :: us):=.tok _ _ _ _ (tO hs) (.blank _ _ h)
theorem Kx {w r:List UInt8} {us:List TK} (hw:w ∈ Jk) (h:SpT r us):SpT (w ++ 32 :: r) (kw w :: us):=aK hw (fun c q e=>by injection e with e _; subst e; rfl) (.blank _ _ h)
theorem sp_ob {s r:List UInt8} {us:List TK} (hs:s ∈ Jk ∨ s ∈ Fb) (h:SpT r us):SpT (s ++ 32 :: r) (opT s :: us):=by
 unfold opT
 split
 ·rename_i hw; exact Kx hw h
 ·rename_i hw; exact wA (hs.resolve_left hw) h
theorem aJ {r:List UInt8} {us:List TK} (hr:∀ c q,r=c :: q → c ≠ 45 ∧ c ≠ 62) (h:SpT r us):SpT ([45] ++ r) (sg [45] :: us):=by
 refine .tok _ _ _ _ ⟨fun i=>?_,rfl,by simp,rfl,?_⟩ h
 ·show some (Kp _ i)=_
  have e:Fb.find? (fun s=>D5 s ([45] ++ r))=some [45]:=by
   cases r with
   | nil=>rfl
   | cons c q =>
    obtain ⟨h1,h2⟩:=hr c q rfl
    have n1:D5 [45,62] (45 :: c :: q)=false:=by
     unfold D5; rw [decide_eq_false_iff_not]; intro e; simp at e; exact h2 e
    have n2:∀ (a:UInt8) (b:List UInt8),a ≠ 45 → D5 (a :: b) (45 :: c :: q)=false:=fun a b ha=>by
     unfold D5; rw [decide_eq_false_iff_not]; intro e; simp at e; exact ha e.1.symm
    have y:D5 [45] (45 :: c :: q)=true:=by unfold D5; simp
    simp only [Fb,List.singleton_append,List.find?_cons,n1,y,n2 60 _ (by decide),n2 62 _ (by decide),n2 40 _ (by decide),n2 41 _ (by decide),n2 44 _ (by decide),n2 59 _ (by decide),n2 58 _ (by decide),n2 61 _ (by decide),n2 43 _ (by decide)]
  unfold Kp
  rw [e]
 ·cases r with
  | nil=>rfl
  | cons c q =>
   unfold D5; rw [decide_eq_false_iff_not]; intro e; simp at e; exact (hr c q rfl).1 e
theorem V5 {c:UInt8} {q:List UInt8} (h:Ds c=false):Fol (c :: q):=fun c' q' e=>by injection e with e _; subst e; exact h
theorem Qf (q:List UInt8):Fol (32 :: q):=V5 rfl
theorem qC (q:List UInt8):Fol (41 :: q):=V5 rfl
theorem fol_l (q:List UInt8):Fol (40 :: q):=V5 rfl
theorem xY (q:List UInt8):Fol (44 :: q):=V5 rfl
def Qm (t:List UInt8) (us:List TK):Prop:=∀ r vs,Fol r → SpT r vs → SpT (t ++ r) (us ++ vs)
theorem Sz {t:List UInt8} {us:List TK} (h:Qm t us) {r:List UInt8} {vs:List TK} (hr:SpT r vs):SpT (40 :: (t ++ 41 :: r)) (Ft us ++ vs):=by
 have e:Ft us ++ vs=sg [40] :: (us ++ sg [41] :: vs):=by unfold Ft; simp
 rw [e]
 exact K6 (s:=[40]) (by decide) (h _ _ (qC _) (K6 (s:=[41]) (by decide) hr))
theorem zV {e:PE} (h:Qm (Fz e) (Fp e)) {kids:List PE} {k:Nat} (h1:(Cx kids)[k]? = some ⟨Fz e,Ea e,Lj e⟩) (h2:(Ez kids)[k]? = some (dV e)) (least:Nat):Qm (kT (Cx kids) k least) (kJ (Ez kids) k least):=by
 intro r vs hf hr
 unfold kT kJ
 rw [h1,h2]
 show SpT ((if Ea e < least then _ else _) ++ r) ((if Ea e < least then _ else _) ++ vs)
 split
 ·have:=Sz h hr
  show SpT (40 :: ((Fz e ++ [41]) ++ r)) _
  rw [List.append_assoc]
  exact this
 ·exact h r vs hf hr
def fU:List PE → List UInt8
 | []=>[]
 | e :: l=>44 :: 32 :: (Fz e ++ fU l)
theorem tS (e:PE):∀ (l:List PE),Kr (Cx (e :: l))=Fz e ++ fU l:=by
 intro l
 induction l generalizing e with
 | nil=>show Lib.join [Fz e] [44,32]=_; rw [Lib.join_one]; exact (List.append_nil _).symm
 | cons b l ih =>
  have e2:Kr (Cx (e :: b :: l))=Fz e ++ ([44,32] ++ Kr (Cx (b :: l))):=by
   show Lib.join (Fz e :: Fz b :: _) [44,32]=_
   simp [Lib.join,Kr,Cx]
  rw [e2,ih]; rfl
theorem aF:∀ (l:List PE),(∀ e ∈ l,Qm (Fz e) (Fp e)) → ∀ r vs,SpT r vs → SpT (fU l ++ 41 :: r) (Nh (Ez l) ++ sg [41] :: vs)
 | [],_,r,vs,h=>K6 (s:=[41]) (by decide) h
 | e :: l,he,r,vs,h=>by
  have ih:=aF l (fun x hx=>he x (List.mem_cons_of_mem _ hx)) r vs h
  have hf:Fol (fU l ++ 41 :: r):=by
   cases l with
   | nil=>exact qC _
   | cons b l=>exact xY _
  have:=he e (List.mem_cons_self ..) _ _ hf ih
  show SpT (44 :: 32 :: ((Fz e ++ fU l) ++ 41 :: r)) (sg [44] :: ((Fp e ++ Nh (Ez l)) ++ sg [41] :: vs))
  rw [List.append_assoc,List.append_assoc]
  exact K6 (s:=[44]) (by decide) (.blank _ _ this)
theorem aI (l:List PE) (he:∀ e ∈ l,Qm (Fz e) (Fp e)) {r:List UInt8} {vs:List TK} (h:SpT r vs):SpT (40 :: (Kr (Cx l) ++ 41 :: r)) (Ft (Ly (Ez l)) ++ vs):=by
 cases l with
 | nil=>exact K6 (s:=[40]) (by decide) (K6 (s:=[41]) (by decide) h)
 | cons e l =>
  rw [tS,Xm,List.append_assoc]
  have ih:=aF l (fun x hx=>he x (List.mem_cons_of_mem _ hx)) r vs h
  have hf:Fol (fU l ++ 41 :: r):=by
   cases l with
   | nil=>exact qC _
   | cons b l=>exact xY _
  exact K6 (s:=[40]) (by decide) (he e (List.mem_cons_self ..) _ _ hf ih)
end Go.Ax
