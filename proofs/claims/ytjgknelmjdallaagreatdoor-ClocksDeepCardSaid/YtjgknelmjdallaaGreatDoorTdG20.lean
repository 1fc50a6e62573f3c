/- Rf -/
import Derived.Test.YtjgknelmjdallaaGreatDoorTdG19
set_option linter.unusedVariables false
set_option linter.unusedSimpArgs false
noncomputable section
namespace Go.Ax
open Go.RowKit Go.Proofs
set_option maxRecDepth 100000
def OkR {α:Type} (Q:α → Nat → Prop) (x:PR α):Prop:=∀ a j,x=.ok a j → Q a j
section
variable {α β:Type}
theorem OkR.ok {Q:α → Nat → Prop} {a:α} {j:Nat} (h:Q a j):OkR Q (.ok a j):=fun a' j' e=>by injection e with e1 e2; subst e1; subst e2; exact h
theorem OkR.bad {Q:α → Nat → Prop} {a e:Nat}:OkR Q (.bad a e:PR α):=fun a' j' e=>by cases e
theorem OkR.out {Q:α → Nat → Prop}:OkR Q (.out:PR α):=fun a' j' e=>by cases e
theorem OkR.bind {Q:α → Nat → Prop} {R:β → Nat → Prop} {x:PR α} {f:α → Nat → PR β} (h:OkR Q x) (hf:∀ a j,Q a j → OkR R (f a j)):OkR R (x.bind f):=by
 cases x with
 | ok a j=>exact hf a j (h a j rfl)
 | bad a e=>exact .bad
 | out=>exact .out
theorem OkR.ite {Q:α → Nat → Prop} {c:Prop} [Decidable c] {x y:PR α} (h1:c → OkR Q x) (h2:¬ c → OkR Q y):OkR Q (if c then x else y):=by
 by_cases h:c
 ·rw [if_pos h]; exact h1 h
 ·rw [if_neg h]; exact h2 h
end
def NameOk (ts:List Tk):Prop:=∀ i,(tk ts i).kind=1 → (tk ts i).text.length ≤ 30
section
variable {ts:List Tk} (hts:NameOk ts)
include hts
omit hts in
omit hts in
omit hts in
omit hts in
omit hts in
omit hts in
omit hts in
omit hts in
omit hts in
end
def PR.le {α:Type} (a b:PR α):Prop:=a ≠ .out → b=a
theorem le_refl {α:Type} (a:PR α):a.le a:=fun _=>rfl
theorem Gi {α β:Type} {x y:PR α} {f g:α → Nat → PR β} (h:x.le y) (hf:∀ a i,(f a i).le (g a i)):(x.bind f).le (y.bind g):=by
 intro ho
 have hx:x ≠ .out:=fun e=>ho (by rw [e]; rfl)
 rw [h hx]
 cases x with
 | ok a i=>exact hf a i ho
 | bad a e=>rfl
 | out=>exact absurd rfl hx
theorem Pj {α:Type} {c:Prop} [Decidable c] {x y x' y':PR α} (h1:x.le y) (h2:x'.le y'):(if c then x else x').le (if c then y else y'):=by
 split
 ·exact h1
 ·exact h2
section
variable {ts:List Tk}
theorem rowP_le {ws:List (List UInt8)} {kid kid':Nat → PR PE} (hk:∀ i,(kid i).le (kid' i)):∀ (n:Nat) (x:PE) (i:Nat),(Lp ts ws kid n x i).le (Lp ts ws kid' (n + 1) x i)
 | 0,x,i=>fun ho=>absurd rfl ho
 | n + 1,x,i=>by
  unfold Lp
  exact Pj (Gi (hk _) fun a j=>rowP_le hk n _ j) (le_refl _)
theorem whenP_le:∀ (n:Nat) (x:PE) (i:Nat),(Ls ts n x i).le (Ls ts (n + 1) x i)
 | 0,x,i=>fun ho=>absurd rfl ho
 | n + 1,x,i=>by
  unfold Ls
  exact Pj (Gi (le_refl _) fun a j=>whenP_le n _ j) (le_refl _)
theorem oQ {kid kid':Nat → PR PE} (hk:∀ i,(kid i).le (kid' i)):∀ (n:Nat) (l:List PE) (i:Nat),(Ik ts kid n l i).le (Ik ts kid' (n + 1) l i)
 | 0,x,i=>fun ho=>absurd rfl ho
 | n + 1,x,i=>by
  unfold Ik
  exact Pj (Gi (hk _) fun a j=>oQ hk n _ j) (le_refl _)
theorem listP_le {kid kid':Nat → PR PE} (hk:∀ i,(kid i).le (kid' i)) (n i:Nat):(Lg ts kid n i).le (Lg ts kid' (n + 1) i):=by
 unfold Lg
 exact Gi (le_refl _) fun _ j=>Pj (le_refl _) (Gi (hk _) fun a j=>oQ hk n _ j)
theorem P_le:∀ (n:Nat) (nt:NT) (i:Nat),(P ts n nt i).le (P ts (n + 1) nt i)
 | 0,nt,i=>fun ho=>absurd rfl ho
 | n + 1,nt,i=>by
  have ih:=P_le n
  cases nt <;> unfold P <;> repeat' (first | exact le_refl _ | exact ih _ _ | exact rowP_le (fun i=>ih _ i) _ _ _ | exact whenP_le _ _ _ | exact oQ (fun i=>ih _ i) _ _ _ | exact listP_le (fun i=>ih _ i) _ _ | refine Pj ?_ ?_ | refine Gi ?_ ?_ | intro _ _)
end
abbrev TK:=Nat × List UInt8 × Nat
def absT (t:Tk):TK:=(t.kind,t.text,t.num)
def Ek (ts:List Tk) (i:Nat) (us:List TK):Prop:=(ts.drop i).map absT=us
def Ie:List TK → List UInt8
 | []=>[]
 | x :: _=>x.2.1
theorem Ek.cons {ts:List Tk} {i:Nat} {x:TK} {r:List TK} (h:Ek ts i (x :: r)):(tk ts i).kind=x.1 ∧ (tk ts i).text=x.2.1 ∧ (tk ts i).num=x.2.2 ∧ ts[i]? = some (tk ts i) ∧ Ek ts (i + 1) r:=by
 unfold Ek at h
 cases hd:ts.drop i with
 | nil=>rw [hd] at h; cases h
 | cons t q =>
  rw [hd] at h
  injection h with h1 h2
  have hg:ts[i]? = some t:=by
   have:(ts.drop i)[0]? = some t:=by rw [hd]; rfl
   simpa using this
  have ht:tk ts i=t:=by unfold tk; rw [hg]; rfl
  have hq:ts.drop (i + 1)=q:=by
   have:(ts.drop i).drop 1=q:=by rw [hd]; rfl
   simpa [List.drop_drop] using this
  rw [ht]
  subst h1
  exact ⟨rfl,rfl,rfl,hg,by unfold Ek; rw [hq]; exact h2⟩
theorem Ek.head {ts:List Tk} {i:Nat} {us:List TK} (h:Ek ts i us):(tk ts i).text=Ie us:=by
 cases us with
 | nil =>
  unfold Ek at h
  have hd:ts.drop i=[]:=List.map_eq_nil_iff.1 h
  have hl:ts.length ≤ i:=List.drop_eq_nil_iff.1 hd
  unfold tk; rw [List.getElem?_eq_none hl]; rfl
 | cons x r=>exact h.cons.2.1
theorem Ek.skip {ts:List Tk}:∀ {us:List TK} {i:Nat} {r:List TK},Ek ts i (us ++ r) → Ek ts (i + us.length) r
 | [],i,r,h=>h
 | x :: us,i,r,h=>by
  have:=Ek.skip (us:=us) (h.cons.2.2.2.2)
  rw [List.length_cons,show i + (us.length + 1)=i + 1 + us.length by omega]; exact this
def Fd:Nat → List (List UInt8)
 | 1=>[[45,62],[102,98,121]]
 | 2=>[[111,114],[120,111,114]]
 | 3=>[[97,110,100]]
 | 5=>[[61],[60,62],[60],[60,61],[62],[62,61]]
 | 6=>[[43],[45]]
 | 7=>[[42],[47],[109,111,100]]
 | 9=>[[119,104,101,110]]
 | 10=>[[40],[97,102,116,101,114]]
 | _=>[]
def Ij (L:Nat) (us:List TK):Prop:=∀ k,L ≤ k → Ie us ∉ Fd k
theorem Ij.mono {L M:Nat} {us:List TK} (h:Ij L us) (hl:L ≤ M):Ij M us:=fun k hk=>h k (Nat.le_trans hl hk)
def tF:Nat → NT
 | 0=>.expr
 | 1=>.arrow
 | 2=>.or
 | 3=>.and
 | 4=>.not
 | 5=>.sum
 | 6=>.sum
 | 7=>.term
 | 8=>.unary
 | 9=>.when
 | _=>.primary
def RdA (ts:List Tk) (i j:Nat) (e:PE) (nt:NT):Prop:=∃ e',LikeE e e' ∧ ∃ N,∀ n,N ≤ n → P ts n nt i=.ok e' j
def RdB (ts:List Tk) (i j:Nat) (e:PE) (L:Nat):Prop:=∃ e',LikeE e e' ∧ ∃ N k,∀ n,N ≤ n → P ts (n + 1) (tF L) i=Lp ts (Fd L) (P ts n (tF (L + 1))) (n - k) e' j
def RdW (ts:List Tk) (i j:Nat) (e:PE):Prop:=∃ e',LikeE e e' ∧ ∃ N k,∀ n,N ≤ n → P ts (n + 1) .when i=Ls ts (n - k) e' j
theorem RdB.a {ts:List Tk} {i j L:Nat} {e:PE} {rest:List TK} (h:RdB ts i j e L) (hs:Ek ts j rest) (hn:Ie rest ∉ Fd L):RdA ts i j e (tF L):=by
 obtain ⟨e',he,N,k,h⟩:=h
 refine ⟨e',he,N + k + 2,fun n hle=>?_⟩
 obtain ⟨m,rfl⟩:∃ m,n=m + 1:=⟨n - 1,by omega⟩
 rw [h m (by omega)]
 obtain ⟨q,hq⟩:∃ q,m - k=q + 1:=⟨m - k - 1,by omega⟩
 rw [hq]
 unfold Lp
 rw [hs.head,if_neg hn]
theorem RdW.a {ts:List Tk} {i j:Nat} {e:PE} {rest:List TK} (h:RdW ts i j e) (hs:Ek ts j rest) (hn:Ie rest ∉ Fd 9):RdA ts i j e .when:=by
 obtain ⟨e',he,N,k,h⟩:=h
 refine ⟨e',he,N + k + 2,fun n hle=>?_⟩
 obtain ⟨m,rfl⟩:∃ m,n=m + 1:=⟨n - 1,by omega⟩
 rw [h m (by omega)]
 obtain ⟨q,hq⟩:∃ q,m - k=q + 1:=⟨m - k - 1,by omega⟩
 rw [hq]
 unfold Ls
 rw [hs.head,if_neg (show Ie rest ∉ [[119,104,101,110]] from hn)]
structure Hd (b:Nat) (us:List TK):Prop where
 ne:us ≠ []
 h9:9 ≤ b → Ie us ≠ [45] ∧ Ie us ≠ [112,114,101]
 h5:5 ≤ b → Ie us ≠ [110,111,116]
 h1:1 ≤ b → Ie us ≠ [105,102]
 hb:Ie us ≠ [41]
theorem Hd.mono {a b:Nat} {us:List TK} (h:Hd b us) (hl:a ≤ b):Hd a us:=⟨h.ne,fun x=>h.h9 (by omega),fun x=>h.h5 (by omega),fun x=>h.h1 (by omega),h.hb⟩
theorem I2 {us r:List TK} (h:us ≠ []):Ie (us ++ r)=Ie us:=by
 cases us with
 | nil=>exact absurd rfl h
 | cons x q=>rfl
section
variable {ts:List Tk} {i j:Nat} {e:PE}
theorem yF {nt:NT} (h:RdA ts i j e .primary):RdW ts i j e:=by
 obtain ⟨e',he,N,h⟩:=h
 refine ⟨e',he,N,0,fun n hn=>?_⟩
 show (P ts n .primary i).bind _=_
 rw [h n hn]; rfl
theorem a8_of (h:RdA ts i j e .when) (h1:(tk ts i).text ≠ [45]) (h2:(tk ts i).text ≠ [112,114,101]):RdA ts i j e .unary:=by
 obtain ⟨e',he,N,h⟩:=h
 refine ⟨e',he,N + 1,fun n hn=>?_⟩
 obtain ⟨m,rfl⟩:∃ m,n=m + 1:=⟨n - 1,by omega⟩
 have hb:Lm ts i=false:=by unfold Lm; rw [decide_eq_false h1]; rfl
 show (if (tk ts i).text ∈ [[112,114,101]] then _ else if Lm ts i=true then _ else if (tk ts i).text ∈ [[45]] then _ else P ts m .when i)=_
 rw [if_neg (by simpa using h2),hb,if_neg (by simp),if_neg (by simpa using h1),h m (by omega)]
theorem b_of {L:Nat} {nt nt':NT} (e1:tF L=nt) (e2:tF (L + 1)=nt') (hu:∀ n,P ts (n + 1) nt i=(P ts n nt' i).bind fun x j=>Lp ts (Fd L) (P ts n nt') n x j) (h:RdA ts i j e nt'):RdB ts i j e L:=by
 obtain ⟨e',he,N,h⟩:=h
 refine ⟨e',he,N,0,fun n hn=>?_⟩
 rw [e1,e2,hu,h n hn]; rfl
theorem a4_of {rest:List TK} (h:RdA ts i j e .sum) (h1:(tk ts i).text ≠ [110,111,116]) (hs:Ek ts j rest) (hn:Ie rest ∉ Fd 5):RdA ts i j e .not:=by
 obtain ⟨e',he,N,h⟩:=h
 refine ⟨e',he,N + 1,fun n hle=>?_⟩
 obtain ⟨m,rfl⟩:∃ m,n=m + 1:=⟨n - 1,by omega⟩
 show (if (tk ts i).text ∈ [[110,111,116]] then _ else (P ts m .sum i).bind fun x j=>if (tk ts j).text ∈ Fd 5 then _ else _)=_
 rw [if_neg (by simpa using h1),h m (by omega)]
 show (if (tk ts j).text ∈ Fd 5 then _ else _)=_
 rw [hs.head,if_neg hn]
theorem a1_of {rest:List TK} (h:RdA ts i j e .or) (hs:Ek ts j rest) (hn:Ie rest ∉ Fd 1):RdA ts i j e .arrow:=by
 obtain ⟨e',he,N,h⟩:=h
 refine ⟨e',he,N + 1,fun n hle=>?_⟩
 obtain ⟨m,rfl⟩:∃ m,n=m + 1:=⟨n - 1,by omega⟩
 have hh:=hs.head
 have n1:Ie rest ≠ [45,62]:=fun c=>hn (by rw [c]; decide)
 have n2:Ie rest ≠ [102,98,121]:=fun c=>hn (by rw [c]; decide)
 show (P ts m .or i).bind _=_
 rw [h m (by omega)]
 show (if (tk ts j).text ∈ [[45,62]] then _ else if Iu e' = false then PR.ok e' j else if (tk ts j).text ∈ [[102,98,121]] then _ else PR.ok e' j)=_
 rw [hh,if_neg (by simpa using n1),if_neg (show ¬ Ie rest ∈ [[102,98,121]] by simpa using n2)]
 split <;> rfl
theorem a0_of (h:RdA ts i j e .arrow) (h1:(tk ts i).text ≠ [105,102]):RdA ts i j e .expr:=by
 obtain ⟨e',he,N,h⟩:=h
 refine ⟨e',he,N + 1,fun n hle=>?_⟩
 obtain ⟨m,rfl⟩:∃ m,n=m + 1:=⟨n - 1,by omega⟩
 show (if (tk ts i).text ∈ [[105,102]] then _ else P ts m .arrow i)=_
 rw [if_neg (by simpa using h1),h m (by omega)]
def Low (ts:List Tk) (i j:Nat) (e:PE) (rest:List TK) (L:Nat):Prop:=(∀ M,M ≤ L → M ≠ 5 → Ij M rest → RdA ts i j e (tF M)) ∧ (∀ M,M ≤ L → (M=2 ∨ M=3 ∨ M=6 ∨ M=7) → Ij (M + 1) rest → RdB ts i j e M)
variable {us rest:List TK}
theorem Low.up {L:Nat} (h:Low ts i j e rest L) (ha:L + 1 ≠ 5 → Ij (L + 1) rest → RdA ts i j e (tF (L + 1))) (hb:(L + 1=2 ∨ L + 1=3 ∨ L + 1=6 ∨ L + 1=7) → Ij (L + 2) rest → RdB ts i j e (L + 1)):Low ts i j e rest (L + 1):=by
 refine ⟨fun M hM h5 hs=>?_,fun M hM hc hs=>?_⟩
 ·by_cases hq:M=L + 1
  ·subst hq; exact ha h5 hs
  ·exact h.1 M (by omega) h5 hs
 ·by_cases hq:M=L + 1
  ·subst hq; exact hb hc hs
  ·exact h.2 M (by omega) hc hs
theorem low0 (h:Ij 0 rest → RdA ts i j e .expr):Low ts i j e rest 0:=by
 refine ⟨fun M hM _ hs=>?_,fun M hM hc hs=>by omega⟩
 obtain rfl:M=0:=by omega
 exact h hs
theorem low1 (hh:(tk ts i).text ≠ [105,102]) (h:Ij 1 rest → RdA ts i j e .arrow):Low ts i j e rest 1 :=
 (low0 fun hs=>a0_of (h (hs.mono (by omega))) hh).up (fun _ hs=>h hs) (fun hc=>by omega)
theorem low2 (hh:(tk ts i).text ≠ [105,102]) (hv:Ek ts j rest) (h:Ij 3 rest → RdB ts i j e 2):Low ts i j e rest 2 :=
 (low1 hh fun hs=>a1_of (show RdA ts i j e .or from (h (hs.mono (by omega))).a hv (hs 2 (by omega))) hv (hs 1 (by omega))).up (fun _ hs=>(h (hs.mono (by omega))).a hv (hs 2 (by omega))) (fun _ hs=>h hs)
theorem low3 (hh:(tk ts i).text ≠ [105,102]) (hv:Ek ts j rest) (h:Ij 4 rest → RdB ts i j e 3):Low ts i j e rest 3 :=
 (low2 hh hv fun hs=>b_of (nt:=.or) (nt':=.and) rfl rfl (fun n=>rfl) ((h (hs.mono (by omega))).a hv (hs 3 (by omega)))).up (fun _ hs=>(h (hs.mono (by omega))).a hv (hs 3 (by omega))) (fun _ hs=>h hs)
theorem low4 (hh:(tk ts i).text ≠ [105,102]) (hv:Ek ts j rest) (h:Ij 4 rest → RdA ts i j e .not):Low ts i j e rest 4 :=
 (low3 hh hv fun hs=>b_of (nt:=.and) (nt':=.not) rfl rfl (fun n=>rfl) (h hs)).up (fun _ hs=>h hs) (fun hc=>by omega)
theorem low5 (hh:(tk ts i).text ≠ [105,102]) (hv:Ek ts j rest) (h:Ij 4 rest → RdA ts i j e .not):Low ts i j e rest 5 :=
 (low4 hh hv h).up (fun hc=>absurd rfl hc) (fun hc=>by omega)
theorem low6 (hh:(tk ts i).text ≠ [105,102]) (h2:(tk ts i).text ≠ [110,111,116]) (hv:Ek ts j rest) (h:Ij 7 rest → RdB ts i j e 6):Low ts i j e rest 6 :=
 (low5 hh hv fun hs=>a4_of (show RdA ts i j e .sum from (h (hs.mono (by omega))).a hv (hs 6 (by omega))) h2 hv (hs 5 (by omega))).up (fun _ hs=>(h (hs.mono (by omega))).a hv (hs 6 (by omega))) (fun _ hs=>h hs)
theorem low7 (hh:(tk ts i).text ≠ [105,102]) (h2:(tk ts i).text ≠ [110,111,116]) (hv:Ek ts j rest) (h:Ij 8 rest → RdB ts i j e 7):Low ts i j e rest 7 :=
 (low6 hh h2 hv fun hs=>b_of (nt:=.sum) (nt':=.term) rfl rfl (fun n=>rfl) ((h (hs.mono (by omega))).a hv (hs 7 (by omega)))).up (fun _ hs=>(h (hs.mono (by omega))).a hv (hs 7 (by omega))) (fun _ hs=>h hs)
theorem low8 (hh:(tk ts i).text ≠ [105,102]) (h2:(tk ts i).text ≠ [110,111,116]) (hv:Ek ts j rest) (h:Ij 8 rest → RdA ts i j e .unary):Low ts i j e rest 8 :=
 (low7 hh h2 hv fun hs=>b_of (nt:=.term) (nt':=.unary) rfl rfl (fun n=>rfl) (h hs)).up (fun _ hs=>h hs) (fun hc=>by omega)
theorem low9 (hd:Hd 9 us) (hu:Ek ts i (us ++ rest)) (hv:Ek ts j rest) (h:Ij 10 rest → RdW ts i j e):Low ts i j e rest 9:=by
 have hh:=hu.head
 rw [I2 hd.ne] at hh
 have g:Ij 9 rest → RdA ts i j e .when:=fun hs=>(h (hs.mono (by omega))).a hv (hs 9 (by omega))
 exact (low8 (by rw [hh]; exact hd.h1 (by omega)) (by rw [hh]; exact hd.h5 (by omega)) hv fun hs=>a8_of (g (hs.mono (by omega))) (by rw [hh]; exact (hd.h9 (by omega)).1) (by rw [hh]; exact (hd.h9 (by omega)).2)).up (fun _ hs=>g hs) (fun hc=>by omega)
theorem jS (hd:Hd 9 us) (hu:Ek ts i (us ++ rest)) (hv:Ek ts j rest) (h:Ij 10 rest → RdA ts i j e .primary):Low ts i j e rest 10 :=
 (low9 hd hu hv fun hs=>yF (nt:=.primary) (h hs)).up (fun _ hs=>h hs) (fun hc=>by omega)
end
def It (b:Nat) (us:List TK) (e:PE):Prop:=Hd b us ∧ ∀ (ts:List Tk) (i:Nat) (rest:List TK),Ek ts i (us ++ rest) → Low ts i (i + us.length) e rest b ∧ (9 ≤ b → Ij 10 rest → RdW ts i (i + us.length) e)
theorem It.mono {a b:Nat} {us:List TK} {e:PE} (h:It b us e) (hl:a ≤ b):It a us e :=
 ⟨h.1.mono hl,fun ts i rest hs=>⟨⟨fun M hM=>((h.2 ts i rest hs).1.1 M (by omega)),fun M hM=>((h.2 ts i rest hs).1.2 M (by omega))⟩,fun h9=>(h.2 ts i rest hs).2 (by omega)⟩⟩
theorem It.a {b L:Nat} {us:List TK} {e:PE} (h:It b us e) (hL:L ≤ b) (h5:L ≠ 5) {ts:List Tk} {i:Nat} {rest:List TK} (hs:Ek ts i (us ++ rest)) (hr:Ij L rest):RdA ts i (i + us.length) e (tF L):=(h.2 ts i rest hs).1.1 L hL h5 hr
theorem It.b {b L:Nat} {us:List TK} {e:PE} (h:It b us e) (hL:L ≤ b) (hc:L=2 ∨ L=3 ∨ L=6 ∨ L=7) {ts:List Tk} {i:Nat} {rest:List TK} (hs:Ek ts i (us ++ rest)) (hr:Ij (L + 1) rest):RdB ts i (i + us.length) e L:=(h.2 ts i rest hs).1.2 L hL hc hr
theorem It.w {b:Nat} {us:List TK} {e:PE} (h:It b us e) (hL:9 ≤ b) {ts:List Tk} {i:Nat} {rest:List TK} (hs:Ek ts i (us ++ rest)) (hr:Ij 10 rest):RdW ts i (i + us.length) e:=(h.2 ts i rest hs).2 hL hr
abbrev kw (s:List UInt8):TK:=(3,s,0)
abbrev sg (s:List UInt8):TK:=(4,s,0)
abbrev nm (s:List UInt8):TK:=(1,s,0)
structure KJ where
 toks:List TK
 binds:Nat
 kind:Nat
def G5 (us:List TK):List TK:=sg [40] :: (us ++ [sg [41]])
def kJ (ks:List KJ) (i least:Nat):List TK:=match ks[i]? with
 | none=>[]
 | some k=>if k.binds < least then G5 k.toks else k.toks
def Qy:List KJ → List TK
 | []=>[]
 | k :: r=>sg [44] :: (k.toks ++ Qy r)
def Pi:List KJ → List TK
 | []=>[]
 | k :: r=>k.toks ++ Qy r
def gL (n:Int):List TK:=if n < 0 then [sg [45],(2,Lib.decDigits n.natAbs,n.natAbs)] else [(2,Lib.decDigits n.toNat,n.toNat)]
def truthJ (n:Int):List TK:=[kw (if n=0 then [102,97,108,115,101] else [116,114,117,101])]
def tI (ks:List KJ):List TK:=if (∃ k,ks[0]? = some k ∧ k.kind=1) ∨ Ie (kJ ks 0 8)=[45] then sg [45] :: G5 (kJ ks 0 8) else sg [45] :: kJ ks 0 8
def opT (name:List UInt8):TK:=if name ∈ La then kw name else sg name
def Ox (name:List UInt8) (off:Bool):List TK:=if off then [kw [119,104,101,110],kw [110,111,116],nm name] else [kw [119,104,101,110],nm name]
def toksK (kind:Nat) (n:Int) (name:List UInt8) (off:Bool) (ks:List KJ):List TK:=match kind with
 | 1=>gL n
 | 2=>truthJ n
 | 3=>[nm name]
 | 4=>tI ks
 | 5=>kw [110,111,116] :: kJ ks 0 4
 | 6=>kJ ks 0 (if Gy name=5 then 6 else Gy name) ++ opT name :: kJ ks 1 (Gy name + 1)
 | 7=>kw [105,102] :: (kJ ks 0 0 ++ kw [116,104,101,110] :: (kJ ks 1 0 ++ kw [101,108,115,101] :: kJ ks 2 0))
 | 8=>kJ ks 0 2 ++ sg [45,62] :: kJ ks 1 1
 | 9=>kJ ks 0 0 ++ kw [102,98,121] :: kJ ks 1 1
 | 10=>kw [112,114,101] :: kJ ks 0 8
 | 11=>kJ ks 0 9 ++ Ox name off
 | 12=>kw [109,101,114,103,101] :: nm name :: (G5 (kJ ks 0 0) ++ G5 (kJ ks 1 0))
 | 13=>nm name :: G5 (Pi ks)
 | 14=>if 0 < ks.length then kw [97,119,97,105,116] :: nm name :: kw [97,102,116,101,114] :: G5 (Pi ks) else [kw [97,119,97,105,116],nm name]
 | _=>[]
mutual
def G6:PE → List TK
 | .mk kind _ n name off kids=>toksK kind n name off (F6 kids)
def F6:List PE → List KJ
 | []=>[]
 | e :: r=>⟨G6 e,D1 e,Ic e⟩ :: F6 r
end
def Gt (s:List UInt8):Prop:=(s ∉ La ∧ s ∉ Gb) ∧ (∃ b r,s=b :: r ∧ G0 b=true ∧ ∀ c ∈ r,Es c=true) ∧ s.length ≤ 30
inductive Shape:Nat → Int → List UInt8 → Bool → List PE → Prop where
 | num (n:Int) (h:-9223372036854775808 ≤ n ∧ n ≤ 9223372036854775807):Shape 1 n [] false []
 | truth (n:Int) (h:n=0 ∨ n=1):Shape 2 n [] false []
 | var (name:List UInt8) (h:Gt name):Shape 3 0 name false []
 | neg (x:PE):Shape 4 0 [] false [x]
 | not (x:PE):Shape 5 0 [] false [x]
 | bin (name:List UInt8) (x y:PE) (h:name ∈ Fd 2 ∨ name ∈ Fd 3 ∨ name ∈ Fd 5 ∨ name ∈ Fd 6 ∨ name ∈ Fd 7):Shape 6 0 name false [x,y]
 | ite (x y z:PE):Shape 7 0 [] false [x,y,z]
 | arrow (x y:PE):Shape 8 0 [] false [x,y]
 | fby (x y:PE) (h:Iu x=true):Shape 9 0 [] false [x,y]
 | pre (x:PE):Shape 10 0 [] false [x]
 | when (name:List UInt8) (off:Bool) (x:PE) (h:Gt name):Shape 11 0 name off [x]
 | merge (name:List UInt8) (x y:PE) (h:Gt name):Shape 12 0 name false [x,y]
 | call (name:List UInt8) (l:List PE) (h:Gt name):Shape 13 0 name false l
 | await (name:List UInt8) (l:List PE) (h:Gt name) (hl:∀ x ∈ l,Iu x=true):Shape 14 0 name false l
inductive GoodT:PE → Prop where
 | mk (kind pos:Nat) (n:Int) (name:List UInt8) (off:Bool) (kids:List PE) (hs:Shape kind n name off kids) (hk:∀ e ∈ kids,GoodT e):GoodT (.mk kind pos n name off kids)
theorem Vi (u:Nat):∃ c r,Lib.decDigits u=c :: r ∧ 48 ≤ c.toNat ∧ c.toNat ≤ 57:=by
 induction u using Nat.strongRecOn with
 | _ u ih =>
  rw [Lib.decDigits]
  split
  ·rename_i h
   refine ⟨_,[],rfl,?_⟩
   have:(UInt8.ofNat (48 + u)).toNat=48 + u:=by simp [UInt8.toNat_ofNat]; omega
   omega
  ·rename_i h
   obtain ⟨c,r,e,h1,h2⟩:=ih (u / 10) (by omega)
   rw [e]
   exact ⟨c,_,rfl,h1,h2⟩
theorem bA (u:Nat) {c:UInt8} {r:List UInt8} (h:c.toNat < 48 ∨ 57 < c.toNat):Lib.decDigits u ≠ c :: r:=by
 obtain ⟨c',r',e,h1,h2⟩:=Vi u
 rw [e]
 intro q
 injection q with q1 q2
 subst q1
 omega
theorem Ij.ne {L k:Nat} {us:List TK} (h:Ij L us) (hk:L ≤ k) {s:List UInt8} (hs:s ∈ Fd k):Ie us ≠ s:=fun e=>h k hk (e ▸ hs)
theorem J5 {ts:List Tk} {i:Nat} {us rest:List TK} (h:Ek ts i (us ++ rest)):Ek ts (i + us.length) rest:=h.skip
theorem qA (kind pos pos':Nat) (n:Int) (name:List UInt8) (off:Bool):LikeE (.mk kind pos n name off []) (.mk kind pos' n name off []):=.mk _ _ _ _ _ _ _ _ .nil
theorem N5 (ts:List Tk) (n i:Nat):P ts (n + 1) .primary i=if (tk ts i).kind=2 then Ni ts i
   else if (tk ts i).kind=1 then P ts n .name i
   else if (tk ts i).text=[116,114,117,101] ∨ (tk ts i).text=[102,97,108,115,101] then .ok (Lc (tk ts i)) (i + 1)
   else if (tk ts i).text=[109,101,114,103,101] then (Gz ts 1 (i + 1)).bind fun t j=>(P ts n .brk j).bind fun x j=>(P ts n .brk j).bind fun y j=>.ok (.mk 12 (tk ts i).pos 0 t.text false [x,y]) j
   else if (tk ts i).text=[97,119,97,105,116] then (Gz ts 1 (i + 1)).bind fun t j=>if (tk ts j).text ∈ [[97,102,116,101,114]] then (Ef ts [[40]] (j + 1)).bind fun _ j=>(P ts n .lit j).bind fun x m=>(Ik ts (P ts n .lit) n [x] m).bind fun l m=>.ok (.mk 14 (tk ts i).pos 0 t.text false l) m else .ok (.mk 14 (tk ts i).pos 0 t.text false []) j
   else P ts n .brk i:=rfl
theorem Jb {ts:List Tk} {i:Nat} {ws:List (List UInt8)} (h:(tk ts i).text ∈ ws):Ef ts ws i=.ok (tk ts i) (i + 1):=by unfold Ef; rw [if_pos h]
theorem Rk {ts:List Tk} {i k:Nat} (h:(tk ts i).kind=k):Gz ts k i=.ok (tk ts i) (i + 1):=by unfold Gz; rw [if_pos h]
theorem brk_rd {us:List TK} {e:PE} (h:It 0 us e) {ts:List Tk} {i:Nat} {rest:List TK} (hs:Ek ts i (G5 us ++ rest)):RdA ts i (i + (G5 us).length) e .brk:=by
 unfold G5 at hs ⊢
 obtain ⟨k0,t0,-,-,hs1⟩:=hs.cons
 have hs1':Ek ts (i + 1) (us ++ sg [41] :: rest):=by
  have:(us ++ [sg [41]]).append rest=us ++ sg [41] :: rest:=by simp
  rw [← this]; exact hs1
 have hstop:Ij 0 (sg [41] :: rest):=fun k _=>by
  show ([41]:List UInt8) ∉ Fd k
  unfold Fd; split <;> decide
 obtain ⟨e',he,N,hP⟩:=h.a (L:=0) (Nat.le_refl _) (by decide) hs1' hstop
 obtain ⟨k1,t1,-,-,hs2⟩:=hs1'.skip.cons
 refine ⟨e',he,N + 1,fun n hn=>?_⟩
 obtain ⟨m,rfl⟩:∃ m,n=m + 1:=⟨n - 1,by omega⟩
 show (Ef ts [[40]] i).bind (fun _ j=>(P ts m .expr j).bind fun x j=>(Ef ts [[41]] j).bind fun _ j=>.ok x j)=_
 rw [Jb (by rw [t0]; decide)]
 show (P ts m .expr (i + 1)).bind _=_
 rw [show P ts m .expr (i + 1)=.ok e' (i + 1 + us.length) from hP m (by omega)]
 show (Ef ts [[41]] (i + 1 + us.length)).bind _=_
 rw [Jb (by rw [t1]; decide)]
 show PR.ok e' _=_
 congr 1
 simp; omega
theorem brk_hd (us:List TK):Hd 10 (G5 us):=by
 refine ⟨fun e=>(by unfold G5 at e; cases e),fun _=>?_,fun _=>?_,fun _=>?_,?_⟩ <;> simp [G5,Ie]
theorem it_brk {us:List TK} {e:PE} (h:It 0 us e):It 10 (G5 us) e:=by
 refine ⟨brk_hd us,fun ts i rest hs=>?_⟩
 have hp:RdA ts i (i + (G5 us).length) e .primary:=by
  obtain ⟨e',he,N,hP⟩:=brk_rd h hs
  have hs':=hs
  unfold G5 at hs'
  obtain ⟨k0,t0,-,-,-⟩:=hs'.cons
  refine ⟨e',he,N + 1,fun n hn=>?_⟩
  obtain ⟨m,rfl⟩:∃ m,n=m + 1:=⟨n - 1,by omega⟩
  rw [N5,k0,t0,if_neg (by decide),if_neg (by decide),if_neg (by decide),if_neg (by decide),if_neg (by decide)]
  exact hP m (by omega)
 exact ⟨jS ((brk_hd us).mono (by omega)) hs (J5 hs) fun _=>hp,fun _ _=>yF (nt:=.primary) hp⟩
theorem it_kid {us:List TK} {b kind:Nat} {e:PE} (h:It b us e) (ks:List KJ) (k:Nat) (hk:ks[k]? = some ⟨us,b,kind⟩) (least:Nat) (hl:least ≤ 10):It least (kJ ks k least) e:=by
 unfold kJ
 rw [hk]
 show It least (if b < least then G5 us else us) e
 split
 ·exact (it_brk (h.mono (Nat.zero_le _))).mono hl
 ·exact h.mono (by omega)
theorem wrap_i64 {x:Int} (h:-9223372036854775808 ≤ x ∧ x ≤ 9223372036854775807):IntKind.i64.wrap x=x:=by
 unfold IntKind.wrap
 simp [IntKind.bits,IntKind.signed]; omega
theorem wrap_neg {n:Int} (h:-9223372036854775808 ≤ n ∧ n < 0):IntKind.i64.wrap (0 - IntKind.i64.wrap (n.natAbs:Int))=n:=by
 unfold IntKind.wrap
 simp [IntKind.bits,IntKind.signed]; omega
theorem like1 (kind pos pos':Nat) (n:Int) (name:List UInt8) (off:Bool) {x x':PE} (h:LikeE x x'):LikeE (.mk kind pos n name off [x]) (.mk kind pos' n name off [x']):=.mk _ _ _ _ _ _ _ _ (.cons _ _ _ _ h .nil)
theorem like2 (kind pos pos':Nat) (n:Int) (name:List UInt8) (off:Bool) {x x' y y':PE} (h:LikeE x x') (h2:LikeE y y'):LikeE (.mk kind pos n name off [x,y]) (.mk kind pos' n name off [x',y']):=.mk _ _ _ _ _ _ _ _ (.cons _ _ _ _ h (.cons _ _ _ _ h2 .nil))
theorem like3 (kind pos pos':Nat) (n:Int) (name:List UInt8) (off:Bool) {x x' y y' z z':PE} (h:LikeE x x') (h2:LikeE y y') (h3:LikeE z z'):LikeE (.mk kind pos n name off [x,y,z]) (.mk kind pos' n name off [x',y',z']):=.mk _ _ _ _ _ _ _ _ (.cons _ _ _ _ h (.cons _ _ _ _ h2 (.cons _ _ _ _ h3 .nil)))
theorem qO {b:Nat} {us r:List TK} (h:Hd b us):Hd b (us ++ r):=by
 refine ⟨fun e=>h.ne (List.append_eq_nil_iff.1 e).1,?_,?_,?_,?_⟩ <;> rw [I2 h.ne]
 ·exact h.h9
 ·exact h.h5
 ·exact h.h1
 ·exact h.hb
theorem dec9 (u:Nat):Lib.decDigits u ≠ [45] ∧ Lib.decDigits u ≠ [112,114,101] ∧ Lib.decDigits u ≠ [110,111,116] ∧ Lib.decDigits u ≠ [105,102] ∧ Lib.decDigits u ≠ [41]:=⟨bA u (by decide),bA u (by decide),bA u (by decide),bA u (by decide),bA u (by decide)⟩
theorem hd8 (x:TK) (r:List TK) (h:x.2.1 ≠ [110,111,116] ∧ x.2.1 ≠ [105,102] ∧ x.2.1 ≠ [41]):Hd 8 (x :: r):=⟨fun e=>(by cases e),fun h=>absurd h (by omega),fun _=>h.1,fun _=>h.2.1,h.2.2⟩
theorem hd4 (x:TK) (r:List TK) (h:x.2.1 ≠ [105,102] ∧ x.2.1 ≠ [41]):Hd 4 (x :: r):=⟨fun e=>(by cases e),fun h=>absurd h (by omega),fun h=>absurd h (by omega),fun _=>h.1,h.2⟩
theorem num_y {ts:List Tk} {i:Nat} {u:Nat} {rest:List TK} (hs:Ek ts i ((2,Lib.decDigits u,u) :: rest)) (hu:u ≤ 9223372036854775807):Ni ts i=.ok (.mk 1 (tk ts i).pos (u:Int) [] false []) (i + 1):=by
 obtain ⟨k0,t0,n0,g0,-⟩:=hs.cons
 have n0:(tk ts i).num=u:=n0
 unfold Ni
 rw [g0]
 show (if (tk ts i).text=[45] then _ else if (tk ts i).kind=2 then _ else _)=_
 rw [t0,if_neg (show ¬ Lib.decDigits u=[45] from (dec9 u).1),k0,if_pos rfl,n0]
 show (if 9223372036854775807 < u then _ else _)=_
 rw [if_neg (by omega),wrap_i64 (by omega)]
theorem neg_y {ts:List Tk} {i:Nat} {n:Int} {rest:List TK} (hs:Ek ts i (sg [45] :: (2,Lib.decDigits n.natAbs,n.natAbs) :: rest)) (h:-9223372036854775808 ≤ n ∧ n < 0):Ni ts i=.ok (.mk 1 (tk ts i).pos n [] false []) (i + 2):=by
 obtain ⟨k0,t0,n0,g0,h1⟩:=hs.cons
 obtain ⟨k1,t1,n1,g1,-⟩:=h1.cons
 unfold Ni
 rw [g0]
 show (if (tk ts i).text=[45] then _ else _)=_
 rw [if_pos t0,g1]
 show (if (tk ts (i + 1)).kind=2 then _ else _)=_
 rw [if_pos k1,n1]
 show PR.ok (PE.mk 1 _ (IntKind.i64.wrap (0 - IntKind.i64.wrap (n.natAbs:Int))) [] false []) _=_
 rw [wrap_neg h]
theorem num_eq {n:Int} (h:¬ n < 0):((n.toNat:Nat):Int)=n:=by omega
theorem it_num (pos:Nat) (n:Int) (h:-9223372036854775808 ≤ n ∧ n ≤ 9223372036854775807):It (if n < 0 then 8 else 10) (gL n) (.mk 1 pos n [] false []):=by
 unfold gL
 split
 ·rename_i hn
  refine ⟨hd8 _ _ (by decide),fun ts i rest hs=>⟨?_,fun h=>absurd h (by omega)⟩⟩
  have hs':Ek ts i (sg [45] :: (2,Lib.decDigits n.natAbs,n.natAbs) :: rest):=hs
  obtain ⟨k0,t0,-,-,h1⟩:=hs'.cons
  obtain ⟨k1,t1,-,-,h2⟩:=h1.cons
  refine low8 (by rw [t0]; decide) (by rw [t0]; decide) (J5 hs) fun hst=>⟨.mk 1 (tk ts i).pos n [] false [],qA _ _ _ _ _ _,1,fun m hm=>?_⟩
  obtain ⟨m,rfl⟩:∃ q,m=q + 1:=⟨m - 1,by omega⟩
  have hw:(tk ts (i + 2)).text ≠ [119,104,101,110]:=by
   rw [h2.head]; exact hst.ne (k:=9) (by omega) (by decide)
  have hb:Lm ts i=true:=by
   unfold Lm
   rw [decide_eq_true t0,decide_eq_true k1,decide_eq_false hw]; rfl
  show (if (tk ts i).text ∈ [[112,114,101]] then _ else if Lm ts i=true then Ni ts i else _)=_
  rw [if_neg (by rw [t0]; decide),if_pos hb,neg_y hs' ⟨h.1,hn⟩]; rfl
 ·rename_i hn
  have d:=dec9 n.toNat
  have hd:Hd 10 [((2,Lib.decDigits n.toNat,n.toNat):TK)]:=⟨fun e=>(by cases e),fun _=>⟨d.1,d.2.1⟩,fun _=>d.2.2.1,fun _=>d.2.2.2.1,d.2.2.2.2⟩
  refine ⟨hd,fun ts i rest hs=>?_⟩
  have hp:RdA ts i (i + 1) (.mk 1 pos n [] false []) .primary:=by
   refine ⟨.mk 1 (tk ts i).pos n [] false [],qA _ _ _ _ _ _,1,fun m hm=>?_⟩
   obtain ⟨m,rfl⟩:∃ q,m=q + 1:=⟨m - 1,by omega⟩
   have hs':Ek ts i ((2,Lib.decDigits n.toNat,n.toNat) :: rest):=hs
   rw [N5,if_pos hs'.cons.1,num_y hs' (by omega),num_eq hn]
  exact ⟨jS (hd.mono (by omega)) hs (J5 hs) fun _=>hp,fun _ _=>yF (nt:=.primary) hp⟩
theorem it_truth (pos:Nat) (n:Int) (h:n=0 ∨ n=1):It 10 (truthJ n) (.mk 2 pos n [] false []):=by
 have hd:Hd 10 (truthJ n):=by
  rcases h with rfl | rfl <;> exact ⟨fun e=>(by cases e),fun _=>by decide,fun _=>by decide,fun _=>by decide,by decide⟩
 refine ⟨hd,fun ts i rest hs=>?_⟩
 have hp:RdA ts i (i + 1) (.mk 2 pos n [] false []) .primary:=by
  refine ⟨.mk 2 (tk ts i).pos n [] false [],qA _ _ _ _ _ _,1,fun m hm=>?_⟩
  obtain ⟨m,rfl⟩:∃ q,m=q + 1:=⟨m - 1,by omega⟩
  rcases h with rfl | rfl
  ·obtain ⟨k0,t0,-,-,-⟩:=Ek.cons (x:=kw [102,97,108,115,101]) (r:=rest) hs
   rw [N5,k0,if_neg (by decide),if_neg (by decide),if_pos (Or.inr t0)]
   unfold Lc
   rw [t0]; rfl
  ·obtain ⟨k0,t0,-,-,-⟩:=Ek.cons (x:=kw [116,114,117,101]) (r:=rest) hs
   rw [N5,k0,if_neg (by decide),if_neg (by decide),if_pos (Or.inl t0)]
   unfold Lc
   rw [t0]; rfl
 exact ⟨jS (hd.mono (by omega)) hs (J5 hs) fun _=>hp,fun _ _=>yF (nt:=.primary) hp⟩
abbrev kU (name:List UInt8):Prop:=name ∉ La ∧ name ∉ Gb
theorem mC {name:List UInt8} (h:kU name) (r:List TK):Hd 10 (nm name :: r):=by
 have w:∀ s,s ∈ La → name ≠ s:=fun s hs e=>h.1 (e ▸ hs)
 have g:∀ s,s ∈ Gb → name ≠ s:=fun s hs e=>h.2 (e ▸ hs)
 exact ⟨fun e=>(by cases e),fun _=>⟨g _ (by decide),w _ (by decide)⟩,fun _=>w _ (by decide),fun _=>w _ (by decide),g _ (by decide)⟩
theorem it_var (pos:Nat) {name:List UInt8} (h:kU name):It 10 [nm name] (.mk 3 pos 0 name false []):=by
 refine ⟨mC h [],fun ts i rest hs=>?_⟩
 obtain ⟨k0,t0,-,-,h1⟩:=Ek.cons (x:=nm name) (r:=rest) hs
 have k0:(tk ts i).kind=1:=k0
 have t0:(tk ts i).text=name:=t0
 have hp:Ij 10 rest → RdA ts i (i + 1) (.mk 3 pos 0 name false []) .primary:=fun hst=>by
  refine ⟨.mk 3 (tk ts i).pos 0 name false [],qA _ _ _ _ _ _,2,fun m hm=>?_⟩
  obtain ⟨m,rfl⟩:∃ q,m=q + 2:=⟨m - 2,by omega⟩
  rw [N5,k0,if_neg (by decide),if_pos rfl]
  show (if (tk ts (i + 1)).text=[40] then _ else (Gz ts 1 i).bind fun t j=>PR.ok (PE.mk 3 t.pos 0 t.text false []) j)=_
  rw [h1.head,if_neg (hst.ne (k:=10) (by omega) (by decide)),Rk k0]
  show PR.ok (PE.mk 3 _ 0 (tk ts i).text false []) _=_
  rw [t0]
 exact ⟨jS ((mC h []).mono (by omega)) hs (J5 hs) hp,fun _ hst=>yF (nt:=.primary) (hp hst)⟩
theorem it_not (pos:Nat) {kk:List TK} {x:PE} (h:It 4 kk x):It 4 (kw [110,111,116] :: kk) (.mk 5 pos 0 [] false [x]):=by
 refine ⟨hd4 _ _ (by decide),fun ts i rest hs=>⟨?_,fun h=>absurd h (by omega)⟩⟩
 obtain ⟨k0,t0,-,-,h1⟩:=Ek.cons (x:=kw [110,111,116]) (r:=kk ++ rest) hs
 have ej:i + (kw [110,111,116] :: kk).length=i + 1 + kk.length:=by rw [List.length_cons]; omega
 have hv:=J5 hs
 rw [ej] at hv ⊢
 refine low4 (by rw [t0]; decide) hv fun hst=>?_
 obtain ⟨x',hx,N,hP⟩:=h.a (L:=4) (Nat.le_refl _) (by decide) h1 hst
 refine ⟨.mk 5 (tk ts i).pos 0 [] false [x'],like1 _ _ _ _ _ _ hx,N + 1,fun n hn=>?_⟩
 obtain ⟨m,rfl⟩:∃ m,n=m + 1:=⟨n - 1,by omega⟩
 show (if (tk ts i).text ∈ [[110,111,116]] then (P ts m .not (i + 1)).bind _ else _)=_
 rw [if_pos (by rw [t0]; decide),show P ts m .not (i + 1)=_ from hP m (by omega)]; rfl
theorem it_pre (pos:Nat) {kk:List TK} {x:PE} (h:It 8 kk x):It 8 (kw [112,114,101] :: kk) (.mk 10 pos 0 [] false [x]):=by
 refine ⟨hd8 _ _ (by decide),fun ts i rest hs=>⟨?_,fun h=>absurd h (by omega)⟩⟩
 obtain ⟨k0,t0,-,-,h1⟩:=Ek.cons (x:=kw [112,114,101]) (r:=kk ++ rest) hs
 have ej:i + (kw [112,114,101] :: kk).length=i + 1 + kk.length:=by rw [List.length_cons]; omega
 have hv:=J5 hs
 rw [ej] at hv ⊢
 refine low8 (by rw [t0]; decide) (by rw [t0]; decide) hv fun hst=>?_
 obtain ⟨x',hx,N,hP⟩:=h.a (L:=8) (Nat.le_refl _) (by decide) h1 hst
 refine ⟨.mk 10 (tk ts i).pos 0 [] false [x'],like1 _ _ _ _ _ _ hx,N + 1,fun n hn=>?_⟩
 obtain ⟨m,rfl⟩:∃ m,n=m + 1:=⟨n - 1,by omega⟩
 show (if (tk ts i).text ∈ [[112,114,101]] then (P ts m .unary (i + 1)).bind _ else _)=_
 rw [if_pos (by rw [t0]; decide),show P ts m .unary (i + 1)=_ from hP m (by omega)]; rfl
theorem it_neg (pos:Nat) {kk:List TK} {x:PE} (h:It 8 kk x) (hn:∀ y r,kk=y :: r → y.1=2 → Ie r=[119,104,101,110]):It 8 (sg [45] :: kk) (.mk 4 pos 0 [] false [x]):=by
 refine ⟨hd8 _ _ (by decide),fun ts i rest hs=>⟨?_,fun h=>absurd h (by omega)⟩⟩
 obtain ⟨k0,t0,-,-,h1⟩:=Ek.cons (x:=sg [45]) (r:=kk ++ rest) hs
 have ej:i + (sg [45] :: kk).length=i + 1 + kk.length:=by rw [List.length_cons]; omega
 have hv:=J5 hs
 rw [ej] at hv ⊢
 refine low8 (by rw [t0]; decide) (by rw [t0]; decide) hv fun hst=>?_
 obtain ⟨x',hx,N,hP⟩:=h.a (L:=8) (Nat.le_refl _) (by decide) h1 hst
 refine ⟨.mk 4 (tk ts i).pos 0 [] false [x'],like1 _ _ _ _ _ _ hx,N + 1,fun n hle=>?_⟩
 obtain ⟨m,rfl⟩:∃ m,n=m + 1:=⟨n - 1,by omega⟩
 have hb:Lm ts i=false:=by
  unfold Lm
  cases hk:kk with
  | nil=>exact absurd hk h.1.ne
  | cons y r =>
   rw [hk] at h1
   obtain ⟨k1,t1,-,-,h2⟩:=Ek.cons (x:=y) (r:=r ++ rest) h1
   by_cases hy:y.1=2
   ·have hr:=hn y r hk hy
    have hne:r ≠ []:=fun e=>by rw [e] at hr; cases hr
    rw [h2.head,I2 hne,hr]
    simp
   ·rw [decide_eq_false (show ¬ (tk ts (i + 1)).kind=2 by rw [k1]; exact hy)]
    simp
 show (if (tk ts i).text ∈ [[112,114,101]] then _ else if Lm ts i=true then _ else if (tk ts i).text ∈ [[45]] then (P ts m .unary (i + 1)).bind _ else _)=_
 rw [if_neg (by rw [t0]; decide),hb,if_neg (by simp),if_pos (by rw [t0]; decide),show P ts m .unary (i + 1)=_ from hP m (by omega)]; rfl
theorem ops_disj {L:Nat} {name:List UInt8} (h:name ∈ Fd L) (hc:L=2 ∨ L=3 ∨ L=5 ∨ L=6 ∨ L=7):∀ k,L < k → name ∉ Fd k:=by
 intro k hk
 rcases hc with rfl | rfl | rfl | rfl | rfl <;> simp only [Fd,List.mem_cons,List.mem_nil_iff,or_false] at h
 ·rcases h with rfl | rfl <;> (unfold Fd; split <;> first | omega | decide)
 ·subst h; (unfold Fd; split <;> first | omega | decide)
 ·rcases h with rfl | rfl | rfl | rfl | rfl | rfl <;> (unfold Fd; split <;> first | omega | decide)
 ·rcases h with rfl | rfl <;> (unfold Fd; split <;> first | omega | decide)
 ·rcases h with rfl | rfl | rfl <;> (unfold Fd; split <;> first | omega | decide)
theorem cO (name:List UInt8):(opT name).2.1=name:=by unfold opT; split <;> rfl
theorem Qv {ts:List Tk} {i:Nat} {a b rest:List TK} {x:TK} (h:Ek ts i ((a ++ x :: b) ++ rest)):Ek ts i (a ++ x :: (b ++ rest)):=by
 rw [List.append_assoc,List.cons_append] at h; exact h
theorem mF (i:Nat) (a b:List TK) (x:TK):i + (a ++ x :: b).length=i + a.length + 1 + b.length:=by simp; omega
section
variable {a b:List TK} {x y:PE} (pos:Nat) {name:List UInt8}
theorem bin_rd {L:Nat} (hc:L=2 ∨ L=3 ∨ L=6 ∨ L=7) (ha:It L a x) (hb:It (L + 1) b y) (hm:name ∈ Fd L) {ts:List Tk} {i:Nat} {rest:List TK} (hs:Ek ts i ((a ++ opT name :: b) ++ rest)) (hst:Ij (L + 1) rest):RdB ts i (i + (a ++ opT name :: b).length) (.mk 6 pos 0 name false [x,y]) L:=by
 have hs1:=Qv hs
 have hd:=ops_disj hm (by omega)
 have hso:Ij (L + 1) (opT name :: (b ++ rest)):=fun k hk=>by
  show (opT name).2.1 ∉ _
  rw [cO]; exact hd k (by omega)
 obtain ⟨x',hx,N1,k,h1⟩:=ha.b (Nat.le_refl _) hc hs1 hso
 obtain ⟨k1,t1,-,-,hs2⟩:=hs1.skip.cons
 rw [cO] at t1
 obtain ⟨y',hy,N2,h2⟩:=hb.a (Nat.le_refl _) (by omega) hs2 hst
 rw [mF]
 refine ⟨.mk 6 (tk ts (i + a.length)).pos 0 name false [x',y'],like2 _ _ _ _ _ _ hx hy,N1 + N2 + k + 1,k + 1,fun n hn=>?_⟩
 rw [h1 n (by omega)]
 obtain ⟨q,hq⟩:∃ q,n - k=q + 1:=⟨n - k - 1,by omega⟩
 have hq2:n - (k + 1)=q:=by omega
 rw [hq,hq2]
 show (if (tk ts (i + a.length)).text ∈ Fd L then (P ts n (tF (L + 1)) (i + a.length + 1)).bind (fun y j=>Lp ts (Fd L) (P ts n (tF (L + 1))) q (.mk 6 (tk ts (i + a.length)).pos 0 (tk ts (i + a.length)).text false [x',y]) j) else _)=_
 rw [if_pos (by rw [t1]; exact hm),h2 n (by omega),t1]; rfl
theorem mR {L:Nat} (hc:L=2 ∨ L=3 ∨ L=6 ∨ L=7) (ha:It L a x) (hb:It (L + 1) b y) (hm:name ∈ Fd L):It L (a ++ opT name :: b) (.mk 6 pos 0 name false [x,y]):=by
 have hd:Hd L (a ++ opT name :: b):=qO ha.1
 refine ⟨hd,fun ts i rest hs=>⟨?_,fun h=>by omega⟩⟩
 have hh:=hs.head
 rw [I2 hd.ne] at hh
 have hr:=fun hst=>bin_rd pos hc ha hb hm hs hst
 have hv:=J5 hs
 rcases hc with rfl | rfl | rfl | rfl
 ·exact low2 (by rw [hh]; exact hd.h1 (by omega)) hv hr
 ·exact low3 (by rw [hh]; exact hd.h1 (by omega)) hv hr
 ·exact low6 (by rw [hh]; exact hd.h1 (by omega)) (by rw [hh]; exact hd.h5 (by omega)) hv hr
 ·exact low7 (by rw [hh]; exact hd.h1 (by omega)) (by rw [hh]; exact hd.h5 (by omega)) hv hr
theorem it_cmp (ha:It 6 a x) (hb:It 6 b y) (hm:name ∈ Fd 5):It 5 (a ++ opT name :: b) (.mk 6 pos 0 name false [x,y]):=by
 have hd:Hd 6 (a ++ opT name :: b):=qO ha.1
 refine ⟨hd.mono (by omega),fun ts i rest hs=>⟨?_,fun h=>by omega⟩⟩
 have hh:=hs.head
 rw [I2 hd.ne] at hh
 have hv:=J5 hs
 refine low5 (by rw [hh]; exact hd.h1 (by omega)) hv fun hst=>?_
 have hs1:=Qv hs
 have hdj:=ops_disj hm (by omega)
 have hso:Ij 6 (opT name :: (b ++ rest)):=fun k hk=>by
  show (opT name).2.1 ∉ _
  rw [cO]; exact hdj k (by omega)
 obtain ⟨x',hx,N1,h1⟩:=ha.a (L:=6) (Nat.le_refl _) (by decide) hs1 hso
 obtain ⟨k1,t1,-,-,hs2⟩:=hs1.skip.cons
 rw [cO] at t1
 obtain ⟨y',hy,N2,h2⟩:=hb.a (L:=6) (Nat.le_refl _) (by decide) hs2 (hst.mono (by omega))
 rw [mF]
 refine ⟨.mk 6 (tk ts (i + a.length)).pos 0 name false [x',y'],like2 _ _ _ _ _ _ hx hy,N1 + N2 + 1,fun n hn=>?_⟩
 obtain ⟨m,rfl⟩:∃ m,n=m + 1:=⟨n - 1,by omega⟩
 show (if (tk ts i).text ∈ [[110,111,116]] then _ else (P ts m .sum i).bind fun x j=>if (tk ts j).text ∈ Fd 5 then (P ts m .sum (j + 1)).bind (fun y k=>PR.ok (PE.mk 6 (tk ts j).pos 0 (tk ts j).text false [x,y]) k) else _)=_
 rw [if_neg (by rw [hh]; simpa using hd.h5 (by omega)),show P ts m .sum i=_ from h1 m (by omega)]
 show (if (tk ts (i + a.length)).text ∈ Fd 5 then _ else _)=_
 rw [if_pos (by rw [t1]; exact hm),show P ts m .sum (i + a.length + 1)=_ from h2 m (by omega),t1]; rfl
theorem P1 {L:Nat} {t:TK} {r:List TK} (h:∀ k,L ≤ k → t.2.1 ∉ Fd k):Ij L (t :: r):=h
theorem it_arrow (ha:It 2 a x) (hb:It 1 b y):It 1 (a ++ sg [45,62] :: b) (.mk 8 pos 0 [] false [x,y]):=by
 have hd:Hd 2 (a ++ sg [45,62] :: b):=qO ha.1
 refine ⟨hd.mono (by omega),fun ts i rest hs=>⟨?_,fun h=>by omega⟩⟩
 have hh:=hs.head
 rw [I2 hd.ne] at hh
 refine low1 (by rw [hh]; exact hd.h1 (by omega)) fun hst=>?_
 have hs1:=Qv hs
 have hso:Ij 2 (sg [45,62] :: (b ++ rest)):=P1 fun k hk=>by
  unfold Fd; split <;> first | omega | decide
 obtain ⟨x',hx,N1,h1⟩:=ha.a (L:=2) (Nat.le_refl _) (by decide) hs1 hso
 obtain ⟨k1,t1,-,-,hs2⟩:=hs1.skip.cons
 obtain ⟨y',hy,N2,h2⟩:=hb.a (L:=1) (Nat.le_refl _) (by decide) hs2 hst
 rw [mF]
 refine ⟨.mk 8 (tk ts (i + a.length)).pos 0 [] false [x',y'],like2 _ _ _ _ _ _ hx hy,N1 + N2 + 1,fun n hn=>?_⟩
 obtain ⟨m,rfl⟩:∃ m,n=m + 1:=⟨n - 1,by omega⟩
 show (P ts m .or i).bind _=_
 rw [show P ts m .or i=_ from h1 m (by omega)]
 show (if (tk ts (i + a.length)).text ∈ [[45,62]] then _ else _)=_
 rw [if_pos (by rw [t1]; decide),show P ts m .arrow (i + a.length + 1)=_ from h2 m (by omega)]; rfl
theorem it_fby (ha:It 2 a x) (hb:It 1 b y) (hx:Iu x=true):It 1 (a ++ kw [102,98,121] :: b) (.mk 9 pos 0 [] false [x,y]):=by
 have hd:Hd 2 (a ++ kw [102,98,121] :: b):=qO ha.1
 refine ⟨hd.mono (by omega),fun ts i rest hs=>⟨?_,fun h=>by omega⟩⟩
 have hh:=hs.head
 rw [I2 hd.ne] at hh
 refine low1 (by rw [hh]; exact hd.h1 (by omega)) fun hst=>?_
 have hs1:=Qv hs
 have hso:Ij 2 (kw [102,98,121] :: (b ++ rest)):=P1 fun k hk=>by
  unfold Fd; split <;> first | omega | decide
 obtain ⟨x',hl,N1,h1⟩:=ha.a (L:=2) (Nat.le_refl _) (by decide) hs1 hso
 obtain ⟨k1,t1,-,-,hs2⟩:=hs1.skip.cons
 obtain ⟨y',hy,N2,h2⟩:=hb.a (L:=1) (Nat.le_refl _) (by decide) hs2 hst
 rw [mF]
 refine ⟨.mk 9 (tk ts (i + a.length)).pos 0 [] false [x',y'],like2 _ _ _ _ _ _ hl hy,N1 + N2 + 1,fun n hn=>?_⟩
 obtain ⟨m,rfl⟩:∃ m,n=m + 1:=⟨n - 1,by omega⟩
 show (P ts m .or i).bind _=_
 rw [show P ts m .or i=_ from h1 m (by omega)]
 show (if (tk ts (i + a.length)).text ∈ [[45,62]] then _ else if Iu x' = false then PR.ok x' (i + a.length) else if (tk ts (i + a.length)).text ∈ [[102,98,121]] then _ else _)=_
 rw [if_neg (by rw [t1]; decide),if_neg (by rw [← rU hl,hx]; simp),if_pos (by rw [t1]; decide),show P ts m .arrow (i + a.length + 1)=_ from h2 m (by omega)]; rfl
theorem it_ite {c:List TK} {z:PE} (ha:It 0 a x) (hb:It 0 b y) (hc:It 0 c z):It 0 (kw [105,102] :: (a ++ kw [116,104,101,110] :: (b ++ kw [101,108,115,101] :: c))) (.mk 7 pos 0 [] false [x,y,z]):=by
 refine ⟨⟨fun e=>(by cases e),fun h=>absurd h (by omega),fun h=>absurd h (by omega),fun h=>absurd h (by omega),(by simp [Ie])⟩,fun ts i rest hs=>⟨?_,fun h=>by omega⟩⟩
 refine low0 fun hst=>?_
 obtain ⟨k0,t0,-,-,h0⟩:=Ek.cons (x:=kw [105,102]) (r:=(a ++ kw [116,104,101,110] :: (b ++ kw [101,108,115,101] :: c)) ++ rest) hs
 have h1:=Qv h0
 have s1:∀ r,Ij 0 (kw [116,104,101,110] :: r):=fun r=>P1 fun k hk=>by unfold Fd; split <;> decide
 have s2:∀ r,Ij 0 (kw [101,108,115,101] :: r):=fun r=>P1 fun k hk=>by unfold Fd; split <;> decide
 obtain ⟨x',hx,N1,p1⟩:=ha.a (L:=0) (Nat.le_refl _) (by decide) h1 (s1 _)
 obtain ⟨k1,t1,-,-,h2⟩:=h1.skip.cons
 have h2':=Qv h2
 obtain ⟨y',hy,N2,p2⟩:=hb.a (L:=0) (Nat.le_refl _) (by decide) h2' (s2 _)
 obtain ⟨k2,t2,-,-,h3⟩:=h2'.skip.cons
 obtain ⟨z',hz,N3,p3⟩:=hc.a (L:=0) (Nat.le_refl _) (by decide) h3 hst
 have ej:i + (kw [105,102] :: (a ++ kw [116,104,101,110] :: (b ++ kw [101,108,115,101] :: c))).length=i + 1 + a.length + 1 + b.length + 1 + c.length:=by simp; omega
 rw [ej]
 refine ⟨.mk 7 (tk ts i).pos 0 [] false [x',y',z'],like3 _ _ _ _ _ _ hx hy hz,N1 + N2 + N3 + 1,fun n hn=>?_⟩
 obtain ⟨m,rfl⟩:∃ m,n=m + 1:=⟨n - 1,by omega⟩
 show (if (tk ts i).text ∈ [[105,102]] then (P ts m .expr (i + 1)).bind _ else _)=_
 rw [if_pos (by rw [t0]; decide),show P ts m .expr (i + 1)=_ from p1 m (by omega)]
 show (Ef ts [[116,104,101,110]] (i + 1 + a.length)).bind _=_
 rw [Jb (by rw [t1]; decide)]
 show (P ts m .expr (i + 1 + a.length + 1)).bind _=_
 rw [show P ts m .expr (i + 1 + a.length + 1)=_ from p2 m (by omega)]
 show (Ef ts [[101,108,115,101]] (i + 1 + a.length + 1 + b.length)).bind _=_
 rw [Jb (by rw [t2]; decide)]
 show (P ts m .expr (i + 1 + a.length + 1 + b.length + 1)).bind _=_
 rw [show P ts m .expr (i + 1 + a.length + 1 + b.length + 1)=_ from p3 m (by omega)]; rfl
theorem it_when (hn:kU name) (off:Bool) (ha:It 9 a x):It 9 (a ++ Ox name off) (.mk 11 pos 0 name off [x]):=by
 have hd:Hd 9 (a ++ Ox name off):=qO ha.1
 refine ⟨hd,fun ts i rest hs=>?_⟩
 have hw:∃ t r,Ox name off=t :: r ∧ t=kw [119,104,101,110]:=by unfold Ox; cases off <;> exact ⟨_,_,rfl,rfl⟩
 have hr:Ij 10 rest → RdW ts i (i + (a ++ Ox name off).length) (.mk 11 pos 0 name off [x]):=fun hst=>by
  have hs1:Ek ts i (a ++ (Ox name off ++ rest)):=by rw [← List.append_assoc]; exact hs
  have hso:Ij 10 (Ox name off ++ rest):=by
   obtain ⟨t,r,e,et⟩:=hw
   rw [e,et]
   exact P1 fun k hk=>by unfold Fd; split <;> first | omega | decide
  obtain ⟨x',hx,N,k,h1⟩:=ha.w (Nat.le_refl _) hs1 hso
  have h2:=hs1.skip
  rw [List.length_append,← Nat.add_assoc]
  have key:I5 ts (i + a.length + 1)=.ok (name,off) (i + a.length + (Ox name off).length) ∧ (tk ts (i + a.length)).text=[119,104,101,110]:=by
   unfold I5
   cases off with
   | false =>
    obtain ⟨k0,t0,-,-,h3⟩:=Ek.cons (x:=kw [119,104,101,110]) (r:=nm name :: rest) h2
    obtain ⟨k1,t1,-,-,-⟩:=h3.cons
    have t1:(tk ts (i + a.length + 1)).text=name:=t1
    refine ⟨?_,t0⟩
    rw [if_neg (by rw [t1]; intro hc; simp at hc; subst hc; exact hn.1 (by decide)),Rk k1]
    show PR.ok ((tk ts (i + a.length + 1)).text,false) _=_
    rw [t1]; rfl
   | true =>
    obtain ⟨k0,t0,-,-,h3⟩:=Ek.cons (x:=kw [119,104,101,110]) (r:=kw [110,111,116] :: nm name :: rest) h2
    obtain ⟨k1,t1,-,-,h4⟩:=h3.cons
    obtain ⟨k2,t2,-,-,-⟩:=h4.cons
    refine ⟨?_,t0⟩
    have t2:(tk ts (i + a.length + 1 + 1)).text=name:=t2
    rw [if_pos (by rw [t1]; decide),Rk k2]
    show PR.ok ((tk ts (i + a.length + 1 + 1)).text,true) _=_
    rw [t2]; rfl
  refine ⟨.mk 11 (tk ts (i + a.length)).pos 0 name off [x'],like1 _ _ _ _ _ _ hx,N + k + 1,k + 1,fun n hle=>?_⟩
  rw [h1 n (by omega)]
  obtain ⟨q,hq⟩:∃ q,n - k=q + 1:=⟨n - k - 1,by omega⟩
  have hq2:n - (k + 1)=q:=by omega
  rw [hq,hq2]
  show (if (tk ts (i + a.length)).text ∈ [[119,104,101,110]] then (I5 ts (i + a.length + 1)).bind _ else _)=_
  rw [if_pos (by rw [key.2]; decide),key.1]; rfl
 exact ⟨low9 hd hs (J5 hs) hr,fun _=>hr⟩
theorem it_merge (hn:kU name) (ha:It 0 a x) (hb:It 0 b y):It 10 (kw [109,101,114,103,101] :: nm name :: (G5 a ++ G5 b)) (.mk 12 pos 0 name false [x,y]):=by
 have hd:Hd 10 (kw [109,101,114,103,101] :: nm name :: (G5 a ++ G5 b)):=by
  refine ⟨fun e=>(by cases e),fun _=>?_,fun _=>?_,fun _=>?_,?_⟩ <;> simp [Ie]
 refine ⟨hd,fun ts i rest hs=>?_⟩
 have hp:RdA ts i (i + (kw [109,101,114,103,101] :: nm name :: (G5 a ++ G5 b)).length) (.mk 12 pos 0 name false [x,y]) .primary:=by
  obtain ⟨k0,t0,-,-,h0⟩:=Ek.cons (x:=kw [109,101,114,103,101]) (r:=nm name :: ((G5 a ++ G5 b) ++ rest)) hs
  obtain ⟨k1,t1,-,-,h1⟩:=h0.cons
  have t1:(tk ts (i + 1)).text=name:=t1
  rw [List.append_assoc] at h1
  obtain ⟨x',hx,N1,p1⟩:=brk_rd ha h1
  obtain ⟨y',hy,N2,p2⟩:=brk_rd hb h1.skip
  have ej:i + (kw [109,101,114,103,101] :: nm name :: (G5 a ++ G5 b)).length=i + 1 + 1 + (G5 a).length + (G5 b).length:=by simp; omega
  rw [ej]
  refine ⟨.mk 12 (tk ts i).pos 0 name false [x',y'],like2 _ _ _ _ _ _ hx hy,N1 + N2 + 1,fun n hn=>?_⟩
  obtain ⟨m,rfl⟩:∃ m,n=m + 1:=⟨n - 1,by omega⟩
  rw [N5,k0,t0,if_neg (by decide),if_neg (by decide),if_neg (by decide),if_pos rfl,Rk k1]
  show (P ts m .brk (i + 1 + 1)).bind _=_
  rw [p1 m (by omega)]
  show (P ts m .brk (i + 1 + 1 + (G5 a).length)).bind _=_
  rw [p2 m (by omega)]
  show PR.ok (PE.mk 12 (tk ts i).pos 0 (tk ts (i + 1)).text false [x',y']) _=_
  rw [t1]
 exact ⟨jS (hd.mono (by omega)) hs (J5 hs) fun _=>hp,fun _ _=>yF (nt:=.primary) hp⟩
end
end Go.Ax
