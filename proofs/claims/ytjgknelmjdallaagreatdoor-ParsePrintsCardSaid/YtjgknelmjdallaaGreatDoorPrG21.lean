/- Qg -/
import Derived.Test.YtjgknelmjdallaaGreatDoorPrG20
import Derived.Test.YtjgknelmjdallaaGreatDoorPrG14
import Derived.Test.YtjgknelmjdallaaGreatDoorAxShelfT
import Derived.Lib.AppendIntMem
set_option linter.unusedVariables false
set_option linter.unusedSimpArgs false
noncomputable section
namespace Go.Ax
open Go.RowKit Go.Proofs
set_option maxRecDepth 100000
def Sat {α:Type} (Q:α → Nat → Prop) (x:PR α):Prop:=x ≠ .out ∧ ∀ a j,x=.ok a j → Q a j
theorem Sat.ok {α:Type} {Q:α → Nat → Prop} {a:α} {j:Nat} (h:Q a j):Sat Q (.ok a j):=⟨(fun e=>by cases e),(fun a' j' e=>by injection e with e1 e2; subst e1; subst e2; exact h)⟩
theorem Sat.bad {α:Type} {Q:α → Nat → Prop} {a e:Nat}:Sat Q (.bad a e):=⟨(fun e=>by cases e),(fun _ _ e=>by cases e)⟩
theorem Sat.bind {α β:Type} {Q:α → Nat → Prop} {R:β → Nat → Prop} {x:PR α} {f:α → Nat → PR β} (hx:Sat Q x) (hf:∀ a j,Q a j → Sat R (f a j)):Sat R (x.bind f):=by
 cases x with
 | ok a j=>exact hf a j (hx.2 a j rfl)
 | bad a e=>exact Sat.bad
 | out=>exact absurd rfl hx.1
theorem Sat.mono {α:Type} {Q R:α → Nat → Prop} {x:PR α} (hx:Sat Q x) (h:∀ a j,Q a j → R a j):Sat R x:=⟨hx.1,fun a j e=>h a j (hx.2 a j e)⟩
theorem Sat.ite {α:Type} {Q:α → Nat → Prop} {c:Prop} [Decidable c] {x y:PR α} (h1:c → Sat Q x) (h2:¬ c → Sat Q y):Sat Q (if c then x else y):=by
 by_cases h:c
 ·rw [if_pos h]; exact h1 h
 ·rw [if_neg h]; exact h2 h
section
variable {ts:List Tk} (hts:TokOk ts)
include hts
theorem Gf {i:Nat} (hi:i < ts.length) {ws:List (List UInt8)} (hw:[] ∉ ws) (h:(tk ts i).text ∈ ws):i + 1 < ts.length:=by
 rw [Km hi] at h
 exact hts.next hi (fun e=>hw (e ▸ h))
theorem Ia {i:Nat} (hi:i < ts.length) {ws:List (List UInt8)} (hw:[] ∉ ws):Sat (fun t j=>t=tk ts i ∧ j=i + 1 ∧ j < ts.length ∧ t.text ∈ ws) (C7 ts ws i):=by
 unfold C7
 exact .ite (fun h=>.ok ⟨rfl,rfl,Gf hts hi hw h,h⟩) (fun _=>.bad)
theorem Q3 {i:Nat} (hi:i < ts.length) {kd:Nat} (hk:kd ≠ 5):Sat (fun t j=>t=tk ts i ∧ j=i + 1 ∧ j < ts.length) (Fk ts kd i):=by
 unfold Fk
 exact .ite (fun h=>.ok ⟨rfl,rfl,hts.more i hi (by rw [← Km hi,h]; exact hk)⟩) (fun _=>.bad)
theorem yZ {i:Nat} (hi:i < ts.length):Sat (fun _ j=>i < j ∧ j < ts.length) (Hc ts i):=by
 unfold Hc
 refine .ite (fun h=>?_) (fun _=>?_)
 ·have:=Gf hts hi (ws:=[[110,111,116]]) (by decide) h
  exact (Q3 hts this (by decide)).bind fun t j h=>.ok ⟨by omega,h.2.2⟩
 ·exact (Q3 hts hi (by decide)).bind fun t j h=>.ok ⟨by omega,h.2.2⟩
end
def O6 (s:List UInt8) (ts:List Tk):Prop:=∀ i,i < ts.length → stB s (tk ts i).text (tk ts i).pos=true
def My (s:List UInt8) (e:PE):Prop:=stB s (Ww e) (oL e)=true
theorem vX {s w:List UInt8} {a:Nat} (h:stB s w a=true):stB s [] a=true:=by
 unfold stB at h ⊢
 rw [Bool.and_eq_true] at h
 have:=h.1
 simp at this ⊢; omega
section
variable {ts:List Tk} (hts:TokOk ts) {s:List UInt8} (hat:O6 s ts)
include hts hat
theorem num_s {i:Nat} (hi:i < ts.length):Sat (fun e j=>i < j ∧ j < ts.length ∧ AllP (My s) e) (Kg ts i):=by
 have h0:ts[i]? = some (tk ts i):=by rw [Km hi]; exact List.getElem?_eq_getElem hi
 have hg:=vX (hat i hi)
 unfold Kg
 rw [h0]
 simp only
 refine .ite (fun h=>?_) (fun _=>?_)
 ·have h1:i + 1 < ts.length:=Gf hts hi (ws:=[[45]]) (by decide) (by rw [h]; simp)
  have h2:ts[i + 1]? = some (tk ts (i + 1)):=by rw [Km h1]; exact List.getElem?_eq_getElem h1
  rw [h2]
  simp only
  refine .ite (fun h3=>?_) (fun _=>.bad)
  exact .ok ⟨by omega,hts.more _ h1 (by rw [← Km h1,h3]; decide),.mk _ _ _ _ _ _ hg (fun _ h=>by cases h)⟩
 ·refine .ite (fun h3=>?_) (fun _=>.bad)
  refine .ite (fun _=>.bad) (fun _=>?_)
  exact .ok ⟨by omega,hts.more _ hi (by rw [← Km hi,h3]; decide),.mk _ _ _ _ _ _ hg (fun _ h=>by cases h)⟩
omit hts hat in
theorem pT {pos:Nat} {w:List UInt8} {x y:PE} (h:stB s w pos=true) (hx:AllP (My s) x) (hy:AllP (My s) y):AllP (My s) (.mk 6 pos 0 w false [x,y]):=by
 refine .mk _ _ _ _ _ _ ?_ (fun e he=>?_)
 ·show stB s (Jh (Nb w) _) _=true
  simpa [Nb,Jh,kindOf,oL] using h
 ·simp at he; rcases he with rfl | rfl
  ·exact hx
  ·exact hy
omit hts hat in
theorem Mm {k pos:Nat} {name w:List UInt8} {n:Int} {off:Bool} {kids:List PE} (hk:Jh (Nb name) (k:Int)=w) (h:stB s w pos=true) (hkids:∀ e ∈ kids,AllP (My s) e):AllP (My s) (.mk k pos n name off kids):=by
 refine .mk _ _ _ _ _ _ ?_ hkids
 show stB s (Jh (Nb name) (k:Int)) pos=true
 rw [hk]; exact h
theorem nQ {lo:Nat} {ws:List (List UInt8)} (hw:[] ∉ ws) {kid:Nat → PR PE} (hk:∀ i,lo ≤ i → i < ts.length → Sat (fun e j=>i < j ∧ j < ts.length ∧ AllP (My s) e) (kid i)):∀ (n:Nat) (x:PE) (i:Nat),lo ≤ i → i < ts.length → AllP (My s) x → ts.length - i < n → Sat (fun e j=>i ≤ j ∧ j < ts.length ∧ AllP (My s) e) (Jd ts ws kid n x i)
 | 0,x,i,h1,h2,h3,h4=>absurd h4 (Nat.not_lt_zero _)
 | n + 1,x,i,h1,h2,h3,h4=>by
  unfold Jd
  refine .ite (fun h=>?_) (fun _=>.ok ⟨Nat.le_refl _,h2,h3⟩)
  have h5:=Gf hts h2 hw h
  refine (hk (i + 1) (by omega) h5).bind fun y j ⟨a,b,c⟩=>?_
  exact (nQ hw hk n _ j (by omega) b (pT (hat i h2) h3 c) (by omega)).mono fun e m ⟨a2,b2,c2⟩=>⟨by omega,b2,c2⟩
theorem when_s:∀ (n:Nat) (x:PE) (i:Nat),i < ts.length → AllP (My s) x → ts.length - i < n → Sat (fun e j=>i ≤ j ∧ j < ts.length ∧ AllP (My s) e) (Jf ts n x i)
 | 0,x,i,h2,h3,h4=>absurd h4 (Nat.not_lt_zero _)
 | n + 1,x,i,h2,h3,h4=>by
  unfold Jf
  refine .ite (fun h=>?_) (fun _=>.ok ⟨Nat.le_refl _,h2,h3⟩)
  have h5:=Gf hts h2 (ws:=[[119,104,101,110]]) (by decide) h
  have hg:=hat i h2
  rw [show (tk ts i).text=[119,104,101,110] by simpa using h] at hg
  refine (yZ hts h5).bind fun c j ⟨a,b⟩=>?_
  exact (when_s n _ j b (Mm (by simp [Nb,Jh]) hg (fun e he=>by simp at he; subst he; exact h3)) (by omega)).mono fun e m ⟨a2,b2,c2⟩=>⟨by omega,b2,c2⟩
omit hat in
theorem sK {lo:Nat} {kid:Nat → PR PE} (hk:∀ i,lo ≤ i → i < ts.length → Sat (fun e j=>i < j ∧ j < ts.length ∧ AllP (My s) e) (kid i)):∀ (n:Nat) (l:List PE) (i:Nat),lo ≤ i → i < ts.length → (∀ e ∈ l,AllP (My s) e) → ts.length - i < n → Sat (fun l j=>i < j ∧ j < ts.length ∧ ∀ e ∈ l,AllP (My s) e) (Gs ts kid n l i)
 | 0,l,i,h1,h2,h3,h4=>absurd h4 (Nat.not_lt_zero _)
 | n + 1,l,i,h1,h2,h3,h4=>by
  unfold Gs
  refine .ite (fun h=>?_) (fun _=>?_)
  ·have h5:=Gf hts h2 (ws:=[[44]]) (by decide) h
   refine (hk (i + 1) (by omega) h5).bind fun y j ⟨a,b,c⟩=>?_
   exact (sK hk n _ j (by omega) b (fun e he=>(List.mem_append.1 he).elim (fun he=>h3 e he) (fun he=>by simp at he; subst he; exact c)) (by omega)).mono fun e m ⟨a2,b2,c2⟩=>⟨by omega,b2,c2⟩
  ·exact (Ia hts h2 (ws:=[[41]]) (by decide)).bind fun _ j ⟨_,a,b,_⟩=>.ok ⟨by omega,b,h3⟩
omit hat in
theorem list_s {i:Nat} {kid:Nat → PR PE} (hk:∀ i',i < i' → i' < ts.length → Sat (fun e j=>i' < j ∧ j < ts.length ∧ AllP (My s) e) (kid i')) (n:Nat) (hi:i < ts.length) (hn:ts.length - i ≤ n):Sat (fun l j=>i < j ∧ j < ts.length ∧ ∀ e ∈ l,AllP (My s) e) (I5 ts kid n i):=by
 unfold I5
 refine (Ia hts hi (ws:=[[40]]) (by decide)).bind fun _ j ⟨_,a,b,_⟩=>?_
 refine .ite (fun h=>?_) (fun _=>?_)
 ·exact .ok ⟨by omega,Gf hts b (ws:=[[41]]) (by decide) h,fun e he=>by cases he⟩
 ·refine (hk j (by omega) b).bind fun x m ⟨a1,b1,c1⟩=>?_
  exact (sK hts (lo:=i + 1) (fun i' h1 h2=>hk i' (by omega) h2) n [x] m (by omega) b1 (fun e he=>by simp at he; subst he; exact c1) (by omega)).mono fun e m ⟨a2,b2,c2⟩=>⟨by omega,b2,c2⟩
omit hts in
theorem vU {i:Nat} (hi:i < ts.length):AllP (My s) (I2 (tk ts i)):=Mm rfl (vX (hat i hi)) (fun e he=>by cases he)
omit hts hat in
def Ie:NT → Nat
 | .expr=>12 | .arrow=>11 | .or=>10 | .and=>9 | .not=>8 | .sum=>7 | .term=>6 | .unary=>5 | .when=>4 | .primary=>3 | .name=>2 | .brk=>2 | .call=>1 | .lit=>0
set_option maxHeartbeats 4000000 in
theorem P_s:∀ (n:Nat) (nt:NT) (i:Nat),i < ts.length → 16 * (ts.length - i) + Ie nt < n → Sat (fun e j=>i < j ∧ j < ts.length ∧ AllP (My s) e) (P ts n nt i)
 | 0,nt,i,hi,hn=>absurd hn (Nat.not_lt_zero _)
 | n + 1,nt,i,hi,hn=>by
  have ih:=fun (nt:NT) (i':Nat) (h1:i' < ts.length) (h2:16 * (ts.length - i') + Ie nt < n)=>P_s n nt i' h1 h2
  have later:∀ (nt:NT) (i':Nat),i < i' → i' < ts.length → Sat (fun e j=>i' < j ∧ j < ts.length ∧ AllP (My s) e) (P ts n nt i'):=fun nt i' h1 h2=>ih nt i' h2 (by cases nt <;> simp only [Ie] <;> omega)
  have two:∀ {x y:PE},AllP (My s) x → AllP (My s) y → ∀ e ∈ [x,y],AllP (My s) e:=fun hx hy e he=>by
   simp at he; rcases he with rfl | rfl
   ·exact hx
   ·exact hy
  have one:∀ {x:PE},AllP (My s) x → ∀ e ∈ [x],AllP (My s) e:=fun hx e he=>by simp at he; subst he; exact hx
  cases nt with
  | expr =>
   simp only [Ie] at hn
   show Sat _ (if _ then _ else _)
   refine .ite (fun h=>?_) (fun _=>ih .arrow i hi (by simp only [Ie]; omega))
   have h5:=Gf hts hi (ws:=[[105,102]]) (by decide) h
   have hg:=hat i hi
   rw [show (tk ts i).text=[105,102] by simpa using h] at hg
   refine (later .expr (i + 1) (by omega) h5).bind fun c j ⟨a1,b1,c1⟩=>?_
   refine (Ia hts b1 (by decide)).bind fun _ j2 ⟨_,a2,b2,_⟩=>?_
   refine (later .expr j2 (by omega) b2).bind fun y j3 ⟨a3,b3,c3⟩=>?_
   refine (Ia hts b3 (by decide)).bind fun _ j4 ⟨_,a4,b4,_⟩=>?_
   refine (later .expr j4 (by omega) b4).bind fun z j5 ⟨a5,b5,c5⟩=>?_
   refine .ok ⟨by omega,b5,Mm (by simp [Nb,Jh]) hg (fun e he=>?_)⟩
   simp at he; rcases he with rfl | rfl | rfl
   ·exact c1
   ·exact c3
   ·exact c5
  | arrow =>
   simp only [Ie] at hn
   show Sat _ (PR.bind _ _)
   refine (ih .or i hi (by simp only [Ie]; omega)).bind fun x j ⟨a1,b1,c1⟩=>?_
   refine .ite (fun h=>?_) (fun _=>.ite (fun _=>.ok ⟨a1,b1,c1⟩) (fun _=>.ite (fun h=>?_) (fun _=>.ok ⟨a1,b1,c1⟩)))
   ·have h5:=Gf hts b1 (ws:=[[45,62]]) (by decide) h
    have hg:=hat j b1
    rw [show (tk ts j).text=[45,62] by simpa using h] at hg
    refine (later .arrow (j + 1) (by omega) h5).bind fun y m ⟨a2,b2,c2⟩=>.ok ⟨by omega,b2,Mm (by simp [Nb,Jh]) hg (two c1 c2)⟩
   ·have h5:=Gf hts b1 (ws:=[[102,98,121]]) (by decide) h
    have hg:=hat j b1
    rw [show (tk ts j).text=[102,98,121] by simpa using h] at hg
    refine (later .arrow (j + 1) (by omega) h5).bind fun y m ⟨a2,b2,c2⟩=>.ok ⟨by omega,b2,Mm (by simp [Nb,Jh]) hg (two c1 c2)⟩
  | or =>
   simp only [Ie] at hn
   show Sat _ (PR.bind _ _)
   refine (ih .and i hi (by simp only [Ie]; omega)).bind fun x j ⟨a1,b1,c1⟩=>?_
   exact (nQ hts hat (lo:=i + 1) (by decide) (fun i' h1 h2=>later .and i' (by omega) h2) n x j (by omega) b1 c1 (by omega)).mono fun e m ⟨a2,b2,c2⟩=>⟨by omega,b2,c2⟩
  | and =>
   simp only [Ie] at hn
   show Sat _ (PR.bind _ _)
   refine (ih .not i hi (by simp only [Ie]; omega)).bind fun x j ⟨a1,b1,c1⟩=>?_
   exact (nQ hts hat (lo:=i + 1) (by decide) (fun i' h1 h2=>later .not i' (by omega) h2) n x j (by omega) b1 c1 (by omega)).mono fun e m ⟨a2,b2,c2⟩=>⟨by omega,b2,c2⟩
  | not =>
   simp only [Ie] at hn
   show Sat _ (if _ then _ else _)
   refine .ite (fun h=>?_) (fun _=>?_)
   ·have h5:=Gf hts hi (ws:=[[110,111,116]]) (by decide) h
    have hg:=hat i hi
    rw [show (tk ts i).text=[110,111,116] by simpa using h] at hg
    exact (later .not (i + 1) (by omega) h5).bind fun x j ⟨a,b,c⟩=>.ok ⟨by omega,b,Mm (by simp [Nb,Jh]) hg (one c)⟩
   ·refine (ih .sum i hi (by simp only [Ie]; omega)).bind fun x j ⟨a1,b1,c1⟩=>?_
    refine .ite (fun h=>?_) (fun _=>.ok ⟨a1,b1,c1⟩)
    have h5:=Gf hts b1 (ws:=[[61],[60,62],[60],[60,61],[62],[62,61]]) (by decide) h
    exact (later .sum (j + 1) (by omega) h5).bind fun y m ⟨a2,b2,c2⟩=>.ok ⟨by omega,b2,pT (hat j b1) c1 c2⟩
  | sum =>
   simp only [Ie] at hn
   show Sat _ (PR.bind _ _)
   refine (ih .term i hi (by simp only [Ie]; omega)).bind fun x j ⟨a1,b1,c1⟩=>?_
   exact (nQ hts hat (lo:=i + 1) (by decide) (fun i' h1 h2=>later .term i' (by omega) h2) n x j (by omega) b1 c1 (by omega)).mono fun e m ⟨a2,b2,c2⟩=>⟨by omega,b2,c2⟩
  | term =>
   simp only [Ie] at hn
   show Sat _ (PR.bind _ _)
   refine (ih .unary i hi (by simp only [Ie]; omega)).bind fun x j ⟨a1,b1,c1⟩=>?_
   exact (nQ hts hat (lo:=i + 1) (by decide) (fun i' h1 h2=>later .unary i' (by omega) h2) n x j (by omega) b1 c1 (by omega)).mono fun e m ⟨a2,b2,c2⟩=>⟨by omega,b2,c2⟩
  | unary =>
   simp only [Ie] at hn
   show Sat _ (if _ then _ else _)
   refine .ite (fun h=>?_) (fun _=>.ite (fun _=>num_s hts hat hi) (fun _=>.ite (fun h=>?_) (fun _=>ih .when i hi (by simp only [Ie]; omega))))
   ·have h5:=Gf hts hi (ws:=[[112,114,101]]) (by decide) h
    have hg:=hat i hi
    rw [show (tk ts i).text=[112,114,101] by simpa using h] at hg
    exact (later .unary (i + 1) (by omega) h5).bind fun x j ⟨a,b,c⟩=>.ok ⟨by omega,b,Mm (by simp [Nb,Jh]) hg (one c)⟩
   ·have h5:=Gf hts hi (ws:=[[45]]) (by decide) h
    have hg:=hat i hi
    rw [show (tk ts i).text=[45] by simpa using h] at hg
    exact (later .unary (i + 1) (by omega) h5).bind fun x j ⟨a,b,c⟩=>.ok ⟨by omega,b,Mm (by simp [Nb,Jh]) hg (one c)⟩
  | when =>
   simp only [Ie] at hn
   show Sat _ (PR.bind _ _)
   refine (ih .primary i hi (by simp only [Ie]; omega)).bind fun x j ⟨a1,b1,c1⟩=>?_
   exact (when_s hts hat n x j b1 c1 (by omega)).mono fun e m ⟨a2,b2,c2⟩=>⟨by omega,b2,c2⟩
  | primary =>
   simp only [Ie] at hn
   show Sat _ (if _ then _ else _)
   refine .ite (fun _=>num_s hts hat hi) (fun _=>.ite (fun _=>ih .name i hi (by simp only [Ie]; omega)) (fun _=>.ite (fun h=>?_) (fun _=>.ite (fun h=>?_) (fun _=>.ite (fun h=>?_) (fun _=>ih .brk i hi (by simp only [Ie]; omega))))))
   ·exact .ok ⟨by omega,Gf hts hi (ws:=[[116,114,117,101],[102,97,108,115,101]]) (by decide) (by simpa using h),vU hat hi⟩
   ·have h5:=Gf hts hi (ws:=[[109,101,114,103,101]]) (by decide) (by simpa using h)
    have hg:=hat i hi
    rw [h] at hg
    refine (Q3 hts h5 (by decide)).bind fun t j ⟨_,a1,b1⟩=>?_
    refine (later .brk j (by omega) b1).bind fun x j2 ⟨a2,b2,c2⟩=>?_
    refine (later .brk j2 (by omega) b2).bind fun y j3 ⟨a3,b3,c3⟩=>?_
    exact .ok ⟨by omega,b3,Mm (by simp [Nb,Jh]) hg (two c2 c3)⟩
   ·have h5:=Gf hts hi (ws:=[[97,119,97,105,116]]) (by decide) (by simpa using h)
    have hg:=hat i hi
    rw [h] at hg
    refine (Q3 hts h5 (by decide)).bind fun t j ⟨_,a1,b1⟩=>?_
    refine .ite (fun h=>?_) (fun _=>.ok ⟨by omega,b1,Mm (by simp [Nb,Jh]) hg (fun e he=>by cases he)⟩)
    have h6:=Gf hts b1 (ws:=[[97,102,116,101,114]]) (by decide) h
    refine (Ia hts h6 (by decide)).bind fun _ j2 ⟨_,a2,b2,_⟩=>?_
    refine (later .lit j2 (by omega) b2).bind fun x m ⟨a3,b3,c3⟩=>?_
    refine (sK hts (lo:=i + 1) (fun i' h1 h2=>later .lit i' (by omega) h2) n [x] m (by omega) b3 (one c3) (by omega)).bind fun l m2 ⟨a4,b4,c4⟩=>?_
    exact .ok ⟨by omega,b4,Mm (by simp [Nb,Jh]) hg c4⟩
  | name =>
   simp only [Ie] at hn
   show Sat _ (if _ then _ else _)
   refine .ite (fun _=>ih .call i hi (by simp only [Ie]; omega)) (fun _=>?_)
   refine (Q3 hts hi (by decide)).bind fun t j ⟨h1,a1,b1⟩=>.ok ⟨by omega,b1,Mm (w:=t.text) (by simp [Nb,Jh]) (by rw [h1]; exact hat i hi) (fun e he=>by cases he)⟩
  | call =>
   simp only [Ie] at hn
   show Sat _ (PR.bind _ _)
   refine (Q3 hts hi (by decide)).bind fun t j ⟨h1,a1,b1⟩=>?_
   refine (list_s hts (fun i' h1 h2=>later .expr i' (by omega) h2) n b1 (by omega)).bind fun l m ⟨a2,b2,c2⟩=>?_
   exact .ok ⟨by omega,b2,Mm (w:=t.text) (by simp [Nb,Jh]) (by rw [h1]; exact hat i hi) c2⟩
  | brk =>
   simp only [Ie] at hn
   show Sat _ (PR.bind _ _)
   refine (Ia hts hi (by decide)).bind fun _ j ⟨_,a1,b1,_⟩=>?_
   refine (later .expr j (by omega) b1).bind fun x j2 ⟨a2,b2,c2⟩=>?_
   exact (Ia hts b2 (by decide)).bind fun _ j3 ⟨_,a3,b3,_⟩=>.ok ⟨by omega,b3,c2⟩
  | lit =>
   simp only [Ie] at hn
   show Sat _ (if _ then _ else _)
   refine .ite (fun h=>?_) (fun _=>num_s hts hat hi)
   exact .ok ⟨by omega,Gf hts hi (ws:=[[116,114,117,101],[102,97,108,115,101]]) (by decide) h,vU hat hi⟩
end
end Go.Ax
noncomputable section
namespace Go.Ax
open Go.RowKit Go.Proofs
set_option maxRecDepth 100000
def jO (s:List UInt8) (d:PD):Prop:=stB s d.name d.pos=true
def zL (s:List UInt8) (x:List UInt8 × Nat):Prop:=stB s x.1 x.2=true
def zK (s:List UInt8) (L:Nat) (q:PQ):Prop:=(∀ x ∈ q.left,zL s x) ∧ AllP (fun e=>Wide e ∧ My s e) q.e ∧ q.left.length ≤ L
def jN (s:List UInt8) (L:Nat) (n:PN):Prop:=stB s n.name n.pos=true ∧ (∀ d ∈ n.ins ++ n.outs ++ n.vars,jO s d) ∧ (∀ q ∈ n.eqs,zK s L q) ∧ n.ins.length + n.outs.length + n.vars.length ≤ L ∧ n.eqs.length ≤ L
theorem wide_all {B:PE → Prop}:∀ {e:PE},AllP B e → Wide e → AllP (fun e=>Wide e ∧ B e) e:=fun {e} h=>by
 induction h with
 | mk kind pos n name off kids hb hk ih =>
  intro hw
  have hw2:=hw
  cases hw with
  | mk _ _ _ _ _ _ hl hkw=>exact .mk _ _ _ _ _ _ ⟨hw2,hb⟩ (fun e he=>ih e he (hkw e he))
section
variable {ts:List Tk} (hts:TokOk ts) {s:List UInt8} (hat:O6 s ts)
include hts
theorem uZ (hat:O6 s ts) {i:Nat} (hi:i < ts.length):Sat (fun d j=>i < j ∧ j < ts.length ∧ jO s d) (He ts i):=by
 unfold He
 refine (Q3 hts hi (by decide)).bind fun t j ⟨h1,a1,b1⟩=>?_
 have hg:stB s t.text t.pos=true:=by rw [h1]; exact hat i hi
 refine (Ia hts b1 (by decide)).bind fun _ j2 ⟨_,a2,b2,_⟩=>?_
 refine .ite (fun h=>?_) (fun _=>?_)
 ·have h5:=Gf hts b2 (ws:=[[102,117,116,117,114,101]]) (by decide) h
  exact (Ia hts h5 (by decide)).bind fun u m ⟨_,a3,b3,_⟩=>.ok ⟨by omega,b3,hg⟩
 ·exact (Ia hts b2 (by decide)).bind fun u m ⟨_,a3,b3,_⟩=>.ok ⟨by omega,b3,hg⟩
theorem iS (hat:O6 s ts) {i:Nat} (hi:i < ts.length):Sat (fun d j=>i < j ∧ j < ts.length ∧ jO s d) (Fi ts i):=by
 unfold Fi
 refine (uZ hts hat hi).bind fun d j ⟨a1,b1,c1⟩=>?_
 refine .ite (fun h=>?_) (fun _=>?_)
 ·have h5:=Gf hts b1 (ws:=[[119,104,101,110]]) (by decide) h
  refine (yZ hts h5).bind fun c j2 ⟨a2,b2⟩=>?_
  exact (Ia hts b2 (by decide)).bind fun u m ⟨_,a3,b3,_⟩=>.ok ⟨by omega,b3,c1⟩
 ·exact (Ia hts b1 (by decide)).bind fun u m ⟨_,a3,b3,_⟩=>.ok ⟨by omega,b3,c1⟩
theorem lE (hat:O6 s ts) {i:Nat} (hi:i < ts.length):Sat (fun d j=>i < j ∧ j < ts.length ∧ zL s d) (G1 ts i):=by
 unfold G1
 refine (Q3 hts hi (by decide)).bind fun t j ⟨h1,a1,b1⟩=>.ok ⟨by omega,b1,?_⟩
 show stB s t.text t.pos=true
 rw [h1]; exact hat i hi
theorem kL {α:Type} {G:α → Prop} {kid:Nat → PR α} (hk:∀ i,i < ts.length → Sat (fun e j=>i < j ∧ j < ts.length ∧ G e) (kid i)):∀ (n:Nat) (l:List α) (i:Nat),i < ts.length → (∀ e ∈ l,G e) → ts.length - i < n → Sat (fun r j=>i < j ∧ j < ts.length ∧ (∀ e ∈ r,G e) ∧ r.length + i ≤ l.length + j) (Gb ts kid n l i)
 | 0,l,i,h2,h3,h4=>absurd h4 (Nat.not_lt_zero _)
 | n + 1,l,i,h2,h3,h4=>by
  unfold Gb
  refine .ite (fun h=>?_) (fun _=>?_)
  ·have h5:=Gf hts h2 (ws:=[[44]]) (by decide) h
   refine (hk (i + 1) h5).bind fun y j ⟨a,b,c⟩=>?_
   exact (kL hk n _ j b (fun e he=>(List.mem_append.1 he).elim (fun he=>h3 e he) (fun he=>by simp at he; subst he; exact c)) (by omega)).mono fun e m ⟨a2,b2,c2,d2⟩=>⟨by omega,b2,c2,by simp at d2; omega⟩
  ·exact (Ia hts h2 (ws:=[[41]]) (by decide)).bind fun _ j ⟨_,a,b,_⟩=>.ok ⟨by omega,b,h3,by omega⟩
theorem xL {α:Type} {G:α → Prop} {kid:Nat → PR α} (hk:∀ i,i < ts.length → Sat (fun e j=>i < j ∧ j < ts.length ∧ G e) (kid i)) (n:Nat) {i:Nat} (hi:i < ts.length) (hn:ts.length ≤ n):Sat (fun r j=>i < j ∧ j < ts.length ∧ (∀ e ∈ r,G e) ∧ r.length + i ≤ j) (Iw ts kid n i):=by
 unfold Iw
 refine (Ia hts hi (ws:=[[40]]) (by decide)).bind fun _ j ⟨_,a,b,_⟩=>?_
 refine .ite (fun h=>?_) (fun _=>?_)
 ·exact .ok ⟨by omega,Gf hts b (ws:=[[41]]) (by decide) h,(fun e he=>by cases he),by simp; omega⟩
 ·refine (hk j b).bind fun x m ⟨a1,b1,c1⟩=>?_
  exact (kL hts hk n [x] m b1 (fun e he=>by simp at he; subst he; exact c1) (by omega)).mono fun e m ⟨a2,b2,c2,d2⟩=>⟨by omega,b2,c2,by simp at d2; omega⟩
theorem vars_s (hat:O6 s ts):∀ (n:Nat) (l:List PD) (i:Nat),i < ts.length → (∀ e ∈ l,jO s e) → ts.length - i < n → Sat (fun r j=>i ≤ j ∧ j < ts.length ∧ (∀ e ∈ r,jO s e) ∧ r.length + i ≤ l.length + j) (Iu ts n l i)
 | 0,l,i,h2,h3,h4=>absurd h4 (Nat.not_lt_zero _)
 | n + 1,l,i,h2,h3,h4=>by
  unfold Iu
  refine .ite (fun h=>?_) (fun _=>.ok ⟨Nat.le_refl _,h2,h3,Nat.le_refl _⟩)
  refine (iS hts hat h2).bind fun y j ⟨a,b,c⟩=>?_
  exact (vars_s hat n _ j b (fun e he=>(List.mem_append.1 he).elim (fun he=>h3 e he) (fun he=>by simp at he; subst he; exact c)) (by omega)).mono fun e m ⟨a2,b2,c2,d2⟩=>⟨by omega,b2,c2,by simp at d2; omega⟩
theorem lefts_s (hat:O6 s ts) (n:Nat) {i:Nat} (hi:i < ts.length) (hn:ts.length ≤ n):Sat (fun r j=>i < j ∧ j < ts.length ∧ (∀ e ∈ r,zL s e) ∧ r.length + i ≤ j) (Ib ts n i):=by
 unfold Ib
 refine .ite (fun _=>?_) (fun _=>?_)
 ·exact (lE hts hat hi).bind fun x j ⟨a,b,c⟩=>.ok ⟨a,b,(fun e he=>by simp at he; subst he; exact c),by simp; omega⟩
 ·refine (Ia hts hi (by decide)).bind fun _ j ⟨_,a1,b1,_⟩=>?_
  refine (lE hts hat b1).bind fun x j2 ⟨a2,b2,c2⟩=>?_
  refine (Ia hts b2 (by decide)).bind fun _ j3 ⟨_,a3,b3,_⟩=>?_
  refine Sat.bind (Q:=fun l m=>j3 < m ∧ m < ts.length ∧ (∀ e ∈ l,zL s e) ∧ l.length + j3 ≤ m) ?_ (fun l m ⟨a4,b4,c4,d4⟩=>.ok ⟨by omega,b4,fun e he=>?_,by simp; omega⟩)
  ·refine (lE hts hat b3).bind fun y m ⟨a5,b5,c5⟩=>?_
   exact (kL hts (fun i h=>lE hts hat h) n [y] m b5 (fun e he=>by simp at he; subst he; exact c5) (by omega)).mono fun e m ⟨a2,b2,c2,d2⟩=>⟨by omega,b2,c2,by simp at d2; omega⟩
  ·rcases List.mem_cons.1 he with rfl | he
   ·exact c2
   ·exact c4 e he
theorem fL (hat:O6 s ts) (n:Nat) (hn:16 * ts.length + 16 ≤ n) (hN:n ≤ 1000000) (nt:NT) {i:Nat} (hi:i < ts.length):Sat (fun e j=>i < j ∧ j < ts.length ∧ AllP (fun e=>Wide e ∧ My s e) e) (F2 (P ts n nt) i):=by
 unfold F2
 have h:=P_s hts hat n nt i hi (by cases nt <;> simp only [Ie] <;> omega)
 have h2:Sat (fun e j=>i < j ∧ j < ts.length ∧ AllP (fun e=>Wide e ∧ My s e) e) (P ts n nt i):=⟨h.1,fun e j he=>⟨(h.2 e j he).1,(h.2 e j he).2.1,wide_all (h.2 e j he).2.2 (dT n hN nt _ _ _ he)⟩⟩
 refine h2.bind fun e j h=>?_
 exact .ite (fun _=>.bad) (fun _=>.ok h)
theorem eq_s (hat:O6 s ts) (n:Nat) (hn:16 * ts.length + 16 ≤ n) (hN:n ≤ 1000000) {i:Nat} (hi:i < ts.length):Sat (fun q j=>i < j ∧ j < ts.length ∧ zK s ts.length q) (eqP ts n i):=by
 unfold eqP
 refine (lefts_s hts hat n hi (by omega)).bind fun ls j ⟨a1,b1,c1,d1⟩=>?_
 refine (Ia hts b1 (by decide)).bind fun _ j2 ⟨_,a2,b2,_⟩=>?_
 refine .ite (fun h=>?_) (fun _=>?_)
 ·have h5:=Gf hts b2 (ws:=[[97,115,121,110,99]]) (by decide) h
  refine (fL hts hat n hn hN .call h5).bind fun e m ⟨a3,b3,c3⟩=>?_
  exact (Ia hts b3 (by decide)).bind fun _ m2 ⟨_,a4,b4,_⟩=>.ok ⟨by omega,b4,c1,c3,by show ls.length ≤ _; omega⟩
 ·refine (fL hts hat n hn hN .expr b2).bind fun e m ⟨a3,b3,c3⟩=>?_
  exact (Ia hts b3 (by decide)).bind fun _ m2 ⟨_,a4,b4,_⟩=>.ok ⟨by omega,b4,c1,c3,by show ls.length ≤ _; omega⟩
theorem eqs_s (hat:O6 s ts) (N:Nat) (hN:16 * ts.length + 16 ≤ N) (hN2:N ≤ 1000000):∀ (n:Nat) (l:List PQ) (i:Nat),i < ts.length → (∀ e ∈ l,zK s ts.length e) → ts.length - i < n → Sat (fun r j=>i ≤ j ∧ j < ts.length ∧ (∀ e ∈ r,zK s ts.length e) ∧ r.length + i ≤ l.length + j) (Ny ts N n l i)
 | 0,l,i,h2,h3,h4=>absurd h4 (Nat.not_lt_zero _)
 | n + 1,l,i,h2,h3,h4=>by
  unfold Ny
  refine .ite (fun _=>.ok ⟨Nat.le_refl _,h2,h3,Nat.le_refl _⟩) (fun _=>?_)
  refine (eq_s hts hat N hN hN2 h2).bind fun y j ⟨a,b,c⟩=>?_
  exact (eqs_s hat N hN hN2 n _ j b (fun e he=>(List.mem_append.1 he).elim (fun he=>h3 e he) (fun he=>by simp at he; subst he; exact c)) (by omega)).mono fun e m ⟨a2,b2,c2,d2⟩=>⟨by omega,b2,c2,by simp at d2; omega⟩
theorem varsQ_s (hat:O6 s ts) (n:Nat) {i:Nat} (hi:i < ts.length) (hn:ts.length ≤ n):Sat (fun r j=>i ≤ j ∧ j < ts.length ∧ (∀ e ∈ r,jO s e) ∧ r.length + i ≤ j) (Lo ts n i):=by
 unfold Lo
 refine .ite (fun h=>?_) (fun _=>.ok ⟨Nat.le_refl _,hi,(fun e he=>by cases he),by simp⟩)
 have h5:=Gf hts hi (ws:=[[118,97,114]]) (by decide) h
 refine (iS hts hat h5).bind fun x m ⟨a,b,c⟩=>?_
 exact (vars_s hts hat n [x] m b (fun e he=>by simp at he; subst he; exact c) (by omega)).mono fun e m ⟨a2,b2,c2,d2⟩=>⟨by omega,b2,c2,by simp at d2; omega⟩
theorem node_s (hat:O6 s ts) (n:Nat) (hn:16 * ts.length + 16 ≤ n) (hN:n ≤ 1000000) {i:Nat} (hi:i < ts.length):Sat (fun q j=>i < j ∧ j < ts.length ∧ jN s ts.length q) (Jg ts n i):=by
 unfold Jg
 refine (Ia hts hi (by decide)).bind fun _ j ⟨_,a1,b1,_⟩=>?_
 refine (Q3 hts b1 (by decide)).bind fun t j2 ⟨h2,a2,b2⟩=>?_
 have hg:stB s t.text t.pos=true:=by rw [h2]; exact hat j b1
 refine (xL hts (fun i h=>uZ hts hat h) n b2 (by omega)).bind fun ins j3 ⟨a3,b3,c3,d3⟩=>?_
 refine (Ia hts b3 (by decide)).bind fun _ j4 ⟨_,a4,b4,_⟩=>?_
 refine (xL hts (fun i h=>uZ hts hat h) n b4 (by omega)).bind fun outs j5 ⟨a5,b5,c5,d5⟩=>?_
 refine (varsQ_s hts hat n b5 (by omega)).bind fun vars j6 ⟨a6,b6,c6,d6⟩=>?_
 refine (Ia hts b6 (by decide)).bind fun _ j7 ⟨_,a7,b7,_⟩=>?_
 refine (eqs_s hts hat n hn hN n [] j7 b7 (fun e he=>by cases he) (by omega)).bind fun qs j8 ⟨a8,b8,c8,d8⟩=>?_
 refine (Ia hts b8 (by decide)).bind fun _ j9 ⟨_,a9,b9,_⟩=>.ok ⟨by omega,b9,hg,fun d hd=>?_,c8,(by show ins.length + outs.length + vars.length ≤ _; omega),(by show qs.length ≤ _; simp at d8; omega)⟩
 rcases List.mem_append.1 hd with hd | hd
 ·rcases List.mem_append.1 hd with hd | hd
  ·exact c3 d hd
  ·exact c5 d hd
 ·exact c6 d hd
theorem prog_s (hat:O6 s ts) (N:Nat) (hN:16 * ts.length + 16 ≤ N) (hN2:N ≤ 1000000):∀ (n:Nat) (l:List PN) (i:Nat),i < ts.length → (∀ e ∈ l,jN s ts.length e) → ts.length - i < n → Sat (fun r j=>i ≤ j ∧ j < ts.length ∧ (∀ e ∈ r,jN s ts.length e) ∧ r.length + i ≤ l.length + j) (Jt ts N n l i)
 | 0,l,i,h2,h3,h4=>absurd h4 (Nat.not_lt_zero _)
 | n + 1,l,i,h2,h3,h4=>by
  unfold Jt
  refine .ite (fun _=>?_) (fun _=>.ok ⟨Nat.le_refl _,h2,h3,Nat.le_refl _⟩)
  refine (node_s hts hat N hN hN2 h2).bind fun y j ⟨a,b,c⟩=>?_
  exact (prog_s hat N hN hN2 n _ j b (fun e he=>(List.mem_append.1 he).elim (fun he=>h3 e he) (fun he=>by simp at he; subst he; exact c)) (by omega)).mono fun e m ⟨a2,b2,c2,d2⟩=>⟨by omega,b2,c2,by simp at d2; omega⟩
theorem W7 (hat:O6 s ts) (n:Nat) (hn:16 * ts.length + 16 ≤ n) (hN:n ≤ 1000000) (h0:0 < ts.length):Sat (fun l j=>j < ts.length ∧ (∀ e ∈ l,jN s ts.length e) ∧ l.length ≤ ts.length) (Eh ts n 0):=by
 unfold Eh
 refine (node_s hts hat n hn hN h0).bind fun x j ⟨a,b,c⟩=>?_
 exact (prog_s hts hat n hn hN n [x] j b (fun e he=>by simp at he; subst he; exact c) (by omega)).mono fun e m ⟨a2,b2,c2,d2⟩=>⟨b2,c2,by simp at d2; omega⟩
end
end Go.Ax
noncomputable section
namespace Go.Ax
open Go.RowKit Go.Proofs
set_option maxRecDepth 100000
theorem Pj (l:List UInt8) (k:Nat):l.take (l.take k).length=l.take k:=by
 rw [List.length_take]
 by_cases h:k ≤ l.length
 ·rw [Nat.min_eq_left h]
 ·rw [Nat.min_eq_right (by omega),List.take_of_length_le (Nat.le_refl _),List.take_of_length_le (by omega)]
theorem next_text {l:List UInt8} {i:Nat} {t:Tk} (h:Hf l i=some (t,0)):t.pos=i ∧ l.take t.text.length=t.text:=by
 unfold Hf at h
 split at h
 ·cases h
 ·rename_i b r
  split at h
  ·injection h with h
   unfold Ln at h
   split at h
   ·injection h with h1 h2; subst h1; exact ⟨rfl,Pj _ _⟩
   ·split at h
    ·injection h with h1 h2; cases h2
    ·injection h with h1 h2; subst h1; exact ⟨rfl,Pj _ _⟩
  ·split at h
   ·unfold Ul at h
    split at h
    ·injection h with h; injection h with h1 h2; cases h2
    ·split at h
     ·split at h
      ·injection h with h; injection h with h1 h2; cases h2
      ·injection h with h; injection h with h1 h2; subst h1; exact ⟨rfl,Pj _ _⟩
     ·injection h with h; injection h with h1 h2; cases h2
   ·injection h with h
    unfold Kp at h
    split at h
    ·rename_i s hs
     injection h with h1 h2; subst h1
     have:=List.find?_some hs
     unfold D5 at this
     exact ⟨rfl,by simpa using this⟩
    ·injection h with h1 h2; cases h2
theorem zI (l:List UInt8):∀ (n i:Nat) (ts:List Tk),i ≤ l.length → Mx l n i=some (.inr ts) → ∀ j (h:j < ts.length),stB l ts[j].text ts[j].pos=true
 | 0,i,ts,hi,h,j,hj=>by cases h
 | n + 1,i,ts,hi,h,j,hj=>by
  unfold Mx at h
  split at h
  ·rename_i hil
   split at h
   ·cases h
   ·rename_i p hp
    split at h
    ·rename_i he
     split at h
     ·cases h
     ·cases h
     ·rename_i ts2 h2
      injection h with h; injection h with h; subst h
      have hq:Hf (l.drop i) i=some (p.1,0):=by rw [hp,← he]
      obtain ⟨t1,t2⟩:=next_text hq
      have t3:=Vr hq
      rw [List.length_drop] at t3
      cases j with
      | zero =>
       show stB l p.1.text p.1.pos=true
       unfold stB
       rw [t1,t2,Bool.and_eq_true]
       exact ⟨decide_eq_true (by omega),decide_eq_true rfl⟩
      | succ j =>
       have hs:=Lq (l.length + 1) (l.drop (i + p.1.text.length))
       rw [List.length_drop] at hs
       exact zI l n _ ts2 (by omega) h2 j (by simpa using hj)
    ·cases h
  ·injection h with h; injection h with h; subst h
   have:j=0:=by simp at hj; exact hj
   subst this
   show stB l [] l.length=true
   unfold stB
   simp
theorem lD {l:List UInt8} {ts:List Tk} (h:Jz l=some (.inr ts)):O6 l ts:=by
 unfold Jz at h
 split at h
 ·cases h
 ·intro i hi
  rw [Km hi]
  exact zI l _ _ ts (Lq _ _) h i hi
theorem dN (l:List UInt8):∀ (n i:Nat) (ts:List Tk),Mx l n i=some (.inr ts) → ts.length ≤ n
 | 0,i,ts,h=>by cases h
 | n + 1,i,ts,h=>by
  unfold Mx at h
  split at h
  ·split at h
   ·cases h
   ·rename_i p hp
    split at h
    ·rename_i he
     split at h
     ·cases h
     ·cases h
     ·rename_i ts2 h2
      injection h with h; injection h with h; subst h
      have:=dN l n _ ts2 h2
      simp; omega
    ·cases h
  ·injection h with h; injection h with h; subst h
   simp
theorem lexL_len {l:List UInt8} {ts:List Tk} (h:Jz l=some (.inr ts)):ts.length ≤ 4001:=by
 unfold Jz at h
 split at h
 ·cases h
 ·have:=dN l _ _ ts h; omega
theorem Xg {l:List UInt8} {ts:List Tk} (h:Jz l=some (.inr ts)):ts.length ≤ l.length + 1:=by
 unfold Jz at h
 split at h
 ·cases h
 ·exact dN l _ _ ts h
theorem read_s {l:List UInt8} {out:(Nat × Nat) ⊕ List Tk} (h:Jz l=some out):J6 70000 out ≠ none ∧ ∀ ns,J6 70000 out=some (.inl ns) → (∀ n ∈ ns,jN l (l.length + 1) n) ∧ ns.length ≤ l.length + 1:=by
 cases out with
 | inl x=>exact ⟨(fun e=>by cases e),(fun ns e=>by cases e)⟩
 | inr ts =>
  obtain ⟨h1,h2⟩:=Tf h
  have h3:=lexL_len h
  have h4:=Xg h
  have hs:=W7 h1 (lD h) 70000 (by omega) (by decide) h2
  unfold J6
  simp only
  cases hp:Eh ts 70000 0 with
  | out=>exact absurd hp hs.1
  | bad a e=>exact ⟨(fun e=>by cases e),(fun ns e=>by cases e)⟩
  | ok ns j =>
   obtain ⟨_,k1,k2⟩:=hs.2 ns j hp
   have key:(∀ n ∈ ns,jN l (l.length + 1) n) ∧ ns.length ≤ l.length + 1:=⟨fun n hn=>by
    obtain ⟨a1,a2,a3,a4,a5⟩:=k1 n hn
    exact ⟨a1,a2,fun q hq=>⟨(a3 q hq).1,(a3 q hq).2.1,Nat.le_trans (a3 q hq).2.2 h4⟩,Nat.le_trans a4 h4,Nat.le_trans a5 h4⟩,Nat.le_trans k2 h4⟩
   simp only
   split
   ·exact ⟨(fun e=>by cases e),(fun ns' e=>by injection e with e; injection e with e; subst e; exact key)⟩
   ·exact ⟨(fun e=>by cases e),(fun ns e=>by cases e)⟩
end Go.Ax
noncomputable section
namespace Go.Ax
open Go.RowKit Go.Proofs
set_option maxRecDepth 100000
theorem rR {b:UInt8} (h:F0 b=true):Ds b=true:=by
 unfold Ds; rw [h]; rfl
theorem next_pos {l:List UInt8} {i:Nat} {t:Tk} (h:Hf l i=some (t,0)):0 < t.text.length:=by
 unfold Hf at h
 split at h
 ·cases h
 ·rename_i b r
  split at h
  ·rename_i hb
   have hc:0 < ((b :: r).take (cnt Ds (b :: r))).length:=by
    rw [List.length_take]; unfold cnt; rw [if_pos (rR hb)]; simp
   injection h with h
   unfold Ln at h
   split at h
   ·injection h with h1 h2; subst h1; exact hc
   ·split at h
    ·injection h with h1 h2; cases h2
    ·injection h with h1 h2; subst h1; exact hc
  ·split at h
   ·rename_i hb
    have hc:0 < ((b :: r).take (cnt Da (b :: r))).length:=by
     rw [List.length_take]; unfold cnt; rw [if_pos hb]; simp
    unfold Ul at h
    split at h
    ·injection h with h; injection h with h1 h2; cases h2
    ·split at h
     ·split at h
      ·injection h with h; injection h with h1 h2; cases h2
      ·injection h with h; injection h with h1 h2; subst h1; exact hc
     ·injection h with h; injection h with h1 h2; cases h2
   ·injection h with h
    unfold Kp at h
    split at h
    ·rename_i s hs
     injection h with h1 h2; subst h1
     have:=List.mem_of_find?_eq_some hs
     exact (show ∀ s ∈ Fb,0 < s.length by decide) s this
    ·injection h with h1 h2; cases h2
theorem next_some {l:List UInt8} {i:Nat} (h:l ≠ []):∃ p,Hf l i=some p:=by
 unfold Hf
 split
 ·exact absurd rfl h
 ·split
  ·exact ⟨_,rfl⟩
  ·split
   ·unfold Ul
    split
    ·exact ⟨_,rfl⟩
    ·split
     ·split
      ·exact ⟨_,rfl⟩
      ·exact ⟨_,rfl⟩
     ·exact ⟨_,rfl⟩
   ·exact ⟨_,rfl⟩
theorem jK (l:List UInt8):∀ n i,l.length + 1 ≤ n + i → i ≤ l.length → ∃ out,Mx l n i=some out
 | 0,i,h1,h2=>by omega
 | n + 1,i,h1,h2=>by
  unfold Mx
  by_cases hi:i < l.length
  ·rw [if_pos hi]
   obtain ⟨p,hp⟩:=next_some (l:=l.drop i) (i:=i) (by intro e; have:=congrArg List.length e; rw [List.length_drop] at this; simp at this; omega)
   rw [hp]
   simp only
   by_cases he:p.2=0
   ·rw [if_pos he]
    have hq:Hf (l.drop i) i=some (p.1,0):=by rw [hp,← he]
    have h3:=next_pos hq
    have h4:=Vr hq
    rw [List.length_drop] at h4
    have h5:=Lq (l.length + 1) (l.drop (i + p.1.text.length))
    rw [List.length_drop] at h5
    obtain ⟨out,ho⟩:=jK l n (i + p.1.text.length + Gw (l.length + 1) (l.drop (i + p.1.text.length))) (by omega) (by omega)
    rw [ho]
    cases out with
    | inl x=>exact ⟨_,rfl⟩
    | inr ts=>exact ⟨_,rfl⟩
   ·rw [if_neg he]; exact ⟨_,rfl⟩
  ·rw [if_neg hi]; exact ⟨_,rfl⟩
theorem gV (l:List UInt8):∃ out,Jz l=some out:=by
 unfold Jz
 split
 ·exact ⟨_,rfl⟩
 ·exact jK l _ _ (by omega) (Lq _ _)
theorem codeWG {E:Env} (hE:E.Ok) (hI:Kf E) (hmix:E.P.follows .mixedOrders=true) {n t:Nat} {c:Code} {f:T AV} {S:St}
  (h:W E n c ⟨f,[]⟩ S (fun r=>∃ f' S',r=.out .ret ⟨f',[]⟩ S' ∧ f'.get t=some (.v (.bool true)))) {Q:Exit → Act → World → Prop} {act:Act} {γ:Gh} {base:Nat} {w0 w:World} (hS:SR base w0 γ S w) (hg:GR γ w E.G) (hf:FR γ w f act.tmps) (hn:act.tmps.size=n) (hd:act.defers=[])
  (hQ:∀ act' w',act'.tmps.size=n → act'.defers=[] → act'.tmps[t]? = some (.bool true) → Below base w0 w' → Q .ret act' w'):c.wp E.P Q act w:=by
 obtain ⟨r,⟨m0,hm⟩,f',S',rfl,ht⟩:=Em h
 refine (Py hE hI (Ji hE hmix) m0).code base w0 Q n c γ S w ⟨f,[]⟩ act hS ⟨hf,hn,by rw [hd]; trivial⟩ hg ?_
 rw [hm m0 (Nat.le_refl _)]
 intro γ' act' w' h1 h2 h3
 show Q .ret act' w'
 obtain ⟨k1,k2⟩:=h3.tmps t _ ht
 have hdd:=h3.dfr
 have hd':act'.defers=[]:=by
  cases hx:act'.defers with
  | nil=>rfl
  | cons a r=>rw [hx] at hdd; exact hdd.elim
 refine hQ act' w' h3.size hd' ?_ h1.below
 have e1:act'.tmps[t]? = some (act'.tmps[t]):=Array.getElem?_eq_getElem k1
 have e2:act'.tmps.getD t undef=act'.tmps[t]:=by simp [k1]
 rw [e1]
 rw [e2] at k2
 generalize act'.tmps[t]=z at k2
 cases k2
 rfl
def GhW (w:World):Gh:={ loc:=fun _=>none,im:=fun b o=>b < w.heap.size ∧ ∃ v,w.cell? ⟨b,o,none⟩=some v }
theorem SR.whole (w:World):SR w.heap.size w (GhW w) St0 w :=
 ⟨.refl _ _,Nat.le_refl _,fun _ _ h=>h.2,fun _ _=>⟨rfl,rfl⟩,Nat.le_refl _,fun _ _ _ h=>(by cases h),fun _ _ h=>(by cases h),fun _ _ _ _ _ _ _ h=>(by cases h)⟩
def RngIn (w:World):Prop:=∃ b o:Nat,w.cell? ⟨5,0,none⟩=some (.iface 278 (.pointer (some ⟨b,o,none⟩)))
theorem RngIn.gr {w:World} (h:RngIn w):GR (GhW w) w gR:=by
 obtain ⟨b,o,h⟩:=h
 intro g cs hg
 unfold gR at hg
 cases hb:Nat.beq g 5 with
 | false=>rw [hb] at hg; cases hg
 | true =>
  have:g=5:=Nat.eq_of_beq_eq_true hb
  subst this
  rw [hb] at hg
  injection hg with hg; subst hg
  refine ⟨.ep _ 5 0 (fun _=>.iface 278 (.pointer (some ⟨b,o,none⟩))) (fun k hk=>?_) (fun x hx=>?_) (fun k hk=>?_),fun h2=>absurd h2 (by simp)⟩
  ·have:k=0:=by simp at hk; exact hk
   subst this
   exact ⟨⟨World.block_lt_of_cell? w _ h,_,h⟩,h⟩
  ·simp only [List.mem_cons,List.not_mem_nil,or_false] at hx; subst hx; rfl
  ·have:k=0:=by simp at hk; exact hk
   subst this
   exact .iface _ _ _ (.ep [] b o (fun _=>undef) (fun k h=>absurd h (Nat.not_lt_zero k)) (fun _ h=>absurd h List.not_mem_nil) (fun k h=>absurd h (Nat.not_lt_zero k)))
end Go.Ax
noncomputable section
namespace Go.Ax
open Go.RowKit Go.Proofs
set_option maxRecDepth 100000
def allK (F L:Nat):Nat → List UInt8 → Nat → Option ((Nat × Nat) ⊕ List Tk)
 | 0,_,_=>none
 | n + 1,r,i=>match r with
  | []=>some (.inr [⟨5,L,[],0⟩])
  | b :: r'=>match Hf (b :: r') i with
   | none=>none
   | some p=>if p.2=0 then (match allK F L n (((b :: r').drop p.1.text.length).drop (Gw F ((b :: r').drop p.1.text.length))) (i + p.1.text.length + Gw F ((b :: r').drop p.1.text.length)) with
     | none=>none
     | some (.inl x)=>some (.inl x)
     | some (.inr ts)=>some (.inr (p.1 :: ts))) else some (.inl (i,p.2))
theorem zG (l:List UInt8):∀ (n i:Nat),i ≤ l.length → Mx l n i=allK (l.length + 1) l.length n (l.drop i) i
 | 0,i,hi=>rfl
 | n + 1,i,hi=>by
  unfold Mx allK
  by_cases h:i < l.length
  ·rw [if_pos h,List.drop_eq_getElem_cons h]
   simp only
   rw [← List.drop_eq_getElem_cons h]
   cases hq:Hf (l.drop i) i with
   | none=>rfl
   | some p =>
    simp only
    by_cases he:p.2=0
    ·rw [if_pos he,if_pos he]
     have hp:Hf (l.drop i) i=some (p.1,0):=by rw [hq,← he]
     have hn:=Vr hp
     rw [List.length_drop] at hn
     have hs:=Lq (l.length + 1) (l.drop (i + p.1.text.length))
     rw [List.length_drop] at hs
     rw [zG l n _ (by omega)]
     simp only [List.drop_drop,Nat.add_assoc]
     generalize allK (l.length + 1) l.length n _ _=z
     cases z with
     | none=>rfl
     | some y=>cases y <;> rfl
    ·rw [if_neg he,if_neg he]
  ·rw [if_neg h]
   have hd:l.drop i=[]:=List.drop_eq_nil_of_le (by omega)
   rw [hd]
def lexK (L:Nat) (l:List UInt8):Option ((Nat × Nat) ⊕ List Tk):=Bool.rec (motive:=fun _=>Option ((Nat × Nat) ⊕ List Tk)) (some (.inl (4000,3))) (allK (L + 1) L (L + 1) (l.drop (Gw (L + 1) l)) (Gw (L + 1) l)) (Nat.ble L 4000)
theorem xQ (l:List UInt8):lexK l.length l=Jz l:=by
 unfold lexK Jz
 by_cases h:4000 < l.length
 ·rw [if_pos h]
  have:Nat.ble l.length 4000=false:=by
   cases hb:Nat.ble l.length 4000 with
   | false=>rfl
   | true=>have:=Nat.le_of_ble_eq_true hb; omega
  rw [this]
 ·rw [if_neg h,Nat.ble_eq_true_of_le (by omega),zG l _ _ (Lq _ _)]
def Xi (args:List AV) (S:St):R:=match args with
 | [.v (.string s)]=>if s.size ≤ 1000000 then (match lexK s.data.toList.length s.data.toList with
   | some (.inr ts)=>.ret (.tup [.sl 0 0 4 (ts.map Fd),.agg (Dl 0 0)]) S
   | some (.inl x)=>.ret (.tup [.nils,.agg (Dl x.1 x.2)]) S
   | none=>.fail) else .fail
 | _=>.fail
def AV.plain:AV → Bool
 | .v _=>true
 | _=>false
theorem VR.plain {γ γ':Gh} {w w':World} {a:AV} {x:Value} (h:VR γ w a x) (hp:a.plain=true):VR γ' w' a x:=by
 cases h with
 | v x h=>exact .v x h
 | _=>cases hp
theorem VR.rowPlain {γ γ':Gh} {w:World} {tok sz:Nat} {es:List AV} {x:Value} (h:VR γ w (.sl tok 0 sz es) x) (hp:∀ a ∈ Dx es,a.plain=true) (him:∀ b o,γ.im b o → γ'.im b o):VR γ' w (.sl 0 0 sz es) x:=by
 cases h with
 | sl _ _ _ _ b o cap c hsz hes h1 h hr ht hf hc hb =>
  exact .sl 0 0 sz es b o cap c hsz hes h1 (fun k hk=>⟨him _ _ (h k hk).1,(h k hk).2⟩) (fun k hk=>(hr k hk).plain (hp _ (List.getElem_mem hk))) (fun h=>by omega) (fun h=>by omega) hc hb
theorem VR.aggPlain {γ γ':Gh} {w w':World} {cs:List AV} {x:Value} (h:VR γ w (.agg cs) x) (hp:∀ a ∈ cs,a.plain=true):VR γ' w' (.agg cs) x:=by
 cases h with
 | agg _ x hx h1 h=>exact .agg cs x hx h1 (fun k hk hk'=>(h k hk hk').plain (hp _ (List.getElem_mem hk)))
theorem zO (ts:List Tk):∀ a ∈ Dx (ts.map Fd),a.plain=true:=by
 intro a ha
 unfold Dx at ha
 rw [List.mem_flatMap] at ha
 obtain ⟨e,he,hae⟩:=ha
 obtain ⟨t,_,rfl⟩:=List.mem_map.1 he
 simp only [Fd,AV.cells,Df,List.mem_cons,List.not_mem_nil,or_false] at hae
 rcases hae with rfl | rfl | rfl | rfl <;> rfl
theorem iF (a e:Nat):∀ x ∈ Dl a e,x.plain=true:=by
 intro x hx
 simp only [Dl,List.mem_cons,List.not_mem_nil,or_false] at hx
 rcases hx with rfl | rfl <;> rfl
theorem lex_I (base:Nat) (w0:World) (args:List AV) (S:St) (hne:Xi args S ≠ .fail) (γ:Gh) (w:World) (vs:List Value) (hS:SR base w0 γ S w) (hg:GR γ w E1.G) (hv:VRL γ w args vs):Calls Tryz.prog 25 vs.toArray w (Nr base w0 γ S w (Xi args S)):=by
 generalize hr:Xi args S=r at hne ⊢
 unfold Xi at hr
 split at hr
 case h_2=>exact absurd hr.symm hne
 rename_i s
 split at hr
 case isFalse=>exact absurd hr.symm hne
 rename_i hsz
 have es:AV.v (.string s)=Cj s.data.toList:=rfl
 rw [xQ] at hr
 cases ho:Jz s.data.toList with
 | none=>rw [ho] at hr; exact absurd hr.symm hne
 | some out =>
  have hlen:s.data.toList.length ≤ 1000000:=by rw [Array.length_toList]; exact hsz
  obtain ⟨r2,⟨m0,hm⟩,hpost⟩:=all_w s.data.toList S hS.pos hlen out ho
  have hc:=hm m0 (Nat.le_refl _)
  have hrne:r2 ≠ .fail:=by
   cases out with
   | inl x=>obtain ⟨S',rfl,_⟩:=hpost; exact fun e=>by cases e
   | inr ts=>obtain ⟨S',tok,rfl,_⟩:=hpost; exact fun e=>by cases e
  have:=O4 T3 Zs (Ji T3 Ur) m0 base w0 25 [.v (.string s)] S (by rw [es]; show ckN E1 m0 25 _ S ≠ _; rw [hc]; exact hrne) γ w vs hS hg hv (by kernel_rfl)
  rw [es] at this
  rw [show T6 E1 (Cf E1) m0 25 [Cj s.data.toList] S=r2 from hc] at this
  refine this.mono fun x w' hx=>?_
  rw [ho] at hr
  cases out with
  | inl y =>
   obtain ⟨S',rfl,hk⟩:=hpost
   obtain ⟨γ',v,k1,k2,k3,rfl⟩:=hx
   obtain ⟨q1,q2⟩:=hS.forget k1 k2 hk.2
   simp only at hr
   subst hr
   refine ⟨_,v,q1,q2,?_,rfl⟩
   cases k3 with
   | tup _ xs hx hh =>
    refine .tup _ xs hx (fun k hk1 hk2=>?_)
    match k,hk1 with
    | 0,_ =>
     have:=hh 0 (by simp) hk2
     simp only [List.getElem_cons_zero] at this ⊢
     generalize xs[0]=z at this
     cases this; exact .nils
    | 1,_=>exact (hh 1 (by simp) hk2).aggPlain (iF _ _)
  | inr ts =>
   obtain ⟨S',tok,rfl,hk⟩:=hpost
   obtain ⟨γ',v,k1,k2,k3,rfl⟩:=hx
   obtain ⟨q1,q2⟩:=hS.forget k1 k2 hk.2
   simp only at hr
   subst hr
   refine ⟨_,v,q1,q2,?_,rfl⟩
   cases k3 with
   | tup _ xs hx hh =>
    refine .tup _ xs hx (fun k hk1 hk2=>?_)
    match k,hk1 with
    | 0,_=>exact (hh 0 (by simp) hk2).rowPlain (zO ts) (fun _ _ h=>h)
    | 1,_=>exact (hh 1 (by simp) hk2).aggPlain (iF _ _)
def Uc:List AV → Option (List (List UInt8))
 | []=>some []
 | .v (.string s) :: r=>match Uc r with
  | some l=>some (s.data.toList :: l)
  | none=>none
 | _=>none
theorem Rv:∀ {es:List AV} {ws:List (List UInt8)},Uc es=some ws → es=ws.map Cj
 | [],ws,h=>by injection h with h; subst h; rfl
 | a :: r,ws,h=>by
  unfold Uc at h
  split at h
  ·cases ‹_ :: _=[]›
  ·rename_i s r' heq
   injection heq with e1 e2; subst e1; subst e2
   split at h
   ·rename_i l hl
    injection h with h; subst h
    rw [Rv hl]; rfl
   ·cases h
  ·cases h
def memK (s:List UInt8) (ws:List (List UInt8)):Bool:=List.rec (motive:=fun _=>Bool) false (fun w _ ih=>Bool.rec (motive:=fun _=>Bool) ih true (Kl s w)) ws
def Oj (args:List AV) (S:St):R:=match args with
 | [.sl tok off 1 es,.v (.string s)]=>match Uc es with
  | some ws=>if ws.length ≤ 100000 then .ret (.v (.bool (memK s.data.toList ws))) S else .fail
  | none=>.fail
 | _=>.fail
def knownI (k:Nat):Option (List AV → St → R):=Bool.rec (Bool.rec (E1.I k) (some Oj) (Nat.beq k 129)) (some Xi) (Nat.beq k 25)
def E2:Env:={ P:=Tryz.prog,G:=gR,F:=E1.F,I:=knownI,M:=rowM }
end Go.Ax
noncomputable section
namespace Go.Ax
open Go.RowKit Go.Proofs
set_option maxRecDepth 100000
def Yo:List AV → Option AV
 | [.nils,.v (.string _)]=>some (Cj [])
 | [.sl _ _ 1 es,.v (.string s)]=>match Uc es with
  | some ws=>if ws.length ≤ 1000000 ∧ (Lib.join ws s.data.toList).length ≤ 1000000000 then some (Cj (Lib.join ws s.data.toList)) else none
  | none=>none
 | _=>none
def qD:List AV → Option AV
 | [.v (.int .i64 n),.v (.int .i64 10)]=>if -9223372036854775808 ≤ n ∧ n ≤ 9223372036854775807 then some (Cj (Lib.itoa n)) else none
 | _=>none
theorem VRL.two' {γ:Gh} {w:World} {a b:AV} {vs:List Value} (h:VRL γ w [a,b] vs):∃ x y,vs=[x,y] ∧ VR γ w a x ∧ VR γ w b y:=by
 obtain ⟨h1,h2⟩:=h
 match vs,h1 with
 | [x,y],_=>exact ⟨x,y,rfl,h2 0 (by simp) (by simp),h2 1 (by simp) (by simp)⟩
theorem Ti (ws:List (List UInt8)):Dx (ws.map Cj)=ws.map Cj:=by
 induction ws with
 | nil=>rfl
 | cons a r ih =>
  have:Dx (Cj a :: r.map Cj)=Cj a :: Dx (r.map Cj):=rfl
  rw [List.map_cons,this,ih]
theorem get_eq {l m:List AV} (h:l=m) (k:Nat) (h1:k < l.length):l[k]=m[k]'(h ▸ h1):=by subst h; rfl
theorem join_ok:∀ args a,Yo args=some a → ∀ γ w (vs:List Value),VRL γ w args vs → Calls Tryz.prog 88 vs.toArray w fun e w'=>Below w.heap.size w w' ∧ ∃ v,e=.returned v ∧ ∀ γ w,VR γ w a v:=by
 intro args a h γ w vs hv
 unfold Yo at h
 split at h
 ·injection h with h; subst h
  obtain ⟨x,y,rfl,hx,hy⟩:=hv.two'
  cases hx; cases hy
  refine (Tryz.strings_Join_none none 0 _ w).mono fun e w' he=>?_
  obtain ⟨rfl,rfl⟩:=he
  exact ⟨.refl _ _,_,rfl,fun γ w=>.v _ rfl⟩
 ·rename_i tok off es s
  split at h
  ·rename_i ws hws
   split at h
   ·rename_i hc
    injection h with h; subst h
    have he:=Rv hws
    subst he
    obtain ⟨x,y,rfl,hx,hy⟩:=hv.two'
    cases hy
    cases hx with
    | sl _ _ _ _ b o cap c hsz hes h1 h2 hr ht hf hcap hb =>
     rw [Ti] at h2
     obtain ⟨arr,T,fr,ha,hle⟩:=hb
     have hbk:b < w.heap.size:=(Array.getElem?_eq_some_iff.1 ha).1
     have hl:(ws.map Cj).length=ws.length:=List.length_map ..
     have hcell:∀ (j:Nat) (x:ByteArray),(ws.map (fun l=>(⟨⟨l⟩⟩:ByteArray)))[j]? = some x → w.cell? ⟨b,o + j,none⟩=some (.string x):=fun j x hj=>by
      obtain ⟨hj1,hj2⟩:=List.getElem?_eq_some_iff.1 hj
      rw [List.length_map] at hj1
      have e1:=(h2 j (by rw [hl]; exact hj1)).2
      have e2:=hr j (by rw [Ti,hl]; exact hj1)
      have e3:(Dx (ws.map Cj))[j]'(by rw [Ti,hl]; exact hj1)=Cj ws[j]:=by
       rw [get_eq (Ti ws) j,List.getElem_map]
      rw [e3] at e2
      rw [e1]
      rw [List.getElem_map] at hj2
      subst hj2
      generalize c j=z at e2
      cases e2
      rfl
     have hJ:(ws.map (fun l=>(⟨⟨l⟩⟩:ByteArray))).map (·.data.toList)=ws:=by rw [List.map_map]; exact (List.map_congr_left (fun _ _=>rfl)).trans (List.map_id _)
     have:=Tryz.strings_Join b o cap (ws.map (fun l=>(⟨⟨l⟩⟩:ByteArray))) s w hcell hbk (by rw [List.length_map]; omega) (by rw [List.length_map]; rw [hl] at hcap; exact hcap) (by rw [hJ]; omega)
     rw [hJ,List.length_map] at this
     rw [hl]
     refine this.mono fun e w' he=>?_
     obtain ⟨rfl,hb⟩:=he
     exact ⟨hb,_,rfl,fun γ w=>.v _ rfl⟩
   ·cases h
  ·cases h
 ·cases h
def To:List AV:=Lib.pow10Tab.map fun z=>.v (.int .u64 z)
def gF:Gl:=fun g=>Bool.rec none (some To) (Nat.beq g 0)
theorem P2:To.length=20:=by unfold To; rw [List.length_map,Lib.pow10Tab_length]
theorem gPow6:Tryz.prog.globalNamed "internal/strconv.uint64pow10" = some 0:=by kernel_rfl
theorem tab_of {γ:Gh} {w:World} (h:GR γ w gF):Lib.TabIs Tryz.prog w "internal/strconv.uint64pow10" .u64 Lib.pow10Tab:=by
 obtain ⟨h1,h2⟩:=h 0 To rfl
 obtain ⟨arr,T,fr,ha,hs⟩:=h2 (by rw [P2]; omega)
 unfold Lib.TabIs World.var?
 rw [gPow6]
 simp only [Ai,ha]
 congr 1
 rw [P2] at hs
 apply Array.ext
 ·simp [hs,Lib.pow10Tab_length]
 ·intro i hi1 hi2
  cases h1 with
  | ep cs b o c hc h3 hr =>
   have hi:i < To.length:=by rw [P2]; omega
   have e1:=(hc i hi).2
   have e2:=hr i hi
   rw [Nat.zero_add,Kb ha,Array.getElem?_eq_getElem hi1] at e1
   injection e1 with e1
   have e3:To[i]=.v (.int .u64 (Lib.pow10Tab[i]'(by rw [Lib.pow10Tab_length]; omega))):=by simp [To]
   rw [e3,← e1] at e2
   have:∀ {z:Int} {v:Value},VR γ w (.v (.int .u64 z)) v → v=.int .u64 z:=fun h=>by cases h; rfl
   rw [this e2]
   simp
theorem fmt_ok:∀ args a,qD args=some a → ∀ γ w (vs:List Value),GR γ w gF → VRL γ w args vs → Calls Tryz.prog 48 vs.toArray w fun e w'=>Below w.heap.size w w' ∧ ∃ v,e=.returned v ∧ ∀ γ w,VR γ w a v:=by
 intro args a h γ w vs hg hv
 unfold qD at h
 split at h
 ·rename_i n
  split at h
  ·rename_i hc
   injection h with h; subst h
   obtain ⟨x,y,rfl,hx,hy⟩:=hv.two'
   cases hx; cases hy
   refine (Tryz.strconv_FormatInt_10 n hc.1 hc.2 w (tab_of hg)).mono fun e w' he=>?_
   obtain ⟨rfl,k,os,rfl⟩:=he
   exact ⟨Lib.below_grow _ w (Nat.le_refl _) k os,_,rfl,fun γ w=>.v _ rfl⟩
  ·cases h
 ·cases h
def knownI6 (k:Nat):Option (List AV → St → R):=Bool.rec (Bool.rec none (some (F3 Yo)) (Nat.beq k 88)) (some (F3 qD)) (Nat.beq k 48)
def E6:Env:={ P:=Tryz.prog,G:=gF,F:=E1.F,I:=knownI6,M:=rowM }
theorem e6_ok:E6.Ok:=⟨fun k fn h=>T3.fn k fn h⟩
theorem e6_mix:E6.P.follows .mixedOrders=true:=Ur
theorem bD {g:List AV → Option AV} {k:Nat} {base:Nat} {w0:World} {args:List AV} {S:St} (hne:F3 g args S ≠ .fail) {γ:Gh} {w:World} {vs:List Value} (hS:SR base w0 γ S w)
  (h:∀ a,g args=some a → Calls Tryz.prog k vs.toArray w fun e w'=>Below w.heap.size w w' ∧ ∃ v,e=.returned v ∧ ∀ γ w,VR γ w a v):Calls Tryz.prog k vs.toArray w (Nr base w0 γ S w (F3 g args S)):=by
 cases hga:g args with
 | none=>exact absurd (by simp [F3,hga]) hne
 | some a =>
  have e:F3 g args S=.ret a S:=by simp only [F3,hga]
  rw [e]
  refine (h a hga).mono fun e w' he=>?_
  obtain ⟨hb,v,rfl,hv⟩:=he
  obtain ⟨q1,q2⟩:=hS.after hb
  exact ⟨γ,v,q1,q2,hv _ _,rfl⟩
theorem e6_intr:Kf E6:=fun k g hk base w0 args S hne γ w vs hS hg hv=>by
 have hk2:(Bool.rec (Bool.rec none (some (F3 Yo)) (Nat.beq k 88)) (some (F3 qD)) (Nat.beq k 48):Option (List AV → St → R))=some g:=hk
 cases hb:Nat.beq k 48 with
 | true =>
  rw [hb] at hk2
  injection hk2 with hk2; subst hk2
  have:k=48:=Nat.eq_of_beq_eq_true hb
  subst this
  exact bD hne hS fun a ha=>fmt_ok args a ha γ w vs hg hv
 | false =>
  rw [hb] at hk2
  cases hc:Nat.beq k 88 with
  | false=>rw [hc] at hk2; cases hk2
  | true =>
   rw [hc] at hk2
   injection hk2 with hk2; subst hk2
   have:k=88:=Nat.eq_of_beq_eq_true hc
   subst this
   exact bD hne hS fun a ha=>join_ok args a ha γ w vs hv
end Go.Ax
noncomputable section
namespace Go.Ax
open Go.RowKit Go.Proofs
set_option maxRecDepth 100000
def Fj {α β:Type} (R:α → β → Prop):PR α → PR β → Prop
 | .ok a i,.ok b j=>i=j ∧ R a b
 | .bad _ e,.bad _ e'=>e=e'
 | .out,.out=>True
 | _,_=>False
section
variable {α β γ δ:Type}
theorem Fj.bind {R:α → β → Prop} {Q:γ → δ → Prop} {x:PR α} {y:PR β} {f:α → Nat → PR γ} {g:β → Nat → PR δ} (h:Fj R x y) (hf:∀ a b i,R a b → Fj Q (f a i) (g b i)):Fj Q (x.bind f) (y.bind g):=by
 cases x <;> cases y <;> simp only [Fj,PR.bind] at h ⊢ <;> first | exact h | exact h.elim | (obtain ⟨rfl,h⟩:=h; exact hf _ _ _ h)
theorem Fj.ite {Q:γ → δ → Prop} {c c':Prop} [Decidable c] [Decidable c'] (hc:c ↔ c') {x y:PR γ} {x' y':PR δ} (h1:c → Fj Q x x') (h2:¬ c → Fj Q y y'):Fj Q (if c then x else y) (if c' then x' else y'):=by
 by_cases h:c
 ·rw [if_pos h,if_pos (hc.1 h)]; exact h1 h
 ·rw [if_neg h,if_neg (fun h'=>h (hc.2 h'))]; exact h2 h
theorem Fj.ok {R:α → β → Prop} {a:α} {b:β} {i:Nat} (h:R a b):Fj R (.ok a i) (.ok b i):=⟨rfl,h⟩
end
mutual
inductive LikeE:PE → PE → Prop where
 | mk (kind pos pos':Nat) (n:Int) (name:List UInt8) (off:Bool) (kids kids':List PE) (h:LikeL kids kids'):LikeE (.mk kind pos n name off kids) (.mk kind pos' n name off kids')
inductive LikeL:List PE → List PE → Prop where
 | nil:LikeL [] []
 | cons (a b:PE) (l m:List PE) (h:LikeE a b) (h2:LikeL l m):LikeL (a :: l) (b :: m)
end
theorem LikeL.snoc:∀ {l m:List PE} {a b:PE},LikeL l m → LikeE a b → LikeL (l ++ [a]) (m ++ [b])
 | [],[],a,b,.nil,h=>.cons _ _ _ _ h .nil
 | _ :: _,_ :: _,a,b,.cons _ _ _ _ h h2,k=>.cons _ _ _ _ h (h2.snoc k)
theorem LikeL.one {a b:PE} (h:LikeE a b):LikeL [a] [b]:=.cons _ _ _ _ h .nil
theorem LikeL.two {a b c d:PE} (h:LikeE a b) (k:LikeE c d):LikeL [a,c] [b,d]:=.cons _ _ _ _ h (.one k)
theorem LikeL.three {a b c d e f:PE} (h:LikeE a b) (k:LikeE c d) (m:LikeE e f):LikeL [a,c,e] [b,d,f]:=.cons _ _ _ _ h (.two k m)
def rG (t u:Tk):Prop:=t.kind=u.kind ∧ t.text=u.text ∧ t.num=u.num
structure LikeS (ts us:List Tk):Prop where
 len:ts.length=us.length
 at_:∀ i,rG (tk ts i) (tk us i)
section
variable {ts us:List Tk} (h:LikeS ts us)
include h
theorem LikeS.kind (i:Nat):(tk ts i).kind=(tk us i).kind:=(h.at_ i).1
theorem LikeS.text (i:Nat):(tk ts i).text=(tk us i).text:=(h.at_ i).2.1
omit h in
theorem dC {a b:PE} (h:LikeE a b):Ip a=Ip b:=by cases h; rfl
end
end Go.Ax
noncomputable section
namespace Go.Ax
open Go.RowKit Go.Proofs
set_option maxRecDepth 100000
def N7 (a b:PD):Prop:=a.name=b.name ∧ a.bool=b.bool ∧ a.fut=b.fut ∧ a.clock=b.clock ∧ a.off=b.off
def rH (a b:List UInt8 × Nat):Prop:=a.1=b.1
inductive Each2 {α β:Type} (R:α → β → Prop):List α → List β → Prop where
 | nil:Each2 R [] []
 | cons (a:α) (b:β) (l:List α) (m:List β) (h:R a b) (h2:Each2 R l m):Each2 R (a :: l) (b :: m)
theorem Each2.snoc {α β:Type} {R:α → β → Prop}:∀ {l:List α} {m:List β} {a:α} {b:β},Each2 R l m → R a b → Each2 R (l ++ [a]) (m ++ [b])
 | [],[],a,b,.nil,h=>.cons _ _ _ _ h .nil
 | _ :: _,_ :: _,a,b,.cons _ _ _ _ h h2,k=>.cons _ _ _ _ h (h2.snoc k)
theorem Each2.one {α β:Type} {R:α → β → Prop} {a:α} {b:β} (h:R a b):Each2 R [a] [b]:=.cons _ _ _ _ h .nil
def Y2 (a b:PQ):Prop:=Each2 rH a.left b.left ∧ a.async=b.async ∧ LikeE a.e b.e
def Qn (a b:PN):Prop:=a.name=b.name ∧ Each2 N7 a.ins b.ins ∧ Each2 N7 a.outs b.outs ∧ Each2 N7 a.vars b.vars ∧ Each2 Y2 a.eqs b.eqs
mutual
theorem Tm:∀ {a b:PE},LikeE a b → Nn a=Nn b
 | _,_,.mk _ _ _ _ _ _ l m h=>by
  show IntKind.i64.wrap (T4 l 0 + 1)=IntKind.i64.wrap (T4 m 0 + 1)
  rw [cW h 0]
theorem cW:∀ {l m:List PE},LikeL l m → ∀ k,T4 l k=T4 m k
 | _,_,.nil,k=>rfl
 | _,_,.cons a b l m h h2,k=>by
  show T4 l (if Nn a > k then Nn a else k)=T4 m (if Nn b > k then Nn b else k)
  rw [Tm h,cW h2]
end
section
variable {ts us:List Tk} (h:LikeS ts us)
include h
omit h in
omit h in
end
end Go.Ax
