/- Rf -/
import Derived.Test.YtjgknelmjdallaaGreatDoorPrG22
import Derived.Test.YtjgknelmjdallaaGreatDoorPrG24
import Derived.Test.YtjgknelmjdallaaGreatDoorPrG23
import Derived.Test.YtjgknelmjdallaaGreatDoorPrG12
import Derived.Test.YtjgknelmjdallaaGreatDoorPrG20
import Derived.Test.YtjgknelmjdallaaGreatDoorPrG21
import Derived.ProofKit
import Derived.Lib.Hide
import Derived.Laws.BitsLemmas
import Derived.IntWalk
import Derived.Laws.Unary
set_option linter.unusedVariables false
set_option linter.unusedSimpArgs false
noncomputable section
namespace Go.Ax
open Go.RowKit Go.Proofs
set_option maxRecDepth 100000
def OkR {α:Type} (Q:α → Nat → Prop) (x:PR α):Prop:=∀ a j,x=.ok a j → Q a j
section
variable {α β:Type}
theorem OkR.ok {Q:α → Nat → Prop} {a:α} {j:Nat} (h:Q a j):OkR Q (.ok a j):=fun a' j' e=>by injection e with e1 e2; subst e1; subst e2; exact h
theorem OkR.bad {Q:α → Nat → Prop} {a e:Nat}:OkR Q (.bad a e:PR α):=fun a' j' e=>by cases e
theorem OkR.out {Q:α → Nat → Prop}:OkR Q (.out:PR α):=fun a' j' e=>by cases e
theorem OkR.bind {Q:α → Nat → Prop} {R:β → Nat → Prop} {x:PR α} {f:α → Nat → PR β} (h:OkR Q x) (hf:∀ a j,Q a j → OkR R (f a j)):OkR R (x.bind f):=by
 cases x with
 | ok a j=>exact hf a j (h a j rfl)
 | bad a e=>exact .bad
 | out=>exact .out
theorem OkR.ite {Q:α → Nat → Prop} {c:Prop} [Decidable c] {x y:PR α} (h1:c → OkR Q x) (h2:¬ c → OkR Q y):OkR Q (if c then x else y):=by
 by_cases h:c
 ·rw [if_pos h]; exact h1 h
 ·rw [if_neg h]; exact h2 h
end
def X8 (i:Nat) (e:PE) (j:Nat):Prop:=Fit e ∧ Gr e + i ≤ j
theorem Y8 (x:Int):-9223372036854775808 ≤ IntKind.i64.wrap x ∧ IntKind.i64.wrap x ≤ 9223372036854775807:=by
 unfold IntKind.wrap
 constructor <;> (simp [IntKind.bits,IntKind.signed]; try omega)
def vO (ts:List Tk):Prop:=∀ i,(tk ts i).kind=1 → (tk ts i).text.length ≤ 30
theorem wE (kind pos:Nat) (n:Int) (name:List UInt8) (off:Bool) (x:PE):Gr (.mk kind pos n name off [x])=1 + Gr x:=by rw [J1,Gi,Lh]; rfl
theorem wC (kind pos:Nat) (n:Int) (name:List UInt8) (off:Bool) (x y:PE):Gr (.mk kind pos n name off [x,y])=1 + (Gr x + Gr y):=by rw [J1,Gi,Gi,Lh]; rfl
theorem size3 (kind pos:Nat) (n:Int) (name:List UInt8) (off:Bool) (x y z:PE):Gr (.mk kind pos n name off [x,y,z])=1 + (Gr x + (Gr y + Gr z)):=by rw [J1,Gi,Gi,Gi,Lh]; rfl
theorem nI (kind pos:Nat) (n:Int) (name:List UInt8) (off:Bool):Gr (.mk kind pos n name off [])=1:=by rw [J1,Lh]
theorem in0:(-9223372036854775808:Int) ≤ 0 ∧ (0:Int) ≤ 9223372036854775807:=by decide
theorem fit0 (kind pos:Nat) {n:Int} {name:List UInt8} (off:Bool) (hn:-9223372036854775808 ≤ n ∧ n ≤ 9223372036854775807) (hm:name.length ≤ 30):Fit (.mk kind pos n name off []):=.mk _ _ _ _ _ _ hn hm (fun e h=>by cases h)
theorem fit1 (kind pos:Nat) {n:Int} {name:List UInt8} (off:Bool) {x:PE} (hn:-9223372036854775808 ≤ n ∧ n ≤ 9223372036854775807) (hm:name.length ≤ 30) (hx:Fit x):Fit (.mk kind pos n name off [x]):=.mk _ _ _ _ _ _ hn hm (fun e h=>by simp at h; subst h; exact hx)
theorem fit2 (kind pos:Nat) {n:Int} {name:List UInt8} (off:Bool) {x y:PE} (hn:-9223372036854775808 ≤ n ∧ n ≤ 9223372036854775807) (hm:name.length ≤ 30) (hx:Fit x) (hy:Fit y):Fit (.mk kind pos n name off [x,y]):=.mk _ _ _ _ _ _ hn hm (fun e h=>by simp at h; rcases h with rfl | rfl <;> assumption)
theorem fit3 (kind pos:Nat) {n:Int} {name:List UInt8} (off:Bool) {x y z:PE} (hn:-9223372036854775808 ≤ n ∧ n ≤ 9223372036854775807) (hm:name.length ≤ 30) (hx:Fit x) (hy:Fit y) (hz:Fit z):Fit (.mk kind pos n name off [x,y,z]):=.mk _ _ _ _ _ _ hn hm (fun e h=>by simp at h; rcases h with rfl | rfl | rfl <;> assumption)
section
variable {ts:List Tk} (hts:vO ts)
include hts
omit hts in
theorem Ey (ws:List (List UInt8)) (i:Nat):OkR (fun t j=>t=tk ts i ∧ j=i + 1 ∧ (tk ts i).text ∈ ws) (C7 ts ws i):=by
 unfold C7
 exact OkR.ite (fun h=>.ok ⟨rfl,rfl,h⟩) (fun _=>.bad)
omit hts in
theorem Jl (k i:Nat):OkR (fun t j=>t=tk ts i ∧ j=i + 1 ∧ (tk ts i).kind=k) (Fk ts k i):=by
 unfold Fk
 exact OkR.ite (fun h=>.ok ⟨rfl,rfl,h⟩) (fun _=>.bad)
theorem zC (i:Nat):OkR (fun c j=>c.1.length ≤ 30 ∧ i < j) (Hc ts i):=by
 unfold Hc
 refine OkR.ite (fun _=>?_) (fun _=>?_)
 ·exact (Jl 1 (i + 1)).bind fun a j e=>.ok ⟨by rw [e.1]; exact hts _ e.2.2,by omega⟩
 ·exact (Jl 1 i).bind fun a j e=>.ok ⟨by rw [e.1]; exact hts _ e.2.2,by omega⟩
omit hts in
theorem num_f (i:Nat):OkR (X8 i) (Kg ts i):=by
 unfold Kg
 split
 ·exact .out
 ·refine OkR.ite (fun _=>?_) (fun _=>?_)
  ·split
   ·exact .out
   ·exact OkR.ite (fun _=>.ok ⟨fit0 _ _ _ (Y8 _) (by simp),by rw [nI]; omega⟩) (fun _=>.bad)
  ·exact OkR.ite (fun _=>OkR.ite (fun _=>.bad) (fun _=>.ok ⟨fit0 _ _ _ (Y8 _) (by simp),by rw [nI]; omega⟩)) (fun _=>.bad)
omit hts in
theorem nV (ws:List (List UInt8)) (hws:∀ w ∈ ws,w.length ≤ 30) {kid:Nat → PR PE} (hk:∀ i,OkR (X8 i) (kid i)):∀ (n:Nat) (x:PE) (i k:Nat),X8 k x i → OkR (X8 k) (Jd ts ws kid n x i)
 | 0,_,_,_,_=>.out
 | n + 1,x,i,k,hx=>by
  unfold Jd
  refine OkR.ite (fun hm=>(hk (i + 1)).bind fun y j e=>?_) (fun _=>.ok hx)
  exact nV ws hws hk n _ j k ⟨fit2 _ _ _ in0 (hws _ hm) hx.1 e.1,by rw [wC]; have:=hx.2; have:=e.2; omega⟩
theorem when_f:∀ (n:Nat) (x:PE) (i k:Nat),X8 k x i → OkR (X8 k) (Jf ts n x i)
 | 0,_,_,_,_=>.out
 | n + 1,x,i,k,hx=>by
  unfold Jf
  refine OkR.ite (fun hm=>(zC hts (i + 1)).bind fun c j e=>?_) (fun _=>.ok hx)
  exact when_f n _ j k ⟨fit1 _ _ _ in0 e.1 hx.1,by rw [wE]; have:=hx.2; have:=e.2; omega⟩
def FitL (i:Nat) (l:List PE) (j:Nat):Prop:=(∀ e ∈ l,Fit e) ∧ Gr.sizeL l + i ≤ j
omit hts in
theorem aQ:∀ (l:List PE) (e:PE),Gr.sizeL (l ++ [e])=Gr.sizeL l + Gr e
 | [],e=>by rw [List.nil_append,Gi,Lh]; omega
 | a :: r,e=>by rw [List.cons_append,Gi,Gi,aQ r e]; omega
omit hts in
theorem sM {kid:Nat → PR PE} (hk:∀ i,OkR (X8 i) (kid i)):∀ (n:Nat) (l:List PE) (i k:Nat),FitL k l i → OkR (FitL k) (Gs ts kid n l i)
 | 0,_,_,_,_=>.out
 | n + 1,l,i,k,hl=>by
  unfold Gs
  refine OkR.ite (fun hm=>(hk (i + 1)).bind fun y j e=>?_) (fun _=>(Ey _ i).bind fun _ j e=>.ok ⟨hl.1,by have:=hl.2; have:=e.2.1; omega⟩)
  exact sM hk n _ j k ⟨fun x hx=>by simp at hx; rcases hx with h | rfl; exact hl.1 _ h; exact e.1,by rw [aQ]; have:=hl.2; have:=e.2; omega⟩
omit hts in
theorem qF {i k j:Nat} {x:PE} (h:X8 i x j) (hk:k ≤ i):FitL k [x] j:=⟨fun e he=>by simp at he; subst he; exact h.1,by rw [Gi,Lh]; have:=h.2; omega⟩
omit hts in
theorem list_f {kid:Nat → PR PE} (hk:∀ i,OkR (X8 i) (kid i)) (n i:Nat):OkR (fun l j=>FitL i l j ∧ i < j) (I5 ts kid n i):=by
 unfold I5
 refine (Ey _ i).bind fun _ j e=>?_
 have e1:=e.2.1; subst e1
 refine OkR.ite (fun _=>.ok ⟨⟨fun e h=>(by cases h),by rw [Lh]; omega⟩,by omega⟩) (fun _=>(hk _).bind fun x m e2=>?_)
 intro l j' hl
 have:=sM hk n [x] m (i + 1) (qF e2 (Nat.le_refl _)) l j' hl
 exact ⟨⟨this.1,by have:=this.2; omega⟩,by have:=this.2; omega⟩
omit hts in
theorem vV (i:Nat):X8 i (I2 (tk ts i)) (i + 1):=by
 unfold I2
 refine ⟨fit0 _ _ _ ?_ (by simp),by rw [nI]; omega⟩
 split <;> decide
theorem P_f:∀ (n:Nat) (nt:NT) (i:Nat),OkR (X8 i) (P ts n nt i)
 | 0,nt,i=>by cases nt <;> exact .out
 | n + 1,.expr,i=>by
  simp only [P]
  refine OkR.ite (fun _=>?_) (fun _=>P_f n .arrow i)
  refine (P_f n .expr (i + 1)).bind fun a j e1=>(Ey _ j).bind fun _ j' e2=>(P_f n .expr j').bind fun b j2 e3=>(Ey _ j2).bind fun _ j3 e4=>(P_f n .expr j3).bind fun c j4 e5=>.ok ⟨fit3 _ _ _ in0 (by simp) e1.1 e3.1 e5.1,?_⟩
  rw [size3]
  have:=e1.2; have:=e2.2.1; have:=e3.2; have:=e4.2.1; have:=e5.2; omega
 | n + 1,.arrow,i=>by
  simp only [P]
  refine (P_f n .or i).bind fun a j e1=>?_
  have two:∀ (k m:Nat) (b:PE),X8 (j + 1) b m → X8 i (.mk k (tk ts j).pos 0 [] false [a,b]) m:=fun k m b e2=>⟨fit2 _ _ _ in0 (by simp) e1.1 e2.1,by rw [wC]; have:=e1.2; have:=e2.2; omega⟩
  refine OkR.ite (fun _=>(P_f n .arrow (j + 1)).bind fun b m e2=>.ok (two _ _ _ e2)) (fun _=>?_)
  refine OkR.ite (fun _=>.ok e1) (fun _=>?_)
  exact OkR.ite (fun _=>(P_f n .arrow (j + 1)).bind fun b m e2=>.ok (two _ _ _ e2)) (fun _=>.ok e1)
 | n + 1,.or,i=>by
  simp only [P]
  exact (P_f n .and i).bind fun a j e1=>nV _ (by decide) (P_f n .and) n _ _ _ e1
 | n + 1,.and,i=>by
  simp only [P]
  exact (P_f n .not i).bind fun a j e1=>nV _ (by decide) (P_f n .not) n _ _ _ e1
 | n + 1,.not,i=>by
  simp only [P]
  refine OkR.ite (fun _=>(P_f n .not (i + 1)).bind fun a j e1=>.ok ⟨fit1 _ _ _ in0 (by simp) e1.1,by rw [wE]; have:=e1.2; omega⟩) (fun _=>?_)
  refine (P_f n .sum i).bind fun a j e1=>?_
  refine OkR.ite (fun hm=>(P_f n .sum (j + 1)).bind fun b m e2=>.ok ⟨fit2 _ _ _ in0 ?_ e1.1 e2.1,by rw [wC]; have:=e1.2; have:=e2.2; omega⟩) (fun _=>.ok e1)
  have h':∀ w ∈ ([[61],[60,62],[60],[60,61],[62],[62,61]]:List (List UInt8)),w.length ≤ 30:=by decide
  exact h' _ hm
 | n + 1,.sum,i=>by
  simp only [P]
  exact (P_f n .term i).bind fun a j e1=>nV _ (by decide) (P_f n .term) n _ _ _ e1
 | n + 1,.term,i=>by
  simp only [P]
  exact (P_f n .unary i).bind fun a j e1=>nV _ (by decide) (P_f n .unary) n _ _ _ e1
 | n + 1,.unary,i=>by
  simp only [P]
  refine OkR.ite (fun _=>(P_f n .unary (i + 1)).bind fun a j e1=>.ok ⟨fit1 _ _ _ in0 (by simp) e1.1,by rw [wE]; have:=e1.2; omega⟩) (fun _=>?_)
  refine OkR.ite (fun _=>num_f i) (fun _=>?_)
  exact OkR.ite (fun _=>(P_f n .unary (i + 1)).bind fun a j e1=>.ok ⟨fit1 _ _ _ in0 (by simp) e1.1,by rw [wE]; have:=e1.2; omega⟩) (fun _=>P_f n .when i)
 | n + 1,.when,i=>by
  simp only [P]
  exact (P_f n .primary i).bind fun a j e1=>when_f hts n _ _ _ e1
 | n + 1,.primary,i=>by
  simp only [P]
  refine OkR.ite (fun _=>num_f i) (fun _=>?_)
  refine OkR.ite (fun _=>P_f n .name i) (fun _=>?_)
  refine OkR.ite (fun _=>.ok (vV i)) (fun _=>?_)
  refine OkR.ite (fun _=>?_) (fun _=>?_)
  ·refine (Jl 1 (i + 1)).bind fun t j e=>(P_f n .brk j).bind fun a j2 e1=>(P_f n .brk j2).bind fun b j3 e2=>.ok ⟨fit2 _ _ _ in0 (by rw [e.1]; exact hts _ e.2.2) e1.1 e2.1,?_⟩
   rw [wC]; have:=e.2.1; have:=e1.2; have:=e2.2; omega
  refine OkR.ite (fun _=>?_) (fun _=>P_f n .brk i)
  refine (Jl 1 (i + 1)).bind fun t j e=>?_
  refine OkR.ite (fun _=>?_) (fun _=>.ok ⟨fit0 _ _ _ in0 (by rw [e.1]; exact hts _ e.2.2),by rw [nI]; have:=e.2.1; omega⟩)
  refine (Ey _ (j + 1)).bind fun _ j' e2=>(P_f n .lit j').bind fun a m e1=>?_
  refine (sM (P_f n .lit) n [a] m j' (qF e1 (Nat.le_refl _))).bind fun l m e3=>.ok ⟨.mk _ _ _ _ _ _ in0 (by rw [e.1]; exact hts _ e.2.2) e3.1,?_⟩
  rw [J1]; have:=e.2.1; have:=e2.2.1; have:=e3.2; omega
 | n + 1,.name,i=>by
  simp only [P]
  exact OkR.ite (fun _=>P_f n .call i) (fun _=>(Jl 1 i).bind fun t j e=>.ok ⟨fit0 _ _ _ in0 (by rw [e.1]; exact hts _ e.2.2),by rw [nI]; have:=e.2.1; omega⟩)
 | n + 1,.call,i=>by
  simp only [P]
  refine (Jl 1 i).bind fun t j e=>(list_f (P_f n .expr) n j).bind fun l m e2=>.ok ⟨.mk _ _ _ _ _ _ in0 (by rw [e.1]; exact hts _ e.2.2) e2.1.1,?_⟩
  rw [J1]; have:=e.2.1; have:=e2.1.2; omega
 | n + 1,.brk,i=>by
  simp only [P]
  refine (Ey _ i).bind fun _ j e0=>(P_f n .expr j).bind fun a j2 e1=>(Ey _ j2).bind fun _ j3 e2=>.ok ⟨e1.1,?_⟩
  have:=e0.2.1; have:=e1.2; have:=e2.2.1; omega
 | n + 1,.lit,i=>by
  simp only [P]
  exact OkR.ite (fun _=>.ok (vV i)) (fun _=>num_f i)
end
end Go.Ax
noncomputable section
namespace Go.Ax
open Go.RowKit Go.Proofs
set_option maxRecDepth 100000
def N6 {α:Type} (G:α → Prop) (k:Nat) (l:List α) (j:Nat):Prop:=(∀ x ∈ l,G x) ∧ l.length + k ≤ j
theorem N6.snoc {α:Type} {G:α → Prop} {k i j:Nat} {l:List α} {a:α} (h:N6 G k l i) (ha:G a) (hij:i < j):N6 G k (l ++ [a]) j :=
 ⟨fun x hx=>by simp at hx; rcases hx with hx | rfl; exact h.1 _ hx; exact ha,by have:=h.2; simp; omega⟩
theorem N6.one {α:Type} {G:α → Prop} {k j:Nat} {a:α} (ha:G a) (hij:k < j):N6 G k [a] j:=⟨fun x hx=>by simp at hx; subst hx; exact ha,by simp; omega⟩
def rE (j:Nat) (q:PQ):Prop:=q.left.length ≤ j ∧ (∀ x ∈ q.left,x.1.length ≤ 30) ∧ Fit q.e ∧ Gr q.e ≤ j
theorem rE.mono {i j:Nat} {q:PQ} (h:rE i q) (hij:i ≤ j):rE j q:=⟨Nat.le_trans h.1 hij,h.2.1,h.2.2.1,Nat.le_trans h.2.2.2 hij⟩
def X6 (j:Nat) (n:PN):Prop:=(n.ins.length ≤ j ∧ ∀ x ∈ n.ins,Rg x) ∧ (n.outs.length ≤ j ∧ ∀ x ∈ n.outs,Rg x) ∧ (n.vars.length ≤ j ∧ ∀ x ∈ n.vars,Rg x) ∧ n.eqs.length ≤ j ∧ (∀ q ∈ n.eqs,rE j q) ∧ n.name.length ≤ 30
theorem X6.mono {i j:Nat} {n:PN} (h:X6 i n) (hij:i ≤ j):X6 j n:=⟨⟨Nat.le_trans h.1.1 hij,h.1.2⟩,⟨Nat.le_trans h.2.1.1 hij,h.2.1.2⟩,⟨Nat.le_trans h.2.2.1.1 hij,h.2.2.1.2⟩,Nat.le_trans h.2.2.2.1 hij,fun q hq=>(h.2.2.2.2.1 q hq).mono hij,h.2.2.2.2.2⟩
section
variable {ts:List Tk} (hts:vO ts)
include hts
theorem vC (i:Nat):OkR (fun d j=>Rg d ∧ i < j) (He ts i):=by
 unfold He
 refine (Jl 1 i).bind fun t j e=>(Ey _ j).bind fun _ j2 e2=>?_
 have hn:t.text.length ≤ 30:=by rw [e.1]; exact hts _ e.2.2
 refine OkR.ite (fun _=>?_) (fun _=>?_)
 ·exact (Ey _ (j2 + 1)).bind fun a m e3=>.ok ⟨⟨hn,by simp⟩,by have:=e.2.1; have:=e2.2.1; have:=e3.2.1; omega⟩
 ·exact (Ey _ j2).bind fun a m e3=>.ok ⟨⟨hn,by simp⟩,by have:=e.2.1; have:=e2.2.1; have:=e3.2.1; omega⟩
theorem iV (i:Nat):OkR (fun d j=>Rg d ∧ i < j) (Fi ts i):=by
 unfold Fi
 refine (vC hts i).bind fun a j e=>?_
 refine OkR.ite (fun _=>?_) (fun _=>?_)
 ·exact (zC hts (j + 1)).bind fun c j2 e2=>(Ey _ j2).bind fun _ j3 e3=>.ok ⟨⟨e.1.1,e2.1⟩,by have:=e.2; have:=e2.2; have:=e3.2.1; omega⟩
 ·exact (Ey _ j).bind fun _ j3 e3=>.ok ⟨e.1,by have:=e.2; have:=e3.2.1; omega⟩
theorem lG (i:Nat):OkR (fun x j=>x.1.length ≤ 30 ∧ i < j) (G1 ts i):=by
 unfold G1
 exact (Jl 1 i).bind fun t j e=>.ok ⟨by rw [e.1]; exact hts _ e.2.2,by have:=e.2.1; omega⟩
omit hts in
theorem kO {α:Type} {G:α → Prop} {kid:Nat → PR α} (hk:∀ i,OkR (fun a j=>G a ∧ i < j) (kid i)):∀ (n:Nat) (l:List α) (i k:Nat),N6 G k l i → OkR (fun l j=>N6 G k l j ∧ i < j) (Gb ts kid n l i)
 | 0,_,_,_,_=>.out
 | n + 1,l,i,k,hl=>by
  unfold Gb
  refine OkR.ite (fun _=>(hk (i + 1)).bind fun a j e=>?_) (fun _=>(Ey _ i).bind fun _ j e=>.ok ⟨⟨hl.1,by have:=hl.2; have:=e.2.1; omega⟩,by have:=e.2.1; omega⟩)
  intro l' j' h'
  have:=kO hk n _ j k (hl.snoc e.1 (by have:=e.2; omega)) l' j' h'
  exact ⟨this.1,by have:=this.2; have:=e.2; omega⟩
omit hts in
theorem xN {α:Type} {G:α → Prop} {kid:Nat → PR α} (hk:∀ i,OkR (fun a j=>G a ∧ i < j) (kid i)) (n i:Nat):OkR (fun l j=>N6 G i l j ∧ i < j) (Iw ts kid n i):=by
 unfold Iw
 refine (Ey _ i).bind fun _ j e=>?_
 refine OkR.ite (fun _=>.ok ⟨⟨fun x h=>(by cases h),by have:=e.2.1; simp; omega⟩,by have:=e.2.1; omega⟩) (fun _=>(hk j).bind fun a m e2=>?_)
 intro l' j' h'
 have:=kO hk n [a] m i (N6.one e2.1 (by have:=e2.2; have:=e.2.1; omega)) l' j' h'
 exact ⟨this.1,by have:=this.2; have:=e2.2; have:=e.2.1; omega⟩
theorem vars_f:∀ (n:Nat) (l:List PD) (i k:Nat),N6 Rg k l i → OkR (fun l j=>N6 Rg k l j ∧ i ≤ j) (Iu ts n l i)
 | 0,_,_,_,_=>.out
 | n + 1,l,i,k,hl=>by
  unfold Iu
  refine OkR.ite (fun _=>(iV hts i).bind fun a j e=>?_) (fun _=>.ok ⟨hl,Nat.le_refl _⟩)
  intro l' j' h'
  have:=vars_f n _ j k (hl.snoc e.1 e.2) l' j' h'
  exact ⟨this.1,by have:=this.2; have:=e.2; omega⟩
theorem lefts_f (n i:Nat):OkR (fun l j=>N6 (fun x:List UInt8 × Nat=>x.1.length ≤ 30) i l j ∧ i < j) (Ib ts n i):=by
 unfold Ib
 refine OkR.ite (fun _=>(lG hts i).bind fun a j e=>.ok ⟨.one e.1 e.2,e.2⟩) (fun _=>?_)
 refine (Ey _ i).bind fun _ j e0=>(lG hts j).bind fun a j2 e1=>(Ey _ j2).bind fun _ j3 e2=>?_
 have H:OkR (fun l j'=>N6 (fun x:List UInt8 × Nat=>x.1.length ≤ 30) j3 l j' ∧ j3 < j') ((G1 ts j3).bind fun y m=>Gb ts (G1 ts) n [y] m):=by
  refine (lG hts j3).bind fun c m e3=>?_
  intro l' j' h'
  have:=kO (lG hts) n [c] m j3 (N6.one e3.1 e3.2) l' j' h'
  exact ⟨this.1,by have:=this.2; have:=e3.2; omega⟩
 refine H.bind fun l m e3=>.ok ⟨⟨fun x hx=>?_,?_⟩,?_⟩
 ·simp at hx; rcases hx with rfl | hx; exact e1.1; exact e3.1.1 _ hx
 ·have:=e3.1.2; have:=e0.2.1; have:=e1.2; have:=e2.2.1; simp; omega
 ·have:=e3.2; have:=e0.2.1; have:=e1.2; have:=e2.2.1; omega
omit hts in
theorem fN {Q:PE → Nat → Prop} {kid:Nat → PR PE} {i:Nat} (hk:OkR Q (kid i)):OkR Q (F2 kid i):=by
 unfold F2
 exact hk.bind fun a j e=>OkR.ite (fun _=>.bad) (fun _=>.ok e)
theorem eq_f (n i:Nat):OkR (fun q j=>rE j q ∧ i < j) (eqP ts n i):=by
 unfold eqP
 refine (lefts_f hts n i).bind fun l j e1=>(Ey _ j).bind fun _ j2 e2=>?_
 have h1:=e1.1.2; have h2:=e2.2.1
 refine OkR.ite (fun _=>?_) (fun _=>?_)
 ·refine (fN (P_f hts n .call (j2 + 1))).bind fun a m e3=>(Ey _ m).bind fun _ m2 e4=>?_
  have h3:=e3.2; have h4:=e4.2.1
  refine .ok ⟨⟨?_,e1.1.1,e3.1,?_⟩,?_⟩
  ·show l.length ≤ m2; omega
  ·show Gr a ≤ m2; omega
  ·omega
 ·refine (fN (P_f hts n .expr j2)).bind fun a m e3=>(Ey _ m).bind fun _ m2 e4=>?_
  have h3:=e3.2; have h4:=e4.2.1
  refine .ok ⟨⟨?_,e1.1.1,e3.1,?_⟩,?_⟩
  ·show l.length ≤ m2; omega
  ·show Gr a ≤ m2; omega
  ·omega
theorem eqs_f (N:Nat):∀ (n:Nat) (l:List PQ) (i k:Nat),(∀ q ∈ l,rE i q) → l.length + k ≤ i → OkR (fun l j=>(∀ q ∈ l,rE j q) ∧ l.length + k ≤ j ∧ i ≤ j) (Ny ts N n l i)
 | 0,_,_,_,_,_=>.out
 | n + 1,l,i,k,hl,hk=>by
  unfold Ny
  refine OkR.ite (fun _=>.ok ⟨hl,hk,Nat.le_refl _⟩) (fun _=>(eq_f hts N i).bind fun a j e=>?_)
  have hij:=e.2
  intro l' j' h'
  have:=eqs_f N n _ j k (fun q hq=>by simp at hq; rcases hq with hq | rfl; exact (hl q hq).mono (by omega); exact e.1) (by simp; omega) l' j' h'
  exact ⟨this.1,this.2.1,by have:=this.2.2; omega⟩
theorem varsQ_f (n i:Nat):OkR (fun l j=>N6 Rg i l j ∧ i ≤ j) (Lo ts n i):=by
 unfold Lo
 refine OkR.ite (fun _=>(iV hts (i + 1)).bind fun a m e=>?_) (fun _=>.ok ⟨⟨fun x h=>(by cases h),by simp⟩,Nat.le_refl _⟩)
 intro l' j' h'
 have:=vars_f hts n [a] m i (N6.one e.1 (by have:=e.2; omega)) l' j' h'
 exact ⟨this.1,by have:=this.2; have:=e.2; omega⟩
theorem node_f (n i:Nat):OkR (fun x j=>X6 j x ∧ i < j) (Jg ts n i):=by
 unfold Jg
 refine (Ey _ i).bind fun _ j0 e0=>(Jl 1 j0).bind fun t j1 e1=>(xN (vC hts) n j1).bind fun a j2 e2=>?_
 refine (Ey _ j2).bind fun _ j3 e3=>(xN (vC hts) n j3).bind fun b j4 e4=>(varsQ_f hts n j4).bind fun c j5 e5=>?_
 refine (Ey _ j5).bind fun _ j6 e6=>(eqs_f hts n n [] j6 j6 (fun q h=>by cases h) (by simp)).bind fun d j7 e7=>(Ey _ j7).bind fun _ j8 e8=>?_
 have h0:=e0.2.1; have h1:=e1.2.1; have h2:=e2.2; have h2':=e2.1.2; have h3:=e3.2.1; have h4:=e4.2; have h4':=e4.1.2; have h5:=e5.2; have h5':=e5.1.2; have h6:=e6.2.1; have h7:=e7.2.2; have h7':=e7.2.1; have h8:=e8.2.1
 refine .ok ⟨⟨⟨?_,e2.1.1⟩,⟨?_,e4.1.1⟩,⟨?_,e5.1.1⟩,?_,fun q hq=>(e7.1 q hq).mono (by omega),by show t.text.length ≤ 30; rw [e1.1]; exact hts _ e1.2.2⟩,by omega⟩
 ·show a.length ≤ j8; omega
 ·show b.length ≤ j8; omega
 ·show c.length ≤ j8; omega
 ·show d.length ≤ j8; omega
theorem prog_f (N:Nat):∀ (n:Nat) (l:List PN) (i k:Nat),(∀ x ∈ l,X6 i x) → l.length + k ≤ i → OkR (fun l j=>(∀ x ∈ l,X6 j x) ∧ l.length + k ≤ j) (Jt ts N n l i)
 | 0,_,_,_,_,_=>.out
 | n + 1,l,i,k,hl,hk=>by
  unfold Jt
  refine OkR.ite (fun _=>(node_f hts N i).bind fun a j e=>?_) (fun _=>.ok ⟨hl,hk⟩)
  have hij:=e.2
  exact prog_f N n _ j k (fun q hq=>by simp at hq; rcases hq with hq | rfl; exact (hl q hq).mono (by omega); exact e.1) (by simp; omega)
theorem program_f (n:Nat):OkR (fun l j=>(∀ x ∈ l,X6 j x) ∧ l.length ≤ j) (Eh ts n 0):=by
 unfold Eh
 refine (node_f hts n 0).bind fun a j e=>?_
 have:=prog_f hts n n [a] j 0 (fun q hq=>by simp at hq; subst hq; exact e.1) (by simp; omega)
 exact fun l j' h'=>by have:=this l j' h'; exact ⟨this.1,by have:=this.2; omega⟩
end
theorem next_name {l:List UInt8} {i:Nat} {t:Tk} (h:Hf l i=some (t,0)):t.kind=1 → t.text.length ≤ 30:=by
 intro hk
 cases l with
 | nil=>cases h
 | cons b r =>
  unfold Hf at h
  simp only at h
  split at h
  ·injection h with h
   unfold Ln at h
   split at h
   ·injection h with h1 h2; subst h1; cases hk
   ·split at h
    ·injection h with h1 h2; cases h2
    ·rename_i h30
     injection h with h1 h2; subst h1
     show (List.take _ _).length ≤ 30
     rw [List.length_take]; omega
  ·split at h
   ·unfold Ul at h
    split at h
    ·injection h with h; injection h with h1 h2; cases h2
    ·split at h
     ·split at h
      ·injection h with h; injection h with h1 h2; cases h2
      ·injection h with h; injection h with h1 h2; subst h1; cases hk
     ·injection h with h; injection h with h1 h2; cases h2
   ·injection h with h
    unfold Kp at h
    split at h
    ·injection h with h1 h2; subst h1; cases hk
    ·injection h with h1 h2; cases h2
theorem iD:∀ {ts:List Tk},FromLex ts → vO ts
 | _,.last t h=>fun i hi=>by
  cases i with
  | zero=>show t.text.length ≤ 30; rw [h.2.1]; simp
  | succ i=>show C1.text.length ≤ 30; decide
 | _,.cons t r l a h hr=>fun i hi=>by
  cases i with
  | zero=>exact next_name h hi
  | succ i=>exact iD hr i hi
theorem sN {l:List UInt8} {ts:List Tk} (h:Jz l=some (.inr ts)) {n:Nat} {ns:List PN} (hr:J6 n (.inr ts)=some (.inl ns)):∃ j,Eh ts n 0=.ok ns j ∧ (∀ x ∈ ns,X6 j x) ∧ ns.length ≤ j:=by
 have hf:=program_f (iD (Xh h)) n
 unfold J6 at hr
 simp only at hr
 cases hx:Eh ts n 0 with
 | out=>rw [hx] at hr; cases hr
 | bad a e=>rw [hx] at hr; injection hr with hr; cases hr
 | ok l2 j =>
  rw [hx] at hr
  simp only at hr
  split at hr
  ·injection hr with hr; injection hr with hr; subst hr
   exact ⟨j,rfl,hf _ _ hx⟩
  ·injection hr with hr; cases hr
end Go.Ax
noncomputable section
namespace Go.Ax
open Go.RowKit Go.Proofs
set_option maxRecDepth 100000
theorem sO {w:World} {a:AV} {l:List PD} (hr:Ik 6 Gt a l) {v:Value} (h:VR (GhW w) w a v):RdD w w.heap.size v l:=by
 obtain ⟨p,c,e⟩:=vr_row hr h
 exact ⟨p,c,e,a,h,hr⟩
theorem rdN_of {w:World} {v:AV} {l:List PN} (hp:Nx v l) {x:Value} (h:VR (GhW w) w v x):RdN w w.heap.size 0 x (l.map Mk):=by
 obtain ⟨tok,off,es,rfl,hn⟩:=hp
 obtain ⟨hlen,hat⟩:=hn.at
 cases h with
 | sl _ _ _ _ b o cap c hsz hes h1 hc hr ht hf hcap hb =>
  obtain ⟨arr,T,fr,ha,_⟩:=hb
  have hbk:b < w.heap.size:=(Array.getElem?_eq_some_iff.1 ha).1
  refine ⟨_,cap,by rw [List.length_map,hlen],.inr ⟨b,o,rfl,hbk,fun i hi=>?_⟩⟩
  rw [List.length_map] at hi
  obtain ⟨y,hy,hq⟩:=hat i hi
  simp only [List.getElem_map]
  generalize l[i]=Q at hq
  obtain ⟨a,a2,a3,a4,es4,rfl,d1,d2,d3,d4,d5⟩:=hq
  have at_:∀ k z,(AV.agg (Ij Q.name Q.pos a a2 a3 a4)).cells[k]? = some z → k < 6 → ∃ v,w.cell? ⟨b,o + i * 6 + k,none⟩=some v ∧ VR (GhW w) w z v:=fun k z hka hk8=>cellAt hes hc hr hy hk8 hka
  obtain ⟨v0,c0,r0⟩:=at_ 0 (Cj Q.name) rfl (by omega)
  obtain ⟨v1,c1,r1⟩:=at_ 1 (Du Q.pos) rfl (by omega)
  obtain ⟨v2,c2,r2⟩:=at_ 2 a rfl (by omega)
  obtain ⟨v3,c3,r3⟩:=at_ 3 a2 rfl (by omega)
  obtain ⟨v4,c4,r4⟩:=at_ 4 a3 rfl (by omega)
  obtain ⟨v5,c5,r5⟩:=at_ 5 a4 rfl (by omega)
  have e0:=vr_str r0; subst e0
  have e1:=jS r1; subst e1
  exact ⟨v2,v3,v4,v5,⟨c0,c1,c2,c3,c4,c5⟩,sO d1 r2,sO d2 r3,sO d3 r4,rdQ_of d4 d5 r5⟩
theorem qS {α:Type} {f:α → ByteArray} {m:Nat}:∀ (l:List α) (a:ByteArray),(∀ x ∈ l,(f x).size ≤ m) → ((l.map f).foldl (· ++ ·) a).size ≤ a.size + l.length * m
 | [],a,_=>by simp
 | x :: r,a,h=>by
  have ih:=qS r (a ++ f x) (fun y hy=>h y (List.mem_cons_of_mem _ hy))
  have h1:=h x (List.mem_cons_self ..)
  rw [List.map_cons,List.foldl_cons]
  rw [ByteArray.size_append] at ih
  rw [List.length_cons,Nat.succ_mul]
  omega
theorem qT {α:Type} {f:α → ByteArray} {m:Nat} (l:List α) (h:∀ x ∈ l,(f x).size ≤ m):(Ld (l.map f)).size ≤ l.length * m:=by
 have:=qS l ⟨#[]⟩ h
 unfold Ld
 have e:(⟨#[]⟩:ByteArray).size=0:=rfl
 omega
theorem vF {l:List PD} (hl:l.length ≤ 1600) (hf:∀ x ∈ l,Rg x) (sep:ByteArray) (hs:sep.size ≤ 2):(dS l sep).size ≤ 136000:=by
 have:=Vz (m:=83) sep.data.toList (l.map G4) (fun w hw=>by
  obtain ⟨d,hd,rfl⟩:=List.mem_map.1 hw
  exact iO (hf d hd))
 rw [List.length_map] at this
 have h3:sep.data.toList.length=sep.size:=rfl
 have h2:l.length * (83 + sep.data.toList.length) ≤ 1600 * 85:=Nat.mul_le_mul hl (by omega)
 show (Jb l sep.data.toList).length ≤ 136000
 unfold Jb
 omega
theorem eqL_len {q:PQ} (h:rE 1600 q):(eqL 0 q).size ≤ 220000:=by
 have h1:=Vz (m:=30) [44,32] (q.left.map (·.1)) (fun w hw=>by
  obtain ⟨d,hd,rfl⟩:=List.mem_map.1 hw
  exact h.2.1 d hd)
 rw [List.length_map] at h1
 have h2:q.left.length * (30 + ([44,32]:List UInt8).length) ≤ 1600 * 32:=Nat.mul_le_mul h.1 (by simp)
 have h3:=Z6 h.2.2.1
 have h4:=h.2.2.2
 have h5:(Kq q.left).length ≤ 51202:=by unfold Kq; split <;> first | omega | (simp only [List.length_append,List.length_cons,List.length_nil]; omega)
 have h6:(eqT q).length ≤ 211300:=by unfold eqT; split <;> simp only [List.length_append,List.length_cons,List.length_nil] <;> omega
 have e:(eqL 0 q).size=2 + (eqT q).length + 2:=by
  unfold eqL
  rw [ByteArray.size_append,ByteArray.size_append]
  rfl
 omega
theorem nodeT_len {n:PN} (h:X6 1600 n):(Iv 0 (Mk n)).size ≤ 400000000:=by
 obtain ⟨⟨a1,a2⟩,⟨b1,b2⟩,⟨c1,c2⟩,d1,d2,d3⟩:=h
 have h1:=vF a1 a2 ⟨#[44,32]⟩ (by decide)
 have h2:=vF b1 b2 ⟨#[44,32]⟩ (by decide)
 have h3:=vF c1 c2 ⟨#[59,32]⟩ (by decide)
 have h4:=qT (f:=eqL 0) (m:=220000) n.eqs (fun q hq=>eqL_len (d2 q hq))
 have h5:n.eqs.length * 220000 ≤ 1600 * 220000:=Nat.mul_le_mul d1 (Nat.le_refl _)
 have e1:(Lk (Mk n)).size=5 + n.name.length + 1 + (dS n.ins ⟨#[44,32]⟩).size + 11 + (dS n.outs ⟨#[44,32]⟩).size + 2:=by
  unfold Lk
  simp only [ByteArray.size_append]
  rfl
 have e2:(Ru (Mk n)).size ≤ 4 + (dS n.vars ⟨#[59,32]⟩).size + 2:=by
  unfold Ru
  split
  ·simp only [ByteArray.size_append]
   exact Nat.le_refl _
  ·show 0 ≤ _
   omega
 unfold Iv
 simp only [ByteArray.size_append]
 have e3:(⟨#[108,101,116,10]⟩:ByteArray).size=4:=rfl
 have e4:(⟨#[116,101,108,10]⟩:ByteArray).size=4:=rfl
 have e5:(Mk n).eqs=n.eqs:=rfl
 rw [e3,e4,e5,e1]
 omega
theorem oJ {w:World} (hg:GR (GhW w) w gF) {v:AV} {l:List PN} (hp:Nx v l) (hfit:∀ n ∈ l,X6 1600 n) (hl:l.length ≤ 1600) {x:Value} (h:VR (GhW w) w v x) :
  Calls Tryz.prog 20 #[x] w fun e w'=>e=.returned (.string (Mi l)) ∧ Below w.heap.size w w':=by
 have hz:(Uj 0 (l.map Mk)).size ≤ 100000000000000:=by
  have h1:=qT (f:=Iv 0) (m:=400000000) (l.map Mk) (fun x hx=>by
   obtain ⟨n,hn,rfl⟩:=List.mem_map.1 hx
   exact nodeT_len (hfit n hn))
  rw [List.length_map] at h1
  have h2:l.length * 400000000 ≤ 1600 * 400000000:=Nat.mul_le_mul hl (Nat.le_refl _)
  unfold Uj
  omega
 refine print_any x (l.map Mk) w w.heap.size 0 (by omega) (Nat.le_refl _) hg (rdN_of hp h) (fun y hy=>?_) (by rw [List.length_map]; exact hl) hz
 obtain ⟨n,hn,rfl⟩:=List.mem_map.1 hy
 obtain ⟨a,b,c,d1,d2,d3⟩:=hfit n hn
 exact ⟨a,b,c,d1,fun q hq=>⟨Nat.le_trans (d2 q hq).1 (by omega),(d2 q hq).2.1,(d2 q hq).2.2.1,Nat.le_trans (d2 q hq).2.2.2 (by omega)⟩⟩
theorem dI {a b:PE} (h:LikeE a b):Ea a=Ea b ∧ Lj a=Lj b:=by cases h; exact ⟨rfl,rfl⟩
mutual
theorem fC:∀ {a b:PE},LikeE a b → Fz a=Fz b
 | _,_,.mk kind _ _ n name off l m h=>by
  show U5 kind n name off (Cx l)=U5 kind n name off (Cx m)
  rw [gZ h]
theorem gZ:∀ {l m:List PE},LikeL l m → Cx l=Cx m
 | _,_,.nil=>rfl
 | _,_,.cons a b l m h h2=>by
  show (⟨Fz a,Ea a,Lj a⟩:KI) :: Cx l=⟨Fz b,Ea b,Lj b⟩ :: Cx m
  rw [fC h,gZ h2,(dI h).1,(dI h).2]
end
theorem Each2.map_eq {α β γ:Type} {R:α → β → Prop} {f:α → γ} {g:β → γ} (hfg:∀ a b,R a b → f a=g b):∀ {l:List α} {m:List β},Each2 R l m → l.map f=m.map g
 | _,_,.nil=>rfl
 | _,_,.cons a b l m h h2=>by rw [List.map_cons,List.map_cons,hfg a b h,h2.map_eq hfg]
theorem Each2.len {α β:Type} {R:α → β → Prop}:∀ {l:List α} {m:List β},Each2 R l m → l.length=m.length
 | _,_,.nil=>rfl
 | _,_,.cons a b l m h h2=>by rw [List.length_cons,List.length_cons,h2.len]
theorem Each2.mem {α β:Type} {R:α → β → Prop}:∀ {l:List α} {m:List β},Each2 R l m → ∀ b ∈ m,∃ a ∈ l,R a b
 | _,_,.cons a b l m h h2,x,hx=>by
  rcases List.mem_cons.1 hx with rfl | hx
  ·exact ⟨a,List.mem_cons_self ..,h⟩
  ·obtain ⟨y,hy,hr⟩:=h2.mem x hx
   exact ⟨y,List.mem_cons_of_mem _ hy,hr⟩
theorem vE {a b:PD} (h:N7 a b):G4 a=G4 b:=by
 obtain ⟨h1,h2,h3,h4,h5⟩:=h
 unfold G4
 rw [h1,h2,h3,h4,h5]
theorem Uu {l m:List PD} (h:Each2 N7 l m) (sep:ByteArray):dS l sep=dS m sep:=by
 unfold dS Jb
 rw [h.map_eq (f:=G4) (g:=G4) (fun a b=>vE)]
theorem eqT_like {a b:PQ} (h:Y2 a b):eqL 0 a=eqL 0 b:=by
 obtain ⟨h1,h2,h3⟩:=h
 unfold eqL eqTB eqT Kq
 have e:=h1.map_eq (f:=fun x:List UInt8 × Nat=>x.1) (g:=fun x:List UInt8 × Nat=>x.1) (fun a b e=>e)
 rw [fC h3,h2,h1.len,e]
theorem bQ {a b:PN} (h:Qn a b):Iv 0 (Mk a)=Iv 0 (Mk b):=by
 obtain ⟨h1,h2,h3,h4,h5⟩:=h
 have e1:Lk (Mk a)=Lk (Mk b):=by
  unfold Lk Mk
  simp only
  rw [h1,Uu h2,Uu h3]
 have e2:Ru (Mk a)=Ru (Mk b):=by
  unfold Ru Mk
  simp only
  rw [h4.len,Uu h4]
 have e3:(Mk a).eqs.map (eqL 0)=(Mk b).eqs.map (eqL 0):=h5.map_eq (f:=eqL 0) (g:=eqL 0) (fun x y=>eqT_like)
 unfold Iv
 rw [e1,e2,e3]
theorem bC {l m:List PN} (h:Each2 Qn l m):Mi l=Mi m:=by
 unfold Mi Uj
 rw [List.map_map,List.map_map,h.map_eq (f:=Iv 0 ∘ Mk) (g:=Iv 0 ∘ Mk) (fun a b=>bQ)]
mutual
theorem qE:∀ {a b:PE},LikeE a b → Fit a → Fit b ∧ Gr b=Gr a
 | _,_,.mk kind _ _ n name off l m h,hf=>by
  obtain ⟨hn,hm,hk⟩:(-9223372036854775808 ≤ n ∧ n ≤ 9223372036854775807) ∧ name.length ≤ 30 ∧ (∀ e ∈ l,Fit e):=by cases hf; exact ⟨‹_›,‹_›,‹_›⟩
  obtain ⟨q1,q2⟩:=iJ h hk
  exact ⟨.mk _ _ _ _ _ _ hn hm q1,by rw [J1,J1,q2]⟩
theorem iJ:∀ {l m:List PE},LikeL l m → (∀ e ∈ l,Fit e) → (∀ e ∈ m,Fit e) ∧ Gr.sizeL m=Gr.sizeL l
 | _,_,.nil,_=>⟨fun e h=>(by cases h),rfl⟩
 | _,_,.cons a b l m h h2,hf=>by
  obtain ⟨q1,q2⟩:=qE h (hf a (List.mem_cons_self ..))
  obtain ⟨q3,q4⟩:=iJ h2 (fun e he=>hf e (List.mem_cons_of_mem _ he))
  exact ⟨fun e he=>by rcases List.mem_cons.1 he with rfl | he; exact q1; exact q3 e he,by rw [Gi,Gi,q2,q4]⟩
end
theorem Xp {l m:List PD} (h:Each2 N7 l m) {k:Nat} (hf:l.length ≤ k ∧ ∀ x ∈ l,Rg x):m.length ≤ k ∧ ∀ x ∈ m,Rg x :=
 ⟨by rw [← h.len]; exact hf.1,fun x hx=>by
  obtain ⟨a,ha,hr⟩:=h.mem x hx
  have:=hf.2 a ha
  exact ⟨by rw [← hr.1]; exact this.1,by rw [← hr.2.2.2.1]; exact this.2⟩⟩
theorem gN {a b:PN} (h:Qn a b) {k:Nat} (hf:X6 k a):X6 k b:=by
 obtain ⟨h1,h2,h3,h4,h5⟩:=h
 obtain ⟨f1,f2,f3,f4,f5,f6⟩:=hf
 refine ⟨Xp h2 f1,Xp h3 f2,Xp h4 f3,by rw [← h5.len]; exact f4,fun q hq=>?_,by rw [← h1]; exact f6⟩
 obtain ⟨p,hp,hr⟩:=h5.mem q hq
 obtain ⟨g1,g2,g3,g4⟩:=f5 p hp
 obtain ⟨r1,r2,r3⟩:=hr
 obtain ⟨s1,s2⟩:=qE r3 g3
 refine ⟨by rw [← r1.len]; exact g1,fun x hx=>?_,s1,by rw [s2]; exact g4⟩
 obtain ⟨y,hy,hyr⟩:=r1.mem x hx
 rw [← hyr]; exact g2 y hy
end Go.Ax
noncomputable section
namespace Go.Ax
open Go.RowKit
mutual
def clean:AV → AV
 | .sl _ _ sz es=>.sl 0 0 sz (Hv es)
 | .agg cs=>.agg (Hv cs)
 | .tup vs=>.tup (Hv vs)
 | .v x=>.v x
 | .nilp=>.nilp
 | .nils=>.nils
 | .nilm=>.nilm
 | .ptr a b=>.ptr a b
 | .ep cs=>.ep cs
 | .map id=>.map id
 | .fn f a b=>.fn f a b
 | .iface t x=>.iface t x
 | .bs a b c d=>.bs a b c d
def Hv:List AV → List AV
 | []=>[]
 | a :: r=>clean a :: Hv r
end
mutual
def J8:AV → Bool
 | .sl _ _ _ es=>I8 es
 | .agg cs=>I8 cs
 | .tup vs=>I8 vs
 | .v _=>true
 | .nilp=>true
 | .nils=>true
 | .nilm=>true
 | .ptr _ _=>false
 | .ep _=>false
 | .map _=>false
 | .fn _ _ _=>false
 | .iface _ _=>false
 | .bs _ _ _ _=>false
def I8:List AV → Bool
 | []=>true
 | a :: r=>J8 a && I8 r
end
theorem Mt:∀ es,Hv es=es.map clean
 | []=>rfl
 | a :: r=>by rw [Hv,Mt r]; rfl
theorem Qe:∀ {es},I8 es=true → ∀ a ∈ es,J8 a=true
 | [],_,a,h=>by cases h
 | b :: r,h,a,ha=>by
  rw [I8,Bool.and_eq_true] at h
  rcases List.mem_cons.1 ha with rfl | ha
  ·exact h.1
  ·exact Qe h.2 a ha
theorem iY (a:AV):(clean a).one=a.one:=by cases a <;> rfl
theorem Yx (a:AV):(clean a).cells=a.cells.map clean:=by
 cases a <;> first | rfl | skip
 ·show Hv _=_; rw [Mt]; rfl
theorem Q6:∀ es:List AV,Dx (es.map clean)=(Dx es).map clean
 | []=>rfl
 | a :: r=>by
  unfold Dx
  rw [List.map_cons,List.flatMap_cons,List.flatMap_cons,List.map_append,Yx]
  have:=Q6 r
  unfold Dx at this
  rw [this]
theorem qA {a:AV} (h:J8 a=true):∀ c ∈ a.cells,J8 c=true:=by
 cases a with
 | agg cs=>exact Qe h
 | _=>intro c hc; simp only [AV.cells,List.mem_cons,List.not_mem_nil,or_false] at hc; subst hc; exact h
theorem free_flat {es:List AV} (h:I8 es=true):∀ c ∈ Dx es,J8 c=true:=by
 intro c hc
 unfold Dx at hc
 rw [List.mem_flatMap] at hc
 obtain ⟨e,he,hce⟩:=hc
 exact qA (Qe h e he) c hce
theorem VR.clean {γ γ':Gh} {w:World} (him:∀ b o,γ.im b o → γ'.im b o) {a:AV} {x:Value} (h:VR γ w a x):J8 a=true → VR γ' w (Go.Ax.clean a) x:=by
 induction h with
 | v x h=>intro _; exact .v x h
 | nilp=>intro _; exact .nilp
 | ptr id off b s h=>intro hf; cases hf
 | ep cs b o c h h1 hr ih=>intro hf; cases hf
 | nils=>intro _; exact .nils
 | sl tok off sz es b o cap c hsz hes h1 h hr ht hf2 hc hb ih =>
  intro hf
  have hf:I8 es=true:=hf
  show VR γ' w (.sl 0 0 sz (Hv es)) _
  rw [Mt]
  have hlen:(Dx (es.map Go.Ax.clean)).length=(Dx es).length:=by rw [Q6,List.length_map]
  have key:=VR.sl (γ:=γ') (w:=w) 0 0 sz (es.map Go.Ax.clean) b o cap c hsz (fun e he=>by
    obtain ⟨e',he',rfl⟩:=List.mem_map.1 he
    rw [Yx,List.length_map]; exact hes e' he') (fun y hy=>by
    rw [Q6] at hy
    obtain ⟨y',hy',rfl⟩:=List.mem_map.1 hy
    rw [iY]; exact h1 y' hy') (fun k hk=>⟨him _ _ (h k (by rw [← hlen]; exact hk)).1,(h k (by rw [← hlen]; exact hk)).2⟩) (fun k hk=>by
    have hk':k < (Dx es).length:=by rw [← hlen]; exact hk
    have:=ih k hk' (free_flat hf _ (List.getElem_mem hk'))
    have e:(Dx (es.map Go.Ax.clean))[k]=Go.Ax.clean (Dx es)[k]:=by
     simp only [Q6,List.getElem_map]
    rw [e]; exact this) (fun h=>by omega) (fun h=>by omega) (by rw [List.length_map]; exact hc) hb
  rw [List.length_map] at key
  exact key
 | nilm=>intro _; exact .nilm
 | map id b s h=>intro hf; cases hf
 | fn f first caps x y hx hy h1 h2 ih1 ih2=>intro hf; cases hf
 | iface t a x h ih=>intro hf; cases hf
 | agg cs x hx h1 h ih =>
  intro hf
  have hf:I8 cs=true:=hf
  show VR γ' w (.agg (Hv cs)) _
  rw [Mt]
  refine .agg _ x (by rw [hx,List.length_map]) (fun a ha=>?_) (fun k hk hk'=>?_)
  ·obtain ⟨a',ha',rfl⟩:=List.mem_map.1 ha
   rw [iY]; exact h1 a' ha'
  ·rw [List.getElem_map]
   have hk2:k < cs.length:=by rw [List.length_map] at hk; exact hk
   exact ih k hk2 hk' (Qe hf _ (List.getElem_mem hk2))
 | tup vs x hx h ih =>
  intro hf
  have hf:I8 vs=true:=hf
  show VR γ' w (.tup (Hv vs)) _
  rw [Mt]
  refine .tup _ x (by rw [hx,List.length_map]) (fun k hk hk'=>?_)
  rw [List.getElem_map]
  have hk2:k < vs.length:=by rw [List.length_map] at hk; exact hk
  exact ih k hk2 hk' (Qe hf _ (List.getElem_mem hk2))
 | bs id off n2 sz b s cap h hc hsz hb=>intro hf; cases hf
def Gh.more (γ γ1:Gh):Gh:={ γ with im:=fun b o=>γ.im b o ∨ γ1.im b o }
theorem SR.more {base:Nat} {w0 w w':World} {γ γ1:Gh} {S:St} (h:SR base w0 γ S w) (hb:Below w.heap.size w w') (hi:∀ b o,γ1.im b o → w.heap.size ≤ b ∧ ∃ v,w'.cell? ⟨b,o,none⟩=some v):SR base w0 (γ.more γ1) S w' ∧ Ext γ S w (γ.more γ1) S w':=by
 have hc:∀ b o v,w.cell? ⟨b,o,none⟩=some v → w'.cell? ⟨b,o,none⟩=some v:=fun b o v hv=>(hb.cell (World.block_lt_of_cell? w _ hv)).trans hv
 have ev:Ev γ w (γ.more γ1) w':=⟨fun _ _ h=>h,fun _ _ h=>.inl h,fun b o v _ hv=>hc b o v hv,fun b arr T fr ha=>⟨arr,fr,(hb.block b (Array.getElem?_eq_some_iff.1 ha).1).trans ha,rfl⟩⟩
 have him:∀ b,b < w.heap.size → ∀ o,(γ.more γ1).im b o → γ.im b o:=fun b hlt o ho=>ho.elim id (fun h=>by have:=(hi b o h).1; omega)
 refine ⟨⟨h.below.trans (hb.mono h.hbase),Nat.le_trans h.hbase hb.size,fun b o ho=>?_,h.fresh,h.pos,fun id b s e=>Nat.lt_of_lt_of_le (h.inb id b s e) hb.size,fun id c e=>?_,h.inj⟩,
  ⟨ev,Nat.le_refl _,fun _ _=>rfl,hb.size,fun id c b s h l=>.inr ⟨id,c,s,h,l⟩,fun b hl _=>⟨hb.block b hl,him b hl⟩⟩⟩
 ·rcases ho with ho | ho
  ·obtain ⟨v,hv⟩:=h.imc b o ho; exact ⟨v,hc b o v hv⟩
  ·exact (hi b o ho).2
 ·obtain ⟨b,s,h1,h2,h3⟩:=h.live id c e
  exact ⟨b,s,h1,h2,h3.keep ev (hb.block b (h.inb id b s h1)) (fun o=>him b (h.inb id b s h1) o)⟩
def O3:R → Option AV
 | .ret a _=>Bool.rec none (some (clean a)) (J8 a)
 | _=>none
end Go.Ax
noncomputable section
namespace Go.Ax
open Go.RowKit Go.Proofs
set_option maxRecDepth 100000
mutual
theorem fX:∀ {a:AV} {e:PE},RepE a e → J8 a=true ∧ RepE (clean a) e
 | _,_,.mk kind pos n name off kv kids h=>by
  obtain ⟨h1,h2⟩:=repK_free h
  refine ⟨?_,.mk kind pos n name off (clean kv) kids h2⟩
  show I8 (exC kind pos n name off kv)=true
  simp [exC,I8,J8,Du,Cj,h1]
theorem repK_free:∀ {a:AV} {l:List PE},RepK a l → J8 a=true ∧ RepK (clean a) l
 | _,_,.nil=>⟨rfl,.nil⟩
 | _,_,.row tok off es kids h=>by
  obtain ⟨h1,h2⟩:=fW h
  exact ⟨h1,.row 0 0 (Hv es) kids h2⟩
theorem fW:∀ {es:List AV} {l:List PE},RepF es l → I8 es=true ∧ RepF (Hv es) l
 | _,_,.nil=>⟨rfl,.nil⟩
 | _,_,.cons a e r l h h2=>by
  obtain ⟨h1,h3⟩:=fX h
  obtain ⟨h4,h5⟩:=fW h2
  exact ⟨by rw [I8,h1,h4]; rfl,.cons (clean a) e (Hv r) l h3 h5⟩
end
theorem Mz {α:Type} {sz:Nat} {A:α → AV} (hA:∀ x,J8 (A x)=true ∧ clean (A x)=A x) {a:AV} {l:List α} (h:Ik sz A a l):J8 a=true ∧ Ik sz A (clean a) l:=by
 rcases h with ⟨rfl,rfl⟩ | ⟨tok,off,rfl⟩
 ·exact ⟨rfl,.inl ⟨rfl,rfl⟩⟩
 ·have key:∀ l:List α,I8 (l.map A)=true ∧ Hv (l.map A)=l.map A:=fun l=>by
   induction l with
   | nil=>exact ⟨rfl,rfl⟩
   | cons x r ih=>rw [List.map_cons]; exact ⟨by rw [I8,(hA x).1,ih.1]; rfl,by rw [Hv,(hA x).2,ih.2]⟩
  refine ⟨(key l).1,.inr ⟨0,0,?_⟩⟩
  show AV.sl 0 0 sz (Hv (l.map A))=_
  rw [(key l).2]
theorem Xz (d:PD):J8 (Gt d)=true ∧ clean (Gt d)=Gt d:=⟨rfl,rfl⟩
theorem left_free (d:List UInt8 × Nat):J8 (Gd d)=true ∧ clean (Gd d)=Gd d:=⟨rfl,rfl⟩
theorem isEq_free {v:AV} {q:PQ} (h:Y5 v q):J8 v=true ∧ Y5 (clean v) q:=by
 obtain ⟨lv,xs,rfl,hl,hx,hr⟩:=h
 obtain ⟨h1,h2⟩:=Mz left_free hl
 obtain ⟨h3,h4⟩:=fX hr
 have h3:I8 xs=true:=h3
 have h4:RepE (.agg (Hv xs)) q.e:=h4
 refine ⟨?_,clean lv,Hv xs,rfl,h2,by rw [Mt,List.length_map]; exact hx,h4⟩
 show I8 (lv :: .v (.bool q.async) :: xs)=true
 rw [I8,I8,h1,h3]; rfl
theorem Yu:∀ {es:List AV} {l:List PQ},EqRows es l → I8 es=true ∧ EqRows (Hv es) l
 | _,_,.nil=>⟨rfl,.nil⟩
 | _,_,.cons a q r l h h2=>by
  obtain ⟨h1,h3⟩:=isEq_free h
  obtain ⟨h4,h5⟩:=Yu h2
  exact ⟨by rw [I8,h1,h4]; rfl,.cons _ _ _ _ h3 h5⟩
theorem pJ {v:AV} {n:PN} (h:Sb v n):J8 v=true ∧ Sb (clean v) n:=by
 obtain ⟨a,b,c,d,es,rfl,h1,h2,h3,h4,h5⟩:=h
 obtain ⟨a1,a2⟩:=Mz Xz h1
 obtain ⟨b1,b2⟩:=Mz Xz h2
 obtain ⟨c1,c2⟩:=Mz Xz h3
 obtain ⟨e1,e2⟩:=Yu h5
 have hd:J8 d=true ∧ ((clean d=.nils ∧ Hv es=[]) ∨ ∃ tok,clean d=.sl tok 0 8 (Hv es)):=by
  rcases h4 with ⟨rfl,rfl⟩ | ⟨tok,rfl⟩
  ·exact ⟨rfl,.inl ⟨rfl,rfl⟩⟩
  ·exact ⟨e1,.inr ⟨0,rfl⟩⟩
 refine ⟨?_,clean a,clean b,clean c,clean d,Hv es,rfl,a2,b2,c2,hd.2,e2⟩
 show I8 (Ij n.name n.pos a b c d)=true
 simp [Ij,I8,J8,Du,Cj,a1,b1,c1,hd.1]
theorem Tx:∀ {es:List AV} {l:List PN},NodeRows es l → I8 es=true ∧ NodeRows (Hv es) l
 | _,_,.nil=>⟨rfl,.nil⟩
 | _,_,.cons a q r l h h2=>by
  obtain ⟨h1,h3⟩:=pJ h
  obtain ⟨h4,h5⟩:=Tx h2
  exact ⟨by rw [I8,h1,h4]; rfl,.cons _ _ _ _ h3 h5⟩
theorem Yp {v:AV} {l:List PN} (h:Nx v l):J8 v=true ∧ Nx (clean v) l:=by
 obtain ⟨tok,off,es,rfl,hn⟩:=h
 obtain ⟨h1,h2⟩:=Tx hn
 exact ⟨h1,0,0,Hv es,rfl,h2⟩
theorem Rw {a b:List UInt8} (h:Cj a=Cj b):a=b:=by unfold Cj at h; injection h with h; injection h with h; injection h with h; injection h
theorem Sc {a b:Nat} (h:Du a=Du b):a=b:=by unfold Du at h; injection h with h; injection h with _ h; omega
mutual
theorem nY:∀ {a:AV} {e e':PE},RepE a e → RepE a e' → e=e'
 | _,_,_,.mk kind pos n name off kv kids h,h'=>by
  generalize hx:AV.agg (exC kind pos n name off kv)=x at h'
  cases h' with
  | mk kind' pos' n' name' off' kv' kids' h2 =>
   injection hx with hx
   unfold exC at hx
   injection hx with e1 hx; injection hx with e2 hx; injection hx with e3 hx; injection hx with e4 hx; injection hx with e5 hx; injection hx with e6 hx
   have e1:=Sc e1; have e2:=Sc e2; have e4:=Rw e4
   injection e3 with e3; injection e3 with _ e3
   injection e5 with e5; injection e5 with e5
   subst e1; subst e2; subst e3; subst e4; subst e5; subst e6
   rw [repK_one h h2]
theorem repK_one:∀ {a:AV} {l l':List PE},RepK a l → RepK a l' → l=l'
 | _,_,_,.nil,h'=>by cases h'; rfl
 | _,_,_,.row tok off es kids h,h'=>by
  cases h' with
  | row _ _ _ _ h2=>exact nX h h2
theorem nX:∀ {es:List AV} {l l':List PE},RepF es l → RepF es l' → l=l'
 | _,_,_,.nil,h'=>by cases h'; rfl
 | _,_,_,.cons a e r l h h2,h'=>by
  cases h' with
  | cons _ e' _ l' h3 h4=>rw [nY h h3,nX h2 h4]
end
theorem Zb {α:Type} {sz:Nat} {A:α → AV} (hA:∀ x y,A x=A y → x=y) {a:AV} {l m:List α} (h:Ik sz A a l) (h':Ik sz A a m):l=m:=by
 rcases h with ⟨rfl,rfl⟩ | ⟨tok,off,rfl⟩ <;> rcases h' with ⟨e,rfl⟩ | ⟨tok',off',e⟩
 ·rfl
 ·cases e
 ·cases e
 ·injection e with e1 e2 e3 e4
  have key:∀ (l m:List α),l.map A=m.map A → l=m:=fun l=>by
   induction l with
   | nil=>intro m hm; cases m with
    | nil=>rfl
    | cons x r=>cases hm
   | cons x r ih=>intro m hm; cases m with
    | nil=>cases hm
    | cons y s =>
     rw [List.map_cons,List.map_cons] at hm
     injection hm with h1 h2
     rw [hA x y h1,ih s h2]
  exact key l m e4
theorem cY (x y:PD) (h:Gt x=Gt y):x=y:=by
 unfold Gt Ge at h
 injection h with h
 injection h with e1 h; injection h with e2 h; injection h with e3 h; injection h with e4 h; injection h with e5 h; injection h with e6 h
 have e1:=Rw e1; have e2:=Sc e2; have e5:=Rw e5
 injection e3 with e3; injection e3 with e3
 injection e4 with e4; injection e4 with e4
 injection e6 with e6; injection e6 with e6
 cases x; cases y; simp only at *; subst e1; subst e2; subst e3; subst e4; subst e5; subst e6; rfl
theorem left_inj (x y:List UInt8 × Nat) (h:Gd x=Gd y):x=y:=by
 unfold Gd Ho at h
 injection h with h
 injection h with e1 h; injection h with e2 h
 have e1:=Rw e1; have e2:=Sc e2
 cases x; cases y; simp only at *; subst e1; subst e2; rfl
theorem isEq_one {v:AV} {p q:PQ} (h:Y5 v p) (h':Y5 v q):p=q:=by
 obtain ⟨lv,xs,rfl,hl,hx,hr⟩:=h
 obtain ⟨lv',xs',e,hl',hx',hr'⟩:=h'
 unfold eqC at e
 injection e with e
 injection e with e1 e; injection e with e2 e
 subst e1; subst e
 injection e2 with e2; injection e2 with e2
 have f1:=Zb left_inj hl hl'
 have f2:=nY hr hr'
 cases p; cases q; simp only at *; subst e2; subst f1; subst f2; rfl
theorem cQ:∀ {es:List AV} {l m:List PQ},EqRows es l → EqRows es m → l=m
 | _,_,_,.nil,h'=>by cases h'; rfl
 | _,_,_,.cons a q r l h h2,h'=>by
  cases h' with
  | cons _ q' _ l' h3 h4=>rw [isEq_one h h3,cQ h2 h4]
theorem tV {v:AV} {p q:PN} (h:Sb v p) (h':Sb v q):p=q:=by
 obtain ⟨a,b,c,d,es,rfl,h1,h2,h3,h4,h5⟩:=h
 obtain ⟨a',b',c',d',es',e,k1,k2,k3,k4,k5⟩:=h'
 unfold Ij at e
 injection e with e
 injection e with e1 e; injection e with e2 e; injection e with e3 e; injection e with e4 e; injection e with e5 e; injection e with e6 e
 have e1:=Rw e1; have e2:=Sc e2
 subst e3; subst e4; subst e5; subst e6
 have f1:=Zb cY h1 k1
 have f2:=Zb cY h2 k2
 have f3:=Zb cY h3 k3
 have f4:es=es':=by
  rcases h4 with ⟨rfl,rfl⟩ | ⟨tok,rfl⟩ <;> rcases k4 with ⟨e,rfl⟩ | ⟨tok',e⟩
  ·rfl
  ·cases e
  ·cases e
  ·injection e
 subst f4
 have f5:=cQ h5 k5
 cases p; cases q; simp only at *; subst e1; subst e2; subst f1; subst f2; subst f3; subst f5; rfl
theorem Vp:∀ {es:List AV} {l m:List PN},NodeRows es l → NodeRows es m → l=m
 | _,_,_,.nil,h'=>by cases h'; rfl
 | _,_,_,.cons a q r l h h2,h'=>by
  cases h' with
  | cons _ q' _ l' h3 h4=>rw [tV h h3,Vp h2 h4]
theorem tU {v:AV} {l m:List PN} (h:Nx v l) (h':Nx v m):l=m:=by
 obtain ⟨tok,off,es,rfl,hn⟩:=h
 obtain ⟨tok',off',es',e,hn'⟩:=h'
 injection e with e1 e2 e3 e4
 subst e4
 exact Vp hn hn'
end Go.Ax
noncomputable section
namespace Go.Ax
open Go.RowKit Go.Proofs
open Classical
set_option maxRecDepth 100000
theorem CT.one {E:Env} {k:FuncId} {args:List AV} {S:St} {r r':R} (h:CT E k args S r) (h':CT E k args S r'):r=r':=by
 obtain ⟨m,hm⟩:=h
 obtain ⟨m',hm'⟩:=h'
 rw [← hm (max m m') (by omega),← hm' (max m m') (by omega)]
theorem gR_drop {γ:Gh} {w:World} (hg:GR γ w gR):GR ⟨fun _=>none,γ.im⟩ w gR:=by
 intro g cs h
 have h0:=h
 unfold gR at h
 cases hb:Nat.beq g 5 with
 | false=>rw [hb] at h; cases h
 | true =>
  have:g=5:=Nat.eq_of_beq_eq_true hb
  subst this
  injection h with h; subst h
  refine ⟨?_,fun h2=>absurd h2 (by simp)⟩
  have:=(hg 5 _ rfl).1
  cases this with
  | ep _ b o c h1 h2 hr =>
   refine .ep _ _ _ c h1 h2 (fun k hk=>?_)
   have hr:=hr k hk
   have hk0:k=0:=by simp at hk; exact hk
   subst hk0
   simp only [List.getElem_cons_zero] at hr ⊢
   generalize c 0=z at hr
   cases hr with
   | iface t a x hx =>
    cases hx with
    | ep cs b o c h1 h2 hr=>exact .iface _ _ _ (.ep [] b o c (fun k h=>absurd h (Nat.not_lt_zero k)) (fun _ h=>absurd h List.not_mem_nil) (fun k h=>absurd h (Nat.not_lt_zero k)))
theorem memoCT {k:FuncId} {args:List AV} {r:R} {a:AV} (hct:CT E1 k args St0 r) (hc:O3 r=some a) (hF:(E1.F k).isSome=true) {base:Nat} {w0:World} {γ:Gh} {S:St} {w:World} {vs:List Value}
  (hS:SR base w0 γ S w) (hg:GR γ w gR) (hv:∀ γ:Gh,VRL γ w args vs):Calls Tryz.prog k vs.toArray w (Nr base w0 γ S w (.ret a S)):=by
 cases hr:r with
 | fail=>rw [hr] at hc; cases hc
 | pan a S=>rw [hr] at hc; cases hc
 | ret a1 S1 =>
  rw [hr] at hc
  obtain ⟨m0,hm⟩:=hct
  have hm:=hm m0 (Nat.le_refl _)
  have hS0:SR w.heap.size w ⟨fun _=>none,γ.im⟩ St0 w:=⟨.refl _ _,Nat.le_refl _,fun b o h=>hS.imc b o h,fun _ _=>⟨rfl,rfl⟩,Nat.le_refl _,fun _ _ _ h=>(by cases h),fun _ _ h=>(by cases h),fun _ _ _ _ _ _ _ h=>(by cases h)⟩
  have:=O4 T3 Zs (Ji T3 Ur) m0 w.heap.size w k args St0 (by show ckN E1 m0 k args St0 ≠ _; rw [hm,hr]; intro e; cases e) _ w vs hS0 (gR_drop hg) (hv _) hF
  rw [show T6 E1 (Cf E1) m0 k args St0=.ret a1 S1 from hm.trans hr] at this
  refine this.mono fun e w' he=>?_
  obtain ⟨γ',v,h1,h2,h3,rfl⟩:=he
  cases hf:J8 a1 with
  | false=>simp only [O3,hf] at hc; cases hc
  | true =>
   simp only [O3,hf] at hc
   injection hc with hc; subst hc
   have hi:∀ b o,(⟨fun _=>none,fun b o=>γ'.im b o ∧ w.heap.size ≤ b⟩:Gh).im b o → w.heap.size ≤ b ∧ ∃ v,w'.cell? ⟨b,o,none⟩=some v:=fun b o ho=>⟨ho.2,h1.imc b o ho.1⟩
   obtain ⟨q1,q2⟩:=hS.more h1.below hi
   refine ⟨_,v,q1,q2,h3.clean (fun b o ho=>?_) hf,rfl⟩
   by_cases hlt:b < w.heap.size
   ·exact .inl ((h2.frame b hlt (fun id c s hm hl=>by cases hl)).2 o ho)
   ·exact .inr ⟨ho,Nat.le_of_not_lt hlt⟩
def oH (l:List UInt8):R:=if h:∃ r,CT E1 19 [Cj l] St0 r then Classical.choose h else .fail
theorem oG {l:List UInt8} {r:R} (h:CT E1 19 [Cj l] St0 r):oH l=r:=by
 have he:∃ r,CT E1 19 [Cj l] St0 r:=⟨r,h⟩
 unfold oH
 rw [dif_pos he]
 exact (Classical.choose_spec he).one h
def Lt (args:List AV) (S:St):R:=match args with
 | [.v (.string s)]=>match O3 (oH s.data.toList) with
  | some a=>.ret a S
  | none=>.fail
 | _=>.fail
theorem prog_I7 (base:Nat) (w0:World) (args:List AV) (S:St) (hne:Lt args S ≠ .fail) (γ:Gh) (w:World) (vs:List Value) (hS:SR base w0 γ S w) (hg:GR γ w gR) (hv:VRL γ w args vs):Calls Tryz.prog 19 vs.toArray w (Nr base w0 γ S w (Lt args S)):=by
 generalize hr:Lt args S=r at hne ⊢
 unfold Lt at hr
 split at hr
 case h_2=>exact absurd hr.symm hne
 rename_i s
 split at hr
 case h_2=>exact absurd hr.symm hne
 rename_i a ha
 subst hr
 by_cases h:∃ r,CT E1 19 [Cj s.data.toList] St0 r
 ·obtain ⟨r,h⟩:=h
  rw [oG h] at ha
  refine memoCT h ha (by kernel_rfl) hS hg (fun γ'=>?_)
  refine ⟨hv.1,fun k h1 h2=>?_⟩
  match k,h1 with
  | 0,_ =>
   have:=hv.2 0 (by simp) h2
   generalize vs[0]=z at this
   cases this
   exact .v _ rfl
 ·unfold oH at ha
  rw [dif_neg h] at ha
  cases ha
theorem Zf {l:List UInt8} {out:(Nat × Nat) ⊕ List Tk} (hsz:l.length ≤ 1000000) (hlx:Jz l=some out) (S:St) :
  (∃ ns v,J6 70000 out=some (.inl ns) ∧ Lt [Cj l] S=.ret (.tup [v,.agg (Dl 0 0)]) S ∧ Nx v ns) ∨ (∃ y:Nat × Nat,J6 70000 out=some (.inr y) ∧ Lt [Cj l] S=.ret (.tup [.nils,.agg (Dl y.1 y.2)]) S):=by
 obtain ⟨hok,_⟩:=read_s hlx
 obtain ⟨r,hct,hpost⟩:=bH l St0 (Nat.le_refl _) hsz out hlx 70000 (by omega) hok
 have hp:Lt [Cj l] S=match O3 (oH l) with | some a=>.ret a S | none=>.fail:=rfl
 rw [oG hct] at hp
 cases hx:J6 70000 out with
 | none=>exact absurd hx hok
 | some x =>
  rw [hx] at hpost
  cases x with
  | inl ns =>
   obtain ⟨v,S',rfl,hi,hk⟩:=hpost
   obtain ⟨h1,h2⟩:=Yp hi
   refine .inl ⟨ns,clean v,rfl,?_,h2⟩
   rw [hp]
   have e:O3 (.ret (.tup [v,.agg (Dl 0 0)]) S')=some (.tup [clean v,.agg (Dl 0 0)]):=by
    have hf:J8 (.tup [v,.agg (Dl 0 0)])=true:=by
     show (J8 v && (I8 (Dl 0 0) && true))=true
     rw [h1]; rfl
    simp only [O3,hf]
    rfl
   rw [e]
  | inr y =>
   obtain ⟨S',rfl,hk⟩:=hpost
   refine .inr ⟨y,rfl,?_⟩
   rw [hp]
   have e:O3 (.ret (.tup [.nils,.agg (Dl y.1 y.2)]) S')=some (.tup [.nils,.agg (Dl y.1 y.2)]):=rfl
   rw [e]
def Ph (v:AV) (l:List PN):Prop:=Nx v l ∧ (∀ n ∈ l,X6 1600 n) ∧ l.length ≤ 1600
def W8:List AV → Option AV
 | [v]=>if h:∃ l,Ph v l then some (.v (.string (Mi (Classical.choose h)))) else none
 | _=>none
theorem print_is {v:AV} {l:List PN} (h:Ph v l):W8 [v]=some (.v (.string (Mi l))):=by
 have he:∃ l,Ph v l:=⟨l,h⟩
 unfold W8
 simp only
 rw [dif_pos he,tU (Classical.choose_spec he).1 h.1]
theorem gF_whole {base:Nat} {w0:World} {γ:Gh} {S:St} {w:World} (hS:SR base w0 γ S w) (hg:GR γ w gF):GR (GhW w) w gF:=by
 intro g cs h
 have h0:=hg g cs h
 refine ⟨?_,h0.2⟩
 have hcs:cs=To:=by
  unfold gF at h
  cases hb:Nat.beq g 0 with
  | false=>rw [hb] at h; cases h
  | true=>rw [hb] at h; injection h with h; exact h.symm
 have h1:=h0.1
 cases h1 with
 | ep _ b o c h1 h2 hr =>
  refine .ep _ _ _ c (fun k hk=>⟨⟨World.block_lt_of_cell? w _ (h1 k hk).2,_,(h1 k hk).2⟩,(h1 k hk).2⟩) h2 (fun k hk=>?_)
  have hr:=hr k hk
  have hp:cs[k] ∈ To:=by rw [← hcs]; exact List.getElem_mem hk
  unfold To at hp
  obtain ⟨z,_,hz⟩:=List.mem_map.1 hp
  rw [← hz] at hr ⊢
  generalize c k=y at hr
  cases hr
  exact .v _ rfl
def G7:Gl:=fun g=>Bool.rec (gR g) (some To) (Nat.beq g 0)
theorem G7_R {γ:Gh} {w:World} (h:GR γ w G7):GR γ w gR:=by
 intro g cs hg
 have hg':=hg
 unfold gR at hg
 cases hb:Nat.beq g 5 with
 | false=>rw [hb] at hg; cases hg
 | true =>
  have:g=5:=Nat.eq_of_beq_eq_true hb
  subst this
  exact h 5 cs hg'
theorem G7_F {γ:Gh} {w:World} (h:GR γ w G7):GR γ w gF:=by
 intro g cs hg
 have hg':=hg
 unfold gF at hg
 cases hb:Nat.beq g 0 with
 | false=>rw [hb] at hg; cases hg
 | true =>
  have:g=0:=Nat.eq_of_beq_eq_true hb
  subst this
  exact h 0 cs hg'
def knownI7 (k:Nat):Option (List AV → St → R):=Bool.rec (Bool.rec (Bool.rec none (some (F3 W8)) (Nat.beq k 20)) (some Xi) (Nat.beq k 25)) (some Lt) (Nat.beq k 19)
def E7:Env:={ P:=Tryz.prog,G:=G7,F:=E1.F,I:=knownI7,M:=rowM }
theorem e7_ok:E7.Ok:=⟨fun k fn h=>T3.fn k fn h⟩
theorem e7_mix:E7.P.follows .mixedOrders=true:=Ur
theorem yU:Kf E7:=fun k g hk base w0 args S hne γ w vs hS hg hv=>by
 have hk2:(Bool.rec (Bool.rec (Bool.rec none (some (F3 W8)) (Nat.beq k 20)) (some Xi) (Nat.beq k 25)) (some Lt) (Nat.beq k 19):Option (List AV → St → R))=some g:=hk
 cases hb:Nat.beq k 19 with
 | true =>
  rw [hb] at hk2
  injection hk2 with hk2; subst hk2
  have:k=19:=Nat.eq_of_beq_eq_true hb
  subst this
  exact prog_I7 base w0 args S hne γ w vs hS (G7_R hg) hv
 | false =>
  rw [hb] at hk2
  cases hc:Nat.beq k 25 with
  | true =>
   rw [hc] at hk2
   injection hk2 with hk2; subst hk2
   have:k=25:=Nat.eq_of_beq_eq_true hc
   subst this
   exact lex_I base w0 args S hne γ w vs hS (G7_R hg) hv
  | false =>
   rw [hc] at hk2
   cases hd:Nat.beq k 20 with
   | false=>rw [hd] at hk2; cases hk2
   | true =>
    rw [hd] at hk2
    injection hk2 with hk2; subst hk2
    have:k=20:=Nat.eq_of_beq_eq_true hd
    subst this
    refine bD hne hS fun a ha=>?_
    unfold W8 at ha
    split at ha
    ·rename_i v
     split at ha
     ·rename_i h
      injection ha with ha; subst ha
      obtain ⟨h1,h2,h3⟩:=Classical.choose_spec h
      generalize Classical.choose h=l at h1 h2 h3
      obtain ⟨f1,f2⟩:=Yp h1
      obtain ⟨hl,hvk⟩:=hv
      match vs,hl with
      | [x],_ =>
       have hx:VR γ w v x:=hvk 0 (by simp) (by simp)
       have hx':VR (GhW w) w (clean v) x:=hx.clean (fun b o ho=>by
        obtain ⟨y,hy⟩:=hS.imc b o ho
        exact ⟨World.block_lt_of_cell? w _ hy,y,hy⟩) f1
       refine (oJ (gF_whole hS (G7_F hg)) f2 h2 h3 hx').mono fun e w' he=>?_
       exact ⟨he.2,_,he.1,fun γ w=>.v _ rfl⟩
     ·cases ha
    ·cases ha
end Go.Ax
noncomputable section
namespace Go.Ax
open Go.RowKit Go.Proofs
set_option maxRecDepth 100000
def fr (k:Int) (b:Bool):T AV:=(T.leaf.set 0 (some (.v (.int .i64 k)))).set 1 (some (.v (.bool b)))
end Go.Ax
