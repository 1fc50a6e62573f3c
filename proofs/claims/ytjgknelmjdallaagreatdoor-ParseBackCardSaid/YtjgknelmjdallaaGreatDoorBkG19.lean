/- Qd -/
import Derived.Test.YtjgknelmjdallaaGreatDoorBkG18
import Derived.Test.YtjgknelmjdallaaGreatDoorBkG14
import Derived.Test.YtjgknelmjdallaaGreatDoorAxShelfT
import Derived.Lib.AppendIntMem
import Derived.Lib.Join
import Derived.Lib.ItoaLen
set_option linter.unusedVariables false
set_option linter.unusedSimpArgs false
noncomputable section
namespace Go.Ax
open Go.RowKit Go.Proofs
set_option maxRecDepth 100000
def Si (q:Nat) (b:Bool) (S:St):Prop:=S.mem.get q=some (.box [.v (.bool b)])
def On (q:Nat) (S S':St):Prop:=S.next ≤ S'.next ∧ ∀ id,id < S.next → id ≠ q → S'.mem.get id=S.mem.get id
theorem On.refl (q:Nat) (S:St):On q S S:=⟨Nat.le_refl _,fun _ _ _=>rfl⟩
theorem On.trans {q:Nat} {S S1 S2:St} (h:On q S S1) (k:On q S1 S2):On q S S2:=⟨Nat.le_trans h.1 k.1,fun id hid hn=>(k.2 id (Nat.lt_of_lt_of_le hid h.1) hn).trans (h.2 id hid hn)⟩
theorem Eg.b {q:Nat} {S S':St} (h:Eg S S'):On q S S':=⟨h.1,fun id hid _=>h.2 id hid⟩
def fP (q:Nat) (L:List (Nat × List AV)) (S:St):Prop:=2 ≤ S.next ∧ q < S.next ∧ ∀ x ∈ L,x.1 ≠ q ∧ x.1 < S.next ∧ S.mem.get x.1=some (.box x.2)
theorem fP.keep {q:Nat} {L:List (Nat × List AV)} {S S':St} (h:fP q L S) (k:On q S S'):fP q L S':=⟨Nat.le_trans h.1 k.1,Nat.lt_of_lt_of_le h.2.1 k.1,fun x hx=>⟨(h.2.2 x hx).1,Nat.lt_of_lt_of_le (h.2.2 x hx).2.1 k.1,(k.2 _ (h.2.2 x hx).2.1 (h.2.2 x hx).1).trans (h.2.2 x hx).2.2⟩⟩
theorem Si.keep {q:Nat} {b:Bool} {S S':St} (h:Si q b S) (hq:q < S.next) (k:Eg S S'):Si q b S':=(k.2 q hq).trans h
inductive AllP (B:PE → Prop):PE → Prop where
 | mk (kind pos:Nat) (n:Int) (name:List UInt8) (off:Bool) (kids:List PE) (h:B (.mk kind pos n name off kids)) (hk:∀ e ∈ kids,AllP B e):AllP B (.mk kind pos n name off kids)
section
variable {q K:Nat} {L:List (Nat × List AV)} {caps:List AV} {B:PE → Prop}
end
end Go.Ax
noncomputable section
namespace Go.Ax
open Go.RowKit Go.Proofs
section
variable {E:Env} {n:Nat} {f:Fr} {S:St} {Q:O → Prop} {ops:Array Oper} {t:T AV} {ds:List Dfr}
theorem Bj {o:Oper} {l:List Oper} {a:AV} {S':St}:Sc E n ops o l f S Q (some true) (.val a S')=Yb E n ops l o.dst f a S' Q:=_root_.id rfl
theorem Eb {o:Oper} {l:List Oper} {S':St}:Sc E n ops o l f S Q (some true) (.skip S')=Yb E n ops l o.dst f (.tup []) S' Q:=_root_.id rfl
theorem Cb {o:Oper} {l:List Oper} {k:FuncId} {args:List AV} {S':St}:Sc E n ops o l f S Q (some true) (.enter k args S')=WC E k args S' (retL E n ops l o.dst f Q):=_root_.id rfl
theorem En {l:List Oper} {a:AV}:Yb E n ops l none f a S Q=WL E n ops l f S Q:=_root_.id rfl
theorem Bi {l:List Oper} {d:Nat} {a:AV}:Yb E n ops l (some d) ⟨t,ds⟩ a S Q=(d < n ∧ WL E n ops l ⟨t.set d (some a),ds⟩ S Q):=_root_.id rfl
theorem Cz {l:List Oper} {dst:Option Tmp} {a:AV}:retL E n ops l dst f Q (.ret a S)=Yb E n ops l dst f a S Q:=_root_.id rfl
theorem Gn {o:Oper} {l:List RS}:WR E n ops (.re o :: l) f S Q=(Dy E ops o f.tmps S=true ∧ WR E n ops l f S Q):=_root_.id rfl
theorem C0 {o:Oper} {l:List RS} {a:AV} {S':St}:U5 E n ops o l f S Q (some true) (.val a S')=Sx E n ops l o.dst f a S' Q:=_root_.id rfl
theorem P8 {o:Oper} {l:List RS} {S':St}:U5 E n ops o l f S Q (some true) (.skip S')=Sx E n ops l o.dst f (.tup []) S' Q:=_root_.id rfl
theorem Df {o:Oper} {l:List RS} {k:FuncId} {args:List AV} {S':St}:U5 E n ops o l f S Q (some true) (.enter k args S')=WC E k args S' (iF E n ops l o.dst f Q):=_root_.id rfl
theorem P2 {l:List RS} {a:AV}:Sx E n ops l none f a S Q=WR E n ops l f S Q:=_root_.id rfl
theorem Cn {l:List RS} {d:Nat} {a:AV}:Sx E n ops l (some d) ⟨t,ds⟩ a S Q=(d < n ∧ WR E n ops l ⟨t.set d (some a),ds⟩ S Q):=_root_.id rfl
theorem Du {l:List RS} {dst:Option Tmp} {a:AV}:iF E n ops l dst f Q (.ret a S)=Sx E n ops l dst f a S Q:=_root_.id rfl
theorem Ci {x y:Prop}:Xj (some (.v (.bool true))) x y=x:=_root_.id rfl
theorem Cg {x y:Prop}:Xj (some (.v (.bool false))) x y=y:=_root_.id rfl
theorem Ey {b:Code} {id:Nat}:mA E n b Q (.out (.exit id) f S)=Q (.out (.exit id) f S):=_root_.id rfl
theorem B0 {b:Code}:mA E n b Q (.out .ret f S)=Q (.out .ret f S):=_root_.id rfl
theorem Bs {id:Nat}:Ow id Q (.out .normal f S)=Q (.out .normal f S):=_root_.id rfl
theorem Bz {id:Nat}:Ow id Q (.out .ret f S)=Q (.out .ret f S):=_root_.id rfl
theorem F7 {id id':Nat}:Ow id Q (.out (.exit id') f S)=if id' = id then Q (.out .normal f S) else Q (.out (.exit id') f S):=_root_.id rfl
theorem D9 {g:Fr}:fixQ ops g Q (.out .normal f S)=Q (.out .normal f S):=_root_.id rfl
end
end Go.Ax
noncomputable section
namespace Go.Ax
open Go.RowKit Go.Proofs
set_option maxRecDepth 100000
def stB (s w:List UInt8) (a:Nat):Bool:=decide (a + w.length ≤ s.length) && decide ((s.drop a).take w.length=w)
def N7 (name:List UInt8):List (Int × List UInt8):=[(3,name),(13,name),(6,name),(7,[105,102]),(8,[45,62]),(9,[102,98,121]),(10,[112,114,101]),(11,[119,104,101,110]),(12,[109,101,114,103,101]),(14,[97,119,97,105,116]),(5,[110,111,116]),(4,[45])]
def Jy:List (Int × List UInt8) → Int → List UInt8
 | [],_=>[]
 | (a,s) :: r,k=>if k=a then s else Jy r k
def kindOf:PE → Nat
 | .mk kind _ _ _ _ _=>kind
def pZ:PE → Nat
 | .mk _ pos _ _ _ _=>pos
def nameOf:PE → List UInt8
 | .mk _ _ _ name _ _=>name
def X2 (e:PE):List UInt8:=Jy (N7 (nameOf e)) (kindOf e:Int)
end Go.Ax
noncomputable section
namespace Go.Ax
open Go.RowKit Go.Proofs
set_option maxRecDepth 100000
def Sat {α:Type} (Q:α → Nat → Prop) (x:PR α):Prop:=x ≠ .out ∧ ∀ a j,x=.ok a j → Q a j
theorem Sat.ok {α:Type} {Q:α → Nat → Prop} {a:α} {j:Nat} (h:Q a j):Sat Q (.ok a j):=⟨(fun e=>by cases e),(fun a' j' e=>by injection e with e1 e2; subst e1; subst e2; exact h)⟩
theorem Sat.bad {α:Type} {Q:α → Nat → Prop} {a e:Nat}:Sat Q (.bad a e):=⟨(fun e=>by cases e),(fun _ _ e=>by cases e)⟩
theorem Sat.bind {α β:Type} {Q:α → Nat → Prop} {R:β → Nat → Prop} {x:PR α} {f:α → Nat → PR β} (hx:Sat Q x) (hf:∀ a j,Q a j → Sat R (f a j)):Sat R (x.bind f):=by
 cases x with
 | ok a j=>exact hf a j (hx.2 a j rfl)
 | bad a e=>exact Sat.bad
 | out=>exact absurd rfl hx.1
theorem Sat.mono {α:Type} {Q R:α → Nat → Prop} {x:PR α} (hx:Sat Q x) (h:∀ a j,Q a j → R a j):Sat R x:=⟨hx.1,fun a j e=>h a j (hx.2 a j e)⟩
theorem Sat.ite {α:Type} {Q:α → Nat → Prop} {c:Prop} [Decidable c] {x y:PR α} (h1:c → Sat Q x) (h2:¬ c → Sat Q y):Sat Q (if c then x else y):=by
 by_cases h:c
 ·rw [if_pos h]; exact h1 h
 ·rw [if_neg h]; exact h2 h
section
variable {ts:List Tk} (hts:TokOk ts)
include hts
theorem G5 {i:Nat} (hi:i < ts.length) {ws:List (List UInt8)} (hw:[] ∉ ws) (h:(tk ts i).text ∈ ws):i + 1 < ts.length:=by
 rw [K8 hi] at h
 exact hts.next hi (fun e=>hw (e ▸ h))
theorem Ip {i:Nat} (hi:i < ts.length) {ws:List (List UInt8)} (hw:[] ∉ ws):Sat (fun t j=>t=tk ts i ∧ j=i + 1 ∧ j < ts.length ∧ t.text ∈ ws) (D7 ts ws i):=by
 unfold D7
 exact .ite (fun h=>.ok ⟨rfl,rfl,G5 hts hi hw h,h⟩) (fun _=>.bad)
theorem Rs {i:Nat} (hi:i < ts.length) {kd:Nat} (hk:kd ≠ 5):Sat (fun t j=>t=tk ts i ∧ j=i + 1 ∧ j < ts.length) (F8 ts kd i):=by
 unfold F8
 exact .ite (fun h=>.ok ⟨rfl,rfl,hts.more i hi (by rw [← K8 hi,h]; exact hk)⟩) (fun _=>.bad)
theorem clock_s {i:Nat} (hi:i < ts.length):Sat (fun _ j=>i < j ∧ j < ts.length) (Ih ts i):=by
 unfold Ih
 refine .ite (fun h=>?_) (fun _=>?_)
 ·have:=G5 hts hi (ws:=[[110,111,116]]) (by decide) h
  exact (Rs hts this (by decide)).bind fun t j h=>.ok ⟨by omega,h.2.2⟩
 ·exact (Rs hts hi (by decide)).bind fun t j h=>.ok ⟨by omega,h.2.2⟩
end
def Px (s:List UInt8) (ts:List Tk):Prop:=∀ i,i < ts.length → stB s (tk ts i).text (tk ts i).pos=true
def N4 (s:List UInt8) (e:PE):Prop:=stB s (X2 e) (pZ e)=true
theorem xN {s w:List UInt8} {a:Nat} (h:stB s w a=true):stB s [] a=true:=by
 unfold stB at h ⊢
 rw [Bool.and_eq_true] at h
 have:=h.1
 simp at this ⊢; omega
section
variable {ts:List Tk} (hts:TokOk ts) {s:List UInt8} (hat:Px s ts)
include hts hat
theorem num_s {i:Nat} (hi:i < ts.length):Sat (fun e j=>i < j ∧ j < ts.length ∧ AllP (N4 s) e) (K3 ts i):=by
 have h0:ts[i]? = some (tk ts i):=by rw [K8 hi]; exact List.getElem?_eq_getElem hi
 have hg:=xN (hat i hi)
 unfold K3
 rw [h0]
 simp only
 refine .ite (fun h=>?_) (fun _=>?_)
 ·have h1:i + 1 < ts.length:=G5 hts hi (ws:=[[45]]) (by decide) (by rw [h]; simp)
  have h2:ts[i + 1]? = some (tk ts (i + 1)):=by rw [K8 h1]; exact List.getElem?_eq_getElem h1
  rw [h2]
  simp only
  refine .ite (fun h3=>?_) (fun _=>.bad)
  exact .ok ⟨by omega,hts.more _ h1 (by rw [← K8 h1,h3]; decide),.mk _ _ _ _ _ _ hg (fun _ h=>by cases h)⟩
 ·refine .ite (fun h3=>?_) (fun _=>.bad)
  refine .ite (fun _=>.bad) (fun _=>?_)
  exact .ok ⟨by omega,hts.more _ hi (by rw [← K8 hi,h3]; decide),.mk _ _ _ _ _ _ hg (fun _ h=>by cases h)⟩
omit hts hat in
theorem rL {pos:Nat} {w:List UInt8} {x y:PE} (h:stB s w pos=true) (hx:AllP (N4 s) x) (hy:AllP (N4 s) y):AllP (N4 s) (.mk 6 pos 0 w false [x,y]):=by
 refine .mk _ _ _ _ _ _ ?_ (fun e he=>?_)
 ·show stB s (Jy (N7 w) _) _=true
  simpa [N7,Jy,kindOf,pZ] using h
 ·simp at he; rcases he with rfl | rfl
  ·exact hx
  ·exact hy
omit hts hat in
theorem Np {k pos:Nat} {name w:List UInt8} {n:Int} {off:Bool} {kids:List PE} (hk:Jy (N7 name) (k:Int)=w) (h:stB s w pos=true) (hkids:∀ e ∈ kids,AllP (N4 s) e):AllP (N4 s) (.mk k pos n name off kids):=by
 refine .mk _ _ _ _ _ _ ?_ hkids
 show stB s (Jy (N7 name) (k:Int)) pos=true
 rw [hk]; exact h
theorem pJ {lo:Nat} {ws:List (List UInt8)} (hw:[] ∉ ws) {kid:Nat → PR PE} (hk:∀ i,lo ≤ i → i < ts.length → Sat (fun e j=>i < j ∧ j < ts.length ∧ AllP (N4 s) e) (kid i)):∀ (n:Nat) (x:PE) (i:Nat),lo ≤ i → i < ts.length → AllP (N4 s) x → ts.length - i < n → Sat (fun e j=>i ≤ j ∧ j < ts.length ∧ AllP (N4 s) e) (Ju ts ws kid n x i)
 | 0,x,i,h1,h2,h3,h4=>absurd h4 (Nat.not_lt_zero _)
 | n + 1,x,i,h1,h2,h3,h4=>by
  unfold Ju
  refine .ite (fun h=>?_) (fun _=>.ok ⟨Nat.le_refl _,h2,h3⟩)
  have h5:=G5 hts h2 hw h
  refine (hk (i + 1) (by omega) h5).bind fun y j ⟨a,b,c⟩=>?_
  exact (pJ hw hk n _ j (by omega) b (rL (hat i h2) h3 c) (by omega)).mono fun e m ⟨a2,b2,c2⟩=>⟨by omega,b2,c2⟩
theorem when_s:∀ (n:Nat) (x:PE) (i:Nat),i < ts.length → AllP (N4 s) x → ts.length - i < n → Sat (fun e j=>i ≤ j ∧ j < ts.length ∧ AllP (N4 s) e) (Jv ts n x i)
 | 0,x,i,h2,h3,h4=>absurd h4 (Nat.not_lt_zero _)
 | n + 1,x,i,h2,h3,h4=>by
  unfold Jv
  refine .ite (fun h=>?_) (fun _=>.ok ⟨Nat.le_refl _,h2,h3⟩)
  have h5:=G5 hts h2 (ws:=[[119,104,101,110]]) (by decide) h
  have hg:=hat i h2
  rw [show (tk ts i).text=[119,104,101,110] by simpa using h] at hg
  refine (clock_s hts h5).bind fun c j ⟨a,b⟩=>?_
  exact (when_s n _ j b (Np (by simp [N7,Jy]) hg (fun e he=>by simp at he; subst he; exact h3)) (by omega)).mono fun e m ⟨a2,b2,c2⟩=>⟨by omega,b2,c2⟩
omit hat in
theorem uF {lo:Nat} {kid:Nat → PR PE} (hk:∀ i,lo ≤ i → i < ts.length → Sat (fun e j=>i < j ∧ j < ts.length ∧ AllP (N4 s) e) (kid i)):∀ (n:Nat) (l:List PE) (i:Nat),lo ≤ i → i < ts.length → (∀ e ∈ l,AllP (N4 s) e) → ts.length - i < n → Sat (fun l j=>i < j ∧ j < ts.length ∧ ∀ e ∈ l,AllP (N4 s) e) (Hc ts kid n l i)
 | 0,l,i,h1,h2,h3,h4=>absurd h4 (Nat.not_lt_zero _)
 | n + 1,l,i,h1,h2,h3,h4=>by
  unfold Hc
  refine .ite (fun h=>?_) (fun _=>?_)
  ·have h5:=G5 hts h2 (ws:=[[44]]) (by decide) h
   refine (hk (i + 1) (by omega) h5).bind fun y j ⟨a,b,c⟩=>?_
   exact (uF hk n _ j (by omega) b (fun e he=>(List.mem_append.1 he).elim (fun he=>h3 e he) (fun he=>by simp at he; subst he; exact c)) (by omega)).mono fun e m ⟨a2,b2,c2⟩=>⟨by omega,b2,c2⟩
  ·exact (Ip hts h2 (ws:=[[41]]) (by decide)).bind fun _ j ⟨_,a,b,_⟩=>.ok ⟨by omega,b,h3⟩
omit hat in
theorem list_s {i:Nat} {kid:Nat → PR PE} (hk:∀ i',i < i' → i' < ts.length → Sat (fun e j=>i' < j ∧ j < ts.length ∧ AllP (N4 s) e) (kid i')) (n:Nat) (hi:i < ts.length) (hn:ts.length - i ≤ n):Sat (fun l j=>i < j ∧ j < ts.length ∧ ∀ e ∈ l,AllP (N4 s) e) (Jm ts kid n i):=by
 unfold Jm
 refine (Ip hts hi (ws:=[[40]]) (by decide)).bind fun _ j ⟨_,a,b,_⟩=>?_
 refine .ite (fun h=>?_) (fun _=>?_)
 ·exact .ok ⟨by omega,G5 hts b (ws:=[[41]]) (by decide) h,fun e he=>by cases he⟩
 ·refine (hk j (by omega) b).bind fun x m ⟨a1,b1,c1⟩=>?_
  exact (uF hts (lo:=i + 1) (fun i' h1 h2=>hk i' (by omega) h2) n [x] m (by omega) b1 (fun e he=>by simp at he; subst he; exact c1) (by omega)).mono fun e m ⟨a2,b2,c2⟩=>⟨by omega,b2,c2⟩
omit hts in
theorem xK {i:Nat} (hi:i < ts.length):AllP (N4 s) (Jh (tk ts i)):=Np rfl (xN (hat i hi)) (fun e he=>by cases he)
omit hts hat in
def Iw:NT → Nat
 | .expr=>12 | .arrow=>11 | .or=>10 | .and=>9 | .not=>8 | .sum=>7 | .term=>6 | .unary=>5 | .when=>4 | .primary=>3 | .name=>2 | .brk=>2 | .call=>1 | .lit=>0
set_option maxHeartbeats 4000000 in
theorem P_s:∀ (n:Nat) (nt:NT) (i:Nat),i < ts.length → 16 * (ts.length - i) + Iw nt < n → Sat (fun e j=>i < j ∧ j < ts.length ∧ AllP (N4 s) e) (P ts n nt i)
 | 0,nt,i,hi,hn=>absurd hn (Nat.not_lt_zero _)
 | n + 1,nt,i,hi,hn=>by
  have ih:=fun (nt:NT) (i':Nat) (h1:i' < ts.length) (h2:16 * (ts.length - i') + Iw nt < n)=>P_s n nt i' h1 h2
  have later:∀ (nt:NT) (i':Nat),i < i' → i' < ts.length → Sat (fun e j=>i' < j ∧ j < ts.length ∧ AllP (N4 s) e) (P ts n nt i'):=fun nt i' h1 h2=>ih nt i' h2 (by cases nt <;> simp only [Iw] <;> omega)
  have two:∀ {x y:PE},AllP (N4 s) x → AllP (N4 s) y → ∀ e ∈ [x,y],AllP (N4 s) e:=fun hx hy e he=>by
   simp at he; rcases he with rfl | rfl
   ·exact hx
   ·exact hy
  have one:∀ {x:PE},AllP (N4 s) x → ∀ e ∈ [x],AllP (N4 s) e:=fun hx e he=>by simp at he; subst he; exact hx
  cases nt with
  | expr =>
   simp only [Iw] at hn
   show Sat _ (if _ then _ else _)
   refine .ite (fun h=>?_) (fun _=>ih .arrow i hi (by simp only [Iw]; omega))
   have h5:=G5 hts hi (ws:=[[105,102]]) (by decide) h
   have hg:=hat i hi
   rw [show (tk ts i).text=[105,102] by simpa using h] at hg
   refine (later .expr (i + 1) (by omega) h5).bind fun c j ⟨a1,b1,c1⟩=>?_
   refine (Ip hts b1 (by decide)).bind fun _ j2 ⟨_,a2,b2,_⟩=>?_
   refine (later .expr j2 (by omega) b2).bind fun y j3 ⟨a3,b3,c3⟩=>?_
   refine (Ip hts b3 (by decide)).bind fun _ j4 ⟨_,a4,b4,_⟩=>?_
   refine (later .expr j4 (by omega) b4).bind fun z j5 ⟨a5,b5,c5⟩=>?_
   refine .ok ⟨by omega,b5,Np (by simp [N7,Jy]) hg (fun e he=>?_)⟩
   simp at he; rcases he with rfl | rfl | rfl
   ·exact c1
   ·exact c3
   ·exact c5
  | arrow =>
   simp only [Iw] at hn
   show Sat _ (PR.bind _ _)
   refine (ih .or i hi (by simp only [Iw]; omega)).bind fun x j ⟨a1,b1,c1⟩=>?_
   refine .ite (fun h=>?_) (fun _=>.ite (fun _=>.ok ⟨a1,b1,c1⟩) (fun _=>.ite (fun h=>?_) (fun _=>.ok ⟨a1,b1,c1⟩)))
   ·have h5:=G5 hts b1 (ws:=[[45,62]]) (by decide) h
    have hg:=hat j b1
    rw [show (tk ts j).text=[45,62] by simpa using h] at hg
    refine (later .arrow (j + 1) (by omega) h5).bind fun y m ⟨a2,b2,c2⟩=>.ok ⟨by omega,b2,Np (by simp [N7,Jy]) hg (two c1 c2)⟩
   ·have h5:=G5 hts b1 (ws:=[[102,98,121]]) (by decide) h
    have hg:=hat j b1
    rw [show (tk ts j).text=[102,98,121] by simpa using h] at hg
    refine (later .arrow (j + 1) (by omega) h5).bind fun y m ⟨a2,b2,c2⟩=>.ok ⟨by omega,b2,Np (by simp [N7,Jy]) hg (two c1 c2)⟩
  | or =>
   simp only [Iw] at hn
   show Sat _ (PR.bind _ _)
   refine (ih .and i hi (by simp only [Iw]; omega)).bind fun x j ⟨a1,b1,c1⟩=>?_
   exact (pJ hts hat (lo:=i + 1) (by decide) (fun i' h1 h2=>later .and i' (by omega) h2) n x j (by omega) b1 c1 (by omega)).mono fun e m ⟨a2,b2,c2⟩=>⟨by omega,b2,c2⟩
  | and =>
   simp only [Iw] at hn
   show Sat _ (PR.bind _ _)
   refine (ih .not i hi (by simp only [Iw]; omega)).bind fun x j ⟨a1,b1,c1⟩=>?_
   exact (pJ hts hat (lo:=i + 1) (by decide) (fun i' h1 h2=>later .not i' (by omega) h2) n x j (by omega) b1 c1 (by omega)).mono fun e m ⟨a2,b2,c2⟩=>⟨by omega,b2,c2⟩
  | not =>
   simp only [Iw] at hn
   show Sat _ (if _ then _ else _)
   refine .ite (fun h=>?_) (fun _=>?_)
   ·have h5:=G5 hts hi (ws:=[[110,111,116]]) (by decide) h
    have hg:=hat i hi
    rw [show (tk ts i).text=[110,111,116] by simpa using h] at hg
    exact (later .not (i + 1) (by omega) h5).bind fun x j ⟨a,b,c⟩=>.ok ⟨by omega,b,Np (by simp [N7,Jy]) hg (one c)⟩
   ·refine (ih .sum i hi (by simp only [Iw]; omega)).bind fun x j ⟨a1,b1,c1⟩=>?_
    refine .ite (fun h=>?_) (fun _=>.ok ⟨a1,b1,c1⟩)
    have h5:=G5 hts b1 (ws:=[[61],[60,62],[60],[60,61],[62],[62,61]]) (by decide) h
    exact (later .sum (j + 1) (by omega) h5).bind fun y m ⟨a2,b2,c2⟩=>.ok ⟨by omega,b2,rL (hat j b1) c1 c2⟩
  | sum =>
   simp only [Iw] at hn
   show Sat _ (PR.bind _ _)
   refine (ih .term i hi (by simp only [Iw]; omega)).bind fun x j ⟨a1,b1,c1⟩=>?_
   exact (pJ hts hat (lo:=i + 1) (by decide) (fun i' h1 h2=>later .term i' (by omega) h2) n x j (by omega) b1 c1 (by omega)).mono fun e m ⟨a2,b2,c2⟩=>⟨by omega,b2,c2⟩
  | term =>
   simp only [Iw] at hn
   show Sat _ (PR.bind _ _)
   refine (ih .unary i hi (by simp only [Iw]; omega)).bind fun x j ⟨a1,b1,c1⟩=>?_
   exact (pJ hts hat (lo:=i + 1) (by decide) (fun i' h1 h2=>later .unary i' (by omega) h2) n x j (by omega) b1 c1 (by omega)).mono fun e m ⟨a2,b2,c2⟩=>⟨by omega,b2,c2⟩
  | unary =>
   simp only [Iw] at hn
   show Sat _ (if _ then _ else _)
   refine .ite (fun h=>?_) (fun _=>.ite (fun _=>num_s hts hat hi) (fun _=>.ite (fun h=>?_) (fun _=>ih .when i hi (by simp only [Iw]; omega))))
   ·have h5:=G5 hts hi (ws:=[[112,114,101]]) (by decide) h
    have hg:=hat i hi
    rw [show (tk ts i).text=[112,114,101] by simpa using h] at hg
    exact (later .unary (i + 1) (by omega) h5).bind fun x j ⟨a,b,c⟩=>.ok ⟨by omega,b,Np (by simp [N7,Jy]) hg (one c)⟩
   ·have h5:=G5 hts hi (ws:=[[45]]) (by decide) h
    have hg:=hat i hi
    rw [show (tk ts i).text=[45] by simpa using h] at hg
    exact (later .unary (i + 1) (by omega) h5).bind fun x j ⟨a,b,c⟩=>.ok ⟨by omega,b,Np (by simp [N7,Jy]) hg (one c)⟩
  | when =>
   simp only [Iw] at hn
   show Sat _ (PR.bind _ _)
   refine (ih .primary i hi (by simp only [Iw]; omega)).bind fun x j ⟨a1,b1,c1⟩=>?_
   exact (when_s hts hat n x j b1 c1 (by omega)).mono fun e m ⟨a2,b2,c2⟩=>⟨by omega,b2,c2⟩
  | primary =>
   simp only [Iw] at hn
   show Sat _ (if _ then _ else _)
   refine .ite (fun _=>num_s hts hat hi) (fun _=>.ite (fun _=>ih .name i hi (by simp only [Iw]; omega)) (fun _=>.ite (fun h=>?_) (fun _=>.ite (fun h=>?_) (fun _=>.ite (fun h=>?_) (fun _=>ih .brk i hi (by simp only [Iw]; omega))))))
   ·exact .ok ⟨by omega,G5 hts hi (ws:=[[116,114,117,101],[102,97,108,115,101]]) (by decide) (by simpa using h),xK hat hi⟩
   ·have h5:=G5 hts hi (ws:=[[109,101,114,103,101]]) (by decide) (by simpa using h)
    have hg:=hat i hi
    rw [h] at hg
    refine (Rs hts h5 (by decide)).bind fun t j ⟨_,a1,b1⟩=>?_
    refine (later .brk j (by omega) b1).bind fun x j2 ⟨a2,b2,c2⟩=>?_
    refine (later .brk j2 (by omega) b2).bind fun y j3 ⟨a3,b3,c3⟩=>?_
    exact .ok ⟨by omega,b3,Np (by simp [N7,Jy]) hg (two c2 c3)⟩
   ·have h5:=G5 hts hi (ws:=[[97,119,97,105,116]]) (by decide) (by simpa using h)
    have hg:=hat i hi
    rw [h] at hg
    refine (Rs hts h5 (by decide)).bind fun t j ⟨_,a1,b1⟩=>?_
    refine .ite (fun h=>?_) (fun _=>.ok ⟨by omega,b1,Np (by simp [N7,Jy]) hg (fun e he=>by cases he)⟩)
    have h6:=G5 hts b1 (ws:=[[97,102,116,101,114]]) (by decide) h
    refine (Ip hts h6 (by decide)).bind fun _ j2 ⟨_,a2,b2,_⟩=>?_
    refine (later .lit j2 (by omega) b2).bind fun x m ⟨a3,b3,c3⟩=>?_
    refine (uF hts (lo:=i + 1) (fun i' h1 h2=>later .lit i' (by omega) h2) n [x] m (by omega) b3 (one c3) (by omega)).bind fun l m2 ⟨a4,b4,c4⟩=>?_
    exact .ok ⟨by omega,b4,Np (by simp [N7,Jy]) hg c4⟩
  | name =>
   simp only [Iw] at hn
   show Sat _ (if _ then _ else _)
   refine .ite (fun _=>ih .call i hi (by simp only [Iw]; omega)) (fun _=>?_)
   refine (Rs hts hi (by decide)).bind fun t j ⟨h1,a1,b1⟩=>.ok ⟨by omega,b1,Np (w:=t.text) (by simp [N7,Jy]) (by rw [h1]; exact hat i hi) (fun e he=>by cases he)⟩
  | call =>
   simp only [Iw] at hn
   show Sat _ (PR.bind _ _)
   refine (Rs hts hi (by decide)).bind fun t j ⟨h1,a1,b1⟩=>?_
   refine (list_s hts (fun i' h1 h2=>later .expr i' (by omega) h2) n b1 (by omega)).bind fun l m ⟨a2,b2,c2⟩=>?_
   exact .ok ⟨by omega,b2,Np (w:=t.text) (by simp [N7,Jy]) (by rw [h1]; exact hat i hi) c2⟩
  | brk =>
   simp only [Iw] at hn
   show Sat _ (PR.bind _ _)
   refine (Ip hts hi (by decide)).bind fun _ j ⟨_,a1,b1,_⟩=>?_
   refine (later .expr j (by omega) b1).bind fun x j2 ⟨a2,b2,c2⟩=>?_
   exact (Ip hts b2 (by decide)).bind fun _ j3 ⟨_,a3,b3,_⟩=>.ok ⟨by omega,b3,c2⟩
  | lit =>
   simp only [Iw] at hn
   show Sat _ (if _ then _ else _)
   refine .ite (fun h=>?_) (fun _=>num_s hts hat hi)
   exact .ok ⟨by omega,G5 hts hi (ws:=[[116,114,117,101],[102,97,108,115,101]]) (by decide) h,xK hat hi⟩
end
end Go.Ax
noncomputable section
namespace Go.Ax
open Go.RowKit Go.Proofs
set_option maxRecDepth 100000
theorem wide_all {B:PE → Prop}:∀ {e:PE},AllP B e → Wide e → AllP (fun e=>Wide e ∧ B e) e:=fun {e} h=>by
 induction h with
 | mk kind pos n name off kids hb hk ih =>
  intro hw
  have hw2:=hw
  cases hw with
  | mk _ _ _ _ _ _ hl hkw=>exact .mk _ _ _ _ _ _ ⟨hw2,hb⟩ (fun e he=>ih e he (hkw e he))
section
variable {ts:List Tk} (hts:TokOk ts) {s:List UInt8} (hat:Px s ts)
include hts
theorem X5 (hat:Px s ts) (n:Nat) (hn:16 * ts.length + 16 ≤ n) (hN:n ≤ 1000000) (nt:NT) {i:Nat} (hi:i < ts.length):Sat (fun e j=>i < j ∧ j < ts.length ∧ AllP (fun e=>Wide e ∧ N4 s e) e) (Gs (P ts n nt) i):=by
 unfold Gs
 have h:=P_s hts hat n nt i hi (by cases nt <;> simp only [Iw] <;> omega)
 have h2:Sat (fun e j=>i < j ∧ j < ts.length ∧ AllP (fun e=>Wide e ∧ N4 s e) e) (P ts n nt i):=⟨h.1,fun e j he=>⟨(h.2 e j he).1,(h.2 e j he).2.1,wide_all (h.2 e j he).2.2 (fS n hN nt _ _ _ he)⟩⟩
 refine h2.bind fun e j h=>?_
 exact .ite (fun _=>.bad) (fun _=>.ok h)
end
end Go.Ax
noncomputable section
namespace Go.Ax
open Go.RowKit Go.Proofs
set_option maxRecDepth 100000
theorem Qb (l:List UInt8) (k:Nat):l.take (l.take k).length=l.take k:=by
 rw [List.length_take]
 by_cases h:k ≤ l.length
 ·rw [Nat.min_eq_left h]
 ·rw [Nat.min_eq_right (by omega),List.take_of_length_le (Nat.le_refl _),List.take_of_length_le (by omega)]
theorem next_text {l:List UInt8} {i:Nat} {t:Tk} (h:H7 l i=some (t,0)):t.pos=i ∧ l.take t.text.length=t.text:=by
 unfold H7 at h
 split at h
 ·cases h
 ·rename_i b r
  split at h
  ·injection h with h
   unfold Mz at h
   split at h
   ·injection h with h1 h2; subst h1; exact ⟨rfl,Qb _ _⟩
   ·split at h
    ·injection h with h1 h2; cases h2
    ·injection h with h1 h2; subst h1; exact ⟨rfl,Qb _ _⟩
  ·split at h
   ·unfold Wq at h
    split at h
    ·injection h with h; injection h with h1 h2; cases h2
    ·split at h
     ·split at h
      ·injection h with h; injection h with h1 h2; cases h2
      ·injection h with h; injection h with h1 h2; subst h1; exact ⟨rfl,Qb _ _⟩
     ·injection h with h; injection h with h1 h2; cases h2
   ·injection h with h
    unfold Ll at h
    split at h
    ·rename_i s hs
     injection h with h1 h2; subst h1
     have:=List.find?_some hs
     unfold Ef at this
     exact ⟨rfl,by simpa using this⟩
    ·injection h with h1 h2; cases h2
theorem allF_at (l:List UInt8):∀ (n i:Nat) (ts:List Tk),i ≤ l.length → N0 l n i=some (.inr ts) → ∀ j (h:j < ts.length),stB l ts[j].text ts[j].pos=true
 | 0,i,ts,hi,h,j,hj=>by cases h
 | n + 1,i,ts,hi,h,j,hj=>by
  unfold N0 at h
  split at h
  ·rename_i hil
   split at h
   ·cases h
   ·rename_i p hp
    split at h
    ·rename_i he
     split at h
     ·cases h
     ·cases h
     ·rename_i ts2 h2
      injection h with h; injection h with h; subst h
      have hq:H7 (l.drop i) i=some (p.1,0):=by rw [hp,← he]
      obtain ⟨t1,t2⟩:=next_text hq
      have t3:=Wu hq
      rw [List.length_drop] at t3
      cases j with
      | zero =>
       show stB l p.1.text p.1.pos=true
       unfold stB
       rw [t1,t2,Bool.and_eq_true]
       exact ⟨decide_eq_true (by omega),decide_eq_true rfl⟩
      | succ j =>
       have hs:=Mf (l.length + 1) (l.drop (i + p.1.text.length))
       rw [List.length_drop] at hs
       exact allF_at l n _ ts2 (by omega) h2 j (by simpa using hj)
    ·cases h
  ·injection h with h; injection h with h; subst h
   have:j=0:=by simp at hj; exact hj
   subst this
   show stB l [] l.length=true
   unfold stB
   simp
theorem mW {l:List UInt8} {ts:List Tk} (h:Kp l=some (.inr ts)):Px l ts:=by
 unfold Kp at h
 split at h
 ·cases h
 ·intro i hi
  rw [K8 hi]
  exact allF_at l _ _ ts (Mf _ _) h i hi
theorem fM (l:List UInt8):∀ (n i:Nat) (ts:List Tk),N0 l n i=some (.inr ts) → ts.length ≤ n
 | 0,i,ts,h=>by cases h
 | n + 1,i,ts,h=>by
  unfold N0 at h
  split at h
  ·split at h
   ·cases h
   ·rename_i p hp
    split at h
    ·rename_i he
     split at h
     ·cases h
     ·cases h
     ·rename_i ts2 h2
      injection h with h; injection h with h; subst h
      have:=fM l n _ ts2 h2
      simp; omega
    ·cases h
  ·injection h with h; injection h with h; subst h
   simp
theorem qU {l:List UInt8} {ts:List Tk} (h:Kp l=some (.inr ts)):ts.length ≤ 4001:=by
 unfold Kp at h
 split at h
 ·cases h
 ·have:=fM l _ _ ts h; omega
end Go.Ax
noncomputable section
namespace Go.Ax
open Go.RowKit Go.Proofs
set_option maxRecDepth 100000
theorem codeWG {E:Env} (hE:E.Ok) (hI:Kg E) (hmix:E.P.follows .mixedOrders=true) {n t:Nat} {c:Code} {f:T AV} {S:St}
  (h:W E n c ⟨f,[]⟩ S (fun r=>∃ f' S',r=.out .ret ⟨f',[]⟩ S' ∧ f'.get t=some (.v (.bool true)))) {Q:Exit → Act → World → Prop} {act:Act} {γ:Gh} {base:Nat} {w0 w:World} (hS:SR base w0 γ S w) (hg:GR γ w E.G) (hf:FR γ w f act.tmps) (hn:act.tmps.size=n) (hd:act.defers=[])
  (hQ:∀ act' w',act'.tmps.size=n → act'.defers=[] → act'.tmps[t]? = some (.bool true) → Below base w0 w' → Q .ret act' w'):c.wp E.P Q act w:=by
 obtain ⟨r,⟨m0,hm⟩,f',S',rfl,ht⟩:=El h
 refine (Qn hE hI (I6 hE hmix) m0).code base w0 Q n c γ S w ⟨f,[]⟩ act hS ⟨hf,hn,by rw [hd]; trivial⟩ hg ?_
 rw [hm m0 (Nat.le_refl _)]
 intro γ' act' w' h1 h2 h3
 show Q .ret act' w'
 obtain ⟨k1,k2⟩:=h3.tmps t _ ht
 have hdd:=h3.dfr
 have hd':act'.defers=[]:=by
  cases hx:act'.defers with
  | nil=>rfl
  | cons a r=>rw [hx] at hdd; exact hdd.elim
 refine hQ act' w' h3.size hd' ?_ h1.below
 have e1:act'.tmps[t]? = some (act'.tmps[t]):=Array.getElem?_eq_getElem k1
 have e2:act'.tmps.getD t undef=act'.tmps[t]:=by simp [k1]
 rw [e1]
 rw [e2] at k2
 generalize act'.tmps[t]=z at k2
 cases k2
 rfl
def GhW (w:World):Gh:={ loc:=fun _=>none,im:=fun b o=>b < w.heap.size ∧ ∃ v,w.cell? ⟨b,o,none⟩=some v }
theorem SR.whole (w:World):SR w.heap.size w (GhW w) St0 w :=
 ⟨.refl _ _,Nat.le_refl _,fun _ _ h=>h.2,fun _ _=>⟨rfl,rfl⟩,Nat.le_refl _,fun _ _ _ h=>(by cases h),fun _ _ h=>(by cases h),fun _ _ _ _ _ _ _ h=>(by cases h)⟩
def RngIn (w:World):Prop:=∃ b o:Nat,w.cell? ⟨5,0,none⟩=some (.iface 278 (.pointer (some ⟨b,o,none⟩)))
theorem RngIn.gr {w:World} (h:RngIn w):GR (GhW w) w gR:=by
 obtain ⟨b,o,h⟩:=h
 intro g cs hg
 unfold gR at hg
 cases hb:Nat.beq g 5 with
 | false=>rw [hb] at hg; cases hg
 | true =>
  have:g=5:=Nat.eq_of_beq_eq_true hb
  subst this
  rw [hb] at hg
  injection hg with hg; subst hg
  refine ⟨.ep _ 5 0 (fun _=>.iface 278 (.pointer (some ⟨b,o,none⟩))) (fun k hk=>?_) (fun x hx=>?_) (fun k hk=>?_),fun h2=>absurd h2 (by simp)⟩
  ·have:k=0:=by simp at hk; exact hk
   subst this
   exact ⟨⟨World.block_lt_of_cell? w _ h,_,h⟩,h⟩
  ·simp only [List.mem_cons,List.not_mem_nil,or_false] at hx; subst hx; rfl
  ·have:k=0:=by simp at hk; exact hk
   subst this
   exact .iface _ _ _ (.ep [] b o (fun _=>undef) (fun k h=>absurd h (Nat.not_lt_zero k)) (fun _ h=>absurd h List.not_mem_nil) (fun k h=>absurd h (Nat.not_lt_zero k)))
end Go.Ax
noncomputable section
namespace Go.Ax
open Go.RowKit Go.Proofs
set_option maxRecDepth 100000
def allK (F L:Nat):Nat → List UInt8 → Nat → Option ((Nat × Nat) ⊕ List Tk)
 | 0,_,_=>none
 | n + 1,r,i=>match r with
  | []=>some (.inr [⟨5,L,[],0⟩])
  | b :: r'=>match H7 (b :: r') i with
   | none=>none
   | some p=>if p.2=0 then (match allK F L n (((b :: r').drop p.1.text.length).drop (Hg F ((b :: r').drop p.1.text.length))) (i + p.1.text.length + Hg F ((b :: r').drop p.1.text.length)) with
     | none=>none
     | some (.inl x)=>some (.inl x)
     | some (.inr ts)=>some (.inr (p.1 :: ts))) else some (.inl (i,p.2))
def lexK (L:Nat) (l:List UInt8):Option ((Nat × Nat) ⊕ List Tk):=Bool.rec (motive:=fun _=>Option ((Nat × Nat) ⊕ List Tk)) (some (.inl (4000,3))) (allK (L + 1) L (L + 1) (l.drop (Hg (L + 1) l)) (Hg (L + 1) l)) (Nat.ble L 4000)
def Yk (args:List AV) (S:St):R:=match args with
 | [.v (.string s)]=>if s.size ≤ 1000000 then (match lexK s.data.toList.length s.data.toList with
   | some (.inr ts)=>.ret (.tup [.sl 0 0 4 (ts.map Fp),.agg (Dc 0 0)]) S
   | some (.inl x)=>.ret (.tup [.nils,.agg (Dc x.1 x.2)]) S
   | none=>.fail) else .fail
 | _=>.fail
def AV.plain:AV → Bool
 | .v _=>true
 | _=>false
theorem VR.plain {γ γ':Gh} {w w':World} {a:AV} {x:Value} (h:VR γ w a x) (hp:a.plain=true):VR γ' w' a x:=by
 cases h with
 | v x h=>exact .v x h
 | _=>cases hp
def Vb:List AV → Option (List (List UInt8))
 | []=>some []
 | .v (.string s) :: r=>match Vb r with
  | some l=>some (s.data.toList :: l)
  | none=>none
 | _=>none
theorem Sl:∀ {es:List AV} {ws:List (List UInt8)},Vb es=some ws → es=ws.map Bp
 | [],ws,h=>by injection h with h; subst h; rfl
 | a :: r,ws,h=>by
  unfold Vb at h
  split at h
  ·cases ‹_ :: _=[]›
  ·rename_i s r' heq
   injection heq with e1 e2; subst e1; subst e2
   split at h
   ·rename_i l hl
    injection h with h; subst h
    rw [Sl hl]; rfl
   ·cases h
  ·cases h
def memK (s:List UInt8) (ws:List (List UInt8)):Bool:=List.rec (motive:=fun _=>Bool) false (fun w _ ih=>Bool.rec (motive:=fun _=>Bool) ih true (Kl s w)) ws
def Pf (args:List AV) (S:St):R:=match args with
 | [.sl tok off 1 es,.v (.string s)]=>match Vb es with
  | some ws=>if ws.length ≤ 100000 then .ret (.v (.bool (memK s.data.toList ws))) S else .fail
  | none=>.fail
 | _=>.fail
def knownI (k:Nat):Option (List AV → St → R):=Bool.rec (Bool.rec (E1.I k) (some Pf) (Nat.beq k 129)) (some Yk) (Nat.beq k 25)
def E2:Env:={ P:=Tryz.prog,G:=gR,F:=E1.F,I:=knownI,M:=rowM }
end Go.Ax
noncomputable section
namespace Go.Ax
open Go.RowKit Go.Proofs
set_option maxRecDepth 100000
def Zs:List AV → Option AV
 | [.nils,.v (.string _)]=>some (Bp [])
 | [.sl _ _ 1 es,.v (.string s)]=>match Vb es with
  | some ws=>if ws.length ≤ 1000000 ∧ (Lib.join ws s.data.toList).length ≤ 1000000000 then some (Bp (Lib.join ws s.data.toList)) else none
  | none=>none
 | _=>none
def rV:List AV → Option AV
 | [.v (.int .i64 n),.v (.int .i64 10)]=>if -9223372036854775808 ≤ n ∧ n ≤ 9223372036854775807 then some (Bp (Lib.itoa n)) else none
 | _=>none
theorem VRL.two' {γ:Gh} {w:World} {a b:AV} {vs:List Value} (h:VRL γ w [a,b] vs):∃ x y,vs=[x,y] ∧ VR γ w a x ∧ VR γ w b y:=by
 obtain ⟨h1,h2⟩:=h
 match vs,h1 with
 | [x,y],_=>exact ⟨x,y,rfl,h2 0 (by simp) (by simp),h2 1 (by simp) (by simp)⟩
theorem Uk (ws:List (List UInt8)):Ec (ws.map Bp)=ws.map Bp:=by
 induction ws with
 | nil=>rfl
 | cons a r ih =>
  have:Ec (Bp a :: r.map Bp)=Bp a :: Ec (r.map Bp):=rfl
  rw [List.map_cons,this,ih]
theorem get_eq {l m:List AV} (h:l=m) (k:Nat) (h1:k < l.length):l[k]=m[k]'(h ▸ h1):=by subst h; rfl
theorem join_ok:∀ args a,Zs args=some a → ∀ γ w (vs:List Value),VRL γ w args vs → Calls Tryz.prog 88 vs.toArray w fun e w'=>Below w.heap.size w w' ∧ ∃ v,e=.returned v ∧ ∀ γ w,VR γ w a v:=by
 intro args a h γ w vs hv
 unfold Zs at h
 split at h
 ·injection h with h; subst h
  obtain ⟨x,y,rfl,hx,hy⟩:=hv.two'
  cases hx; cases hy
  refine (Tryz.strings_Join_none none 0 _ w).mono fun e w' he=>?_
  obtain ⟨rfl,rfl⟩:=he
  exact ⟨.refl _ _,_,rfl,fun γ w=>.v _ rfl⟩
 ·rename_i tok off es s
  split at h
  ·rename_i ws hws
   split at h
   ·rename_i hc
    injection h with h; subst h
    have he:=Sl hws
    subst he
    obtain ⟨x,y,rfl,hx,hy⟩:=hv.two'
    cases hy
    cases hx with
    | sl _ _ _ _ b o cap c hsz hes h1 h2 hr ht hf hcap hb =>
     rw [Uk] at h2
     obtain ⟨arr,T,fr,ha,hle⟩:=hb
     have hbk:b < w.heap.size:=(Array.getElem?_eq_some_iff.1 ha).1
     have hl:(ws.map Bp).length=ws.length:=List.length_map ..
     have hcell:∀ (j:Nat) (x:ByteArray),(ws.map (fun l=>(⟨⟨l⟩⟩:ByteArray)))[j]? = some x → w.cell? ⟨b,o + j,none⟩=some (.string x):=fun j x hj=>by
      obtain ⟨hj1,hj2⟩:=List.getElem?_eq_some_iff.1 hj
      rw [List.length_map] at hj1
      have e1:=(h2 j (by rw [hl]; exact hj1)).2
      have e2:=hr j (by rw [Uk,hl]; exact hj1)
      have e3:(Ec (ws.map Bp))[j]'(by rw [Uk,hl]; exact hj1)=Bp ws[j]:=by
       rw [get_eq (Uk ws) j,List.getElem_map]
      rw [e3] at e2
      rw [e1]
      rw [List.getElem_map] at hj2
      subst hj2
      generalize c j=z at e2
      cases e2
      rfl
     have hJ:(ws.map (fun l=>(⟨⟨l⟩⟩:ByteArray))).map (·.data.toList)=ws:=by rw [List.map_map]; exact (List.map_congr_left (fun _ _=>rfl)).trans (List.map_id _)
     have:=Tryz.strings_Join b o cap (ws.map (fun l=>(⟨⟨l⟩⟩:ByteArray))) s w hcell hbk (by rw [List.length_map]; omega) (by rw [List.length_map]; rw [hl] at hcap; exact hcap) (by rw [hJ]; omega)
     rw [hJ,List.length_map] at this
     rw [hl]
     refine this.mono fun e w' he=>?_
     obtain ⟨rfl,hb⟩:=he
     exact ⟨hb,_,rfl,fun γ w=>.v _ rfl⟩
   ·cases h
  ·cases h
 ·cases h
def Us:List AV:=Lib.pow10Tab.map fun z=>.v (.int .u64 z)
def gF:Gl:=fun g=>Bool.rec none (some Us) (Nat.beq g 0)
theorem Qr:Us.length=20:=by unfold Us; rw [List.length_map,Lib.pow10Tab_length]
theorem gPow6:Tryz.prog.globalNamed "internal/strconv.uint64pow10" = some 0:=by kernel_rfl
theorem tab_of {γ:Gh} {w:World} (h:GR γ w gF):Lib.TabIs Tryz.prog w "internal/strconv.uint64pow10" .u64 Lib.pow10Tab:=by
 obtain ⟨h1,h2⟩:=h 0 Us rfl
 obtain ⟨arr,T,fr,ha,hs⟩:=h2 (by rw [Qr]; omega)
 unfold Lib.TabIs World.var?
 rw [gPow6]
 simp only [Ai,ha]
 congr 1
 rw [Qr] at hs
 apply Array.ext
 ·simp [hs,Lib.pow10Tab_length]
 ·intro i hi1 hi2
  cases h1 with
  | ep cs b o c hc h3 hr =>
   have hi:i < Us.length:=by rw [Qr]; omega
   have e1:=(hc i hi).2
   have e2:=hr i hi
   rw [Nat.zero_add,Kd ha,Array.getElem?_eq_getElem hi1] at e1
   injection e1 with e1
   have e3:Us[i]=.v (.int .u64 (Lib.pow10Tab[i]'(by rw [Lib.pow10Tab_length]; omega))):=by simp [Us]
   rw [e3,← e1] at e2
   have:∀ {z:Int} {v:Value},VR γ w (.v (.int .u64 z)) v → v=.int .u64 z:=fun h=>by cases h; rfl
   rw [this e2]
   simp
theorem fmt_ok:∀ args a,rV args=some a → ∀ γ w (vs:List Value),GR γ w gF → VRL γ w args vs → Calls Tryz.prog 48 vs.toArray w fun e w'=>Below w.heap.size w w' ∧ ∃ v,e=.returned v ∧ ∀ γ w,VR γ w a v:=by
 intro args a h γ w vs hg hv
 unfold rV at h
 split at h
 ·rename_i n
  split at h
  ·rename_i hc
   injection h with h; subst h
   obtain ⟨x,y,rfl,hx,hy⟩:=hv.two'
   cases hx; cases hy
   refine (Tryz.strconv_FormatInt_10 n hc.1 hc.2 w (tab_of hg)).mono fun e w' he=>?_
   obtain ⟨rfl,k,os,rfl⟩:=he
   exact ⟨Lib.below_grow _ w (Nat.le_refl _) k os,_,rfl,fun γ w=>.v _ rfl⟩
  ·cases h
 ·cases h
def knownI6 (k:Nat):Option (List AV → St → R):=Bool.rec (Bool.rec none (some (F4 Zs)) (Nat.beq k 88)) (some (F4 rV)) (Nat.beq k 48)
def E6:Env:={ P:=Tryz.prog,G:=gF,F:=E1.F,I:=knownI6,M:=rowM }
theorem e6_ok:E6.Ok:=⟨fun k fn h=>To.fn k fn h⟩
theorem e6_mix:E6.P.follows .mixedOrders=true:=Tp
theorem Wh {g:List AV → Option AV} {k:Nat} {base:Nat} {w0:World} {args:List AV} {S:St} (hne:F4 g args S ≠ .fail) {γ:Gh} {w:World} {vs:List Value} (hS:SR base w0 γ S w)
  (h:∀ a,g args=some a → Calls Tryz.prog k vs.toArray w fun e w'=>Below w.heap.size w w' ∧ ∃ v,e=.returned v ∧ ∀ γ w,VR γ w a v):Calls Tryz.prog k vs.toArray w (Ni base w0 γ S w (F4 g args S)):=by
 cases hga:g args with
 | none=>exact absurd (by simp [F4,hga]) hne
 | some a =>
  have e:F4 g args S=.ret a S:=by simp only [F4,hga]
  rw [e]
  refine (h a hga).mono fun e w' he=>?_
  obtain ⟨hb,v,rfl,hv⟩:=he
  obtain ⟨q1,q2⟩:=hS.after hb
  exact ⟨γ,v,q1,q2,hv _ _,rfl⟩
theorem e6_intr:Kg E6:=fun k g hk base w0 args S hne γ w vs hS hg hv=>by
 have hk2:(Bool.rec (Bool.rec none (some (F4 Zs)) (Nat.beq k 88)) (some (F4 rV)) (Nat.beq k 48):Option (List AV → St → R))=some g:=hk
 cases hb:Nat.beq k 48 with
 | true =>
  rw [hb] at hk2
  injection hk2 with hk2; subst hk2
  have:k=48:=Nat.eq_of_beq_eq_true hb
  subst this
  exact Wh hne hS fun a ha=>fmt_ok args a ha γ w vs hg hv
 | false =>
  rw [hb] at hk2
  cases hc:Nat.beq k 88 with
  | false=>rw [hc] at hk2; cases hk2
  | true =>
   rw [hc] at hk2
   injection hk2 with hk2; subst hk2
   have:k=88:=Nat.eq_of_beq_eq_true hc
   subst this
   exact Wh hne hS fun a ha=>join_ok args a ha γ w vs hv
end Go.Ax
noncomputable section
namespace Go.Ax
open Go.RowKit Go.Proofs
set_option maxRecDepth 100000
def F0 {α β:Type} (R:α → β → Prop):PR α → PR β → Prop
 | .ok a i,.ok b j=>i=j ∧ R a b
 | .bad _ e,.bad _ e'=>e=e'
 | .out,.out=>True
 | _,_=>False
section
variable {α β γ δ:Type}
theorem F0.bind {R:α → β → Prop} {Q:γ → δ → Prop} {x:PR α} {y:PR β} {f:α → Nat → PR γ} {g:β → Nat → PR δ} (h:F0 R x y) (hf:∀ a b i,R a b → F0 Q (f a i) (g b i)):F0 Q (x.bind f) (y.bind g):=by
 cases x <;> cases y <;> simp only [F0,PR.bind] at h ⊢ <;> first | exact h | exact h.elim | (obtain ⟨rfl,h⟩:=h; exact hf _ _ _ h)
theorem F0.ite {Q:γ → δ → Prop} {c c':Prop} [Decidable c] [Decidable c'] (hc:c ↔ c') {x y:PR γ} {x' y':PR δ} (h1:c → F0 Q x x') (h2:¬ c → F0 Q y y'):F0 Q (if c then x else y) (if c' then x' else y'):=by
 by_cases h:c
 ·rw [if_pos h,if_pos (hc.1 h)]; exact h1 h
 ·rw [if_neg h,if_neg (fun h'=>h (hc.2 h'))]; exact h2 h
theorem F0.ok {R:α → β → Prop} {a:α} {b:β} {i:Nat} (h:R a b):F0 R (.ok a i) (.ok b i):=⟨rfl,h⟩
end
mutual
inductive LikeE:PE → PE → Prop where
 | mk (kind pos pos':Nat) (n:Int) (name:List UInt8) (off:Bool) (kids kids':List PE) (h:LikeL kids kids'):LikeE (.mk kind pos n name off kids) (.mk kind pos' n name off kids')
inductive LikeL:List PE → List PE → Prop where
 | nil:LikeL [] []
 | cons (a b:PE) (l m:List PE) (h:LikeE a b) (h2:LikeL l m):LikeL (a :: l) (b :: m)
end
theorem LikeL.snoc:∀ {l m:List PE} {a b:PE},LikeL l m → LikeE a b → LikeL (l ++ [a]) (m ++ [b])
 | [],[],a,b,.nil,h=>.cons _ _ _ _ h .nil
 | _ :: _,_ :: _,a,b,.cons _ _ _ _ h h2,k=>.cons _ _ _ _ h (h2.snoc k)
theorem LikeL.one {a b:PE} (h:LikeE a b):LikeL [a] [b]:=.cons _ _ _ _ h .nil
theorem LikeL.two {a b c d:PE} (h:LikeE a b) (k:LikeE c d):LikeL [a,c] [b,d]:=.cons _ _ _ _ h (.one k)
theorem LikeL.three {a b c d e f:PE} (h:LikeE a b) (k:LikeE c d) (m:LikeE e f):LikeL [a,c,e] [b,d,f]:=.cons _ _ _ _ h (.two k m)
def tD (t u:Tk):Prop:=t.kind=u.kind ∧ t.text=u.text ∧ t.num=u.num
structure LikeS (ts us:List Tk):Prop where
 len:ts.length=us.length
 at_:∀ i,tD (tk ts i) (tk us i)
section
variable {ts us:List Tk} (h:LikeS ts us)
include h
theorem LikeS.kind (i:Nat):(tk ts i).kind=(tk us i).kind:=(h.at_ i).1
theorem LikeS.text (i:Nat):(tk ts i).text=(tk us i).text:=(h.at_ i).2.1
omit h in
theorem fB {a b:PE} (h:LikeE a b):G8 a=G8 b:=by cases h; rfl
end
end Go.Ax
noncomputable section
namespace Go.Ax
open Go.RowKit Go.Proofs
set_option maxRecDepth 100000
inductive Each2 {α β:Type} (R:α → β → Prop):List α → List β → Prop where
 | nil:Each2 R [] []
 | cons (a:α) (b:β) (l:List α) (m:List β) (h:R a b) (h2:Each2 R l m):Each2 R (a :: l) (b :: m)
theorem Each2.snoc {α β:Type} {R:α → β → Prop}:∀ {l:List α} {m:List β} {a:α} {b:β},Each2 R l m → R a b → Each2 R (l ++ [a]) (m ++ [b])
 | [],[],a,b,.nil,h=>.cons _ _ _ _ h .nil
 | _ :: _,_ :: _,a,b,.cons _ _ _ _ h h2,k=>.cons _ _ _ _ h (h2.snoc k)
theorem Each2.one {α β:Type} {R:α → β → Prop} {a:α} {b:β} (h:R a b):Each2 R [a] [b]:=.cons _ _ _ _ h .nil
mutual
theorem Y0:∀ {a b:PE},LikeE a b → Lb a=Lb b
 | _,_,.mk _ _ _ _ _ _ l m h=>by
  show IntKind.i64.wrap (Pu l 0 + 1)=IntKind.i64.wrap (Pu m 0 + 1)
  rw [eU h 0]
theorem eU:∀ {l m:List PE},LikeL l m → ∀ k,Pu l k=Pu m k
 | _,_,.nil,k=>rfl
 | _,_,.cons a b l m h h2,k=>by
  show Pu l (if Lb a > k then Lb a else k)=Pu m (if Lb b > k then Lb b else k)
  rw [Y0 h,eU h2]
end
section
variable {ts us:List Tk} (h:LikeS ts us)
include h
omit h in
omit h in
end
end Go.Ax
noncomputable section
namespace Go.Ax
open Go.RowKit Go.Proofs
set_option maxRecDepth 100000
def F1 (s:List UInt8):Nat:=if s=[111,114] ∨ s=[120,111,114] then 2 else if s=[97,110,100] then 3 else if s=[43] ∨ s=[45] then 6 else if s=[42] ∨ s=[47] ∨ s=[109,111,100] then 7 else 5
def Dh:PE → Nat
 | .mk kind _ n name _ _=>if kind=1 then (if n < 0 then 8 else 10) else if kind=4 ∨ kind=10 then 8 else if kind=5 then 4 else if kind=6 then F1 name else if kind=7 then 0 else if kind=8 ∨ kind=9 then 1 else if kind=11 then 9 else 10
def I4:PE → Nat
 | .mk kind _ _ _ _ _=>kind
structure KI where
 text:List UInt8
 binds:Nat
 kind:Nat
def kT (ks:List KI) (i least:Nat):List UInt8:=match ks[i]? with
 | none=>[]
 | some k=>if k.binds < least then 40 :: (k.text ++ [41]) else k.text
def Kj (ks:List KI):List UInt8:=Lib.join (ks.map (·.text)) [44,32]
def Oy (name:List UInt8) (off:Bool):List UInt8:=if off then [32,119,104,101,110,32,110,111,116,32] ++ name else [32,119,104,101,110,32] ++ name
def Yj (ks:List KI):List UInt8:=if (∃ k,ks[0]? = some k ∧ k.kind=1) ∨ Ef [45] (kT ks 0 8)=true then ([45,40] ++ kT ks 0 8) ++ [41] else [45] ++ kT ks 0 8
def gJ (name:List UInt8) (ks:List KI):List UInt8:=(((kT ks 0 (if F1 name=5 then 6 else F1 name) ++ [32]) ++ name) ++ [32]) ++ kT ks 1 (F1 name + 1)
def Tw (name:List UInt8) (ks:List KI):List UInt8:=if 0 < ks.length then ([97,119,97,105,116,32] ++ name) ++ (([32,97,102,116,101,114,32,40] ++ Kj ks) ++ [41]) else [97,119,97,105,116,32] ++ name
def Md (kind:Nat) (n:Int) (name:List UInt8) (off:Bool) (ks:List KI):List UInt8:=match kind with
 | 1=>Lib.itoa n
 | 2=>if n=0 then [102,97,108,115,101] else [116,114,117,101]
 | 3=>name
 | 4=>Yj ks
 | 5=>[110,111,116,32] ++ kT ks 0 4
 | 6=>gJ name ks
 | 7=>(((([105,102,32] ++ kT ks 0 0) ++ [32,116,104,101,110,32]) ++ kT ks 1 0) ++ [32,101,108,115,101,32]) ++ kT ks 2 0
 | 8=>(kT ks 0 2 ++ [32,45,62,32]) ++ kT ks 1 1
 | 9=>(kT ks 0 0 ++ [32,102,98,121,32]) ++ kT ks 1 1
 | 10=>[112,114,101,32] ++ kT ks 0 8
 | 11=>kT ks 0 9 ++ Oy name off
 | 12=>((((([109,101,114,103,101,32] ++ name) ++ [32,40]) ++ kT ks 0 0) ++ [41,32,40]) ++ kT ks 1 0) ++ [41]
 | 13=>((name ++ [40]) ++ Kj ks) ++ [41]
 | 14=>Tw name ks
 | _=>[]
mutual
def Dz:PE → List UInt8
 | .mk kind _ n name off kids=>Md kind n name off (De kids)
def De:List PE → List KI
 | []=>[]
 | e :: r=>⟨Dz e,Dh e,I4 e⟩ :: De r
end
theorem Uh:∀ l:List PE,De l=l.map fun e=>⟨Dz e,Dh e,I4 e⟩
 | []=>rfl
 | e :: r=>by
  show _ :: De r=_
  rw [Uh r]; rfl
theorem Pc (l:List PE):(De l).length=l.length:=by rw [Uh]; exact List.length_map ..
def Gj:PE → Nat
 | .mk _ _ _ _ _ kids=>1 + sizeL kids
where sizeL:List PE → Nat
 | []=>0
 | e :: r=>Gj e + sizeL r
theorem Iz (kind pos:Nat) (n:Int) (name:List UInt8) (off:Bool) (kids:List PE):Gj (.mk kind pos n name off kids)=1 + Gj.sizeL kids:=by rw [Gj]
theorem Ji:Gj.sizeL []=0:=by rw [Gj.sizeL]
theorem Ge (e:PE) (r:List PE):Gj.sizeL (e :: r)=Gj e + Gj.sizeL r:=by rw [Gj.sizeL]
inductive Fit:PE → Prop where
 | mk (kind pos:Nat) (n:Int) (name:List UInt8) (off:Bool) (kids:List PE) (hn:-9223372036854775808 ≤ n ∧ n ≤ 9223372036854775807) (hname:name.length ≤ 30) (hk:∀ e ∈ kids,Fit e):Fit (.mk kind pos n name off kids)
theorem rA (n:Int) (h:-9223372036854775808 ≤ n ∧ n ≤ 9223372036854775807):(Lib.itoa n).length ≤ 21:=Lib.itoa_length_le n h.1 h.2
def Mw:List KI → Nat
 | []=>0
 | k :: r=>k.text.length + 4 + Mw r
theorem Tc:∀ (ks:List KI) (i least:Nat),(kT ks i least).length ≤ Mw ks
 | [],i,least=>by simp [kT,Mw]
 | k :: r,i,least=>by
  cases i with
  | zero =>
   have h1:(kT (k :: r) 0 least).length ≤ k.text.length + 2:=by
    unfold kT; simp only [Ah]; split <;> simp
   unfold Mw; omega
  | succ i =>
   have:=Tc r i least
   have e:kT (k :: r) (i + 1) least=kT r i least:=by unfold kT; simp
   rw [e]; unfold Mw; omega
theorem kT_len2 (a b:KI) (r:List KI) (x y:Nat):(kT (a :: b :: r) 0 x).length + (kT (a :: b :: r) 1 y).length ≤ Mw (a :: b :: r):=by
 have h1:(kT (a :: b :: r) 0 x).length ≤ a.text.length + 2:=by
  unfold kT; simp only [Ah]; split <;> simp
 have h2:(kT (a :: b :: r) 1 y).length ≤ b.text.length + 2:=by
  unfold kT; simp only [Ag,Ah]; split <;> simp
 unfold Mw; unfold Mw; omega
theorem Ym:∀ (ks:List KI) (x y:Nat),(kT ks 0 x).length + (kT ks 1 y).length ≤ Mw ks
 | [],x,y=>by simp [kT,Mw]
 | [a],x,y=>by
  have h1:=Tc [a] 0 x
  have e:kT [a] 1 y=[]:=by simp [kT]
  rw [e]; simpa using h1
 | a :: b :: r,x,y=>kT_len2 a b r x y
theorem qY:∀ (ks:List KI) (x y z:Nat),(kT ks 0 x).length + (kT ks 1 y).length + (kT ks 2 z).length ≤ Mw ks
 | [],x,y,z=>by simp [kT,Mw]
 | a :: r,x,y,z=>by
  have h1:(kT (a :: r) 0 x).length ≤ a.text.length + 2:=by
   unfold kT; simp only [Ah]; split <;> simp
  have e1:kT (a :: r) 1 y=kT r 0 y:=by unfold kT; simp
  have e2:kT (a :: r) 2 z=kT r 1 z:=by unfold kT; simp
  have:=Ym r y z
  rw [e1,e2]; unfold Mw; omega
theorem Pd:∀ (ks:List KI),(Kj ks).length ≤ Mw ks
 | []=>by simp [Kj,Lib.join_nil,Mw]
 | [a]=>by simp [Kj,Lib.join_one,Mw]
 | a :: b :: r=>by
  have ih:=Pd (b :: r)
  have e:Kj (a :: b :: r)=a.text ++ ([44,32] ++ Kj (b :: r)):=by
   unfold Kj Lib.join
   simp [List.intercalate,List.intersperse]
  rw [e]
  simp only [List.length_append,List.length_cons,List.length_nil]
  unfold Mw; omega
theorem textK_len (kind:Nat) (n:Int) (name:List UInt8) (off:Bool) (ks:List KI) (hn:-9223372036854775808 ≤ n ∧ n ≤ 9223372036854775807) (hm:name.length ≤ 30):(Md kind n name off ks).length + 4 ≤ 100 + Mw ks:=by
 have h2:=Ym ks
 have h1:=Tc ks
 have h3:=qY ks
 have hj:=Pd ks
 unfold Md
 split
 ·have:=rA n hn; omega
 ·split <;> simp <;> omega
 ·omega
 ·unfold Yj; have:=h1 0 8; split <;> simp <;> omega
 ·have:=h1 0 4; simp; omega
 ·unfold gJ; have:=h2 (if F1 name=5 then 6 else F1 name) (F1 name + 1); simp only [List.length_append,List.length_cons,List.length_nil]; omega
 ·have:=h3 0 0 0; simp only [List.length_append,List.length_cons,List.length_nil]; omega
 ·have:=h2 2 1; simp only [List.length_append,List.length_cons,List.length_nil]; omega
 ·have:=h2 0 1; simp only [List.length_append,List.length_cons,List.length_nil]; omega
 ·have:=h1 0 8; simp only [List.length_append,List.length_cons,List.length_nil]; omega
 ·have:=h1 0 9; unfold Oy; split <;> simp only [List.length_append,List.length_cons,List.length_nil] <;> omega
 ·have:=h2 0 0; simp only [List.length_append,List.length_cons,List.length_nil]; omega
 ·simp only [List.length_append,List.length_cons,List.length_nil]; omega
 ·unfold Tw; split <;> simp only [List.length_append,List.length_cons,List.length_nil] <;> omega
 ·simp; omega
mutual
theorem V5:∀ {e:PE},Fit e → (Dz e).length + 4 ≤ 100 * Gj e
 | .mk kind pos n name off kids,h=>by
  obtain ⟨hn,hm,hk⟩:(-9223372036854775808 ≤ n ∧ n ≤ 9223372036854775807) ∧ name.length ≤ 30 ∧ (∀ e ∈ kids,Fit e):=by cases h; exact ⟨‹_›,‹_›,‹_›⟩
  have h1:=textK_len kind n name off (De kids) hn hm
  have h2:=T4 kids hk
  rw [Iz]
  show (Md kind n name off (De kids)).length + 4 ≤ _
  omega
theorem T4:∀ (l:List PE),(∀ e ∈ l,Fit e) → Mw (De l) ≤ 100 * Gj.sizeL l
 | [],_=>by rw [Ji]; simp [De,Mw]
 | e :: r,h=>by
  have h1:=V5 (h e (List.mem_cons_self ..))
  have h2:=T4 r (fun x hx=>h x (List.mem_cons_of_mem _ hx))
  rw [Ge]
  show (Dz e).length + 4 + Mw (De r) ≤ _
  omega
end
end Go.Ax
noncomputable section
namespace Go.Ax
open Go.RowKit Go.Proofs
set_option maxRecDepth 100000
theorem E9:E6.P=Tryz.prog:=_root_.id rfl
theorem Xf:E6.G=gF:=_root_.id rfl
theorem C5 (a b:List UInt8) (h:a.length + b.length ≤ 4611686018427387904):Ea .add (.v (.string ⟨⟨a⟩⟩)) (.v (.string ⟨⟨b⟩⟩))=some (.v (.string ⟨⟨a ++ b⟩⟩)):=by
 have h':(⟨⟨a⟩⟩:ByteArray).size + (⟨⟨b⟩⟩:ByteArray).size ≤ 4611686018427387904:=h
 simp only [Ea,if_pos h']
theorem Dq (a b:AV):Hs Tryz.prog 2 a b=false:=by
 have h:Tryz.prog.underlying 2=some (.int .i64):=rfl
 unfold Hs; rw [h]
theorem fn6_17:∃ fn,E6.F 17=some fn:=Option.isSome_iff_exists.1 (by kernel_rfl)
theorem fn6_49:∃ fn,E6.F 49=some fn:=Option.isSome_iff_exists.1 (by kernel_rfl)
theorem fn6_50:∃ fn,E6.F 50=some fn:=Option.isSome_iff_exists.1 (by kernel_rfl)
theorem nK:∃ fn,E6.F 51=some fn:=Option.isSome_iff_exists.1 (by kernel_rfl)
theorem fn6_52:∃ fn,E6.F 52=some fn:=Option.isSome_iff_exists.1 (by kernel_rfl)
theorem fn6_53:∃ fn,E6.F 53=some fn:=Option.isSome_iff_exists.1 (by kernel_rfl)
theorem fn6_54:∃ fn,E6.F 54=some fn:=Option.isSome_iff_exists.1 (by kernel_rfl)
theorem fn6_55:∃ fn,E6.F 55=some fn:=Option.isSome_iff_exists.1 (by kernel_rfl)
theorem fn6_84:∃ fn,E6.F 84=some fn:=Option.isSome_iff_exists.1 (by kernel_rfl)
theorem fn6_85:∃ fn,E6.F 85=some fn:=Option.isSome_iff_exists.1 (by kernel_rfl)
theorem fn6_86:∃ fn,E6.F 86=some fn:=Option.isSome_iff_exists.1 (by kernel_rfl)
theorem fn6_87:∃ fn,E6.F 87=some fn:=Option.isSome_iff_exists.1 (by kernel_rfl)
theorem vX:∃ fn,E6.F 88=some fn:=Option.isSome_iff_exists.1 (by kernel_rfl)
theorem fn6_48:∃ fn,E6.F 48=some fn:=Option.isSome_iff_exists.1 (by kernel_rfl)
theorem fn6_122:∃ fn,E6.F 122=some fn:=Option.isSome_iff_exists.1 (by kernel_rfl)
set_option maxHeartbeats 16000000 in
theorem when_w (name:List UInt8) (off:Bool) (hl:name.length ≤ 1000000) (S:St):WC E6 53 [Bp name,.v (.bool off)] S (fun r=>r=.ret (Bp (Oy name off)) S):=by
 refine Dx Tryz.f53 (by kernel_rfl) (by kernel_rfl) (by kernel_rfl) (show (_:Nat) ≤ _ from by show (_:Nat) ≤ _; simp [Tryz.f53]) ?_
 unfold Bp
 have h1:([32,119,104,101,110,32,110,111,116,32]:List UInt8).length + name.length ≤ 4611686018427387904:=by simp; omega
 have h2:([32,119,104,101,110,32]:List UInt8).length + name.length ≤ 4611686018427387904:=by simp; omega
 have q1:=C5 _ _ h1
 have q2:=C5 _ _ h2
 cases off
 ·simp only [Br,A6,Bl,Bq,Bw,A4,B0,Bh,A7,Bj,Bi,Cg,A5,Bc,Ba,Cc,A0,A1,ofOpt,Bb,Bg,By,Bf,Cl,Nat.reduceLT,Nat.reduceAdd,Nat.reduceEqDiff,Aa,Ab,Ac,Ae,Am,E9,Cy,Tryz.f53,q1,q2]
  rfl
 ·simp only [Br,A6,Bl,Bq,Bw,A4,B0,Bh,A7,Bj,Bi,Ci,A5,Bc,Ba,Cc,A0,A1,ofOpt,Bb,Bg,By,Bf,Cl,Nat.reduceLT,Nat.reduceAdd,Nat.reduceEqDiff,Aa,Ab,Ac,Ae,Am,E9,Cy,Tryz.f53,q1,q2]
  rfl
set_option maxHeartbeats 16000000 in
theorem jS (b:Bool) (S:St):WC E6 49 [.v (.bool b)] S (fun r=>r=.ret (Bp (if b then [116,114,117,101] else [102,97,108,115,101])) S):=by
 refine Dx Tryz.f49 (by kernel_rfl) (by kernel_rfl) (by kernel_rfl) (show (_:Nat) ≤ _ from by show (_:Nat) ≤ _; simp [Tryz.f49]) ?_
 obtain ⟨fn1,hf1⟩:=fn6_84
 simp only [A6,Bl,A4,Bh,A7,Bj,Cb,Bi,A5,Bc,Ba,Cc,A0,A1,Bo,B5,ofOpt,Bb,Nat.reduceLT,Nat.reduceEqDiff,Aa,Ab,Ac,Ae,Aj,Ak,Tryz.f49,hf1]
 refine Dx Tryz.f84 (by kernel_rfl) (by kernel_rfl) (by kernel_rfl) (show (_:Nat) ≤ _ from by show (_:Nat) ≤ _; simp [Tryz.f84]) ?_
 cases b
 ·simp only [Br,A6,Bl,Bq,Bw,A4,B0,Bh,A7,Bj,Bi,Cz,Cg,A5,Bc,Ba,Cc,A0,A1,ofOpt,Bb,Bg,By,Bf,Cl,Nat.reduceLT,Nat.reduceEqDiff,Aa,Ab,Ac,Ae,Am,Tryz.f84]
  rfl
 ·simp only [Br,A6,Bl,Bq,Bw,A4,B0,Bh,A7,Bj,Bi,Cz,Ci,A5,Bc,Ba,Cc,A0,A1,ofOpt,Bb,Bg,By,Bf,Cl,Nat.reduceLT,Nat.reduceEqDiff,Aa,Ab,Ac,Ae,Tryz.f84]
  rfl
set_option maxHeartbeats 16000000 in
theorem xV (s:List UInt8) (S:St):WC E6 87 [Bp s] S (fun r=>r=.ret (D0 (F1 s)) S):=by
 refine Dx Tryz.f87 (by kernel_rfl) (by kernel_rfl) (by kernel_rfl) (show (_:Nat) ≤ _ from by show (_:Nat) ≤ _; simp [Tryz.f87]) ?_
 unfold Bp
 by_cases h0:s=[111,114]
 ·subst h0
  simp only [Br,A6,Bl,Bq,Bt,Bw,A4,B0,Bs,Bz,Bh,A7,Bj,Bi,Ci,A5,Bc,Ba,Cc,A0,A1,ofOpt,Bb,Bg,By,Bf,Cl,Nat.reduceLT,Nat.reduceEqDiff,Aa,Ab,Ac,Ae,Am,Ap,E9,Gi,Cy,Tryz.f87]
  rfl
 have d0:decide (s=([111,114]:List UInt8))=false:=by simpa using h0
 by_cases h1:s=[120,111,114]
 ·subst h1
  simp only [Br,A6,Bl,Bq,Bt,Bw,A4,B0,Bs,Bz,Bh,A7,Bj,Bi,Ci,A5,Bc,Ba,Cc,A0,A1,ofOpt,Bb,Bg,By,Bf,Cl,Nat.reduceLT,Nat.reduceEqDiff,Aa,Ab,Ac,Ae,Am,Ap,E9,Gi,Cy,Tryz.f87]
  rfl
 have d1:decide (s=([120,111,114]:List UInt8))=false:=by simpa using h1
 by_cases h2:s=[97,110,100]
 ·subst h2
  simp only [Br,A6,Bl,Bq,Bt,Bw,A4,B0,Bs,Bz,Bh,A7,Bj,Bi,Ci,A5,Bc,Ba,Cc,A0,A1,ofOpt,Bb,Bg,By,Bf,Cl,Nat.reduceLT,Nat.reduceEqDiff,Aa,Ab,Ac,Ae,Am,Ap,E9,Gi,Cy,Tryz.f87]
  rfl
 have d2:decide (s=([97,110,100]:List UInt8))=false:=by simpa using h2
 by_cases h3:s=[43]
 ·subst h3
  simp only [Br,A6,Bl,Bq,Bt,Bw,A4,B0,Bs,Bz,Bh,A7,Bj,Bi,Ci,A5,Bc,Ba,Cc,A0,A1,ofOpt,Bb,Bg,By,Bf,Cl,Nat.reduceLT,Nat.reduceEqDiff,Aa,Ab,Ac,Ae,Am,Ap,E9,Gi,Cy,Tryz.f87]
  rfl
 have d3:decide (s=([43]:List UInt8))=false:=by simpa using h3
 by_cases h4:s=[45]
 ·subst h4
  simp only [Br,A6,Bl,Bq,Bt,Bw,A4,B0,Bs,Bz,Bh,A7,Bj,Bi,Ci,A5,Bc,Ba,Cc,A0,A1,ofOpt,Bb,Bg,By,Bf,Cl,Nat.reduceLT,Nat.reduceEqDiff,Aa,Ab,Ac,Ae,Am,Ap,E9,Gi,Cy,Tryz.f87]
  rfl
 have d4:decide (s=([45]:List UInt8))=false:=by simpa using h4
 by_cases h5:s=[42]
 ·subst h5
  simp only [Br,A6,Bl,Bq,Bt,Bw,A4,B0,Bs,Bz,Bh,A7,Bj,Bi,Ci,A5,Bc,Ba,Cc,A0,A1,ofOpt,Bb,Bg,By,Bf,Cl,Nat.reduceLT,Nat.reduceEqDiff,Aa,Ab,Ac,Ae,Am,Ap,E9,Gi,Cy,Tryz.f87]
  rfl
 have d5:decide (s=([42]:List UInt8))=false:=by simpa using h5
 by_cases h6:s=[47]
 ·subst h6
  simp only [Br,A6,Bl,Bq,Bt,Bw,A4,B0,Bs,Bz,Bh,A7,Bj,Bi,Ci,A5,Bc,Ba,Cc,A0,A1,ofOpt,Bb,Bg,By,Bf,Cl,Nat.reduceLT,Nat.reduceEqDiff,Aa,Ab,Ac,Ae,Am,Ap,E9,Gi,Cy,Tryz.f87]
  rfl
 have d6:decide (s=([47]:List UInt8))=false:=by simpa using h6
 by_cases h7:s=[109,111,100]
 ·subst h7
  simp only [Br,A6,Bl,Bq,Bt,Bw,A4,B0,Bs,Bz,Bh,A7,Bj,Bi,Ci,A5,Bc,Ba,Cc,A0,A1,ofOpt,Bb,Bg,By,Bf,Cl,Nat.reduceLT,Nat.reduceEqDiff,Aa,Ab,Ac,Ae,Am,Ap,E9,Gi,Cy,Tryz.f87]
  rfl
 have d7:decide (s=([109,111,100]:List UInt8))=false:=by simpa using h7
 simp only [Br,A6,Bl,Bq,Bt,Bw,A4,B0,Bs,Bz,Bh,A7,Bj,Bi,Cg,A5,Bc,Ba,Cc,A0,A1,ofOpt,Bb,Bg,By,Bf,Cl,Nat.reduceLT,Nat.reduceEqDiff,Aa,Ab,Ac,Ae,Am,E9,Gi,Cy,Tryz.f87,d0,d1,d2,d3,d4,d5,d6,d7]
 have e:F1 s=5:=by unfold F1; simp [h0,h1,h2,h3,h4,h5,h6,h7]
 rw [e]; rfl
end Go.Ax
