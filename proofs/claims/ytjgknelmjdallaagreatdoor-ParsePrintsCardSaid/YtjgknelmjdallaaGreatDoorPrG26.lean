/- Rx -/
import Derived.Test.YtjgknelmjdallaaGreatDoorPrG25
set_option linter.unusedVariables false
set_option linter.unusedSimpArgs false
noncomputable section
namespace Go.Ax
open Go.RowKit Go.Proofs
set_option maxRecDepth 100000
theorem Tp:E7.P=Tryz.prog:=_root_.id rfl
theorem uQ:E7.G=G7:=_root_.id rfl
theorem bd33:Hl Tryz.prog 33 []=some (.agg (Dl 0 0)):=by kernel_rfl
theorem len40n (S:St):Je Tryz.prog S 40 .nils=some 0:=by kernel_rfl
theorem nn33 (a b:AV):Hn Tryz.prog 33 a b=false:=by
 have u33:(match Tryz.prog.underlying 33 with | some (.struct _)=>true | _=>false)=true:=by kernel_rfl
 unfold Hn
 split at u33
 ·rename_i h; rw [h]
 ·cases u33
theorem fb33 (x y:List AV):D8 .neq (.agg x) (.agg y)=none:=rfl
noncomputable def tX (P:Program) (t:TypeId):Bool:=match P.underlying t with
 | some (.int _)=>true
 | _=>false
theorem pK {P:Program} {t:TypeId} (h:tX P t=true):∃ k,P.underlying t=some (.int k):=by
 unfold tX at h
 split at h
 ·rename_i k hk; exact ⟨k,hk⟩
 ·cases h
noncomputable def wW (P:Program) (f:Field) (o:Nat):Bool:=!decide (f.name = "_") && decide (f.offset=o) && decide (Fs P f.type=some false) && tX P f.type
noncomputable def uH:Bool:=match fieldsOf Tryz.prog 33 with
 | some fs=>(match fs.toList with
  | [f,g]=>wW Tryz.prog f 0 && wW Tryz.prog g 1 && !(Tryz.prog.stoodInHeld 33) && !(Tryz.prog.eqGuardType Tryz.prog.depth 33)
  | _=>false)
 | none=>false
theorem iG:uH=true:=by kernel_rfl
theorem Qy {P:Program} {f:Field} {o:Nat} (h:wW P f o=true):f.name ≠ "_" ∧ f.offset=o ∧ Fs P f.type=some false ∧ ∃ k,P.underlying f.type=some (.int k):=by
 unfold wW at h
 simp only [Bool.and_eq_true,decide_eq_true_eq,Bool.not_eq_true',decide_eq_false_iff_not] at h
 exact ⟨h.1.1.1,h.1.1.2,h.1.2,pK h.2⟩
theorem fq33 (a e:Int):Mp Tryz.prog .neq 33 (.agg [.v (.int .i64 a),.v (.int .i64 e)]) (.agg [.v (.int .i64 0),.v (.int .i64 0)])=some (.v (.bool (!((a == 0) && ((e == 0) && true))))):=by
 have h:=iG
 unfold uH at h
 split at h
 ·rename_i fs hfs
  split at h
  ·rename_i f g hl
   simp only [Bool.and_eq_true,Bool.not_eq_true'] at h
   obtain ⟨⟨⟨h1,h2⟩,h3⟩,h4⟩:=h
   obtain ⟨f1,f2,f3,k1,f4⟩:=Qy h1
   obtain ⟨g1,g2,g3,k2,g4⟩:=Qy h2
   cases ha:(a == 0) <;> cases he:(e == 0) <;> simp [Mp,hfs,h3,h4,hl,Xs,f1,f2,f3,g1,g2,g3,cR,f4,g4,ha,he]
  ·cases h
 ·cases h
theorem fe33 (a e:Int):Mp Tryz.prog .eql 33 (.agg [.v (.int .i64 a),.v (.int .i64 e)]) (.agg [.v (.int .i64 0),.v (.int .i64 0)])=some (.v (.bool ((a == 0) && ((e == 0) && true)))):=by
 have h:=iG
 unfold uH at h
 split at h
 ·rename_i fs hfs
  split at h
  ·rename_i f g hl
   simp only [Bool.and_eq_true,Bool.not_eq_true'] at h
   obtain ⟨⟨⟨h1,h2⟩,h3⟩,h4⟩:=h
   obtain ⟨f1,f2,f3,k1,f4⟩:=Qy h1
   obtain ⟨g1,g2,g3,k2,g4⟩:=Qy h2
   cases ha:(a == 0) <;> cases he:(e == 0) <;> simp [Mp,hfs,h3,h4,hl,Xs,f1,f2,f3,g1,g2,g3,cR,f4,g4,ha,he]
  ·cases h
 ·cases h
end Go.Ax
noncomputable section
namespace Go.Ax
open Go.RowKit Go.Proofs
set_option maxRecDepth 100000
def Es {α:Type} (x:PR α):Prop:=∀ a e,x=.bad a e → e ≠ 0
section
variable {α β:Type}
theorem Es.ok {a:α} {j:Nat}:Es (.ok a j):=fun _ _ h=>by cases h
theorem Es.out:Es (.out:PR α):=fun _ _ h=>by cases h
theorem Es.bad {a e:Nat} (h:e ≠ 0):Es (.bad a e:PR α):=fun _ _ h'=>by injection h' with h1 h2; subst h2; exact h
theorem Es.bind {x:PR α} {f:α → Nat → PR β} (h:Es x) (hf:∀ a j,Es (f a j)):Es (x.bind f):=by
 cases x with
 | ok a j=>exact hf a j
 | bad a e=>exact .bad (h a e rfl)
 | out=>exact .out
theorem Es.ite {c:Prop} [Decidable c] {x y:PR α} (h1:Es x) (h2:Es y):Es (if c then x else y):=by
 by_cases h:c
 ·rw [if_pos h]; exact h1
 ·rw [if_neg h]; exact h2
end
theorem Rt (t:Tk):Gv t ≠ 0:=by unfold Gv; split <;> decide
section
variable {ts:List Tk}
theorem Gc (ws:List (List UInt8)) (i:Nat):Es (C7 ts ws i):=by unfold C7; exact .ite .ok (.bad (Rt _))
theorem Jm (k i:Nat):Es (Fk ts k i):=by unfold Fk; exact .ite .ok (.bad (Rt _))
theorem Iy (i:Nat):Es (Hc ts i):=by
 unfold Hc
 exact .ite ((Jm 1 (i + 1)).bind fun _ _=>.ok) ((Jm 1 i).bind fun _ _=>.ok)
theorem Pa (i:Nat):Es (Kg ts i):=by
 unfold Kg
 split
 ·exact .out
 ·refine .ite ?_ ?_
  ·split
   ·exact .out
   ·exact .ite .ok (.bad (Rt _))
  ·exact .ite (.ite (.bad (by decide)) .ok) (.bad (Rt _))
theorem Oo (ws:List (List UInt8)) {kid:Nat → PR PE} (hk:∀ i,Es (kid i)):∀ (n:Nat) (x:PE) (i:Nat),Es (Jd ts ws kid n x i)
 | 0,_,_=>.out
 | n + 1,x,i=>by unfold Jd; exact .ite ((hk _).bind fun _ _=>Oo ws hk n _ _) .ok
theorem K4:∀ (n:Nat) (x:PE) (i:Nat),Es (Jf ts n x i)
 | 0,_,_=>.out
 | n + 1,x,i=>by unfold Jf; exact .ite ((Iy _).bind fun _ _=>K4 n _ _) .ok
theorem Kt {kid:Nat → PR PE} (hk:∀ i,Es (kid i)):∀ (n:Nat) (l:List PE) (i:Nat),Es (Gs ts kid n l i)
 | 0,_,_=>.out
 | n + 1,l,i=>by unfold Gs; exact .ite ((hk _).bind fun _ _=>Kt hk n _ _) ((Gc _ _).bind fun _ _=>.ok)
theorem Lx {kid:Nat → PR PE} (hk:∀ i,Es (kid i)) (n i:Nat):Es (I5 ts kid n i):=by
 unfold I5
 exact (Gc _ _).bind fun _ _=>.ite .ok ((hk _).bind fun _ _=>Kt hk n _ _)
theorem P_b:∀ (n:Nat) (nt:NT) (i:Nat),Es (P ts n nt i)
 | 0,nt,i=>by cases nt <;> exact .out
 | n + 1,.expr,i=>by
  simp only [P]
  repeat' (first | exact Es.ok | exact Es.out | exact Gc _ _ | exact Jm _ _ | exact Pa _ | exact Iy _ | exact P_b n _ _ | exact Oo _ (P_b n _) n _ _ | exact K4 n _ _ | exact Kt (P_b n _) n _ _ | exact Lx (P_b n _) n _ | refine Es.bind ?_ (fun _ _=>?_) | refine Es.ite ?_ ?_)
 | n + 1,.arrow,i=>by
  simp only [P]
  repeat' (first | exact Es.ok | exact Es.out | exact Gc _ _ | exact Jm _ _ | exact Pa _ | exact Iy _ | exact P_b n _ _ | exact Oo _ (P_b n _) n _ _ | exact K4 n _ _ | exact Kt (P_b n _) n _ _ | exact Lx (P_b n _) n _ | refine Es.bind ?_ (fun _ _=>?_) | refine Es.ite ?_ ?_)
 | n + 1,.or,i=>by
  simp only [P]
  repeat' (first | exact Es.ok | exact Es.out | exact Gc _ _ | exact Jm _ _ | exact Pa _ | exact Iy _ | exact P_b n _ _ | exact Oo _ (P_b n _) n _ _ | exact K4 n _ _ | exact Kt (P_b n _) n _ _ | exact Lx (P_b n _) n _ | refine Es.bind ?_ (fun _ _=>?_) | refine Es.ite ?_ ?_)
 | n + 1,.and,i=>by
  simp only [P]
  repeat' (first | exact Es.ok | exact Es.out | exact Gc _ _ | exact Jm _ _ | exact Pa _ | exact Iy _ | exact P_b n _ _ | exact Oo _ (P_b n _) n _ _ | exact K4 n _ _ | exact Kt (P_b n _) n _ _ | exact Lx (P_b n _) n _ | refine Es.bind ?_ (fun _ _=>?_) | refine Es.ite ?_ ?_)
 | n + 1,.not,i=>by
  simp only [P]
  repeat' (first | exact Es.ok | exact Es.out | exact Gc _ _ | exact Jm _ _ | exact Pa _ | exact Iy _ | exact P_b n _ _ | exact Oo _ (P_b n _) n _ _ | exact K4 n _ _ | exact Kt (P_b n _) n _ _ | exact Lx (P_b n _) n _ | refine Es.bind ?_ (fun _ _=>?_) | refine Es.ite ?_ ?_)
 | n + 1,.sum,i=>by
  simp only [P]
  repeat' (first | exact Es.ok | exact Es.out | exact Gc _ _ | exact Jm _ _ | exact Pa _ | exact Iy _ | exact P_b n _ _ | exact Oo _ (P_b n _) n _ _ | exact K4 n _ _ | exact Kt (P_b n _) n _ _ | exact Lx (P_b n _) n _ | refine Es.bind ?_ (fun _ _=>?_) | refine Es.ite ?_ ?_)
 | n + 1,.term,i=>by
  simp only [P]
  repeat' (first | exact Es.ok | exact Es.out | exact Gc _ _ | exact Jm _ _ | exact Pa _ | exact Iy _ | exact P_b n _ _ | exact Oo _ (P_b n _) n _ _ | exact K4 n _ _ | exact Kt (P_b n _) n _ _ | exact Lx (P_b n _) n _ | refine Es.bind ?_ (fun _ _=>?_) | refine Es.ite ?_ ?_)
 | n + 1,.unary,i=>by
  simp only [P]
  repeat' (first | exact Es.ok | exact Es.out | exact Gc _ _ | exact Jm _ _ | exact Pa _ | exact Iy _ | exact P_b n _ _ | exact Oo _ (P_b n _) n _ _ | exact K4 n _ _ | exact Kt (P_b n _) n _ _ | exact Lx (P_b n _) n _ | refine Es.bind ?_ (fun _ _=>?_) | refine Es.ite ?_ ?_)
 | n + 1,.when,i=>by
  simp only [P]
  repeat' (first | exact Es.ok | exact Es.out | exact Gc _ _ | exact Jm _ _ | exact Pa _ | exact Iy _ | exact P_b n _ _ | exact Oo _ (P_b n _) n _ _ | exact K4 n _ _ | exact Kt (P_b n _) n _ _ | exact Lx (P_b n _) n _ | refine Es.bind ?_ (fun _ _=>?_) | refine Es.ite ?_ ?_)
 | n + 1,.primary,i=>by
  simp only [P]
  repeat' (first | exact Es.ok | exact Es.out | exact Gc _ _ | exact Jm _ _ | exact Pa _ | exact Iy _ | exact P_b n _ _ | exact Oo _ (P_b n _) n _ _ | exact K4 n _ _ | exact Kt (P_b n _) n _ _ | exact Lx (P_b n _) n _ | refine Es.bind ?_ (fun _ _=>?_) | refine Es.ite ?_ ?_)
 | n + 1,.name,i=>by
  simp only [P]
  repeat' (first | exact Es.ok | exact Es.out | exact Gc _ _ | exact Jm _ _ | exact Pa _ | exact Iy _ | exact P_b n _ _ | exact Oo _ (P_b n _) n _ _ | exact K4 n _ _ | exact Kt (P_b n _) n _ _ | exact Lx (P_b n _) n _ | refine Es.bind ?_ (fun _ _=>?_) | refine Es.ite ?_ ?_)
 | n + 1,.call,i=>by
  simp only [P]
  repeat' (first | exact Es.ok | exact Es.out | exact Gc _ _ | exact Jm _ _ | exact Pa _ | exact Iy _ | exact P_b n _ _ | exact Oo _ (P_b n _) n _ _ | exact K4 n _ _ | exact Kt (P_b n _) n _ _ | exact Lx (P_b n _) n _ | refine Es.bind ?_ (fun _ _=>?_) | refine Es.ite ?_ ?_)
 | n + 1,.brk,i=>by
  simp only [P]
  repeat' (first | exact Es.ok | exact Es.out | exact Gc _ _ | exact Jm _ _ | exact Pa _ | exact Iy _ | exact P_b n _ _ | exact Oo _ (P_b n _) n _ _ | exact K4 n _ _ | exact Kt (P_b n _) n _ _ | exact Lx (P_b n _) n _ | refine Es.bind ?_ (fun _ _=>?_) | refine Es.ite ?_ ?_)
 | n + 1,.lit,i=>by
  simp only [P]
  repeat' (first | exact Es.ok | exact Es.out | exact Gc _ _ | exact Jm _ _ | exact Pa _ | exact Iy _ | exact P_b n _ _ | exact Oo _ (P_b n _) n _ _ | exact K4 n _ _ | exact Kt (P_b n _) n _ _ | exact Lx (P_b n _) n _ | refine Es.bind ?_ (fun _ _=>?_) | refine Es.ite ?_ ?_)
theorem vD (i:Nat):Es (He ts i):=by
 unfold He
 exact (Jm _ _).bind fun _ _=>(Gc _ _).bind fun _ _=>.ite ((Gc _ _).bind fun _ _=>.ok) ((Gc _ _).bind fun _ _=>.ok)
theorem iW (i:Nat):Es (Fi ts i):=by
 unfold Fi
 exact (vD _).bind fun _ _=>.ite ((Iy _).bind fun _ _=>(Gc _ _).bind fun _ _=>.ok) ((Gc _ _).bind fun _ _=>.ok)
theorem lH (i:Nat):Es (G1 ts i):=by
 unfold G1
 exact (Jm _ _).bind fun _ _=>.ok
theorem kP {α:Type} {kid:Nat → PR α} (hk:∀ i,Es (kid i)):∀ (n:Nat) (l:List α) (i:Nat),Es (Gb ts kid n l i)
 | 0,_,_=>.out
 | n + 1,l,i=>by unfold Gb; exact .ite ((hk _).bind fun _ _=>kP hk n _ _) ((Gc _ _).bind fun _ _=>.ok)
theorem xO {α:Type} {kid:Nat → PR α} (hk:∀ i,Es (kid i)) (n i:Nat):Es (Iw ts kid n i):=by
 unfold Iw
 exact (Gc _ _).bind fun _ _=>.ite .ok ((hk _).bind fun _ _=>kP hk n _ _)
theorem vars_b:∀ (n:Nat) (l:List PD) (i:Nat),Es (Iu ts n l i)
 | 0,_,_=>.out
 | n + 1,l,i=>by unfold Iu; exact .ite ((iW _).bind fun _ _=>vars_b n _ _) .ok
theorem lefts_b (n i:Nat):Es (Ib ts n i):=by
 unfold Ib
 exact .ite ((lH _).bind fun _ _=>.ok) ((Gc _ _).bind fun _ _=>(lH _).bind fun _ _=>(Gc _ _).bind fun _ _=>((lH _).bind fun _ _=>kP lH n _ _).bind fun _ _=>.ok)
theorem fO {kid:Nat → PR PE} (hk:∀ i,Es (kid i)) (i:Nat):Es (F2 kid i):=by
 unfold F2
 exact (hk i).bind fun _ _=>.ite (.bad (by decide)) .ok
theorem eq_b (n i:Nat):Es (eqP ts n i):=by
 unfold eqP
 exact (lefts_b n i).bind fun _ _=>(Gc _ _).bind fun _ _=>.ite ((fO (P_b n .call) _).bind fun _ _=>(Gc _ _).bind fun _ _=>.ok) ((fO (P_b n .expr) _).bind fun _ _=>(Gc _ _).bind fun _ _=>.ok)
theorem eqs_b (N:Nat):∀ (n:Nat) (l:List PQ) (i:Nat),Es (Ny ts N n l i)
 | 0,_,_=>.out
 | n + 1,l,i=>by unfold Ny; exact .ite .ok ((eq_b N i).bind fun _ _=>eqs_b N n _ _)
theorem varsQ_b (n i:Nat):Es (Lo ts n i):=by
 unfold Lo
 exact .ite ((iW _).bind fun _ _=>vars_b n _ _) .ok
theorem node_b (n i:Nat):Es (Jg ts n i):=by
 unfold Jg
 exact (Gc _ _).bind fun _ _=>(Jm _ _).bind fun _ _=>(xO vD n _).bind fun _ _=>(Gc _ _).bind fun _ _=>(xO vD n _).bind fun _ _=>(varsQ_b n _).bind fun _ _=>(Gc _ _).bind fun _ _=>(eqs_b n n _ _).bind fun _ _=>(Gc _ _).bind fun _ _=>.ok
theorem prog_b (N:Nat):∀ (n:Nat) (l:List PN) (i:Nat),Es (Jt ts N n l i)
 | 0,_,_=>.out
 | n + 1,l,i=>by unfold Jt; exact .ite ((node_b N i).bind fun _ _=>prog_b N n _ _) .ok
theorem program_b (n i:Nat):Es (Eh ts n i):=by
 unfold Eh
 exact (node_b n i).bind fun _ _=>prog_b n n _ _
end
theorem fZ {n:Nat} {out:(Nat × Nat) ⊕ List Tk} {y:Nat × Nat} (h:J6 n out=some (.inr y)) (hx:∀ x,out=.inl x → x.2 ≠ 0):y.2 ≠ 0:=by
 unfold J6 at h
 split at h
 ·rename_i x
  injection h with h; injection h with h; subst h
  exact hx _ rfl
 ·rename_i ts
  cases hp:Eh ts n 0 with
  | out=>rw [hp] at h; cases h
  | bad a e =>
   rw [hp] at h
   injection h with h; injection h with h; subst h
   exact program_b n 0 a e hp
  | ok l j =>
   rw [hp] at h
   simp only at h
   split at h
   ·injection h with h; cases h
   ·injection h with h; injection h with h; subst h
    exact Rt _
end Go.Ax
noncomputable section
namespace Go.Ax
open Go.RowKit Go.Proofs
set_option maxRecDepth 100000
theorem fbe33 (x y:List AV):D8 .eql (.agg x) (.agg y)=none:=_root_.id rfl
theorem eq7n (f:T AV) (S:St) (o:Oper) (a e:Nat):Od Tryz.prog G7 f S o .neq 33 (.agg (Dl a e)) (.agg (Dl 0 0))=.val (.v (.bool (!(((a:Int) == 0) && (((e:Int) == 0) && true))))) S:=by
 unfold Od
 have h:Mp Tryz.prog .neq 33 (.agg (Dl a e)) (.agg (Dl 0 0))=some (.v (.bool (!(((a:Int) == 0) && (((e:Int) == 0) && true))))):=fq33 a e
 rw [h]
theorem eq7e (f:T AV) (S:St) (o:Oper) (a e:Nat):Od Tryz.prog G7 f S o .eql 33 (.agg (Dl a e)) (.agg (Dl 0 0))=.val (.v (.bool (((a:Int) == 0) && (((e:Int) == 0) && true)))) S:=by
 unfold Od
 have h:Mp Tryz.prog .eql 33 (.agg (Dl a e)) (.agg (Dl 0 0))=some (.v (.bool (((a:Int) == 0) && (((e:Int) == 0) && true)))):=fe33 a e
 rw [h]
theorem fn7_19:∃ fn,E7.F 19=some fn:=Option.isSome_iff_exists.1 (by kernel_rfl)
theorem fn7_20:∃ fn,E7.F 20=some fn:=Option.isSome_iff_exists.1 (by kernel_rfl)
theorem xW (args:List AV) (S:St) (Q:R → Prop) (h:Q (Lt args S)):WC E7 19 args S Q:=Nq (g:=Lt) (by kernel_rfl) h
theorem xV {v:AV} {l:List PN} (hp:Ph v l) (S:St) (Q:R → Prop) (h:Q (.ret (.v (.string (Mi l))) S)):WC E7 20 [v] S Q:=by
 refine Nq (g:=F3 W8) (by kernel_rfl) ?_
 unfold F3
 rw [print_is hp]
 exact h
theorem eq7nz (f:T AV) (S:St) (o:Oper):Od Tryz.prog G7 f S o .neq 33 (.agg (Dl 0 0)) (.agg (Dl 0 0))=.val (.v (.bool false)) S:=eq7n f S o 0 0
theorem eq7ez (f:T AV) (S:St) (o:Oper):Od Tryz.prog G7 f S o .eql 33 (.agg (Dl 0 0)) (.agg (Dl 0 0))=.val (.v (.bool true)) S:=eq7e f S o 0 0
theorem yO (x:ByteArray):D8 .eql (.v (.string x)) (.v (.string x))=some (.v (.bool true)):=by
 show some (AV.v (.bool (Kl x.data.toList x.data.toList)))=_
 rw [Jp]; simp
theorem wV (S:St) (l:List UInt8):Je Tryz.prog S 9 (.v (.string ⟨⟨l⟩⟩))=some l.length:=by
 have u9:Tryz.prog.underlying 9=some .string:=by kernel_rfl
 unfold Je
 rw [u9]; rfl
end Go.Ax
noncomputable section
namespace Go.Ax
open Go.RowKit Go.Proofs
set_option maxRecDepth 100000
def PR.le {α:Type} (a b:PR α):Prop:=a ≠ .out → b=a
theorem le_refl {α:Type} (a:PR α):a.le a:=fun _=>rfl
theorem E8 {α β:Type} {x y:PR α} {f g:α → Nat → PR β} (h:x.le y) (hf:∀ a i,(f a i).le (g a i)):(x.bind f).le (y.bind g):=by
 intro ho
 have hx:x ≠ .out:=fun e=>ho (by rw [e]; rfl)
 rw [h hx]
 cases x with
 | ok a i=>exact hf a i ho
 | bad a e=>rfl
 | out=>exact absurd rfl hx
theorem Lz {α:Type} {c:Prop} [Decidable c] {x y x' y':PR α} (h1:x.le y) (h2:x'.le y'):(if c then x else x').le (if c then y else y'):=by
 split
 ·exact h1
 ·exact h2
section
variable {ts:List Tk}
theorem wL {ws:List (List UInt8)} {kid kid':Nat → PR PE} (hk:∀ i,(kid i).le (kid' i)):∀ (n:Nat) (x:PE) (i:Nat),(Jd ts ws kid n x i).le (Jd ts ws kid' (n + 1) x i)
 | 0,x,i=>fun ho=>absurd rfl ho
 | n + 1,x,i=>by
  unfold Jd
  exact Lz (E8 (hk _) fun a j=>wL hk n _ j) (le_refl _)
theorem mR:∀ (n:Nat) (x:PE) (i:Nat),(Jf ts n x i).le (Jf ts (n + 1) x i)
 | 0,x,i=>fun ho=>absurd rfl ho
 | n + 1,x,i=>by
  unfold Jf
  exact Lz (E8 (le_refl _) fun a j=>mR n _ j) (le_refl _)
theorem aT {kid kid':Nat → PR PE} (hk:∀ i,(kid i).le (kid' i)):∀ (n:Nat) (l:List PE) (i:Nat),(Gs ts kid n l i).le (Gs ts kid' (n + 1) l i)
 | 0,x,i=>fun ho=>absurd rfl ho
 | n + 1,x,i=>by
  unfold Gs
  exact Lz (E8 (hk _) fun a j=>aT hk n _ j) (le_refl _)
theorem listP_le {kid kid':Nat → PR PE} (hk:∀ i,(kid i).le (kid' i)) (n i:Nat):(I5 ts kid n i).le (I5 ts kid' (n + 1) i):=by
 unfold I5
 exact E8 (le_refl _) fun _ j=>Lz (le_refl _) (E8 (hk _) fun a j=>aT hk n _ j)
theorem P_le:∀ (n:Nat) (nt:NT) (i:Nat),(P ts n nt i).le (P ts (n + 1) nt i)
 | 0,nt,i=>fun ho=>absurd rfl ho
 | n + 1,nt,i=>by
  have ih:=P_le n
  cases nt <;> unfold P <;> repeat' (first | exact le_refl _ | exact ih _ _ | exact wL (fun i=>ih _ i) _ _ _ | exact mR _ _ _ | exact aT (fun i=>ih _ i) _ _ _ | exact listP_le (fun i=>ih _ i) _ _ | refine Lz ?_ ?_ | refine E8 ?_ ?_ | intro _ _)
end
abbrev TK:=Nat × List UInt8 × Nat
def absT (t:Tk):TK:=(t.kind,t.text,t.num)
def Dd (ts:List Tk) (i:Nat) (us:List TK):Prop:=(ts.drop i).map absT=us
def Gk:List TK → List UInt8
 | []=>[]
 | x :: _=>x.2.1
theorem Dd.cons {ts:List Tk} {i:Nat} {x:TK} {r:List TK} (h:Dd ts i (x :: r)):(tk ts i).kind=x.1 ∧ (tk ts i).text=x.2.1 ∧ (tk ts i).num=x.2.2 ∧ ts[i]? = some (tk ts i) ∧ Dd ts (i + 1) r:=by
 unfold Dd at h
 cases hd:ts.drop i with
 | nil=>rw [hd] at h; cases h
 | cons t q =>
  rw [hd] at h
  injection h with h1 h2
  have hg:ts[i]? = some t:=by
   have:(ts.drop i)[0]? = some t:=by rw [hd]; rfl
   simpa using this
  have ht:tk ts i=t:=by unfold tk; rw [hg]; rfl
  have hq:ts.drop (i + 1)=q:=by
   have:(ts.drop i).drop 1=q:=by rw [hd]; rfl
   simpa [List.drop_drop] using this
  rw [ht]
  subst h1
  exact ⟨rfl,rfl,rfl,hg,by unfold Dd; rw [hq]; exact h2⟩
theorem Dd.head {ts:List Tk} {i:Nat} {us:List TK} (h:Dd ts i us):(tk ts i).text=Gk us:=by
 cases us with
 | nil =>
  unfold Dd at h
  have hd:ts.drop i=[]:=List.map_eq_nil_iff.1 h
  have hl:ts.length ≤ i:=List.drop_eq_nil_iff.1 hd
  unfold tk; rw [List.getElem?_eq_none hl]; rfl
 | cons x r=>exact h.cons.2.1
theorem Dd.skip {ts:List Tk}:∀ {us:List TK} {i:Nat} {r:List TK},Dd ts i (us ++ r) → Dd ts (i + us.length) r
 | [],i,r,h=>h
 | x :: us,i,r,h=>by
  have:=Dd.skip (us:=us) (h.cons.2.2.2.2)
  rw [List.length_cons,show i + (us.length + 1)=i + 1 + us.length by omega]; exact this
def D9:Nat → List (List UInt8)
 | 1=>[[45,62],[102,98,121]]
 | 2=>[[111,114],[120,111,114]]
 | 3=>[[97,110,100]]
 | 5=>[[61],[60,62],[60],[60,61],[62],[62,61]]
 | 6=>[[43],[45]]
 | 7=>[[42],[47],[109,111,100]]
 | 9=>[[119,104,101,110]]
 | 10=>[[40],[97,102,116,101,114]]
 | _=>[]
def Gq (L:Nat) (us:List TK):Prop:=∀ k,L ≤ k → Gk us ∉ D9 k
theorem Gq.mono {L M:Nat} {us:List TK} (h:Gq L us) (hl:L ≤ M):Gq M us:=fun k hk=>h k (Nat.le_trans hl hk)
def eG:Nat → NT
 | 0=>.expr
 | 1=>.arrow
 | 2=>.or
 | 3=>.and
 | 4=>.not
 | 5=>.sum
 | 6=>.sum
 | 7=>.term
 | 8=>.unary
 | 9=>.when
 | _=>.primary
def RdA (ts:List Tk) (i j:Nat) (e:PE) (nt:NT):Prop:=∃ e',LikeE e e' ∧ ∃ N,∀ n,N ≤ n → P ts n nt i=.ok e' j
def RdB (ts:List Tk) (i j:Nat) (e:PE) (L:Nat):Prop:=∃ e',LikeE e e' ∧ ∃ N k,∀ n,N ≤ n → P ts (n + 1) (eG L) i=Jd ts (D9 L) (P ts n (eG (L + 1))) (n - k) e' j
def RdW (ts:List Tk) (i j:Nat) (e:PE):Prop:=∃ e',LikeE e e' ∧ ∃ N k,∀ n,N ≤ n → P ts (n + 1) .when i=Jf ts (n - k) e' j
theorem RdB.a {ts:List Tk} {i j L:Nat} {e:PE} {rest:List TK} (h:RdB ts i j e L) (hs:Dd ts j rest) (hn:Gk rest ∉ D9 L):RdA ts i j e (eG L):=by
 obtain ⟨e',he,N,k,h⟩:=h
 refine ⟨e',he,N + k + 2,fun n hle=>?_⟩
 obtain ⟨m,rfl⟩:∃ m,n=m + 1:=⟨n - 1,by omega⟩
 rw [h m (by omega)]
 obtain ⟨q,hq⟩:∃ q,m - k=q + 1:=⟨m - k - 1,by omega⟩
 rw [hq]
 unfold Jd
 rw [hs.head,if_neg hn]
theorem RdW.a {ts:List Tk} {i j:Nat} {e:PE} {rest:List TK} (h:RdW ts i j e) (hs:Dd ts j rest) (hn:Gk rest ∉ D9 9):RdA ts i j e .when:=by
 obtain ⟨e',he,N,k,h⟩:=h
 refine ⟨e',he,N + k + 2,fun n hle=>?_⟩
 obtain ⟨m,rfl⟩:∃ m,n=m + 1:=⟨n - 1,by omega⟩
 rw [h m (by omega)]
 obtain ⟨q,hq⟩:∃ q,m - k=q + 1:=⟨m - k - 1,by omega⟩
 rw [hq]
 unfold Jf
 rw [hs.head,if_neg (show Gk rest ∉ [[119,104,101,110]] from hn)]
end Go.Ax
noncomputable section
namespace Go.Ax
open Go.RowKit Go.Proofs
set_option maxRecDepth 100000
structure Hd (b:Nat) (us:List TK):Prop where
 ne:us ≠ []
 h9:9 ≤ b → Gk us ≠ [45] ∧ Gk us ≠ [112,114,101]
 h5:5 ≤ b → Gk us ≠ [110,111,116]
 h1:1 ≤ b → Gk us ≠ [105,102]
 hb:Gk us ≠ [41]
theorem Hd.mono {a b:Nat} {us:List TK} (h:Hd b us) (hl:a ≤ b):Hd a us:=⟨h.ne,fun x=>h.h9 (by omega),fun x=>h.h5 (by omega),fun x=>h.h1 (by omega),h.hb⟩
theorem Ha {us r:List TK} (h:us ≠ []):Gk (us ++ r)=Gk us:=by
 cases us with
 | nil=>exact absurd rfl h
 | cons x q=>rfl
section
variable {ts:List Tk} {i j:Nat} {e:PE}
theorem jR {nt:NT} (h:RdA ts i j e .primary):RdW ts i j e:=by
 obtain ⟨e',he,N,h⟩:=h
 refine ⟨e',he,N,0,fun n hn=>?_⟩
 show (P ts n .primary i).bind _=_
 rw [h n hn]; rfl
theorem a8_of (h:RdA ts i j e .when) (h1:(tk ts i).text ≠ [45]) (h2:(tk ts i).text ≠ [112,114,101]):RdA ts i j e .unary:=by
 obtain ⟨e',he,N,h⟩:=h
 refine ⟨e',he,N + 1,fun n hn=>?_⟩
 obtain ⟨m,rfl⟩:∃ m,n=m + 1:=⟨n - 1,by omega⟩
 have hb:Jc ts i=false:=by unfold Jc; rw [decide_eq_false h1]; rfl
 show (if (tk ts i).text ∈ [[112,114,101]] then _ else if Jc ts i=true then _ else if (tk ts i).text ∈ [[45]] then _ else P ts m .when i)=_
 rw [if_neg (by simpa using h2),hb,if_neg (by simp),if_neg (by simpa using h1),h m (by omega)]
theorem b_of {L:Nat} {nt nt':NT} (e1:eG L=nt) (e2:eG (L + 1)=nt') (hu:∀ n,P ts (n + 1) nt i=(P ts n nt' i).bind fun x j=>Jd ts (D9 L) (P ts n nt') n x j) (h:RdA ts i j e nt'):RdB ts i j e L:=by
 obtain ⟨e',he,N,h⟩:=h
 refine ⟨e',he,N,0,fun n hn=>?_⟩
 rw [e1,e2,hu,h n hn]; rfl
theorem a4_of {rest:List TK} (h:RdA ts i j e .sum) (h1:(tk ts i).text ≠ [110,111,116]) (hs:Dd ts j rest) (hn:Gk rest ∉ D9 5):RdA ts i j e .not:=by
 obtain ⟨e',he,N,h⟩:=h
 refine ⟨e',he,N + 1,fun n hle=>?_⟩
 obtain ⟨m,rfl⟩:∃ m,n=m + 1:=⟨n - 1,by omega⟩
 show (if (tk ts i).text ∈ [[110,111,116]] then _ else (P ts m .sum i).bind fun x j=>if (tk ts j).text ∈ D9 5 then _ else _)=_
 rw [if_neg (by simpa using h1),h m (by omega)]
 show (if (tk ts j).text ∈ D9 5 then _ else _)=_
 rw [hs.head,if_neg hn]
theorem a1_of {rest:List TK} (h:RdA ts i j e .or) (hs:Dd ts j rest) (hn:Gk rest ∉ D9 1):RdA ts i j e .arrow:=by
 obtain ⟨e',he,N,h⟩:=h
 refine ⟨e',he,N + 1,fun n hle=>?_⟩
 obtain ⟨m,rfl⟩:∃ m,n=m + 1:=⟨n - 1,by omega⟩
 have hh:=hs.head
 have n1:Gk rest ≠ [45,62]:=fun c=>hn (by rw [c]; decide)
 have n2:Gk rest ≠ [102,98,121]:=fun c=>hn (by rw [c]; decide)
 show (P ts m .or i).bind _=_
 rw [h m (by omega)]
 show (if (tk ts j).text ∈ [[45,62]] then _ else if Ip e' = false then PR.ok e' j else if (tk ts j).text ∈ [[102,98,121]] then _ else PR.ok e' j)=_
 rw [hh,if_neg (by simpa using n1),if_neg (show ¬ Gk rest ∈ [[102,98,121]] by simpa using n2)]
 split <;> rfl
theorem a0_of (h:RdA ts i j e .arrow) (h1:(tk ts i).text ≠ [105,102]):RdA ts i j e .expr:=by
 obtain ⟨e',he,N,h⟩:=h
 refine ⟨e',he,N + 1,fun n hle=>?_⟩
 obtain ⟨m,rfl⟩:∃ m,n=m + 1:=⟨n - 1,by omega⟩
 show (if (tk ts i).text ∈ [[105,102]] then _ else P ts m .arrow i)=_
 rw [if_neg (by simpa using h1),h m (by omega)]
def Low (ts:List Tk) (i j:Nat) (e:PE) (rest:List TK) (L:Nat):Prop:=(∀ M,M ≤ L → M ≠ 5 → Gq M rest → RdA ts i j e (eG M)) ∧ (∀ M,M ≤ L → (M=2 ∨ M=3 ∨ M=6 ∨ M=7) → Gq (M + 1) rest → RdB ts i j e M)
variable {us rest:List TK}
theorem Low.up {L:Nat} (h:Low ts i j e rest L) (ha:L + 1 ≠ 5 → Gq (L + 1) rest → RdA ts i j e (eG (L + 1))) (hb:(L + 1=2 ∨ L + 1=3 ∨ L + 1=6 ∨ L + 1=7) → Gq (L + 2) rest → RdB ts i j e (L + 1)):Low ts i j e rest (L + 1):=by
 refine ⟨fun M hM h5 hs=>?_,fun M hM hc hs=>?_⟩
 ·by_cases hq:M=L + 1
  ·subst hq; exact ha h5 hs
  ·exact h.1 M (by omega) h5 hs
 ·by_cases hq:M=L + 1
  ·subst hq; exact hb hc hs
  ·exact h.2 M (by omega) hc hs
theorem low0 (h:Gq 0 rest → RdA ts i j e .expr):Low ts i j e rest 0:=by
 refine ⟨fun M hM _ hs=>?_,fun M hM hc hs=>by omega⟩
 obtain rfl:M=0:=by omega
 exact h hs
theorem low1 (hh:(tk ts i).text ≠ [105,102]) (h:Gq 1 rest → RdA ts i j e .arrow):Low ts i j e rest 1 :=
 (low0 fun hs=>a0_of (h (hs.mono (by omega))) hh).up (fun _ hs=>h hs) (fun hc=>by omega)
theorem low2 (hh:(tk ts i).text ≠ [105,102]) (hv:Dd ts j rest) (h:Gq 3 rest → RdB ts i j e 2):Low ts i j e rest 2 :=
 (low1 hh fun hs=>a1_of (show RdA ts i j e .or from (h (hs.mono (by omega))).a hv (hs 2 (by omega))) hv (hs 1 (by omega))).up (fun _ hs=>(h (hs.mono (by omega))).a hv (hs 2 (by omega))) (fun _ hs=>h hs)
theorem low3 (hh:(tk ts i).text ≠ [105,102]) (hv:Dd ts j rest) (h:Gq 4 rest → RdB ts i j e 3):Low ts i j e rest 3 :=
 (low2 hh hv fun hs=>b_of (nt:=.or) (nt':=.and) rfl rfl (fun n=>rfl) ((h (hs.mono (by omega))).a hv (hs 3 (by omega)))).up (fun _ hs=>(h (hs.mono (by omega))).a hv (hs 3 (by omega))) (fun _ hs=>h hs)
theorem low4 (hh:(tk ts i).text ≠ [105,102]) (hv:Dd ts j rest) (h:Gq 4 rest → RdA ts i j e .not):Low ts i j e rest 4 :=
 (low3 hh hv fun hs=>b_of (nt:=.and) (nt':=.not) rfl rfl (fun n=>rfl) (h hs)).up (fun _ hs=>h hs) (fun hc=>by omega)
theorem low5 (hh:(tk ts i).text ≠ [105,102]) (hv:Dd ts j rest) (h:Gq 4 rest → RdA ts i j e .not):Low ts i j e rest 5 :=
 (low4 hh hv h).up (fun hc=>absurd rfl hc) (fun hc=>by omega)
theorem low6 (hh:(tk ts i).text ≠ [105,102]) (h2:(tk ts i).text ≠ [110,111,116]) (hv:Dd ts j rest) (h:Gq 7 rest → RdB ts i j e 6):Low ts i j e rest 6 :=
 (low5 hh hv fun hs=>a4_of (show RdA ts i j e .sum from (h (hs.mono (by omega))).a hv (hs 6 (by omega))) h2 hv (hs 5 (by omega))).up (fun _ hs=>(h (hs.mono (by omega))).a hv (hs 6 (by omega))) (fun _ hs=>h hs)
theorem low7 (hh:(tk ts i).text ≠ [105,102]) (h2:(tk ts i).text ≠ [110,111,116]) (hv:Dd ts j rest) (h:Gq 8 rest → RdB ts i j e 7):Low ts i j e rest 7 :=
 (low6 hh h2 hv fun hs=>b_of (nt:=.sum) (nt':=.term) rfl rfl (fun n=>rfl) ((h (hs.mono (by omega))).a hv (hs 7 (by omega)))).up (fun _ hs=>(h (hs.mono (by omega))).a hv (hs 7 (by omega))) (fun _ hs=>h hs)
theorem low8 (hh:(tk ts i).text ≠ [105,102]) (h2:(tk ts i).text ≠ [110,111,116]) (hv:Dd ts j rest) (h:Gq 8 rest → RdA ts i j e .unary):Low ts i j e rest 8 :=
 (low7 hh h2 hv fun hs=>b_of (nt:=.term) (nt':=.unary) rfl rfl (fun n=>rfl) (h hs)).up (fun _ hs=>h hs) (fun hc=>by omega)
theorem low9 (hd:Hd 9 us) (hu:Dd ts i (us ++ rest)) (hv:Dd ts j rest) (h:Gq 10 rest → RdW ts i j e):Low ts i j e rest 9:=by
 have hh:=hu.head
 rw [Ha hd.ne] at hh
 have g:Gq 9 rest → RdA ts i j e .when:=fun hs=>(h (hs.mono (by omega))).a hv (hs 9 (by omega))
 exact (low8 (by rw [hh]; exact hd.h1 (by omega)) (by rw [hh]; exact hd.h5 (by omega)) hv fun hs=>a8_of (g (hs.mono (by omega))) (by rw [hh]; exact (hd.h9 (by omega)).1) (by rw [hh]; exact (hd.h9 (by omega)).2)).up (fun _ hs=>g hs) (fun hc=>by omega)
theorem Yl (hd:Hd 9 us) (hu:Dd ts i (us ++ rest)) (hv:Dd ts j rest) (h:Gq 10 rest → RdA ts i j e .primary):Low ts i j e rest 10 :=
 (low9 hd hu hv fun hs=>jR (nt:=.primary) (h hs)).up (fun _ hs=>h hs) (fun hc=>by omega)
end
def It (b:Nat) (us:List TK) (e:PE):Prop:=Hd b us ∧ ∀ (ts:List Tk) (i:Nat) (rest:List TK),Dd ts i (us ++ rest) → Low ts i (i + us.length) e rest b ∧ (9 ≤ b → Gq 10 rest → RdW ts i (i + us.length) e)
theorem It.mono {a b:Nat} {us:List TK} {e:PE} (h:It b us e) (hl:a ≤ b):It a us e :=
 ⟨h.1.mono hl,fun ts i rest hs=>⟨⟨fun M hM=>((h.2 ts i rest hs).1.1 M (by omega)),fun M hM=>((h.2 ts i rest hs).1.2 M (by omega))⟩,fun h9=>(h.2 ts i rest hs).2 (by omega)⟩⟩
theorem It.a {b L:Nat} {us:List TK} {e:PE} (h:It b us e) (hL:L ≤ b) (h5:L ≠ 5) {ts:List Tk} {i:Nat} {rest:List TK} (hs:Dd ts i (us ++ rest)) (hr:Gq L rest):RdA ts i (i + us.length) e (eG L):=(h.2 ts i rest hs).1.1 L hL h5 hr
theorem It.b {b L:Nat} {us:List TK} {e:PE} (h:It b us e) (hL:L ≤ b) (hc:L=2 ∨ L=3 ∨ L=6 ∨ L=7) {ts:List Tk} {i:Nat} {rest:List TK} (hs:Dd ts i (us ++ rest)) (hr:Gq (L + 1) rest):RdB ts i (i + us.length) e L:=(h.2 ts i rest hs).1.2 L hL hc hr
theorem It.w {b:Nat} {us:List TK} {e:PE} (h:It b us e) (hL:9 ≤ b) {ts:List Tk} {i:Nat} {rest:List TK} (hs:Dd ts i (us ++ rest)) (hr:Gq 10 rest):RdW ts i (i + us.length) e:=(h.2 ts i rest hs).2 hL hr
end Go.Ax
noncomputable section
namespace Go.Ax
open Go.RowKit Go.Proofs
set_option maxRecDepth 100000
abbrev kw (s:List UInt8):TK:=(3,s,0)
abbrev sg (s:List UInt8):TK:=(4,s,0)
abbrev nm (s:List UInt8):TK:=(1,s,0)
structure KJ where
 toks:List TK
 binds:Nat
 kind:Nat
def Ft (us:List TK):List TK:=sg [40] :: (us ++ [sg [41]])
def kJ (ks:List KJ) (i least:Nat):List TK:=match ks[i]? with
 | none=>[]
 | some k=>if k.binds < least then Ft k.toks else k.toks
def Nh:List KJ → List TK
 | []=>[]
 | k :: r=>sg [44] :: (k.toks ++ Nh r)
def Ly:List KJ → List TK
 | []=>[]
 | k :: r=>k.toks ++ Nh r
def Xd (n:Int):List TK:=if n < 0 then [sg [45],(2,Lib.decDigits n.natAbs,n.natAbs)] else [(2,Lib.decDigits n.toNat,n.toNat)]
def rW (n:Int):List TK:=[kw (if n=0 then [102,97,108,115,101] else [116,114,117,101])]
def eH (ks:List KJ):List TK:=if (∃ k,ks[0]? = some k ∧ k.kind=1) ∨ Gk (kJ ks 0 8)=[45] then sg [45] :: Ft (kJ ks 0 8) else sg [45] :: kJ ks 0 8
def opT (name:List UInt8):TK:=if name ∈ Jk then kw name else sg name
def Lf (name:List UInt8) (off:Bool):List TK:=if off then [kw [119,104,101,110],kw [110,111,116],nm name] else [kw [119,104,101,110],nm name]
def toksK (kind:Nat) (n:Int) (name:List UInt8) (off:Bool) (ks:List KJ):List TK:=match kind with
 | 1=>Xd n
 | 2=>rW n
 | 3=>[nm name]
 | 4=>eH ks
 | 5=>kw [110,111,116] :: kJ ks 0 4
 | 6=>kJ ks 0 (if H6 name=5 then 6 else H6 name) ++ opT name :: kJ ks 1 (H6 name + 1)
 | 7=>kw [105,102] :: (kJ ks 0 0 ++ kw [116,104,101,110] :: (kJ ks 1 0 ++ kw [101,108,115,101] :: kJ ks 2 0))
 | 8=>kJ ks 0 2 ++ sg [45,62] :: kJ ks 1 1
 | 9=>kJ ks 0 0 ++ kw [102,98,121] :: kJ ks 1 1
 | 10=>kw [112,114,101] :: kJ ks 0 8
 | 11=>kJ ks 0 9 ++ Lf name off
 | 12=>kw [109,101,114,103,101] :: nm name :: (Ft (kJ ks 0 0) ++ Ft (kJ ks 1 0))
 | 13=>nm name :: Ft (Ly ks)
 | 14=>if 0 < ks.length then kw [97,119,97,105,116] :: nm name :: kw [97,102,116,101,114] :: Ft (Ly ks) else [kw [97,119,97,105,116],nm name]
 | _=>[]
mutual
def Fp:PE → List TK
 | .mk kind _ n name off kids=>toksK kind n name off (Ez kids)
def Ez:List PE → List KJ
 | []=>[]
 | e :: r=>⟨Fp e,Ea e,Lj e⟩ :: Ez r
end
def Hw (s:List UInt8):Prop:=(s ∉ Jk ∧ s ∉ Fb) ∧ (∃ b r,s=b :: r ∧ F0 b=true ∧ ∀ c ∈ r,Ds c=true) ∧ s.length ≤ 30
inductive Shape:Nat → Int → List UInt8 → Bool → List PE → Prop where
 | num (n:Int) (h:-9223372036854775808 ≤ n ∧ n ≤ 9223372036854775807):Shape 1 n [] false []
 | truth (n:Int) (h:n=0 ∨ n=1):Shape 2 n [] false []
 | var (name:List UInt8) (h:Hw name):Shape 3 0 name false []
 | neg (x:PE):Shape 4 0 [] false [x]
 | not (x:PE):Shape 5 0 [] false [x]
 | bin (name:List UInt8) (x y:PE) (h:name ∈ D9 2 ∨ name ∈ D9 3 ∨ name ∈ D9 5 ∨ name ∈ D9 6 ∨ name ∈ D9 7):Shape 6 0 name false [x,y]
 | ite (x y z:PE):Shape 7 0 [] false [x,y,z]
 | arrow (x y:PE):Shape 8 0 [] false [x,y]
 | fby (x y:PE) (h:Ip x=true):Shape 9 0 [] false [x,y]
 | pre (x:PE):Shape 10 0 [] false [x]
 | when (name:List UInt8) (off:Bool) (x:PE) (h:Hw name):Shape 11 0 name off [x]
 | merge (name:List UInt8) (x y:PE) (h:Hw name):Shape 12 0 name false [x,y]
 | call (name:List UInt8) (l:List PE) (h:Hw name):Shape 13 0 name false l
 | await (name:List UInt8) (l:List PE) (h:Hw name) (hl:∀ x ∈ l,Ip x=true):Shape 14 0 name false l
inductive GoodT:PE → Prop where
 | mk (kind pos:Nat) (n:Int) (name:List UInt8) (off:Bool) (kids:List PE) (hs:Shape kind n name off kids) (hk:∀ e ∈ kids,GoodT e):GoodT (.mk kind pos n name off kids)
theorem Sn (u:Nat):∃ c r,Lib.decDigits u=c :: r ∧ 48 ≤ c.toNat ∧ c.toNat ≤ 57:=by
 induction u using Nat.strongRecOn with
 | _ u ih =>
  rw [Lib.decDigits]
  split
  ·rename_i h
   refine ⟨_,[],rfl,?_⟩
   have:(UInt8.ofNat (48 + u)).toNat=48 + u:=by simp [UInt8.toNat_ofNat]; omega
   omega
  ·rename_i h
   obtain ⟨c,r,e,h1,h2⟩:=ih (u / 10) (by omega)
   rw [e]
   exact ⟨c,_,rfl,h1,h2⟩
theorem Uv (u:Nat) {c:UInt8} {r:List UInt8} (h:c.toNat < 48 ∨ 57 < c.toNat):Lib.decDigits u ≠ c :: r:=by
 obtain ⟨c',r',e,h1,h2⟩:=Sn u
 rw [e]
 intro q
 injection q with q1 q2
 subst q1
 omega
theorem Gq.ne {L k:Nat} {us:List TK} (h:Gq L us) (hk:L ≤ k) {s:List UInt8} (hs:s ∈ D9 k):Gk us ≠ s:=fun e=>h k hk (e ▸ hs)
theorem H8 {ts:List Tk} {i:Nat} {us rest:List TK} (h:Dd ts i (us ++ rest)):Dd ts (i + us.length) rest:=h.skip
theorem bZ (kind pos pos':Nat) (n:Int) (name:List UInt8) (off:Bool):LikeE (.mk kind pos n name off []) (.mk kind pos' n name off []):=.mk _ _ _ _ _ _ _ _ .nil
theorem Ky (ts:List Tk) (n i:Nat):P ts (n + 1) .primary i=if (tk ts i).kind=2 then Kg ts i
   else if (tk ts i).kind=1 then P ts n .name i
   else if (tk ts i).text=[116,114,117,101] ∨ (tk ts i).text=[102,97,108,115,101] then .ok (I2 (tk ts i)) (i + 1)
   else if (tk ts i).text=[109,101,114,103,101] then (Fk ts 1 (i + 1)).bind fun t j=>(P ts n .brk j).bind fun x j=>(P ts n .brk j).bind fun y j=>.ok (.mk 12 (tk ts i).pos 0 t.text false [x,y]) j
   else if (tk ts i).text=[97,119,97,105,116] then (Fk ts 1 (i + 1)).bind fun t j=>if (tk ts j).text ∈ [[97,102,116,101,114]] then (C7 ts [[40]] (j + 1)).bind fun _ j=>(P ts n .lit j).bind fun x m=>(Gs ts (P ts n .lit) n [x] m).bind fun l m=>.ok (.mk 14 (tk ts i).pos 0 t.text false l) m else .ok (.mk 14 (tk ts i).pos 0 t.text false []) j
   else P ts n .brk i:=rfl
theorem Hg {ts:List Tk} {i:Nat} {ws:List (List UInt8)} (h:(tk ts i).text ∈ ws):C7 ts ws i=.ok (tk ts i) (i + 1):=by unfold C7; rw [if_pos h]
theorem Nw {ts:List Tk} {i k:Nat} (h:(tk ts i).kind=k):Fk ts k i=.ok (tk ts i) (i + 1):=by unfold Fk; rw [if_pos h]
theorem vJ {us:List TK} {e:PE} (h:It 0 us e) {ts:List Tk} {i:Nat} {rest:List TK} (hs:Dd ts i (Ft us ++ rest)):RdA ts i (i + (Ft us).length) e .brk:=by
 unfold Ft at hs ⊢
 obtain ⟨k0,t0,-,-,hs1⟩:=hs.cons
 have hs1':Dd ts (i + 1) (us ++ sg [41] :: rest):=by
  have:(us ++ [sg [41]]).append rest=us ++ sg [41] :: rest:=by simp
  rw [← this]; exact hs1
 have hstop:Gq 0 (sg [41] :: rest):=fun k _=>by
  show ([41]:List UInt8) ∉ D9 k
  unfold D9; split <;> decide
 obtain ⟨e',he,N,hP⟩:=h.a (L:=0) (Nat.le_refl _) (by decide) hs1' hstop
 obtain ⟨k1,t1,-,-,hs2⟩:=hs1'.skip.cons
 refine ⟨e',he,N + 1,fun n hn=>?_⟩
 obtain ⟨m,rfl⟩:∃ m,n=m + 1:=⟨n - 1,by omega⟩
 show (C7 ts [[40]] i).bind (fun _ j=>(P ts m .expr j).bind fun x j=>(C7 ts [[41]] j).bind fun _ j=>.ok x j)=_
 rw [Hg (by rw [t0]; decide)]
 show (P ts m .expr (i + 1)).bind _=_
 rw [show P ts m .expr (i + 1)=.ok e' (i + 1 + us.length) from hP m (by omega)]
 show (C7 ts [[41]] (i + 1 + us.length)).bind _=_
 rw [Hg (by rw [t1]; decide)]
 show PR.ok e' _=_
 congr 1
 simp; omega
theorem brk_hd (us:List TK):Hd 10 (Ft us):=by
 refine ⟨fun e=>(by unfold Ft at e; cases e),fun _=>?_,fun _=>?_,fun _=>?_,?_⟩ <;> simp [Ft,Gk]
theorem it_brk {us:List TK} {e:PE} (h:It 0 us e):It 10 (Ft us) e:=by
 refine ⟨brk_hd us,fun ts i rest hs=>?_⟩
 have hp:RdA ts i (i + (Ft us).length) e .primary:=by
  obtain ⟨e',he,N,hP⟩:=vJ h hs
  have hs':=hs
  unfold Ft at hs'
  obtain ⟨k0,t0,-,-,-⟩:=hs'.cons
  refine ⟨e',he,N + 1,fun n hn=>?_⟩
  obtain ⟨m,rfl⟩:∃ m,n=m + 1:=⟨n - 1,by omega⟩
  rw [Ky,k0,t0,if_neg (by decide),if_neg (by decide),if_neg (by decide),if_neg (by decide),if_neg (by decide)]
  exact hP m (by omega)
 exact ⟨Yl ((brk_hd us).mono (by omega)) hs (H8 hs) fun _=>hp,fun _ _=>jR (nt:=.primary) hp⟩
theorem it_kid {us:List TK} {b kind:Nat} {e:PE} (h:It b us e) (ks:List KJ) (k:Nat) (hk:ks[k]? = some ⟨us,b,kind⟩) (least:Nat) (hl:least ≤ 10):It least (kJ ks k least) e:=by
 unfold kJ
 rw [hk]
 show It least (if b < least then Ft us else us) e
 split
 ·exact (it_brk (h.mono (Nat.zero_le _))).mono hl
 ·exact h.mono (by omega)
end Go.Ax
noncomputable section
namespace Go.Ax
open Go.RowKit Go.Proofs
set_option maxRecDepth 100000
theorem wrap_i64 {x:Int} (h:-9223372036854775808 ≤ x ∧ x ≤ 9223372036854775807):IntKind.i64.wrap x=x:=by
 unfold IntKind.wrap
 simp [IntKind.bits,IntKind.signed]; omega
theorem wrap_neg {n:Int} (h:-9223372036854775808 ≤ n ∧ n < 0):IntKind.i64.wrap (0 - IntKind.i64.wrap (n.natAbs:Int))=n:=by
 unfold IntKind.wrap
 simp [IntKind.bits,IntKind.signed]; omega
theorem xP (kind pos pos':Nat) (n:Int) (name:List UInt8) (off:Bool) {x x':PE} (h:LikeE x x'):LikeE (.mk kind pos n name off [x]) (.mk kind pos' n name off [x']):=.mk _ _ _ _ _ _ _ _ (.cons _ _ _ _ h .nil)
theorem pD (kind pos pos':Nat) (n:Int) (name:List UInt8) (off:Bool) {x x' y y':PE} (h:LikeE x x') (h2:LikeE y y'):LikeE (.mk kind pos n name off [x,y]) (.mk kind pos' n name off [x',y']):=.mk _ _ _ _ _ _ _ _ (.cons _ _ _ _ h (.cons _ _ _ _ h2 .nil))
theorem like3 (kind pos pos':Nat) (n:Int) (name:List UInt8) (off:Bool) {x x' y y' z z':PE} (h:LikeE x x') (h2:LikeE y y') (h3:LikeE z z'):LikeE (.mk kind pos n name off [x,y,z]) (.mk kind pos' n name off [x',y',z']):=.mk _ _ _ _ _ _ _ _ (.cons _ _ _ _ h (.cons _ _ _ _ h2 (.cons _ _ _ _ h3 .nil)))
theorem cH {b:Nat} {us r:List TK} (h:Hd b us):Hd b (us ++ r):=by
 refine ⟨fun e=>h.ne (List.append_eq_nil_iff.1 e).1,?_,?_,?_,?_⟩ <;> rw [Ha h.ne]
 ·exact h.h9
 ·exact h.h5
 ·exact h.h1
 ·exact h.hb
theorem dec9 (u:Nat):Lib.decDigits u ≠ [45] ∧ Lib.decDigits u ≠ [112,114,101] ∧ Lib.decDigits u ≠ [110,111,116] ∧ Lib.decDigits u ≠ [105,102] ∧ Lib.decDigits u ≠ [41]:=⟨Uv u (by decide),Uv u (by decide),Uv u (by decide),Uv u (by decide),Uv u (by decide)⟩
theorem hd8 (x:TK) (r:List TK) (h:x.2.1 ≠ [110,111,116] ∧ x.2.1 ≠ [105,102] ∧ x.2.1 ≠ [41]):Hd 8 (x :: r):=⟨fun e=>(by cases e),fun h=>absurd h (by omega),fun _=>h.1,fun _=>h.2.1,h.2.2⟩
theorem hd4 (x:TK) (r:List TK) (h:x.2.1 ≠ [105,102] ∧ x.2.1 ≠ [41]):Hd 4 (x :: r):=⟨fun e=>(by cases e),fun h=>absurd h (by omega),fun h=>absurd h (by omega),fun _=>h.1,h.2⟩
theorem num_y {ts:List Tk} {i:Nat} {u:Nat} {rest:List TK} (hs:Dd ts i ((2,Lib.decDigits u,u) :: rest)) (hu:u ≤ 9223372036854775807):Kg ts i=.ok (.mk 1 (tk ts i).pos (u:Int) [] false []) (i + 1):=by
 obtain ⟨k0,t0,n0,g0,-⟩:=hs.cons
 have n0:(tk ts i).num=u:=n0
 unfold Kg
 rw [g0]
 show (if (tk ts i).text=[45] then _ else if (tk ts i).kind=2 then _ else _)=_
 rw [t0,if_neg (show ¬ Lib.decDigits u=[45] from (dec9 u).1),k0,if_pos rfl,n0]
 show (if 9223372036854775807 < u then _ else _)=_
 rw [if_neg (by omega),wrap_i64 (by omega)]
theorem neg_y {ts:List Tk} {i:Nat} {n:Int} {rest:List TK} (hs:Dd ts i (sg [45] :: (2,Lib.decDigits n.natAbs,n.natAbs) :: rest)) (h:-9223372036854775808 ≤ n ∧ n < 0):Kg ts i=.ok (.mk 1 (tk ts i).pos n [] false []) (i + 2):=by
 obtain ⟨k0,t0,n0,g0,h1⟩:=hs.cons
 obtain ⟨k1,t1,n1,g1,-⟩:=h1.cons
 unfold Kg
 rw [g0]
 show (if (tk ts i).text=[45] then _ else _)=_
 rw [if_pos t0,g1]
 show (if (tk ts (i + 1)).kind=2 then _ else _)=_
 rw [if_pos k1,n1]
 show PR.ok (PE.mk 1 _ (IntKind.i64.wrap (0 - IntKind.i64.wrap (n.natAbs:Int))) [] false []) _=_
 rw [wrap_neg h]
theorem num_eq {n:Int} (h:¬ n < 0):((n.toNat:Nat):Int)=n:=by omega
theorem it_num (pos:Nat) (n:Int) (h:-9223372036854775808 ≤ n ∧ n ≤ 9223372036854775807):It (if n < 0 then 8 else 10) (Xd n) (.mk 1 pos n [] false []):=by
 unfold Xd
 split
 ·rename_i hn
  refine ⟨hd8 _ _ (by decide),fun ts i rest hs=>⟨?_,fun h=>absurd h (by omega)⟩⟩
  have hs':Dd ts i (sg [45] :: (2,Lib.decDigits n.natAbs,n.natAbs) :: rest):=hs
  obtain ⟨k0,t0,-,-,h1⟩:=hs'.cons
  obtain ⟨k1,t1,-,-,h2⟩:=h1.cons
  refine low8 (by rw [t0]; decide) (by rw [t0]; decide) (H8 hs) fun hst=>⟨.mk 1 (tk ts i).pos n [] false [],bZ _ _ _ _ _ _,1,fun m hm=>?_⟩
  obtain ⟨m,rfl⟩:∃ q,m=q + 1:=⟨m - 1,by omega⟩
  have hw:(tk ts (i + 2)).text ≠ [119,104,101,110]:=by
   rw [h2.head]; exact hst.ne (k:=9) (by omega) (by decide)
  have hb:Jc ts i=true:=by
   unfold Jc
   rw [decide_eq_true t0,decide_eq_true k1,decide_eq_false hw]; rfl
  show (if (tk ts i).text ∈ [[112,114,101]] then _ else if Jc ts i=true then Kg ts i else _)=_
  rw [if_neg (by rw [t0]; decide),if_pos hb,neg_y hs' ⟨h.1,hn⟩]; rfl
 ·rename_i hn
  have d:=dec9 n.toNat
  have hd:Hd 10 [((2,Lib.decDigits n.toNat,n.toNat):TK)]:=⟨fun e=>(by cases e),fun _=>⟨d.1,d.2.1⟩,fun _=>d.2.2.1,fun _=>d.2.2.2.1,d.2.2.2.2⟩
  refine ⟨hd,fun ts i rest hs=>?_⟩
  have hp:RdA ts i (i + 1) (.mk 1 pos n [] false []) .primary:=by
   refine ⟨.mk 1 (tk ts i).pos n [] false [],bZ _ _ _ _ _ _,1,fun m hm=>?_⟩
   obtain ⟨m,rfl⟩:∃ q,m=q + 1:=⟨m - 1,by omega⟩
   have hs':Dd ts i ((2,Lib.decDigits n.toNat,n.toNat) :: rest):=hs
   rw [Ky,if_pos hs'.cons.1,num_y hs' (by omega),num_eq hn]
  exact ⟨Yl (hd.mono (by omega)) hs (H8 hs) fun _=>hp,fun _ _=>jR (nt:=.primary) hp⟩
theorem it_truth (pos:Nat) (n:Int) (h:n=0 ∨ n=1):It 10 (rW n) (.mk 2 pos n [] false []):=by
 have hd:Hd 10 (rW n):=by
  rcases h with rfl | rfl <;> exact ⟨fun e=>(by cases e),fun _=>by decide,fun _=>by decide,fun _=>by decide,by decide⟩
 refine ⟨hd,fun ts i rest hs=>?_⟩
 have hp:RdA ts i (i + 1) (.mk 2 pos n [] false []) .primary:=by
  refine ⟨.mk 2 (tk ts i).pos n [] false [],bZ _ _ _ _ _ _,1,fun m hm=>?_⟩
  obtain ⟨m,rfl⟩:∃ q,m=q + 1:=⟨m - 1,by omega⟩
  rcases h with rfl | rfl
  ·obtain ⟨k0,t0,-,-,-⟩:=Dd.cons (x:=kw [102,97,108,115,101]) (r:=rest) hs
   rw [Ky,k0,if_neg (by decide),if_neg (by decide),if_pos (Or.inr t0)]
   unfold I2
   rw [t0]; rfl
  ·obtain ⟨k0,t0,-,-,-⟩:=Dd.cons (x:=kw [116,114,117,101]) (r:=rest) hs
   rw [Ky,k0,if_neg (by decide),if_neg (by decide),if_pos (Or.inl t0)]
   unfold I2
   rw [t0]; rfl
 exact ⟨Yl (hd.mono (by omega)) hs (H8 hs) fun _=>hp,fun _ _=>jR (nt:=.primary) hp⟩
abbrev Y1 (name:List UInt8):Prop:=name ∉ Jk ∧ name ∉ Fb
theorem Zk {name:List UInt8} (h:Y1 name) (r:List TK):Hd 10 (nm name :: r):=by
 have w:∀ s,s ∈ Jk → name ≠ s:=fun s hs e=>h.1 (e ▸ hs)
 have g:∀ s,s ∈ Fb → name ≠ s:=fun s hs e=>h.2 (e ▸ hs)
 exact ⟨fun e=>(by cases e),fun _=>⟨g _ (by decide),w _ (by decide)⟩,fun _=>w _ (by decide),fun _=>w _ (by decide),g _ (by decide)⟩
theorem it_var (pos:Nat) {name:List UInt8} (h:Y1 name):It 10 [nm name] (.mk 3 pos 0 name false []):=by
 refine ⟨Zk h [],fun ts i rest hs=>?_⟩
 obtain ⟨k0,t0,-,-,h1⟩:=Dd.cons (x:=nm name) (r:=rest) hs
 have k0:(tk ts i).kind=1:=k0
 have t0:(tk ts i).text=name:=t0
 have hp:Gq 10 rest → RdA ts i (i + 1) (.mk 3 pos 0 name false []) .primary:=fun hst=>by
  refine ⟨.mk 3 (tk ts i).pos 0 name false [],bZ _ _ _ _ _ _,2,fun m hm=>?_⟩
  obtain ⟨m,rfl⟩:∃ q,m=q + 2:=⟨m - 2,by omega⟩
  rw [Ky,k0,if_neg (by decide),if_pos rfl]
  show (if (tk ts (i + 1)).text=[40] then _ else (Fk ts 1 i).bind fun t j=>PR.ok (PE.mk 3 t.pos 0 t.text false []) j)=_
  rw [h1.head,if_neg (hst.ne (k:=10) (by omega) (by decide)),Nw k0]
  show PR.ok (PE.mk 3 _ 0 (tk ts i).text false []) _=_
  rw [t0]
 exact ⟨Yl ((Zk h []).mono (by omega)) hs (H8 hs) hp,fun _ hst=>jR (nt:=.primary) (hp hst)⟩
theorem it_not (pos:Nat) {kk:List TK} {x:PE} (h:It 4 kk x):It 4 (kw [110,111,116] :: kk) (.mk 5 pos 0 [] false [x]):=by
 refine ⟨hd4 _ _ (by decide),fun ts i rest hs=>⟨?_,fun h=>absurd h (by omega)⟩⟩
 obtain ⟨k0,t0,-,-,h1⟩:=Dd.cons (x:=kw [110,111,116]) (r:=kk ++ rest) hs
 have ej:i + (kw [110,111,116] :: kk).length=i + 1 + kk.length:=by rw [List.length_cons]; omega
 have hv:=H8 hs
 rw [ej] at hv ⊢
 refine low4 (by rw [t0]; decide) hv fun hst=>?_
 obtain ⟨x',hx,N,hP⟩:=h.a (L:=4) (Nat.le_refl _) (by decide) h1 hst
 refine ⟨.mk 5 (tk ts i).pos 0 [] false [x'],xP _ _ _ _ _ _ hx,N + 1,fun n hn=>?_⟩
 obtain ⟨m,rfl⟩:∃ m,n=m + 1:=⟨n - 1,by omega⟩
 show (if (tk ts i).text ∈ [[110,111,116]] then (P ts m .not (i + 1)).bind _ else _)=_
 rw [if_pos (by rw [t0]; decide),show P ts m .not (i + 1)=_ from hP m (by omega)]; rfl
theorem it_pre (pos:Nat) {kk:List TK} {x:PE} (h:It 8 kk x):It 8 (kw [112,114,101] :: kk) (.mk 10 pos 0 [] false [x]):=by
 refine ⟨hd8 _ _ (by decide),fun ts i rest hs=>⟨?_,fun h=>absurd h (by omega)⟩⟩
 obtain ⟨k0,t0,-,-,h1⟩:=Dd.cons (x:=kw [112,114,101]) (r:=kk ++ rest) hs
 have ej:i + (kw [112,114,101] :: kk).length=i + 1 + kk.length:=by rw [List.length_cons]; omega
 have hv:=H8 hs
 rw [ej] at hv ⊢
 refine low8 (by rw [t0]; decide) (by rw [t0]; decide) hv fun hst=>?_
 obtain ⟨x',hx,N,hP⟩:=h.a (L:=8) (Nat.le_refl _) (by decide) h1 hst
 refine ⟨.mk 10 (tk ts i).pos 0 [] false [x'],xP _ _ _ _ _ _ hx,N + 1,fun n hn=>?_⟩
 obtain ⟨m,rfl⟩:∃ m,n=m + 1:=⟨n - 1,by omega⟩
 show (if (tk ts i).text ∈ [[112,114,101]] then (P ts m .unary (i + 1)).bind _ else _)=_
 rw [if_pos (by rw [t0]; decide),show P ts m .unary (i + 1)=_ from hP m (by omega)]; rfl
theorem it_neg (pos:Nat) {kk:List TK} {x:PE} (h:It 8 kk x) (hn:∀ y r,kk=y :: r → y.1=2 → Gk r=[119,104,101,110]):It 8 (sg [45] :: kk) (.mk 4 pos 0 [] false [x]):=by
 refine ⟨hd8 _ _ (by decide),fun ts i rest hs=>⟨?_,fun h=>absurd h (by omega)⟩⟩
 obtain ⟨k0,t0,-,-,h1⟩:=Dd.cons (x:=sg [45]) (r:=kk ++ rest) hs
 have ej:i + (sg [45] :: kk).length=i + 1 + kk.length:=by rw [List.length_cons]; omega
 have hv:=H8 hs
 rw [ej] at hv ⊢
 refine low8 (by rw [t0]; decide) (by rw [t0]; decide) hv fun hst=>?_
 obtain ⟨x',hx,N,hP⟩:=h.a (L:=8) (Nat.le_refl _) (by decide) h1 hst
 refine ⟨.mk 4 (tk ts i).pos 0 [] false [x'],xP _ _ _ _ _ _ hx,N + 1,fun n hle=>?_⟩
 obtain ⟨m,rfl⟩:∃ m,n=m + 1:=⟨n - 1,by omega⟩
 have hb:Jc ts i=false:=by
  unfold Jc
  cases hk:kk with
  | nil=>exact absurd hk h.1.ne
  | cons y r =>
   rw [hk] at h1
   obtain ⟨k1,t1,-,-,h2⟩:=Dd.cons (x:=y) (r:=r ++ rest) h1
   by_cases hy:y.1=2
   ·have hr:=hn y r hk hy
    have hne:r ≠ []:=fun e=>by rw [e] at hr; cases hr
    rw [h2.head,Ha hne,hr]
    simp
   ·rw [decide_eq_false (show ¬ (tk ts (i + 1)).kind=2 by rw [k1]; exact hy)]
    simp
 show (if (tk ts i).text ∈ [[112,114,101]] then _ else if Jc ts i=true then _ else if (tk ts i).text ∈ [[45]] then (P ts m .unary (i + 1)).bind _ else _)=_
 rw [if_neg (by rw [t0]; decide),hb,if_neg (by simp),if_pos (by rw [t0]; decide),show P ts m .unary (i + 1)=_ from hP m (by omega)]; rfl
end Go.Ax
