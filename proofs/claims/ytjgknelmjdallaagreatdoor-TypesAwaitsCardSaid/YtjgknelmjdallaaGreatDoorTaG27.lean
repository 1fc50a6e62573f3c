/- Gj -/
import Derived.Test.YtjgknelmjdallaaGreatDoorTaG26
set_option linter.unusedVariables false
set_option linter.unusedSimpArgs false
set_option maxHeartbeats 16000000
noncomputable section
namespace Go.Ax
open Go.RowKit Go.Proofs
set_option maxRecDepth 100000
def tyC (t:Bool × Bool):List AV:=[.v (.bool t.1),.v (.bool t.2)]
theorem Te (S:St):Jl Tryz.prog S 52=some (.ptr S.next 0,S.newBox (tyC (false,false))):=by kernel_rfl
theorem Yl {S:St} {id:Nat} {t:Bool × Bool} (h:S.mem.get id=some (.box (tyC t))) (u:Bool × Bool):Di Tryz.prog S 52 (.ptr id 0) (tyA u)=some (S.put id (tyC u)):=by
 simp [Di,h,uV,AV.noTup,AV.cells,tyA,tyC,St.put]
theorem must_w {s m:Nat} {mn:NdM} {names:List (List UInt8 × (Bool × Bool))} {Ty:PE → Nat × Nat → (Bool × Bool) × (Nat × Nat)} (l:List PE) {v:AV} (hv:RepK v l) (hT:∀ e ∈ l,dV s m mn names Ty e) (hl:l.length ≤ 1000000) (ty:Bool × Bool) (S:St) (f:Nat × Nat) (hc:Cx s m mn names S f):WC E9 189 [.ptr s 0,tyA ty,v] S (fun r=>∃ S',r=.ret (tyA ty) S' ∧ Cx s m mn names S' (Sk Ty ty l f) ∧ D9 s S S'):=by
 refine Do Tryz.f189 (by kernel_rfl) (by kernel_rfl) (by kernel_rfl) (by show (_:Nat) ≤ _;simp [Tryz.f189]) ?_
 have g1:=Cs S (tyC ty)
 have k1:=Ct S (tyC ty)
 have n1:(S.newBox (tyC ty)).next=S.next + 1:=rfl
 have e1:S.newBox [.v (.bool ty.1),.v (.bool ty.2)]=S.newBox (tyC ty):=rfl
 generalize hS1:S.newBox (tyC ty)=S1 at g1 k1 n1 e1
 have al:=Te S1
 have g2:=Cs S1 (tyC (false,false))
 have q2:(S1.newBox (tyC (false,false))).mem.get S.next=_:=(Fs (by omega)).trans g1
 have k2:=k1.trans (Ct S1 (tyC (false,false)))
 have n2:(S1.newBox (tyC (false,false))).next=S.next + 1 + 1:=by show S1.next + 1=_; omega
 generalize hS2:S1.newBox (tyC (false,false))=S2 at g2 q2 k2 n2 al
 have hlt:=hc.g.lt
 have hc2:=hc.keep k2
 have fin:∀ (t:T AV) (S3:St) (f':Nat × Nat),t.get 4=some (.ptr S.next 0) → t.get 6=some (.ptr S1.next 0) → Cx s m mn names S3 f' → D9 s S2 S3 → ∃ S4,Ch Tryz.prog S3 52 (.ptr S.next 0)=some (tyA ty) ∧ Di Tryz.prog S3 52 (.ptr S1.next 0) (tyA ty)=some S4 ∧ Ch Tryz.prog S4 52 (.ptr S1.next 0)=some (tyA ty) ∧ Cx s m mn names S4 f' ∧ D9 s S S4:=fun t S3 f' _ _ hc3 k3=>by
  have gq:S3.mem.get S.next=some (.box (tyC ty)):=(k3.2 S.next (by omega) (by omega)).trans q2
  have go:S3.mem.get S1.next=some (.box (tyC (false,false))):=(k3.2 S1.next (by omega) (by omega)).trans g2
  have hm:=hc.lt
  have hm2:=hc.ndlt
  refine ⟨S3.put S1.next (tyC ty),P6 gq,Yl go ty,P6 (Eg _ _ _),⟨⟨(Eo (by omega)).trans hc3.g.box,hc3.g.lt⟩,(Eo (by omega)).trans hc3.mp,hc3.lt,(Eo (by omega)).trans hc3.nd,hc3.ndlt⟩,?_⟩
  have kk:=(k2.x s).trans k3
  exact ⟨kk.1,fun id hid hn=>(Eo (by omega)).trans (kk.2 id hid hn)⟩
 have etA:tyA ty=.agg [.v (.bool ty.1),.v (.bool ty.2)]:=rfl
 cases hv with
 | nil =>
  have hlen:F5 Tryz.prog S2 28 .nils=some 0:=by simp [F5,un28]
  simp only [A6,Bk,Bs,Dv,A4,Bh,A7,Be,Bd,A5,Bb,A9,Cb,A0,A1,Bn,ofOpt,ofOptS,Ba,Nat.reduceLT,Nat.reduceAdd,Nat.reduceEqDiff,Aa,Ab,Ac,Ae,E3,Tryz.f189,etA,B8,B9,e1,al,hlen]
  refine D0 (Ds ?_)
  have hl0:¬ ((0:Int) < ((0:Nat):Int)):=by omega
  obtain ⟨S4,r1,r2,r3,r4,r5⟩:=fin ((T.leaf.set 4 (some (.ptr S.next 0))).set 6 (some (.ptr S1.next 0))) S2 f (by simp [T.get_set]) (by simp [T.get_set]) hc2 ⟨Nat.le_refl _,fun _ _ _=>rfl⟩
  rw [etA] at r1 r2 r3
  simp only [Bz,Bp,A6,Bk,Bo,Bs,C9,Bw,A4,C0,Dw,Bh,A7,Be,Dm,Dy,Bd,Cg,A5,Bb,A9,A0,A1,ofOpt,Bt,Bj,Bu,Bf,Ci,C6,Nat.reduceLT,Nat.reduceEqDiff,Aa,Ab,Ac,Am,Aq,E3,hl0,r1,r2,r3]
  exact ⟨S4,rfl,r4,r5⟩
 | row tok off es _ hr =>
  have key:=fun t h0 h4 h6 h9 h10 h11=>mu_lp (tok:=tok) (off:=off) l hr hT hl ty S.next S1.next S2 (by omega) (by omega) q2 l.length 0 f t S2 (by omega) h0 h4 h6 h9 h10 h11 hc2 ⟨Nat.le_refl _,fun _ _ _=>rfl⟩
  unfold jF at key
  simp only [Tryz.f189] at key
  have hlen:F5 Tryz.prog S2 28 (.sl tok off 6 es)=some l.length:=by simp [F5,un28,U8 hr]
  simp only [A6,Bk,Bs,Dv,A4,Bh,A7,Be,Bd,A5,Bb,A9,Cb,A0,A1,Bn,ofOpt,ofOptS,Ba,Nat.reduceLT,Nat.reduceAdd,Nat.reduceEqDiff,Aa,Ab,Ac,Ae,E3,Tryz.f189,etA,B8,B9,e1,al,hlen]
  refine WX.mono (key _ ?_ ?_ ?_ ?_ ?_ ?_) ?_
  iterate 4 (simp only [A0,A1,Nat.reduceEqDiff,Aa,Ab])
  ·simp only [A0,A1,Nat.reduceEqDiff,Aa,Ab]; rfl
  ·simp only [A0,A1,Nat.reduceEqDiff,Aa,Ab]; rfl
  rintro o ⟨t',S3,rfl,h4,h6,hc3,k3⟩
  obtain ⟨S4,r1,r2,r3,r4,r5⟩:=fin t' S3 _ h4 h6 hc3 k3
  rw [etA] at r1 r2 r3
  simp only [A6,Bk,Bw,A4,C0,Dw,Bh,A7,Be,Dm,Dy,Bd,A5,Bb,A9,A0,ofOpt,Bj,Bu,Bf,Ci,Nat.reduceLT,Nat.reduceEqDiff,Aa,Ab,Ac,E3,h4,h6,r1,r2,r3]
  exact ⟨S4,rfl,r4,r5⟩
theorem bl52e:Gj Tryz.prog 52 []=some (tyA (false,false)):=by kernel_rfl
def qU (s m:Nat) (mn:NdM) (names:List (List UInt8 × (Bool × Bool))) (e:PE) (res:Nat × Nat → (Bool × Bool) × (Nat × Nat)):Prop:=∀ (xs:List AV) (S:St) (f:Nat × Nat),RepE (.agg xs) e → Cx s m mn names S f → WC E9 163 [.ptr s 0,.agg xs] S (fun r=>∃ S',r=.ret (tyA (res f).1) S' ∧ Cx s m mn names S' (res f).2 ∧ D9 s S S')
theorem Cx.own {s m:Nat} {mn:NdM} {names:List (List UInt8 × (Bool × Bool))} {S S3:St} {f f':Nat × Nat} {b:Nat} {cs:List AV} (h0:Cx s m mn names S f) (h:Cx s m mn names S3 f') (hb:S.next ≤ b) (kk:D9 s S S3):Cx s m mn names (S3.put b cs) f' ∧ D9 s S (S3.put b cs):=by
 have h1:=h0.lt
 have h2:=h0.g.lt
 have h3:=h0.ndlt
 exact ⟨⟨⟨(Eo (by omega)).trans h.g.box,h.g.lt⟩,(Eo (by omega)).trans h.mp,h.lt,(Eo (by omega)).trans h.nd,h.ndlt⟩,⟨kk.1,fun id hid hn=>(Eo (by omega)).trans (kk.2 id hid hn)⟩⟩
theorem expr_num {s m:Nat} {mn:NdM} {names:List (List UInt8 × (Bool × Bool))} (pos:Nat) (n:Int) (name:List UInt8) (off:Bool) (kids:List PE):qU s m mn names (.mk 1 pos n name off kids) (fun f=>((false,false),f)):=by
 intro xs S f hr hc
 cases hr with
 | mk _ _ _ _ _ kv _ hkv =>
 refine Do Tryz.f163 (by kernel_rfl) (by kernel_rfl) (by kernel_rfl) (by show (_:Nat) ≤ _;simp [Tryz.f163]) ?_
 have g1:=Cs S (exC 1 pos n name off kv)
 have k1:=Ct S (exC 1 pos n name off kv)
 have n1:(S.newBox (exC 1 pos n name off kv)).next=S.next + 1:=rfl
 generalize hS1:S.newBox (exC 1 pos n name off kv)=S1 at g1 k1 n1
 have al:=Te S1
 have g2:=Cs S1 (tyC (false,false))
 have q2:(S1.newBox (tyC (false,false))).mem.get S.next=_:=(Fs (by omega)).trans g1
 have k2:=k1.trans (Ct S1 (tyC (false,false)))
 have n2:(S1.newBox (tyC (false,false))).next=S.next + 1 + 1:=by show S1.next + 1=_; omega
 generalize hS2:S1.newBox (tyC (false,false))=S2 at g2 q2 k2 n2 al
 have hc2:=hc.keep k2
 have l3:Ch Tryz.prog S2 3 (.ptr S.next 0)=some (.v (.int .i64 ((1:Nat):Int))):=I2 q2
 have l30:Ch Tryz.prog S2 30 (.ptr S.next 0)=some (.agg (exC 1 pos n name off kv)):=ld30 q2 rfl
 have e2:(((1:Nat):Int) == 2)=false:=rfl
 have e3:(((1:Nat):Int) == 3)=false:=rfl
 have e4:(((1:Nat):Int) == 4)=false:=rfl
 have e5:(((1:Nat):Int) == 5)=false:=rfl
 have e6:(((1:Nat):Int) == 6)=false:=rfl
 have e7:(((1:Nat):Int) == 7)=false:=rfl
 have e8:(((1:Nat):Int) == 8)=false:=rfl
 have e9:(((1:Nat):Int) == 9)=false:=rfl
 have e10:(((1:Nat):Int) == 10)=false:=rfl
 have e11:(((1:Nat):Int) == 11)=false:=rfl
 have e12:(((1:Nat):Int) == 12)=false:=rfl
 have e13:(((1:Nat):Int) == 13)=false:=rfl
 have e14:(((1:Nat):Int) == 14)=false:=rfl
 have q4:=Yl g2 (false,false)
 obtain ⟨c4,k4⟩:=Cx.own (cs:=tyC (false,false)) hc hc2 (by omega:S.next ≤ S1.next) (k2.x s)
 have l4:=P6 (t:=(false,false)) (Eg S2 S1.next (tyC (false,false)))
 simp only [Bp,A6,Cj,Bk,Bo,Bs,Bw,A4,Br,Bh,A7,Be,Dm,Dy,Bd,Cg,A5,Bb,A9,Cb,A0,A1,ofOpt,ofOptS,Ba,Bv,Bt,Bj,Bu,Bf,Ci,Cc,Nat.reduceLT,Nat.reduceAdd,Nat.reduceEqDiff,Aa,Ab,Ac,Ae,Am,E3,Tryz.f163,B8,B9,hS1,al,l3,fe0,bl52e,bl52t,q4,l4,e2,e3,e4,e5,e6,e7,e8,e9,e10,e11,e12,e13,e14]
 exact ⟨_,rfl,c4,k4⟩
theorem expr_bool {s m:Nat} {mn:NdM} {names:List (List UInt8 × (Bool × Bool))} (pos:Nat) (n:Int) (name:List UInt8) (off:Bool) (kids:List PE):qU s m mn names (.mk 2 pos n name off kids) (fun f=>((true,false),f)):=by
 intro xs S f hr hc
 cases hr with
 | mk _ _ _ _ _ kv _ hkv =>
 refine Do Tryz.f163 (by kernel_rfl) (by kernel_rfl) (by kernel_rfl) (by show (_:Nat) ≤ _;simp [Tryz.f163]) ?_
 have g1:=Cs S (exC 2 pos n name off kv)
 have k1:=Ct S (exC 2 pos n name off kv)
 have n1:(S.newBox (exC 2 pos n name off kv)).next=S.next + 1:=rfl
 generalize hS1:S.newBox (exC 2 pos n name off kv)=S1 at g1 k1 n1
 have al:=Te S1
 have g2:=Cs S1 (tyC (false,false))
 have q2:(S1.newBox (tyC (false,false))).mem.get S.next=_:=(Fs (by omega)).trans g1
 have k2:=k1.trans (Ct S1 (tyC (false,false)))
 have n2:(S1.newBox (tyC (false,false))).next=S.next + 1 + 1:=by show S1.next + 1=_; omega
 generalize hS2:S1.newBox (tyC (false,false))=S2 at g2 q2 k2 n2 al
 have hc2:=hc.keep k2
 have l3:Ch Tryz.prog S2 3 (.ptr S.next 0)=some (.v (.int .i64 ((2:Nat):Int))):=I2 q2
 have l30:Ch Tryz.prog S2 30 (.ptr S.next 0)=some (.agg (exC 2 pos n name off kv)):=ld30 q2 rfl
 have e2:(((2:Nat):Int) == 2)=true:=rfl
 have e3:(((2:Nat):Int) == 3)=false:=rfl
 have e4:(((2:Nat):Int) == 4)=false:=rfl
 have e5:(((2:Nat):Int) == 5)=false:=rfl
 have e6:(((2:Nat):Int) == 6)=false:=rfl
 have e7:(((2:Nat):Int) == 7)=false:=rfl
 have e8:(((2:Nat):Int) == 8)=false:=rfl
 have e9:(((2:Nat):Int) == 9)=false:=rfl
 have e10:(((2:Nat):Int) == 10)=false:=rfl
 have e11:(((2:Nat):Int) == 11)=false:=rfl
 have e12:(((2:Nat):Int) == 12)=false:=rfl
 have e13:(((2:Nat):Int) == 13)=false:=rfl
 have e14:(((2:Nat):Int) == 14)=false:=rfl
 have q4:=Yl g2 (true,false)
 obtain ⟨c4,k4⟩:=Cx.own (cs:=tyC (true,false)) hc hc2 (by omega:S.next ≤ S1.next) (k2.x s)
 have l4:=P6 (t:=(true,false)) (Eg S2 S1.next (tyC (true,false)))
 simp only [Bp,A6,Cj,Bk,Bo,Bs,Bw,A4,B1,Br,B0,Bh,A7,Be,Dm,Dy,Bd,Cf,Cg,A5,Bb,A9,Cb,A0,A1,ofOpt,ofOptS,Ba,Bv,Bt,Bj,Bu,Bf,Ci,Cc,Nat.reduceLT,Nat.reduceAdd,Nat.reduceEqDiff,Aa,Ab,Ac,Ae,Am,E3,Tryz.f163,B8,B9,hS1,al,l3,fe0,bl52e,bl52t,q4,l4,e2,e3,e4,e5,e6,e7,e8,e9,e10,e11,e12,e13,e14]
 exact ⟨_,rfl,c4,k4⟩
def AwaitA (s m:Nat) (mn:NdM) (names:List (List UInt8 × (Bool × Bool))) (xs:List AV) (res:Nat × Nat → (Bool × Bool) × (Nat × Nat)):Prop:=∀ (S:St) (f:Nat × Nat),Cx s m mn names S f → WC E9 193 [.ptr s 0,.agg xs] S (fun r=>∃ S',r=.ret (tyA (res f).1) S' ∧ Cx s m mn names S' (res f).2 ∧ D9 s S S')
theorem expr_await {s m:Nat} {mn:NdM} {names:List (List UInt8 × (Bool × Bool))} (pos:Nat) (n:Int) (name:List UInt8) (off:Bool) (kids:List PE) (res:Nat × Nat → (Bool × Bool) × (Nat × Nat)) (ha:∀ xs,RepE (.agg xs) (.mk 14 pos n name off kids) → AwaitA s m mn names xs res):qU s m mn names (.mk 14 pos n name off kids) res:=by
 intro xs S f hr hc
 cases hr with
 | mk _ _ _ _ _ kv _ hkv =>
 refine Do Tryz.f163 (by kernel_rfl) (by kernel_rfl) (by kernel_rfl) (by show (_:Nat) ≤ _;simp [Tryz.f163]) ?_
 have g1:=Cs S (exC 14 pos n name off kv)
 have k1:=Ct S (exC 14 pos n name off kv)
 have n1:(S.newBox (exC 14 pos n name off kv)).next=S.next + 1:=rfl
 generalize hS1:S.newBox (exC 14 pos n name off kv)=S1 at g1 k1 n1
 have al:=Te S1
 have g2:=Cs S1 (tyC (false,false))
 have q2:(S1.newBox (tyC (false,false))).mem.get S.next=_:=(Fs (by omega)).trans g1
 have k2:=k1.trans (Ct S1 (tyC (false,false)))
 have n2:(S1.newBox (tyC (false,false))).next=S.next + 1 + 1:=by show S1.next + 1=_; omega
 generalize hS2:S1.newBox (tyC (false,false))=S2 at g2 q2 k2 n2 al
 have hc2:=hc.keep k2
 have l3:Ch Tryz.prog S2 3 (.ptr S.next 0)=some (.v (.int .i64 ((14:Nat):Int))):=I2 q2
 have l30:Ch Tryz.prog S2 30 (.ptr S.next 0)=some (.agg (exC 14 pos n name off kv)):=ld30 q2 rfl
 have e2:(((14:Nat):Int) == 2)=false:=rfl
 have e3:(((14:Nat):Int) == 3)=false:=rfl
 have e4:(((14:Nat):Int) == 4)=false:=rfl
 have e5:(((14:Nat):Int) == 5)=false:=rfl
 have e6:(((14:Nat):Int) == 6)=false:=rfl
 have e7:(((14:Nat):Int) == 7)=false:=rfl
 have e8:(((14:Nat):Int) == 8)=false:=rfl
 have e9:(((14:Nat):Int) == 9)=false:=rfl
 have e10:(((14:Nat):Int) == 10)=false:=rfl
 have e11:(((14:Nat):Int) == 11)=false:=rfl
 have e12:(((14:Nat):Int) == 12)=false:=rfl
 have e13:(((14:Nat):Int) == 13)=false:=rfl
 have e14:(((14:Nat):Int) == 14)=true:=rfl
 obtain ⟨fn1,hf193⟩:=fng_193
 simp only [Bp,A6,Cj,Bk,Bo,Bs,A4,Br,Bh,A7,Be,B3,Bd,Cf,Cg,A5,Bb,A9,Cb,A0,A1,Bn,B4,ofOpt,ofOptS,Ba,Bv,Bt,Cc,Nat.reduceLT,Nat.reduceAdd,Nat.reduceEqDiff,Aa,Ab,Ac,Ae,Aj,Ak,Am,E3,Tryz.f163,B8,B9,hS1,al,l3,l30,fe0,hf193,e2,e3,e4,e5,e6,e7,e8,e9,e10,e11,e12,e13,e14]
 refine WC.mono (ha _ (.mk _ _ _ _ _ _ _ hkv) S2 f hc2) ?_
 rintro _ ⟨S3,rfl,c3,k3⟩
 have hlt:=hc.g.lt
 have g3:S3.mem.get S1.next=some (.box (tyC (false,false))):=(k3.2 S1.next (by omega) (by omega)).trans g2
 have q4:=Yl g3 (res f).1
 obtain ⟨c4,k4⟩:=Cx.own (cs:=tyC (res f).1) hc c3 (by omega:S.next ≤ S1.next) ((k2.x s).trans k3)
 have l4:=P6 (t:=(res f).1) (Eg S3 S1.next (tyC (res f).1))
 simp only [Bw,A4,B1,B0,Bh,A7,Dm,Dy,Bd,Cn,A5,Bb,A9,A0,A1,Bj,Bu,Bf,Ci,Nat.reduceLT,Nat.reduceEqDiff,Aa,Ab,Ac,E3,q4,l4]
 exact ⟨_,rfl,c4,k4⟩
theorem xY (f:T AV) (S:St) (dst:Option Tmp) (k:Tmp) (ty:TypeId) (pos:String) (af:Array Edge) (gd:Option (Nat × Bool)) :
  ground Tryz.prog G7 f S { dst:=dst,op:=.unOp .not 4 (.tmp k),type:=ty,pos:=pos,after:=af,guard:=gd }=notO (groundX Tryz.prog G7 f S { dst:=dst,op:=.unOp .not 4 (.tmp k),type:=ty,pos:=pos,after:=af,guard:=gd }) S (f.get k):=by
 unfold notO
 split
 ·rename_i b h
  have hg:Db G7 f (.tmp k)=some (.bool b):=by unfold Db; simp only [A9,h]; rfl
  unfold ground
  simp only [Op.operands,List.all_cons,List.all_nil,hg,Option.isSome_some,Bool.and_self,Aa]
  have e:execOp (fun x=>(Db G7 f x).getD undef) { dst:=dst,op:=.unOp .not 4 (.tmp k),type:=ty,pos:=pos,after:=af,guard:=gd }=execOp (fun _=>.bool b) { dst:=dst,op:=.unOp .not 4 (.tmp k),type:=ty,pos:=pos,after:=af,guard:=gd }:=by
   simp only [execOp,hg,Ae]
  rw [e]
  cases b <;> rfl
 ·rfl
theorem zN (m:Nat):Ga (.map m) (.map m)=true:=beq_self_eq_true m
theorem aA (t:Bool × Bool):Ga (tyA t) (tyA t)=true:=by obtain ⟨a,b⟩:=t; cases a <;> cases b <;> rfl
def tZ (names:List (List UInt8 × (Bool × Bool))) (Ty:PE → Nat × Nat → (Bool × Bool) × (Nat × Nat)) (pos:Nat) (name:List UInt8) (kids:List PE) (f:Nat × Nat):(Bool × Bool) × (Nat × Nat) :=
 (((I8 names name).1,false),Sk Ty ((I8 names name).1,false) kids (Jm (decide (kids.length > 8)) pos 3 (Jm (!(I8 names name).2) pos 7 f)))
theorem awaitT_w {s m:Nat} {mn:NdM} {names:List (List UInt8 × (Bool × Bool))} {Ty:PE → Nat × Nat → (Bool × Bool) × (Nat × Nat)} (pos:Nat) (n:Int) (name:List UInt8) (off:Bool) (kids:List PE) (hT:∀ e ∈ kids,dV s m mn names Ty e) (hl:kids.length ≤ 1000) (xs:List AV) (hx:RepE (.agg xs) (.mk 14 pos n name off kids)):AwaitA s m mn names xs (tZ names Ty pos name kids):=by
 intro S f hc
 cases hx with
 | mk _ _ _ _ _ kv _ hkv =>
 refine Do Tryz.f193 (by kernel_rfl) (by kernel_rfl) (by kernel_rfl) (by show (_:Nat) ≤ _;simp [Tryz.f193]) ?_
 obtain ⟨fn1,hf104⟩:=Rk
 obtain ⟨fn2,hf189⟩:=fng_189
 have g1:=Cs S (exC 14 pos n name off kv)
 have k1:=Ct S (exC 14 pos n name off kv)
 have n1:(S.newBox (exC 14 pos n name off kv)).next=S.next + 1:=rfl
 generalize hS1:S.newBox (exC 14 pos n name off kv)=S1 at g1 k1 n1
 have al:=Te S1
 have g2:=Cs S1 (tyC (false,false))
 have q2:(S1.newBox (tyC (false,false))).mem.get S.next=_:=(Fs (by omega)).trans g1
 have k2:=k1.trans (Ct S1 (tyC (false,false)))
 have n2:(S1.newBox (tyC (false,false))).next=S.next + 1 + 1:=by show S1.next + 1=_; omega
 generalize hS2:S1.newBox (tyC (false,false))=S2 at g2 q2 k2 n2 al
 have hc2:=hc.keep k2
 have hlt:=hc.g.lt
 have hlm:=hc.lt
 have lm:Ch Tryz.prog S2 123 (.ptr s 1)=some (.map m):=by rw [Xy,hc2.g.box]; rfl
 have ln:Ch Tryz.prog S2 9 (.ptr S.next 3)=some (.v (.string ⟨⟨name⟩⟩)):=by rw [bF,q2]; rfl
 have lk:Ia Tryz.prog S2 123 (.map m) (.v (.string ⟨⟨name⟩⟩)) false=some (tyA (I8 names name)):=Ri hc2.mp name
 unfold tZ
 generalize I8 names name=ty at lk ⊢
 have al2:=Te S2
 have a3:=Cs S2 (tyC (false,false))
 have k3:=k2.trans (Ct S2 (tyC (false,false)))
 have p3:(S2.newBox (tyC (false,false))).mem.get S.next=_:=(Fs (by omega)).trans q2
 have o3:(S2.newBox (tyC (false,false))).mem.get S1.next=_:=(Fs (by omega)).trans g2
 have n3:(S2.newBox (tyC (false,false))).next=S.next + 1 + 1 + 1:=by show S2.next + 1=_; omega
 generalize hS3:S2.newBox (tyC (false,false))=S3 at a3 k3 p3 o3 n3 al2
 have hc3:=hc.keep k3
 have lm3:Ch Tryz.prog S3 123 (.ptr s 1)=some (.map m):=by rw [Xy,hc3.g.box]; rfl
 have ln3:Ch Tryz.prog S3 9 (.ptr S.next 3)=some (.v (.string ⟨⟨name⟩⟩)):=by rw [bF,p3]; rfl
 have lk3:Ia Tryz.prog S3 123 (.map m) (.v (.string ⟨⟨name⟩⟩)) false=Ia Tryz.prog S2 123 (.map m) (.v (.string ⟨⟨name⟩⟩)) false:=by
  rw [Ri hc3.mp name,Ri hc2.mp name]
 rw [lk] at lk3
 have q4:=Yl a3 ty
 have a4:=Eg S3 S2.next (tyC ty)
 have k4:Em S (S3.put S2.next (tyC ty)):=En k3 (by omega) _
 have p4:(S3.put S2.next (tyC ty)).mem.get S.next=_:=(Eo (by omega)).trans p3
 have o4:(S3.put S2.next (tyC ty)).mem.get S1.next=_:=(Eo (by omega)).trans o3
 have n4:(S3.put S2.next (tyC ty)).next=S.next + 1 + 1 + 1:=n3
 generalize hS4:S3.put S2.next (tyC ty)=S4 at q4 a4 k4 p4 o4 n4
 have hc4:=hc.keep k4
 simp only [A6,Cj,Bk,A4,Bh,A7,Be,Bd,A5,Bb,A9,Cb,A0,A1,ofOptS,Nat.reduceLT,Nat.reduceAdd,Nat.reduceEqDiff,Aa,Ab,Ac,Ae,E3,Tryz.f193,B8,B9,hS1,al]
 refine Gy [(0,true),(1,true),(2,true),(3,true),(4,true),(5,true),(6,true),(7,true),(6,false),(5,false),(3,false),(8,true)] (by kernel_rfl) (by kernel_rfl) ?_
 simp only [A6,Bk,A4,A7,Be,Bd,A5,Bb,A9,A0,A1,ofOpt,ofOptS,Nat.reduceLT,Nat.reduceEqDiff,Aa,Ab,Ac,Af,Ag,Ah,Am,E3,Rm,fe3,lm,ln,lk,al2,lm3,ln3,lk3,zN,aA,q4,Eu,Dx,Hj,C8,Vr,Vc,Co,Ed,Gz,Eb,Es,G4]
 have lf:Ch Tryz.prog S4 4 (.ptr S2.next 1)=some (.v (.bool ty.2)):=by rw [sP,a4]; rfl
 have lp4:Ch Tryz.prog S4 3 (.ptr S.next 1)=some (.v (.int .i64 (pos:Int))):=by rw [mJ,p4]; rfl
 simp only [A7,Be,B3,Bd,A5,Bb,A9,A0,A1,Bn,B4,ofOpt,Ba,C5,Nat.reduceLT,Nat.reduceEqDiff,Aa,Ab,Ac,Aj,Ak,E3,O5,fa52_1,fe1,lf,lp4,hf104,xY]
 refine WC.mono (Tj hc4.g (!ty.2) pos 7) ?_
 rintro _ ⟨S5,rfl,hg5,x5,n5⟩
 have hc5:=hc4.x x5 hg5
 have k5:=(k4.x s).trans x5
 have a5:S5.mem.get S2.next=_:=(x5.2 S2.next (by omega) (by omega)).trans a4
 have p5:S5.mem.get S.next=_:=(x5.2 S.next (by omega) (by omega)).trans p4
 have o5:S5.mem.get S1.next=_:=(x5.2 S1.next (by omega) (by omega)).trans o4
 have lk5:Ch Tryz.prog S5 28 (.ptr S.next 5)=some kv:=lx28 p5
 have len5:=len28r S5 hkv
 have lp5:Ch Tryz.prog S5 3 (.ptr S.next 1)=some (.v (.int .i64 (pos:Int))):=by rw [mJ,p5]; rfl
 have hgt:decide ((kids.length:Int) > 8)=decide (kids.length > 8):=by
  by_cases h:kids.length > 8
  ·rw [decide_eq_true h,decide_eq_true (by omega)]
  ·rw [decide_eq_false h,decide_eq_false (by omega)]
 simp only [A6,Bk,A4,Bh,A7,Be,B3,Bd,Cn,A5,Bb,A9,A0,A1,Bn,B4,ofOpt,Ba,Bt,Dz,Nat.reduceLT,Nat.reduceEqDiff,Aa,Ab,Ac,Aj,Ak,Am,E3,fe1,fe5,lk5,len5,hgt,lp5,hf104]
 refine WC.mono (Tj hg5 (decide (kids.length > 8)) pos 3) ?_
 rintro _ ⟨S6,rfl,hg6,x6,n6⟩
 have hc6:=hc5.x x6 hg6
 have k6:=k5.trans x6
 have a6:S6.mem.get S2.next=_:=(x6.2 S2.next (by omega) (by omega)).trans a5
 have p6:S6.mem.get S.next=_:=(x6.2 S.next (by omega) (by omega)).trans p5
 have o6:S6.mem.get S1.next=_:=(x6.2 S1.next (by omega) (by omega)).trans o5
 have lf6:Ch Tryz.prog S6 4 (.ptr S2.next 0)=some (.v (.bool ty.1)):=by rw [sP,a6]; rfl
 have lk6:Ch Tryz.prog S6 28 (.ptr S.next 5)=some kv:=lx28 p6
 have hb:Gj Tryz.prog 52 [(0,.v (.bool ty.1))]=some (tyA (ty.1,false)):=bl52 ty.1
 simp only [A6,Bk,A4,Bh,A7,Be,B3,Bd,Cn,A5,Bb,A9,A0,A1,Bn,B4,ofOpt,Bv,Nat.reduceLT,Nat.reduceEqDiff,Aa,Ab,Ac,Aj,Ak,E3,fa52_0,fe5,lf6,lk6,hb,hf189]
 refine WC.mono (must_w kids hkv hT (by omega) (ty.1,false) S6 _ hc6) ?_
 rintro _ ⟨S7,rfl,hc7,x7⟩
 have o7:S7.mem.get S1.next=some (.box (tyC (false,false))):=(x7.2 S1.next (by omega) (by omega)).trans o6
 have q7:=Yl o7 (ty.1,false)
 obtain ⟨c8,k8⟩:=Cx.own (cs:=tyC (ty.1,false)) hc hc7 (by omega:S.next ≤ S1.next) (k6.trans x7)
 have l8:=P6 (t:=(ty.1,false)) (Eg S7 S1.next (tyC (ty.1,false)))
 simp only [Bw,A4,Bh,A7,Dm,Dy,Bd,Cn,A5,Bb,A9,A0,A1,Bj,Bu,Bf,Ci,Nat.reduceLT,Nat.reduceEqDiff,Aa,Ab,Ac,E3,q7,l8]
 exact ⟨_,rfl,c8,k8⟩
def CallA (g s m:Nat) (mn:NdM) (names:List (List UInt8 × (Bool × Bool))) (xs:List AV) (res:Nat × Nat → (Bool × Bool) × (Nat × Nat)):Prop:=∀ (S:St) (f:Nat × Nat),Cx s m mn names S f → WC E9 g [.ptr s 0,.agg xs] S (fun r=>∃ S',r=.ret (tyA (res f).1) S' ∧ Cx s m mn names S' (res f).2 ∧ D9 s S S')
theorem expr_bin {s m:Nat} {mn:NdM} {names:List (List UInt8 × (Bool × Bool))} (pos:Nat) (n:Int) (name:List UInt8) (off:Bool) (kids:List PE) (res:Nat × Nat → (Bool × Bool) × (Nat × Nat)) (ha:∀ xs,RepE (.agg xs) (.mk 6 pos n name off kids) → CallA 190 s m mn names xs res):qU s m mn names (.mk 6 pos n name off kids) res:=by
 intro xs S f hr hc
 cases hr with
 | mk _ _ _ _ _ kv _ hkv =>
 refine Do Tryz.f163 (by kernel_rfl) (by kernel_rfl) (by kernel_rfl) (by show (_:Nat) ≤ _;simp [Tryz.f163]) ?_
 have g1:=Cs S (exC 6 pos n name off kv)
 have k1:=Ct S (exC 6 pos n name off kv)
 have n1:(S.newBox (exC 6 pos n name off kv)).next=S.next + 1:=rfl
 generalize hS1:S.newBox (exC 6 pos n name off kv)=S1 at g1 k1 n1
 have al:=Te S1
 have g2:=Cs S1 (tyC (false,false))
 have q2:(S1.newBox (tyC (false,false))).mem.get S.next=_:=(Fs (by omega)).trans g1
 have k2:=k1.trans (Ct S1 (tyC (false,false)))
 have n2:(S1.newBox (tyC (false,false))).next=S.next + 1 + 1:=by show S1.next + 1=_; omega
 generalize hS2:S1.newBox (tyC (false,false))=S2 at g2 q2 k2 n2 al
 have hc2:=hc.keep k2
 have l3:Ch Tryz.prog S2 3 (.ptr S.next 0)=some (.v (.int .i64 ((6:Nat):Int))):=I2 q2
 have l30:Ch Tryz.prog S2 30 (.ptr S.next 0)=some (.agg (exC 6 pos n name off kv)):=ld30 q2 rfl
 have e2:(((6:Nat):Int) == 2)=false:=rfl
 have e3:(((6:Nat):Int) == 3)=false:=rfl
 have e4:(((6:Nat):Int) == 4)=false:=rfl
 have e5:(((6:Nat):Int) == 5)=false:=rfl
 have e6:(((6:Nat):Int) == 6)=true:=rfl
 have e7:(((6:Nat):Int) == 7)=false:=rfl
 have e8:(((6:Nat):Int) == 8)=false:=rfl
 have e9:(((6:Nat):Int) == 9)=false:=rfl
 have e10:(((6:Nat):Int) == 10)=false:=rfl
 have e11:(((6:Nat):Int) == 11)=false:=rfl
 have e12:(((6:Nat):Int) == 12)=false:=rfl
 have e13:(((6:Nat):Int) == 13)=false:=rfl
 have e14:(((6:Nat):Int) == 14)=false:=rfl
 obtain ⟨fn1,hfg⟩:=fng_190
 simp only [Bp,A6,Cj,Bk,Bo,Bs,A4,Br,Bh,A7,Be,B3,Bd,Cf,Cg,A5,Bb,A9,Cb,A0,A1,Bn,B4,ofOpt,ofOptS,Ba,Bv,Bt,Cc,Nat.reduceLT,Nat.reduceAdd,Nat.reduceEqDiff,Aa,Ab,Ac,Ae,Aj,Ak,Am,E3,Tryz.f163,B8,B9,hS1,al,l3,l30,fe0,hfg,e2,e3,e4,e5,e6,e7,e8,e9,e10,e11,e12,e13,e14]
 refine WC.mono (ha _ (.mk _ _ _ _ _ _ _ hkv) S2 f hc2) ?_
 rintro _ ⟨S3,rfl,c3,k3⟩
 have hlt:=hc.g.lt
 have g3:S3.mem.get S1.next=some (.box (tyC (false,false))):=(k3.2 S1.next (by omega) (by omega)).trans g2
 have q4:=Yl g3 (res f).1
 obtain ⟨c4,k4⟩:=Cx.own (cs:=tyC (res f).1) hc c3 (by omega:S.next ≤ S1.next) ((k2.x s).trans k3)
 have l4:=P6 (t:=(res f).1) (Eg S3 S1.next (tyC (res f).1))
 simp only [Bw,A4,B1,B0,Bh,A7,Dm,Dy,Bd,Cn,A5,Bb,A9,A0,A1,Bj,Bu,Bf,Ci,Nat.reduceLT,Nat.reduceEqDiff,Aa,Ab,Ac,E3,q4,l4]
 exact ⟨_,rfl,c4,k4⟩
theorem expr_call {s m:Nat} {mn:NdM} {names:List (List UInt8 × (Bool × Bool))} (pos:Nat) (n:Int) (name:List UInt8) (off:Bool) (kids:List PE) (res:Nat × Nat → (Bool × Bool) × (Nat × Nat)) (ha:∀ xs,RepE (.agg xs) (.mk 13 pos n name off kids) → CallA 192 s m mn names xs res):qU s m mn names (.mk 13 pos n name off kids) res:=by
 intro xs S f hr hc
 cases hr with
 | mk _ _ _ _ _ kv _ hkv =>
 refine Do Tryz.f163 (by kernel_rfl) (by kernel_rfl) (by kernel_rfl) (by show (_:Nat) ≤ _;simp [Tryz.f163]) ?_
 have g1:=Cs S (exC 13 pos n name off kv)
 have k1:=Ct S (exC 13 pos n name off kv)
 have n1:(S.newBox (exC 13 pos n name off kv)).next=S.next + 1:=rfl
 generalize hS1:S.newBox (exC 13 pos n name off kv)=S1 at g1 k1 n1
 have al:=Te S1
 have g2:=Cs S1 (tyC (false,false))
 have q2:(S1.newBox (tyC (false,false))).mem.get S.next=_:=(Fs (by omega)).trans g1
 have k2:=k1.trans (Ct S1 (tyC (false,false)))
 have n2:(S1.newBox (tyC (false,false))).next=S.next + 1 + 1:=by show S1.next + 1=_; omega
 generalize hS2:S1.newBox (tyC (false,false))=S2 at g2 q2 k2 n2 al
 have hc2:=hc.keep k2
 have l3:Ch Tryz.prog S2 3 (.ptr S.next 0)=some (.v (.int .i64 ((13:Nat):Int))):=I2 q2
 have l30:Ch Tryz.prog S2 30 (.ptr S.next 0)=some (.agg (exC 13 pos n name off kv)):=ld30 q2 rfl
 have e2:(((13:Nat):Int) == 2)=false:=rfl
 have e3:(((13:Nat):Int) == 3)=false:=rfl
 have e4:(((13:Nat):Int) == 4)=false:=rfl
 have e5:(((13:Nat):Int) == 5)=false:=rfl
 have e6:(((13:Nat):Int) == 6)=false:=rfl
 have e7:(((13:Nat):Int) == 7)=false:=rfl
 have e8:(((13:Nat):Int) == 8)=false:=rfl
 have e9:(((13:Nat):Int) == 9)=false:=rfl
 have e10:(((13:Nat):Int) == 10)=false:=rfl
 have e11:(((13:Nat):Int) == 11)=false:=rfl
 have e12:(((13:Nat):Int) == 12)=false:=rfl
 have e13:(((13:Nat):Int) == 13)=true:=rfl
 have e14:(((13:Nat):Int) == 14)=false:=rfl
 obtain ⟨fn1,hfg⟩:=fng_192
 simp only [Bp,A6,Cj,Bk,Bo,Bs,A4,Br,Bh,A7,Be,B3,Bd,Cf,Cg,A5,Bb,A9,Cb,A0,A1,Bn,B4,ofOpt,ofOptS,Ba,Bv,Bt,Cc,Nat.reduceLT,Nat.reduceAdd,Nat.reduceEqDiff,Aa,Ab,Ac,Ae,Aj,Ak,Am,E3,Tryz.f163,B8,B9,hS1,al,l3,l30,fe0,hfg,e2,e3,e4,e5,e6,e7,e8,e9,e10,e11,e12,e13,e14]
 refine WC.mono (ha _ (.mk _ _ _ _ _ _ _ hkv) S2 f hc2) ?_
 rintro _ ⟨S3,rfl,c3,k3⟩
 have hlt:=hc.g.lt
 have g3:S3.mem.get S1.next=some (.box (tyC (false,false))):=(k3.2 S1.next (by omega) (by omega)).trans g2
 have q4:=Yl g3 (res f).1
 obtain ⟨c4,k4⟩:=Cx.own (cs:=tyC (res f).1) hc c3 (by omega:S.next ≤ S1.next) ((k2.x s).trans k3)
 have l4:=P6 (t:=(res f).1) (Eg S3 S1.next (tyC (res f).1))
 simp only [Bw,A4,B1,B0,Bh,A7,Dm,Dy,Bd,Cn,A5,Bb,A9,A0,A1,Bj,Bu,Bf,Ci,Nat.reduceLT,Nat.reduceEqDiff,Aa,Ab,Ac,E3,q4,l4]
 exact ⟨_,rfl,c4,k4⟩
theorem less_w {s m:Nat} {mn:NdM} {names:List (List UInt8 × (Bool × Bool))} {Ty:PE → Nat × Nat → (Bool × Bool) × (Nat × Nat)} (pos:Nat) (n:Int) (off:Bool) (kids:List PE) (hT:∀ e ∈ kids,dV s m mn names Ty e) (hl:kids.length ≤ 1000) (xs:List AV) (hx:RepE (.agg xs) (.mk 6 pos n [60] off kids)):CallA 190 s m mn names xs (fun f=>((true,false),Sk Ty (false,false) kids f)):=by
 intro S f hc
 cases hx with
 | mk _ _ _ _ _ kv _ hkv =>
 refine Do Tryz.f190 (by kernel_rfl) (by kernel_rfl) (by kernel_rfl) (by show (_:Nat) ≤ _;simp [Tryz.f190]) ?_
 obtain ⟨fn2,hf189⟩:=fng_189
 have g1:=Cs S (exC 6 pos n [60] off kv)
 have k1:=Ct S (exC 6 pos n [60] off kv)
 have n1:(S.newBox (exC 6 pos n [60] off kv)).next=S.next + 1:=rfl
 generalize hS1:S.newBox (exC 6 pos n [60] off kv)=S1 at g1 k1 n1
 have al:=Te S1
 have g2:=Cs S1 (tyC (false,false))
 have q2:(S1.newBox (tyC (false,false))).mem.get S.next=_:=(Fs (by omega)).trans g1
 have k2:=k1.trans (Ct S1 (tyC (false,false)))
 have n2:(S1.newBox (tyC (false,false))).next=S.next + 1 + 1:=by show S1.next + 1=_; omega
 generalize hS2:S1.newBox (tyC (false,false))=S2 at g2 q2 k2 n2 al
 have hc2:=hc.keep k2
 have l3:Ch Tryz.prog S2 3 (.ptr S.next 0)=some (.v (.int .i64 ((6:Nat):Int))):=I2 q2
 have l30:Ch Tryz.prog S2 30 (.ptr S.next 0)=some (.agg (exC 6 pos n [60] off kv)):=ld30 q2 rfl
 have ln:Ch Tryz.prog S2 9 (.ptr S.next 3)=some (.v (.string ⟨⟨[60]⟩⟩)):=by rw [bF,q2]; rfl
 have lkv:Ch Tryz.prog S2 28 (.ptr S.next 5)=some kv:=lx28 q2
 simp only [Bp,A6,Bk,Bo,Bs,A4,Br,Bh,A7,Be,B3,Bd,Cf,A5,Bb,A9,Cb,A0,A1,Bn,B4,ofOpt,ofOptS,Ba,Bv,Nat.reduceLT,Nat.reduceAdd,Nat.reduceEqDiff,Aa,Ab,Ac,Ae,Aj,Ak,Am,Ap,E3,Gv,Cz,Tryz.f190,B8,B9,hS1,al,fe3,fe5,ln,lkv,bl52e,hf189]
 refine WC.mono (must_w kids hkv hT (by omega) (false,false) S2 f hc2) ?_
 rintro _ ⟨S3,rfl,c3,k3⟩
 have hlt:=hc.g.lt
 have g3:S3.mem.get S1.next=some (.box (tyC (false,false))):=(k3.2 S1.next (by omega) (by omega)).trans g2
 have q4:=Yl g3 (true,false)
 obtain ⟨c4,k4⟩:=Cx.own (cs:=tyC (true,false)) hc c3 (by omega:S.next ≤ S1.next) ((k2.x s).trans k3)
 have l4:=P6 (t:=(true,false)) (Eg S3 S1.next (tyC (true,false)))
 simp only [A6,Bk,Bw,A4,B1,B0,Bh,A7,Be,Dm,Dy,Bd,Cn,A5,Bb,A9,A0,A1,ofOpt,Ba,Bv,Bj,Bu,Bf,Ci,Nat.reduceLT,Nat.reduceEqDiff,Aa,Ab,Ac,E3,bl52t,q4,l4]
 exact ⟨_,rfl,c4,k4⟩
theorem fld52 (t:Bool × Bool):Ny Tryz.prog 52 (tyA t) 1=some (.v (.bool t.2)):=by kernel_rfl
theorem expr_var {s m:Nat} {mn:NdM} {names:List (List UInt8 × (Bool × Bool))} (pos:Nat) (n:Int) (name:List UInt8) (off:Bool) (kids:List PE):qU s m mn names (.mk 3 pos n name off kids) (fun f=>(I8 names name,Jm (I8 names name).2 pos 7 f)):=by
 intro xs S f hr hc
 cases hr with
 | mk _ _ _ _ _ kv _ hkv =>
 refine Do Tryz.f163 (by kernel_rfl) (by kernel_rfl) (by kernel_rfl) (by show (_:Nat) ≤ _;simp [Tryz.f163]) ?_
 have g1:=Cs S (exC 3 pos n name off kv)
 have k1:=Ct S (exC 3 pos n name off kv)
 have n1:(S.newBox (exC 3 pos n name off kv)).next=S.next + 1:=rfl
 generalize hS1:S.newBox (exC 3 pos n name off kv)=S1 at g1 k1 n1
 have al:=Te S1
 have g2:=Cs S1 (tyC (false,false))
 have q2:(S1.newBox (tyC (false,false))).mem.get S.next=_:=(Fs (by omega)).trans g1
 have k2:=k1.trans (Ct S1 (tyC (false,false)))
 have n2:(S1.newBox (tyC (false,false))).next=S.next + 1 + 1:=by show S1.next + 1=_; omega
 generalize hS2:S1.newBox (tyC (false,false))=S2 at g2 q2 k2 n2 al
 have hc2:=hc.keep k2
 have l3:Ch Tryz.prog S2 3 (.ptr S.next 0)=some (.v (.int .i64 ((3:Nat):Int))):=I2 q2
 have l30:Ch Tryz.prog S2 30 (.ptr S.next 0)=some (.agg (exC 3 pos n name off kv)):=ld30 q2 rfl
 have e2:(((3:Nat):Int) == 2)=false:=rfl
 have e3:(((3:Nat):Int) == 3)=true:=rfl
 have e4:(((3:Nat):Int) == 4)=false:=rfl
 have e5:(((3:Nat):Int) == 5)=false:=rfl
 have e6:(((3:Nat):Int) == 6)=false:=rfl
 have e7:(((3:Nat):Int) == 7)=false:=rfl
 have e8:(((3:Nat):Int) == 8)=false:=rfl
 have e9:(((3:Nat):Int) == 9)=false:=rfl
 have e10:(((3:Nat):Int) == 10)=false:=rfl
 have e11:(((3:Nat):Int) == 11)=false:=rfl
 have e12:(((3:Nat):Int) == 12)=false:=rfl
 have e13:(((3:Nat):Int) == 13)=false:=rfl
 have e14:(((3:Nat):Int) == 14)=false:=rfl
 obtain ⟨fn1,hf104⟩:=Rk
 have hlt:=hc.g.lt
 have lm:Ch Tryz.prog S2 123 (.ptr s 1)=some (.map m):=by rw [Xy,hc2.g.box]; rfl
 have ln:Ch Tryz.prog S2 9 (.ptr S.next 3)=some (.v (.string ⟨⟨name⟩⟩)):=by rw [bF,q2]; rfl
 have lk:Ia Tryz.prog S2 123 (.map m) (.v (.string ⟨⟨name⟩⟩)) false=some (tyA (I8 names name)):=Ri hc2.mp name
 have lp:Ch Tryz.prog S2 3 (.ptr S.next 1)=some (.v (.int .i64 (pos:Int))):=by rw [mJ,q2]; rfl
 simp only [Bp,A6,Cj,Bk,Bo,Bs,A4,Br,Bh,A7,Be,Bd,Cf,Cg,A5,Bb,A9,Cb,A0,A1,ofOpt,ofOptS,Ba,Bv,Bt,Cc,Nat.reduceLT,Nat.reduceAdd,Nat.reduceEqDiff,Aa,Ab,Ac,Ae,Am,E3,Tryz.f163,B8,B9,hS1,al,l3,fe0,e2,e3,e4,e5,e6,e7,e8,e9,e10,e11,e12,e13,e14]
 refine Gy [(0,true),(1,true),(2,true),(3,true),(4,true),(5,true),(6,true),(7,true),(8,true),(9,true),(10,true),(11,true)] (by kernel_rfl) (by kernel_rfl) ?_
 simp only [A5,Bb,A9,A0,A1,Bn,B4,ofOpt,Ba,Nat.reduceLT,Nat.reduceEqDiff,Aa,Ab,Ac,Af,Ag,Ah,Aj,Ak,E3,Rm,fe3,fe1,lm,ln,lk,lp,fld52,hf104,Dx,C8,Dk,Co,Gz]
 refine WC.mono (Tj hc2.g (I8 names name).2 pos 7) ?_
 rintro _ ⟨S3,rfl,hg3,k3,n3⟩
 have c3:=hc2.x k3 hg3
 have g3:S3.mem.get S1.next=some (.box (tyC (false,false))):=(k3.2 S1.next (by omega) (by omega)).trans g2
 have p3:S3.mem.get S.next=_:=(k3.2 S.next (by omega) (by omega)).trans q2
 have lm3:Ch Tryz.prog S3 123 (.ptr s 1)=some (.map m):=by rw [Xy,c3.g.box]; rfl
 have ln3:Ch Tryz.prog S3 9 (.ptr S.next 3)=some (.v (.string ⟨⟨name⟩⟩)):=by rw [bF,p3]; rfl
 have lk3:Ia Tryz.prog S3 123 (.map m) (.v (.string ⟨⟨name⟩⟩)) false=some (tyA (I8 names name)):=Ri c3.mp name
 have q4:=Yl g3 (I8 names name)
 obtain ⟨c4,k4⟩:=Cx.own (cs:=tyC (I8 names name)) hc c3 (by omega:S.next ≤ S1.next) ((k2.x s).trans k3)
 have l4:=P6 (t:=I8 names name) (Eg S3 S1.next (tyC (I8 names name)))
 simp only [Cj,Bk,A4,Nat.reduceLT,Ac,Eu,Co,D6,Ed]
 refine Gy [(0,true),(1,true),(2,true),(3,true),(4,true),(5,true),(6,true),(7,true)] (by kernel_rfl) (by kernel_rfl) ?_
 simp only [Bw,A4,B1,B0,A5,Bb,A9,A0,A1,ofOpt,Bj,Bu,Bf,Ci,Nat.reduceLT,Nat.reduceEqDiff,Aa,Ab,Ac,Af,Ag,Ah,E3,Rm,fe3,lm3,ln3,lk3,q4,l4,Eu,Dx,C8,Vr,Vc,Co,Ed,Gz]
 exact ⟨_,rfl,c4,k4⟩
theorem handed_w {s m:Nat} {mn:NdM} {names:List (List UInt8 × (Bool × Bool))} (pos:Nat) (n:Int) (name:List UInt8) (off:Bool) (kids:List PE) (xs:List AV) (hx:RepE (.agg xs) (.mk 3 pos n name off kids)) (ty:Bool × Bool) (S:St) (f:Nat × Nat) (hc:Cx s m mn names S f):WC E9 206 [.ptr s 0,.agg xs,tyA ty] S (fun r=>∃ S',r=.ret (.tup []) S' ∧ Cx s m mn names S' (Jm (!(((I8 names name).1 == ty.1) && ((I8 names name).2 == ty.2))) pos 7 f) ∧ D9 s S S'):=by
 cases hx with
 | mk _ _ _ _ _ kv _ hkv =>
 refine Do Tryz.f206 (by kernel_rfl) (by kernel_rfl) (by kernel_rfl) (by show (_:Nat) ≤ _;simp [Tryz.f206]) ?_
 obtain ⟨fn1,hf104⟩:=Rk
 have g1:=Cs S (exC 3 pos n name off kv)
 have k1:=Ct S (exC 3 pos n name off kv)
 have n1:(S.newBox (exC 3 pos n name off kv)).next=S.next + 1:=rfl
 generalize hS1:S.newBox (exC 3 pos n name off kv)=S1 at g1 k1 n1
 have etA:tyA ty=.agg [.v (.bool ty.1),.v (.bool ty.2)]:=rfl
 have e1:S1.newBox [.v (.bool ty.1),.v (.bool ty.2)]=S1.newBox (tyC ty):=rfl
 have g2:=Cs S1 (tyC ty)
 have q2:(S1.newBox (tyC ty)).mem.get S.next=_:=(Fs (by omega)).trans g1
 have k2:=k1.trans (Ct S1 (tyC ty))
 generalize hS2:S1.newBox (tyC ty)=S2 at g2 q2 k2 e1
 have hc2:=hc.keep k2
 have l3:Ch Tryz.prog S2 3 (.ptr S.next 0)=some (.v (.int .i64 ((3:Nat):Int))):=I2 q2
 have lm:Ch Tryz.prog S2 123 (.ptr s 1)=some (.map m):=by rw [Xy,hc2.g.box]; rfl
 have ln:Ch Tryz.prog S2 9 (.ptr S.next 3)=some (.v (.string ⟨⟨name⟩⟩)):=by rw [bF,q2]; rfl
 have lk:Ia Tryz.prog S2 123 (.map m) (.v (.string ⟨⟨name⟩⟩)) false=some (tyA (I8 names name)):=Ri hc2.mp name
 have lp:Ch Tryz.prog S2 3 (.ptr S.next 1)=some (.v (.int .i64 (pos:Int))):=by rw [mJ,q2]; rfl
 have lt:Ch Tryz.prog S2 52 (.ptr S1.next 0)=some (tyA ty):=P6 g2
 have nq:=fun f' S' o'=>ne52 f' S' o' (I8 names name).1 (I8 names name).2 ty.1 ty.2
 have ety:tyA (I8 names name)=tyA ((I8 names name).1,(I8 names name).2):=rfl
 have ety2:tyA ty=tyA (ty.1,ty.2):=rfl
 have e3:(((3:Nat):Int) == 3)=true:=rfl
 have ag:(AV.agg [.v (.bool ty.1),.v (.bool ty.2)]:AV)=tyA (ty.1,ty.2):=rfl
 rw [etA]
 simp only [Bp,A6,Cj,Bk,Bo,A4,Bh,A7,Be,Bd,Cf,A5,Bb,A9,Cb,A0,A1,ofOpt,Ba,Bt,Cc,Nat.reduceLT,Nat.reduceAdd,Nat.reduceEqDiff,Aa,Ab,Ac,Ae,Am,E3,Tryz.f206,B8,B9,hS1,e1,l3,fe0,e3]
 refine Gy [(0,true),(1,true),(2,true),(3,true),(4,true),(5,true),(6,true),(7,true),(8,true),(9,true),(10,true),(11,true),(12,true)] (by kernel_rfl) (by kernel_rfl) ?_
 rw [ety] at lk
 rw [ety2] at lt
 simp only [A5,Bb,A9,A0,A1,Bn,B4,ofOpt,Ba,Nat.reduceLT,Nat.reduceEqDiff,Aa,Ab,Ac,Af,Ag,Ah,Aj,Ak,Am,E3,O5,Rm,fe3,fe1,lm,ln,lk,lp,lt,nn52,fb52,nq,hf104,Dx,C8,Dk,Co,Gz]
 refine WC.mono (Tj hc2.g _ pos 7) ?_
 rintro _ ⟨S3,rfl,hg3,k3,n3⟩
 simp only [Bw,A4,B1,Bj,Bu,Bf,Ci,Nat.reduceLT,Ac,Eu,Co,D6,Ed]
 exact ⟨_,rfl,hc2.x k3 hg3,(k2.x s).trans k3⟩
theorem minZ_eq (F:Operand → Value) (dst:Option Tmp) (k l:Tmp) (ty:TypeId) (pos:String) (af:Array Edge) (gd:Option (Nat × Bool)):execOp F { dst:=dst,op:=.call { callee:=.builtin .min,args:=#[.tmp k,.tmp l],argTypes:=#[3,3] },type:=ty,pos:=pos,after:=af,guard:=gd }=execOp (bB (F (.tmp k)) (F (.tmp l))) { dst:=none,op:=.call { callee:=.builtin .min,args:=#[.tmp 0,.tmp 1],argTypes:=#[3,3] },type:=ty,pos := "", after:=#[],guard:=none }:=by kernel_rfl
theorem wW (a b:Int) (ty:TypeId):Qv Tryz.prog 4000 (execOp (bB (.int .i64 a) (.int .i64 b)) { dst:=none,op:=.call { callee:=.builtin .min,args:=#[.tmp 0,.tmp 1],argTypes:=#[3,3] },type:=ty,pos := "", after:=#[],guard:=none })=some (.int .i64 (if b < a then b else a)):=by kernel_rfl
def minZX (P:Program) (G:Gl) (f:T AV) (S:St) (o:Oper):OR:=ground P G f S o
def minZO (r:OR) (S:St) (x y:Option AV):OR:=match x,y with
 | some (.v (.int .i64 a)),some (.v (.int .i64 b))=>.val (.v (.int .i64 (if b < a then b else a))) S
 | _,_=>r
theorem wX (r:OR) (S:St) (a b:Int):minZO r S (some (.v (.int .i64 a))) (some (.v (.int .i64 b)))=.val (.v (.int .i64 (if b < a then b else a))) S:=rfl
theorem dG (f:T AV) (S:St) (dst:Option Tmp) (k l:Tmp) (ty:TypeId) (pos:String) (af:Array Edge) (gd:Option (Nat × Bool)) :
  ground Tryz.prog G7 f S { dst:=dst,op:=.call { callee:=.builtin .min,args:=#[.tmp k,.tmp l],argTypes:=#[3,3] },type:=ty,pos:=pos,after:=af,guard:=gd }=minZO (minZX Tryz.prog G7 f S { dst:=dst,op:=.call { callee:=.builtin .min,args:=#[.tmp k,.tmp l],argTypes:=#[3,3] },type:=ty,pos:=pos,after:=af,guard:=gd }) S (f.get k) (f.get l):=by
 unfold minZO
 split
 ·rename_i a b h1 h2
  have hg1:Db G7 f (.tmp k)=some (.int .i64 a):=by unfold Db; simp only [A9,h1]; rfl
  have hg2:Db G7 f (.tmp l)=some (.int .i64 b):=by unfold Db; simp only [A9,h2]; rfl
  unfold ground
  have hall:((Op.call { callee:=.builtin .min,args:=#[.tmp k,.tmp l],argTypes:=#[3,3] }:Op).operands.toList.all fun x=>(Db G7 f x).isSome)=true:=by
   show ([Operand.tmp k,Operand.tmp l].all fun x=>(Db G7 f x).isSome)=true
   simp only [List.all_cons,List.all_nil,hg1,hg2,Option.isSome_some,Bool.and_self]
  refine (if_pos hall).trans ?_
  rw [minZ_eq]
  have e1:(Db G7 f (.tmp k)).getD undef=.int .i64 a:=by rw [hg1]; rfl
  have e2:(Db G7 f (.tmp l)).getD undef=.int .i64 b:=by rw [hg2]; rfl
  simp only [e1,e2,wW]
  rfl
 ·rfl
theorem min_len (a b:Nat):(if (b:Int) < (a:Int) then (b:Int) else (a:Int))=((min a b:Nat):Int):=by
 by_cases h:b < a
 ·rw [if_pos (by omega)]; omega
 ·rw [if_neg (by omega)]; omega
theorem fa49_0 (b:Nat):Cw Tryz.prog 49 (.ptr b 0) 0=some (.ptr b 0):=by kernel_rfl
def declR (d:PD):List AV:=[.v (.bool d.bool),.v (.bool d.fut),Cl d.clock,.v (.bool d.off)]
theorem fa54e (d:PD):Cw Tryz.prog 54 (.ep (Fg d)) 2=some (.ep (declR d)):=by kernel_rfl
theorem ld52e (S:St) (d:PD):Ch Tryz.prog S 52 (.ep (declR d))=some (tyA (d.bool,d.fut)):=by
 simp [Ch,Dr,ag52,uV,declR,tyA]
theorem Xw (S:St) {v:AV} {ds:List PD} (h:Hl 6 F0 v ds):F5 Tryz.prog S 46 v=some ds.length:=by
 rcases h with ⟨rfl,rfl⟩ | ⟨tok,off,rfl⟩ <;> simp [F5,un46]
theorem xM {v:AV} {ds:List PD} (h:Hl 6 F0 v ds) (j:Nat) (hj:j < ds.length):Dd Tryz.prog 46 v (.v (.int .i64 (j:Int)))=some (.ep (Fg ds[j])):=by
 rcases h with ⟨rfl,rfl⟩ | ⟨tok,off,rfl⟩
 ·cases hj
 ·exact idx46d tok off ds j hj
theorem ix28r {v:AV} {l:List PE} (h:RepK v l) (j:Nat) (hj:j < l.length):∃ ys,Dd Tryz.prog 28 v (.v (.int .i64 (j:Int)))=some (.ep ys) ∧ RepE (.agg ys) l[j] ∧ ys.length=6:=by
 cases h with
 | nil=>cases hj
 | row tok off es _ hf =>
  obtain ⟨ys,hy,hr⟩:=Sf hf j hj
  refine ⟨ys,idx28x tok off es j ys hy,hr,?_⟩
  revert hr; generalize l[j]=e; intro hr
  cases hr; rfl
theorem lA:∀ ds:List PD,Mg (ds.map F0) (ds.map F0)=true
 | []=>rfl
 | d :: l=>by
  have h:=lA l
  simp only [List.map_cons,Mg,h,Bool.and_true]
  simp [F0,Fg,Ga,Mg,Dl,Cl,eqS,Jg]
theorem Vk {v:AV} {ds:List PD} (h:Hl 6 F0 v ds):Ga v v=true:=by
 rcases h with ⟨rfl,_⟩ | ⟨tok,off,rfl⟩
 ·rfl
 ·simp [Ga,lA]
theorem oJ {v:AV} {nd:PN} (h:Kg v nd):Ga v v=true:=by
 obtain ⟨a,b,c,d,es,rfl,ha,hb,hc,hd,he⟩:=h
 have ra:=Vk ha
 have rb:=Vk hb
 have rc:=Vk hc
 have rd:Ga d d=true:=by
  rcases hd with ⟨rfl,_⟩ | ⟨tok,rfl⟩
  ·rfl
  ·simp [Ga,EqRows.refl he]
 simp [Ge,Ga,Mg,Dl,Cl,eqS,Jg,ra,rb,rc,rd]
theorem st49 {S:St} {id:Nat} {cs ys:List AV} (h:S.mem.get id=some (.box cs)) (hl:cs.length=6) (hy:ys.length=6):Di Tryz.prog S 49 (.ptr id 0) (.agg ys)=some (S.put id ys):=by
 simp [Di,h,hl,hy,Tm,AV.noTup,AV.cells,St.put,List.drop_eq_nil_of_le]
theorem sJ {S:St} {g:Nat} {l:List (List UInt8 × AV)} (hm:S.mem.get g=some (.mp (Ip id l))) {k:List UInt8} {v:AV} (hk:Ub l k=some v):Ia Tryz.prog S 121 (.map g) (.v (.string ⟨⟨k⟩⟩)) false=some v:=by
 rw [jJ id key121 zr49 hm k,hk]
 rfl
def nmE:PE → List UInt8
 | .mk _ _ _ name _ _=>name
def isVarE (e:PE):Prop:=∃ pos n nm off ks,e=.mk 3 pos n nm off ks
def jY (names:List (List UInt8 × (Bool × Bool))):List PE → List PD → Nat × Nat → Nat × Nat
 | e :: l,d :: r,f=>jY names l r (Jm (!(((I8 names (nmE e)).1 == d.bool) && ((I8 names (nmE e)).2 == d.fut))) (Yv e) 7 f)
 | [],_,f=>f
 | _,[],f=>f
theorem handF_nil (names:List (List UInt8 × (Bool × Bool))) (l:List PE) (r:List PD) (f:Nat × Nat) (h:l=[] ∨ r=[]):jY names l r f=f:=by
 cases l <;> cases r <;> first | rfl | (rcases h with h | h <;> cases h)
def wI:List PD → Bool × Bool
 | []=>(false,false)
 | d :: _=>(d.bool,d.fut)
def lJ:Code:=match Tryz.f192.body with
 | some (.seq _ (.seq _ (.seq (.seq _ (.block _ (.loop b))) _)))=>b
 | _=>.skip
def LoopCa (s m:Nat) (mn:NdM) (names:List (List UInt8 × (Bool × Bool))) (S0:St) (q o:Nat) (f:Nat × Nat) (r:O):Prop:=∃ t' S',r=.out (.exit 0) ⟨t',[]⟩ S' ∧ t'.get 4=some (.ptr o 0) ∧ t'.get 5=some (.ptr q 0) ∧ Cx s m mn names S' f ∧ D9 s S0 S'
theorem ca_lp {s m:Nat} {mn:NdM} {names:List (List UInt8 × (Bool × Bool))} {kv a bb c d:AV} {nm:List UInt8} {ps kind pos:Nat} {n0:Int} {name:List UInt8} {off:Bool} (kids:List PE) (hkv:RepK kv kids) (hvar:∀ e ∈ kids,isVarE e) (ins:List PD) (ha:Hl 6 F0 a ins) (hl:kids.length ≤ 1000000) (p q o:Nat) (S0:St) (hs0:s < S0.next) (hp:p < S0.next ∧ p ≠ s) (hpm:S0.mem.get p=some (.box (exC kind pos n0 name off kv))) (hq:q < S0.next ∧ q ≠ s) (hqm:S0.mem.get q=some (.box (Ge nm ps a bb c d))):∀ (n j:Nat) (f:Nat × Nat) (t:T AV) (S:St),j + n=min kids.length ins.length → t.get 0=some (.ptr s 0) → t.get 3=some (.ptr p 0) → t.get 4=some (.ptr o 0) → t.get 5=some (.ptr q 0) → t.get 20=some (Dl (min kids.length ins.length)) → t.get 21=some (Dl j) → Cx s m mn names S f → D9 s S0 S →
  WX E9 48 (.loop lJ) ⟨t,[]⟩ S (LoopCa s m mn names S0 q o (jY names (kids.drop j) (ins.drop j) f))
 | 0,j,f,t,S,hj,h0,h3,h4,h5,h20,h21,hc,hk=>by
  refine D0 (Ds ?_)
  have hlt:¬ ((j:Int) < ((min kids.length ins.length:Nat):Int)):=by omega
  simp only [Dl] at h20 h21
  simp only [Bz,Bp,A6,Cj,Bk,Bo,Bs,C9,A4,C0,Bh,A7,Be,Bd,Cg,A5,Bb,A9,A0,ofOpt,Bt,C6,Nat.reduceLT,Nat.reduceEqDiff,Aa,Ab,Ac,Am,Aq,E3,lJ,Tryz.f192,h20,h21,hlt]
  rw [handF_nil names _ _ f (by
   rcases Nat.le_total kids.length ins.length with h | h
   ·exact .inl (List.drop_of_length_le (by omega))
   ·exact .inr (List.drop_of_length_le (by omega)))]
  exact ⟨_,_,rfl,by simp only [A0,A1,Nat.reduceEqDiff,Aa,Ab,h4],by simp only [A0,A1,Nat.reduceEqDiff,Aa,Ab,h5],hc,hk⟩
 | n + 1,j,f,t,S,hj,h0,h3,h4,h5,h20,h21,hc,hk=>by
  refine D0 (Ds ?_)
  obtain ⟨fn2,hf206⟩:=fng_206
  have hjk:j < kids.length:=by omega
  have hji:j < ins.length:=by omega
  have hlt:((j:Int) < ((min kids.length ins.length:Nat):Int)):=by omega
  have hw:IntKind.i64.wrap ((j:Int) + 1)=((j + 1:Nat):Int):=by rw [IntKind.wrap_i64]; omega
  obtain ⟨ys,hx,hre,hyl⟩:=ix28r hkv j hjk
  have hi:=xM ha j hji
  have hva:=hvar _ (List.getElem_mem hjk)
  rw [List.drop_eq_getElem_cons hjk,List.drop_eq_getElem_cons hji]
  generalize kids[j]=e at hre hva
  generalize ins[j]=dd at hi
  obtain ⟨vp,vn,vnm,vo,vk,rfl⟩:=hva
  have gp:S.mem.get p=_:=(hk.2 p hp.1 hp.2).trans hpm
  have gq:S.mem.get q=_:=(hk.2 q hq.1 hq.2).trans hqm
  have lk:=lx28 gp
  have li:Ch Tryz.prog S 46 (.ptr q 2)=some a:=sQ gq
  have hep:=sR S hyl
  have fd:=fa54e dd
  have lt:=ld52e S dd
  have rr:Ga (.agg ys) (.agg ys)=true:=RepE.refl hre
  have rt:=aA (dd.bool,dd.fut)
  simp only [Dl] at h20 h21
  simp only [Bz,Bp,A6,Cj,Bk,Bo,Bs,C9,A4,C0,Bh,A7,Be,Bd,Cf,A5,Bb,A9,A0,ofOpt,Bt,C6,Nat.reduceLT,Nat.reduceEqDiff,Aa,Ab,Ac,Am,Ap,E3,lJ,Tryz.f192,h20,h21,hlt]
  refine Gy [(0,true),(1,true),(2,true),(3,true),(4,true),(5,true),(6,true),(7,true),(8,true),(9,true),(10,true),(11,true),(12,true)] (by kernel_rfl) (by kernel_rfl) ?_
  simp only [A5,Bb,A9,A0,Bn,B4,ofOpt,Nat.reduceLT,Nat.reduceEqDiff,Aa,Ab,Ac,Af,Ag,Ah,Aj,Ak,E3,h0,h3,h5,fe5,lk,hx,hep,kH,li,hi,fd,lt,hf206,Dx,C8,Dk,Co,Gz]
  refine WC.mono (handed_w vp vn vnm vo vk ys hre (dd.bool,dd.fut) S f hc) ?_
  rintro _ ⟨S4,rfl,hc4,k4⟩
  simp only [By,A6,A4,Br,Bh,A7,Be,Bd,A5,Bb,A9,A0,ofOpt,Ba,Bt,Dh,Nat.reduceLT,Nat.reduceEqDiff,Aa,Ab,Ac,Am,E3,h21,hw,Eu,Co,D6,Ed]
  refine ca_lp kids hkv hvar ins ha hl p q o S0 hs0 hp hpm hq hqm n (j + 1) _ _ S4 (by omega) ?_ ?_ ?_ ?_ ?_ ?_ hc4 (hk.trans k4)
  ·simp only [A0,A1,Nat.reduceEqDiff,Aa,Ab,h0]
  ·simp only [A0,A1,Nat.reduceEqDiff,Aa,Ab,h3]
  ·simp only [A0,A1,Nat.reduceEqDiff,Aa,Ab,h4]
  ·simp only [A0,A1,Nat.reduceEqDiff,Aa,Ab,h5]
  ·simp only [A0,A1,Nat.reduceEqDiff,Aa,Ab,h20]; rfl
  ·simp only [A0,A1,Nat.reduceEqDiff,Aa,Ab]; rfl
theorem call_w {s m:Nat} {mn:NdM} {names:List (List UInt8 × (Bool × Bool))} (pos:Nat) (n:Int) (name:List UInt8) (off:Bool) (kids:List PE) (hvar:∀ e ∈ kids,isVarE e) (hl:kids.length ≤ 1000000) {v:AV} {nd:PN} (hN:Ub mn.l name=some v) (hnd:Kg v nd) (xs:List AV) (hx:RepE (.agg xs) (.mk 13 pos n name off kids)):CallA 192 s m mn names xs (fun f=>(wI nd.outs,jY names kids nd.ins f)):=by
 intro S f hc
 have rv:=oJ hnd
 obtain ⟨a,bb,c,d,es,rfl,ha,hb,hcv,hd,he⟩:=hnd
 cases hx with
 | mk _ _ _ _ _ kv _ hkv =>
 refine Do Tryz.f192 (by kernel_rfl) (by kernel_rfl) (by kernel_rfl) (by show (_:Nat) ≤ _;simp [Tryz.f192]) ?_
 have g1:=Cs S (exC 13 pos n name off kv)
 have k1:=Ct S (exC 13 pos n name off kv)
 have n1:(S.newBox (exC 13 pos n name off kv)).next=S.next + 1:=rfl
 generalize hS1:S.newBox (exC 13 pos n name off kv)=S1 at g1 k1 n1
 have al:=Te S1
 have g2:=Cs S1 (tyC (false,false))
 have q2:(S1.newBox (tyC (false,false))).mem.get S.next=_:=(Fs (by omega)).trans g1
 have k2:=k1.trans (Ct S1 (tyC (false,false)))
 have n2:(S1.newBox (tyC (false,false))).next=S.next + 1 + 1:=by show S1.next + 1=_; omega
 generalize hS2:S1.newBox (tyC (false,false))=S2 at g2 q2 k2 n2 al
 have hc2:=hc.keep k2
 have hlt:=hc.g.lt
 have lm:Ch Tryz.prog S2 121 (.ptr s 0)=some (.map mn.g):=by rw [ldc121,hc2.g.box]; rfl
 have ln:Ch Tryz.prog S2 9 (.ptr S.next 3)=some (.v (.string ⟨⟨name⟩⟩)):=by rw [bF,q2]; rfl
 have lk:Ia Tryz.prog S2 121 (.map mn.g) (.v (.string ⟨⟨name⟩⟩)) false=some (.agg (Ge nd.name nd.pos a bb c d)):=sJ hc2.nd hN
 have al2:=zO S2
 have a3:=Cs S2 R5
 have k3:=k2.trans (Ct S2 R5)
 have p3:(S2.newBox R5).mem.get S.next=_:=(Fs (by omega)).trans q2
 have o3:(S2.newBox R5).mem.get S1.next=_:=(Fs (by omega)).trans g2
 have n3:(S2.newBox R5).next=S.next + 1 + 1 + 1:=by show S2.next + 1=_; omega
 generalize hS3:S2.newBox R5=S3 at a3 k3 p3 o3 n3 al2
 have hc3:=hc.keep k3
 have lm3:Ch Tryz.prog S3 121 (.ptr s 0)=some (.map mn.g):=by rw [ldc121,hc3.g.box]; rfl
 have ln3:Ch Tryz.prog S3 9 (.ptr S.next 3)=some (.v (.string ⟨⟨name⟩⟩)):=by rw [bF,p3]; rfl
 have lk3:Ia Tryz.prog S3 121 (.map mn.g) (.v (.string ⟨⟨name⟩⟩)) false=some (.agg (Ge nd.name nd.pos a bb c d)):=sJ hc3.nd hN
 have q4:=st49 a3 rfl (ys:=Ge nd.name nd.pos a bb c d) rfl
 have a4:=Eg S3 S2.next (Ge nd.name nd.pos a bb c d)
 have k4:Em S (S3.put S2.next (Ge nd.name nd.pos a bb c d)):=En k3 (by omega) _
 have p4:(S3.put S2.next (Ge nd.name nd.pos a bb c d)).mem.get S.next=_:=(Eo (by omega)).trans p3
 have o4:(S3.put S2.next (Ge nd.name nd.pos a bb c d)).mem.get S1.next=_:=(Eo (by omega)).trans o3
 have n4:(S3.put S2.next (Ge nd.name nd.pos a bb c d)).next=S.next + 1 + 1 + 1:=n3
 generalize hS4:S3.put S2.next (Ge nd.name nd.pos a bb c d)=S4 at q4 a4 k4 p4 o4 n4
 have hc4:=hc.keep k4
 simp only [A6,Cj,Bk,A4,Bh,A7,Be,Bd,A5,Bb,A9,Cb,A0,A1,ofOptS,Nat.reduceLT,Nat.reduceAdd,Nat.reduceEqDiff,Aa,Ab,Ac,Ae,E3,Tryz.f192,B8,B9,hS1,al]
 refine Gy [(0,true),(1,true),(2,true),(3,true),(4,true),(5,true),(6,true),(7,true),(6,false),(5,false),(3,false),(8,true)] (by kernel_rfl) (by kernel_rfl) ?_
 simp only [A6,Bk,A4,A7,A5,Bb,A9,A0,A1,ofOpt,ofOptS,Nat.reduceLT,Nat.reduceEqDiff,Aa,Ab,Ac,Af,Ag,Ah,Am,E3,fa125_0,fe3,lm,ln,lk,al2,lm3,ln3,lk3,zN,rv,q4,Eu,Dx,Hj,C8,Vr,Vc,Co,Ed,Gz,Eb,Es,G4]
 have lk4:=lx28 p4
 have len4:=len28r S4 hkv
 have li4:Ch Tryz.prog S4 46 (.ptr S2.next 2)=some a:=sQ a4
 have leni:=Xw S4 ha
 have hmin:=min_len kids.length nd.ins.length
 have key:=fun t=>ca_lp (s:=s) (m:=m) (mn:=mn) (names:=names) kids hkv hvar nd.ins ha hl S.next S2.next S1.next S4 (by omega) ⟨by omega,by omega⟩ p4 ⟨by omega,by omega⟩ a4 (min kids.length nd.ins.length) 0 f t S4 (by omega)
 unfold lJ at key
 simp only [Tryz.f192] at key
 simp only [Bs,Dv,A4,Bh,A7,Be,Bd,A5,Bb,A9,A0,A1,Bn,ofOpt,Ba,Nat.reduceLT,Nat.reduceEqDiff,Aa,Ab,Ac,E3,O5,fe5,kH,lk4,len4,li4,leni,dG,wX,hmin]
 refine WX.mono (key _ ?_ ?_ ?_ ?_ ?_ ?_ hc4 ⟨Nat.le_refl _,fun _ _ _=>rfl⟩) ?_
 ·simp only [A0,A1,Nat.reduceEqDiff,Aa,Ab]
 ·simp only [A0,A1,Nat.reduceEqDiff,Aa,Ab]
 ·simp only [A0,A1,Nat.reduceEqDiff,Aa,Ab]
 ·simp only [A0,A1,Nat.reduceEqDiff,Aa,Ab]
 ·simp only [A0,A1,Nat.reduceEqDiff,Aa,Ab]; rfl
 ·simp only [A0,A1,Nat.reduceEqDiff,Aa,Ab]; rfl
 rintro _ ⟨t5,S5,rfl,h54,h55,hc5,x5⟩
 rw [List.drop_zero,List.drop_zero] at hc5
 have k5:=(k4.x s).trans x5
 have a5:S5.mem.get S2.next=_:=(x5.2 S2.next (by omega) (by omega)).trans a4
 have o5:S5.mem.get S1.next=some (.box (tyC (false,false))):=(x5.2 S1.next (by omega) (by omega)).trans o4
 have lo5:Ch Tryz.prog S5 46 (.ptr S2.next 3)=some bb:=ld46_3 a5
 have leno:=Xw S5 hb
 cases ho:nd.outs with
 | nil =>
  rw [ho] at leno
  have e0:((([]:List PD).length:Int) == 0)=true:=rfl
  have q6:=Yl o5 (false,false)
  obtain ⟨c6,k6⟩:=Cx.own (cs:=tyC (false,false)) hc hc5 (by omega:S.next ≤ S1.next) k5
  have l6:=P6 (t:=(false,false)) (Eg S5 S1.next (tyC (false,false)))
  simp only [Bp,A6,Bk,Bo,Bw,A4,C0,B1,Dw,Bh,A7,Be,Dm,Dy,Bd,Cf,A5,Bb,A9,A0,Bn,ofOpt,Ba,Bv,Bt,Bj,Bu,Bf,Ci,Cc,Nat.reduceLT,Nat.reduceEqDiff,Aa,Ab,Ac,Am,E3,h54,h55,bO,lo5,leno,e0,bl52e,q6,l6]
  exact ⟨_,rfl,c6,k6⟩
 | cons dd r =>
  have ix:=xM hb 0 (by rw [ho]; exact Nat.succ_pos _)
  have e0:((nd.outs.length:Int) == 0)=false:=by rw [beq_eq_false_iff_ne,ho]; simp only [List.length_cons]; omega
  have hg:nd.outs[0]'(by rw [ho]; exact Nat.succ_pos _)=dd:=by simp only [ho,List.getElem_cons_zero]
  rw [hg] at ix
  have ix:Dd Tryz.prog 46 bb (.v (.int .i64 0))=some (.ep (Fg dd)):=ix
  have fd:=fa54e dd
  have lt:=ld52e S5 dd
  have q6:=Yl o5 (dd.bool,dd.fut)
  obtain ⟨c6,k6⟩:=Cx.own (cs:=tyC (dd.bool,dd.fut)) hc hc5 (by omega:S.next ≤ S1.next) k5
  have l6:=P6 (t:=(dd.bool,dd.fut)) (Eg S5 S1.next (tyC (dd.bool,dd.fut)))
  simp only [Bp,A6,Bk,Bo,Bw,A4,C0,Dw,Bh,A7,Be,Dm,Dy,Bd,Cg,A5,Bb,A9,A0,Bn,ofOpt,Ba,Bv,Bt,Bj,Bu,Bf,Ci,Cc,Nat.reduceLT,Nat.reduceEqDiff,Aa,Ab,Ac,Am,E3,h54,h55,bO,lo5,leno,e0,ix,fd,lt,q6,l6]
  exact ⟨_,rfl,c6,k6⟩
end Go.Ax
