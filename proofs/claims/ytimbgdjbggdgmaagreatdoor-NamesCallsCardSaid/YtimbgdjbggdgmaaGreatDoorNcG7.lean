/- R -/
import Derived.Test.YtimbgdjbggdgmaaGreatDoorNcG6
import Derived.Lib.Repeat
set_option linter.unusedVariables false
set_option linter.unusedSimpArgs false
noncomputable section
namespace Go.Ax
open Go.RowKit
def G2(G:Gl)(f:T AV)(x:Operand):Option AV:=Operand.rec (motive:=fun _=>Option AV) (fun t=>T.get f t) (fun v=>Bo 8 v) (fun g=>Option.rec (motive:=fun _=>Option AV) none (fun cs=>some (.ep cs)) (G g)) (fun k=>some (.fn (.func k) [] [])) x
theorem Fo(G:Gl)(f:T AV)(x:Operand):G2 G f x=A6 G f x:=by
 cases x with
 |global g=>show Option.rec (motive:=fun _=>Option AV) none (fun cs=>some (.ep cs)) (G g)=(match G g with |some cs=>some (.ep cs) |none=>none);cases G g <;> rfl
 |_=>rfl
def ooR(S:St)(x:Option AV):OR:=Option.rec (motive:=fun _=>OR) .fail (fun a=>.val a S) x
theorem Lo(S:St)(x:Option AV):ooR S x=ofOpt S x:=by cases x <;> rfl
def nV(G:Gl)(f:T AV)(l:List (Nat × Operand)):Option (List (Nat × AV)):=List.rec (motive:=fun _=>Option (List (Nat × AV))) (some []) (fun p _ ih=>Option.rec (motive:=fun _=>Option (List (Nat × AV))) none (fun a=>Option.rec (motive:=fun _=>Option (List (Nat × AV))) none (fun l=>some ((p.1,a) :: l)) ih) (G2 G f p.2)) l
theorem Yp(G:Gl)(f:T AV):∀l,nV G f l=C8 G f l
 | []=>rfl
 | (i,x) :: r=>by
  have ih:=Yp G f r
  show Option.rec (motive:=fun _=>Option (List (Nat × AV))) none (fun a=>Option.rec (motive:=fun _=>Option (List (Nat × AV))) none (fun l=>some ((i,a) :: l)) (nV G f r)) (G2 G f x)=C8 G f ((i,x) :: r)
  rw[ih,Fo]
  show _=(match A6 G f x with |some a=>(match C8 G f r with |some l=>some ((i,a) :: l) |none=>none) |none=>none)
  cases A6 G f x <;> cases C8 G f r <;> rfl
abbrev X1:=Env→T AV→St→Oper→OR
def Mt:X1:=fun E f S o=>Bg E f S o
def xMove(x:Operand):X1:=fun E f S o=>ooR S (G2 E.G f x)
def xLoad(t:TypeId)(x:Operand):X1:=fun E f S o=>Option.rec (motive:=fun _=>OR) .fail (fun a=>ooR S (A8 E.P S t a)) (G2 E.G f x)
def wM(t:TypeId)(x y:Operand):X1:=fun E f S o=>Option.rec (motive:=fun _=>OR) .fail (fun a=>Option.rec (motive:=fun _=>OR) .fail (fun b=>Option.rec (motive:=fun _=>OR) .fail (fun S'=>.skip S') (Bl E.P S t a b)) (G2 E.G f y)) (G2 E.G f x)
def nilR(S:St)(a:AV):OR:=match a with
 |.ptr id off=>.val (.ptr id off) S
 |.ep cs=>.val (.ep cs) S
 |.fn (.func k) a b=>.val (.fn (.func k) a b) S
 |.iface t a=>.val (.iface t a) S
 |_=>.fail
theorem nilR_eq(S:St)(a:AV):nilR S a=(match some a with
  |some (.ptr id off)=>.val (.ptr id off) S
  |some (.ep cs)=>.val (.ep cs) S
  |some (.fn (.func k) a b)=>.val (.fn (.func k) a b) S
  |some (.iface t a)=>.val (.iface t a) S
  |_=>.fail:OR):=by
 cases a <;> first |rfl | (rename_i fn x y;cases fn <;> rfl)
def xNil(x:Operand):X1:=fun E f S o=>Option.rec (motive:=fun _=>OR) .fail (fun a=>nilR S a) (G2 E.G f x)
def neqR(op:BinOp)(S:St):OR:=match op with
 |.eql=>.val (.v (.bool false)) S
 |.neq=>.val (.v (.bool true)) S
 |_=>.fail
def xBin(op:BinOp)(t:TypeId)(x y:Operand)(_:TypeId):X1:=fun E f S o=>Option.rec (motive:=fun _=>OR) .fail (fun a=>Option.rec (motive:=fun _=>OR) .fail (fun b=>Option.rec (motive:=fun _=>OR) (Bool.rec (motive:=fun _=>OR) (U7 E.P E.G f S o op t a b) (neqR op S) (Ha E.P t a b)) (fun r=>.val r S) (Cv op a b)) (G2 E.G f y)) (G2 E.G f x)
def wO(t:TypeId)(x:Operand):X1:=fun E f S o=>Option.rec (motive:=fun _=>OR) .fail (fun a=>ooR S (Qh E.P t a)) (G2 E.G f x)
def Vr(t:TypeId)(x:Operand)(i:Nat):X1:=fun E f S o=>Option.rec (motive:=fun _=>OR) .fail (fun a=>ooR S (A3 E.P t a i)) (G2 E.G f x)
def wQ(t:TypeId)(x:Operand)(i:Nat):X1:=fun E f S o=>Option.rec (motive:=fun _=>OR) .fail (fun a=>ooR S (Oi E.P t a i)) (G2 E.G f x)
def Vq(t:TypeId)(x i:Operand):X1:=fun E f S o=>Option.rec (motive:=fun _=>OR) .fail (fun a=>Option.rec (motive:=fun _=>OR) .fail (fun b=>ooR S (Bh E.P t a b)) (G2 E.G f i)) (G2 E.G f x)
def wP(t:TypeId)(x i:Operand):X1:=fun E f S o=>Option.rec (motive:=fun _=>OR) .fail (fun a=>Option.rec (motive:=fun _=>OR) .fail (fun b=>Option.rec (motive:=fun _=>OR) (ground E.P E.G f S o) (fun r=>.val r S) (K6 E.P t a b)) (G2 E.G f i)) (G2 E.G f x)
def mT(t:TypeId)(m k:Operand)(ok:Bool):X1:=fun E f S o=>Option.rec (motive:=fun _=>OR) .fail (fun a=>Option.rec (motive:=fun _=>OR) .fail (fun b=>ooR S (aX E.P S t a b ok)) (G2 E.G f k)) (G2 E.G f m)
def mU(x:Operand)(_ t:TypeId)(ok:Bool):X1:=fun E f S o=>Option.rec (motive:=fun _=>OR) .fail (fun a=>ooR S (W3 E.P t ok a)) (G2 E.G f x)
def bR(x:Operand)(i:Nat):X1:=fun E f S o=>Option.rec (motive:=fun _=>OR) .fail (fun a=>ooR S (D3 a i)) (G2 E.G f x)
def xCall(c:Call):X1:=fun E f S o=>Ct E f S c o
def pickR(a b:OR)(x:Option AV):OR:=match x with
 |some (.v (.bool true))=>a
 |some (.v (.bool false))=>b
 |_=>.fail
def mapR(G:Gl)(f:T AV)(l:List Operand):Option (List AV):=List.rec (motive:=fun _=>Option (List AV)) (some []) (fun x _ ih=>Option.rec (motive:=fun _=>Option (List AV)) none (fun a=>Option.rec (motive:=fun _=>Option (List AV)) none (fun l=>some (a :: l)) ih) (G2 G f x)) l
theorem mapR_eq(G:Gl)(f:T AV):∀l,mapR G f l=C9 (A6 G f) l
 | []=>rfl
 |x :: r=>by
  have ih:=mapR_eq G f r
  show Option.rec (motive:=fun _=>Option (List AV)) none (fun a=>Option.rec (motive:=fun _=>Option (List AV)) none (fun l=>some (a :: l)) (mapR G f r)) (G2 G f x)=_
  rw[ih,Fo];simp only[C9];cases A6 G f x <;> cases C9 (A6 G f) r <;> rfl
def sliceR(P:Program)(S:St)(t:TypeId)(a:AV)(l h:Option AV):OR:=match a with
 |.sl tok off sz es=>ooR S (Rz P t (.sl tok off sz es) l h)
 |.nils=>ooR S (Rz P t .nils l h)
 |.bs id off n0 sz=>ooR S (Rz P t (.bs id off n0 sz) l h)
 |.v s=>ooR S (Jl P t (.v s) l h)
 |_=>.fail
def wN(t:TypeId)(x:Operand)(lo hi mx:Option Operand):X1:=fun E f S o=>Option.rec (motive:=fun _=>OR) (Option.rec (motive:=fun _=>OR) .fail (fun a=>Option.rec (motive:=fun _=>OR) .fail (fun l=>Option.rec (motive:=fun _=>OR) .fail (fun h=>sliceR E.P S t a l.head? h.head?) (mapR E.G f hi.toList)) (mapR E.G f lo.toList)) (G2 E.G f x)) (fun _=>Bg E f S o) mx
def xAlloc(t:TypeId):X1:=fun E f S o=>ofOptS (Ga E.P S t)
def xPick(c a b:Operand):X1:=fun E f S o=>pickR (ooR S (G2 E.G f a)) (ooR S (G2 E.G f b)) (G2 E.G f c)
def xUnOp(_:UnOp)(_:TypeId)(_:Operand):X1:=fun E f S o=>ground E.P E.G f S o
def bS(src dst:TypeId)(x:Operand):X1:=fun E f S o=>Option.rec (motive:=fun _=>OR) .fail (fun a=>Option.rec (motive:=fun _=>OR) (ground E.P E.G f S o) (fun r=>.val r S) (Mf E.P src dst a)) (G2 E.G f x)
def xBox(_:TypeId)(x:Operand):X1:=fun E f S o=>Option.rec (motive:=fun _=>OR) .fail (fun a=>Bool.rec (motive:=fun _=>OR) .fail (.val (.ptr S.next 0) (S.newBox a.cells)) a.noTup) (G2 E.G f x)
def panR(S:St)(x:Option AV):OR:=match x with
 |some (.iface t a)=>.pan (.iface t a) S
 |_=>.fail
def xPanic(x:Operand):X1:=fun E f S o=>panR S (G2 E.G f x)
def xDefer(c:Call):X1:=fun E f S o=>V7 E f S c
def wR(t:TypeId)(ps:Array (Nat × Operand)):X1:=fun E f S o=>Option.rec (motive:=fun _=>OR) .fail (fun l=>ooR S (Du E.P t l)) (nV E.G f ps.toList)
def Sn(t:TypeId)(len:Nat)(ps:Array (Nat × Operand)):X1:=fun E f S o=>Option.rec (motive:=fun _=>OR) .fail (fun l=>ooR S (Bd E.P t len l)) (nV E.G f ps.toList)
def Tp(E:Env)(f:T AV)(S:St)(o:Oper):OR:=Op.rec (motive:=fun _=>X1) xMove xMove xPick xAlloc xBox wR Sn (fun _ _ _ _=>Mt) xLoad wM (fun _=>Mt) (fun _=>Mt) xNil xBin xUnOp bS (fun _ _=>Mt) wO (fun _ _ _=>Mt) (fun _ _=>Mt) (fun _ _=>Mt) (fun _ _ _=>Mt) wN Vr wQ Vq wP mT (fun _ _ _ _=>Mt) (fun _ _ _=>Mt) (fun _ _ _ _=>Mt) (fun _ _=>Mt) (fun _ _=>Mt) (fun _=>Mt) mU bR xCall (fun _=>Mt) xDefer xPanic (fun _ _=>Mt) (fun _ _ _=>Mt) (fun _ _=>Mt) o.op E f S o
theorem eI{P:Program}{t:TypeId}{op:BinOp}{a b r:AV}(h:Cv op a b=some r):Ha P t a b=false:=by
 unfold Cv at h
 split at h
 ·unfold Ha;cases P.underlying t with
  |none=>rfl
  |some d=>cases d <;> rfl
 ·unfold Ha;cases P.underlying t with
  |none=>rfl
  |some d=>cases d <;> rfl
 ·cases h
theorem Q6(E:Env)(f:T AV)(S:St)(o:Oper):Tp E f S o=Bg E f S o:=by
 obtain⟨dst,op,ty,pos,after,guard⟩:=o;cases op <;> try rfl
 case move x=>show ooR S (G2 E.G f x)=ofOpt S (A6 E.G f x);rw[Lo,Fo]
 case assign x=>show ooR S (G2 E.G f x)=ofOpt S (A6 E.G f x);rw[Lo,Fo]
 case load t x =>
  simp only[Bg]
  show xLoad t x E f S ⟨dst,.load t x,ty,pos,after,guard⟩=_
  simp only[xLoad,Fo,Lo];cases A6 E.G f x <;> first |rfl |skip
 case store t x y =>
  simp only[Bg]
  show wM t x y E f S ⟨dst,.store t x y,ty,pos,after,guard⟩=_
  simp only[wM,Fo];cases A6 E.G f x <;> cases A6 E.G f y <;> first |rfl |skip
  rename_i a b;dsimp only;cases Bl E.P S t a b <;> rfl
 case nilCheck x =>
  simp only[Bg]
  show xNil x E f S ⟨dst,.nilCheck x,ty,pos,after,guard⟩=_
  simp only[xNil,Fo]
  cases A6 E.G f x with
  |none=>rfl
  |some a=>exact nilR_eq S a
 case binOp op t x y u =>
  simp only[Bg]
  show xBin op t x y u E f S ⟨dst,.binOp op t x y u,ty,pos,after,guard⟩=_
  simp only[xBin,Fo];cases A6 E.G f x <;> cases A6 E.G f y <;> first |rfl |skip
  rename_i a b;dsimp only
  cases hf:Cv op a b with
  |some r=>rw[eI hf];rfl
  |none=>cases Ha E.P t a b <;> first |rfl | (cases op <;> rfl)
 case index t x i =>
  simp only[Bg]
  show wP t x i E f S ⟨dst,.index t x i,ty,pos,after,guard⟩=_
  simp only[wP,Fo];cases A6 E.G f x <;> cases A6 E.G f i <;> first |rfl |skip
  rename_i a b;dsimp only;cases K6 E.P t a b <;> rfl
 case makeInterface t x =>
  simp only[Bg]
  show wO t x E f S ⟨dst,.makeInterface t x,ty,pos,after,guard⟩=_
  simp only[wO,Fo,Lo];cases A6 E.G f x <;> first |rfl |skip
 case fieldAddr t x i =>
  simp only[Bg]
  show Vr t x i E f S ⟨dst,.fieldAddr t x i,ty,pos,after,guard⟩=_
  simp only[Vr,Fo,Lo];cases A6 E.G f x <;> first |rfl |skip
 case field t x i =>
  simp only[Bg]
  show wQ t x i E f S ⟨dst,.field t x i,ty,pos,after,guard⟩=_
  simp only[wQ,Fo,Lo];cases A6 E.G f x <;> first |rfl |skip
 case indexAddr t x i =>
  simp only[Bg]
  show Vq t x i E f S ⟨dst,.indexAddr t x i,ty,pos,after,guard⟩=_
  simp only[Vq,Fo,Lo];cases A6 E.G f x <;> cases A6 E.G f i <;> first |rfl |skip
 case lookup t m k ok =>
  simp only[Bg]
  show mT t m k ok E f S ⟨dst,.lookup t m k ok,ty,pos,after,guard⟩=_
  simp only[mT,Fo,Lo];cases A6 E.G f m <;> cases A6 E.G f k <;> first |rfl |skip
 case typeAssert x xt t ok =>
  simp only[Bg]
  show mU x xt t ok E f S ⟨dst,.typeAssert x xt t ok,ty,pos,after,guard⟩=_
  simp only[mU,Fo,Lo];cases A6 E.G f x <;> first |rfl |skip
 case extract x i =>
  simp only[Bg]
  show bR x i E f S ⟨dst,.extract x i,ty,pos,after,guard⟩=_
  simp only[bR,Fo,Lo];cases A6 E.G f x <;> first |rfl |skip
 case pick c a b =>
  simp only[Bg]
  show pickR (ooR S (G2 E.G f a)) (ooR S (G2 E.G f b)) (G2 E.G f c)=_
  rw[Lo,Lo,Fo,Fo,Fo];rfl
 case panic x =>
  simp only[Bg]
  show panR S (G2 E.G f x)=_
  rw[Fo];rfl
 case box t x =>
  simp only[Bg]
  show xBox t x E f S ⟨dst,.box t x,ty,pos,after,guard⟩=_
  simp only[xBox,Fo]
  cases A6 E.G f x with
  |none=>rfl
  |some a=>dsimp only;cases a.noTup <;> rfl
 case convert s t x =>
  simp only[Bg]
  show bS s t x E f S ⟨dst,.convert s t x,ty,pos,after,guard⟩=_
  simp only[bS,Fo]
  cases A6 E.G f x with
  |none=>rfl
  |some a=>dsimp only;cases Mf E.P s t a <;> rfl
 case slice t x lo hi mx =>
  cases mx with
  |some m=>rfl
  |none =>
   simp only[Bg]
   show wN t x lo hi none E f S ⟨dst,.slice t x lo hi none,ty,pos,after,guard⟩=_
   simp only[wN,Fo,mapR_eq]
   cases A6 E.G f x with
   |none=>rfl
   |some a =>
    dsimp only;unfold sliceR;cases a <;> cases C9 (A6 E.G f) lo.toList <;> cases C9 (A6 E.G f) hi.toList <;> first |rfl |exact Lo _ _
 case build t ps =>
  simp only[Bg]
  show wR t ps E f S ⟨dst,.build t ps,ty,pos,after,guard⟩=_
  simp only[wR,Yp,Lo];cases C8 E.G f ps.toList <;> rfl
 case buildSlice t n ps =>
  simp only[Bg]
  show Sn t n ps E f S ⟨dst,.buildSlice t n ps,ty,pos,after,guard⟩=_
  simp only[Sn,Yp,Lo];cases C8 E.G f ps.toList <;> rfl
def putR(n:Nat)(f:Fr)(dst:Option Tmp)(a:AV)(S:St):O:=Option.rec (motive:=fun _=>O) (.out .normal f S) (fun d=>Bool.rec (motive:=fun _=>O) .fail (.out .normal ⟨T.set f.tmps d (some a),f.dfr⟩ S) (Nat.ble (Nat.succ d) n)) dst
theorem Wx(n:Nat)(f:Fr)(dst:Option Tmp)(a:AV)(S:St):putR n f dst a S=M9 n f dst a S:=by
 cases dst with
 |none=>rfl
 |some d =>
  show Bool.rec (motive:=fun _=>O) .fail (.out .normal ⟨T.set f.tmps d (some a),f.dfr⟩ S) (Nat.ble (Nat.succ d) n)=if d<n then _ else _
  by_cases h:d<n
  ·rw[if_pos h,Nat.ble_eq_true_of_le h]
  ·rw[if_neg h]
   have:Nat.ble (Nat.succ d) n=false:=by
    cases hb:Nat.ble (Nat.succ d) n with
    |false=>rfl
    |true=>exact absurd (Jd3 hb) h
   rw[this]
def Wj(ops:Array Oper)(o:Oper)(f:T AV):Option Bool:=Option.rec (motive:=fun _=>Option Bool) (some true) (fun _=>Bc ops o f) o.guard
theorem Vs(ops:Array Oper)(o:Oper)(f:T AV):Wj ops o f=Bc ops o f:=by
 unfold Wj
 cases h:o.guard with
 |none=>simp[Bc,h]
 |some g=>rfl
def retR(n:Nat)(f:Fr)(dst:Option Tmp)(r:R):O:=R.rec (motive:=fun _=>O) (fun a S=>putR n f dst a S) (fun a S=>.out (.pan a) f S) .fail r
def yieldR(callK:Dk)(n:Nat)(dst:Option Tmp)(f:Fr)(r:OR):O:=OR.rec (motive:=fun _=>O)
 (fun a S=>putR n f dst a S) (fun S=>putR n f dst (.tup []) S) (fun k args S=>retR n f dst (callK k args S)) (fun fn caps args S=>putR n ⟨f.tmps,⟨fn,caps,args⟩ :: f.dfr⟩ dst (.tup []) S) (fun a S=>.out (.pan a) f S) .fail r
def nH(E:Env)(callK:Dk)(n:Nat)(ops:Array Oper)(o:Oper)(f:Fr)(S:St):O :=
 Option.rec (motive:=fun _=>O) .fail (fun b=>Bool.rec (motive:=fun _=>O) (putR n f o.dst (.tup []) S) (yieldR callK n o.dst f (Tp E f.tmps S o)) b) (Wj ops o f.tmps)
theorem stepOR_eq(E:Env)(callK:Dk)(n:Nat)(ops:Array Oper)(o:Oper)(f:Fr)(S:St):nH E callK n ops o f S=Fj E callK n ops o f S:=by
 unfold nH Fj;rw[Vs,Q6]
 cases Bc ops o f.tmps with
 |none=>rfl
 |some b =>
  cases b with
  |false=>exact Wx ..
  |true =>
   dsimp only;unfold yieldR
   cases Bg E f.tmps S o with
   |val a S'=>exact Wx ..
   |skip S'=>exact Wx ..
   |enter k args S' =>
    dsimp only;unfold retR
    cases callK k args S' with
    |ret a S''=>exact Wx ..
    |pan a S''=>rfl
    |fail=>rfl
   |dfr fn caps args S'=>exact Wx ..
   |pan a S'=>rfl
   |fail=>rfl
def jA(k:Fr→St→O)(r:O):O:=O.rec (motive:=fun _=>O) (fun e f S=>Ex.rec (motive:=fun _=>O) (k f S) (fun i=>.out (.exit i) f S) (.out .ret f S) (fun a=>.out (.pan a) f S) e) .fail r
def runLR(E:Env)(callK:Dk)(n:Nat)(ops:Array Oper)(l:List Oper):Fr→St→O:=List.rec (motive:=fun _=>Fr→St→O) (fun f S=>.out .normal f S) (fun o _ ih f S=>jA ih (nH E callK n ops o f S)) l
theorem rR(E:Env)(callK:Dk)(n:Nat)(ops:Array Oper):∀(l:List Oper) (f:Fr) (S:St),runLR E callK n ops l f S=dB E callK n ops l f S
 | [],f,S=>rfl
 |o :: r,f,S=>by
  show jA (runLR E callK n ops r) (nH E callK n ops o f S)=_
  rw[stepOR_eq];unfold dB
  cases Fj E callK n ops o f S with
  |fail=>rfl
  |out e f' S'=>cases e <;> first |exact rR E callK n ops r f' S' |rfl
def tO(E:Env)(ops:Array Oper)(o:Oper)(f:T AV)(S:St):Option AV :=
 Option.rec (motive:=fun _=>Option AV) none (fun b=>Bool.rec (motive:=fun _=>Option AV) (some (.tup [])) (OR.rec (motive:=fun _=>Option AV) (fun a _=>some a) (fun _=>none) (fun _ _ _=>none) (fun _ _ _ _=>none) (fun _ _=>none) none (Tp E f S o)) b) (Wj ops o f)
theorem tN(E:Env)(ops:Array Oper)(o:Oper)(f:T AV)(S:St):tO E ops o f S=Fq E ops o f S:=by
 unfold tO Fq;rw[Vs,Q6]
 cases Bc ops o f with
 |none=>rfl
 |some b =>
  cases b with
  |false=>rfl
  |true=>dsimp only;cases Bg E f S o <;> rfl
def Ta(E:Env)(ops:Array Oper)(m:Nat)(S:St)(l:Look):Bool:=Bool.rec (motive:=fun _=>Bool) (Option.rec (motive:=fun _=>Bool) false (fun b=>D1 l.a b) (tO E ops l.o l.f S)) true (m.testBit l.idx || Lg l.o)
theorem sK(E:Env)(ops:Array Oper)(m:Nat)(S:St)(l:Look):Ta E ops m S l=Iu E ops m S l:=by
 unfold Ta Iu;rw[tN];cases m.testBit l.idx <;> cases Lg l.o
 ·cases Fq E ops l.o l.f S <;> rfl
 ·rfl
 ·rfl
 ·rfl
def allR{α:Type}(p:α→Bool)(l:List α):Bool:=List.rec (motive:=fun _=>Bool) true (fun a _ ih=>Bool.rec (motive:=fun _=>Bool) false ih (p a)) l
theorem allR_eq{α:Type}(p:α→Bool):∀l:List α,allR p l=l.all p
 | []=>rfl
 |a :: r=>by
  show Bool.rec (motive:=fun _=>Bool) false (allR p r) (p a)=_
  rw[allR_eq p r,List.all_cons];cases p a <;> rfl
def nG(E:Env)(callK:Dk)(ops:Array Oper)(o:Oper)(f:T AV)(S:St):SR1 :=
 Option.rec (motive:=fun _=>SR1) .fail (fun b=>Bool.rec (motive:=fun _=>SR1) (.val (.tup []) S) (OR.rec (motive:=fun _=>SR1) (fun a S'=>.val a S') (fun S'=>.val (.tup []) S') (fun k args S'=>R.rec (motive:=fun _=>SR1) (fun a S''=>.val a S'') (fun a S''=>.pan a S'') .fail (callK k args S')) (fun fn caps args S'=>.dfr ⟨fn,caps,args⟩ S') (fun a S'=>.pan a S') .fail (Tp E f S o)) b) (Wj ops o f)
theorem stepRR_eq(E:Env)(callK:Dk)(ops:Array Oper)(o:Oper)(f:T AV)(S:St):nG E callK ops o f S=Mu E callK ops o f S:=by
 unfold nG Mu;rw[Vs,Q6]
 cases Bc ops o f with
 |none=>rfl
 |some b =>
  cases b with
  |false=>rfl
  |true =>
   dsimp only
   cases Bg E f S o with
   |enter k args S'=>dsimp only;cases callK k args S' <;> rfl
   |_=>rfl
def actR(n:Nat)(fb f:Fr)(dst:Option Tmp)(L:List Look)(chk:St→Look→Bool)(k:Fr→St→List Look→O)(r:SR1):O:=SR1.rec (motive:=fun _=>O)
 (fun a S'=>Bool.rec (motive:=fun _=>O) .fail (Bool.rec (motive:=fun _=>O) .fail (k (Hs f dst a) S' L) (allR (chk S') L)) (okD n dst)) (fun _ _=>.fail) (fun a S'=>.out (.pan a) fb S') .fail r
def drunR(E:Env)(callK:Dk)(n:Nat)(ops:Array Oper)(ms:List Nat)(fb:Fr)(l:List Nat):Fr→St→List Look→O:=List.rec (motive:=fun _=>Fr→St→List Look→O) (fun f S _=>.out .normal f S)
 (fun i _ ih f S L=>Option.rec (motive:=fun _=>O) .fail (fun o=>Bool.rec (motive:=fun _=>O)
  (actR n fb f o.dst L (Ta E ops (ms.getD i 0)) ih (nG E callK ops o f.tmps S))
  (Option.rec (motive:=fun _=>O) .fail (fun a=>Bool.rec (motive:=fun _=>O) .fail (ih (Hs f o.dst a) S (⟨i,o,f.tmps,a⟩ :: L)) (okD n o.dst)) (tO E ops o f.tmps S)) (Gc o)) ops[i]?) l
theorem fS(E:Env)(callK:Dk)(n:Nat)(ops:Array Oper)(ms:List Nat)(fb:Fr):∀(l:List Nat) (f:Fr) (S:St) (L:List Look),drunR E callK n ops ms fb l f S L=Gx E callK n ops ms fb l f S L
 | [],f,S,L=>by unfold Gx;rfl
 |i :: r,f,S,L=>by
  show Option.rec (motive:=fun _=>O) .fail (fun o=>Bool.rec (motive:=fun _=>O)
   (actR n fb f o.dst L (Ta E ops (ms.getD i 0)) (drunR E callK n ops ms fb r) (nG E callK ops o f.tmps S))
   (Option.rec (motive:=fun _=>O) .fail (fun a=>Bool.rec (motive:=fun _=>O) .fail (drunR E callK n ops ms fb r (Hs f o.dst a) S (⟨i,o,f.tmps,a⟩ :: L)) (okD n o.dst)) (tO E ops o f.tmps S)) (Gc o)) ops[i]? = _
  unfold Gx
  cases ops[i]? with
  |none=>rfl
  |some o =>
   dsimp only;rw[tN,stepRR_eq]
   cases Gc o with
   |true =>
    rw[if_pos rfl];dsimp only
    cases Fq E ops o f.tmps S with
    |none=>rfl
    |some a =>
     dsimp only
     cases okD n o.dst with
     |false=>rfl
     |true=>rw[if_pos rfl];exact fS E callK n ops ms fb r _ S _
   |false =>
    rw[if_neg (by simp)]
    unfold actR;dsimp only
    cases Mu E callK ops o f.tmps S with
    |val a S' =>
     dsimp only;have hch:Ta E ops (ms.getD i 0) S' = Iu E ops (ms.getD i 0) S':=funext fun l=>sK E ops _ S' l
     rw[hch,allR_eq]
     cases okD n o.dst with
     |false=>rfl
     |true =>
      cases L.all (Iu E ops (ms.getD i 0) S')with
      |false=>rfl
      |true=>exact fS E callK n ops ms fb r _ S' L
    |_=>rfl
def V4(E:Env):Lj:=fun callK n ops f S =>
 Bool.rec (motive:=fun _=>O) .fail (drunR E callK n ops (bm ops.toList []) ⟨Gf ops.toList f.tmps,f.dfr⟩ (Kp ops (bm ops.toList []) ops.size (List.range ops.size) 0) f S []) (Rp ops (bm ops.toList []) (Kp ops (bm ops.toList []) ops.size (List.range ops.size) 0))
theorem Zb(E:Env):V4 E=H1 E:=by
 funext callK n ops f S
 unfold V4 H1;rw[fS];dsimp only;cases Rp ops (bm ops.toList []) (Kp ops (bm ops.toList []) ops.size (List.range ops.size) 0) <;> rfl
abbrev XC:=Env→Lj→(Nat→Code→Fr→St→O)→Dk→Nat→Code→Fr→St→O
def Xw:XC:=fun E D rec callK n c f S=>Dt E D rec callK n c f S
def cRegion(_:Nat)(ops:Array Oper)(d:Bool):XC:=fun E D rec callK n c f S=>Bool.rec (motive:=fun _=>O) (runLR E callK n ops ops.toList f S) (D callK n ops f S) d
def cSeq(a b:Code)(_ _:XC):XC:=fun E D rec callK n c f S=>jA (rec n b) (rec n a f S)
def condR(a b:O)(x:Option AV):O:=match x with
 |some (.v (.bool true))=>a
 |some (.v (.bool false))=>b
 |_=>.fail
theorem condR_eq(a b:O)(x:Option AV):condR a b x=(match x with
 |some (.v (.bool true))=>a
 |some (.v (.bool false))=>b
 |_=>.fail:O):=by unfold condR;rfl
def cLoop(a:Code):XC:=fun E D rec callK n c f S=>jA (rec n c) (rec n a f S)
def cCond(x:Operand)(a b:Code)(_ _:XC):XC:=fun E D rec callK n c f S=>condR (rec n a f S) (rec n b f S) (G2 E.G f.tmps x)
def cL(E:Env)(D:Lj)(rec:Nat→Code→Fr→St→O)(callK:Dk)(n:Nat)(c:Code)(f:Fr)(S:St):O :=
 Code.rec (motive:=fun _=>XC) Xw cRegion cSeq cCond (fun _ _ _=>Xw) (fun c _=>cLoop c) (fun _ _ _ _ _ _=>Xw) (fun _=>Xw) (fun _ _=>Xw) (fun _=>Xw) (fun _=>Xw) Xw (fun _=>Xw) c E D rec callK n c f S
theorem jE(E:Env)(D:Lj)(rec:Nat→Code→Fr→St→O)(callK:Dk)(n:Nat)(c:Code)(f:Fr)(S:St):cL E D rec callK n c f S=Dt E D rec callK n c f S:=by
 cases c <;> try rfl
 case region id ops d =>
  cases d with
  |false=>exact rR ..
  |true=>rfl
 case seq a b =>
  show jA (rec n b) (rec n a f S)=_
  simp only[Dt]
  cases rec n a f S with
  |fail=>rfl
  |out e f' S'=>cases e <;> rfl
 case cond x a b =>
  show condR (rec n a f S) (rec n b f S) (G2 E.G f.tmps x)=_
  simp only[Dt];rw[Fo];exact condR_eq _ _ _
 case loop a =>
  show jA (rec n (.loop a)) (rec n a f S)=_
  simp only[Dt]
  cases rec n a f S with
  |fail=>rfl
  |out e f' S'=>cases e <;> rfl
end Go.Ax
noncomputable section
namespace Go.Ax
open Go.RowKit
theorem SR.after{base:Nat}{w0 w w':World}{γ:Gh}{S:St}(h:SR base w0 γ S w)(hb:Below w.heap.size w w'):SR base w0 γ S w'∧Ext γ S w γ S w':=by
 have hc:∀b o v,w.cell? ⟨b,o,none⟩=some v→w'.cell? ⟨b,o,none⟩=some v:=fun b o v hv=>(hb.cell (World.block_lt_of_cell? w _ hv)).trans hv
 have ev:Ev γ w γ w':=⟨fun _ _ h=>h,fun _ _ h=>h,fun b o v _ hv=>hc b o v hv,fun b arr T fr ha=>⟨arr,fr,(hb.block b (Jb9.1 ha).1).trans ha,rfl⟩⟩
 refine⟨⟨h.below.trans (hb.mono h.hbase),Jb2 h.hbase hb.size,fun b o hi=>?_,h.fresh,h.pos,fun id b s e=>Ja0 (h.inb id b s e) hb.size,fun id c e=>?_,h.inj⟩,
  ⟨ev,Ja1 _,fun _ _=>rfl,hb.size,fun id c b s h l=>.inr ⟨id,c,s,h,l⟩,fun b hl _=>⟨hb.block b hl,fun _ h=>h⟩⟩⟩
 ·obtain⟨v,hv⟩:=h.imc b o hi;exact⟨v,hc b o v hv⟩
 ·obtain⟨b,s,h1,h2,h3⟩:=h.live id c e
  exact⟨b,s,h1,h2,h3.keep ev (hb.block b (h.inb id b s h1)) (fun _ h=>h)⟩
def Gq(g:List AV→Option AV)(args:List AV)(S:St):R:=match g args with
 |some a=>.ret a S
 |none=>.fail
theorem VRL.two{γ:Gh}{w:World}{a b:AV}{vs:List Value}(h:VRL γ w [a,b] vs):∃x y,vs=[x,y]∧VR γ w a x∧VR γ w b y:=by
 obtain⟨h1,h2⟩:=h
 match vs,h1 with
 | [x,y],_=>exact⟨x,y,rfl,h2 0 (by simp) (by simp),h2 1 (by simp) (by simp)⟩
def St0:St:={ next:=2,mem:=.leaf }
theorem GR.none{γ:Gh}{w:World}:GR γ w (fun _=>Option.none):=fun _ _ h=>(by cases h)
section
variable {E:Env}
end
end Go.Ax
noncomputable section
namespace Go.Ax
open Go.RowKit
abbrev Ck:=Dk→T AV→List Dfr→St→O
structure Bx where
 c:Ck
structure GB where
 g:T AV→Option AV
structure SB where
 s:T AV→AV→T AV
structure VB where
 v:T AV→St→Option AV
structure FB where
 f:Dk→List AV→St→R
def gEnd:GB:=⟨fun t=>T.rec (motive:=fun _=>Option AV) none (fun v _ _ _ _ _ _ _ _=>v) t⟩
def gC0(b:GB):GB:=⟨fun t=>T.rec (motive:=fun _=>Option AV) none (fun _ c _ _ _ _ _ _ _=>b.g c) t⟩
def gC1(b:GB):GB:=⟨fun t=>T.rec (motive:=fun _=>Option AV) none (fun _ _ c _ _ _ _ _ _=>b.g c) t⟩
def gC2(b:GB):GB:=⟨fun t=>T.rec (motive:=fun _=>Option AV) none (fun _ _ _ c _ _ _ _ _=>b.g c) t⟩
def gC3(b:GB):GB:=⟨fun t=>T.rec (motive:=fun _=>Option AV) none (fun _ _ _ _ c _ _ _ _=>b.g c) t⟩
def pathG(p:List D4):GB:=List.rec (motive:=fun _=>GB) gEnd (fun d _ ih=>D4.rec (motive:=fun _=>GB) (gC0 ih) (gC1 ih) (gC2 ih) (gC3 ih) d) p
theorem Tc:∀(p:List D4) (t:T AV),(pathG p).g t=t.getP p
 | [],.leaf=>rfl
 | [],.node .. => rfl
 |d :: p,.leaf=>by cases d <;> rfl
 |d :: p,.node v c0 c1 c2 c3=>by
  cases d
  ·exact Tc p c0
  ·exact Tc p c1
  ·exact Tc p c2
  ·exact Tc p c3
def sEnd:SB:=⟨fun t a=>T.rec (motive:=fun _=>T AV) (.node (some a) .leaf .leaf .leaf .leaf) (fun _ c0 c1 c2 c3 _ _ _ _=>.node (some a) c0 c1 c2 c3) t⟩
def sC0(b:SB):SB:=⟨fun t a=>T.rec (motive:=fun _=>T AV) (.node none (b.s .leaf a) .leaf .leaf .leaf) (fun v c0 c1 c2 c3 _ _ _ _=>.node v (b.s c0 a) c1 c2 c3) t⟩
def sC1(b:SB):SB:=⟨fun t a=>T.rec (motive:=fun _=>T AV) (.node none .leaf (b.s .leaf a) .leaf .leaf) (fun v c0 c1 c2 c3 _ _ _ _=>.node v c0 (b.s c1 a) c2 c3) t⟩
def sC2(b:SB):SB:=⟨fun t a=>T.rec (motive:=fun _=>T AV) (.node none .leaf .leaf (b.s .leaf a) .leaf) (fun v c0 c1 c2 c3 _ _ _ _=>.node v c0 c1 (b.s c2 a) c3) t⟩
def sC3(b:SB):SB:=⟨fun t a=>T.rec (motive:=fun _=>T AV) (.node none .leaf .leaf .leaf (b.s .leaf a)) (fun v c0 c1 c2 c3 _ _ _ _=>.node v c0 c1 c2 (b.s c3 a)) t⟩
def Ve(p:List D4):SB:=List.rec (motive:=fun _=>SB) sEnd (fun d _ ih=>D4.rec (motive:=fun _=>SB) (sC0 ih) (sC1 ih) (sC2 ih) (sC3 ih) d) p
theorem dP:∀(p:List D4) (t:T AV) (a:AV),(Ve p).s t a=T.setP p t (some a)
 | [],.leaf,a=>rfl
 | [],.node ..,a=>rfl
 |d :: p,.leaf,a=>by
  have ih:=dP p .leaf a;cases d
  ·show T.node none ((Ve p).s .leaf a) _ _ _=T.node none (T.setP p .leaf (some a)) _ _ _;rw[ih]
  ·show T.node none _ ((Ve p).s .leaf a) _ _=T.node none _ (T.setP p .leaf (some a)) _ _;rw[ih]
  ·show T.node none _ _ ((Ve p).s .leaf a) _=T.node none _ _ (T.setP p .leaf (some a)) _;rw[ih]
  ·show T.node none _ _ _ ((Ve p).s .leaf a)=T.node none _ _ _ (T.setP p .leaf (some a));rw[ih]
 |d :: p,.node v c0 c1 c2 c3,a=>by
  have ih:=fun t=>dP p t a
  cases d
  ·show T.node v ((Ve p).s c0 a) _ _ _=T.node v (T.setP p c0 (some a)) _ _ _;rw[ih]
  ·show T.node v _ ((Ve p).s c1 a) _ _=T.node v _ (T.setP p c1 (some a)) _ _;rw[ih]
  ·show T.node v _ _ ((Ve p).s c2 a) _=T.node v _ _ (T.setP p c2 (some a)) _;rw[ih]
  ·show T.node v _ _ _ ((Ve p).s c3 a)=T.node v _ _ _ (T.setP p c3 (some a));rw[ih]
def oU(n:Nat):GB:=pathG (path n)
def setS(n:Nat):SB:=Ve (path n)
theorem Xh(n:Nat)(t:T AV):(oU n).g t=t.get n:=Tc _ _
theorem setS_ok(n:Nat)(t:T AV)(a:AV):(setS n).s t a=t.set n (some a):=dP _ _ _
def zP(x:Option AV):GB:=⟨fun _=>x⟩
def opG(G:Gl)(x:Operand):GB:=Operand.rec (motive:=fun _=>GB) (fun t=>oU t) (fun v=>zP (Bo 8 v)) (fun g=>zP (A6 G .leaf (.global g))) (fun k=>zP (some (.fn (.func k) [] []))) x
theorem G5(G:Gl)(x:Operand)(f:T AV):(opG G x).g f=A6 G f x:=by
 cases x with
 |tmp t=>exact Xh t f
 |_=>rfl
inductive SV where
 |b (x:Bool)
 |i (k:IntKind) (x:Int)
 |s (l:List UInt8)
 |no
inductive PV where
 |p (id off:Nat)
 |e (cs:List AV)
 |n
 |l (tok off sz:Nat) (es:List AV)
 |a (cs:List AV)
 |t (cs:List AV)
 |no
 |w (id off n sz:Nat)
def svV(x:Value):SV:=Value.rec (motive_1:=fun _=>SV) (motive_2:=fun _=>Unit) (motive_3:=fun _=>Unit) SV.b SV.i (fun _ _=>.no) (fun _ _ _=>.no) (fun s=>.s s.data.toList) (fun _=>.no) (fun _ _ _=>.no) (fun _=>.no) (fun _=>.no) (fun _ _ _ _ _=>.no) .no (fun _ _ _=>.no) .no (fun _ _=>.no) (fun _ _=>.no) (fun _ _=>()) () (fun _ _ _ _=>()) x
def AV.sv(a:AV):SV:=AV.rec (motive_1:=fun _=>SV) (motive_2:=fun _=>Unit) svV .no (fun _ _=>.no) (fun _ _=>.no) .no (fun _ _ _ _ _=>.no) .no (fun _=>.no) (fun _ _ _ _ _=>.no) (fun _ _ _=>.no) (fun _ _=>.no) (fun _ _=>.no) (fun _ _ _ _=>.no) () (fun _ _ _ _=>()) a
def AV.pv(a:AV):PV:=AV.rec (motive_1:=fun _=>PV) (motive_2:=fun _=>Unit) (fun _=>.no) .no PV.p (fun cs _=>.e cs) .n (fun tok off sz es _=>.l tok off sz es) .no (fun _=>.no) (fun _ _ _ _ _=>.no) (fun _ _ _=>.no) (fun cs _=>.a cs) (fun cs _=>.t cs) PV.w () (fun _ _ _ _=>()) a
theorem sv_b{a:AV}{x:Bool}(h:a.sv=.b x):a=.v (.bool x):=by
 cases a with
 |v y=>cases y <;> cases h;rfl
 |_=>cases h
theorem sv_i{a:AV}{k:IntKind}{x:Int}(h:a.sv=.i k x):a=.v (.int k x):=by
 cases a with
 |v y=>cases y <;> cases h;rfl
 |_=>cases h
theorem sv_s{a:AV}{l:List UInt8}(h:a.sv=.s l):∃s:ByteArray,a=.v (.string s)∧s.data.toList=l:=by
 cases a with
 |v y=>cases y <;> cases h;exact⟨_,rfl,rfl⟩
 |_=>cases h
theorem pv_p{a:AV}{id off:Nat}(h:a.pv=.p id off):a=.ptr id off:=by cases a <;> cases h;rfl
theorem pv_e{a:AV}{cs:List AV}(h:a.pv=.e cs):a=.ep cs:=by cases a <;> cases h;rfl
theorem pv_n{a:AV}(h:a.pv=.n):a=.nils:=by cases a <;> cases h;rfl
theorem pv_l{a:AV}{tok off sz:Nat}{es:List AV}(h:a.pv=.l tok off sz es):a=.sl tok off sz es:=by cases a <;> cases h;rfl
theorem pv_a{a:AV}{cs:List AV}(h:a.pv=.a cs):a=.agg cs:=by cases a <;> cases h;rfl
theorem pv_w{a:AV}{id off n sz:Nat}(h:a.pv=.w id off n sz):a=.bs id off n sz:=by cases a <;> cases h;rfl
theorem pv_t{a:AV}{cs:List AV}(h:a.pv=.t cs):a=.tup cs:=by cases a <;> cases h;rfl
def Yx{α:Type}(l:List α):Nat:=List.rec (motive:=fun _=>Nat) 0 (fun _ _ n=>Nat.succ n) l
theorem Ox{α:Type}:∀l:List α,Yx l=l.length
 | []=>rfl
 |_ :: r=>congrArg Nat.succ (Ox r)
def atR{α:Type}(n:Nat):List α→Option α:=Nat.rec (motive:=fun _=>List α→Option α) (fun l=>List.rec (motive:=fun _=>Option α) none (fun c _ _=>some c) l) (fun _ ih l=>List.rec (motive:=fun _=>Option α) none (fun _ r _=>ih r) l) n
theorem Wf{α:Type}:∀(n:Nat) (l:List α),atR n l=l[n]?
 |0,[]=>rfl
 |0,_ :: _=>rfl
 |n+1,[]=>rfl
 |n+1,_ :: r=>(Wf n r).trans (by simp)
def fT{α:Type}(n:Nat):List α→Option (List α):=Nat.rec (motive:=fun _=>List α→Option (List α)) (fun l=>some l) (fun _ ih l=>List.rec (motive:=fun _=>Option (List α)) none (fun _ r _=>ih r) l) n
theorem Pn{α:Type}:∀(n:Nat) (l r:List α),fT n l=some r→n≤l.length∧r=l.drop n
 |0,l,r,h=>by injection h with h;subst h;exact⟨Nat.zero_le _,rfl⟩
 |n+1,[],r,h=>by cases h
 |n+1,_ :: l,r,h=>by
  obtain⟨h1,h2⟩:=Pn n l r h;exact⟨by simpa using h1,h2⟩
def Pq{α:Type}(c:α)(o:Option (List α)):Option (List α):=Option.rec (motive:=fun _=>Option (List α)) none (fun r=>some (c :: r)) o
def Wn{α:Type}(n:Nat):List α→Option (List α):=Nat.rec (motive:=fun _=>List α→Option (List α)) (fun l=>some []) (fun _ ih l=>List.rec (motive:=fun _=>Option (List α)) none (fun c r _=>Pq c (ih r)) l) n
theorem Rm{α:Type}:∀(n:Nat) (l r:List α),Wn n l=some r→n≤l.length∧r=l.take n
 |0,l,r,h=>by injection h with h;subst h;exact⟨Nat.zero_le _,rfl⟩
 |n+1,[],r,h=>by cases h
 |n+1,c :: l,r,h=>by
  have h:Pq c (Wn n l)=some r:=h
  cases hq:Wn n l with
  |none=>rw[hq]at h;cases h
  |some q =>
   rw[hq]at h;have h:some (c :: q)=some r:=h;injection h with h;subst h
   obtain⟨h1,h2⟩:=Rm n l q hq;exact⟨by simpa using h1,by rw[h2];rfl⟩
def overR{α:Type}(ys:List α):List α→Option (List α):=List.rec (motive:=fun _=>List α→Option (List α)) (fun l=>some l) (fun y _ ih l=>List.rec (motive:=fun _=>Option (List α)) none (fun _ r _=>Pq y (ih r)) l) ys
theorem dS{α:Type}:∀(ys l r:List α),overR ys l=some r→ys.length≤l.length∧r=ys ++ l.drop ys.length
 | [],l,r,h=>by injection h with h;subst h;exact⟨Nat.zero_le _,rfl⟩
 |y :: ys,[],r,h=>by cases h
 |y :: ys,c :: l,r,h=>by
  have h:Pq y (overR ys l)=some r:=h
  cases hq:overR ys l with
  |none=>rw[hq]at h;cases h
  |some q =>
   rw[hq]at h;have h:some (y :: q)=some r:=h;injection h with h;subst h
   obtain⟨h1,h2⟩:=dS ys l q hq;exact⟨by simpa using h1,by rw[h2];rfl⟩
def Np{α:Type}(n:Nat)(ys:List α):List α→Option (List α):=Nat.rec (motive:=fun _=>List α→Option (List α)) (fun l=>overR ys l) (fun _ ih l=>List.rec (motive:=fun _=>Option (List α)) none (fun c r _=>Pq c (ih r)) l) n
theorem Rw{α:Type}(ys:List α):∀(n:Nat) (l r:List α),Np n ys l=some r→n+ys.length≤l.length∧r=l.take n ++ ys ++ l.drop (n+ys.length)
 |0,l,r,h=>by
  obtain⟨h1,h2⟩:=dS ys l r h;exact⟨by omega,by rw[h2];simp⟩
 |n+1,[],r,h=>by cases h
 |n+1,c :: l,r,h=>by
  have h:Pq c (Np n ys l)=some r:=h
  cases hq:Np n ys l with
  |none=>rw[hq]at h;cases h
  |some q =>
   rw[hq]at h;have h:some (c :: q)=some r:=h;injection h with h;subst h
   obtain⟨h1,h2⟩:=Rw ys n l q hq;refine⟨by simp;omega,?_⟩
   rw[h2,show n+1+ys.length=(n+ys.length)+1 by omega]
   simp
def ltI1(a:Nat)(y:Int):Bool:=Int.rec (motive:=fun _=>Bool) (fun b=>Nat.ble (Nat.succ a) b) (fun _=>false) y
def ltI2(a:Nat)(y:Int):Bool:=Int.rec (motive:=fun _=>Bool) (fun _=>true) (fun b=>Nat.ble (Nat.succ b) a) y
def ltI(x y:Int):Bool:=Int.rec (motive:=fun _=>Int→Bool) ltI1 ltI2 x y
theorem oF(x y:Int):ltI x y=decide (x<y):=by
 cases x <;> cases y
 ·rename_i a b
  show Nat.ble (a+1) b=_
  by_cases h:a<b
  ·rw[Nat.ble_eq_true_of_le h];symm;rw[decide_eq_true_iff];show(a:Int)<b;omega
  ·have:Nat.ble (a+1) b=false:=by
    cases hb:Nat.ble (a+1) b with
    |false=>rfl
    |true=>exact absurd (Jd3 hb) h
   rw[this];symm;rw[decide_eq_false_iff_not];show ¬ (a:Int)<b;omega
 ·rename_i a b;show false=_;symm;rw[decide_eq_false_iff_not];simp only[Int.ofNat_eq_natCast];omega
 ·rename_i a b;show true=_;symm;rw[decide_eq_true_iff];simp only[Int.ofNat_eq_natCast];omega
 ·rename_i a b
  show Nat.ble (b+1) a=_
  by_cases h:b<a
  ·rw[Nat.ble_eq_true_of_le h];symm;rw[decide_eq_true_iff];omega
  ·have:Nat.ble (b+1) a=false:=by
    cases hb:Nat.ble (b+1) a with
    |false=>rfl
    |true=>exact absurd (Jd3 hb) h
   rw[this];symm;rw[decide_eq_false_iff_not];omega
def eqI1(a:Nat)(y:Int):Bool:=Int.rec (motive:=fun _=>Bool) (fun b=>Nat.beq a b) (fun _=>false) y
def eqI2(a:Nat)(y:Int):Bool:=Int.rec (motive:=fun _=>Bool) (fun _=>false) (fun b=>Nat.beq a b) y
def eqI(x y:Int):Bool:=Int.rec (motive:=fun _=>Int→Bool) eqI1 eqI2 x y
theorem X3(a b:Nat):Nat.beq a b=decide (a=b):=by
 cases h:Nat.beq a b with
 |true=>rw[Jc1 h];simp
 |false=>symm;rw[decide_eq_false_iff_not];exact Nat.ne_of_beq_eq_false h
theorem eqI_eq(x y:Int):eqI x y=(x == y):=by
 rw[show(x == y)=decide (x=y) from rfl]
 cases x <;> cases y
 ·rename_i a b;show Nat.beq a b=_;rw[X3];congr 1;simp;omega
 ·rename_i a b;show false=_;symm;rw[decide_eq_false_iff_not];exact fun e=>by cases e
 ·rename_i a b;show false=_;symm;rw[decide_eq_false_iff_not];exact fun e=>by cases e
 ·rename_i a b;show Nat.beq a b=_;rw[X3];congr 1;simp
def notR(b:Bool):Bool:=Bool.rec (motive:=fun _=>Bool) true false b
theorem aY(b:Bool):notR b=!b:=by cases b <;> rfl
def kI8(k:IntKind):Bool:=IntKind.rec (motive:=fun _=>Bool) true false false false false false false false k
def kI16(k:IntKind):Bool:=IntKind.rec (motive:=fun _=>Bool) false true false false false false false false k
def kI32(k:IntKind):Bool:=IntKind.rec (motive:=fun _=>Bool) false false true false false false false false k
def kI64(k:IntKind):Bool:=IntKind.rec (motive:=fun _=>Bool) false false false true false false false false k
def kU8(k:IntKind):Bool:=IntKind.rec (motive:=fun _=>Bool) false false false false true false false false k
def kU16(k:IntKind):Bool:=IntKind.rec (motive:=fun _=>Bool) false false false false false true false false k
def kU32(k:IntKind):Bool:=IntKind.rec (motive:=fun _=>Bool) false false false false false false true false k
def kU64(k:IntKind):Bool:=IntKind.rec (motive:=fun _=>Bool) false false false false false false false true k
def eqK(k k':IntKind):Bool:=IntKind.rec (motive:=fun _=>IntKind→Bool) kI8 kI16 kI32 kI64 kU8 kU16 kU32 kU64 k k'
theorem eqK_eq{k k':IntKind}(h:eqK k k' = true):k=k':=by cases k <;> cases k' <;> first |rfl |cases h
def subNR1(a b:Nat)(d:Nat):Int:=Nat.rec (motive:=fun _=>Int) (.ofNat (Nat.sub a b)) (fun e _=>.negSucc e) d
def Wq(a b:Nat):Int:=subNR1 a b (Nat.sub b a)
theorem Wp(a b:Nat):Wq a b=(a:Int) - b:=by
 unfold Wq
 cases h:Nat.sub b a with
 |zero =>
  have h:b - a=0:=h
  show Int.ofNat (a - b)=_
  rw[Int.ofNat_eq_natCast];omega
 |succ e =>
  have h:b - a=e+1:=h
  show Int.negSucc e=_
  omega
def addI1(a:Nat)(y:Int):Int:=Int.rec (motive:=fun _=>Int) (fun b=>.ofNat (Nat.add a b)) (fun b=>Wq a (Nat.succ b)) y
def addI2(a:Nat)(y:Int):Int:=Int.rec (motive:=fun _=>Int) (fun b=>Wq b (Nat.succ a)) (fun b=>.negSucc (Nat.succ (Nat.add a b))) y
def addI(x y:Int):Int:=Int.rec (motive:=fun _=>Int→Int) addI1 addI2 x y
theorem addI_eq(x y:Int):addI x y=x+y:=by
 cases x <;> cases y
 ·rfl
 ·rename_i a b;show Wq a (b+1)=_;rw[Wp];simp only[Int.ofNat_eq_natCast];omega
 ·rename_i a b;show Wq b (a+1)=_;rw[Wp];simp only[Int.ofNat_eq_natCast];omega
 ·rfl
def subI1(a:Nat)(y:Int):Int:=Int.rec (motive:=fun _=>Int) (fun b=>Wq a b) (fun b=>.ofNat (Nat.succ (Nat.add a b))) y
def subI2(a:Nat)(y:Int):Int:=Int.rec (motive:=fun _=>Int) (fun b=>.negSucc (Nat.add a b)) (fun b=>Wq b a) y
def subI(x y:Int):Int:=Int.rec (motive:=fun _=>Int→Int) subI1 subI2 x y
theorem subI_eq(x y:Int):subI x y=x - y:=by
 cases x <;> cases y
 ·rename_i a b;exact Wp a b
 ·rename_i a b;show((a+b+1:Nat):Int)=_;simp only[Int.ofNat_eq_natCast];omega
 ·rename_i a b;show Int.negSucc (a+b)=_;simp only[Int.ofNat_eq_natCast];omega
 ·rename_i a b;show Wq b a=_;rw[Wp];omega
def in64(x:Int):Bool:=Int.rec (motive:=fun _=>Bool) (fun n=>Nat.ble n 9223372036854775807) (fun n=>Nat.ble n 9223372036854775807) x
def aN(x:Int):Int:=Bool.rec (motive:=fun _=>Int) (IntKind.i64.wrap x) x (in64 x)
theorem bT(x:Int):aN x=IntKind.i64.wrap x:=by
 unfold aN
 cases h:in64 x with
 |false=>rfl
 |true =>
  show x=_
  have hb:-9223372036854775808≤x∧x≤9223372036854775807:=by
   cases x with
   |ofNat n=>have:=Jd3 h;simp only[Int.ofNat_eq_natCast];omega
   |negSucc n=>have:=Jd3 h;omega
  show x=(if(true && decide (x % (2 ^ 64:Int) ≥ (2 ^ (64 - 1):Int)))=true then x % (2 ^ 64:Int) - (2 ^ 64:Int)else x % (2 ^ 64:Int))
  simp only[Bool.true_and,decide_eq_true_iff];have e1:(2 ^ 64:Int)=18446744073709551616:=by decide
  have e2:(2 ^ (64 - 1):Int)=9223372036854775808:=by decide
  rw[e1,e2]
  split <;> omega
def wrapR(k:IntKind)(x:Int):Int:=Bool.rec (motive:=fun _=>Int) (k.wrap x) (aN x) (kI64 k)
theorem qI(k:IntKind)(x:Int):wrapR k x=k.wrap x:=by
 cases k <;> first |rfl |exact bT x
end Go.Ax
