/- Y -/
import Derived.Test.YtimbgdjbggdgmaaGreatDoorNcG7
set_option linter.unusedVariables false
set_option linter.unusedSimpArgs false
noncomputable section
namespace Go.Ax
open Go.RowKit
def bnd(h:AV→Option AV)(o:Option AV):Option AV:=Option.rec (motive:=fun _=>Option AV) none h o
theorem Fu{h:AV→Option AV}{o:Option AV}{r:AV}(e:bnd h o=some r):∃a,o=some a∧h a=some r:=by
 cases o with
 |none=>cases e
 |some a=>exact⟨a,rfl,e⟩
def zU(h:List AV→Option AV)(o:Option (List AV)):Option AV:=Option.rec (motive:=fun _=>Option AV) none h o
theorem Ni{h:List AV→Option AV}{o:Option (List AV)}{r:AV}(e:zU h o=some r):∃a,o=some a∧h a=some r:=by
 cases o with
 |none=>cases e
 |some a=>exact⟨a,rfl,e⟩
def VOk(E:Env)(o:Oper)(b:VB):Prop:=∀f S a,b.v f S=some a→Bg E f S o=.val a S
def Pl:VB:=⟨fun _ _=>none⟩
theorem vD{E:Env}{o:Oper}:VOk E o Pl:=fun f S a h=>by cases h
def I3(E:Env)(o:Oper):VB:=⟨fun f S=>OR.rec (motive:=fun _=>Option AV) (fun a _=>some a) (fun _=>none) (fun _ _ _=>none) (fun _ _ _ _=>none) (fun _ _=>none) none (Tp E f S o)⟩
theorem Kg{E:Env}{o:Oper}(hl:Gc o=true):VOk E o (I3 E o):=fun f S a h=>by
 have h:OR.rec (motive:=fun _=>Option AV) (fun a _=>some a) (fun _=>none) (fun _ _ _=>none) (fun _ _ _ _=>none) (fun _ _=>none) none (Tp E f S o)=some a:=h
 rw[Q6]at h;rcases kQ (E:=E) (f:=f) (S:=S) hl with⟨b,hb⟩ |hb
 ·rw[hb]at h
  have h:some b=some a:=h;injection h with h;subst h;exact hb
 ·rw[hb]at h;cases h
def moveV(g:GB):VB:=⟨fun f _=>g.g f⟩
def aggO(o:Option (List AV)):Option AV:=zU (fun l=>some (.agg l)) o
def cell1(c:Cell)(off:Nat):Option AV:=Cell.rec (motive:=fun _=>Nat→Option AV) (fun cs off=>atR off cs) (fun _ _=>none) (fun _ _=>none) c off
def cellO1(c:Option Cell)(off:Nat):Option AV:=Option.rec (motive:=fun _=>Nat→Option AV) (fun _=>none) cell1 c off
def ld1(S:St)(a:AV):Option AV:=PV.rec (motive:=fun _=>St→Option AV) (fun id off S=>cellO1 (S.mem.get id) off) (fun cs _=>atR 0 cs) (fun _=>none) (fun _ _ _ _ _=>none) (fun _ _=>none) (fun _ _=>none) (fun _=>none) (fun _ _ _ _ _=>none) a.pv S
theorem ld1_ok{P:Program}{t:TypeId}{S:St}{a x:AV}(ht:B9 P t=some false)(h:ld1 S a=some x):A8 P S t a=some x:=by
 unfold ld1 at h
 cases hp:a.pv with
 |p id off =>
  rw[hp]at h;rw[pv_p hp];have h:cellO1 (S.mem.get id) off=some x:=h
  cases hm:S.mem.get id with
  |none=>rw[hm]at h;cases h
  |some c =>
   rw[hm]at h
   cases c with
   |box cs =>
    have h:atR off cs=some x:=h;rw[Wf]at h;have hlt:=(Jc4.1 h).1;simp only[A8,Ca,hm,if_pos (Nat.le_of_lt hlt),ht];rw[List.head?_drop];exact h
   |tip m=>cases h
   |mp es=>cases h
 |e cs =>
  rw[hp]at h;rw[pv_e hp];have h:atR 0 cs=some x:=h;rw[Wf]at h;simp only[A8,Ca,ht];rw[List.head?_eq_getElem?];exact h
 |n=>rw[hp]at h;cases h
 |l=>rw[hp]at h;cases h
 |a=>rw[hp]at h;cases h
 |t=>rw[hp]at h;cases h
 |no=>rw[hp]at h;cases h
 |w=>rw[hp]at h;cases h
def cutR(off n:Nat)(cs:List AV):Option AV:=zU (fun r=>aggO (Wn n r)) (fT off cs)
theorem Zf{off n:Nat}{cs:List AV}{x:AV}(h:cutR off n cs=some x):off+n≤cs.length∧x=.agg ((cs.drop off).take n):=by
 obtain⟨r,h1,h2⟩:=Ni h;obtain⟨q,h3,h4⟩:=Ni h2;obtain⟨k1,rfl⟩:=Pn _ _ _ h1;obtain⟨k2,rfl⟩:=Rm _ _ _ h3;injection h4 with h4
 exact⟨by simp at k2;omega,h4.symm⟩
def cellN(n:Nat)(c:Cell)(off:Nat):Option AV:=Cell.rec (motive:=fun _=>Nat→Nat→Option AV) (fun cs n off=>cutR off n cs) (fun _ _ _=>none) (fun _ _ _=>none) c n off
def cellON(n:Nat)(c:Option Cell)(off:Nat):Option AV:=Option.rec (motive:=fun _=>Nat→Nat→Option AV) (fun _ _=>none) (fun c n off=>cellN n c off) c n off
def ldN(n:Nat)(S:St)(a:AV):Option AV:=PV.rec (motive:=fun _=>Nat→St→Option AV) (fun id off n S=>cellON n (S.mem.get id) off) (fun cs n _=>cutR 0 n cs) (fun _ _=>none) (fun _ _ _ _ _ _=>none) (fun _ _ _=>none) (fun _ _ _=>none) (fun _ _=>none) (fun _ _ _ _ _ _=>none) a.pv n S
theorem ldN_ok{P:Program}{t:TypeId}{n:Nat}{S:St}{a x:AV}(ht:B9 P t=some true)(hs:Cl P t=some n)(h:ldN n S a=some x):A8 P S t a=some x:=by
 unfold ldN at h
 cases hp:a.pv with
 |p id off =>
  rw[hp]at h;rw[pv_p hp];have h:cellON n (S.mem.get id) off=some x:=h
  cases hm:S.mem.get id with
  |none=>rw[hm]at h;cases h
  |some c =>
   rw[hm]at h
   cases c with
   |box cs =>
    have h:cutR off n cs=some x:=h;obtain⟨h1,rfl⟩:=Zf h;simp only[A8,Ca,hm,if_pos (show off≤cs.length by omega),ht,hs,Jb4]
    rw[if_pos (by omega)]
   |tip m=>cases h
   |mp es=>cases h
 |e cs =>
  rw[hp]at h;rw[pv_e hp];have h:cutR 0 n cs=some x:=h;obtain⟨h1,rfl⟩:=Zf h;simp only[A8,Ca,ht,hs];rw[if_pos (by omega)];rfl
 |n=>rw[hp]at h;cases h
 |l=>rw[hp]at h;cases h
 |a=>rw[hp]at h;cases h
 |t=>rw[hp]at h;cases h
 |no=>rw[hp]at h;cases h
 |w=>rw[hp]at h;cases h
def load1V(g:GB):VB:=⟨fun f S=>bnd (ld1 S) (g.g f)⟩
def loadNV(n:Nat)(g:GB):VB:=⟨fun f S=>bnd (ldN n S) (g.g f)⟩
def kR(P:Program)(t:TypeId)(g:GB):VB:=match B9 P t with
 |some false=>load1V g
 |some true=>match Cl P t with
  |some n=>loadNV n g
  |none=>Pl
 |none=>Pl
theorem loadV_ok{E:Env}{o:Oper}{t:TypeId}{x:Operand}(ho:o.op=.load t x):VOk E o (kR E.P t (opG E.G x)):=fun f S a h=>by
 unfold kR at h;simp only[Bg,ho]
 split at h
 ·rename_i ht
  obtain⟨b,h1,h2⟩:=Fu h;rw[G5]at h1;rw[h1];simp only;rw[ld1_ok ht h2];rfl
 ·rename_i ht
  split at h
  ·rename_i n hs
   obtain⟨b,h1,h2⟩:=Fu h;rw[G5]at h1;rw[h1];simp only;rw[ldN_ok ht hs h2];rfl
  ·cases h
 ·cases h
def fld1(off:Nat)(a:AV):Option AV:=PV.rec (motive:=fun _=>Nat→Option AV) (fun _ _ _=>none) (fun _ _=>none) (fun _=>none) (fun _ _ _ _ _=>none) (fun cs off=>atR off cs) (fun _ _=>none) (fun _=>none) (fun _ _ _ _ _=>none) a.pv off
def fldN(off n:Nat)(a:AV):Option AV:=PV.rec (motive:=fun _=>Nat→Nat→Option AV) (fun _ _ _ _=>none) (fun _ _ _=>none) (fun _ _=>none) (fun _ _ _ _ _ _=>none) (fun cs off n=>cutR off n cs) (fun _ _ _=>none) (fun _ _=>none) (fun _ _ _ _ _ _=>none) a.pv off n
theorem fld1_some{off:Nat}{a x:AV}(h:fld1 off a=some x):∃cs,a=.agg cs∧cs[off]? = some x:=by
 unfold fld1 at h
 cases hp:a.pv with
 |a cs=>rw[hp]at h;exact⟨cs,pv_a hp,(Wf off cs).symm.trans h⟩
 |p=>rw[hp]at h;cases h
 |e=>rw[hp]at h;cases h
 |n=>rw[hp]at h;cases h
 |l=>rw[hp]at h;cases h
 |t=>rw[hp]at h;cases h
 |no=>rw[hp]at h;cases h
 |w=>rw[hp]at h;cases h
theorem fldN_some{off n:Nat}{a x:AV}(h:fldN off n a=some x):∃cs,a=.agg cs∧off+n≤cs.length∧x=.agg ((cs.drop off).take n):=by
 unfold fldN at h
 cases hp:a.pv with
 |a cs=>rw[hp]at h;exact⟨cs,pv_a hp,Zf h⟩
 |p=>rw[hp]at h;cases h
 |e=>rw[hp]at h;cases h
 |n=>rw[hp]at h;cases h
 |l=>rw[hp]at h;cases h
 |t=>rw[hp]at h;cases h
 |no=>rw[hp]at h;cases h
 |w=>rw[hp]at h;cases h
def field1V(off:Nat)(g:GB):VB:=⟨fun f _=>bnd (fld1 off) (g.g f)⟩
def fieldNV(off n:Nat)(g:GB):VB:=⟨fun f _=>bnd (fldN off n) (g.g f)⟩
def yX(P:Program)(t:TypeId)(i:Nat)(g:GB):VB:=match fieldsOf P t with
 |some fs=>match fs[i]? with
  |some fd=>match B9 P fd.type with
   |some true=>match Cl P fd.type with
    |some n=>fieldNV fd.offset n g
    |none=>Pl
   |some false=>field1V fd.offset g
   |none=>Pl
  |none=>Pl
 |none=>Pl
theorem fieldV_ok{E:Env}{o:Oper}{t:TypeId}{i:Nat}{x:Operand}(ho:o.op=.field t x i):VOk E o (yX E.P t i (opG E.G x)):=fun f S a h=>by
 unfold yX at h;simp only[Bg,ho]
 split at h
 ·rename_i fs hfs
  split at h
  ·rename_i fd hfd
   split at h
   ·rename_i ht
    split at h
    ·rename_i n hs
     obtain⟨b,h1,h2⟩:=Fu h;rw[G5]at h1;obtain⟨cs,rfl,h3,rfl⟩:=fldN_some h2;rw[h1];simp only[Oi,hfs,hfd,kF,ht,hs,if_pos h3,ofOpt]
    ·cases h
   ·rename_i ht
    obtain⟨b,h1,h2⟩:=Fu h;rw[G5]at h1;obtain⟨cs,rfl,h3⟩:=fld1_some h2;rw[h1];simp only[Oi,hfs,hfd,kF,ht,h3,ofOpt]
   ·cases h
  ·cases h
 ·cases h
def nK(n:Nat)(a:AV):Option AV:=PV.rec (motive:=fun _=>Nat→Option AV) (fun id off n=>some (.ptr id (Nat.add off n))) (fun cs n=>zU (fun r=>some (.ep r)) (fT n cs)) (fun _=>none) (fun _ _ _ _ _=>none) (fun _ _=>none) (fun _ _=>none) (fun _=>none) (fun _ _ _ _ _=>none) a.pv n
theorem Zq{n:Nat}{a x:AV}(h:nK n a=some x):Zr a n=some x:=by
 unfold nK at h
 cases hp:a.pv with
 |p id off=>rw[hp]at h;rw[pv_p hp];exact h
 |e cs =>
  rw[hp]at h;rw[pv_e hp];obtain⟨r,h1,h2⟩:=Ni h;obtain⟨k1,rfl⟩:=Pn _ _ _ h1;simp only[Zr,if_pos k1];exact h2
 |a=>rw[hp]at h;cases h
 |n=>rw[hp]at h;cases h
 |l=>rw[hp]at h;cases h
 |t=>rw[hp]at h;cases h
 |no=>rw[hp]at h;cases h
 |w=>rw[hp]at h;cases h
def shiftV(off:Nat)(g:GB):VB:=⟨fun f _=>bnd (nK off) (g.g f)⟩
def zA(P:Program)(s:TypeId)(i:Nat)(g:GB):VB:=match fieldsOf P s with
 |some fs=>match fs[i]? with
  |some fd=>match Cl P fd.type with
   |some (_+1)=>shiftV fd.offset g
   |_=>Pl
  |none=>Pl
 |none=>Pl
theorem faddrV_ok{E:Env}{o:Oper}{t:TypeId}{i:Nat}{x:Operand}(ho:o.op=.fieldAddr t x i):VOk E o (zA E.P t i (opG E.G x)):=fun f S a h=>by
 unfold zA at h;simp only[Bg,ho]
 split at h
 ·rename_i fs hfs
  split at h
  ·rename_i fd hfd
   split at h
   ·rename_i n hs
    obtain⟨b,h1,h2⟩:=Fu h;rw[G5]at h1;rw[h1];simp only[A3,hfs,hfd,hs,Zq h2,ofOpt]
   ·cases h
  ·cases h
 ·cases h
def okFn(fn:Fn):Bool:=match fn with
 |.func _=>true
 |_=>false
def okN(a:AV):Bool:=AV.rec (motive_1:=fun _=>Bool) (motive_2:=fun _=>Unit) (fun _=>false) false (fun _ _=>true) (fun _ _=>true) false (fun _ _ _ _ _=>false) false (fun _=>false) (fun fn _ _ _ _=>okFn fn) (fun _ _ _=>true) (fun _ _=>false) (fun _ _=>false) (fun _ _ _ _=>false) () (fun _ _ _ _=>()) a
def nilX(a:AV):Option AV:=Bool.rec (motive:=fun _=>Option AV) none (some a) (okN a)
def nilV(g:GB):VB:=⟨fun f _=>bnd nilX (g.g f)⟩
theorem nilV_ok{E:Env}{o:Oper}{x:Operand}(ho:o.op=.nilCheck x):VOk E o (nilV (opG E.G x)):=fun f S a h=>by
 obtain⟨b,h1,h2⟩:=Fu h;rw[G5]at h1;simp only[Bg,ho,h1]
 cases b with
 |fn fn x y=>cases fn with
  |func k=>injection h2 with h2;subst h2;rfl
  |_=>cases h2
 |ptr=>injection h2 with h2;subst h2;rfl
 |ep=>injection h2 with h2;subst h2;rfl
 |iface=>injection h2 with h2;subst h2;rfl
 |_=>cases h2
def aggCells(a:AV):Option (List AV):=PV.rec (motive:=fun _=>Option (List AV)) (fun _ _=>none) (fun _=>none) none (fun _ _ _ _=>none) (fun cs=>some cs) (fun _=>none) none (fun _ _ _ _=>none) a.pv
def Ng(a:AV):List AV:=Option.rec (motive:=fun _=>List AV) [a] (fun cs=>cs) (aggCells a)
theorem Rb(a:AV):Ng a=a.cells:=by cases a <;> rfl
def epO(o:Option AV):Option AV:=bnd (fun x=>some (.ep (Ng x))) o
def rowAt(n:Nat)(a:AV)(j:Nat):Option AV:=PV.rec (motive:=fun _=>Nat→Nat→Option AV) (fun _ _ _ _=>none) (fun _ _ _=>none) (fun _ _=>none) (fun _ _ sz es n j=>Bool.rec (motive:=fun _=>Option AV) none (epO (atR j es)) (Nat.beq n sz)) (fun _ _ _=>none) (fun _ _ _=>none) (fun _ _=>none) (fun id off len sz n j=>Bool.rec (motive:=fun _=>Option AV) none (Bool.rec (motive:=fun _=>Option AV) none (some (.ptr id (Nat.add off (Nat.mul j sz)))) (Nat.ble (Nat.succ j) len)) (Nat.beq n sz)) a.pv n j
theorem xG{n j:Nat}{a x:AV}(h:rowAt n a j=some x):(∃tok off es y,a=.sl tok off n es∧es[j]? = some y∧x=.ep y.cells)∨(∃id off len,a=.bs id off len n∧j<len∧x=.ptr id (off+j*n)):=by
 unfold rowAt at h
 cases hp:a.pv with
 |l tok off sz es =>
  rw[hp]at h;have h:Bool.rec (motive:=fun _=>Option AV) none (epO (atR j es)) (Nat.beq n sz)=some x:=h
  cases hb:Nat.beq n sz with
  |false=>rw[hb]at h;cases h
  |true =>
   rw[hb]at h;obtain⟨y,h1,h2⟩:=Fu h;rw[Wf]at h1;have:=Jc1 hb;subst this;injection h2 with h2
   rw[Rb]at h2;exact .inl ⟨tok,off,es,y,pv_l hp,h1,h2.symm⟩
 |w id off len sz =>
  rw[hp]at h;have h:Bool.rec (motive:=fun _=>Option AV) none (Bool.rec (motive:=fun _=>Option AV) none (some (.ptr id (Nat.add off (Nat.mul j sz)))) (Nat.ble (Nat.succ j) len)) (Nat.beq n sz)=some x:=h
  cases hb:Nat.beq n sz with
  |false=>rw[hb]at h;cases h
  |true =>
   have:=Jc1 hb;subst this;rw[hb]at h
   cases hc:Nat.ble (Nat.succ j) len with
   |false=>rw[hc]at h;cases h
   |true =>
    rw[hc]at h;injection h with h
    exact .inr ⟨id,off,len,pv_w hp,Jd3 hc,h.symm⟩
 |p=>rw[hp]at h;cases h
 |e=>rw[hp]at h;cases h
 |n=>rw[hp]at h;cases h
 |a=>rw[hp]at h;cases h
 |t=>rw[hp]at h;cases h
 |no=>rw[hp]at h;cases h
def eJ(s:SV):Option Nat:=SV.rec (motive:=fun _=>Option Nat) (fun _=>none) (fun _ x=>Int.rec (motive:=fun _=>Option Nat) (fun n=>some n) (fun _=>none) x) (fun _=>none) none s
theorem R0{a:AV}{j:Nat}(h:eJ a.sv=some j):∃k,a=.v (.int k (j:Int)):=by
 cases hs:a.sv with
 |i k x =>
  rw[hs]at h
  cases x with
  |ofNat n=>injection h with h;subst h;exact⟨k,sv_i hs⟩
  |negSucc n=>cases h
 |b=>rw[hs]at h;cases h
 |s=>rw[hs]at h;cases h
 |no=>rw[hs]at h;cases h
def iQ(h:Nat→Option AV)(o:Option Nat):Option AV:=Option.rec (motive:=fun _=>Option AV) none h o
theorem Nh{h:Nat→Option AV}{o:Option Nat}{r:AV}(e:iQ h o=some r):∃a,o=some a∧h a=some r:=by
 cases o with
 |none=>cases e
 |some a=>exact⟨a,rfl,e⟩
def iaddrS(n:Nat)(gx gi:GB):VB:=⟨fun f _=>bnd (fun a=>bnd (fun b=>iQ (rowAt n a) (eJ b.sv)) (gi.g f)) (gx.g f)⟩
def arrAt(len n:Nat)(a:AV)(j:Nat):Option AV:=Bool.rec (motive:=fun _=>Option AV) none (nK (Nat.mul j n) a) (Nat.ble (Nat.succ j) len)
def iaddrA(len n:Nat)(gx gi:GB):VB:=⟨fun f _=>bnd (fun a=>bnd (fun b=>iQ (arrAt len n a) (eJ b.sv)) (gi.g f)) (gx.g f)⟩
def yR(P:Program)(t:TypeId)(gx gi:GB):VB:=match Fs P t with
 |some (none,e)=>match Cl P e with
  |some n=>iaddrS n gx gi
  |none=>Pl
 |some (some len,e)=>match Cl P e with
  |some n=>iaddrA len n gx gi
  |none=>Pl
 |none=>Pl
theorem iaddrV_ok{E:Env}{o:Oper}{t:TypeId}{x i:Operand}(ho:o.op=.indexAddr t x i):VOk E o (yR E.P t (opG E.G x) (opG E.G i)):=fun f S a h=>by
 unfold yR at h;simp only[Bg,ho]
 split at h
 ·rename_i e he
  split at h
  ·rename_i n hs
   obtain⟨b,h1,h2⟩:=Fu h;obtain⟨c,h3,h4⟩:=Fu h2;obtain⟨j,h5,h6⟩:=Nh h4;rw[G5]at h1 h3;obtain⟨k,rfl⟩:=R0 h5;rw[h1,h3];rcases xG h6 with⟨tok,off,es,y,rfl,h7,rfl⟩ | ⟨id,off,len,rfl,h7,rfl⟩
   ·simp only[Bh,he,hs,if_pos (show(0:Int)≤(j:Int) by omega),Int.toNat_natCast,h7,beq_self_eq_true,if_true,ofOpt]
   ·simp only[Bh,he,hs,if_pos (show(0:Int)≤(j:Int) by omega),Int.toNat_natCast,beq_self_eq_true,Bool.true_and,decide_eq_true_eq,if_pos (show(j:Int)<(len:Int) by omega),ofOpt]
  ·cases h
 ·rename_i len e he
  split at h
  ·rename_i n hs
   obtain⟨b,h1,h2⟩:=Fu h;obtain⟨c,h3,h4⟩:=Fu h2;obtain⟨j,h5,h6⟩:=Nh h4;rw[G5]at h1 h3;obtain⟨k,rfl⟩:=R0 h5;unfold arrAt at h6
   cases hb:Nat.ble (Nat.succ j) len with
   |false=>rw[hb]at h6;cases h6
   |true =>
    rw[hb]at h6;have h7:=Zq h6;have hlt:(j:Int)<(len:Int):=by have:=Jd3 hb;omega
    rw[h1,h3];simp only[Bh,he,hs,if_pos (show(0:Int)≤(j:Int) by omega),Int.toNat_natCast,if_pos hlt]
    have h8:Zr b (j*n)=some a:=h7;rw[h8];rfl
  ·cases h
 ·cases h
def byteO(o:Option UInt8):Option AV:=Option.rec (motive:=fun _=>Option AV) none (fun b=>some (.v (.int .u8 (.ofNat b.toNat)))) o
def strAt(a:AV)(j:Nat):Option AV:=SV.rec (motive:=fun _=>Nat→Option AV) (fun _ _=>none) (fun _ _ _=>none) (fun l j=>byteO (atR j l)) (fun _=>none) a.sv j
def indexS(gx gi:GB):VB:=⟨fun f _=>bnd (fun a=>bnd (fun b=>iQ (strAt a) (eJ b.sv)) (gi.g f)) (gx.g f)⟩
def yQ(E:Env)(o:Oper)(t:TypeId)(gx gi:GB):VB:=match E.P.underlying t with
 |some .string=>indexS gx gi
 |_=>I3 E o
theorem indexV_ok{E:Env}{o:Oper}{t:TypeId}{x i:Operand}(ho:o.op=.index t x i):VOk E o (yQ E o t (opG E.G x) (opG E.G i)):=by
 unfold yQ
 split
 ·rename_i ht
  intro f S a h;simp only[Bg,ho];obtain⟨b,h1,h2⟩:=Fu h;obtain⟨c,h3,h4⟩:=Fu h2;obtain⟨j,h5,h6⟩:=Nh h4;rw[G5]at h1 h3;obtain⟨k,rfl⟩:=R0 h5;unfold strAt at h6
  cases hs:b.sv with
  |s l =>
   rw[hs]at h6;obtain⟨s,rfl,rfl⟩:=sv_s hs;have h6:byteO (atR j s.data.toList)=some a:=h6;rw[Wf]at h6
   cases hq:s.data.toList[j]? with
   |none=>rw[hq]at h6;cases h6
   |some u =>
    rw[hq]at h6;injection h6 with h6;subst h6
    rw[h1,h3];simp only[K6,ht,if_pos (show(0:Int)≤(j:Int) by omega),Int.toNat_natCast,hq]
    rfl
  |b=>rw[hs]at h6;cases h6
  |i=>rw[hs]at h6;cases h6
  |no=>rw[hs]at h6;cases h6
 ·exact Kg (by simp[Gc,ho])
def ib2(h:IntKind→Int→Int→AV)(k:IntKind)(x:Int)(s:SV):Option AV:=SV.rec (motive:=fun _=>Option AV) (fun _=>none) (fun k' y=>Bool.rec (motive:=fun _=>Option AV) none (some (h k x y)) (eqK k k')) (fun _=>none) none s
def ib(h:IntKind→Int→Int→AV)(a b:AV):Option AV:=SV.rec (motive:=fun _=>SV→Option AV) (fun _ _=>none) (ib2 h) (fun _ _=>none) (fun _=>none) a.sv b.sv
theorem R4{h:IntKind→Int→Int→AV}{a b r:AV}(e:ib h a b=some r):∃k x y,a=.v (.int k x)∧b=.v (.int k y)∧r=h k x y:=by
 unfold ib at e
 cases ha:a.sv with
 |i k x =>
  rw[ha]at e;have e:ib2 h k x b.sv=some r:=e;unfold ib2 at e
  cases hb:b.sv with
  |i k' y =>
   rw[hb]at e;have e:Bool.rec (motive:=fun _=>Option AV) none (some (h k x y)) (eqK k k')=some r:=e
   cases hk:eqK k k' with
   |false=>rw[hk]at e;cases e
   |true =>
    rw[hk]at e;have e3:some (h k x y)=some r:=e;injection e3 with e4
    have hkk:=eqK_eq hk;subst hkk;exact⟨k,x,y,sv_i ha,sv_i hb,e4.symm⟩
  |b=>rw[hb]at e;cases e
  |s=>rw[hb]at e;cases e
  |no=>rw[hb]at e;cases e
 |b=>rw[ha]at e;cases e
 |s=>rw[ha]at e;cases e
 |no=>rw[ha]at e;cases e
def sb2(h:List UInt8→List UInt8→AV)(l:List UInt8)(s:SV):Option AV:=SV.rec (motive:=fun _=>Option AV) (fun _=>none) (fun _ _=>none) (fun m=>some (h l m)) none s
def isb(h:IntKind→Int→Int→AV)(h':List UInt8→List UInt8→AV)(a b:AV):Option AV:=SV.rec (motive:=fun _=>SV→Option AV) (fun _ _=>none) (ib2 h) (sb2 h') (fun _=>none) a.sv b.sv
theorem tY{h:IntKind→Int→Int→AV}{h':List UInt8→List UInt8→AV}{a b r:AV}(e:isb h h' a b=some r):(∃k x y,a=.v (.int k x)∧b=.v (.int k y)∧r=h k x y)∨∃s u:ByteArray,a=.v (.string s)∧b=.v (.string u)∧r=h' s.data.toList u.data.toList:=by
 unfold isb at e
 cases ha:a.sv with
 |i k x =>
  rw[ha]at e;exact .inl (R4 (h:=h) (by unfold ib;rw[ha];exact e))
 |s l =>
  rw[ha]at e;have e:sb2 h' l b.sv=some r:=e;unfold sb2 at e
  cases hb:b.sv with
  |s m =>
   rw[hb]at e;injection e with e
   obtain⟨s,rfl,rfl⟩:=sv_s ha;obtain⟨u,rfl,rfl⟩:=sv_s hb;exact .inr ⟨s,u,rfl,rfl,e.symm⟩
  |b=>rw[hb]at e;cases e
  |i=>rw[hb]at e;cases e
  |no=>rw[hb]at e;cases e
 |b=>rw[ha]at e;cases e
 |no=>rw[ha]at e;cases e
def hAdd(k:IntKind)(x y:Int):AV:=.v (.int k (wrapR k (addI x y)))
def hSub(k:IntKind)(x y:Int):AV:=.v (.int k (wrapR k (subI x y)))
def hEql(_:IntKind)(x y:Int):AV:=.v (.bool (eqI x y))
def hNeq(_:IntKind)(x y:Int):AV:=.v (.bool (notR (eqI x y)))
def hLss(_:IntKind)(x y:Int):AV:=.v (.bool (ltI x y))
def hGtr(_:IntKind)(x y:Int):AV:=.v (.bool (ltI y x))
def hLeq(_:IntKind)(x y:Int):AV:=.v (.bool (notR (ltI y x)))
def hGeq(_:IntKind)(x y:Int):AV:=.v (.bool (notR (ltI x y)))
def hEqS(l m:List UInt8):AV:=.v (.bool (Ll l m))
def hNeS(l m:List UInt8):AV:=.v (.bool (notR (Ll l m)))
def pW(h:AV→AV→Option AV)(sl:VB)(gx gy:GB):VB:=⟨fun f S=>bnd (fun a=>bnd (fun b=>Option.rec (motive:=fun _=>Option AV) (sl.v f S) (fun r=>some r) (h a b)) (gy.g f)) (gx.g f)⟩
def binV(E:Env)(o:Oper)(op:BinOp)(gx gy:GB):VB:=match op with
 |.add=>pW (ib hAdd) (I3 E o) gx gy
 |.sub=>pW (ib hSub) (I3 E o) gx gy
 |.lss=>pW (ib hLss) (I3 E o) gx gy
 |.gtr=>pW (ib hGtr) (I3 E o) gx gy
 |.leq=>pW (ib hLeq) (I3 E o) gx gy
 |.geq=>pW (ib hGeq) (I3 E o) gx gy
 |.eql=>pW (isb hEql hEqS) (I3 E o) gx gy
 |.neq=>pW (isb hNeq hNeS) (I3 E o) gx gy
 |_=>I3 E o
theorem Qa{E:Env}{o:Oper}{op:BinOp}{t u:TypeId}{x y:Operand}{h:AV→AV→Option AV}(ho:o.op=.binOp op t x y u)(hh:∀a b r,h a b=some r→Cv op a b=some r):VOk E o (pW h (I3 E o) (opG E.G x) (opG E.G y)):=fun f S a e=>by
 obtain⟨b,h1,h2⟩:=Fu e;obtain⟨c,h3,h4⟩:=Fu h2
 cases hq:h b c with
 |none =>
  rw[hq]at h4;exact Kg (by simp[Gc,ho]) f S a h4
 |some r =>
  rw[hq]at h4;injection h4 with h4;subst h4
  have hf:=hh b c _ hq;rw[G5]at h1 h3;simp only[Bg,ho,h1,h3,eI hf,hf];rfl
theorem kH(x y:Int):(!decide (y<x))=decide (x≤y):=by
 by_cases h:y<x
 ·rw[decide_eq_true h,decide_eq_false (by omega)];rfl
 ·rw[decide_eq_false h,decide_eq_true (by omega)];rfl
theorem binV_ok{E:Env}{o:Oper}{op:BinOp}{t u:TypeId}{x y:Operand}(ho:o.op=.binOp op t x y u):VOk E o (binV E o op (opG E.G x) (opG E.G y)):=by
 unfold binV
 split
 ·refine Qa ho fun a b r h=>?_
  obtain⟨k,x,y,rfl,rfl,rfl⟩:=R4 h;simp[Cv,hAdd,qI,addI_eq]
 ·refine Qa ho fun a b r h=>?_
  obtain⟨k,x,y,rfl,rfl,rfl⟩:=R4 h;simp[Cv,hSub,qI,subI_eq]
 ·refine Qa ho fun a b r h=>?_
  obtain⟨k,x,y,rfl,rfl,rfl⟩:=R4 h;simp[Cv,hLss,oF]
 ·refine Qa ho fun a b r h=>?_
  obtain⟨k,x,y,rfl,rfl,rfl⟩:=R4 h;simp[Cv,hGtr,oF]
 ·refine Qa ho fun a b r h=>?_
  obtain⟨k,x,y,rfl,rfl,rfl⟩:=R4 h;simp only[Cv,hLeq,oF,aY,kH,if_true]
 ·refine Qa ho fun a b r h=>?_
  obtain⟨k,x,y,rfl,rfl,rfl⟩:=R4 h;simp only[Cv,hGeq,oF,aY,kH,if_true]
 ·refine Qa ho fun a b r h=>?_
  rcases tY h with⟨k,x,y,rfl,rfl,rfl⟩ | ⟨s,u,rfl,rfl,rfl⟩
  ·simp[Cv,hEql,eqI_eq]
  ·simp[Cv,hEqS]
 ·refine Qa ho fun a b r h=>?_
  rcases tY h with⟨k,x,y,rfl,rfl,rfl⟩ | ⟨s,u,rfl,rfl,rfl⟩
  ·simp only[Cv,hNeq,eqI_eq,aY,if_true];rfl
  ·simp only[Cv,hNeS,aY]
 ·exact Kg (by simp[Gc,ho])
def tupAt(i:Nat)(a:AV):Option AV:=PV.rec (motive:=fun _=>Nat→Option AV) (fun _ _ _=>none) (fun _ _=>none) (fun _=>none) (fun _ _ _ _ _=>none) (fun _ _=>none) (fun cs i=>atR i cs) (fun _=>none) (fun _ _ _ _ _=>none) a.pv i
def extrV(i:Nat)(g:GB):VB:=⟨fun f _=>bnd (tupAt i) (g.g f)⟩
theorem extrV_ok{E:Env}{o:Oper}{x:Operand}{i:Nat}(ho:o.op=.extract x i):VOk E o (extrV i (opG E.G x)):=fun f S a h=>by
 obtain⟨b,h1,h2⟩:=Fu h;rw[G5]at h1;unfold tupAt at h2
 cases hp:b.pv with
 |t cs =>
  rw[hp]at h2;have h2:atR i cs=some a:=h2;rw[Wf]at h2;rw[pv_t hp]at h1;simp only[Bg,ho,h1,D3,h2,ofOpt]
 |p=>rw[hp]at h2;cases h2
 |e=>rw[hp]at h2;cases h2
 |n=>rw[hp]at h2;cases h2
 |l=>rw[hp]at h2;cases h2
 |a=>rw[hp]at h2;cases h2
 |no=>rw[hp]at h2;cases h2
 |w=>rw[hp]at h2;cases h2
def makeIB(t:TypeId)(g:GB):VB:=⟨fun f _=>bnd (fun a=>some (.iface t a)) (g.g f)⟩
def yB(P:Program)(t:TypeId)(g:GB):VB:=match P.underlying t with
 |some (.interface _)=>Pl
 |some _=>makeIB t g
 |none=>Pl
theorem makeIV_ok{E:Env}{o:Oper}{x:Operand}{t:TypeId}(ho:o.op=.makeInterface t x):VOk E o (yB E.P t (opG E.G x)):=by
 unfold yB
 split
 ·exact vD
 ·rename_i d hne ht
  intro f S a h;obtain⟨b,h1,h2⟩:=Fu h;rw[G5]at h1;injection h2 with h2;subst h2
  simp only[Bg,ho,h1,Qh,ht]
  cases d with
  |interface ms=>exact(hne ms rfl).elim
  |_=>rfl
 ·exact vD
def pick1(a b:Option AV)(s:SV):Option AV:=SV.rec (motive:=fun _=>Option AV→Option AV→Option AV) (fun c a b=>Bool.rec (motive:=fun _=>Option AV) b a c) (fun _ _ _ _=>none) (fun _ _ _=>none) (fun _ _=>none) s a b
def pickV(gc ga gb:GB):VB:=⟨fun f _=>bnd (fun c=>pick1 (ga.g f) (gb.g f) c.sv) (gc.g f)⟩
theorem pickV_ok{E:Env}{o:Oper}{c x y:Operand}(ho:o.op=.pick c x y):VOk E o (pickV (opG E.G c) (opG E.G x) (opG E.G y)):=fun f S a h=>by
 obtain⟨b,h1,h2⟩:=Fu h;rw[G5]at h1;rw[G5,G5]at h2;unfold pick1 at h2
 cases hs:b.sv with
 |b c =>
  rw[hs]at h2;rw[sv_b hs]at h1;simp only[Bg,ho,h1]
  cases c with
  |true=>have h2:A6 E.G f x=some a:=h2;simp only[h2,ofOpt]
  |false=>have h2:A6 E.G f y=some a:=h2;simp only[h2,ofOpt]
 |i=>rw[hs]at h2;cases h2
 |s=>rw[hs]at h2;cases h2
 |no=>rw[hs]at h2;cases h2
end Go.Ax
noncomputable section
namespace Go.Ax
open Go.RowKit
structure PB where
 off:Nat
 size:Nat
 g:GB
def eF(a:AV):Bool:=PV.rec (motive:=fun _=>Bool) (fun _ _=>true) (fun _=>true) true (fun _ _ _ _=>true) (fun _=>true) (fun _=>false) true (fun _ _ _ _=>true) a.pv
theorem kK(a:AV):eF a=a.noTup:=by cases a <;> rfl
def Oh(a:AV)(size:Nat):Bool:=Bool.rec (motive:=fun _=>Bool) false (Nat.beq (Yx (Ng a)) size) (eF a)
theorem Td{a:AV}{size:Nat}(h:Oh a size=true):a.noTup=true∧a.cells.length=size:=by
 unfold Oh at h;rw[kK,Ox,Rb]at h
 cases hn:a.noTup with
 |false=>rw[hn]at h;cases h
 |true=>rw[hn]at h;exact⟨rfl,Jc1 h⟩
def fill1(off size:Nat)(ih:List AV→Option (List AV))(cs:List AV)(a:AV):Option (List AV):=Bool.rec (motive:=fun _=>Option (List AV)) none (Option.rec (motive:=fun _=>Option (List AV)) none ih (Np off (Ng a) cs)) (Oh a size)
def Zh(l:List PB)(f:T AV):List AV→Option (List AV):=List.rec (motive:=fun _=>List AV→Option (List AV)) (fun cs=>some cs) (fun p _ ih cs=>Option.rec (motive:=fun _=>Option (List AV)) none (fill1 p.off p.size ih cs) (p.g.g f)) l
def aV(G:Gl)(pl:List (Nat × Nat)):List (Nat × Operand)→Option (List PB)
 | []=>some []
 | (i,x) :: r=>match pl[i]?,aV G pl r with
  |some (off,size),some l=>some (⟨off,size,opG G x⟩ :: l)
  |_,_=>none
theorem mG{G:Gl}{pl:List (Nat × Nat)}{f:T AV}:∀{parts:List (Nat × Operand)} {l:List PB} {cs r:List AV},aV G pl parts=some l→Zh l f cs=some r→∃ps,C8 G f parts=some ps∧fL (fun i=>pl[i]?) cs ps=some r
 | [],l,cs,r,h,hb=>by
  injection h with h;subst h
  injection hb with hb;subst hb
  exact⟨[],rfl,rfl⟩
 | (i,x) :: rest,l,cs,r,h,hb=>by
  unfold aV at h
  split at h
  ·rename_i off size l' hp hl
   injection h with h;subst h
   have hb:Option.rec (motive:=fun _=>Option (List AV)) none (fill1 off size (Zh l' f) cs) ((opG G x).g f)=some r:=hb
   cases hx:(opG G x).g f with
   |none=>rw[hx]at hb;cases hb
   |some a =>
    rw[hx]at hb;have hb:fill1 off size (Zh l' f) cs a=some r:=hb;unfold fill1 at hb
    cases hk:Oh a size with
    |false=>rw[hk]at hb;cases hb
    |true =>
     rw[hk]at hb;have hb:Option.rec (motive:=fun _=>Option (List AV)) none (Zh l' f) (Np off (Ng a) cs)=some r:=hb
     cases ho:Np off (Ng a) cs with
     |none=>rw[ho]at hb;cases hb
     |some q =>
      rw[ho]at hb;have hb:Zh l' f q=some r:=hb;obtain⟨ps,h1,h2⟩:=mG hl hb;obtain⟨k1,k2⟩:=Td hk;obtain⟨k3,k4⟩:=Rw _ _ _ _ ho;rw[Rb]at k3 k4;rw[G5]at hx;refine⟨(i,a) :: ps,by simp only[C8,hx,h1],?_⟩
      simp only[fL,hp,k1,k2,beq_self_eq_true,Bool.true_and];rw[if_pos (by simpa using (by omega:off+size≤cs.length))]
      unfold splice;rw[← k4];exact h2
  ·cases h
def buildB(l:List PB)(z:List AV):VB:=⟨fun f _=>aggO (Zh l f z)⟩
def zR(E:Env)(o:Oper)(t:TypeId)(parts:List (Nat × Operand)):VB:=match Kb E.P t,fieldsOf E.P t with
 |some z,some fs=>match Um E.P fs.toList with
  |some pl=>match aV E.G pl parts with
   |some l=>if z.noTup then buildB l z.cells else I3 E o
   |none=>I3 E o
  |none=>I3 E o
 |_,_=>I3 E o
theorem buildV_ok{E:Env}{o:Oper}{t:TypeId}{ps:Array (Nat × Operand)}(ho:o.op=.build t ps):VOk E o (zR E o t ps.toList):=by
 have slow:VOk E o (I3 E o):=Kg (by simp[Gc,ho])
 unfold zR
 split
 ·rename_i z fs hz hf
  split
  ·rename_i pl hpl
   split
   ·rename_i l hl
    split
    ·rename_i hn
     intro f S a h;obtain⟨cs,h1,h2⟩:=Ni h;injection h2 with h2;subst h2
     obtain⟨qs,k1,k2⟩:=mG hl h1;simp only[Bg,ho,k1,Du,hz,hf,hpl,k2,if_pos hn,ofOpt]
    ·exact slow
   ·exact slow
  ·exact slow
 ·exact slow
def iY(n:Nat)(l:List GB)(f:T AV):Option (List AV):=List.rec (motive:=fun _=>Option (List AV)) (some []) (fun g _ ih=>Option.rec (motive:=fun _=>Option (List AV)) none (fun a=>Bool.rec (motive:=fun _=>Option (List AV)) none (Pq a ih) (Oh a n)) (g.g f)) l
theorem qP{G:Gl}{n:Nat}{f:T AV}:∀{parts:List (Nat × Operand)} {r:List AV},iY n (parts.map fun p=>opG G p.2) f=some r→∃ps,C8 G f parts=some ps∧ps.map (·.1)=parts.map (·.1)∧ps.map (·.2)=r∧(ps.all fun p=>p.2.noTup && p.2.cells.length == n)=true
 | [],r,h=>by injection h with h;subst h;exact⟨[],rfl,rfl,rfl,rfl⟩
 | (i,x) :: rest,r,h=>by
  have h:Option.rec (motive:=fun _=>Option (List AV)) none (fun a=>Bool.rec (motive:=fun _=>Option (List AV)) none (Pq a (iY n (rest.map fun p=>opG G p.2) f)) (Oh a n)) ((opG G x).g f)=some r:=h
  cases hx:(opG G x).g f with
  |none=>rw[hx]at h;cases h
  |some a =>
   rw[hx]at h;have h:Bool.rec (motive:=fun _=>Option (List AV)) none (Pq a (iY n (rest.map fun p=>opG G p.2) f)) (Oh a n)=some r:=h
   cases hk:Oh a n with
   |false=>rw[hk]at h;cases h
   |true =>
    rw[hk]at h;have h:Pq a (iY n (rest.map fun p=>opG G p.2) f)=some r:=h
    cases hq:iY n (rest.map fun p=>opG G p.2) f with
    |none=>rw[hq]at h;cases h
    |some q =>
     rw[hq]at h;have h:some (a :: q)=some r:=h;injection h with h;subst h
     obtain⟨ps,h1,h2,h3,h4⟩:=qP hq;obtain⟨k1,k2⟩:=Td hk;rw[G5]at hx;exact⟨(i,a) :: ps,by simp only[C8,hx,h1],by simp[h2],by simp[h3],by simp only[List.all_cons,k1,k2,h4,beq_self_eq_true,Bool.and_self]⟩
def rowB(n:Nat)(l:List GB):VB:=⟨fun f _=>zU (fun vs=>some (.sl 1 0 n vs)) (iY n l f)⟩
def rowV(E:Env)(o:Oper)(t:TypeId)(len:Nat)(parts:List (Nat × Operand)):VB:=match Fs E.P t with
 |some (none,e)=>match Cl E.P e,Kb E.P e with
  |some (k+1),some _=>if parts.map (·.1)=List.range len∧len*(k+1)≤16777216 then rowB (k+1) (parts.map fun p=>opG E.G p.2)else I3 E o
  |_,_=>I3 E o
 |_=>I3 E o
theorem rowV_ok{E:Env}{o:Oper}{t:TypeId}{len:Nat}{ps:Array (Nat × Operand)}(ho:o.op=.buildSlice t len ps):VOk E o (rowV E o t len ps.toList):=by
 have slow:VOk E o (I3 E o):=Kg (by simp[Gc,ho])
 unfold rowV
 split
 ·rename_i e he
  split
  ·rename_i k z hs hz
   split
   ·rename_i hc
    intro f S a h;obtain⟨vs,h1,h2⟩:=Ni h;injection h2 with h2;subst h2
    obtain⟨qs,k1,k2,k3,k4⟩:=qP h1;simp only[Bg,ho,k1,Bd,he,hs,hz,k2,k3,hc.1,k4,beq_self_eq_true,Bool.and_self,Bool.true_and,decide_eq_true_eq,if_pos hc.2,ofOpt]
   ·exact slow
  ·exact slow
 ·exact slow
def lenP(a:AV):Option AV:=PV.rec (motive:=fun _=>Option AV) (fun _ _=>none) (fun _=>none) (some (.v (.int .i64 (.ofNat 0)))) (fun _ _ _ es=>some (.v (.int .i64 (.ofNat (Yx es))))) (fun _=>none) (fun _=>none) none (fun _ _ n _=>some (.v (.int .i64 (.ofNat n)))) a.pv
def lenT(a:AV):Option AV:=SV.rec (motive:=fun _=>Option AV) (fun _=>none) (fun _ _=>none) (fun l=>some (.v (.int .i64 (.ofNat (Yx l))))) none a.sv
def lenPV(g:GB):VB:=⟨fun f _=>bnd lenP (g.g f)⟩
def lenTV(g:GB):VB:=⟨fun f _=>bnd lenT (g.g f)⟩
def lenV(E:Env)(o:Oper)(t:TypeId)(g:GB):VB:=match E.P.underlying t with
 |some (.slice _)=>lenPV g
 |some .string=>lenTV g
 |_=>I3 E o
theorem lenV_ok{E:Env}{o:Oper}{c:Call}{t:TypeId}{x:Operand}(ho:o.op=.call c)(hc:c.callee=.builtin .len)(ha:c.args.toList=[x])(ht:c.argTypes.toList=[t]):VOk E o (lenV E o t (opG E.G x)):=by
 unfold lenV
 split
 ·rename_i e hu
  intro f S a h;obtain⟨b,h1,h2⟩:=Fu h;rw[G5]at h1;simp only[Bg,ho,Ct,hc,ha,ht,h1];unfold lenP at h2
  cases hp:b.pv with
  |n=>rw[hp]at h2;injection h2 with h2;subst h2;rw[pv_n hp];simp only[Eo,hu];rfl
  |l tok off sz es=>rw[hp]at h2;injection h2 with h2;subst h2;rw[pv_l hp];simp only[Eo,hu,Ox];rfl
  |w id off n sz=>rw[hp]at h2;injection h2 with h2;subst h2;rw[pv_w hp];simp only[Eo,hu];rfl
  |p=>rw[hp]at h2;cases h2
  |e=>rw[hp]at h2;cases h2
  |a=>rw[hp]at h2;cases h2
  |t=>rw[hp]at h2;cases h2
  |no=>rw[hp]at h2;cases h2
 ·rename_i hu
  intro f S a h;obtain⟨b,h1,h2⟩:=Fu h;rw[G5]at h1;simp only[Bg,ho,Ct,hc,ha,ht,h1];unfold lenT at h2
  cases hp:b.sv with
  |s l =>
   rw[hp]at h2;injection h2 with h2;subst h2
   obtain⟨s,rfl,rfl⟩:=sv_s hp;simp only[Eo,hu,Ox];rfl
  |b=>rw[hp]at h2;cases h2
  |i=>rw[hp]at h2;cases h2
  |no=>rw[hp]at h2;cases h2
 ·exact Kg (by simp[Gc,ho,hc])
structure NB where
 n:T AV→Nat→Option Nat
def noNB:NB:=⟨fun _ d=>some d⟩
def atNB(g:GB):NB:=⟨fun f _=>Option.rec (motive:=fun _=>Option Nat) none (fun a=>eJ a.sv) (g.g f)⟩
def tF(G:Gl)(x:Option Operand):NB:=match x with
 |none=>noNB
 |some x=>atNB (opG G x)
theorem aW{G:Gl}{x:Option Operand}{f:T AV}{d n:Nat}(h:(tF G x).n f d=some n):∃l,C9 (A6 G f) x.toList=some l∧Ip l.head? d=some n:=by
 cases x with
 |none=>injection h with h;subst h;exact⟨[],rfl,rfl⟩
 |some x =>
  have h:Option.rec (motive:=fun _=>Option Nat) none (fun a=>eJ a.sv) ((opG G x).g f)=some n:=h
  cases hx:(opG G x).g f with
  |none=>rw[hx]at h;cases h
  |some a =>
   rw[hx]at h;have h:eJ a.sv=some n:=h;obtain⟨k,rfl⟩:=R0 h;rw[G5]at hx;exact⟨[.v (.int k (n:Int))],by simp only[Option.toList,C9,hx],by simp only[List.head?_cons,Ip,if_pos (show(0:Int)≤(n:Int) by omega),Int.toNat_natCast]⟩
def slQ(tok off sz l h:Nat)(es r:List AV):Option AV:=Bool.rec (motive:=fun _=>Option AV)
 (Bool.rec (motive:=fun _=>Option AV) (zU (fun q=>some (.sl 0 0 sz q)) (Wn (Nat.sub h l) r)) (some (.sl tok (Nat.add off (Nat.mul l sz)) sz r)) (Nat.beq h (Yx es)))
 (some (.sl 0 0 sz [])) (Nat.beq l h)
def slRow(tok off sz l h:Nat)(es:List AV):Option AV:=Bool.rec (motive:=fun _=>Option AV) none (Bool.rec (motive:=fun _=>Option AV) none (zU (slQ tok off sz l h es) (fT l es)) (Nat.ble h (Yx es))) (Nat.ble l h)
def slStr(l h:Nat)(s:List UInt8):Option AV:=Bool.rec (motive:=fun _=>Option AV) none (Option.rec (motive:=fun _=>Option AV) none (fun r=>Option.rec (motive:=fun _=>Option AV) none (fun q=>some (.v (.string ⟨⟨q⟩⟩))) (Wn (Nat.sub h l) r)) (fT l s)) (Nat.ble l h)
def slP2(n:Nat)(lo hi:NB)(f:T AV)(a:AV):Option AV:=PV.rec (motive:=fun _=>Option AV) (fun _ _=>none) (fun _=>none) none
 (fun tok off sz es=>Bool.rec (motive:=fun _=>Option AV) none (iQ (fun l=>iQ (fun h=>slRow tok off sz l h es) (hi.n f (Yx es))) (lo.n f 0)) (Nat.beq n sz)) (fun _=>none) (fun _=>none) none (fun _ _ _ _=>none) a.pv
def slT2(lo hi:NB)(f:T AV)(a:AV):Option AV:=SV.rec (motive:=fun _=>Option AV) (fun _=>none) (fun _ _=>none) (fun s=>iQ (fun l=>iQ (fun h=>slStr l h s) (hi.n f (Yx s))) (lo.n f 0)) none a.sv
def xU(sl:VB)(h:T AV→AV→Option AV)(g:GB):VB:=⟨fun f S=>bnd (fun a=>Option.rec (motive:=fun _=>Option AV) (sl.v f S) (fun r=>some r) (h f a)) (g.g f)⟩
theorem kD{E:Env}{o:Oper}{h:T AV→AV→Option AV}{x:Operand}(hl:Gc o=true)(hh:∀f S a r,A6 E.G f x=some a→h f a=some r→Bg E f S o=.val r S):VOk E o (xU (I3 E o) h (opG E.G x)):=fun f S a e=>by
 obtain⟨b,h1,h2⟩:=Fu e
 cases hq:h f b with
 |none=>rw[hq]at h2;exact Kg hl f S a h2
 |some r =>
  rw[hq]at h2;injection h2 with h2;subst h2
  rw[G5]at h1;exact hh f S b _ h1 hq
def xC(E:Env)(o:Oper)(t:TypeId)(x:Operand)(lo hi:Option Operand):VB:=match Fs E.P t with
 |some (none,e)=>match Cl E.P e with
  |some n=>xU (I3 E o) (slP2 n (tF E.G lo) (tF E.G hi)) (opG E.G x)
  |none=>I3 E o
 |_=>match E.P.underlying t with
  |some .string=>xU (I3 E o) (slT2 (tF E.G lo) (tF E.G hi)) (opG E.G x)
  |_=>I3 E o
theorem X2(a b:Nat):Nat.ble a b=decide (a≤b):=by
 cases h:Nat.ble a b with
 |true=>rw[decide_eq_true (Jd3 h)]
 |false=>symm;rw[decide_eq_false_iff_not];intro hle;rw[Nat.ble_eq_true_of_le hle]at h;cases h
theorem sliceV_ok{E:Env}{o:Oper}{t:TypeId}{x:Operand}{lo hi:Option Operand}(ho:o.op=.slice t x lo hi none):VOk E o (xC E o t x lo hi):=by
 have hl:Gc o=true:=by simp[Gc,ho]
 unfold xC
 split
 ·rename_i e he
  split
  ·rename_i n hs
   refine kD hl fun f S a r hx hr=>?_
   simp only[Bg,ho,hx];unfold slP2 at hr
   cases hp:a.pv with
   |l tok off sz es =>
    rw[hp]at hr;rw[pv_l hp];have hr:Bool.rec (motive:=fun _=>Option AV) none (iQ (fun l=>iQ (fun h=>slRow tok off sz l h es) ((tF E.G hi).n f (Yx es))) ((tF E.G lo).n f 0)) (Nat.beq n sz)=some r:=hr
    cases hb:Nat.beq n sz with
    |false=>rw[hb]at hr;cases hr
    |true =>
     rw[hb]at hr;have hn:=Jc1 hb;subst hn;obtain⟨l,h1,h2⟩:=Nh hr;obtain⟨h,h3,h4⟩:=Nh h2;rw[Ox]at h3;obtain⟨ll,q1,q2⟩:=aW h1;obtain⟨lh,q3,q4⟩:=aW h3;simp only[q1,q3,Rz,he,hs,q2,q4];unfold slRow at h4;rw[Ox,X2,X2]at h4
     by_cases c1:l≤h
     ·by_cases c2:h≤es.length
      ·rw[decide_eq_true c1,decide_eq_true c2]at h4
       obtain⟨rr,h5,h6⟩:=Ni h4;obtain⟨_,rfl⟩:=Pn _ _ _ h5;rw[if_pos (by simp[c1,c2])]
       unfold slQ at h6;rw[Ox]at h6
       by_cases c3:l=h
       ·subst c3
        rw[show Nat.beq l l=true from Nat.beq_refl l]at h6
        injection h6 with h6;subst h6
        rw[if_pos (by simp)];rfl
       ·have c4:Nat.beq l h=false:=by rw[X3];simpa using c3
        rw[c4]at h6;rw[if_neg (by simpa using c3)]
        by_cases c5:h=es.length
        ·subst c5
         rw[show Nat.beq es.length es.length=true from Nat.beq_refl _]at h6
         injection h6 with h6;subst h6
         rw[if_pos (by simp)];rfl
        ·have c6:Nat.beq h es.length=false:=by rw[X3];simpa using c5
         rw[c6]at h6;rw[if_neg (by simpa using c5)]
         obtain⟨qq,h7,h8⟩:=Ni h6;obtain⟨_,rfl⟩:=Rm _ _ _ h7;injection h8 with h8;subst h8
         rfl
      ·rw[decide_eq_true c1,decide_eq_false c2]at h4;cases h4
     ·rw[decide_eq_false c1]at h4;cases h4
   |p=>rw[hp]at hr;cases hr
   |e=>rw[hp]at hr;cases hr
   |n=>rw[hp]at hr;cases hr
   |a=>rw[hp]at hr;cases hr
   |t=>rw[hp]at hr;cases hr
   |no=>rw[hp]at hr;cases hr
   |w=>rw[hp]at hr;cases hr
  ·exact Kg hl
 ·split
  ·rename_i hu
   refine kD hl fun f S a r hx hr=>?_
   simp only[Bg,ho,hx];unfold slT2 at hr
   cases hp:a.sv with
   |s l0 =>
    rw[hp]at hr;obtain⟨s,rfl,rfl⟩:=sv_s hp;obtain⟨l,h1,h2⟩:=Nh hr;obtain⟨h,h3,h4⟩:=Nh h2;rw[Ox]at h3;have h3:(tF E.G hi).n f s.size=some h:=h3;obtain⟨ll,q1,q2⟩:=aW h1;obtain⟨lh,q3,q4⟩:=aW h3;simp only[q1,q3,Jl,hu,q2,q4];unfold slStr at h4;rw[X2]at h4
    by_cases c1:l≤h
    ·rw[decide_eq_true c1]at h4
     have h4:Option.rec (motive:=fun _=>Option AV) none (fun r=>Option.rec (motive:=fun _=>Option AV) none (fun q=>some (.v (.string ⟨⟨q⟩⟩))) (Wn (Nat.sub h l) r)) (fT l s.data.toList)=some r:=h4
     cases hd:fT l s.data.toList with
     |none=>rw[hd]at h4;cases h4
     |some rr =>
      rw[hd]at h4;have h4:Option.rec (motive:=fun _=>Option AV) none (fun q=>some (.v (.string ⟨⟨q⟩⟩))) (Wn (Nat.sub h l) rr)=some r:=h4
      cases ht:Wn (Nat.sub h l) rr with
      |none=>rw[ht]at h4;cases h4
      |some q =>
       rw[ht]at h4;injection h4 with h4;subst h4
       obtain⟨k1,rfl⟩:=Pn _ _ _ hd;obtain⟨k2,rfl⟩:=Rm _ _ _ ht
       have k3:h≤s.size:=by
        have:s.size=s.data.toList.length:=rfl;simp only[Nat.sub_eq,Jb4]at k2;omega
       rw[show Nat.ble l h=true by rw[X2,decide_eq_true c1],show Nat.ble h s.size=true by rw[X2,decide_eq_true k3]]
       rfl
    ·rw[decide_eq_false c1]at h4;cases h4
   |b=>rw[hp]at hr;cases hr
   |i=>rw[hp]at hr;cases hr
   |no=>rw[hp]at hr;cases hr
  ·exact Kg hl
def callV(E:Env)(o:Oper)(c:Call):VB:=match c.callee,c.args.toList,c.argTypes.toList with
 |.builtin .len,[x],[t]=>lenV E o t (opG E.G x)
 |_,_,_=>I3 E o
def qQ(E:Env)(o:Oper):VB:=match o.op with
 |.move x=>moveV (opG E.G x)
 |.assign x=>moveV (opG E.G x)
 |.pick c x y=>pickV (opG E.G c) (opG E.G x) (opG E.G y)
 |.build t ps=>zR E o t ps.toList
 |.buildSlice t len ps=>rowV E o t len ps.toList
 |.load t x=>kR E.P t (opG E.G x)
 |.nilCheck x=>nilV (opG E.G x)
 |.binOp op t x y _=>binV E o op (opG E.G x) (opG E.G y)
 |.makeInterface t x=>yB E.P t (opG E.G x)
 |.slice t x lo hi none=>xC E o t x lo hi
 |.fieldAddr t x i=>zA E.P t i (opG E.G x)
 |.field t x i=>yX E.P t i (opG E.G x)
 |.indexAddr t x i=>yR E.P t (opG E.G x) (opG E.G i)
 |.index t x i=>yQ E o t (opG E.G x) (opG E.G i)
 |.extract x i=>extrV i (opG E.G x)
 |.call c=>callV E o c
 |_=>I3 E o
theorem valV_ok{E:Env}{o:Oper}(hl:Gc o=true):VOk E o (qQ E o):=by
 have hm:∀x,(∀f S,Bg E f S o=ofOpt S (A6 E.G f x))→VOk E o (moveV (opG E.G x)):=fun x he f S a h=>by
  have h:(opG E.G x).g f=some a:=h;rw[G5]at h;rw[he,h];rfl
 unfold qQ
 split
 ·rename_i x ho;exact hm x fun f S=>by simp only[Bg,ho]
 ·rename_i x ho;exact hm x fun f S=>by simp only[Bg,ho]
 ·rename_i ho;exact pickV_ok ho
 ·rename_i ho;exact buildV_ok ho
 ·rename_i ho;exact rowV_ok ho
 ·rename_i ho;exact loadV_ok ho
 ·rename_i ho;exact nilV_ok ho
 ·rename_i ho;exact binV_ok ho
 ·rename_i ho;exact makeIV_ok ho
 ·rename_i ho;exact sliceV_ok ho
 ·rename_i ho;exact faddrV_ok ho
 ·rename_i ho;exact fieldV_ok ho
 ·rename_i ho;exact iaddrV_ok ho
 ·rename_i ho;exact indexV_ok ho
 ·rename_i ho;exact extrV_ok ho
 ·rename_i c ho
  unfold callV
  split
  ·rename_i hc ha ht;exact lenV_ok ho hc ha ht
  ·exact Kg hl
 ·exact Kg hl
end Go.Ax
