/- TtC0 -/
import Derived.Test.YtkjknlaffgkloaaDoorTpG9
import Derived.Lib.ItoaLen
import Derived.Lib.Join
import Derived.Lib.AppendIntMem
import Derived.Lib.Bytealg
import Derived.Test.YtkjknlaffgkloaaDoorAxShelf
import Derived.Lib.AtoiErrMem
import Derived.Lib.ParseIntB
set_option linter.unusedVariables false
set_option linter.unusedSimpArgs false
noncomputable section
namespace Go.Ax
open Go.RowKit Go.Proofs
set_option maxRecDepth 100000
theorem rowT_of{P:Program}{t e sz:Nat}(h1:elemT P t=some (none,e))(h2:P.underlying t=some (.slice e))(h3:(P.info? e).map (fun i=>(i.zero.map fun z=>z.cells.size,i.size,decide (i.bytes≤1000)))=some (some sz,sz,true))(h4:0<sz):∃bytes,RowT P t e sz bytes:=by
 cases hi:P.info? e with
 |none=>rw[hi]at h3;cases h3
 |some i =>
  rw[hi]at h3
  simp only[Option.map_some,Option.some.injEq,Prod.mk.injEq]at h3
  obtain⟨h5,h6,h7⟩:=h3
  cases hz:i.zero with
  |none=>rw[hz]at h5;cases h5
  |some z =>
   rw[hz]at h5
   simp only[Option.map_some,Option.some.injEq]at h5
   exact⟨i.bytes,h1,h2,⟨i,z,hi,hz,by rw[h5,h6],h6,rfl⟩,h4,of_decide_eq_true h7⟩
def powG:List AV:=Lib.pow10Tab.map fun z=>.v (.int .u64 z)
def gZ:Gl:=fun g=>Bool.rec none (some powG) (Nat.beq g 0)
theorem gnot(f:T AV)(S:St)(dst:Option Tmp)(k:Tmp)(ty:TypeId)(pos:String)(af:Array Edge)(gd:Option (Nat × Bool)):
  ground Tryd.prog gZ f S { dst:=dst,op:=.unOp .not 4 (.tmp k),type:=ty,pos:=pos,after:=af,guard:=gd }=notO (groundX Tryd.prog gZ f S { dst:=dst,op:=.unOp .not 4 (.tmp k),type:=ty,pos:=pos,after:=af,guard:=gd }) S (f.get k):=by
 unfold notO
 split
 ·rename_i b h
  have hg:groundO gZ f (.tmp k)=some (.bool b):=by unfold groundO;simp only[evalO,h];rfl
  unfold ground
  simp only[Op.operands,List.all_cons,List.all_nil,hg,Option.isSome_some,Bool.and_self,if_true]
  have e:execOp (fun x=>(groundO gZ f x).getD undef) { dst:=dst,op:=.unOp .not 4 (.tmp k),type:=ty,pos:=pos,after:=af,guard:=gd }=execOp (fun _=>.bool b) { dst:=dst,op:=.unOp .not 4 (.tmp k),type:=ty,pos:=pos,after:=af,guard:=gd }:=by
   simp only[execOp,hg,Option.getD_some]
  rw[e]
  cases b <;> rfl
 ·rfl
theorem fb_strN(l m:List UInt8):fastBin .neq (.v (.string ⟨⟨l⟩⟩)) (.v (.string ⟨⟨m⟩⟩))=some (.v (.bool (!decide (l=m)))):=by
 have e:=fb_eqS l m
 simp only[fastBin]at e ⊢
 simp only[Option.some.injEq,AV.v.injEq,Value.bool.injEq]at e ⊢
 rw[← e]
theorem fb_neqSx(l m:List UInt8):fastBin .neq (.v (.string ⟨⟨l⟩⟩)) (.v (.string ⟨⟨m⟩⟩))=some (.v (.bool (!decide (l=m)))):=fb_strN l m
def i64A(x:Int):AV:=.v (.int .i64 x)
def okI(x:Int):Prop:=-9223372036854775808≤x∧x≤9223372036854775807
inductive PX
 |mk (k a n:Int) (nm:List UInt8) (off:Bool) (kids:List PX)
def PX.kind:PX→Int |.mk k _ _ _ _ _=>k
def PX.at_:PX→Int |.mk _ a _ _ _ _=>a
def PX.name:PX→List UInt8 |.mk _ _ _ m _ _=>m
def PX.off:PX→Bool |.mk _ _ _ _ o _=>o
def PX.kids:PX→List PX |.mk _ _ _ _ _ l=>l
mutual
def exA:PX→AV
 |.mk k a n nm off kids=>.agg [i64A k,i64A a,i64A n,strS nm,.v (.bool off),match kids with
  | []=>.nils
  |_ :: _=>.sl 0 0 6 (exL kids)]
def exL:List PX→List AV
 | []=>[]
 |e :: r=>exA e :: exL r
end
def rowX(l:List PX):AV:=match l with
 | []=>.nils
 |_ :: _=>.sl 0 0 6 (exL l)
theorem exA_mk(k a n:Int)(nm:List UInt8)(off:Bool)(kids:List PX):exA (.mk k a n nm off kids)=.agg [i64A k,i64A a,i64A n,strS nm,.v (.bool off),rowX kids]:=by
 cases kids <;> rfl
def sgnF(s:List UInt8):Int :=
 if s=[111,114]∨s=[120,111,114]then 2
 else if s=[97,110,100]then 3
 else if s=[42]∨s=[47]∨s=[109,111,100]then 7
 else if s=[43]∨s=[45]then 6
 else 5
def bndF(k n:Int)(nm:List UInt8):Int :=
 if k=1 then(if n<0 then 8 else 10)
 else if k=4∨k=10 then 8
 else if k=5 then 4
 else if k=6 then sgnF nm
 else if k=7 then 0
 else if k=8∨k=9 then 1
 else if k=11 then 9
 else 10
def bndX:PX→Int
 |.mk k _ n nm _ _=>bndF k n nm
def parT(s:List UInt8):List UInt8:=([40] ++ s) ++ [41]
def kidT(ks:List (Int × Int × List UInt8))(i:Nat)(least:Int):List UInt8:=match ks[i]? with
 |none=>[]
 |some (b,_,s)=>if b<least then parT s else s
def kindT(ks:List (Int × Int × List UInt8))(i:Nat):Int:=match ks[i]? with
 |none=>0
 |some (_,k,_)=>k
def rawT(ks:List (Int × Int × List UInt8))(i:Nat):List UInt8:=match ks[i]? with
 |none=>[]
 |some (_,_,s)=>s
def rowT'(ks:List (Int × Int × List UInt8)):List UInt8:=Lib.join (ks.map fun x=>x.2.2) [44,32]
def whenF(nm:List UInt8)(off:Bool):List UInt8:=if off then [32,119,104,101,110,32,110,111,116,32] ++ nm else [32,119,104,101,110,32] ++ nm
def textOf(k n:Int)(nm:List UInt8)(off:Bool)(ks:List (Int × Int × List UInt8)):List UInt8 :=
 if k=1 then Lib.itoa n
 else if k=2 then(if n=1 then [116,114,117,101]else [102,97,108,115,101])
 else if k=3 then nm
 else if k=4 then(if kindT ks 0=1∨(kidT ks 0 8).head? = some 45 then([45,40] ++ rawT ks 0) ++ [41]else [45] ++ kidT ks 0 8)
 else if k=5 then [110,111,116,32] ++ kidT ks 0 4
 else if k=6 then((kidT ks 0 (if sgnF nm=5 then 6 else sgnF nm) ++ [32]) ++ nm) ++ [32] ++ kidT ks 1 (sgnF nm+1)
 else if k=7 then(((([105,102,32] ++ kidT ks 0 0) ++ [32,116,104,101,110,32]) ++ kidT ks 1 0) ++ [32,101,108,115,101,32]) ++ kidT ks 2 0
 else if k=8 then(kidT ks 0 2 ++ [32,45,62,32]) ++ kidT ks 1 1
 else if k=9 then(kidT ks 0 0 ++ [32,102,98,121,32]) ++ kidT ks 1 1
 else if k=10 then [112,114,101,32] ++ kidT ks 0 8
 else if k=11 then kidT ks 0 9 ++ whenF nm off
 else if k=12 then((((([109,101,114,103,101,32] ++ nm) ++ [32,40]) ++ kidT ks 0 0) ++ [41,32,40]) ++ kidT ks 1 0) ++ [41]
 else if k=13 then((nm ++ [40]) ++ rowT' ks) ++ [41]
 else if ks=[]then [97,119,97,105,116,32] ++ nm
 else(([97,119,97,105,116,32] ++ nm) ++ [32,97,102,116,101,114,32,40]) ++ rowT' ks ++ [41]
mutual
def txt:PX→List UInt8
 |.mk k _ n nm off kids=>textOf k n nm off (txL kids)
def txL:List PX→List (Int × Int × List UInt8)
 | []=>[]
 |e :: r=>(bndX e,PX.kind e,txt e) :: txL r
end
def needs(k:Int)(m:Nat):Prop :=
 ((k=1∨k=2∨k=3)∧m=0)∨((k=4∨k=5∨k=10∨k=11)∧m=1)∨((k=6∨k=8∨k=9∨k=12)∧m=2)∨(k=7∧m=3)∨((k=13∨k=14)∧m≤10)
mutual
def okX:Nat→PX→Prop
 |0,_=>False
 |d+1,.mk k a n nm _ kids=>okI a∧okI n∧((k=2→n=0∨n=1)∧(k=3→nm≠[]))∧nm.length≤30∧needs k kids.length∧okL d kids
def okL:Nat→List PX→Prop
 |_,[]=>True
 |d,e :: r=>okX d e∧okL d r
end
def SpFmt(args:List AV)(a:AV):Prop:=∀n,args=[i64A n,i64A 10]→okI n→a=strS (Lib.itoa n)
def SpPre(args:List AV)(a:AV):Prop:=∀l c,args=[strS l,strS [c]]→a=.v (.bool (decide (l.head? = some c)))
def SpFB(args:List AV)(a:AV):Prop:=∀b,args=[.v (.bool b)]→a=strS (if b then [116,114,117,101]else [102,97,108,115,101])
def SpSgn(args:List AV)(a:AV):Prop:=∀s,args=[strS s]→a=i64A (sgnF s)
def SpBnd(args:List AV)(a:AV):Prop:=∀k a0 n nm off v,args=[.agg [i64A k,a0,i64A n,strS nm,off,v]]→(1≤k∧k≤14)→a=i64A (bndF k n nm)
def SpText(args:List AV)(a:AV):Prop:=∀e d,args=[exA e]→okX d e→d≤4→a=strS (txt e)
def SpKid(args:List AV)(a:AV):Prop:=∀(e:PX) (i:Nat) (least:Int) d,args=[exA e,i64A (i:Int),i64A least]→okL d e.kids→d≤4→i≤10→a=strS (kidT (txL e.kids) i least)
def SpRefKid(args:List AV)(a:AV):Prop:=∀(e:PX) (least:Int) d,args=[exA e,i64A least]→okX d e→d≤4→a=strS (if bndX e<least then parT (txt e)else txt e)
def SpRow(args:List AV)(a:AV):Prop:=∀(l:List PX) d,args=[rowX l]→okL d l→d≤4→l.length≤10→a=strS (rowT' (txL l))
def SpKids(args:List AV)(a:AV):Prop:=∀(e:PX) d,args=[exA e]→okL d e.kids→d≤4→e.kids.length≤10→a=strS (rowT' (txL e.kids))
def SpWhen(args:List AV)(a:AV):Prop:=∀nm off,args=[strS nm,.v (.bool off)]→nm.length≤30→a=strS (whenF nm off)
def SpOne(kk:Int)(args:List AV)(a:AV):Prop:=∀e d,args=[exA e]→okX d e→d≤4→e.kind=kk→a=strS (txt e)
def typeF(b f:Bool):List UInt8:=if f then [102,117,116,117,114,101,32] ++ (if b then [98,111,111,108]else [105,110,116])else(if b then [98,111,111,108]else [105,110,116])
def SpTy(args:List AV)(a:AV):Prop:=∀b f,args=[.agg [.v (.bool b),.v (.bool f)]]→a=strS (typeF b f)
def SpRTy(args:List AV)(a:AV):Prop:=∀b f,args=[.v (.bool b),.v (.bool f)]→a=strS (typeF b f)
structure PDc where
 name:List UInt8
 at_:Int
 bool:Bool
 fut:Bool
 clock:List UInt8
 off:Bool
def dcA(d:PDc):AV:=.agg [strS d.name,i64A d.at_,.v (.bool d.bool),.v (.bool d.fut),strS d.clock,.v (.bool d.off)]
def isRowA(sz:Nat)(v:AV)(l:List AV):Prop:=(v=.nils∧l=[])∨∃tok off,v=.sl tok off sz l
def okDc(d:PDc):Prop:=d.name.length≤30∧d.clock.length≤30
def declF(d:PDc):List UInt8:=if d.clock=[]then(d.name ++ [58,32]) ++ typeF d.bool d.fut else((d.name ++ [58,32]) ++ typeF d.bool d.fut) ++ whenF d.clock d.off
def SpDecls(args:List AV)(a:AV):Prop:=∀v (l:List PDc) (s:List UInt8),args=[v,strS s]→isRowA 6 v (l.map dcA)→(∀d∈l,okDc d)→l.length≤10→s.length≤10→a=strS (Lib.join (l.map declF) s)
def lfA(x:List UInt8 × Int):AV:=.agg [strS x.1,i64A x.2]
def leftF(l:List (List UInt8 × Int)):List UInt8:=if 1<l.length then([40] ++ Lib.join (l.map fun x=>x.1) [44,32]) ++ [41]else Lib.join (l.map fun x=>x.1) [44,32]
def SpLeft(args:List AV)(a:AV):Prop:=∀v (l:List (List UInt8 × Int)),args=[v]→isRowA 2 v (l.map lfA)→(∀x∈l,x.1.length≤30)→l.length≤10→a=strS (leftF l)
def eqF(l:List (List UInt8 × Int))(async:Bool)(e:PX):List UInt8:=(if async then(leftF l ++ [32,61,32]) ++ [97,115,121,110,99,32]else leftF l ++ [32,61,32]) ++ txt e
def SpEq(args:List AV)(a:AV):Prop:=∀lv (l:List (List UInt8 × Int)) (async:Bool) (e:PX) d,args=[.agg (lv :: .v (.bool async) :: (exA e).cells)]→isRowA 2 lv (l.map lfA)→(∀x∈l,x.1.length≤30)→l.length≤10→okX d e→d≤4→a=strS (eqF l async e)
def SpOwn(args:List AV)(a:AV):Prop:=∀e d,args=[exA e]→okX d e→d≤4→a=exA e
def SpOwnD(args:List AV)(a:AV):Prop:=∀v (l:List PDc),args=[v]→isRowA 6 v (l.map dcA)→l.length≤10→a=.sl 0 0 6 (l.map dcA)
structure EqX where
 left:List (List UInt8 × Int)
 async:Bool
 e:PX
structure NdX where
 name:List UInt8
 at_:Int
 ins:List PDc
 outs:List PDc
 vars:List PDc
 eqs:List EqX
def eqX(q:EqX):AV:=.agg (.sl 0 0 2 (q.left.map lfA) :: .v (.bool q.async) :: (exA q.e).cells)
def eqRow(l:List EqX):AV:=match l with
 | []=>.nils
 |_ :: _=>.sl 0 0 8 (l.map eqX)
def ndC(n:NdX):List AV:=[strS n.name,i64A n.at_,.sl 0 0 6 (n.ins.map dcA),.sl 0 0 6 (n.outs.map dcA),.sl 0 0 6 (n.vars.map dcA),eqRow n.eqs]
def ndA(n:NdX):AV:=.agg (ndC n)
def ndRow(l:List NdX):AV:=.sl 0 0 6 (l.map ndA)
def okQ(q:EqX):Prop:=(1≤q.left.length∧q.left.length≤3)∧(∀x∈q.left,x.1.length≤30)∧okX 4 q.e
def okDs(l:List PDc):Prop:=l.length≤3∧∀d∈l,okDc d
def okNd(n:NdX):Prop:=n.name.length≤30∧okDs n.ins∧okDs n.outs∧okDs n.vars∧n.eqs.length≤5∧∀q∈n.eqs,okQ q
mutual
inductive RawX:AV→Prop where
 |mk (k a n:Int) (s:List UInt8) (b:Bool) (kv:AV) (hn:okI n) (h:RawXs kv):RawX (.agg [i64A k,i64A a,i64A n,strS s,.v (.bool b),kv])
inductive RawXs:AV→Prop where
 |nil:RawXs .nils
 |row (es:List AV) (h:∀e∈es,RawX e):RawXs (.sl 0 0 6 es)
 |emp (a:Addr):RawXs (.v (.slice (some a) 0 0))
end
def RawR(sz:Nat)(P:AV→Prop)(v:AV):Prop:=v=.nils∨(∃es,v=.sl 0 0 sz es∧∀e∈es,P e)∨∃a,v=.v (.slice (some a) 0 0)
def RawD(v:AV):Prop:=∃s a b f c o,v=.agg [strS s,i64A a,.v (.bool b),.v (.bool f),strS c,.v (.bool o)]
def RawL(v:AV):Prop:=∃s a,v=.agg [strS s,i64A a]
def RawQ(v:AV):Prop:=∃lv b x,v=.agg (lv :: .v (.bool b) :: x)∧RawR 2 RawL lv∧RawX (.agg x)
def RawN(v:AV):Prop:=∃s a v1 v2 v3 qv,v=.agg [strS s,i64A a,v1,v2,v3,qv]∧RawR 6 RawD v1∧RawR 6 RawD v2∧RawR 6 RawD v3∧RawR 8 RawQ qv
def SpSome(args:List AV)(a:AV):Prop:=∀v (d:Nat),args=[v,i64A (d:Int)]→RawX v→1≤d→d≤4→∃e,okX d e∧a=exA e
def SpSomeD(args:List AV)(a:AV):Prop:=∀v,args=[v]→RawR 6 RawD v→∃l,okDs l∧a=.sl 0 0 6 (l.map dcA)
def SpNode(args:List AV)(a:AV):Prop:=∀v,args=[v]→RawN v→∃n,okNd n∧a=ndA n
def SpOwnN(args:List AV)(a:AV):Prop:=∀l,args=[ndRow l]→(∀n∈l,okNd n)→l.length≤3→a=ndRow l
def SpCopyN(args:List AV)(a:AV):Prop:=∀n,args=[ndA n]→okNd n→a=ndA n
def ndZero:AV:=.agg [strS [],i64A 0,.nils,.nils,.nils,.nils]
def findX(s:List UInt8):List NdX→Option (NdX × Nat)
 | []=>none
 |n :: r=>if n.name=s then some (n,0)else(findX s r).map fun x=>(x.1,x.2+1)
def SpFind(args:List AV)(a:AV):Prop:=∀l s,args=[ndRow l,strS s]→(∀n∈l,okNd n)→l.length≤3→a=match findX s l with
 |some (n,_)=>.tup [ndA n,.v (.bool true)]
 |none=>.tup [ndZero,.v (.bool false)]
def SpRFind(args:List AV)(a:AV):Prop:=∀l s,args=[ndRow l,strS s]→(∀n∈l,okNd n)→l.length≤3→a=match findX s l with
 |some (_,i)=>i64A ((i:Nat):Int)
 |none=>i64A (-1)
def dcZero:AV:=.agg [strS [],i64A 0,.v (.bool false),.v (.bool false),strS [],.v (.bool false)]
def findD(s:List UInt8):List PDc→Option (PDc × Nat)
 | []=>none
 |d :: r=>if d.name=s then some (d,0)else(findD s r).map fun x=>(x.1,x.2+1)
def allD(n:NdX):List PDc:=(n.ins ++ n.outs) ++ n.vars
def SpNamed(args:List AV)(a:AV):Prop:=∀n s,args=[ndA n,strS s]→okNd n→a=match findD s (allD n)with
 |some (d,_)=>.tup [dcA d,.v (.bool true)]
 |none=>.tup [dcZero,.v (.bool false)]
def SpRNamed(args:List AV)(a:AV):Prop:=∀n s,args=[ndA n,strS s]→okNd n→a=match findD s (allD n)with
 |some (d,i)=>.tup [dcA d,i64A ((i:Nat):Int)]
 |none=>.tup [dcZero,i64A (-1)]
def SpAll(args:List AV)(a:AV):Prop:=∀n,args=[ndA n]→okNd n→isRowA 6 a ((allD n).map dcA)
def nodeF(n:NdX):List UInt8 :=
 (((((([110,111,100,101,32] ++ n.name) ++ [40]) ++ Lib.join (n.ins.map declF) [44,32]) ++ [41,32,114,101,116,117,114,110,115,32,40]) ++ Lib.join (n.outs.map declF) [44,32]) ++ [41,10])
 ++ ((if n.vars=[]then []else([118,97,114,32] ++ Lib.join (n.vars.map declF) [59,32]) ++ [59,10])
 ++ ([108,101,116,10] ++ ((n.eqs.map fun q=>([32,32] ++ eqF q.left q.async q.e) ++ [59,10]).flatten ++ [116,101,108,10])))
def printF(l:List NdX):List UInt8:=(l.map nodeF).flatten
def SpPrint(args:List AV)(a:AV):Prop:=∀l,args=[ndRow l]→(∀n∈l,okNd n)→l.length≤3→a=strS (printF l)
def SpClone(sz:Nat)(args:List AV)(a:AV):Prop:=∀es,args=[.sl 0 0 sz es]→freeL es=true→cleanL es=es→es.length≤10→a=.sl 0 0 sz es
def SpecZ(k:FuncId)(args:List AV)(a:AV):Prop:=match k with
 |29=>SpFmt args a
 |53=>SpPre args a
 |30=>SpFB args a
 |55=>SpSgn args a
 |54=>SpBnd args a
 |48=>SpBnd args a
 |16=>SpText args a
 |27=>SpText args a
 |32=>SpKid args a
 |47=>SpRefKid args a
 |49=>SpRow args a
 |35=>SpKids args a
 |34=>SpWhen args a
 |31=>SpOne 4 args a
 |33=>SpOne 6 args a
 |36=>SpOne 14 args a
 |42=>SpTy args a
 |45=>SpRTy args a
 |23=>SpDecls args a
 |26=>SpDecls args a
 |44=>SpLeft args a
 |24=>SpEq args a
 |20=>SpOwn args a
 |19=>SpOwnD args a
 |40=>SpOwn args a
 |18=>SpSome args a
 |17=>SpSomeD args a
 |5=>SpNode args a
 |6=>SpOwnN args a
 |21=>SpCopyN args a
 |9=>SpFind args a
 |10=>SpRFind args a
 |14=>SpNamed args a
 |13=>SpRNamed args a
 |15=>SpAll args a
 |11=>SpPrint args a
 |12=>SpPrint args a
 |37=>SpClone 6 args a
 |39=>SpClone 2 args a
 |_=>False
def knz(k:Nat):Bool:=[29,53,30,55,54,48,16,27,32,47,49,35,34,31,33,36,42,45,23,26,44,24,20,19,40,18,17,5,6,21,9,10,14,13,15,11,12,37,39].any (Nat.beq k)
def strsOf:List AV→Option (List (List UInt8))
 | []=>some []
 |.v (.string s) :: r=>match strsOf r with
  |some l=>some (s.data.toList :: l)
  |none=>none
 |_=>none
def joinB(args:List AV)(S:St):R:=match args with
 | [.bs id 0 n 1,.v (.string s)]=>match S.mem.get id with
  |some (.box cs)=>match strsOf cs with
   |some ws=>if ws.length=n∧n≤1000000∧(Lib.join ws s.data.toList).length≤1000000000 then .ret (strS (Lib.join ws s.data.toList)) S else .fail
   |none=>.fail
  |_=>.fail
 | [.sl _ _ 1 es,.v (.string s)]=>match strsOf es with
  |some ws=>if ws.length≤1000000∧(Lib.join ws s.data.toList).length≤1000000000 then .ret (strS (Lib.join ws s.data.toList)) S else .fail
  |none=>.fail
 | [.nils,.v (.string _)]=>.ret (strS []) S
 |_=>.fail
def EZ:Env:={ P:=Tryd.prog,G:=gZ,F:=E1.F,I:=fun k=>Bool.rec (Bool.rec (Bool.rec none (some (growI 6)) (Nat.beq k 50)) (some joinB) (Nat.beq k 43)) (some (pureG gZ Tryd.prog SpecZ k)) (knz k),M:=fun _=>0 }
theorem ez_P:EZ.P=Tryd.prog:=_root_.id rfl
theorem ez_G:EZ.G=gZ:=_root_.id rfl
theorem ez_F:EZ.F=E1.F:=_root_.id rfl
theorem ez_ok:EZ.Ok:=⟨fun k fn h=>e1_ok.fn k fn h⟩
theorem ez_mix:EZ.P.follows .mixedOrders=true:=e1_mix
theorem ez_I{k:Nat}(h:knz k=true):EZ.I k=some (pureG gZ Tryd.prog SpecZ k):=by
 show(Bool.rec (Bool.rec (Bool.rec none (some (growI 6)) (Nat.beq k 50)) (some joinB) (Nat.beq k 43)) (some (pureG gZ Tryd.prog SpecZ k)) (knz k):Option (List AV→St→R))=_
 rw[h]
theorem ez_join:EZ.I 43=some joinB:=by
 show(Bool.rec (Bool.rec (Bool.rec none (some (growI 6)) (Nat.beq 43 50)) (some joinB) (Nat.beq 43 43)) (some (pureG gZ Tryd.prog SpecZ 43)) (knz 43):Option (List AV→St→R))=_
 rw[show knz 43=false from by decide]
 rfl
theorem ez_grow:EZ.I 50=some (growI 6):=by
 show(Bool.rec (Bool.rec (Bool.rec none (some (growI 6)) (Nat.beq 50 50)) (some joinB) (Nat.beq 50 43)) (some (pureG gZ Tryd.prog SpecZ 50)) (knz 50):Option (List AV→St→R))=_
 rw[show knz 50=false from by decide]
 rfl
theorem str_inj{l m:List UInt8}(h:strS l=strS m):l=m:=by
 unfold strS at h;simpa using h
theorem strsOf_some:∀{es:List AV} {ws:List (List UInt8)},strsOf es=some ws→es=ws.map strS
 | [],ws,h=>by injection h with h;subst h;rfl
 |a :: r,ws,h=>by
  unfold strsOf at h
  split at h
  ·cases ‹_ :: _=[]›
  ·rename_i s r' heq
   injection heq with e1 e2;subst e1;subst e2
   split at h
   ·rename_i l hl
    injection h with h;subst h
    rw[strsOf_some hl];rfl
   ·cases h
  ·cases h
theorem VRL.two'{γ:Gh}{w:World}{a b:AV}{vs:List Value}(h:VRL γ w [a,b] vs):∃x y,vs=[x,y]∧VR γ w a x∧VR γ w b y:=by
 obtain⟨h1,h2⟩:=h
 match vs,h1 with
 | [x,y],_=>exact⟨x,y,rfl,h2 0 (by simp) (by simp),h2 1 (by simp) (by simp)⟩
theorem flat_strS(ws:List (List UInt8)):flat (ws.map strS)=ws.map strS:=by
 induction ws with
 |nil=>rfl
 |cons a r ih =>
  have:flat (strS a :: r.map strS)=strS a :: flat (r.map strS):=rfl
  rw[List.map_cons,this,ih]
theorem get_eq{l m:List AV}(h:l=m)(k:Nat)(h1:k<l.length):l[k]=m[k]'(h ▸ h1):=by subst h;rfl
theorem powG_len:powG.length=20:=by unfold powG;rw[List.length_map,Lib.pow10Tab_length]
theorem gPowZ:Tryd.prog.globalNamed "internal/strconv.uint64pow10" = some 0:=by kernel_rfl
theorem tab_of{γ:Gh}{w:World}(h:GR γ w gZ):Lib.TabIs Tryd.prog w "internal/strconv.uint64pow10" .u64 Lib.pow10Tab:=by
 obtain⟨h1,h2⟩:=h 0 powG rfl
 obtain⟨arr,T,fr,ha,hs⟩:=h2 (by rw[powG_len];omega)
 unfold Lib.TabIs World.var?
 rw[gPowZ]
 simp only[Option.bind_some,ha]
 congr 1
 rw[powG_len]at hs
 apply Array.ext
 ·simp[hs,Lib.pow10Tab_length]
 ·intro i hi1 hi2
  cases h1 with
  |ep cs b o c hc h3 hr =>
   have hi:i<powG.length:=by rw[powG_len];omega
   have e1:=(hc i hi).2
   have e2:=hr i hi
   rw[Nat.zero_add,cells_at ha,Array.getElem?_eq_getElem hi1]at e1
   injection e1 with e1
   have e3:powG[i]=.v (.int .u64 (Lib.pow10Tab[i]'(by rw[Lib.pow10Tab_length];omega))):=by simp[powG]
   rw[e3,← e1]at e2
   have:∀{z:Int} {v:Value},VR γ w (.v (.int .u64 z)) v→v=.int .u64 z:=fun h=>by cases h;rfl
   rw[this e2]
   simp
theorem vr_drop0{γ:Gh}{w:World}{x:Value}(hs:scalar x=true){v:Value}(h:VR γ w (.v x) v):VR ⟨fun _=>none,γ.im⟩ w (.v x) v:=by
 cases h;exact .v _ hs
theorem powG_v(k:Nat)(h:k<powG.length):∃z:Int,powG[k]=.v (.int .u64 z):=by
 unfold powG
 exact⟨_,List.getElem_map ..⟩
theorem gZ_drop{γ:Gh}{w:World}(hg:GR γ w gZ):GR ⟨fun _=>none,γ.im⟩ w gZ:=by
 intro g cs h
 have h0:=h
 unfold gZ at h
 cases hb2:Nat.beq g 0 with
 |false=>rw[hb2]at h;cases h
 |true =>
  have:g=0:=Nat.eq_of_beq_eq_true hb2
  subst this
  rw[hb2]at h
  injection h with h;subst h
  refine⟨?_,(hg 0 _ h0).2⟩
  have:=(hg 0 _ h0).1
  cases this with
  |ep _ b o c h1 h2 hr =>
   refine .ep _ _ _ c h1 h2 (fun k hk=>?_)
   have h3:=hr k hk
   obtain⟨z,hz⟩:=powG_v k hk
   rw[hz]at h3 ⊢
   exact vr_drop0 rfl h3
theorem pureQ_of{w w':World}{im:Nat→Nat→Prop}(him:∀b o,im b o→∃v,w.cell? ⟨b,o,none⟩=some v){a:AV}{v:Value}(hb:Below w.heap.size w w')(hv:∀γ w,VR γ w a v):PureQ w im a (.returned v) w' :=
 ⟨v,⟨fun _=>none,im⟩,rfl,hb,fun b o h=>by obtain⟨v,hv⟩:=him b o h;exact⟨v,(hb.cell (World.block_lt_of_cell? w _ hv)).trans hv⟩,fun _ _ _ h=>h,fun _ _=>hv _ _⟩
theorem knFmt(n:Int)(hn:okI n):∃a,KnG gZ Tryd.prog SpecZ 29 [i64A n,i64A 10] a:=by
 refine⟨strS (Lib.itoa n),rfl,rfl,fun w im him hg vs hv=>?_,fun n' e _=>?_⟩
 ·obtain⟨x,y,rfl,hx,hy⟩:=hv.two'
  cases hx;cases hy
  refine(Tryd.strconv_FormatInt_10 n hn.1 hn.2 w (tab_of hg)).mono fun e w' he=>?_
  obtain⟨rfl,k,os,rfl⟩:=he
  exact pureQ_of him (Lib.below_grow _ w (Nat.le_refl _) k os) fun _ _=>.v _ rfl
 ·simp only[List.cons.injEq,and_true,i64A,AV.v.injEq,Value.int.injEq,true_and]at e
  rw[e]
theorem pre_is(l:List UInt8)(c:UInt8):Lib.hasPrefix l [c]=decide (l.head? = some c):=by
 cases l with
 |nil=>simp[Lib.hasPrefix]
 |cons x r =>
  have e:Lib.hasPrefix (x :: r) [c]=((c == x) && true):=rfl
  rw[e,Bool.and_true,List.head?_cons]
  by_cases h:x=c
  ·subst h;simp
  ·have h2:¬ c=x:=fun e=>h e.symm
   simp[h,h2]
theorem knPre(l:List UInt8)(c:UInt8):∃a,KnG gZ Tryd.prog SpecZ 53 [strS l,strS [c]] a:=by
 refine⟨.v (.bool (decide (l.head? = some c))),rfl,rfl,fun w im him hg vs hv=>?_,fun l' c' e=>?_⟩
 ·obtain⟨x,y,rfl,hx,hy⟩:=hv.two'
  cases hx;cases hy
  refine(Tryd.strings_HasPrefix ⟨⟨l⟩⟩ ⟨⟨[c]⟩⟩ w).mono fun e w' he=>?_
  obtain⟨rfl,rfl⟩:=he
  have e1:Lib.hasPrefix (⟨⟨l⟩⟩:ByteArray).data.toList (⟨⟨[c]⟩⟩:ByteArray).data.toList=decide (l.head? = some c):=pre_is l c
  rw[e1]
  exact pureQ_of him (.refl _ _) fun _ _=>.v _ rfl
 ·simp only[List.cons.injEq,and_true]at e
  rw[str_inj e.1,(List.cons.inj (str_inj e.2)).1]
theorem joinB_ok(base:Nat)(w0:World)(args:List AV)(S:St)(hne:joinB args S≠.fail)(γ:Gh)(w:World)(vs:List Value)(hS:SR base w0 γ S w)(hv:VRL γ w args vs):Calls Tryd.prog 43 vs.toArray w (RetOk base w0 γ S w (joinB args S)):=by
 have fin:∀(b o cap:Nat) (s:ByteArray) (ws:List (List UInt8)),b<w.heap.size→ws.length≤1000000→ws.length≤cap→(Lib.join ws s.data.toList).length≤1000000000→(∀(j:Nat) x,ws[j]? = some x→w.cell? ⟨b,o+j,none⟩=some (.string ⟨⟨x⟩⟩)) →
   Calls Tryd.prog 43 #[.slice (some ⟨b,o,none⟩) ws.length cap,.string s] w (RetOk base w0 γ S w (.ret (strS (Lib.join ws s.data.toList)) S)):=fun b o cap s ws hbk hn hcap hlen hc=>by
  have hcell:∀(j:Nat) (x:ByteArray),(ws.map (fun l=>(⟨⟨l⟩⟩:ByteArray)))[j]? = some x→w.cell? ⟨b,o+j,none⟩=some (.string x):=fun j x hj=>by
   rw[List.getElem?_map]at hj
   cases hw:ws[j]? with
   |none=>rw[hw]at hj;cases hj
   |some l=>rw[hw]at hj;injection hj with hj;subst hj;exact hc j l hw
  have hJ:(ws.map (fun l=>(⟨⟨l⟩⟩:ByteArray))).map (·.data.toList)=ws:=by rw[List.map_map];exact(List.map_congr_left (fun _ _=>rfl)).trans (List.map_id _)
  have:=Tryd.strings_Join b o cap (ws.map (fun l=>(⟨⟨l⟩⟩:ByteArray))) s w hcell hbk (by rw[List.length_map];omega) (by rw[List.length_map];omega) (by rw[hJ];omega)
  rw[hJ,List.length_map]at this
  refine this.mono fun e w' he=>?_
  obtain⟨rfl,hb⟩:=he
  obtain⟨q1,q2⟩:=hS.after hb
  exact⟨γ,_,q1,q2,.v _ rfl,rfl⟩
 have str_of:∀{γ:Gh} {w:World} {l:List UInt8} {v:Value},VR γ w (strS l) v→v=.string ⟨⟨l⟩⟩:=fun h=>by cases h;rfl
 unfold joinB at hne ⊢
 split at hne
 ·rename_i id n s
  cases hm:S.mem.get id with
  |none=>rw[hm]at hne;exact absurd rfl hne
  |some c =>
   cases c with
   |tip m=>rw[hm]at hne;exact absurd rfl hne
   |mp es=>rw[hm]at hne;exact absurd rfl hne
   |box cs =>
    rw[hm]at hne
    simp only at hne ⊢
    cases hws:strsOf cs with
    |none=>rw[hws]at hne;exact absurd rfl hne
    |some ws =>
     rw[hws]at hne
     simp only at hne ⊢
     split at hne
     case isFalse=>exact absurd rfl hne
     rename_i hc
     rw[if_pos hc]
     obtain⟨h1,h2,h3⟩:=hc
     obtain⟨x,y,rfl,hx,hy⟩:=hv.two'
     cases hy
     cases hx with
     |bs _ _ _ _ b s2 cap hloc hcap hsz hb =>
      obtain⟨b',s',l1,l2,l3⟩:=hS.live id _ hm
      rw[hloc]at l1;injection l1 with l1;injection l1 with l1 l4;subst l1;subst l4
      obtain⟨hs0,_,_,arr,T,xs,ys,ha,hxy,hvr⟩:=l3
      subst hs0
      have he:=strsOf_some hws
      subst he
      subst h1
      refine fin b (0+0) cap s ws (Array.getElem?_eq_some_iff.1 ha).1 h2 hcap h3 fun j z hj=>?_
      obtain⟨hj1,hj2⟩:=List.getElem?_eq_some_iff.1 hj
      obtain⟨u,hu,hvu⟩:=hvr.get (n:=j) (b:=strS z) (by rw[List.getElem?_map,hj];rfl)
      rw[cells_at ha]
      have hu2:arr[0+0+j]? = some u:=by
       rw[show 0+0+j=j from by omega,← Array.getElem?_toList,hxy,List.getElem?_append_left (List.getElem?_eq_some_iff.1 hu).1];exact hu
      rw[hu2,str_of hvu]
 ·rename_i tok off es s
  cases hws:strsOf es with
  |none=>simp only[hws]at hne;exact absurd rfl hne
  |some ws =>
   simp only[hws]at hne ⊢
   split at hne
   case isFalse=>exact absurd rfl hne
   rename_i hc
   rw[if_pos hc]
   obtain⟨x,y,rfl,hx,hy⟩:=hv.two'
   cases hy
   have he:=strsOf_some hws
   subst he
   cases hx with
   |sl _ _ _ _ b o cap c hsz hes h1 h2 hr ht hf hcap hb =>
    rw[flat_strS]at h2
    obtain⟨arr,T,fr,ha,hle⟩:=hb
    have hl:(ws.map strS).length=ws.length:=List.length_map ..
    rw[hl]at hcap ⊢
    refine fin b o cap s ws (Array.getElem?_eq_some_iff.1 ha).1 hc.1 hcap hc.2 fun j z hj=>?_
    obtain⟨hj1,hj2⟩:=List.getElem?_eq_some_iff.1 hj
    have e1:=(h2 j (by rw[hl];exact hj1)).2
    have e2:=hr j (by rw[flat_strS,hl];exact hj1)
    have e3:(flat (ws.map strS))[j]'(by rw[flat_strS,hl];exact hj1)=strS ws[j]:=by
     rw[get_eq (flat_strS ws) j,List.getElem_map]
    rw[e3,hj2]at e2
    rw[e1,str_of e2]
 ·rename_i s
  obtain⟨x,y,rfl,hx,hy⟩:=hv.two'
  cases hy
  cases hx
  refine(Tryd.strings_Join_none none 0 s w).mono fun e w' he=>?_
  obtain⟨rfl,rfl⟩:=he
  obtain⟨q1,q2⟩:=hS.after (.refl _ _)
  exact⟨γ,_,q1,q2,.v _ rfl,rfl⟩
 ·exact absurd rfl hne
theorem ez_intr:IntrOk EZ:=fun k g hk base w0 args S hne γ w vs hS hg hv=>by
 have hk2:(Bool.rec (Bool.rec (Bool.rec none (some (growI 6)) (Nat.beq k 50)) (some joinB) (Nat.beq k 43)) (some (pureG gZ Tryd.prog SpecZ k)) (knz k):Option (List AV→St→R))=some g:=hk
 cases hb:knz k with
 |true =>
  rw[hb]at hk2
  injection hk2 with hk2;subst hk2
  exact pureG_ok gZ_drop base w0 args S hne γ w vs hS hg hv
 |false =>
  rw[hb]at hk2
  cases hc:Nat.beq k 43 with
  |false =>
   rw[hc]at hk2
   cases hd:Nat.beq k 50 with
   |false=>rw[hd]at hk2;cases hk2
   |true =>
    rw[hd]at hk2
    injection hk2 with hk2;subst hk2
    have:k=50:=Nat.eq_of_beq_eq_true hd
    subst this
    exact grow_I base w0 args S hne γ w vs hS hv
  |true =>
   rw[hc]at hk2
   injection hk2 with hk2;subst hk2
   have:k=43:=Nat.eq_of_beq_eq_true hc
   subst this
   exact joinB_ok base w0 args S hne γ w vs hS hv
abbrev KnZ(k:FuncId)(args:List AV):Prop:=∃a,KnG gZ Tryd.prog SpecZ k args a
theorem bodyZ{k:FuncId}{args:List AV}(fn:Func)(hF:E1.F k=some fn)(hb:fn.body.isSome=true)(hl:args.length≤fn.ntmps)
  (h:W EZ fn.ntmps (fn.body.getD .skip) ⟨initT args 0,[]⟩ St0 (finW EZ fn.results.toList (fun r=>∃a S',r=.ret a S'∧freeV a=true∧SpecZ k args (clean a)))):KnZ k args :=
 pureOfG ez_ok ez_intr ez_mix fn hF hb hl h
theorem callZ{k:FuncId}{args args':List AV}{S:St}{Q:R→Prop}(hk:KnZ k args')(hkn:knz k=true)(hf:freeL args=true)(hc:cleanL args=args')(h:∀a,freeV a=true→clean a=a→SpecZ k args' a→Q (.ret a S)):WC EZ k args S Q:=by
 subst hc
 obtain⟨a,ha,hka⟩:=pureG_is (P:=Tryd.prog) (Spec:=SpecZ) hf hk
 refine WC_known (ez_I hkn) ?_
 rw[ha S]
 exact h a hka.free hka.cln hka.spec
theorem yuP:Tryd.prog.underlying 55=some (.slice 57):=by kernel_rfl
theorem yeP:elemT Tryd.prog 55=some (none,57):=by kernel_rfl
theorem yzeP:sizeT Tryd.prog 57=some 6:=by kernel_rfl
theorem yiP:(Tryd.prog.info? 57).map (fun i=>(i.zero.map fun z=>z.cells.size,i.size,decide (i.bytes≤1000)))=some (some 6,6,true):=by kernel_rfl
theorem ytP:∃bytes,RowT Tryd.prog 55 57 6 bytes:=rowT_of yeP yuP yiP (by decide)
theorem yrP_0:oBuildSlice Tryd.prog 55 0 []=some (.sl 1 0 6 []):=by kernel_rfl
theorem ynP(S:St)(tok off:Nat)(es:List AV):oLen Tryd.prog S 55 (.sl tok off 6 es)=some es.length:=by simp[oLen,yuP]
theorem ynnP(S:St):oLen Tryd.prog S 55 .nils=some 0:=by simp[oLen,yuP]
theorem yxP(tok off:Nat)(es:List AV)(i:Nat)(h:i<es.length):oIndexAddr Tryd.prog 55 (.sl tok off 6 es) (.v (.int .i64 (i:Int)))=some (.ep es[i].cells):=by
 have h0:(0:Int)≤(i:Int):=by omega
 simp[oIndexAddr,h0,yeP,yzeP,h]
theorem yuR:Tryd.prog.underlying 61=some (.slice 63):=by kernel_rfl
theorem yeR:elemT Tryd.prog 61=some (none,63):=by kernel_rfl
theorem yzeR:sizeT Tryd.prog 63=some 6:=by kernel_rfl
theorem yiR:(Tryd.prog.info? 63).map (fun i=>(i.zero.map fun z=>z.cells.size,i.size,decide (i.bytes≤1000)))=some (some 6,6,true):=by kernel_rfl
theorem ytR:∃bytes,RowT Tryd.prog 61 63 6 bytes:=rowT_of yeR yuR yiR (by decide)
theorem ynR(S:St)(tok off:Nat)(es:List AV):oLen Tryd.prog S 61 (.sl tok off 6 es)=some es.length:=by simp[oLen,yuR]
theorem ynnR(S:St):oLen Tryd.prog S 61 .nils=some 0:=by simp[oLen,yuR]
theorem yxR(tok off:Nat)(es:List AV)(i:Nat)(h:i<es.length):oIndexAddr Tryd.prog 61 (.sl tok off 6 es) (.v (.int .i64 (i:Int)))=some (.ep es[i].cells):=by
 have h0:(0:Int)≤(i:Int):=by omega
 simp[oIndexAddr,h0,yeR,yzeR,h]
theorem yuS:Tryd.prog.underlying 31=some (.slice 9):=by kernel_rfl
theorem yeS:elemT Tryd.prog 31=some (none,9):=by kernel_rfl
theorem yzeS:sizeT Tryd.prog 9=some 1:=by kernel_rfl
theorem yiS:(Tryd.prog.info? 9).map (fun i=>(i.zero.map fun z=>z.cells.size,i.size,decide (i.bytes≤1000)))=some (some 1,1,true):=by kernel_rfl
theorem ytS:∃bytes,RowT Tryd.prog 31 9 1 bytes:=rowT_of yeS yuS yiS (by decide)
theorem ynS(S:St)(tok off:Nat)(es:List AV):oLen Tryd.prog S 31 (.sl tok off 1 es)=some es.length:=by simp[oLen,yuS]
theorem ynnS(S:St):oLen Tryd.prog S 31 .nils=some 0:=by simp[oLen,yuS]
theorem yxS(tok off:Nat)(es:List AV)(i:Nat)(h:i<es.length):oIndexAddr Tryd.prog 31 (.sl tok off 1 es) (.v (.int .i64 (i:Int)))=some (.ep es[i].cells):=by
 have h0:(0:Int)≤(i:Int):=by omega
 simp[oIndexAddr,h0,yeS,yzeS,h]
theorem yuD:Tryd.prog.underlying 34=some (.slice 50):=by kernel_rfl
theorem yeD:elemT Tryd.prog 34=some (none,50):=by kernel_rfl
theorem yzeD:sizeT Tryd.prog 50=some 6:=by kernel_rfl
theorem yiD:(Tryd.prog.info? 50).map (fun i=>(i.zero.map fun z=>z.cells.size,i.size,decide (i.bytes≤1000)))=some (some 6,6,true):=by kernel_rfl
theorem ytD:∃bytes,RowT Tryd.prog 34 50 6 bytes:=rowT_of yeD yuD yiD (by decide)
theorem yrD_0:oBuildSlice Tryd.prog 34 0 []=some (.sl 1 0 6 []):=by kernel_rfl
theorem ynD(S:St)(tok off:Nat)(es:List AV):oLen Tryd.prog S 34 (.sl tok off 6 es)=some es.length:=by simp[oLen,yuD]
theorem ynnD(S:St):oLen Tryd.prog S 34 .nils=some 0:=by simp[oLen,yuD]
theorem yxD(tok off:Nat)(es:List AV)(i:Nat)(h:i<es.length):oIndexAddr Tryd.prog 34 (.sl tok off 6 es) (.v (.int .i64 (i:Int)))=some (.ep es[i].cells):=by
 have h0:(0:Int)≤(i:Int):=by omega
 simp[oIndexAddr,h0,yeD,yzeD,h]
theorem yuE:Tryd.prog.underlying 24=some (.slice 44):=by kernel_rfl
theorem yeE:elemT Tryd.prog 24=some (none,44):=by kernel_rfl
theorem yzeE:sizeT Tryd.prog 44=some 6:=by kernel_rfl
theorem yiE:(Tryd.prog.info? 44).map (fun i=>(i.zero.map fun z=>z.cells.size,i.size,decide (i.bytes≤1000)))=some (some 6,6,true):=by kernel_rfl
theorem ytE:∃bytes,RowT Tryd.prog 24 44 6 bytes:=rowT_of yeE yuE yiE (by decide)
theorem yrE_0:oBuildSlice Tryd.prog 24 0 []=some (.sl 1 0 6 []):=by kernel_rfl
theorem ynE(S:St)(tok off:Nat)(es:List AV):oLen Tryd.prog S 24 (.sl tok off 6 es)=some es.length:=by simp[oLen,yuE]
theorem ynnE(S:St):oLen Tryd.prog S 24 .nils=some 0:=by simp[oLen,yuE]
theorem yxE(tok off:Nat)(es:List AV)(i:Nat)(h:i<es.length):oIndexAddr Tryd.prog 24 (.sl tok off 6 es) (.v (.int .i64 (i:Int)))=some (.ep es[i].cells):=by
 have h0:(0:Int)≤(i:Int):=by omega
 simp[oIndexAddr,h0,yeE,yzeE,h]
theorem yuI:Tryd.prog.underlying 95=some (.slice 3):=by kernel_rfl
theorem yeI:elemT Tryd.prog 95=some (none,3):=by kernel_rfl
theorem yzeI:sizeT Tryd.prog 3=some 1:=by kernel_rfl
theorem ynI(S:St)(tok off:Nat)(es:List AV):oLen Tryd.prog S 95 (.sl tok off 1 es)=some es.length:=by simp[oLen,yuI]
theorem yxI(tok off:Nat)(es:List AV)(i:Nat)(h:i<es.length):oIndexAddr Tryd.prog 95 (.sl tok off 1 es) (.v (.int .i64 (i:Int)))=some (.ep es[i].cells):=by
 have h0:(0:Int)≤(i:Int):=by omega
 simp[oIndexAddr,h0,yeI,yzeI,h]
theorem yuL:Tryd.prog.underlying 71=some (.slice 74):=by kernel_rfl
theorem yeL:elemT Tryd.prog 71=some (none,74):=by kernel_rfl
theorem yzeL:sizeT Tryd.prog 74=some 2:=by kernel_rfl
theorem yiL:(Tryd.prog.info? 74).map (fun i=>(i.zero.map fun z=>z.cells.size,i.size,decide (i.bytes≤1000)))=some (some 2,2,true):=by kernel_rfl
theorem ytL:∃bytes,RowT Tryd.prog 71 74 2 bytes:=rowT_of yeL yuL yiL (by decide)
theorem yrL_0:oBuildSlice Tryd.prog 71 0 []=some (.sl 1 0 2 []):=by kernel_rfl
theorem ynL(S:St)(tok off:Nat)(es:List AV):oLen Tryd.prog S 71 (.sl tok off 2 es)=some es.length:=by simp[oLen,yuL]
theorem ynnL(S:St):oLen Tryd.prog S 71 .nils=some 0:=by simp[oLen,yuL]
theorem yxL(tok off:Nat)(es:List AV)(i:Nat)(h:i<es.length):oIndexAddr Tryd.prog 71 (.sl tok off 2 es) (.v (.int .i64 (i:Int)))=some (.ep es[i].cells):=by
 have h0:(0:Int)≤(i:Int):=by omega
 simp[oIndexAddr,h0,yeL,yzeL,h]
theorem ygX:isAggT Tryd.prog 57=some true:=by kernel_rfl
theorem yzX:sizeT Tryd.prog 57=some 6:=by kernel_rfl
theorem ylX(S:St)(p k:Nat):oLoad Tryd.prog S 57 (.ptr p k)=clN (S.mem.get p) k 6:=vldG ygX yzX S p k
theorem yleX(S:St)(cs:List AV):oLoad Tryd.prog S 57 (.ep cs)=if 6≤cs.length then some (.agg (cs.take 6))else none:=vldGE ygX yzX S cs
theorem ysX(S:St)(p k:Nat)(v:AV):oStore Tryd.prog S 57 (.ptr p k) v=vstB S (S.mem.get p) p k v 6:=vstG yzX S p k v
theorem yaX(S:St):oAlloc Tryd.prog S 57=some (.ptr S.next 0,S.newBox [.v (.int .i64 0),.v (.int .i64 0),.v (.int .i64 0),strS [],.v (.bool false),.nils]):=by kernel_rfl
theorem yfX_0(p k:Nat):oFieldAddr Tryd.prog 57 (.ptr p k) 0=some (.ptr p (k+0)):=by kernel_rfl
theorem yfX_2(p k:Nat):oFieldAddr Tryd.prog 57 (.ptr p k) 2=some (.ptr p (k+2)):=by kernel_rfl
theorem yfX_3(p k:Nat):oFieldAddr Tryd.prog 57 (.ptr p k) 3=some (.ptr p (k+3)):=by kernel_rfl
theorem yfX_4(p k:Nat):oFieldAddr Tryd.prog 57 (.ptr p k) 4=some (.ptr p (k+4)):=by kernel_rfl
theorem yfX_5(p k:Nat):oFieldAddr Tryd.prog 57 (.ptr p k) 5=some (.ptr p (k+5)):=by kernel_rfl
theorem ygY:isAggT Tryd.prog 63=some true:=by kernel_rfl
theorem yzY:sizeT Tryd.prog 63=some 6:=by kernel_rfl
theorem ylY(S:St)(p k:Nat):oLoad Tryd.prog S 63 (.ptr p k)=clN (S.mem.get p) k 6:=vldG ygY yzY S p k
theorem yleY(S:St)(cs:List AV):oLoad Tryd.prog S 63 (.ep cs)=if 6≤cs.length then some (.agg (cs.take 6))else none:=vldGE ygY yzY S cs
theorem ysY(S:St)(p k:Nat)(v:AV):oStore Tryd.prog S 63 (.ptr p k) v=vstB S (S.mem.get p) p k v 6:=vstG yzY S p k v
theorem yaY(S:St):oAlloc Tryd.prog S 63=some (.ptr S.next 0,S.newBox [.v (.int .i64 0),.v (.int .i64 0),.v (.int .i64 0),strS [],.v (.bool false),.nils]):=by kernel_rfl
theorem yfY_0(p k:Nat):oFieldAddr Tryd.prog 63 (.ptr p k) 0=some (.ptr p (k+0)):=by kernel_rfl
theorem yfY_1(p k:Nat):oFieldAddr Tryd.prog 63 (.ptr p k) 1=some (.ptr p (k+1)):=by kernel_rfl
theorem yfY_2(p k:Nat):oFieldAddr Tryd.prog 63 (.ptr p k) 2=some (.ptr p (k+2)):=by kernel_rfl
theorem yfY_3(p k:Nat):oFieldAddr Tryd.prog 63 (.ptr p k) 3=some (.ptr p (k+3)):=by kernel_rfl
theorem yfY_4(p k:Nat):oFieldAddr Tryd.prog 63 (.ptr p k) 4=some (.ptr p (k+4)):=by kernel_rfl
theorem yfY_5(p k:Nat):oFieldAddr Tryd.prog 63 (.ptr p k) 5=some (.ptr p (k+5)):=by kernel_rfl
theorem ygLf:isAggT Tryd.prog 74=some true:=by kernel_rfl
theorem yzLf:sizeT Tryd.prog 74=some 2:=by kernel_rfl
theorem yleLf(S:St)(cs:List AV):oLoad Tryd.prog S 74 (.ep cs)=if 2≤cs.length then some (.agg (cs.take 2))else none:=vldGE ygLf yzLf S cs
theorem ysLf(S:St)(p k:Nat)(v:AV):oStore Tryd.prog S 74 (.ptr p k) v=vstB S (S.mem.get p) p k v 2:=vstG yzLf S p k v
theorem yaLf(S:St):oAlloc Tryd.prog S 74=some (.ptr S.next 0,S.newBox [strS [],.v (.int .i64 0)]):=by kernel_rfl
theorem yfLf_0(p k:Nat):oFieldAddr Tryd.prog 74 (.ptr p k) 0=some (.ptr p (k+0)):=by kernel_rfl
theorem ygQ:isAggT Tryd.prog 73=some true:=by kernel_rfl
theorem yzQ:sizeT Tryd.prog 73=some 8:=by kernel_rfl
theorem ylQ(S:St)(p k:Nat):oLoad Tryd.prog S 73 (.ptr p k)=clN (S.mem.get p) k 8:=vldG ygQ yzQ S p k
theorem ysQ(S:St)(p k:Nat)(v:AV):oStore Tryd.prog S 73 (.ptr p k) v=vstB S (S.mem.get p) p k v 8:=vstG yzQ S p k v
theorem yfQ_0(p k:Nat):oFieldAddr Tryd.prog 73 (.ptr p k) 0=some (.ptr p (k+0)):=by kernel_rfl
theorem yfQ_1(p k:Nat):oFieldAddr Tryd.prog 73 (.ptr p k) 1=some (.ptr p (k+1)):=by kernel_rfl
theorem yfQ_2(p k:Nat):oFieldAddr Tryd.prog 73 (.ptr p k) 2=some (.ptr p (k+2)):=by kernel_rfl
theorem ygDc:isAggT Tryd.prog 50=some true:=by kernel_rfl
theorem yzDc:sizeT Tryd.prog 50=some 6:=by kernel_rfl
theorem ylDc(S:St)(p k:Nat):oLoad Tryd.prog S 50 (.ptr p k)=clN (S.mem.get p) k 6:=vldG ygDc yzDc S p k
theorem yleDc(S:St)(cs:List AV):oLoad Tryd.prog S 50 (.ep cs)=if 6≤cs.length then some (.agg (cs.take 6))else none:=vldGE ygDc yzDc S cs
theorem ysDc(S:St)(p k:Nat)(v:AV):oStore Tryd.prog S 50 (.ptr p k) v=vstB S (S.mem.get p) p k v 6:=vstG yzDc S p k v
theorem yaDc(S:St):oAlloc Tryd.prog S 50=some (.ptr S.next 0,S.newBox [strS [],.v (.int .i64 0),.v (.bool false),.v (.bool false),strS [],.v (.bool false)]):=by kernel_rfl
theorem yfDc_0(p k:Nat):oFieldAddr Tryd.prog 50 (.ptr p k) 0=some (.ptr p (k+0)):=by kernel_rfl
theorem yfDc_1(p k:Nat):oFieldAddr Tryd.prog 50 (.ptr p k) 1=some (.ptr p (k+1)):=by kernel_rfl
theorem yfDc_2(p k:Nat):oFieldAddr Tryd.prog 50 (.ptr p k) 2=some (.ptr p (k+2)):=by kernel_rfl
theorem yfDc_3(p k:Nat):oFieldAddr Tryd.prog 50 (.ptr p k) 3=some (.ptr p (k+4)):=by kernel_rfl
theorem yfDc_4(p k:Nat):oFieldAddr Tryd.prog 50 (.ptr p k) 4=some (.ptr p (k+5)):=by kernel_rfl
theorem ygEc:isAggT Tryd.prog 44=some true:=by kernel_rfl
theorem yzEc:sizeT Tryd.prog 44=some 6:=by kernel_rfl
theorem ylEc(S:St)(p k:Nat):oLoad Tryd.prog S 44 (.ptr p k)=clN (S.mem.get p) k 6:=vldG ygEc yzEc S p k
theorem yleEc(S:St)(cs:List AV):oLoad Tryd.prog S 44 (.ep cs)=if 6≤cs.length then some (.agg (cs.take 6))else none:=vldGE ygEc yzEc S cs
theorem ysEc(S:St)(p k:Nat)(v:AV):oStore Tryd.prog S 44 (.ptr p k) v=vstB S (S.mem.get p) p k v 6:=vstG yzEc S p k v
theorem yaEc(S:St):oAlloc Tryd.prog S 44=some (.ptr S.next 0,S.newBox [strS [],.v (.int .i64 0),.v (.bool false),.v (.bool false),strS [],.v (.bool false)]):=by kernel_rfl
theorem yfEc_0(p k:Nat):oFieldAddr Tryd.prog 44 (.ptr p k) 0=some (.ptr p (k+0)):=by kernel_rfl
theorem yfEc_1(p k:Nat):oFieldAddr Tryd.prog 44 (.ptr p k) 1=some (.ptr p (k+1)):=by kernel_rfl
theorem yfEc_2(p k:Nat):oFieldAddr Tryd.prog 44 (.ptr p k) 2=some (.ptr p (k+2)):=by kernel_rfl
theorem yfEc_3(p k:Nat):oFieldAddr Tryd.prog 44 (.ptr p k) 3=some (.ptr p (k+3)):=by kernel_rfl
theorem yfEc_4(p k:Nat):oFieldAddr Tryd.prog 44 (.ptr p k) 4=some (.ptr p (k+4)):=by kernel_rfl
theorem yfEc_5(p k:Nat):oFieldAddr Tryd.prog 44 (.ptr p k) 5=some (.ptr p (k+5)):=by kernel_rfl
theorem ygTy:isAggT Tryd.prog 48=some true:=by kernel_rfl
theorem yzTy:sizeT Tryd.prog 48=some 2:=by kernel_rfl
theorem ylTy(S:St)(p k:Nat):oLoad Tryd.prog S 48 (.ptr p k)=clN (S.mem.get p) k 2:=vldG ygTy yzTy S p k
theorem yfTy_0(p k:Nat):oFieldAddr Tryd.prog 48 (.ptr p k) 0=some (.ptr p (k+0)):=by kernel_rfl
theorem yfTy_1(p k:Nat):oFieldAddr Tryd.prog 48 (.ptr p k) 1=some (.ptr p (k+1)):=by kernel_rfl
theorem yg2:isAggT Tryd.prog 2=some false:=by kernel_rfl
theorem yl2(S:St)(p k:Nat):oLoad Tryd.prog S 2 (.ptr p k)=cl1 (S.mem.get p) k:=vldS yg2 S p k
theorem yg3:isAggT Tryd.prog 3=some false:=by kernel_rfl
theorem yl3(S:St)(p k:Nat):oLoad Tryd.prog S 3 (.ptr p k)=cl1 (S.mem.get p) k:=vldS yg3 S p k
theorem yle3(S:St)(c:AV)(cs:List AV):oLoad Tryd.prog S 3 (.ep (c :: cs))=some c:=vldSE yg3 S c cs
theorem yg4:isAggT Tryd.prog 4=some false:=by kernel_rfl
theorem yl4(S:St)(p k:Nat):oLoad Tryd.prog S 4 (.ptr p k)=cl1 (S.mem.get p) k:=vldS yg4 S p k
theorem yg9:isAggT Tryd.prog 9=some false:=by kernel_rfl
theorem yl9(S:St)(p k:Nat):oLoad Tryd.prog S 9 (.ptr p k)=cl1 (S.mem.get p) k:=vldS yg9 S p k
theorem yle9(S:St)(c:AV)(cs:List AV):oLoad Tryd.prog S 9 (.ep (c :: cs))=some c:=vldSE yg9 S c cs
theorem yg55:isAggT Tryd.prog 55=some false:=by kernel_rfl
theorem yl55(S:St)(p k:Nat):oLoad Tryd.prog S 55 (.ptr p k)=cl1 (S.mem.get p) k:=vldS yg55 S p k
theorem yg61:isAggT Tryd.prog 61=some false:=by kernel_rfl
theorem yl61(S:St)(p k:Nat):oLoad Tryd.prog S 61 (.ptr p k)=cl1 (S.mem.get p) k:=vldS yg61 S p k
theorem yg71:isAggT Tryd.prog 71=some false:=by kernel_rfl
theorem yl71(S:St)(p k:Nat):oLoad Tryd.prog S 71 (.ptr p k)=cl1 (S.mem.get p) k:=vldS yg71 S p k
theorem yrS_1(x:List UInt8):oBuildSlice Tryd.prog 31 1 [(0,.v (.string ⟨⟨x⟩⟩))]=some (.sl 1 0 1 [.v (.string ⟨⟨x⟩⟩)]):=by
 obtain⟨z,hz⟩:∃z,zeroA Tryd.prog 9=some z:=Option.isSome_iff_exists.1 (by kernel_rfl)
 have h1:(AV.v (.string ⟨⟨x⟩⟩)).noTup=true:=rfl
 simp[oBuildSlice,yeS,yzeS,hz,h1,AV.cells]
theorem fnz_28:∃fn,EZ.F 28=some fn:=Option.isSome_iff_exists.1 (by kernel_rfl)
theorem fnz_37:∃fn,EZ.F 37=some fn:=Option.isSome_iff_exists.1 (by kernel_rfl)
theorem fnz_38:∃fn,EZ.F 38=some fn:=Option.isSome_iff_exists.1 (by kernel_rfl)
theorem fnz_39:∃fn,EZ.F 39=some fn:=Option.isSome_iff_exists.1 (by kernel_rfl)
theorem fnz_50:∃fn,EZ.F 50=some fn:=Option.isSome_iff_exists.1 (by kernel_rfl)
theorem fnz_56:∃fn,EZ.F 56=some fn:=Option.isSome_iff_exists.1 (by kernel_rfl)
theorem fnz_5:∃fn,EZ.F 5=some fn:=Option.isSome_iff_exists.1 (by kernel_rfl)
theorem fnz_6:∃fn,EZ.F 6=some fn:=Option.isSome_iff_exists.1 (by kernel_rfl)
theorem fnz_9:∃fn,EZ.F 9=some fn:=Option.isSome_iff_exists.1 (by kernel_rfl)
theorem fnz_10:∃fn,EZ.F 10=some fn:=Option.isSome_iff_exists.1 (by kernel_rfl)
theorem fnz_11:∃fn,EZ.F 11=some fn:=Option.isSome_iff_exists.1 (by kernel_rfl)
theorem fnz_12:∃fn,EZ.F 12=some fn:=Option.isSome_iff_exists.1 (by kernel_rfl)
theorem fnz_13:∃fn,EZ.F 13=some fn:=Option.isSome_iff_exists.1 (by kernel_rfl)
theorem fnz_14:∃fn,EZ.F 14=some fn:=Option.isSome_iff_exists.1 (by kernel_rfl)
theorem fnz_15:∃fn,EZ.F 15=some fn:=Option.isSome_iff_exists.1 (by kernel_rfl)
theorem fnz_17:∃fn,EZ.F 17=some fn:=Option.isSome_iff_exists.1 (by kernel_rfl)
theorem fnz_18:∃fn,EZ.F 18=some fn:=Option.isSome_iff_exists.1 (by kernel_rfl)
theorem fnz_21:∃fn,EZ.F 21=some fn:=Option.isSome_iff_exists.1 (by kernel_rfl)
theorem fnz_16:∃fn,EZ.F 16=some fn:=Option.isSome_iff_exists.1 (by kernel_rfl)
theorem fnz_19:∃fn,EZ.F 19=some fn:=Option.isSome_iff_exists.1 (by kernel_rfl)
theorem fnz_20:∃fn,EZ.F 20=some fn:=Option.isSome_iff_exists.1 (by kernel_rfl)
theorem fnz_26:∃fn,EZ.F 26=some fn:=Option.isSome_iff_exists.1 (by kernel_rfl)
theorem fnz_27:∃fn,EZ.F 27=some fn:=Option.isSome_iff_exists.1 (by kernel_rfl)
theorem fnz_29:∃fn,EZ.F 29=some fn:=Option.isSome_iff_exists.1 (by kernel_rfl)
theorem fnz_30:∃fn,EZ.F 30=some fn:=Option.isSome_iff_exists.1 (by kernel_rfl)
theorem fnz_31:∃fn,EZ.F 31=some fn:=Option.isSome_iff_exists.1 (by kernel_rfl)
theorem fnz_32:∃fn,EZ.F 32=some fn:=Option.isSome_iff_exists.1 (by kernel_rfl)
theorem fnz_33:∃fn,EZ.F 33=some fn:=Option.isSome_iff_exists.1 (by kernel_rfl)
theorem fnz_34:∃fn,EZ.F 34=some fn:=Option.isSome_iff_exists.1 (by kernel_rfl)
theorem fnz_35:∃fn,EZ.F 35=some fn:=Option.isSome_iff_exists.1 (by kernel_rfl)
theorem fnz_36:∃fn,EZ.F 36=some fn:=Option.isSome_iff_exists.1 (by kernel_rfl)
theorem fnz_40:∃fn,EZ.F 40=some fn:=Option.isSome_iff_exists.1 (by kernel_rfl)
theorem fnz_42:∃fn,EZ.F 42=some fn:=Option.isSome_iff_exists.1 (by kernel_rfl)
theorem fnz_43:∃fn,EZ.F 43=some fn:=Option.isSome_iff_exists.1 (by kernel_rfl)
theorem fnz_44:∃fn,EZ.F 44=some fn:=Option.isSome_iff_exists.1 (by kernel_rfl)
theorem fnz_45:∃fn,EZ.F 45=some fn:=Option.isSome_iff_exists.1 (by kernel_rfl)
theorem fnz_46:∃fn,EZ.F 46=some fn:=Option.isSome_iff_exists.1 (by kernel_rfl)
theorem fnz_47:∃fn,EZ.F 47=some fn:=Option.isSome_iff_exists.1 (by kernel_rfl)
theorem fnz_48:∃fn,EZ.F 48=some fn:=Option.isSome_iff_exists.1 (by kernel_rfl)
theorem fnz_49:∃fn,EZ.F 49=some fn:=Option.isSome_iff_exists.1 (by kernel_rfl)
theorem fnz_53:∃fn,EZ.F 53=some fn:=Option.isSome_iff_exists.1 (by kernel_rfl)
theorem fnz_54:∃fn,EZ.F 54=some fn:=Option.isSome_iff_exists.1 (by kernel_rfl)
theorem fnz_55:∃fn,EZ.F 55=some fn:=Option.isSome_iff_exists.1 (by kernel_rfl)
theorem fmt_u{n:Int}{S:St}{Q:R→Prop}(hn:okI n)(h:Q (.ret (strS (Lib.itoa n)) S)):WC EZ 29 [i64A n,i64A 10] S Q :=
 callZ (knFmt n hn) (by kernel_rfl) rfl rfl fun a _ _ hs=>by
  have:=hs n rfl hn
  subst this
  exact h
theorem pre_u{l:List UInt8}{c:UInt8}{S:St}{Q:R→Prop}(h:Q (.ret (.v (.bool (decide (l.head? = some c)))) S)):WC EZ 53 [strS l,strS [c]] S Q :=
 callZ (knPre l c) (by kernel_rfl) rfl rfl fun a _ _ hs=>by
  have:=hs l c rfl
  subst this
  exact h
theorem join_sl{S:St}{Q:R→Prop}{tok off:Nat}{ws:List (List UInt8)}{s:List UInt8}(hn:ws.length≤1000000)(hj:(Lib.join ws s).length≤1000000000)(h:Q (.ret (strS (Lib.join ws s)) S)):WC EZ 43 [.sl tok off 1 (ws.map strS),strS s] S Q:=by
 have strs_of:∀l:List (List UInt8),strsOf (l.map strS)=some l:=fun l=>by
  induction l with
  |nil=>rfl
  |cons a r ih=>rw[List.map_cons];show strsOf (.v (.string ⟨⟨a⟩⟩) :: r.map strS)=_;rw[strsOf,ih]
 refine WC_known ez_join ?_
 show Q (joinB [.sl tok off 1 (ws.map strS),.v (.string ⟨⟨s⟩⟩)] S)
 unfold joinB
 simp only[strs_of]
 rw[if_pos ⟨hn,hj⟩]
 exact h
theorem join_none{S:St}{Q:R→Prop}{s:List UInt8}(h:Q (.ret (strS []) S)):WC EZ 43 [.nils,strS s] S Q:=by
 refine WC_known ez_join ?_
 exact h
def Acc(sz:Nat)(S:St)(v:AV)(es:List AV):Prop:=(v=.nils∧es=[])∨∃tk,v=.sl tk 0 sz es∧RowO sz S tk es
theorem Acc.none(sz:Nat)(S:St):Acc sz S .nils []:=.inl ⟨rfl,rfl⟩
theorem Acc.new(sz:Nat)(S:St):Acc sz S (.sl 1 0 sz []) []:=.inr ⟨1,rfl,.inl rfl⟩
theorem Acc.keep{sz:Nat}{S S':St}{v:AV}{es:List AV}(h:Acc sz S v es)(hn:S.next≤S'.next)(hk:∀id m,2≤id→id<S.next→S.mem.get id=some (.tip m)→S'.mem.get id=some (.tip m)):Acc sz S' v es:=by
 rcases h with h | ⟨tk,h1,h2⟩
 ·exact .inl h
 ·refine .inr ⟨tk,h1,?_⟩
  rcases h2 with h2 | ⟨a1,a2,a3⟩
  ·exact .inl h2
  ·exact .inr ⟨a1,by omega,hk tk _ a1 a2 a3⟩
theorem acc_push{t e sz bytes:Nat}(TT:RowT Tryd.prog t e sz bytes){S:St}{v:AV}{es:List AV}(h:Acc sz S v es)(hn:2≤S.next)(x:AV)(hx:x.cells.length=sz)(hl:es.length≤2000000):
  ∃S',appendE EZ S t t v (.sl 1 0 sz [x])=some (.sl S.next 0 sz (es ++ [x]),S')∧Acc sz S' (.sl S.next 0 sz (es ++ [x])) (es ++ [x])∧S'.next=S.next+1∧∀id cs,2≤id→id<S.next→S.mem.get id=some (.box cs)→S'.mem.get id=some (.box cs):=by
 rcases h with⟨rfl,rfl⟩ | ⟨tk,rfl,h2⟩
 ·obtain⟨S',a1,a2,a3,a4⟩:=push_nil (E:=EZ) TT rfl rfl hn x hx
  exact⟨S',a1,.inr ⟨_,rfl,a2⟩,a3,fun id cs h1 h2 h3=>by rw[a4 id h1 h2];exact h3⟩
 ·obtain⟨S',a1,a2,a3,a4⟩:=push_row (E:=EZ) TT rfl rfl h2 hn x hx hl
  refine⟨S',a1,.inr ⟨_,rfl,a2⟩,a3,fun id cs h1 h3 h4=>?_⟩
  have hne:id≠tk:=fun e=>by
   subst e
   rcases h2 with h | ⟨_,_,h⟩
   ·omega
   ·rw[h]at h4;cases h4
  rw[a4 id hne h3];exact h4
mutual
theorem exA_fr:∀e:PX,freeV (exA e)=true∧clean (exA e)=exA e
 |.mk k a n nm off kids=>by
  obtain⟨h1,h2⟩:=exL_fr kids
  rw[exA_mk]
  cases kids with
  |nil=>exact⟨rfl,rfl⟩
  |cons x r =>
   refine⟨?_,?_⟩
   ·show(true && (true && (true && (true && (true && (freeL (exL (x :: r)) && true))))))=true
    rw[h1];rfl
   ·show AV.agg [i64A k,i64A a,i64A n,strS nm,.v (.bool off),.sl 0 0 6 (cleanL (exL (x :: r)))]=_
    rw[h2];rfl
theorem exL_fr:∀l:List PX,freeL (exL l)=true∧cleanL (exL l)=exL l
 | []=>⟨rfl,rfl⟩
 |e :: r=>by
  obtain⟨h1,h2⟩:=exA_fr e
  obtain⟨h3,h4⟩:=exL_fr r
  refine⟨?_,?_⟩
  ·show(freeV (exA e) && freeL (exL r))=true
   rw[h1,h3];rfl
  ·show clean (exA e) :: cleanL (exL r)=_
   rw[h2,h4];rfl
end
theorem rowX_fr(l:List PX):freeV (rowX l)=true∧clean (rowX l)=rowX l:=by
 cases l with
 |nil=>exact⟨rfl,rfl⟩
 |cons x r=>exact⟨(exL_fr (x :: r)).1,by show AV.sl 0 0 6 (cleanL _)=_;rw[(exL_fr (x :: r)).2];rfl⟩
theorem rowX_eq{l m:List PX}(h:rowX l=rowX m):exL l=exL m:=by
 cases l with
 |nil=>cases m with
  |nil=>rfl
  |cons y s=>cases h
 |cons x r=>cases m with
  |nil=>cases h
  |cons y s=>injection h
mutual
theorem exA_inj:∀e e':PX,exA e=exA e'→e=e'
 |.mk k a n nm off kids,.mk k' a' n' nm' off' kids',h=>by
  rw[exA_mk,exA_mk]at h
  simp only[AV.agg.injEq,List.cons.injEq,and_true,i64A,AV.v.injEq,Value.int.injEq,Value.bool.injEq,true_and]at h
  obtain⟨h1,h2,h3,h4,h5,h6⟩:=h
  rw[h1,h2,h3,str_inj h4,h5,exL_inj kids kids' (rowX_eq h6)]
theorem exL_inj:∀l m:List PX,exL l=exL m→l=m
 | [],[],_=>rfl
 | [],_ :: _,h=>by cases h
 |_ :: _,[],h=>by cases h
 |e :: r,e' :: r',h=>by
  have h:exA e :: exL r=exA e' :: exL r':=h
  injection h with h1 h2
  rw[exA_inj e e' h1,exL_inj r r' h2]
end
theorem exL_len:∀l:List PX,(exL l).length=l.length
 | []=>rfl
 |_ :: r=>by show(exL r).length+1=_;rw[exL_len r];rfl
theorem exL_get:∀(l:List PX) (i:Nat) (h:i<l.length),(exL l)[i]'(by rw[exL_len];exact h)=exA l[i]
 |_ :: _,0,_=>rfl
 |_ :: r,i+1,h=>exL_get r i (by simpa using h)
theorem txL_get:∀(l:List PX) (i:Nat),(txL l)[i]? = (l[i]?).map fun e=>(bndX e,e.kind,txt e)
 | [],_=>by simp[txL]
 |e :: r,0=>by simp[txL]
 |e :: r,i+1=>by
  have:=txL_get r i
  simpa[txL]using this
theorem txL_len:∀l:List PX,(txL l).length=l.length
 | []=>rfl
 |_ :: r=>by show(txL r).length+1=_;rw[txL_len r];rfl
theorem okL_get:∀{d:Nat} {l:List PX},okL d l→∀e∈l,okX d e
 |d,[],_,e,h=>by cases h
 |d,x :: r,h,e,he=>by
  have h:okX d x∧okL d r:=h
  rcases List.mem_cons.1 he with rfl |he
  ·exact h.1
  ·exact okL_get h.2 e he
theorem needs_kind{k:Int}{m:Nat}(h:needs k m):1≤k∧k≤14:=by unfold needs at h;omega
theorem needs_few{k:Int}{m:Nat}(h:needs k m):m≤10:=by unfold needs at h;omega
def LB:Nat→Nat
 |0=>0
 |d+1=>10*LB d+300
theorem jt_len(s:List UInt8)(c:Nat):∀ls:List (List UInt8),(∀l∈ls,l.length≤c)→(Lib.joinTail s ls).length≤ls.length*(s.length+c)
 | [],_=>by simp[Lib.joinTail]
 |l :: r,h=>by
  have h1:=h l (List.mem_cons_self ..)
  have ih:=jt_len s c r fun x hx=>h x (List.mem_cons_of_mem _ hx)
  unfold Lib.joinTail at ih ⊢
  rw[List.map_cons,List.flatten_cons,List.length_append,List.length_append,List.length_cons,Nat.add_mul]
  omega
theorem join_le(s:List UInt8)(c:Nat)(ls:List (List UInt8))(h:∀l∈ls,l.length≤c):(Lib.join ls s).length≤ls.length*(s.length+c):=by
 cases ls with
 |nil=>simp[Lib.join_nil]
 |cons l r =>
  rw[Lib.join_cons,List.length_append,List.length_cons,Nat.add_mul]
  have h1:=h l (List.mem_cons_self ..)
  have h2:=jt_len s c r fun x hx=>h x (List.mem_cons_of_mem _ hx)
  omega
theorem kidT_len{ks:List (Int × Int × List UInt8)}{c:Nat}(h:∀x∈ks,x.2.2.length≤c)(i:Nat)(least:Int):(kidT ks i least).length≤c+2:=by
 unfold kidT
 cases hk:ks[i]? with
 |none=>simp
 |some x =>
  obtain⟨b,k,s⟩:=x
  have:=h _ (List.mem_of_getElem? hk)
  simp only at this ⊢
  split
  ·unfold parT;simp only[List.length_append,List.length_cons,List.length_nil];omega
  ·omega
theorem rawT_len{ks:List (Int × Int × List UInt8)}{c:Nat}(h:∀x∈ks,x.2.2.length≤c)(i:Nat):(rawT ks i).length≤c:=by
 unfold rawT
 cases hk:ks[i]? with
 |none=>simp
 |some x =>
  obtain⟨b,k,s⟩:=x
  exact h _ (List.mem_of_getElem? hk)
theorem rowT_len{ks:List (Int × Int × List UInt8)}{c:Nat}(h:∀x∈ks,x.2.2.length≤c)(hn:ks.length≤10):(rowT' ks).length≤10*(c+2):=by
 unfold rowT'
 have h1:=join_le [44,32] c (ks.map fun x=>x.2.2) (fun l hl=>by
  obtain⟨x,hx,rfl⟩:=List.mem_map.1 hl
  exact h x hx)
 rw[List.length_map]at h1
 have h2:ks.length*(([44,32]:List UInt8).length+c)≤10*(2+c):=Nat.mul_le_mul hn (Nat.le_refl _)
 omega
theorem when_len(nm:List UInt8)(off:Bool):(whenF nm off).length≤nm.length+10:=by
 unfold whenF;split <;> simp only[List.length_append,List.length_cons,List.length_nil] <;> omega
theorem ite_len{c:Prop}[Decidable c]{x y:List UInt8}{B:Nat}(h1:x.length≤B)(h2:y.length≤B):(if c then x else y).length≤B:=by split <;> assumption
theorem textOf_len{k n:Int}{nm:List UInt8}{off:Bool}{ks:List (Int × Int × List UInt8)}{c:Nat}(hn:okI n)(hm:nm.length≤30)(hl:ks.length≤10)(h:∀x∈ks,x.2.2.length≤c):(textOf k n nm off ks).length≤10*c+300:=by
 have h0:=fun l=>kidT_len h 0 l
 have h1:=fun l=>kidT_len h 1 l
 have h2:=fun l=>kidT_len h 2 l
 have h3:=rowT_len h hl
 have h4:=rawT_len h 0
 have h5:=when_len nm off
 have h6:=Lib.itoa_length_le n hn.1 hn.2
 have a0:=h0 8;have a1:=h0 4;have a2:=h0 (if sgnF nm=5 then 6 else sgnF nm);have a3:=h1 (sgnF nm+1);have a4:=h0 0;have a5:=h1 0;have a6:=h2 0;have a7:=h0 2;have a8:=h1 1;have a9:=h0 9
 unfold textOf
 generalize (if sgnF nm=5 then(6:Int)else sgnF nm)=z at *
 repeat' (with_reducible refine ite_len ?_ ?_)
 all_goals first | (simp only[List.length_append,List.length_cons,List.length_nil];omega) |omega
mutual
theorem txt_len:∀(d:Nat) (e:PX),okX d e→(txt e).length≤LB d
 |0,_,h=>absurd h (by simp[okX])
 |d+1,.mk k a n nm off kids,h=>by
  simp only[okX]at h
  obtain⟨_,hn,_,hm,hne,hk⟩:=h
  have hl:=needs_few hne
  exact textOf_len hn hm (by rw[txL_len];exact hl) (txL_bound d kids hk)
theorem txL_bound:∀(d:Nat) (l:List PX),okL d l→∀x∈txL l,x.2.2.length≤LB d
 |d,[],_,x,hx=>by cases hx
 |d,e :: r,h,x,hx=>by
  have h:okX d e∧okL d r:=h
  rcases List.mem_cons.1 hx with rfl |hx
  ·exact txt_len d e h.1
  ·exact txL_bound d r h.2 x hx
end
theorem LB_le{d:Nat}(h:d≤4):LB d≤400000:=by
 match d,h with
 |0,_=>decide
 |1,_=>decide
 |2,_=>decide
 |3,_=>decide
 |4,_=>decide
theorem rowX_len(l:List PX)(S:St):oLen Tryd.prog S 55 (rowX l)=some l.length:=by
 cases l with
 |nil=>exact ynnP S
 |cons x r=>show oLen Tryd.prog S 55 (.sl 0 0 6 (exL (x :: r)))=_;rw[ynP,exL_len]
theorem rowX_lenR(l:List PX)(S:St):oLen Tryd.prog S 61 (rowX l)=some l.length:=by
 cases l with
 |nil=>exact ynnR S
 |cons x r=>show oLen Tryd.prog S 61 (.sl 0 0 6 (exL (x :: r)))=_;rw[ynR,exL_len]
theorem rowX_idx(l:List PX)(i:Nat)(h:i<l.length):oIndexAddr Tryd.prog 55 (rowX l) (.v (.int .i64 (i:Int)))=some (.ep (exA l[i]).cells):=by
 cases l with
 |nil=>exact absurd h (Nat.not_lt_zero _)
 |cons x r =>
  show oIndexAddr Tryd.prog 55 (.sl 0 0 6 (exL (x :: r))) _=_
  rw[yxP 0 0 _ i (by rw[exL_len];exact h),exL_get (x :: r) i h]
theorem rowX_idxR(l:List PX)(i:Nat)(h:i<l.length):oIndexAddr Tryd.prog 61 (rowX l) (.v (.int .i64 (i:Int)))=some (.ep (exA l[i]).cells):=by
 cases l with
 |nil=>exact absurd h (Nat.not_lt_zero _)
 |cons x r =>
  show oIndexAddr Tryd.prog 61 (.sl 0 0 6 (exL (x :: r))) _=_
  rw[yxR 0 0 _ i (by rw[exL_len];exact h),exL_get (x :: r) i h]
end Go.Ax
