/- ZyB -/
import Derived.Test.YtimbgdjbggdgmaaGreatDoorNcG17
import Derived.Test.YtimbgdjbggdgmaaGreatDoorNcG18
import Derived.Test.YtimbgdjbggdgmaaGreatDoorNcG16
set_option linter.unusedVariables false
set_option linter.unusedSimpArgs false
set_option maxHeartbeats 16000000
noncomputable section
open Nat (reduceLT reduceEqDiff)
namespace Go.Ax
open Go.RowKit Go.Proofs
set_option maxRecDepth 100000
theorem K2{P:Program}{t e sz:Nat}(h1:Fs P t=some (none,e))(h2:P.underlying t=some (.slice e))(h3:(P.info? e).map (fun i=>(i.zero.map fun z=>z.cells.size,i.size,decide (i.bytes≤1000)))=some (some sz,sz,true))(h4:0<sz):∃bytes,RowT P t e sz bytes:=by
 cases hi:P.info? e with
 |none=>rw[hi]at h3;cases h3
 |some i =>
  rw[hi]at h3;simp only[Option.map_some,Option.some.injEq,Prod.mk.injEq]at h3;obtain⟨h5,h6,h7⟩:=h3
  cases hz:i.zero with
  |none=>rw[hz]at h5;cases h5
  |some z =>
   rw[hz]at h5;simp only[Option.map_some,Option.some.injEq]at h5;exact⟨i.bytes,h1,h2,⟨i,z,hi,hz,by rw[h5,h6],h6,rfl⟩,h4,of_decide_eq_true h7⟩
def G0:Gl:=fun _=>none
theorem gnot(f:T AV)(S:St)(dst:Option Tmp)(k:Tmp)(ty:TypeId)(pos:String)(af:Array Edge)(gd:Option (Nat × Bool)):
  ground Tryz.prog G0 f S { dst:=dst,op:=.unOp .not 4 (.tmp k),type:=ty,pos:=pos,after:=af,guard:=gd }=xY (oS Tryz.prog G0 f S { dst:=dst,op:=.unOp .not 4 (.tmp k),type:=ty,pos:=pos,after:=af,guard:=gd }) S (f.get k):=by
 unfold xY
 split
 ·rename_i b h
  have hg:B8 G0 f (.tmp k)=some (.bool b):=by unfold B8;simp only[A6,h];rfl
  unfold ground;simp only[Op.operands,List.all_cons,List.all_nil,hg,Option.isSome_some,Bool.and_self,Aa]
  have e:execOp (fun x=>(B8 G0 f x).getD undef) { dst:=dst,op:=.unOp .not 4 (.tmp k),type:=ty,pos:=pos,after:=af,guard:=gd }=execOp (fun _=>.bool b) { dst:=dst,op:=.unOp .not 4 (.tmp k),type:=ty,pos:=pos,after:=af,guard:=gd }:=by
   simp only[execOp,hg,Ae]
  rw[e];cases b <;> rfl
 ·rfl
theorem gconv(f:T AV)(S:St)(dst:Option Tmp)(k:Tmp)(ty:TypeId)(pos:String)(af:Array Edge)(gd:Option (Nat × Bool)):
  ground Tryz.prog G0 f S { dst:=dst,op:=.convert 119 2 (.tmp k),type:=ty,pos:=pos,after:=af,guard:=gd }=vS (convX Tryz.prog G0 f S { dst:=dst,op:=.convert 119 2 (.tmp k),type:=ty,pos:=pos,after:=af,guard:=gd }) S (f.get k):=by
 unfold vS
 split
 ·rename_i n h
  have hg:B8 G0 f (.tmp k)=some (.int .u64 n):=by unfold B8;simp only[A6,h];rfl
  unfold ground;simp only[Op.operands,List.all_cons,List.all_nil,hg,Option.isSome_some,Bool.and_self,Aa]
  have e:execOp (fun x=>(B8 G0 f x).getD undef) { dst:=dst,op:=.convert 119 2 (.tmp k),type:=ty,pos:=pos,after:=af,guard:=gd }=execOp (fun _=>.int .u64 n) { dst:=none,op:=.convert 119 2 (.tmp 0),type:=ty,pos := "", after:=#[],guard:=none }:=by
   simp only[execOp,hg,Ae]
  rw[e];have e3:Qv Tryz.prog 4000 (execOp (fun _=>Value.int .u64 n) { dst:=none,op:=.convert 119 2 (.tmp 0),type:=ty,pos := "", after:=#[],guard:=none })=some (.int .i64 (IntKind.i64.wrap n)):=by rfl
  rw[e3];rfl
 ·rfl
theorem gneg(f:T AV)(S:St)(dst:Option Tmp)(k:Tmp)(ty:TypeId)(pos:String)(af:Array Edge)(gd:Option (Nat × Bool)):
  ground Tryz.prog G0 f S { dst:=dst,op:=.unOp .neg 2 (.tmp k),type:=ty,pos:=pos,after:=af,guard:=gd }=negO (negX Tryz.prog G0 f S { dst:=dst,op:=.unOp .neg 2 (.tmp k),type:=ty,pos:=pos,after:=af,guard:=gd }) S (f.get k):=by
 unfold negO
 split
 ·rename_i n h
  have hg:B8 G0 f (.tmp k)=some (.int .i64 n):=by unfold B8;simp only[A6,h];rfl
  unfold ground;simp only[Op.operands,List.all_cons,List.all_nil,hg,Option.isSome_some,Bool.and_self,Aa]
  have e:execOp (fun x=>(B8 G0 f x).getD undef) { dst:=dst,op:=.unOp .neg 2 (.tmp k),type:=ty,pos:=pos,after:=af,guard:=gd }=execOp (fun _=>.int .i64 n) { dst:=none,op:=.unOp .neg 2 (.tmp 0),type:=ty,pos := "", after:=#[],guard:=none }:=by
   simp only[execOp,hg,Ae]
  rw[e];have e3:Qv Tryz.prog 4000 (execOp (fun _=>Value.int .i64 n) { dst:=none,op:=.unOp .neg 2 (.tmp 0),type:=ty,pos := "", after:=#[],guard:=none })=some (.int .i64 (IntKind.i64.wrap (0 - n))):=by rfl
  rw[e3];rfl
 ·rfl
theorem fb_neqSx(l m:List UInt8):Cv .neq (.v (.string ⟨⟨l⟩⟩)) (.v (.string ⟨⟨m⟩⟩))=some (.v (.bool (!decide (l=m)))):=fb_strN l m
theorem Fl(i:Nat)(h:i≤2000000):IntKind.i64.wrap ((i:Int)+1)=((i+1:Nat):Int):=by rw[IntKind.wrap_i64];omega
theorem wrapS2(i:Nat)(h:i≤2000000):IntKind.i64.wrap ((i:Int)+2)=((i+2:Nat):Int):=by rw[IntKind.wrap_i64];omega
theorem wrapP(i:Nat)(h:i≤2000000):IntKind.i64.wrap (((i+2:Nat):Int) - 1)=((i+1:Nat):Int):=by rw[IntKind.wrap_i64];omega
theorem yg3:B9 Tryz.prog 3=some false:=by kernel_rfl
theorem yl3(S:St)(p k:Nat):A8 Tryz.prog S 3 (.ptr p k)=cl1 (S.mem.get p) k:=Nr yg3 S p k
theorem yle3(S:St)(c:AV)(cs:List AV):A8 Tryz.prog S 3 (.ep (c :: cs))=some c:=Jz yg3 S c cs
theorem yz3:Cl Tryz.prog 3=some 1:=by kernel_rfl
theorem ys3(S:St)(p k:Nat)(v:AV):Bl Tryz.prog S 3 (.ptr p k) v=Ia S (S.mem.get p) p k v 1:=Jr yz3 S p k v
theorem yz4:Cl Tryz.prog 4=some 1:=by kernel_rfl
theorem ys4(S:St)(p k:Nat)(v:AV):Bl Tryz.prog S 4 (.ptr p k) v=Ia S (S.mem.get p) p k v 1:=Jr yz4 S p k v
theorem yg9:B9 Tryz.prog 9=some false:=by kernel_rfl
theorem yl9(S:St)(p k:Nat):A8 Tryz.prog S 9 (.ptr p k)=cl1 (S.mem.get p) k:=Nr yg9 S p k
theorem yle9(S:St)(c:AV)(cs:List AV):A8 Tryz.prog S 9 (.ep (c :: cs))=some c:=Jz yg9 S c cs
theorem yz9:Cl Tryz.prog 9=some 1:=by kernel_rfl
theorem ys9(S:St)(p k:Nat)(v:AV):Bl Tryz.prog S 9 (.ptr p k) v=Ia S (S.mem.get p) p k v 1:=Jr yz9 S p k v
theorem yg119:B9 Tryz.prog 119=some false:=by kernel_rfl
theorem yl119(S:St)(p k:Nat):A8 Tryz.prog S 119 (.ptr p k)=cl1 (S.mem.get p) k:=Nr yg119 S p k
theorem yg114:B9 Tryz.prog 114=some false:=by kernel_rfl
theorem yl114(S:St)(p k:Nat):A8 Tryz.prog S 114 (.ptr p k)=cl1 (S.mem.get p) k:=Nr yg114 S p k
theorem yg60:B9 Tryz.prog 60=some false:=by kernel_rfl
theorem yl60(S:St)(p k:Nat):A8 Tryz.prog S 60 (.ptr p k)=cl1 (S.mem.get p) k:=Nr yg60 S p k
theorem yz60:Cl Tryz.prog 60=some 1:=by kernel_rfl
theorem ys60(S:St)(p k:Nat)(v:AV):Bl Tryz.prog S 60 (.ptr p k) v=Ia S (S.mem.get p) p k v 1:=Jr yz60 S p k v
theorem yg42:B9 Tryz.prog 42=some false:=by kernel_rfl
theorem yl42(S:St)(p k:Nat):A8 Tryz.prog S 42 (.ptr p k)=cl1 (S.mem.get p) k:=Nr yg42 S p k
theorem yz42:Cl Tryz.prog 42=some 1:=by kernel_rfl
theorem ys42(S:St)(p k:Nat)(v:AV):Bl Tryz.prog S 42 (.ptr p k) v=Ia S (S.mem.get p) p k v 1:=Jr yz42 S p k v
theorem yg43:B9 Tryz.prog 43=some false:=by kernel_rfl
theorem yl43(S:St)(p k:Nat):A8 Tryz.prog S 43 (.ptr p k)=cl1 (S.mem.get p) k:=Nr yg43 S p k
theorem yz43:Cl Tryz.prog 43=some 1:=by kernel_rfl
theorem ys43(S:St)(p k:Nat)(v:AV):Bl Tryz.prog S 43 (.ptr p k) v=Ia S (S.mem.get p) p k v 1:=Jr yz43 S p k v
theorem yg62:B9 Tryz.prog 62=some false:=by kernel_rfl
theorem yl62(S:St)(p k:Nat):A8 Tryz.prog S 62 (.ptr p k)=cl1 (S.mem.get p) k:=Nr yg62 S p k
theorem yz62:Cl Tryz.prog 62=some 1:=by kernel_rfl
theorem ys62(S:St)(p k:Nat)(v:AV):Bl Tryz.prog S 62 (.ptr p k) v=Ia S (S.mem.get p) p k v 1:=Jr yz62 S p k v
theorem yg39:B9 Tryz.prog 39=some false:=by kernel_rfl
theorem yl39(S:St)(p k:Nat):A8 Tryz.prog S 39 (.ptr p k)=cl1 (S.mem.get p) k:=Nr yg39 S p k
theorem yle39(S:St)(c:AV)(cs:List AV):A8 Tryz.prog S 39 (.ep (c :: cs))=some c:=Jz yg39 S c cs
theorem yz39:Cl Tryz.prog 39=some 1:=by kernel_rfl
theorem ys39(S:St)(p k:Nat)(v:AV):Bl Tryz.prog S 39 (.ptr p k) v=Ia S (S.mem.get p) p k v 1:=Jr yz39 S p k v
theorem yg118:B9 Tryz.prog 118=some true:=by kernel_rfl
theorem yz118:Cl Tryz.prog 118=some 4:=by kernel_rfl
theorem yl118(S:St)(p k:Nat):A8 Tryz.prog S 118 (.ptr p k)=clN (S.mem.get p) k 4:=Wl yg118 yz118 S p k
theorem ys118(S:St)(p k:Nat)(v:AV):Bl Tryz.prog S 118 (.ptr p k) v=Ia S (S.mem.get p) p k v 4:=Jr yz118 S p k v
theorem ya118(S:St):Ga Tryz.prog S 118=some (.ptr S.next 0,S.newBox [.nils,.v (.int .i64 0),.v (.int .i64 0),.v (.int .i64 0)]):=by kernel_rfl
theorem yf118_0(p k:Nat):A3 Tryz.prog 118 (.ptr p k) 0=some (.ptr p (k+0)):=by kernel_rfl
theorem yf118_1(p k:Nat):A3 Tryz.prog 118 (.ptr p k) 1=some (.ptr p (k+1)):=by kernel_rfl
theorem yf118_2(p k:Nat):A3 Tryz.prog 118 (.ptr p k) 2=some (.ptr p (k+2)):=by kernel_rfl
theorem yf118_3(p k:Nat):A3 Tryz.prog 118 (.ptr p k) 3=some (.ptr p (k+3)):=by kernel_rfl
theorem yg121:B9 Tryz.prog 121=some true:=by kernel_rfl
theorem yz121:Cl Tryz.prog 121=some 4:=by kernel_rfl
theorem yl121(S:St)(p k:Nat):A8 Tryz.prog S 121 (.ptr p k)=clN (S.mem.get p) k 4:=Wl yg121 yz121 S p k
theorem yle121(S:St)(cs:List AV):A8 Tryz.prog S 121 (.ep cs)=if 4≤cs.length then some (.agg (cs.take 4))else none:=Pz yg121 yz121 S cs
theorem ys121(S:St)(p k:Nat)(v:AV):Bl Tryz.prog S 121 (.ptr p k) v=Ia S (S.mem.get p) p k v 4:=Jr yz121 S p k v
theorem ya121(S:St):Ga Tryz.prog S 121=some (.ptr S.next 0,S.newBox [.v (.int .i64 0),.v (.int .i64 0),A2 [],.v (.int .u64 0)]):=by kernel_rfl
theorem yf121_0(p k:Nat):A3 Tryz.prog 121 (.ptr p k) 0=some (.ptr p (k+0)):=by kernel_rfl
theorem yfe121_0(a0 a1 a2 a3:AV):A3 Tryz.prog 121 (.ep [a0,a1,a2,a3]) 0=some (.ep [a0,a1,a2,a3]):=by kernel_rfl
theorem yf121_1(p k:Nat):A3 Tryz.prog 121 (.ptr p k) 1=some (.ptr p (k+1)):=by kernel_rfl
theorem yfe121_1(a0 a1 a2 a3:AV):A3 Tryz.prog 121 (.ep [a0,a1,a2,a3]) 1=some (.ep [a1,a2,a3]):=by kernel_rfl
theorem yf121_2(p k:Nat):A3 Tryz.prog 121 (.ptr p k) 2=some (.ptr p (k+2)):=by kernel_rfl
theorem yfe121_2(a0 a1 a2 a3:AV):A3 Tryz.prog 121 (.ep [a0,a1,a2,a3]) 2=some (.ep [a2,a3]):=by kernel_rfl
theorem yf121_3(p k:Nat):A3 Tryz.prog 121 (.ptr p k) 3=some (.ptr p (k+3)):=by kernel_rfl
theorem yb121_0:Du Tryz.prog 121 []=some (.agg [.v (.int .i64 0),.v (.int .i64 0),A2 [],.v (.int .u64 0)]):=by kernel_rfl
theorem yg64:B9 Tryz.prog 64=some true:=by kernel_rfl
theorem yz64:Cl Tryz.prog 64=some 6:=by kernel_rfl
theorem yl64(S:St)(p k:Nat):A8 Tryz.prog S 64 (.ptr p k)=clN (S.mem.get p) k 6:=Wl yg64 yz64 S p k
theorem yle64(S:St)(cs:List AV):A8 Tryz.prog S 64 (.ep cs)=if 6≤cs.length then some (.agg (cs.take 6))else none:=Pz yg64 yz64 S cs
theorem ys64(S:St)(p k:Nat)(v:AV):Bl Tryz.prog S 64 (.ptr p k) v=Ia S (S.mem.get p) p k v 6:=Jr yz64 S p k v
theorem ya64(S:St):Ga Tryz.prog S 64=some (.ptr S.next 0,S.newBox [.v (.int .i64 0),.v (.int .i64 0),.v (.int .i64 0),A2 [],.v (.bool false),.nils]):=by kernel_rfl
theorem yf64_0(p k:Nat):A3 Tryz.prog 64 (.ptr p k) 0=some (.ptr p (k+0)):=by kernel_rfl
theorem yf64_1(p k:Nat):A3 Tryz.prog 64 (.ptr p k) 1=some (.ptr p (k+1)):=by kernel_rfl
theorem yf64_3(p k:Nat):A3 Tryz.prog 64 (.ptr p k) 3=some (.ptr p (k+3)):=by kernel_rfl
theorem yf64_5(p k:Nat):A3 Tryz.prog 64 (.ptr p k) 5=some (.ptr p (k+5)):=by kernel_rfl
theorem yb64_0:Du Tryz.prog 64 []=some (.agg [.v (.int .i64 0),.v (.int .i64 0),.v (.int .i64 0),A2 [],.v (.bool false),.nils]):=by kernel_rfl
theorem yg125:B9 Tryz.prog 125=some true:=by kernel_rfl
theorem yz125:Cl Tryz.prog 125=some 6:=by kernel_rfl
theorem yl125(S:St)(p k:Nat):A8 Tryz.prog S 125 (.ptr p k)=clN (S.mem.get p) k 6:=Wl yg125 yz125 S p k
theorem ys125(S:St)(p k:Nat)(v:AV):Bl Tryz.prog S 125 (.ptr p k) v=Ia S (S.mem.get p) p k v 6:=Jr yz125 S p k v
theorem ya125(S:St):Ga Tryz.prog S 125=some (.ptr S.next 0,S.newBox [A2 [],.v (.int .i64 0),.v (.bool false),.v (.bool false),A2 [],.v (.bool false)]):=by kernel_rfl
theorem yf125_0(p k:Nat):A3 Tryz.prog 125 (.ptr p k) 0=some (.ptr p (k+0)):=by kernel_rfl
theorem yf125_1(p k:Nat):A3 Tryz.prog 125 (.ptr p k) 1=some (.ptr p (k+1)):=by kernel_rfl
theorem yf125_2(p k:Nat):A3 Tryz.prog 125 (.ptr p k) 2=some (.ptr p (k+2)):=by kernel_rfl
theorem yf125_3(p k:Nat):A3 Tryz.prog 125 (.ptr p k) 3=some (.ptr p (k+3)):=by kernel_rfl
theorem yf125_4(p k:Nat):A3 Tryz.prog 125 (.ptr p k) 4=some (.ptr p (k+4)):=by kernel_rfl
theorem yf125_5(p k:Nat):A3 Tryz.prog 125 (.ptr p k) 5=some (.ptr p (k+5)):=by kernel_rfl
theorem yb125_0:Du Tryz.prog 125 []=some (.agg [A2 [],.v (.int .i64 0),.v (.bool false),.v (.bool false),A2 [],.v (.bool false)]):=by kernel_rfl
theorem yg66:B9 Tryz.prog 66=some true:=by kernel_rfl
theorem yz66:Cl Tryz.prog 66=some 8:=by kernel_rfl
theorem yl66(S:St)(p k:Nat):A8 Tryz.prog S 66 (.ptr p k)=clN (S.mem.get p) k 8:=Wl yg66 yz66 S p k
theorem yle66(S:St)(cs:List AV):A8 Tryz.prog S 66 (.ep cs)=if 8≤cs.length then some (.agg (cs.take 8))else none:=Pz yg66 yz66 S cs
theorem ys66(S:St)(p k:Nat)(v:AV):Bl Tryz.prog S 66 (.ptr p k) v=Ia S (S.mem.get p) p k v 8:=Jr yz66 S p k v
theorem ya66(S:St):Ga Tryz.prog S 66=some (.ptr S.next 0,S.newBox [.nils,.v (.bool false),.v (.int .i64 0),.v (.int .i64 0),.v (.int .i64 0),A2 [],.v (.bool false),.nils]):=by kernel_rfl
theorem yf66_0(p k:Nat):A3 Tryz.prog 66 (.ptr p k) 0=some (.ptr p (k+0)):=by kernel_rfl
theorem yf66_1(p k:Nat):A3 Tryz.prog 66 (.ptr p k) 1=some (.ptr p (k+1)):=by kernel_rfl
theorem yf66_2(p k:Nat):A3 Tryz.prog 66 (.ptr p k) 2=some (.ptr p (k+2)):=by kernel_rfl
theorem yb66_0:Du Tryz.prog 66 []=some (.agg [.nils,.v (.bool false),.v (.int .i64 0),.v (.int .i64 0),.v (.int .i64 0),A2 [],.v (.bool false),.nils]):=by kernel_rfl
theorem yg45:B9 Tryz.prog 45=some true:=by kernel_rfl
theorem yz45:Cl Tryz.prog 45=some 6:=by kernel_rfl
theorem yl45(S:St)(p k:Nat):A8 Tryz.prog S 45 (.ptr p k)=clN (S.mem.get p) k 6:=Wl yg45 yz45 S p k
theorem ys45(S:St)(p k:Nat)(v:AV):Bl Tryz.prog S 45 (.ptr p k) v=Ia S (S.mem.get p) p k v 6:=Jr yz45 S p k v
theorem ya45(S:St):Ga Tryz.prog S 45=some (.ptr S.next 0,S.newBox [A2 [],.v (.int .i64 0),.nils,.nils,.nils,.nils]):=by kernel_rfl
theorem yf45_0(p k:Nat):A3 Tryz.prog 45 (.ptr p k) 0=some (.ptr p (k+0)):=by kernel_rfl
theorem yf45_1(p k:Nat):A3 Tryz.prog 45 (.ptr p k) 1=some (.ptr p (k+1)):=by kernel_rfl
theorem yf45_2(p k:Nat):A3 Tryz.prog 45 (.ptr p k) 2=some (.ptr p (k+2)):=by kernel_rfl
theorem yf45_3(p k:Nat):A3 Tryz.prog 45 (.ptr p k) 3=some (.ptr p (k+3)):=by kernel_rfl
theorem yf45_4(p k:Nat):A3 Tryz.prog 45 (.ptr p k) 4=some (.ptr p (k+4)):=by kernel_rfl
theorem yf45_5(p k:Nat):A3 Tryz.prog 45 (.ptr p k) 5=some (.ptr p (k+5)):=by kernel_rfl
theorem yb45_0:Du Tryz.prog 45 []=some (.agg [A2 [],.v (.int .i64 0),.nils,.nils,.nils,.nils]):=by kernel_rfl
theorem yg175:B9 Tryz.prog 175=some true:=by kernel_rfl
theorem yz175:Cl Tryz.prog 175=some 2:=by kernel_rfl
theorem yl175(S:St)(p k:Nat):A8 Tryz.prog S 175 (.ptr p k)=clN (S.mem.get p) k 2:=Wl yg175 yz175 S p k
theorem ys175(S:St)(p k:Nat)(v:AV):Bl Tryz.prog S 175 (.ptr p k) v=Ia S (S.mem.get p) p k v 2:=Jr yz175 S p k v
theorem ya175(S:St):Ga Tryz.prog S 175=some (.ptr S.next 0,S.newBox [A2 [],.v (.int .i64 0)]):=by kernel_rfl
theorem yf175_0(p k:Nat):A3 Tryz.prog 175 (.ptr p k) 0=some (.ptr p (k+0)):=by kernel_rfl
theorem yf175_1(p k:Nat):A3 Tryz.prog 175 (.ptr p k) 1=some (.ptr p (k+1)):=by kernel_rfl
theorem yb175_0:Du Tryz.prog 175 []=some (.agg [A2 [],.v (.int .i64 0)]):=by kernel_rfl
theorem yu60:Tryz.prog.underlying 60=some (.slice 64):=by kernel_rfl
theorem ye60:Fs Tryz.prog 60=some (none,64):=by kernel_rfl
theorem yr60_0:Bd Tryz.prog 60 0 []=some (.sl 1 0 6 []):=by kernel_rfl
theorem yr60_1(a0 a1 a2 a3 a4 a5:AV):Bd Tryz.prog 60 1 [(0,.agg [a0,a1,a2,a3,a4,a5])]=some (.sl 1 0 6 [.agg [a0,a1,a2,a3,a4,a5]]):=by kernel_rfl
theorem yx60(tok off:Nat)(es:List AV)(i:Nat)(h:i<es.length):Bh Tryz.prog 60 (.sl tok off 6 es) (.v (.int .i64 (i:Int)))=some (.ep es[i].cells):=by
 have h0:(0:Int)≤(i:Int):=by omega
 simp[Bh,h0,ye60,yz64,h]
theorem yn60(S:St)(tok off:Nat)(es:List AV):Eo Tryz.prog S 60 (.sl tok off 6 es)=some es.length:=by simp[Eo,yu60]
theorem ynn60(S:St):Eo Tryz.prog S 60 .nils=some 0:=by simp[Eo,yu60]
theorem yi60:(Tryz.prog.info? 64).map (fun i=>(i.zero.map fun z=>z.cells.size,i.size,decide (i.bytes≤1000)))=some (some 6,6,true):=by kernel_rfl
theorem yt60:∃bytes,RowT Tryz.prog 60 64 6 bytes:=K2 ye60 yu60 yi60 (by decide)
theorem yu42:Tryz.prog.underlying 42=some (.slice 125):=by kernel_rfl
theorem ye42:Fs Tryz.prog 42=some (none,125):=by kernel_rfl
theorem yr42_0:Bd Tryz.prog 42 0 []=some (.sl 1 0 6 []):=by kernel_rfl
theorem yr42_1(a0 a1 a2 a3 a4 a5:AV):Bd Tryz.prog 42 1 [(0,.agg [a0,a1,a2,a3,a4,a5])]=some (.sl 1 0 6 [.agg [a0,a1,a2,a3,a4,a5]]):=by kernel_rfl
theorem yn42(S:St)(tok off:Nat)(es:List AV):Eo Tryz.prog S 42 (.sl tok off 6 es)=some es.length:=by simp[Eo,yu42]
theorem ynn42(S:St):Eo Tryz.prog S 42 .nils=some 0:=by simp[Eo,yu42]
theorem yi42:(Tryz.prog.info? 125).map (fun i=>(i.zero.map fun z=>z.cells.size,i.size,decide (i.bytes≤1000)))=some (some 6,6,true):=by kernel_rfl
theorem wL:∃bytes,RowT Tryz.prog 42 125 6 bytes:=K2 ye42 yu42 yi42 (by decide)
theorem yu43:Tryz.prog.underlying 43=some (.slice 66):=by kernel_rfl
theorem ye43:Fs Tryz.prog 43=some (none,66):=by kernel_rfl
theorem yr43_1(a0 a1 a2 a3 a4 a5 a6 a7:AV):Bd Tryz.prog 43 1 [(0,.agg [a0,a1,a2,a3,a4,a5,a6,a7])]=some (.sl 1 0 8 [.agg [a0,a1,a2,a3,a4,a5,a6,a7]]):=by kernel_rfl
theorem yx43(tok off:Nat)(es:List AV)(i:Nat)(h:i<es.length):Bh Tryz.prog 43 (.sl tok off 8 es) (.v (.int .i64 (i:Int)))=some (.ep es[i].cells):=by
 have h0:(0:Int)≤(i:Int):=by omega
 simp[Bh,h0,ye43,yz66,h]
theorem yn43(S:St)(tok off:Nat)(es:List AV):Eo Tryz.prog S 43 (.sl tok off 8 es)=some es.length:=by simp[Eo,yu43]
theorem ynn43(S:St):Eo Tryz.prog S 43 .nils=some 0:=by simp[Eo,yu43]
theorem yi43:(Tryz.prog.info? 66).map (fun i=>(i.zero.map fun z=>z.cells.size,i.size,decide (i.bytes≤1000)))=some (some 8,8,true):=by kernel_rfl
theorem yt43:∃bytes,RowT Tryz.prog 43 66 8 bytes:=K2 ye43 yu43 yi43 (by decide)
theorem yu24:Tryz.prog.underlying 24=some (.slice 45):=by kernel_rfl
theorem ye24:Fs Tryz.prog 24=some (none,45):=by kernel_rfl
theorem yr24_0:Bd Tryz.prog 24 0 []=some (.sl 1 0 6 []):=by kernel_rfl
theorem yr24_1(a0 a1 a2 a3 a4 a5:AV):Bd Tryz.prog 24 1 [(0,.agg [a0,a1,a2,a3,a4,a5])]=some (.sl 1 0 6 [.agg [a0,a1,a2,a3,a4,a5]]):=by kernel_rfl
theorem yn24(S:St)(tok off:Nat)(es:List AV):Eo Tryz.prog S 24 (.sl tok off 6 es)=some es.length:=by simp[Eo,yu24]
theorem yi24:(Tryz.prog.info? 45).map (fun i=>(i.zero.map fun z=>z.cells.size,i.size,decide (i.bytes≤1000)))=some (some 6,6,true):=by kernel_rfl
theorem yt24:∃bytes,RowT Tryz.prog 24 45 6 bytes:=K2 ye24 yu24 yi24 (by decide)
theorem yu62:Tryz.prog.underlying 62=some (.slice 175):=by kernel_rfl
theorem ye62:Fs Tryz.prog 62=some (none,175):=by kernel_rfl
theorem yr62_1(a0 a1:AV):Bd Tryz.prog 62 1 [(0,.agg [a0,a1])]=some (.sl 1 0 2 [.agg [a0,a1]]):=by kernel_rfl
theorem yn62(S:St)(tok off:Nat)(es:List AV):Eo Tryz.prog S 62 (.sl tok off 2 es)=some es.length:=by simp[Eo,yu62]
theorem yi62:(Tryz.prog.info? 175).map (fun i=>(i.zero.map fun z=>z.cells.size,i.size,decide (i.bytes≤1000)))=some (some 2,2,true):=by kernel_rfl
theorem yt62:∃bytes,RowT Tryz.prog 62 175 2 bytes:=K2 ye62 yu62 yi62 (by decide)
theorem yr60_2(a0 a1 a2 a3 a4 a5 b0 b1 b2 b3 b4 b5:AV):Bd Tryz.prog 60 2 [(0,.agg [a0,a1,a2,a3,a4,a5]),(1,.agg [b0,b1,b2,b3,b4,b5])]=some (.sl 1 0 6 [.agg [a0,a1,a2,a3,a4,a5],.agg [b0,b1,b2,b3,b4,b5]]):=by kernel_rfl
theorem yr60_3(a0 a1 a2 a3 a4 a5 b0 b1 b2 b3 b4 b5 c0 c1 c2 c3 c4 c5:AV):Bd Tryz.prog 60 3 [(0,.agg [a0,a1,a2,a3,a4,a5]),(1,.agg [b0,b1,b2,b3,b4,b5]),(2,.agg [c0,c1,c2,c3,c4,c5])]=some (.sl 1 0 6 [.agg [a0,a1,a2,a3,a4,a5],.agg [b0,b1,b2,b3,b4,b5],.agg [c0,c1,c2,c3,c4,c5]]):=by kernel_rfl
theorem ye114:Fs Tryz.prog 114=some (none,121):=by kernel_rfl
def tkL(t:Tk):List AV:=[.v (.int .i64 (t.kind:Int)),.v (.int .i64 (t.pos:Int)),A2 t.text,.v (.int .u64 (t.num:Int))]
def lvA(ts:List Tk):AV:=.sl 0 0 4 (ts.map C6)
theorem Ld(ts:List Tk)(i:Nat)(h:i<ts.length):Bh Tryz.prog 114 (lvA ts) (.v (.int .i64 (i:Int)))=some (.ep (tkL (tk ts i))):=by
 have h0:(0:Int)≤(i:Int):=by omega
 rw[Gy h];simp[Bh,h0,ye114,yz121,h,lvA,C6,Cb,tkL,AV.cells,Bk,Kf]
theorem yb64_k(k p:Int)(es:List AV):Du Tryz.prog 64 [(0,.v (.int .i64 k)),(1,.v (.int .i64 p)),(5,.sl 1 0 6 es)]=some (.agg [.v (.int .i64 k),.v (.int .i64 p),.v (.int .i64 0),A2 [],.v (.bool false),.sl 1 0 6 es]):=by kernel_rfl
theorem yb64_n(k p n:Int):Du Tryz.prog 64 [(0,.v (.int .i64 k)),(1,.v (.int .i64 p)),(2,.v (.int .i64 n))]=some (.agg [.v (.int .i64 k),.v (.int .i64 p),.v (.int .i64 n),A2 [],.v (.bool false),.nils]):=by kernel_rfl
theorem yb64_t(k p:Int):Du Tryz.prog 64 [(0,.v (.int .i64 k)),(1,.v (.int .i64 p))]=some (.agg [.v (.int .i64 k),.v (.int .i64 p),.v (.int .i64 0),A2 [],.v (.bool false),.nils]):=by kernel_rfl
theorem yb64_b(k p:Int)(s:ByteArray)(es:List AV):Du Tryz.prog 64 [(0,.v (.int .i64 k)),(1,.v (.int .i64 p)),(3,.v (.string s)),(5,.sl 1 0 6 es)]=some (.agg [.v (.int .i64 k),.v (.int .i64 p),.v (.int .i64 0),.v (.string s),.v (.bool false),.sl 1 0 6 es]):=by kernel_rfl
theorem yb64_w(k p:Int)(s:ByteArray)(o:Bool)(es:List AV):Du Tryz.prog 64 [(0,.v (.int .i64 k)),(1,.v (.int .i64 p)),(3,.v (.string s)),(4,.v (.bool o)),(5,.sl 1 0 6 es)]=some (.agg [.v (.int .i64 k),.v (.int .i64 p),.v (.int .i64 0),.v (.string s),.v (.bool o),.sl 1 0 6 es]):=by kernel_rfl
theorem yb64_p(p:Int):Du Tryz.prog 64 [(1,.v (.int .i64 p))]=some (.agg [.v (.int .i64 0),.v (.int .i64 p),.v (.int .i64 0),A2 [],.v (.bool false),.nils]):=by kernel_rfl
theorem yb118_l(v:AV)(tok off:Nat)(es:List AV)(h:v=.sl tok off 4 es):Du Tryz.prog 118 [(0,v)]=some (.agg [v,.v (.int .i64 0),.v (.int .i64 0),.v (.int .i64 0)]):=by subst h;kernel_rfl
attribute [go_sem] gconv gneg gnot ya118 ya121 ya125 ya175 ya45 ya64 ya66 yb121_0 yb125_0 yb175_0 yb45_0 yb64_0 yb64_b yb64_k yb64_n yb64_p yb64_t yb64_w yb66_0 yf118_0 yf118_1 yf118_2 yf118_3 yf121_0 yf121_1 yf121_2 yf121_3 yf125_0 yf125_1 yf125_2 yf125_3 yf125_4 yf125_5 yf175_0 yf175_1 yf45_0 yf45_1 yf45_2 yf45_3 yf45_4 yf45_5 yf64_0 yf64_1 yf64_3 yf64_5 yf66_0 yf66_1 yf66_2 yfe121_0 yfe121_1 yfe121_2 yl114 yl118 yl119 yl121 yl125 yl175 yl3 yl39 yl42 yl43 yl45 yl60 yl62 yl64 yl66 yl9 yle121 yle3 yle39 yle64 yle66 yle9 yn24 yn43 yn60 ynn43 ynn60 yr24_0 yr24_1 yr42_0 yr42_1 yr43_1 yr60_0 yr60_1 yr60_2 yr60_3 yr62_1 ys118 ys121 ys125 ys175 ys3 ys39 ys4 ys42 ys43 ys45 ys60 ys62 ys64 ys66 ys9
end Go.Ax
noncomputable section
namespace Go.Ax
open Go.RowKit
attribute [go_sem ↓] pB
attribute [go_sem] Bool.false_beq Bool.false_eq_true Bool.not_false Bool.not_true Bool.true_beq Bool.true_eq_false List.append_nil List.cons_append List.drop_nil List.drop_succ_cons List.drop_zero List.getElem?_cons_succ List.getElem?_cons_zero List.getElem?_toArray List.head?_cons List.head?_nil List.length_cons List.length_nil List.nil_append List.take_succ_cons List.take_zero Nat.add_zero Nat.zero_add Option.bind_some Option.getD_some Option.toList T.get_leaf T.get_set B1 Bn Jy Ir Oq Dc Dr Eh Hj Iq Bz Dl Dz Db Ez and_self and_true beq_self_eq_true X0 Cn Cg Ct L7 cl1_box clN_box F1 F0 decide_eq_true_eq decide_false decide_true A6 Bg Cz J4 Z5 C1 Fc vF Et Ja fM D6 Qj Ls Ml Jk Fb fb_neqSx vB Bm Gs Cm if_false if_true Cx Fq C9 Bj B6 Em Gb noTup_agg Gw D3 Bo ofOpt ofOptS C8 dJ C0 sO D2 Ba Gv F2 Mp Rq A4 Cw st0_get Br De C7 Je A5 Ei true_and D8 vstB_agg vstB_s vstB_v Bc
end Go.Ax
noncomputable section
namespace Go.Ax
open Go.RowKit Go.Proofs
set_option maxRecDepth 100000
mutual
inductive Cop(lo:Nat)(S:St):AV→AV→Prop where
 |mk (k p:Nat) (n:Int) (nm:List UInt8) (o:Bool) (kv kc:AV) (h:CopK lo S kv kc):Cop lo S (.agg (exC k p n nm o kv)) (.agg (exC k p n nm o kc))
inductive CopK(lo:Nat)(S:St):AV→AV→Prop where
 |nil:CopK lo S .nils .nils
 |empty:CopK lo S (.sl 1 0 6 []) (.sl 0 0 6 [])
 |row (id n:Nat) (aa cs:List AV) (h1:lo≤id) (h2:id<S.next) (hm:S.mem.get id=some (.box (B4 aa))) (hn:n=cs.length) (h:CopF lo S aa cs):CopK lo S (.bs id 0 n 6) (.sl 0 0 6 cs)
inductive CopF(lo:Nat)(S:St):List AV→List AV→Prop where
 |nil:CopF lo S [] []
 |cons (a c:AV) (aa cs:List AV) (h:Cop lo S a c) (h2:CopF lo S aa cs):CopF lo S (a :: aa) (c :: cs)
end
section
variable {lo lo':Nat} {S S':St}
mutual
theorem Cop.keep(hn:S.next≤S'.next)(hl:lo'≤lo)(hk:∀id,lo≤id→id<S.next→S'.mem.get id=S.mem.get id):∀{a c:AV},Cop lo S a c→Cop lo' S' a c
 |_,_,.mk k p n nm o kv kc h=>.mk k p n nm o kv kc (CopK.keep hn hl hk h)
theorem CopK.keep(hn:S.next≤S'.next)(hl:lo'≤lo)(hk:∀id,lo≤id→id<S.next→S'.mem.get id=S.mem.get id):∀{a c:AV},CopK lo S a c→CopK lo' S' a c
 |_,_,.nil=>.nil
 |_,_,.empty=>.empty
 |_,_,.row id n aa cs h1 h2 hm hnn h=>.row id n aa cs (Jb2 hl h1) (Ja0 h2 hn) ((hk id h1 h2).trans hm) hnn (CopF.keep hn hl hk h)
theorem CopF.keep(hn:S.next≤S'.next)(hl:lo'≤lo)(hk:∀id,lo≤id→id<S.next→S'.mem.get id=S.mem.get id):∀{a c:List AV},CopF lo S a c→CopF lo' S' a c
 |_,_,.nil=>.nil
 |_,_,.cons a c aa cs h h2=>.cons a c aa cs (Cop.keep hn hl hk h) (CopF.keep hn hl hk h2)
end
theorem CopF.snoc:∀{aa cs:List AV} {a c:AV},CopF lo S aa cs→Cop lo S a c→CopF lo S (aa ++ [a]) (cs ++ [c])
 |_,_,_,_,.nil,h=>.cons _ _ _ _ h .nil
 |_,_,_,_,.cons a c aa cs h h2,h3=>.cons a c _ _ h (h2.snoc h3)
theorem CopF.len:∀{aa cs:List AV},CopF lo S aa cs→aa.length=cs.length
 |_,_,.nil=>rfl
 |_,_,.cons a c aa cs h h2=>by rw[Jb7,Jb7,h2.len]
theorem CopF.flat_len:∀{aa cs:List AV},CopF lo S aa cs→(B4 aa).length=aa.length*6
 |_,_,.nil=>rfl
 |_,_,.cons a c aa cs h h2=>by
  rw[Hu,Ja3,h2.flat_len]
  cases h with
  |mk k p n nm o kv kc h=>show 6+_=_;rw[Jb7];omega
end
def RL(γ γ2:Gh)(w:World)(l m:List AV):Prop:=l.length=m.length∧∀(k:Nat) (a c:AV),l[k]? = some a→m[k]? = some c→∀u,VR γ w a u→VR γ2 w c u
theorem RL.nil(γ γ2:Gh)(w:World):RL γ γ2 w [] []:=⟨rfl,fun k a c h=>by simp at h⟩
theorem RL.cons{γ γ2:Gh}{w:World}{a c:AV}{l m:List AV}(h:∀u,VR γ w a u→VR γ2 w c u)(h2:RL γ γ2 w l m):RL γ γ2 w (a :: l) (c :: m):=⟨by rw[Jb7,Jb7,h2.1],fun k a' c' h3 h4=>by
 cases k with
 |zero=>simp at h3 h4;subst h3;subst h4;exact h
 |succ k=>exact h2.2 k a' c' (by simpa using h3) (by simpa using h4)⟩
theorem RL.app{γ γ2:Gh}{w:World}:∀{l m l2 m2:List AV},RL γ γ2 w l m→RL γ γ2 w l2 m2→RL γ γ2 w (l ++ l2) (m ++ m2)
 | [],[],_,_,_,h=>h
 |a :: l,c :: m,_,_,h1,h=>RL.cons (h1.2 0 a c rfl rfl) (RL.app (l:=l) (m:=m) ⟨by simpa using h1.1,fun k a' c' h3 h4=>h1.2 (k+1) a' c' (by simpa using h3) (by simpa using h4)⟩ h)
 | [],_ :: _,_,_,h1,h=>by cases h1.1
 |_ :: _,[],_,_,h1,h=>by cases h1.1
theorem vr_v{γ γ2:Gh}{w:World}(x:Value):∀u,VR γ w (.v x) u→VR γ2 w (.v x) u:=fun u h=>by cases h with |v _ h=>exact .v _ h
structure FzOk(base:Nat)(w0:World)(γ:Gh)(S:St)(w:World)(γ2:Gh):Prop where
 sr:SR base w0 γ S w
 im:∀b o,γ.im b o→γ2.im b o
 bx:∀id cs b s,S.mem.get id=some (.box cs)→γ.loc id=some (b,s)→∀o,o<cs.length→γ2.im b o
section
variable {base lo:Nat} {w0 w:World} {γ γ2:Gh} {S:St}
theorem bs_deep(H:FzOk base w0 γ S w γ2){id:Nat}{aa cs:List AV}(hm:S.mem.get id=some (.box (B4 aa)))(q1:RL γ γ2 w (B4 aa) (B4 cs))(q3:∀e∈cs,e.cells.length=6)(q4:∀x∈B4 cs,x.one=true){u:Value}(hu:VR γ w (.bs id 0 cs.length 6) u):VR γ2 w (.sl 0 0 6 cs) u:=by
 cases hu with
 |bs _ _ _ _ b s cap hl hc hsz hb =>
  obtain⟨b',s',l1,l2,hs0,hni,hone,arr,T,x,y,ha,hx,hr⟩:=H.sr.live id _ hm;rw[hl]at l1;injection l1 with l1;injection l1 with e1 e2
  subst e1;subst e2;have hbx:=H.bx id _ b s hm hl;have hs0:s=0:=hs0;subst hs0;have hlen:(B4 cs).length=(B4 aa).length:=q1.1.symm;refine .sl 0 0 6 cs b 0 cap (fun k=>x.getD k undef) hsz q3 q4 (fun k hk=>⟨by rw[Nat.zero_add];exact hbx k (by omega),?_⟩) (fun k hk=>?_) (fun h=>by omega) (fun h=>by omega) hc ?_
  ·have h2:k<x.length:=by rw[hr.1];omega
   rw[Nat.zero_add,gL ha,← Array.getElem?_toList,hx,List.getElem?_append_left h2,List.getD_eq_getElem?_getD,Ja4 h2];rfl
  ·have hk2:k<(B4 aa).length:=by omega
   have h2:k<x.length:=by rw[hr.1];exact hk2
   have:=hr.2 k hk2 h2;have h3:=q1.2 k _ _ (Ja4 hk2) (Ja4 hk) _ this;rw[List.getD_eq_getElem?_getD,Ja4 h2];exact h3
  ·obtain⟨arr2,T2,fr2,g1,g2⟩:=hb
   exact⟨arr2,T2,fr2,g1,by simpa using g2⟩
mutual
theorem cop_rl(H:FzOk base w0 γ S w γ2):∀{a c:AV},Cop lo S a c→RL γ γ2 w a.cells c.cells∧a.cells.length=6∧(∀x∈c.cells,x.one=true)
 |_,_,.mk k p n nm o kv kc h=>by
  have h2:=copK_vr H h;refine⟨RL.cons (vr_v _) (RL.cons (vr_v _) (RL.cons (vr_v _) (RL.cons (vr_v _) (RL.cons (vr_v _) (RL.cons h2.1 (RL.nil _ _ _)))))),rfl,fun x hx=>?_⟩
  simp only[AV.cells,exC,Jb8,Ja7,or_false]at hx;rcases hx with rfl |rfl |rfl |rfl |rfl |rfl
  ·rfl
  ·rfl
  ·rfl
  ·rfl
  ·rfl
  ·exact h2.2
theorem copK_vr(H:FzOk base w0 γ S w γ2):∀{a c:AV},CopK lo S a c→(∀u,VR γ w a u→VR γ2 w c u)∧c.one=true
 |_,_,.nil=>⟨fun u h=>by cases h;exact .nils,rfl⟩
 |_,_,.empty=>⟨fun u h=>by
   cases h with
   |sl _ _ _ _ b o cap c hsz hes h1 h hr ht hf hc hb =>
    exact .sl 0 0 6 [] b o cap c hsz (fun _ h=>absurd h Ja7) (fun _ h=>by cases h) (fun k hk=>absurd hk (Jb3 k)) (fun k hk=>absurd hk (Jb3 k)) (fun h=>by omega) (fun h=>by omega) hc hb,rfl⟩
 |_,_,.row id n aa cs h1 h2 hm hn hF=>⟨fun u hu=>by
   obtain⟨q1,q2,q3,q4⟩:=copF_rl H hF;subst hn
   exact bs_deep H hm q1 q3 q4 hu,rfl⟩
theorem copF_rl(H:FzOk base w0 γ S w γ2):∀{aa cs:List AV},CopF lo S aa cs→RL γ γ2 w (B4 aa) (B4 cs)∧aa.length=cs.length∧(∀e∈cs,e.cells.length=6)∧(∀x∈B4 cs,x.one=true)
 |_,_,.nil=>⟨RL.nil _ _ _,rfl,fun _ h=>absurd h Ja7,fun _ h=>by cases h⟩
 |_,_,.cons a c aa cs h h2=>by
  obtain⟨p1,p2,p3⟩:=cop_rl H h;obtain⟨q1,q2,q3,q4⟩:=copF_rl H h2;refine⟨by rw[Hu,Hu];exact p1.app q1,by rw[Jb7,Jb7,q2],fun e he=>?_,fun x hx=>?_⟩
  ·rcases Jb8.1 he with rfl |he
   ·exact p1.1.symm.trans p2
   ·exact q3 e he
  ·rw[Hu]at hx
   rcases Jc7.1 hx with hx |hx
   ·exact p3 x hx
   ·exact q4 x hx
end
theorem cop_deep(H:FzOk base w0 γ S w γ2){a c:AV}(h:Cop lo S a c){u:Value}(hu:VR γ w a u):VR γ2 w c u:=by
 obtain⟨p1,p2,p3⟩:=cop_rl H h
 cases h with
 |mk k p n nm o kv kc h =>
  cases hu with
  |agg _ x hx h1 hr =>
   refine .agg _ x (hx.trans p1.1) p3 (fun j hj hj'=>?_)
   have hj2:j<(exC k p n nm o kv).length:=hj;exact p1.2 j _ _ (Ja4 hj2) (Ja4 hj) _ (hr j hj2 hj')
end
def CopyOk2(e:PE):Prop:=∀(ys:List AV),RepE (.agg ys) e→∀S,2≤S.next→WC E1 69 [.agg ys] S (fun r=>∃a S',r=.ret a S'∧Cop S.next S' a (clean (.agg ys))∧Dm S S')
theorem cop_ex{lo:Nat}{S:St}{a:AV}{ys:List AV}{e:PE}(hr:RepE (.agg ys) e)(h:Cop lo S a (clean (.agg ys))):∃kv,a=.agg (Y8 e kv)∧Rj kv:=by
 cases hr with
 |mk kind pos n name off kv0 kids hk =>
  have hc:clean (.agg (exC kind pos n name off kv0))=.agg (exC kind pos n name off (clean kv0)):=rfl;rw[hc]at h;generalize clean kv0=kc at h;generalize hx:AV.agg (exC kind pos n name off kc)=x at h
  cases h with
  |mk k p n' nm o kv kc' h =>
   unfold exC Bk A2 at hx;simp only[AV.agg.injEq,List.cons.injEq,AV.v.injEq,Value.int.injEq,Value.string.injEq,Value.bool.injEq,ByteArray.mk.injEq,Array.mk.injEq,Ad,Ac]at hx;obtain⟨e1,e2,e3,e4,e5,e6⟩:=hx;have e1:kind=k:=by omega
   have e2:pos=p:=by omega
   subst e1;subst e2;subst e3;subst e4;subst e5;refine⟨kv,rfl,?_⟩
   cases h with
   |nil=>exact .inl rfl
   |empty=>exact .inr (.inl ⟨_,_,_,rfl⟩)
   |row id n aa cs h1 h2 hm hn h=>exact .inr (.inr ⟨_,_,_,rfl⟩)
theorem gC(S0:St)(b:Nat)(ex:AV→List AV)(hex:∃kind pos n name off,ex=exC kind pos n name off)(c:Nat)(es:List AV)(hes:es.length≤2000000)(hb0:S0.next≤b)(hc0:S0.next≤c)(hbc:b≠c)(h2:2≤S0.next):∀(suf:List PE) (j:Nat) (cs:List AV) (t:T AV) (S:St),RepF (es.drop j) suf→j≤es.length→(∀e∈suf,CopyOk2 e)→(∃aa,cs=B4 aa ++ B4 (es.drop j)∧CopF (c+1) S aa (Be (es.take j))) →
  cs.length=es.length*6→cs.drop (j*6)=B4 (es.drop j)→S.mem.get c=some (.box cs)→c<S.next→b<S.next→S.mem.get b=some (.box (ex (.bs c 0 es.length 6))) →
  t.get 1=some (.ptr b 0)→t.get 10=some (.bs c 0 es.length 6)→t.get 11=some (.v (.int .i64 (es.length:Int)))→t.get 12=some (.v (.int .i64 (j:Int)))→Dm S0 S →
  WX E1 25 (.loop Gt) ⟨t,[]⟩ S (fun r=>∃t' S',r=.out (.exit 0) ⟨t',[]⟩ S'∧t'.get 1=some (.ptr b 0)∧t'.get 2=t.get 2∧S'.mem.get b=some (.box (ex (.bs c 0 es.length 6)))∧b<S'.next∧(∀id,id<S.next→id≠c→S'.mem.get id=S.mem.get id)∧Dm S0 S'∧∃aa,S'.mem.get c=some (.box (B4 aa))∧CopF (c+1) S' aa (Be es)∧c<S'.next)
 | [],j,cs,t,S,hr,hj,hd,hinv,hcl,hcd,gc,hcn,hbn,gb,h1,h10,h11,h12,hk=>by
  refine Bt (Bp ?_);have hl:j=es.length:=by have:=hr.len;rw[Jb4]at this;simp at this;omega
  have hlt:¬ ((j:Int)<(es.length:Int)):=by omega
  simp only[go_sem,Er,By,Bu,Ew,Ff,reduceLT,reduceEqDiff,Tryz.f69,Gt,h10,h11,h12,hlt];obtain⟨aa,hcs,hcf⟩:=hinv;have hd0:es.drop j=[]:=List.drop_of_length_le (by omega)
  have ht0:es.take j=es:=Jd2 (by omega)
  rw[hd0]at hcs;rw[ht0]at hcf;have hcs:cs=B4 aa:=by rw[hcs];exact List.append_nil _
  exact⟨_,_,rfl,by simp[T.get_set,h1],by simp[T.get_set],gb,hbn,fun _ _ _=>rfl,hk,aa,by rw[← hcs];exact gc,hcf,hcn⟩
 |e :: suf,j,cs,t,S,hr,hj,hd,hinv,hcl,hcd,gc,hcn,hbn,gb,h1,h10,h11,h12,hk=>by
  refine Bt (Bp ?_);have hl:j<es.length:=by have:=hr.len;rw[Jb4]at this;simp at this;omega
  have hlt:((j:Int)<(es.length:Int)):=by omega
  rw[Ja6 hl]at hr hcd;obtain⟨fn1,hf1⟩:=fX 69;obtain⟨kind,pos,n,name,off,rfl⟩:=hex
  cases hr with
  |cons _ _ _ _ hr1 hr2 =>
  obtain⟨ys,hy,hyl⟩:=hr1.agg;rw[hy]at hr1 hcd;rw[Hu]at hcd;have hcd:cs.drop (j*6)=ys ++ B4 (es.drop (j+1)):=hcd;have hjc:j*6+6≤cs.length:=by omega
  have q1:=idx28b c j es.length hl;have q2:=ldAt30 gc hcd hyl (by omega)
  have q3:=Vt (Co S exZ) rfl hyl;have g3:=Dv (S.newBox exZ) S.next ys;have k3:Dm S ((S.newBox exZ).put S.next ys):=Dj (Ce S _) (Ja1 _) _;generalize hS3:(S.newBox exZ).put S.next ys=S3 at q3 g3 k3;have q4:=ld30 g3 hyl;have gb3:S3.mem.get b=some (.box (exC kind pos n name off (.bs c 0 es.length 6))):=(k3.2 _ hbn).trans gb;have q5:=Mi gb3;have w1:IntKind.i64.wrap ((j:Int)+1)=((j+1:Nat):Int):=I2 (j:=1) (by omega)
  simp only[go_sem,Er,By,B3,Cc,Bu,Fi,Ff,reduceLT,reduceEqDiff,Tryz.f69,Sl,Gt,h10,h11,h12,hlt,q1,q2,q3];refine Dd [(0,true),(1,true),(2,true),(3,true),(4,true),(1,false),(5,true),(6,true)] (by kernel_rfl) (by kernel_rfl) ?_
  simp only[go_sem,Ff,reduceLT,reduceEqDiff,I1,Km,Hw,fe5,h1,q4,q5,hf1];refine WC.mono (hd e (Jb1 ..) ys hr1 S3 (Jb2 h2 (Jb2 hk.1 k3.1))) ?_;rintro _ ⟨a4,S4,rfl,hcop,k4⟩;obtain⟨kv4,ha4,hkv4⟩:=cop_ex hr1 hcop;subst ha4;have n4:S.next≤S4.next:=Jb2 k3.1 k4.1;have gb4:S4.mem.get b=some (.box (exC kind pos n name off (.bs c 0 es.length 6))):=(k4.2 _ (Ja0 hbn k3.1)).trans gb3;have gc4:S4.mem.get c=some (.box cs):=(k4.2 _ (Ja0 hcn k3.1)).trans ((k3.2 _ hcn).trans gc);have q6:=Mi gb4;have hy4:(Y8 e kv4).length=6:=by cases e;rfl
  have q7:=stAt30 gc4 hy4 hjc;generalize hcs':cs.take (j*6) ++ Y8 e kv4 ++ cs.drop (j*6+6)=cs' at q7;have hcl':cs'.length=es.length*6:=by rw[← hcs'];simp[hy4];omega
  have hcd':cs'.drop ((j+1)*6)=B4 (es.drop (j+1)):=by
   have e1:cs.drop (j*6+6)=B4 (es.drop (j+1)):=by
    rw[← List.drop_drop,hcd,← hyl,List.drop_left]
   rw[← hcs',e1];have e2:(cs.take (j*6) ++ Y8 e kv4).length=(j+1)*6:=by simp[hy4];omega
   rw[← e2,List.drop_left]
  have hinv':∃aa,cs' = B4 aa ++ B4 (es.drop (j+1))∧CopF (c+1) (S4.put c cs') aa (Be (es.take (j+1))):=by
   obtain⟨aa,hcs,hcf⟩:=hinv;have hal:aa.length=j:=by rw[hcf.len,Io,Ja9,Jd0];omega
   have hfl:(B4 aa).length=j*6:=by rw[hcf.flat_len,hal]
   refine⟨aa ++ [.agg (Y8 e kv4)],?_,?_⟩
   ·have e1:cs.drop (j*6+6)=B4 (es.drop (j+1)):=by
     rw[← List.drop_drop,hcd,← hyl,List.drop_left]
    have e0:cs.take (j*6)=B4 aa:=by rw[hcs,← hfl,List.take_left]
    rw[← hcs',e1,e0];have e3:B4 (aa ++ [.agg (Y8 e kv4)])=B4 aa ++ Y8 e kv4:=by unfold B4;rw[List.flatMap_append];simp[AV.cells]
    rw[e3]
   ·have e3:Be (es.take (j+1))=Be (es.take j) ++ [clean (.agg ys)]:=by
     rw[Io,Io,List.take_succ_eq_append_getElem hl,Jd4,hy];rfl
    rw[e3];refine CopF.snoc ?_ ?_
    ·refine hcf.keep (by rw[Ik];exact n4) (Ja1 _) (fun id h1 h2=>?_)
     exact(D9 (by omega)).trans ((k4.2 _ (Ja0 h2 k3.1)).trans (k3.2 _ h2))
    ·refine hcop.keep (by rw[Ik];exact Ja1 _) ?_ (fun id h1 h2=>D9 ?_)
     ·have:=k3.1;omega
     ·have:=k3.1;omega
  have gc5:(S4.put c cs').mem.get c=some (.box cs'):=Dv _ _ _;have gb5:(S4.put c cs').mem.get b=some (.box (exC kind pos n name off (.bs c 0 es.length 6))):=(D9 hbc).trans gb4;simp only[go_sem,Cq,By,Bu,Ff,reduceLT,reduceEqDiff,gX,I1,Jv,Js,Hw,M8,H9,I6,h12,q1,q6,q7,w1];refine WX.mono (gC S0 b _ ⟨_,_,_,_,_,rfl⟩ c es hes hb0 hc0 hbc h2 suf (j+1) cs' _ (S4.put c cs') hr2 hl (fun e he=>hd e (Ja8 _ he)) hinv' hcl' hcd' gc5 (by rw[Ik];omega) (by rw[Ik];omega) gb5 (by simp[T.get_set,h1]) (by simp[T.get_set,h10]) (by simp[T.get_set,h11]) (by simp[T.get_set]) ?_) ?_
  ·refine⟨by rw[Ik];exact Jb2 hk.1 n4,fun id hid=>?_⟩
   exact(D9 (by omega)).trans ((k4.2 _ (Ja0 hid (Jb2 hk.1 k3.1))).trans ((k3.2 _ (Ja0 hid hk.1)).trans (hk.2 _ hid)))
  ·rintro r ⟨t',S',rfl,a1,a2,a3,a4,a5,a6,a7⟩
   refine⟨t',S',rfl,a1,by rw[a2];simp[T.get_set],a3,a4,fun id hid hne=>?_,a6,a7⟩
   exact(a5 id (by rw[Ik];omega) hne).trans ((D9 hne).trans ((k4.2 _ (Ja0 hid k3.1)).trans (k3.2 _ hid)))
theorem copy_w2:∀{e:PE},Wide e→CopyOk2 e:=fun {e} hw=>by
 induction hw with
 |mk kind pos n name off kids hlen hk ih =>
  intro ys hr S hS
  cases hr with
  |mk _ _ _ _ _ kv _ hkk =>
  refine WCk Tryz.f69 ?_;obtain⟨fn1,hf1⟩:=fX 124;have g1:((S.newBox (exC kind pos n name off kv)).newBox exZ).mem.get S.next=some (.box (exC kind pos n name off kv)):=(Gr (Ja5 _)).trans (Co S _);have g2:((S.newBox (exC kind pos n name off kv)).newBox exZ).mem.get (S.next+1)=some (.box exZ):=Co _ _;have k1:Dm S ((S.newBox (exC kind pos n name off kv)).newBox exZ):=(Ce S _).trans (Ce _ _);have n1:((S.newBox (exC kind pos n name off kv)).newBox exZ).next=S.next+2:=rfl;have e1:(S.newBox (exC kind pos n name off kv)).next=S.next+1:=rfl;generalize hS1:(S.newBox (exC kind pos n name off kv)).newBox exZ=S1 at g1 g2 k1 n1;have l1:=Mi g1
  have fin:∀(S2:St) (kv2:AV),Rj kv2→S2.mem.get S.next=some (.box (exC kind pos n name off kv2))→S2.mem.get (S.next+1)=some (.box exZ)→Dm S S2→A8 Tryz.prog S2 57 (.ptr S.next 0)=some (.agg (exC kind pos n name off kv2))∧Bl Tryz.prog S2 57 (.ptr (S.next+1) 0) (.agg (exC kind pos n name off kv2))=some (S2.put (S.next+1) (exC kind pos n name off kv2))∧A8 Tryz.prog (S2.put (S.next+1) (exC kind pos n name off kv2)) 57 (.ptr (S.next+1) 0)=some (.agg (exC kind pos n name off kv2))∧Dm S (S2.put (S.next+1) (exC kind pos n name off kv2)):=fun S2 kv2 h1 h2 h3 h4 =>
   ⟨ld30 h2 rfl,Vt h3 rfl rfl,ld30 (Dv _ _ _) rfl,Dj h4 (Jc9 _) _⟩
  cases hkk with
  |nil =>
   have q1:=jF (kv':=.nils) g1 (.inl rfl);have gb:(S1.put S.next (exC kind pos n name off .nils)).mem.get S.next=some (.box (exC kind pos n name off .nils)):=Dv _ _ _;have l2:=Mi gb;obtain⟨f1,f2,f3,f4⟩:=fin (S1.put S.next (exC kind pos n name off .nils)) .nils (.inl rfl) gb ((D9 (by omega)).trans g2) (Dj k1 (Ja1 _) _)
   simp only[go_sem,By,Bv,Bu,Ff,reduceLT,reduceEqDiff,Tryz.f69,Cr,Cs,Sl,fe5,l1,hf1,hS1,e1];refine WC.mono (lW S1) ?_;rintro _ rfl;simp only[go_sem,By,B3,Cc,Bu,Cd,Ff,reduceLT,reduceEqDiff,fe5,q1,l2,Tg];refine WX.mono (Uz _ _ (by simp[T.get_set]) (by simp[T.get_set])) ?_
   rintro r ⟨t',rfl,a1,a2⟩;simp only[A0,reduceEqDiff,Aa,Ab,A1]at a1 a2;simp only[go_sem,Er,Ea,By,B3,Cc,Bu,Ff,reduceLT,reduceEqDiff,a1,a2,f1,f2,f3];exact⟨_,_,rfl,.mk kind pos n name off _ _ .nil,f4⟩
  |row tok o es _ hf =>
   have hl:=hf.len;simp only[go_sem,By,Bv,Bu,Ff,reduceLT,reduceEqDiff,Tryz.f69,Cr,Cs,Sl,fe5,l1,hf1,hS1,e1];refine WC.mono (lV S1 tok o es (by omega)) ?_
   rintro _ (⟨he,rfl⟩ | ⟨he,rfl⟩)
   ·have kc:Rj (.sl 1 0 6 []):=.inr (.inl ⟨_,_,_,rfl⟩)
    have q1:=jF g1 kc;have gb:(S1.put S.next (exC kind pos n name off (.sl 1 0 6 []))).mem.get S.next=some (.box (exC kind pos n name off (.sl 1 0 6 []))):=Dv _ _ _;have l2:=Mi gb;have l3:=Xb (S1.put S.next (exC kind pos n name off (.sl 1 0 6 []))) 1 0 [];obtain⟨f1,f2,f3,f4⟩:=fin (S1.put S.next (exC kind pos n name off (.sl 1 0 6 []))) _ kc gb ((D9 (by omega)).trans g2) (Dj k1 (Ja1 _) _)
    simp only[go_sem,By,B3,Cc,Bu,Cd,Ff,reduceLT,reduceEqDiff,fe5,q1,l2,l3];refine WX.mono (Uz _ _ (by simp[T.get_set]) (by simp[T.get_set])) ?_
    rintro r ⟨t',rfl,a1,a2⟩;simp only[A0,reduceEqDiff,Aa,Ab,A1]at a1 a2;simp only[go_sem,Er,Ea,By,B3,Cc,Bu,Ff,reduceLT,reduceEqDiff,a1,a2,f1,f2,f3];subst he;exact⟨_,_,rfl,.mk kind pos n name off _ _ .empty,f4⟩
   ·have kc:Rj (.bs S1.next 0 es.length 6):=.inr (.inr ⟨_,_,_,rfl⟩)
    have g1':(S1.newBox (B4 es)).mem.get S.next=some (.box (exC kind pos n name off (.sl tok o 6 es))):=(Gr (by omega)).trans g1
    have q1:=jF g1' kc;have gb:((S1.newBox (B4 es)).put S.next (exC kind pos n name off (.bs S1.next 0 es.length 6))).mem.get S.next=some (.box (exC kind pos n name off (.bs S1.next 0 es.length 6))):=Dv _ _ _;have gc:((S1.newBox (B4 es)).put S.next (exC kind pos n name off (.bs S1.next 0 es.length 6))).mem.get S1.next=some (.box (B4 es)):=(D9 (by omega)).trans (Co _ _)
    have g22:((S1.newBox (B4 es)).put S.next (exC kind pos n name off (.bs S1.next 0 es.length 6))).mem.get (S.next+1)=some (.box exZ):=(D9 (by omega)).trans ((Gr (by omega)).trans g2)
    have kk:Dm S ((S1.newBox (B4 es)).put S.next (exC kind pos n name off (.bs S1.next 0 es.length 6))):=Dj (k1.trans (Ce _ _)) (Ja1 _) _;have nn:((S1.newBox (B4 es)).put S.next (exC kind pos n name off (.bs S1.next 0 es.length 6))).next=S1.next+1:=by rw[Ik];rfl
    generalize hS2:(S1.newBox (B4 es)).put S.next (exC kind pos n name off (.bs S1.next 0 es.length 6))=S2 at q1 gb gc g22 kk nn;have l2:=Mi gb;have l3:=len28b S2 S1.next es.length;simp only[go_sem,By,B3,Cc,Bu,Cd,Ff,reduceLT,reduceEqDiff,fe5,q1,l2,l3];refine WX.mono (gC S S.next (exC kind pos n name off) ⟨_,_,_,_,_,rfl⟩ S1.next es (by omega) (Ja1 _) (by omega) (by omega) hS kids 0 (B4 es) _ S2 hf (Nat.zero_le _) ih ⟨[],by simp[B4],.nil⟩ (lK hf) (by simp) gc (by omega) (by omega) gb (by simp[T.get_set]) (by simp[T.get_set]) (by simp[T.get_set]) (by simp[T.get_set]) kk) ?_
    rintro r ⟨t',S3,rfl,a1,a2,a3,a4,a5,a6,aa,a7,a8,a9⟩;simp only[A0,reduceEqDiff,Aa,Ab,A1]at a2;obtain⟨f1,f2,f3,f4⟩:=fin S3 _ kc a3 ((a5 _ (by omega) (by omega)).trans g22) a6
    simp only[go_sem,Er,Ea,By,B3,Cc,Bu,Ff,reduceLT,reduceEqDiff,a1,a2,f1,f2,f3];refine⟨_,_,rfl,.mk kind pos n name off _ _ (.row S1.next es.length aa (Be es) (by omega) (by rw[Ik];exact a9) ((D9 (by omega)).trans a7) (by rw[Io,Ja9]) (a8.keep (by rw[Ik];exact Ja1 _) (by omega) (fun id h1 h2=>D9 (by omega)))),f4⟩
end Go.Ax
