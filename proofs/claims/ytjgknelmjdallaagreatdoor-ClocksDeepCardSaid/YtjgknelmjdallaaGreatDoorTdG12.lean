/- Lb -/
import Derived.Test.YtjgknelmjdallaaGreatDoorTdG11
set_option linter.unusedVariables false
set_option linter.unusedSimpArgs false
set_option maxHeartbeats 16000000
noncomputable section
namespace Go.Ax
open Go.RowKit Go.Proofs
set_option maxRecDepth 100000
def Bt (l:List UInt8):AV:=.v (.string ⟨⟨l⟩⟩)
def Dq (n:Nat):AV:=.v (.int .i64 (n:Int))
theorem wrap_nat {n:Nat} (h:n ≤ 1000000000):IntKind.i64.wrap (n:Int)=(n:Int):=by
 rw [← mW]
 have:in64 (n:Int)=true:=Nat.ble_eq_true_of_le (by omega)
 unfold lF
 rw [this]
theorem K9 {i j:Nat} (h:i + j ≤ 1000000000):IntKind.i64.wrap ((i:Int) + (j:Int))=((i + j:Nat):Int):=by
 rw [← wrap_nat h]; push_cast; rfl
theorem K8 {i:Nat} (h:i + 1 ≤ 1000000000):IntKind.i64.wrap ((i:Int) + 1)=((i + 1:Nat):Int):=K9 (j:=1) h
theorem dC (S:St) (l:List UInt8):Fw Tryz.prog S 9 (.v (.string ⟨⟨l⟩⟩))=some l.length:=by
 have h:Tryz.prog.underlying 9=some .string:=rfl
 simp only [Fw,h]; rfl
theorem idx9 (l:List UInt8) (i:Nat) (h:i < l.length):Jy Tryz.prog 9 (.v (.string ⟨⟨l⟩⟩)) (.v (.int .i64 (i:Int)))=some (N7 l[i]):=by
 have hu:Tryz.prog.underlying 9=some .string:=rfl
 have h0:(0:Int) ≤ (i:Int):=by omega
 simp only [Jy,hu,if_pos h0,Int.toNat_natCast,List.getElem?_eq_getElem h]; rfl
def groundX (P:Program) (G:Gl) (f:T AV) (S:St) (o:Oper):OR:=ground P G f S o
def notO (r:OR) (S:St) (x:Option AV):OR:=match x with
 | some (.v (.bool b))=>.val (.v (.bool (!b))) S
 | _=>r
theorem C6 (f:T AV) (S:St) (dst:Option Tmp) (k:Tmp) (ty:TypeId) (pos:String) (af:Array Edge) (gd:Option (Nat × Bool)) :
  ground Tryz.prog gR f S { dst:=dst,op:=.unOp .not 4 (.tmp k),type:=ty,pos:=pos,after:=af,guard:=gd }=notO (groundX Tryz.prog gR f S { dst:=dst,op:=.unOp .not 4 (.tmp k),type:=ty,pos:=pos,after:=af,guard:=gd }) S (f.get k):=by
 unfold notO
 split
 ·rename_i b h
  have hg:Dp gR f (.tmp k)=some (.bool b):=by unfold Dp; simp only [Ba,h]; rfl
  unfold ground
  simp only [Op.operands,List.all_cons,List.all_nil,hg,Option.isSome_some,Bool.and_self,Aa]
  have e:execOp (fun x=>(Dp gR f x).getD undef) { dst:=dst,op:=.unOp .not 4 (.tmp k),type:=ty,pos:=pos,after:=af,guard:=gd }=execOp (fun _=>.bool b) { dst:=dst,op:=.unOp .not 4 (.tmp k),type:=ty,pos:=pos,after:=af,guard:=gd }:=by
   simp only [execOp,hg,Ae]
  rw [e]
  cases b <;> rfl
 ·rfl
theorem Db (r:OR) (S:St) (b:Bool):notO r S (some (.v (.bool b)))=.val (.v (.bool (!b))) S:=rfl
def cnt (p:UInt8 → Bool):List UInt8 → Nat
 | []=>0
 | b :: r=>if p b then cnt p r + 1 else 0
theorem bC (p:UInt8 → Bool):∀ l,cnt p l ≤ l.length
 | []=>Nat.le_refl _
 | b :: r=>by
  unfold cnt
  split
  ·have:=bC p r; simp; omega
  ·simp
def Wv:Code:=match Tryz.f96.body with
 | some (.seq _ (.seq (.block _ (.loop c)) _))=>c
 | _=>.skip
structure Test (k:FuncId) (p:UInt8 → Bool):Prop where
 run:∀ b S,WC E1 k [N7 b] S (fun r=>r=.ret (.v (.bool (p b))) S)
 fn:(E1.F k).isSome=true
theorem kO {k:FuncId} {p:UInt8 → Bool} (hp:Test k p) (l:List UInt8) (hl:l.length ≤ 100000) (S:St):∀ (m i:Nat) (t:T AV),i + m=l.length → t.get 0=some (Bt l) → t.get 1=some (Dq i) → t.get 2=some (.fn (.func k) [] []) →
  WX E1 21 (.loop Wv) ⟨t,[]⟩ S (fun r=>∃ t',r=.out (.exit 0) ⟨t',[]⟩ S ∧ t'.get 1=some (Dq (i + cnt p (l.drop i))))
 | 0,i,t,hi,h0,h1,h2=>by
  refine Do (Dh ?_)
  have hlt:¬ ((i:Int) < (l.length:Int)):=by omega
  have hd:l.drop i=[]:=List.drop_eq_nil_of_le (by omega)
  simp only [Bt,Dq] at h0 h1 ⊢
  simp only [Bw,Bv,Bo,A6,Bk,Bl,Bq,C1,Bj,C7,Cf,Ch,A7,C0,Bf,Bd,C8,A5,Bc,Ba,A0,Bm,ofOpt,Bb,Cp,Fj,Bs,Cu,Dg,Nat.reduceLT,Nat.reduceEqDiff,Aa,Ab,Ac,Af,Ag,Ah,Ai,Am,Aq,Ar,Av,Wv,Tryz.f96,h0,h1,h2,dC,hlt]
  exact ⟨_,rfl,by simp only [A0,Nat.reduceEqDiff,Ab,h1,hd,cnt,Nat.add_zero]⟩
 | m + 1,i,t,hi,h0,h1,h2=>by
  refine Do (Dh ?_)
  have hil:i < l.length:=by omega
  have hlt:((i:Int) < (l.length:Int)):=by omega
  have hd:l.drop i=l[i] :: l.drop (i + 1):=List.drop_eq_getElem_cons hil
  obtain ⟨fn,hfn⟩:=Option.isSome_iff_exists.1 hp.fn
  have hx:=idx9 l i hil
  have hw:=K8 (i:=i) (by omega)
  simp only [Bt,Dq] at h0 h1 ⊢
  simp only [A6,Bk,A7,Bf,Bh,Bd,A5,Bc,Ba,A0,Bm,B5,ofOpt,Cp,Bs,Cu,Nat.reduceLT,Nat.reduceEqDiff,Aa,Ab,Ac,Af,Ag,Ah,Ai,Aj,Ak,Al,Am,Ap,Wv,Tryz.f96,h0,h1,h2,dC,hlt,hx,hfn]
  refine WC.mono (hp.run l[i] S) ?_
  rintro _ rfl
  cases hb:p l[i]
  ·simp only [Bw,Bv,Bo,A6,Bl,Bq,C1,Bj,C7,Cf,Ch,A7,Bf,Bd,Bp,C8,A5,Bc,Ba,A0,ofOpt,Bb,Cp,Bs,Dg,Nat.reduceLT,Nat.reduceEqDiff,Aa,Ab,Ac,Am,h1]
   refine ⟨_,rfl,?_⟩
   have e:cnt p (l.drop i)=0:=by rw [hd]; unfold cnt; rw [hb]; rfl
   simp only [A0,Nat.reduceEqDiff,Ab,h1,e,Nat.add_zero]
  ·simp only [Bw,Bv,Bo,A6,Bl,Bq,C1,Bj,C7,Cf,Ch,A7,Bf,Bd,Bp,De,A5,Bc,Ba,A0,ofOpt,Bb,Cp,Bs,Dg,Nat.reduceLT,Nat.reduceEqDiff,Aa,Ab,Ac,Am,h1,hw]
   have e:cnt p (l.drop i)=cnt p (l.drop (i + 1)) + 1:=by rw [hd,cnt,hb]; rfl
   refine WX.mono (kO hp l hl S m (i + 1) _ (by omega) ?_ ?_ ?_) ?_
   ·simp only [A0,Nat.reduceEqDiff,Ab,h0]; rfl
   ·simp only [A0,Nat.reduceEqDiff,Aa]; rfl
   ·simp only [A0,Nat.reduceEqDiff,Ab,h2]
   ·rintro r ⟨t',rfl,h⟩
    refine ⟨t',rfl,?_⟩
    rw [h,e]
    show some (Dq _)=some (Dq _)
    congr 2; omega
theorem fC {k:FuncId} {p:UInt8 → Bool} (hp:Test k p) (l:List UInt8) (hl:l.length ≤ 100000) (i:Nat) (hi:i ≤ l.length) (S:St):WC E1 96 [Bt l,Dq i,.fn (.func k) [] []] S (fun r=>r=.ret (Dq (i + cnt p (l.drop i))) S):=by
 refine Dv Tryz.f96 (by kernel_rfl) (by kernel_rfl) (by kernel_rfl) (by show (_:Nat) ≤ _;simp [Tryz.f96]) ?_
 have key:=fun t h0 h1 h2=>kO hp l hl S (l.length - i) i t (by omega) h0 h1 h2
 unfold Wv at key
 simp only [Tryz.f96] at key
 simp only [A6,Bk,Bq,Dx,Bj,Ch,A7,Bf,Bd,A5,Bc,Ba,Ce,ofOpt,Bb,Nat.reduceLT,Nat.reduceAdd,Ac,Ae,Tryz.f96]
 refine WX.mono (key _ ?_ ?_ ?_) ?_
 ·simp only [A0,A1,Nat.reduceEqDiff,Aa,Ab]
 ·simp only [A0,A1,Nat.reduceEqDiff,Aa,Ab]
 ·simp only [A0,A1,Nat.reduceEqDiff,Aa,Ab]
 ·rintro r ⟨t',rfl,h⟩
  simp only [A6,Bk,B1,Bj,C7,C5,Ch,A7,Bf,Bd,A5,Bc,Ba,A0,ofOpt,Bi,B0,Bg,Cs,Nat.reduceLT,Nat.reduceEqDiff,Aa,Ab,Ad,h]
theorem blankT:Test 97 E4:=⟨blank_w,by kernel_rfl⟩
theorem notEndT:Test 98 Oh:=⟨notEnd_w,by kernel_rfl⟩
theorem digitT:Test 101 Eh:=⟨digit_w,by kernel_rfl⟩
theorem wordBT:Test 131 Es:=⟨wordB_w,by kernel_rfl⟩
theorem sl9_from (l:List UInt8) (i:Nat) (h:i ≤ l.length):G2 Tryz.prog 9 (.v (.string ⟨⟨l⟩⟩)) (some (.v (.int .i64 (i:Int)))) none=some (.v (.string ⟨⟨l.drop i⟩⟩)):=by
 have hu:Tryz.prog.underlying 9=some .string:=rfl
 have h0:(0:Int) ≤ (i:Int):=by omega
 have hs:(⟨⟨l⟩⟩:ByteArray).size=l.length:=rfl
 simp only [G2,hu,Jl,if_pos h0,Int.toNat_natCast,hs]
 rw [Nat.ble_eq_true_of_le h,Nat.ble_eq_true_of_le (Nat.le_refl _)]
 show some (AV.v (.string ⟨⟨(l.drop i).take (l.length - i)⟩⟩))=_
 rw [List.take_of_length_le (by simp)]
theorem sl9_to (l:List UInt8) (j:Nat) (h:j ≤ l.length):G2 Tryz.prog 9 (.v (.string ⟨⟨l⟩⟩)) none (some (.v (.int .i64 (j:Int))))=some (.v (.string ⟨⟨l.take j⟩⟩)):=by
 have hu:Tryz.prog.underlying 9=some .string:=rfl
 have h0:(0:Int) ≤ (j:Int):=by omega
 have hs:(⟨⟨l⟩⟩:ByteArray).size=l.length:=rfl
 simp only [G2,hu,Jl,if_pos h0,Int.toNat_natCast,hs]
 rw [Nat.ble_eq_true_of_le (Nat.zero_le _),Nat.ble_eq_true_of_le h]
 rfl
theorem oB (l:List UInt8) (i j:Nat) (hi:i ≤ j) (h:j ≤ l.length):G2 Tryz.prog 9 (.v (.string ⟨⟨l⟩⟩)) (some (.v (.int .i64 (i:Int)))) (some (.v (.int .i64 (j:Int))))=some (.v (.string ⟨⟨(l.drop i).take (j - i)⟩⟩)):=by
 have hu:Tryz.prog.underlying 9=some .string:=rfl
 have h0:(0:Int) ≤ (i:Int):=by omega
 have h1:(0:Int) ≤ (j:Int):=by omega
 have hs:(⟨⟨l⟩⟩:ByteArray).size=l.length:=rfl
 simp only [G2,hu,Jl,if_pos h0,if_pos h1,Int.toNat_natCast,hs]
 rw [Nat.ble_eq_true_of_le hi,Nat.ble_eq_true_of_le h]
 rfl
theorem Ge (l m:List UInt8):Ej .eql (.v (.string ⟨⟨l⟩⟩)) (.v (.string ⟨⟨m⟩⟩))=some (.v (.bool (decide (l=m)))):=by
 simp only [Ej,Kc]
 have e:(l == m)=decide (l=m):=by rw [Bool.eq_iff_iff]; simp
 show some (AV.v (.bool (l == m)))=_
 rw [e]
theorem Cy (a b:AV):H9 Tryz.prog 9 a b=false:=by
 have h:Tryz.prog.underlying 9=some .string:=rfl
 unfold H9; rw [h]
def Ey (pre l:List UInt8):Bool:=decide (l.take pre.length=pre)
theorem pre122_w (l pre:List UInt8) (S:St):WC E1 122 [Bt l,Bt pre] S (fun r=>r=.ret (.v (.bool (Ey pre l))) S):=by
 refine Dv Tryz.f122 (by kernel_rfl) (by kernel_rfl) (by kernel_rfl) (by show (_:Nat) ≤ _;simp [Tryz.f122]) ?_
 unfold Bt
 by_cases h:(pre.length:Int) ≤ (l.length:Int)
 ·have hs:=sl9_to l pre.length (by omega)
  simp only [A6,Bk,B1,Bj,Ch,A7,Bf,Bd,A5,Bc,Ba,Ce,A0,A1,Bm,B5,ofOpt,Bb,Cp,Fj,Bs,Bi,B0,Bg,Cs,E3,Nat.reduceLT,Nat.reduceAdd,Nat.reduceEqDiff,Aa,Ab,Ad,Ae,Af,Ag,Ah,Ai,Al,Am,Ap,Option.toList,Ay,Az,Tryz.f122,dC,h,hs,Ge,Cy,Ey]
 ·have e:Ey pre l=false:=by
   unfold Ey
   rw [decide_eq_false_iff_not]; intro hq
   have:=congrArg List.length hq
   simp at this; omega
  simp only [A6,Bk,B1,Bj,Ch,A7,C0,Bf,Bd,A5,Bc,Ba,Ce,A0,A1,Bm,ofOpt,Bb,Cp,Fj,Bs,Bi,B0,Bg,Cs,E3,Nat.reduceLT,Nat.reduceAdd,Nat.reduceEqDiff,Aa,Ab,Ad,Ae,Af,Ag,Ah,Ai,Am,Aq,Ar,Av,Tryz.f122,dC,h,Cy,e]
theorem fnOk122:∃ fn,E1.F 122=some fn:=Option.isSome_iff_exists.1 (by kernel_rfl)
theorem pre_w (l pre:List UInt8) (S:St):WC E1 85 [Bt l,Bt pre] S (fun r=>r=.ret (.v (.bool (Ey pre l))) S):=by
 refine Dv Tryz.f85 (by kernel_rfl) (by kernel_rfl) (by kernel_rfl) (by show (_:Nat) ≤ _;simp [Tryz.f85]) ?_
 obtain ⟨fn1,hf1⟩:=fnOk122
 simp only [A6,Bk,Bj,Ch,A7,Bf,Bh,Bd,A5,Bc,Ba,Ce,A0,A1,Bm,B5,ofOpt,Bb,Nat.reduceLT,Nat.reduceAdd,Nat.reduceEqDiff,Aa,Ab,Ac,Ae,Aj,Ak,Tryz.f85,hf1]
 refine WC.mono (pre122_w l pre S) ?_
 rintro _ rfl
 simp only [B1,Bj,Ch,A7,Bf,Bd,Bp,A5,Bc,Ba,A0,A1,ofOpt,Bi,B0,Bg,Cs,Nat.reduceLT,Nat.reduceEqDiff,Aa,Ab,Ad]
theorem e69:Ir Tryz.prog 69=some (none,9):=by kernel_rfl
theorem u69:Tryz.prog.underlying 69=some (.slice 9):=by kernel_rfl
theorem s9:Fu Tryz.prog 9=some 1:=by kernel_rfl
theorem a9:Fo Tryz.prog 9=some false:=by kernel_rfl
theorem len69 (S:St) (tok off:Nat) (es:List AV):Fw Tryz.prog S 69 (.sl tok off 1 es)=some es.length:=by simp [Fw,u69]
theorem idx69 (tok off:Nat) (ws:List (List UInt8)) (i:Nat) (h:i < ws.length):Cm Tryz.prog 69 (.sl tok off 1 (ws.map Bt)) (.v (.int .i64 (i:Int)))=some (.ep [Bt ws[i]]):=by
 have h0:(0:Int) ≤ (i:Int):=by omega
 simp [Cm,h0,e69,s9,h,Bt,AV.cells]
theorem load9 (S:St) (x:AV):Cd Tryz.prog S 9 (.ep [x])=some x:=by simp [Cd,D0,a9]
def U7:Code:=match Tryz.f160.body with
 | some (.seq _ (.seq (.seq _ (.block _ (.loop c))) _))=>c
 | _=>.skip
theorem qN (tok off:Nat) (ws:List (List UInt8)) (s:List UInt8) (hl:ws.length ≤ 100000) (S:St):∀ (m i:Nat) (t:T AV),i + m=ws.length → t.get 0=some (.sl tok off 1 (ws.map Bt)) → t.get 1=some (Bt s) → t.get 7=some (Dq ws.length) → t.get 8=some (Dq i) →
  WX E1 19 (.loop U7) ⟨t,[]⟩ S (fun r=>∃ t',(r=.out (.exit 0) ⟨t',[]⟩ S ∧ s ∉ ws.drop i) ∨ (∃ j:Nat,r=.out .ret ⟨t',[]⟩ S ∧ t'.get 4=some (Dq j) ∧ s ∈ ws.drop i))
 | 0,i,t,hi,h0,h1,h7,h8=>by
  refine Do (Dh ?_)
  have hlt:¬ ((i:Int) < (ws.length:Int)):=by omega
  have hd:ws.drop i=[]:=List.drop_eq_nil_of_le (by omega)
  simp only [Bt,Dq] at h0 h1 h7 h8 ⊢
  simp only [Bv,Bo,A6,Bk,Bl,Bq,C1,Bj,C7,Ch,A7,Bf,Bd,C8,A5,Bc,Ba,A0,ofOpt,Cp,Bs,Cu,Nat.reduceLT,Nat.reduceEqDiff,Aa,Ab,Ac,Am,Aq,U7,Tryz.f160,h0,h1,h7,h8,hlt]
  exact ⟨_,.inl ⟨rfl,by rw [hd]; exact List.not_mem_nil⟩⟩
 | m + 1,i,t,hi,h0,h1,h7,h8=>by
  refine Do (Dh ?_)
  have hil:i < ws.length:=by omega
  have hlt:((i:Int) < (ws.length:Int)):=by omega
  have hd:ws.drop i=ws[i] :: ws.drop (i + 1):=List.drop_eq_getElem_cons hil
  have hx:=idx69 tok off ws i hil
  have hw:=K8 (i:=i) (by omega)
  have hq:=Ge s ws[i]
  simp only [Bt,Dq] at h0 h1 h7 h8 hx ⊢
  by_cases he:s=ws[i]
  ·rw [decide_eq_true he] at hq
   simp only [Bw,Bv,Dk,Bo,A6,Bk,Bl,Bq,C1,B1,Bj,C7,Dd,Cf,C9,Ch,A7,Bf,Bd,De,A5,Bc,Ba,A0,ofOpt,Bb,Cp,Bs,Cu,Dg,Nat.reduceLT,Nat.reduceEqDiff,Aa,Ab,Ac,Am,Ap,U7,Tryz.f160,h0,h1,h7,h8,hlt,hx,load9,Cy,hq]
   exact ⟨_,.inr ⟨i,rfl,by simp only [A0,Nat.reduceEqDiff,Aa],by rw [hd,he]; exact List.mem_cons_self ..⟩⟩
  ·rw [decide_eq_false he] at hq
   simp only [Bw,Bv,Dk,Bo,A6,Bk,Bl,Bq,C1,B1,Bj,C7,Dd,Cf,C9,Ch,A7,Bf,Bd,De,C8,A5,Bc,Ba,A0,ofOpt,Bb,Cp,Bs,Cu,Dg,Nat.reduceLT,Nat.reduceEqDiff,Aa,Ab,Ac,Am,Ap,U7,Tryz.f160,h0,h1,h7,h8,hlt,hx,load9,Cy,hq,hw]
   refine WX.mono (qN tok off ws s hl S m (i + 1) _ (by omega) ?_ ?_ ?_ ?_) ?_
   ·simp only [A0,Nat.reduceEqDiff,Ab,h0]
   ·simp only [A0,Nat.reduceEqDiff,Ab,h1]; rfl
   ·simp only [A0,Nat.reduceEqDiff,Ab,h7]; rfl
   ·simp only [A0,Nat.reduceEqDiff,Aa]; rfl
   ·rintro r ⟨t',⟨rfl,h⟩ | ⟨j,rfl,h,hm⟩⟩
    ·exact ⟨t',.inl ⟨rfl,by rw [hd]; exact fun hc=>(List.mem_cons.1 hc).elim he h⟩⟩
    ·exact ⟨t',.inr ⟨j,rfl,h,by rw [hd]; exact List.mem_cons_of_mem _ hm⟩⟩
theorem index_w (tok off:Nat) (ws:List (List UInt8)) (s:List UInt8) (hl:ws.length ≤ 100000) (S:St):WC E1 160 [.sl tok off 1 (ws.map Bt),Bt s] S (fun r=>∃ x:Int,r=.ret (.v (.int .i64 x)) S ∧ (decide (0 ≤ x)=decide (s ∈ ws))):=by
 refine Dv Tryz.f160 (by kernel_rfl) (by kernel_rfl) (by kernel_rfl) (by show (_:Nat) ≤ _;simp [Tryz.f160]) ?_
 have key:=fun t h0 h1 h7 h8=>qN tok off ws s hl S ws.length 0 t (by omega) h0 h1 h7 h8
 unfold U7 at key
 simp only [Tryz.f160] at key
 have hL:=len69 S tok off (ws.map Bt)
 rw [List.length_map] at hL
 simp only [A6,Bk,Bq,Dx,Bj,Ch,A7,Bf,Bd,A5,Bc,Ba,Ce,A0,A1,Bm,ofOpt,Bb,Cp,Nat.reduceLT,Nat.reduceAdd,Nat.reduceEqDiff,Aa,Ab,Ac,Ae,Tryz.f160,hL]
 refine WX.mono (key _ ?_ ?_ ?_ ?_) ?_
 ·simp only [A0,A1,Nat.reduceEqDiff,Aa,Ab]
 ·simp only [A0,A1,Nat.reduceEqDiff,Aa,Ab]
 ·simp only [A0,A1,Nat.reduceEqDiff,Aa,Ab]; rfl
 ·simp only [A0,A1,Nat.reduceEqDiff,Aa,Ab]; rfl
 ·rintro r ⟨t',⟨rfl,h⟩ | ⟨j,rfl,h,hm⟩⟩
  ·simp only [A6,Bk,B1,Bj,C7,C5,Ch,A7,Bf,Bd,A5,Bc,Ba,A0,ofOpt,Bb,Bi,B0,Bg,Cs,Nat.reduceLT,Aa,Ac]
   refine ⟨_,rfl,?_⟩
   rw [List.drop_zero] at h
   rw [decide_eq_false h]; rfl
  ·unfold Dq at h
   simp only [Dd,C9,Bi,B0,Bg,Cs,h]
   refine ⟨_,rfl,?_⟩
   rw [List.drop_zero] at hm
   rw [decide_eq_true hm,decide_eq_true (show (0:Int) ≤ (j:Int) by omega)]
theorem fnOk160:∃ fn,E1.F 160=some fn:=Option.isSome_iff_exists.1 (by kernel_rfl)
theorem bB (tok off:Nat) (ws:List (List UInt8)) (s:List UInt8) (hl:ws.length ≤ 100000) (S:St):WC E1 129 [.sl tok off 1 (ws.map Bt),Bt s] S (fun r=>r=.ret (.v (.bool (decide (s ∈ ws)))) S):=by
 refine Dv Tryz.f129 (by kernel_rfl) (by kernel_rfl) (by kernel_rfl) (by show (_:Nat) ≤ _;simp [Tryz.f129]) ?_
 obtain ⟨fn1,hf1⟩:=fnOk160
 simp only [A6,Bk,Bj,Ch,A7,Bf,Bh,Bd,A5,Bc,Ba,Ce,A0,A1,Bm,B5,ofOpt,Bb,Nat.reduceLT,Nat.reduceAdd,Nat.reduceEqDiff,Aa,Ab,Ac,Ae,Aj,Ak,Tryz.f129,hf1]
 refine WC.mono (index_w tok off ws s hl S) ?_
 rintro _ ⟨x,rfl,hx⟩
 simp only [B1,Bj,Ch,A7,Bf,Bd,Bp,A5,Bc,Ba,A0,A1,ofOpt,Bb,Cp,Bs,Bi,B0,Bg,Cs,E3,Nat.reduceLT,Nat.reduceEqDiff,Aa,Ab,Ad,Am,ge_iff_le,hx]
def Im:Nat → List UInt8 → Nat
 | 0,_=>0
 | n + 1,l=>if Ey [45,45] (l.drop (cnt E4 l)) then cnt E4 l + (cnt Oh (l.drop (cnt E4 l)) + Im n (l.drop (cnt E4 l + cnt Oh (l.drop (cnt E4 l))))) else cnt E4 l
theorem Vz (n:Nat) (l:List UInt8):Im (n + 1) l=if Ey [45,45] (l.drop (cnt E4 l)) then cnt E4 l + (cnt Oh (l.drop (cnt E4 l)) + Im n (l.drop (cnt E4 l + cnt Oh (l.drop (cnt E4 l))))) else cnt E4 l:=rfl
theorem Pd:∀ (n:Nat) (l:List UInt8),Im n l ≤ l.length
 | 0,l=>Nat.zero_le _
 | n + 1,l=>by
  have h1:=bC E4 l
  have h2:=bC Oh (l.drop (cnt E4 l))
  have h3:=Pd n (l.drop (cnt E4 l + cnt Oh (l.drop (cnt E4 l))))
  unfold Im
  simp only [List.length_drop] at h2 h3
  split <;> omega
def oD:Code:=match Tryz.f65.body with
 | some (.seq _ (.block _ (.loop c)))=>c
 | _=>.skip
theorem fnOk96:∃ fn,E1.F 96=some fn:=Option.isSome_iff_exists.1 (by kernel_rfl)
theorem fnOk85:∃ fn,E1.F 85=some fn:=Option.isSome_iff_exists.1 (by kernel_rfl)
theorem dash_len {l:List UInt8} (h:Ey [45,45] l=true):1 ≤ cnt Oh l:=by
 unfold Ey at h
 rw [decide_eq_true_iff] at h
 cases l with
 | nil=>cases h
 | cons a r =>
  cases r with
  | nil=>cases h
  | cons b r =>
   simp at h
   obtain ⟨rfl,rfl⟩:=h
   unfold cnt
   rw [if_pos (by decide)]; omega
theorem uH (l:List UInt8) (hl:l.length ≤ 100000) (S:St):∀ (n i:Nat) (t:T AV),l.length - i < n → i ≤ l.length → t.get 0=some (Bt l) → t.get 1=some (Dq i) →
  WX E1 17 (.loop oD) ⟨t,[]⟩ S (fun r=>∃ t',r=.out .ret ⟨t',[]⟩ S ∧ t'.get 4=some (Dq (i + Im n (l.drop i))))
 | 0,i,t,hn,hi,h0,h1=>absurd hn (Nat.not_lt_zero _)
 | n + 1,i,t,hn,hi,h0,h1=>by
  refine Do (Dh ?_)
  obtain ⟨fn1,hf1⟩:=fnOk96
  obtain ⟨fn2,hf2⟩:=fnOk85
  have hc1:=bC E4 (l.drop i)
  rw [List.length_drop] at hc1
  have hs:=sl9_from l (i + cnt E4 (l.drop i)) (by omega)
  have hdd:l.drop (i + cnt E4 (l.drop i))=(l.drop i).drop (cnt E4 (l.drop i)):=by rw [List.drop_drop]
  simp only [Bt,Dq] at h0 h1 ⊢
  simp only [A6,Bk,Bq,A7,Bf,Bh,Bd,A5,Bc,Ba,A0,Bm,B5,ofOpt,Nat.reduceLT,Nat.reduceEqDiff,Aa,Ab,Ac,Aj,Ak,oD,Tryz.f65,h0,h1,hf1]
  refine WC.mono (fC blankT l hl i hi S) ?_
  rintro _ rfl
  simp only [Dq]
  simp only [A6,Bk,Bj,Ch,A7,Bf,Bh,Bd,Bp,A5,Bc,Ba,A0,Bm,B5,ofOpt,Bb,Cp,Fj,Nat.reduceLT,Nat.reduceEqDiff,Aa,Ab,Ac,Aj,Ak,Option.toList,Ay,Az,h0,h1,hf2,hs]
  refine WC.mono (pre_w (l.drop (i + cnt E4 (l.drop i))) [45,45] S) ?_
  rintro _ rfl
  cases hb:Ey [45,45] (l.drop (i + cnt E4 (l.drop i)))
  ·have e:Im (n + 1) (l.drop i)=cnt E4 (l.drop i):=by unfold Im; rw [← hdd,hb]; rfl
   simp only [Dk,Bo,A6,Bk,Bl,B1,Bj,Dd,C9,Ch,A7,Bf,Bh,Bd,Bp,De,A5,Bc,Ba,A0,Bm,B5,ofOpt,Cp,Fj,C6,Db,Nat.reduceLT,Nat.reduceEqDiff,Aa,Ab,Ac,Aj,Ak,Au,h0,h1,hf1,e]
   exact ⟨_,rfl,by simp only [A0,Nat.reduceEqDiff,Aa]⟩
  ·have e:Im (n + 1) (l.drop i)=cnt E4 (l.drop i) + (cnt Oh (l.drop (i + cnt E4 (l.drop i))) + Im n (l.drop (i + cnt E4 (l.drop i) + cnt Oh (l.drop (i + cnt E4 (l.drop i)))))):=by
    rw [Vz,← hdd,hb]; simp only [Aa,List.drop_drop,Nat.add_assoc]
   simp only [Dk,Bo,A6,Bk,Bl,B1,Bj,Dd,C9,Ch,A7,Bf,Bh,Bd,Bp,C8,A5,Bc,Ba,A0,Bm,B5,ofOpt,Cp,Fj,C6,Db,Nat.reduceLT,Nat.reduceEqDiff,Aa,Ab,Ac,Aj,Ak,Ar,h0,h1,hf1]
   refine WC.mono (fC notEndT l hl (i + cnt E4 (l.drop i)) (by omega) S) ?_
   rintro _ rfl
   simp only [Dq]
   simp only [Bw,Cf,Ch,A7,Bf,Bd,Bp,A5,Bc,Ba,A0,ofOpt,Nat.reduceLT,Nat.reduceEqDiff,Aa,Ab,Ac]
   have hc2:=bC Oh (l.drop (i + cnt E4 (l.drop i)))
   rw [List.length_drop] at hc2
   have hc3:=dash_len hb
   refine WX.mono (uH l hl S n (i + cnt E4 (l.drop i) + cnt Oh (l.drop (i + cnt E4 (l.drop i)))) _ (by omega) (by omega) ?_ ?_) ?_
   ·simp only [A0,Nat.reduceEqDiff,Ab,h0]; rfl
   ·simp only [A0,Nat.reduceEqDiff,Aa]; rfl
   ·rintro r ⟨t',rfl,h⟩
    refine ⟨t',rfl,?_⟩
    rw [h,e]
    show some (Dq _)=some (Dq _)
    congr 2; omega
theorem skip_w (l:List UInt8) (hl:l.length ≤ 100000) (n i:Nat) (hn:l.length - i < n) (hi:i ≤ l.length) (S:St):WC E1 65 [Bt l,Dq i] S (fun r=>r=.ret (Dq (i + Im n (l.drop i))) S):=by
 refine Dv Tryz.f65 (by kernel_rfl) (by kernel_rfl) (by kernel_rfl) (by show (_:Nat) ≤ _;simp [Tryz.f65]) ?_
 have key:=fun t h0 h1=>uH l hl S n i t hn hi h0 h1
 unfold oD at key
 simp only [Tryz.f65] at key
 simp only [A6,Bk,Bq,Dx,Bj,Ch,A7,Bf,Bd,A5,Bc,Ba,Ce,ofOpt,Bb,Nat.reduceLT,Nat.reduceAdd,Ac,Ae,Tryz.f65]
 refine WX.mono (key _ ?_ ?_) ?_
 ·simp only [A0,A1,Nat.reduceEqDiff,Aa,Ab]
 ·simp only [A0,A1,Nat.reduceEqDiff,Aa,Ab]
 ·rintro r ⟨t',rfl,h⟩
  simp only [C9,Bi,B0,Bg,Cs,h]
def La:List (List UInt8):=[[110,111,100,101],[114,101,116,117,114,110,115],[118,97,114],[108,101,116],[116,101,108],[105,110,116],[98,111,111,108],[102,117,116,117,114,101],[119,104,101,110],[110,111,116],[97,110,100],[111,114],[120,111,114],[105,102],[116,104,101,110],[101,108,115,101],[112,114,101],[102,98,121],[109,101,114,103,101],[97,115,121,110,99],[97,119,97,105,116],[97,102,116,101,114],[116,114,117,101],[102,97,108,115,101],[109,111,100]]
def Gb:List (List UInt8):=[[60,62],[60,61],[62,61],[45,62],[40],[41],[44],[59],[58],[61],[60],[62],[43],[45],[42],[47]]
structure Tk where
 kind:Nat
 pos:Nat
 text:List UInt8
 num:Nat
def W9 (n:Nat):AV:=.v (.int .u64 (n:Int))
def El (t:Tk):List AV:=[Dq t.kind,Dq t.pos,Bt t.text,W9 t.num]
def Ga (t:Tk):AV:=.agg (El t)
def Ea:Tk:=⟨0,0,[],0⟩
def O9 (l:List UInt8) (i:Nat):Tk × Nat :=
 if l.take (cnt Es l) ∈ La then (⟨3,i,l.take (cnt Es l),0⟩,0) else if 30 < cnt Es l then (Ea,3) else (⟨1,i,l.take (cnt Es l),0⟩,0)
def aH (l:List UInt8) (i:Nat):Option (Tk × Nat) :=
 if 1 < cnt Eh l ∧ l.head? = some 48 then some (Ea,1) else if J6 0 (l.take (cnt Eh l)) < 18446744073709551616 then (if 9223372036854775808 < J6 0 (l.take (cnt Eh l)) then some (Ea,3) else some (⟨2,i,l.take (cnt Eh l),J6 0 (l.take (cnt Eh l))⟩,0)) else some (Ea,3)
def Nr (l:List UInt8) (i:Nat):Tk × Nat:=match Gb.find? (fun s=>Ey s l) with
 | some s=>(⟨4,i,s,0⟩,0)
 | none=>(Ea,1)
def Ja (l:List UInt8) (i:Nat):Option (Tk × Nat):=match l with
 | []=>none
 | b :: _=>if G0 b then some (O9 l i) else if Eh b then aH l i else some (Nr l i)
def En (S S':St):Prop:=S.next ≤ S'.next ∧ ∀ id,id < S.next → S'.mem.get id=S.mem.get id
theorem En.refl (S:St):En S S:=⟨Nat.le_refl _,fun _ _=>rfl⟩
theorem En.trans {S S1 S2:St} (h:En S S1) (k:En S1 S2):En S S2:=⟨Nat.le_trans h.1 k.1,fun id hid=>(k.2 id (Nat.lt_of_lt_of_le hid h.1)).trans (h.2 id hid)⟩
def St.put (S:St) (id:Nat) (cs:List AV):St:={ S with mem:=S.mem.set id (some (.box cs)) }
theorem Cz (S:St) (cs:List AV):En S (S.newBox cs):=⟨Nat.le_succ _,fun id hid=>by
 show (S.mem.set S.next _).get id=_
 rw [T.get_set,if_neg (by omega)]⟩
theorem Et {S S':St} (h:En S S') {id:Nat} (hid:S.next ≤ id) (cs:List AV):En S (S'.put id cs):=⟨h.1,fun k hk=>by
 show (S'.mem.set id _).get k=_
 rw [T.get_set,if_neg (by omega)]; exact h.2 k hk⟩
theorem Cv (S:St) (cs:List AV):(S.newBox cs).mem.get S.next=some (.box cs):=by
 show (S.mem.set S.next _).get S.next=_
 rw [T.get_set,if_pos rfl]
theorem Ed (S:St) (id:Nat) (cs:List AV):(S.put id cs).mem.get id=some (.box cs):=by
 show (S.mem.set id _).get id=_
 rw [T.get_set,if_pos rfl]
theorem a68:Fo Tryz.prog 68=some true:=by kernel_rfl
theorem s68:Fu Tryz.prog 68=some 4:=by kernel_rfl
theorem st68 {S:St} {id:Nat} {cs ys:List AV} (h:S.mem.get id=some (.box cs)) (hl:cs.length=4) (hy:ys.length=4):Dt Tryz.prog S 68 (.ptr id 0) (.agg ys)=some (S.put id ys):=by
 have h2:(AV.agg ys).noTup=true:=rfl
 simp [Dt,h,s68,h2,AV.cells,hl,hy,St.put,List.drop_eq_nil_of_le]
theorem Pc (S:St) (cs ys:List AV) (hl:cs.length=4) (hy:ys.length=4):Dt Tryz.prog (S.newBox cs) 68 (.ptr S.next 0) (.agg ys)=some ((S.newBox cs).put S.next ys):=st68 (Cv S cs) hl hy
theorem Kb (S:St) (id:Nat) (cs:List AV) (hl:cs.length=4):Cd Tryz.prog (S.put id cs) 68 (.ptr id 0)=some (.agg cs):=by
 have e:cs.take 4=cs:=List.take_of_length_le (by omega)
 simp [Cd,D0,Ed,a68,s68,hl,e]
theorem G9 (S:St):Js Tryz.prog S 68=some (.ptr S.next 0,S.newBox (El Ea)):=rfl
theorem kP:Gc Tryz.prog 68 []=some (.agg (El Ea)):=rfl
theorem b68_3 (a b c:AV) (k i:Int) (s:ByteArray) (ha:a=.v (.int .i64 k)) (hb:b=.v (.int .i64 i)) (hc:c=.v (.string s)):Gc Tryz.prog 68 [(0,a),(1,b),(2,c)]=some (.agg [a,b,c,W9 0]):=by
 subst ha; subst hb; subst hc; rfl
theorem b68_4 (k i u:Int) (s:ByteArray):Gc Tryz.prog 68 [(0,.v (.int .i64 k)),(1,.v (.int .i64 i)),(2,.v (.string s)),(3,.v (.int .u64 u))]=some (.agg [.v (.int .i64 k),.v (.int .i64 i),.v (.string s),.v (.int .u64 u)]):=rfl
theorem fnOk129:∃ fn,E1.F 129=some fn:=Option.isSome_iff_exists.1 (by kernel_rfl)
theorem fnOk132:∃ fn,E1.F 132=some fn:=Option.isSome_iff_exists.1 (by kernel_rfl)
theorem fnOk134:∃ fn,E1.F 134=some fn:=Option.isSome_iff_exists.1 (by kernel_rfl)
theorem fnOk100:∃ fn,E1.F 100=some fn:=Option.isSome_iff_exists.1 (by kernel_rfl)
theorem fnOk102:∃ fn,E1.F 102=some fn:=Option.isSome_iff_exists.1 (by kernel_rfl)
theorem fnOk103:∃ fn,E1.F 103=some fn:=Option.isSome_iff_exists.1 (by kernel_rfl)
theorem fnOk133:∃ fn,E1.F 133=some fn:=Option.isSome_iff_exists.1 (by kernel_rfl)
theorem fnOk65:∃ fn,E1.F 65=some fn:=Option.isSome_iff_exists.1 (by kernel_rfl)
theorem fnOk66:∃ fn,E1.F 66=some fn:=Option.isSome_iff_exists.1 (by kernel_rfl)
theorem z9:Mi Tryz.prog 9=some (.v (.string ⟨#[]⟩)):=by kernel_rfl
theorem words_w (S:St):WC E1 132 [] S (fun r=>r=.ret (.sl 1 0 1 (La.map Bt)) S):=by
 refine Dv Tryz.f132 (by kernel_rfl) (by kernel_rfl) (by kernel_rfl) (by show (_:Nat) ≤ _;simp [Tryz.f132]) ?_
 simp only [A6,Bk,Bj,Ch,A7,Bf,Bd,A5,Bc,Ba,Ce,ofOpt,Bb,Cp,Bz,Nat.reduceLT,Ac,Ae,Tryz.f132]
 have h:∀ ps,ps=(List.range 25).zip (La.map Bt) → Dw Tryz.prog 69 25 ps=some (.sl 1 0 1 (La.map Bt)):=fun ps h=>by subst h; kernel_rfl
 rw [h _ (by kernel_rfl)]
 simp only [B1,Bj,Ch,A7,Bf,Bd,A5,Bc,Ba,A0,A1,ofOpt,Bi,B0,Bg,Cs,Nat.reduceLT,Nat.reduceEqDiff,Aa,Ab,Ad]
theorem signs_w (S:St):WC E1 134 [] S (fun r=>r=.ret (.sl 1 0 1 (Gb.map Bt)) S):=by
 refine Dv Tryz.f134 (by kernel_rfl) (by kernel_rfl) (by kernel_rfl) (by show (_:Nat) ≤ _;simp [Tryz.f134]) ?_
 simp only [A6,Bk,Bj,Ch,A7,Bf,Bd,A5,Bc,Ba,Ce,ofOpt,Bb,Cp,Bz,Nat.reduceLT,Ac,Ae,Tryz.f134]
 have h:∀ ps,ps=(List.range 16).zip (Gb.map Bt) → Dw Tryz.prog 69 16 ps=some (.sl 1 0 1 (Gb.map Bt)):=fun ps h=>by subst h; kernel_rfl
 rw [h _ (by kernel_rfl)]
 simp only [B1,Bj,Ch,A7,Bf,Bd,A5,Bc,Ba,A0,A1,ofOpt,Bi,B0,Bg,Cs,Nat.reduceLT,Nat.reduceEqDiff,Aa,Ab,Ad]
theorem nN (p:UInt8 → Bool):∀ l:List UInt8,(l.take (cnt p l)).all p=true
 | []=>rfl
 | b :: r=>by
  unfold cnt
  split
  ·rename_i h; rw [List.take_succ_cons,List.all_cons,h,nN p r]; rfl
  ·rfl
theorem parse_w (s:List UInt8) (hn:s ≠ []) (hd:s.all Eh=true) (h:J6 0 s < 18446744073709551616) (hl:s.length ≤ 100000) (S:St):WC E1 133 [Bt s,.v (.int .i64 10),.v (.int .i64 64)] S (fun r=>r=.ret (.tup [W9 (J6 0 s),.v .nilIface]) S):=by
 refine Ln (g:=He puI) (by kernel_rfl) ?_
 have hs:(⟨⟨s⟩⟩:ByteArray).size=s.length:=rfl
 have hc:s ≠ [] ∧ s.all Zn=true ∧ J6 0 s < 18446744073709551616 ∧ (⟨⟨s⟩⟩:ByteArray).size ≤ 9223372036854775806:=⟨hn,hd,h,by rw [hs]; omega⟩
 have e:puI [Bt s,.v (.int .i64 10),.v (.int .i64 64)]=some (.tup [W9 (J6 0 s),.v .nilIface]):=by
  show (if s ≠ [] ∧ s.all Zn=true ∧ J6 0 s < 18446744073709551616 ∧ (⟨⟨s⟩⟩:ByteArray).size ≤ 9223372036854775806 then _ else _)=_
  rw [if_pos hc]; rfl
 simp only [He,e]
theorem range_w (s:List UInt8) (hn:s ≠ []) (hd:s.all Eh=true) (h:¬ J6 0 s < 18446744073709551616) (hl:s.length ≤ 100000) (S:St):WC E1 133 [Bt s,.v (.int .i64 10),.v (.int .i64 64)] S (fun r=>r=.ret (.tup [W9 18446744073709551615,.iface 251 (.ep [])]) S):=by
 refine Ln (g:=He puI) (by kernel_rfl) ?_
 have hs:(⟨⟨s⟩⟩:ByteArray).size=s.length:=rfl
 have hc:¬ (s ≠ [] ∧ s.all Zn=true ∧ J6 0 s < 18446744073709551616 ∧ (⟨⟨s⟩⟩:ByteArray).size ≤ 9223372036854775806):=fun hh=>h hh.2.2.1
 have hc2:s ≠ [] ∧ s.all Zn=true ∧ 18446744073709551616 ≤ J6 0 s ∧ (⟨⟨s⟩⟩:ByteArray).size ≤ 281474976710656:=⟨hn,hd,by omega,by rw [hs]; omega⟩
 have e:puI [Bt s,.v (.int .i64 10),.v (.int .i64 64)]=some (.tup [W9 18446744073709551615,.iface 251 (.ep [])]):=by
  show (if s ≠ [] ∧ s.all Zn=true ∧ J6 0 s < 18446744073709551616 ∧ (⟨⟨s⟩⟩:ByteArray).size ≤ 9223372036854775806 then _ else if s ≠ [] ∧ s.all Zn=true ∧ 18446744073709551616 ≤ J6 0 s ∧ (⟨⟨s⟩⟩:ByteArray).size ≤ 281474976710656 then _ else _)=_
  rw [if_neg hc,if_pos hc2]; rfl
 simp only [He,e]
def TokRet (S:St) (p:Tk × Nat) (r:R):Prop:=∃ S',r=.ret (.tup [Ga p.1,Dq p.2]) S' ∧ En S S'
theorem word_w (l:List UInt8) (hl:l.length ≤ 100000) (i:Nat) (hi:i ≤ l.length) (S:St):WC E1 100 [Bt l,Dq i] S (TokRet S (O9 (l.drop i) i)):=by
 refine Dv Tryz.f100 (by kernel_rfl) (by kernel_rfl) (by kernel_rfl) (by show (_:Nat) ≤ _;simp [Tryz.f100]) ?_
 obtain ⟨fn1,hf1⟩:=fnOk96
 obtain ⟨fn2,hf2⟩:=fnOk129
 obtain ⟨fn3,hf3⟩:=fnOk132
 have hc:=bC Es (l.drop i)
 rw [List.length_drop] at hc
 have hs:=oB l i (i + cnt Es (l.drop i)) (by omega) (by omega)
 rw [Nat.add_sub_cancel_left] at hs
 have hL:=fun S=>dC S ((l.drop i).take (cnt Es (l.drop i)))
 have hlen:((l.drop i).take (cnt Es (l.drop i))).length=cnt Es (l.drop i):=by rw [List.length_take,List.length_drop]; omega
 rw [hlen] at hL
 simp only [Bt,Dq]
 simp only [A6,Bk,Bj,Ch,A7,Bf,Bh,Bd,A5,Bc,Ba,Ce,A0,A1,Bm,B5,ofOpt,ofOptS,Bb,Cp,Nat.reduceLT,Nat.reduceAdd,Nat.reduceEqDiff,Aa,Ab,Ac,Ae,Aj,Ak,Tryz.f100,G9,hf1]
 refine WC.mono (fC wordBT l hl i hi _) ?_
 rintro _ rfl
 simp only [Dq]
 simp only [A6,Bk,Bq,Bj,Ch,A7,Bf,Bh,Bd,Bp,A5,Bc,Ba,A0,A1,Bm,B5,ofOpt,Cp,Fj,Nat.reduceLT,Nat.reduceEqDiff,Aa,Ab,Ac,Ak,Option.toList,Ay,hf3,hs]
 refine WC.mono (words_w _) ?_
 rintro _ rfl
 simp only [A7,Bf,Bh,Bd,Bp,A5,Bc,Ba,A0,A1,Bm,B5,ofOpt,Nat.reduceLT,Nat.reduceEqDiff,Aa,Ab,Ac,Aj,Ak,hf2]
 refine WC.mono (bB 1 0 La ((l.drop i).take (cnt Es (l.drop i))) (by decide) _) ?_
 rintro _ rfl
 have hst:∀ ys:List AV,ys.length=4 → Dt Tryz.prog (S.newBox (El Ea)) 68 (.ptr S.next 0) (.agg ys)=some ((S.newBox (El Ea)).put S.next ys):=fun ys hy=>Pc S _ ys rfl hy
 have keep:∀ ys,En S ((S.newBox (El Ea)).put S.next ys):=fun ys=>Et (Cz S _) (Nat.le_refl _) ys
 by_cases hm:(l.drop i).take (cnt Es (l.drop i)) ∈ La
 ·have e:O9 (l.drop i) i=(⟨3,i,(l.drop i).take (cnt Es (l.drop i)),0⟩,0):=by unfold O9; rw [if_pos hm]
  rw [decide_eq_true hm]
  have hb:=b68_3 _ _ _ 3 i ⟨⟨(l.drop i).take (cnt Es (l.drop i))⟩⟩ rfl rfl rfl
  have h1:=hst [.v (.int .i64 3),.v (.int .i64 i),.v (.string ⟨⟨(l.drop i).take (cnt Es (l.drop i))⟩⟩),W9 0] rfl
  have h2:=Kb (S.newBox (El Ea)) S.next [.v (.int .i64 3),.v (.int .i64 i),.v (.string ⟨⟨(l.drop i).take (cnt Es (l.drop i))⟩⟩),W9 0] rfl
  simp only [A6,Bk,Bl,B1,Bj,Dd,C9,Ch,A7,Bf,Br,Bu,Bd,Bp,De,A5,Bc,Ba,A0,A1,Bm,ofOpt,Bb,Cp,Bz,Bi,B0,Bg,Cs,Nat.reduceLT,Nat.reduceEqDiff,Aa,Ab,Ac,hb,h1,h2]
  rw [e]
  exact ⟨_,rfl,keep _⟩
 ·rw [decide_eq_false hm]
  by_cases h30:30 < cnt Es (l.drop i)
  ·have e:O9 (l.drop i) i=(Ea,3):=by unfold O9; rw [if_neg hm,if_pos h30]
   have hg:((cnt Es (l.drop i):Nat):Int) > 30:=by omega
   have h1:=hst (El Ea) rfl
   have h2:=Kb (S.newBox (El Ea)) S.next (El Ea) rfl
   simp only [Bo,A6,Bk,Bl,B1,Bj,Dd,Cf,C9,Ch,A7,Bf,Br,Bu,Bd,Bp,De,C8,A5,Bc,Ba,A0,A1,Bm,ofOpt,Bb,Cp,Bz,Bs,Bi,B0,Bg,Cs,D8,Nat.reduceLT,Nat.reduceEqDiff,Aa,Ab,Ac,Am,Ap,hL,hg,kP,h1,h2]
   rw [e]
   exact ⟨_,rfl,keep _⟩
  ·have e:O9 (l.drop i) i=(⟨1,i,(l.drop i).take (cnt Es (l.drop i)),0⟩,0):=by unfold O9; rw [if_neg hm,if_neg h30]
   have hg:¬ ((cnt Es (l.drop i):Nat):Int) > 30:=by omega
   have hb:=b68_3 _ _ _ 1 i ⟨⟨(l.drop i).take (cnt Es (l.drop i))⟩⟩ rfl rfl rfl
   have h1:=hst [.v (.int .i64 1),.v (.int .i64 i),.v (.string ⟨⟨(l.drop i).take (cnt Es (l.drop i))⟩⟩),W9 0] rfl
   have h2:=Kb (S.newBox (El Ea)) S.next [.v (.int .i64 1),.v (.int .i64 i),.v (.string ⟨⟨(l.drop i).take (cnt Es (l.drop i))⟩⟩),W9 0] rfl
   simp only [Bo,A6,Bk,Bl,B1,Bj,Cf,Ch,A7,Bf,Br,Bu,Bd,Bp,C8,A5,Bc,Ba,A0,A1,Bm,ofOpt,Bb,Cp,Bz,Bs,Bi,B0,Bg,Cs,D8,Nat.reduceLT,Nat.reduceEqDiff,Aa,Ab,Ac,Am,Aq,hL,hg,hb,h1,h2]
   rw [e]
   exact ⟨_,rfl,keep _⟩
theorem Tj (a b:AV):H9 Tryz.prog 66 a b=false:=by
 have h:Tryz.prog.underlying 66=some (.int .u64):=rfl
 unfold H9; rw [h]
theorem vL:H9 Tryz.prog 110 (.iface 251 (.ep [])) (.v .nilIface)=true:=by kernel_rfl
theorem cY:H9 Tryz.prog 110 (.v .nilIface) (.v .nilIface)=false:=by kernel_rfl
def nilO (r:OR) (S:St) (x:Option AV):OR:=match x with
 | some (.v .nilIface)=>.val (.v (.bool false)) S
 | _=>r
def kF (P:Program) (G:Gl) (f:T AV) (S:St) (o:Oper) (op:BinOp) (t:TypeId) (a b:AV):OR:=Mb P G f S o op t a b
theorem mO (f:T AV) (S:St) (k:Nat) (dst:Option Tmp) (ty:TypeId) (pos:String) (af:Array Edge) (gd:Option (Nat × Bool)) :
  Mb Tryz.prog gR f S { dst:=dst,op:=.binOp .neq 110 (.tmp k) (.const .nilIface) 110,type:=ty,pos:=pos,after:=af,guard:=gd } .neq 110 (.v .nilIface) (.v .nilIface) =
  nilO (kF Tryz.prog gR f S { dst:=dst,op:=.binOp .neq 110 (.tmp k) (.const .nilIface) 110,type:=ty,pos:=pos,after:=af,guard:=gd } .neq 110 (.v .nilIface) (.v .nilIface)) S (f.get k):=by
 unfold nilO
 split
 ·rename_i hf
  have h0:Kv Tryz.prog .neq 110 (.v .nilIface) (.v .nilIface)=none:=by kernel_rfl
  unfold Mb
  rw [h0]
  have hg:Dp gR f (.tmp k)=some .nilIface:=by unfold Dp; simp only [Ba,hf]; rfl
  have hc:Dp gR f (.const .nilIface)=some .nilIface:=rfl
  unfold ground
  simp only [Op.operands,List.all_cons,List.all_nil,hg,hc,Option.isSome_some,Bool.and_self,Aa]
  have e:execOp (fun x=>(Dp gR f x).getD undef) { dst:=dst,op:=.binOp .neq 110 (.tmp k) (.const .nilIface) 110,type:=ty,pos:=pos,after:=af,guard:=gd }=execOp (fun _=>.nilIface) { dst:=none,op:=.binOp .neq 110 (.tmp 29) (.const .nilIface) 110,type:=4,pos := "", after:=#[],guard:=none }:=by
   simp only [execOp,hg,hc,Ae]
   rfl
  rw [e]
  have e3:(Rr Tryz.prog 4000 (execOp (fun _=>Value.nilIface) { dst:=none,op:=.binOp .neq 110 (.tmp 29) (.const .nilIface) 110,type:=4,pos := "", after:=#[],guard:=none }))=some (.bool false):=by kernel_rfl
  rw [e3]; rfl
 ·rfl
theorem cV (r:OR) (S:St):nilO r S (some (.v .nilIface))=.val (.v (.bool false)) S:=rfl
theorem fbNil:Ej .neq (.v .nilIface) (.v .nilIface)=none:=rfl
theorem head_drop (l:List UInt8) (i:Nat) (h:i < l.length):(l.drop i).head? = some l[i]:=by rw [List.drop_eq_getElem_cons h]; rfl
theorem number_w (l:List UInt8) (hl:l.length ≤ 100000) (i:Nat) (hi:i < l.length) (hd:Eh l[i]=true) (S:St) (p:Tk × Nat) (hp:aH (l.drop i) i=some p):WC E1 102 [Bt l,Dq i] S (TokRet S p):=by
 refine Dv Tryz.f102 (by kernel_rfl) (by kernel_rfl) (by kernel_rfl) (by show (_:Nat) ≤ _;simp [Tryz.f102]) ?_
 obtain ⟨fn1,hf1⟩:=fnOk96
 obtain ⟨fn2,hf2⟩:=fnOk133
 have hc:=bC Eh (l.drop i)
 rw [List.length_drop] at hc
 have hc1:1 ≤ cnt Eh (l.drop i):=by rw [List.drop_eq_getElem_cons hi,cnt,if_pos hd]; omega
 have hs:=oB l i (i + cnt Eh (l.drop i)) (by omega) (by omega)
 rw [Nat.add_sub_cancel_left] at hs
 have hL:=fun S=>dC S ((l.drop i).take (cnt Eh (l.drop i)))
 have hlen:((l.drop i).take (cnt Eh (l.drop i))).length=cnt Eh (l.drop i):=by rw [List.length_take,List.length_drop]; omega
 rw [hlen] at hL
 have h00:((l.drop i).take (cnt Eh (l.drop i)))[0]'(by omega)=l[i]:=by simp
 have hx:=idx9 ((l.drop i).take (cnt Eh (l.drop i))) 0 (by omega)
 rw [h00] at hx
 simp only [Int.ofNat_eq_natCast,Int.cast_ofNat_Int] at hx
 have hst:∀ ys:List AV,ys.length=4 → Dt Tryz.prog (S.newBox (El Ea)) 68 (.ptr S.next 0) (.agg ys)=some ((S.newBox (El Ea)).put S.next ys):=fun ys hy=>Pc S _ ys rfl hy
 have keep:∀ ys,En S ((S.newBox (El Ea)).put S.next ys):=fun ys=>Et (Cz S _) (Nat.le_refl _) ys
 have z1:=hst (El Ea) rfl
 have z2:=Kb (S.newBox (El Ea)) S.next (El Ea) rfl
 simp only [Bt,Dq]
 simp only [A6,Bk,Bj,Ch,A7,Bf,Bh,Bd,A5,Bc,Ba,Ce,A0,A1,Bm,B5,ofOpt,ofOptS,Bb,Cp,Nat.reduceLT,Nat.reduceAdd,Nat.reduceEqDiff,Aa,Ab,Ac,Ae,Aj,Ak,Tryz.f102,G9,hf1]
 refine WC.mono (fC digitT l hl i (by omega) _) ?_
 rintro _ rfl
 simp only [Dq]
 have h48:(((l[i].toNat:Nat):Int) == 48)=decide (l[i]=48):=by
  rw [Bool.eq_iff_iff]; simp only [beq_iff_eq,decide_eq_true_iff]
  constructor
  ·intro h; exact UInt8.toNat_inj.1 (by show l[i].toNat=48; omega)
  ·intro h; rw [h]; rfl
 unfold aH at hp
 rw [head_drop l i hi] at hp
 by_cases hz:1 < cnt Eh (l.drop i) ∧ l[i]=48
 ·rw [if_pos ⟨hz.1,by rw [hz.2]⟩] at hp
  injection hp with hp; subst hp
  have hg:((cnt Eh (l.drop i):Nat):Int) > 1:=by omega
  rw [decide_eq_true hz.2] at h48
  simp only [Bo,A6,Bk,Bl,B1,Bj,Dd,Ch,A7,Bf,Br,Bh,Bu,Bd,Bp,De,A5,Bc,Ba,A0,A1,Bm,B5,ofOpt,Bb,Cp,Fj,Bz,Bs,Bi,B0,Bg,Cs,D8,B9,Nat.reduceLT,Nat.reduceEqDiff,Aa,Ab,Ac,Af,Ag,Ah,Ai,Aj,Ak,Al,Am,Ap,Option.toList,Ay,hf2,hs,hL,hg,hx,N7,Nv,h48,kP,z1,z2]
  exact ⟨_,rfl,keep _⟩
 ·rw [if_neg (fun h=>hz ⟨h.1,by have:=h.2; injection this⟩)] at hp
  split at hp
  case isFalse =>
   rename_i hv
   injection hp with hp; subst hp
   have hpw:=fun S=>range_w ((l.drop i).take (cnt Eh (l.drop i))) (by intro e; rw [e] at hlen; simp at hlen; omega) (nN _ _) hv (by omega) S
   unfold Bt W9 at hpw
   by_cases hg:((cnt Eh (l.drop i):Nat):Int) > 1
   ·have h1:¬ l[i]=48:=fun e=>hz ⟨by omega,e⟩
    rw [decide_eq_false h1] at h48
    simp only [Bo,A6,Bk,Bl,Bj,Ch,A7,Bf,Bh,Bd,Bp,C8,A5,Bc,Ba,A0,A1,Bm,B5,ofOpt,Bb,Cp,Fj,Bz,Bs,D8,B9,Nat.reduceLT,Nat.reduceEqDiff,Aa,Ab,Ac,Af,Ag,Ah,Ai,Aj,Ak,Al,Am,Ap,Option.toList,Ay,hf2,hs,hL,hg,hx,N7,Nv,h48]
    refine WC.mono (hpw _) ?_
    rintro _ rfl
    simp only [Bo,A6,Bk,Bl,B1,Bj,Dd,Ch,A7,C0,Bf,Br,Bu,Bd,Bp,De,A5,Bc,Ba,A0,A1,ofOpt,Bb,Cp,Fj,Bz,Bi,B0,Bg,Cs,Nat.reduceLT,Nat.reduceEqDiff,Aa,Ab,Ac,Af,Ag,Ah,Ai,Am,Aw,Tj,vL,Cw,kP,z1,z2]
    exact ⟨_,rfl,keep _⟩
   ·simp only [Bo,A6,Bk,Bl,Bj,Ch,A7,C0,Bf,Bh,Bd,Bp,C8,A5,Bc,Ba,A0,A1,Bm,B5,ofOpt,Bb,Cp,Fj,Bz,Bs,D8,Nat.reduceLT,Nat.reduceEqDiff,Aa,Ab,Ac,Af,Ag,Ah,Ai,Aj,Ak,Am,Aq,Ar,Av,Option.toList,Ay,hf2,hs,hL,hg]
    refine WC.mono (hpw _) ?_
    rintro _ rfl
    simp only [Bo,A6,Bk,Bl,B1,Bj,Dd,Ch,A7,C0,Bf,Br,Bu,Bd,Bp,De,A5,Bc,Ba,A0,A1,ofOpt,Bb,Cp,Fj,Bz,Bi,B0,Bg,Cs,Nat.reduceLT,Nat.reduceEqDiff,Aa,Ab,Ac,Af,Ag,Ah,Ai,Am,Aw,Tj,vL,Cw,kP,z1,z2]
    exact ⟨_,rfl,keep _⟩
  rename_i hv
  have hpw:=fun S=>parse_w ((l.drop i).take (cnt Eh (l.drop i))) (by intro e; rw [e] at hlen; simp at hlen; omega) (nN _ _) hv (by omega) S
  unfold Bt W9 at hpw
  by_cases hg:((cnt Eh (l.drop i):Nat):Int) > 1
  ·have h1:¬ l[i]=48:=fun e=>hz ⟨by omega,e⟩
   rw [decide_eq_false h1] at h48
   simp only [Bo,A6,Bk,Bl,Bj,Ch,A7,Bf,Bh,Bd,Bp,C8,A5,Bc,Ba,A0,A1,Bm,B5,ofOpt,Bb,Cp,Fj,Bz,Bs,D8,B9,Nat.reduceLT,Nat.reduceEqDiff,Aa,Ab,Ac,Af,Ag,Ah,Ai,Aj,Ak,Al,Am,Ap,Option.toList,Ay,hf2,hs,hL,hg,hx,N7,Nv,h48]
   refine WC.mono (hpw _) ?_
   rintro _ rfl
   by_cases hb:((J6 0 ((l.drop i).take (cnt Eh (l.drop i))):Nat):Int) > 9223372036854775808
   ·rw [if_pos (show 9223372036854775808 < J6 0 ((l.drop i).take (cnt Eh (l.drop i))) by omega)] at hp
    injection hp with hp; subst hp
    simp only [Bo,A6,Bk,Bl,B1,Bj,Dd,Ch,A7,Bf,Br,Bu,Bd,Bp,De,A5,Bc,Ba,A0,A1,ofOpt,Bb,Cp,Fj,Bz,Bi,B0,Bg,Cs,D8,Nat.reduceLT,Nat.reduceEqDiff,Aa,Ab,Ac,Af,Ag,Ah,Ai,Al,Am,Ap,Tj,mO,cV,Cw,cY,fbNil,hb,kP,z1,z2]
    exact ⟨_,rfl,keep _⟩
   ·rw [if_neg (show ¬ 9223372036854775808 < J6 0 ((l.drop i).take (cnt Eh (l.drop i))) by omega)] at hp
    injection hp with hp; subst hp
    have q1:=hst [.v (.int .i64 2),.v (.int .i64 i),.v (.string ⟨⟨(l.drop i).take (cnt Eh (l.drop i))⟩⟩),.v (.int .u64 (J6 0 ((l.drop i).take (cnt Eh (l.drop i))):Nat))] rfl
    have q2:=Kb (S.newBox (El Ea)) S.next [.v (.int .i64 2),.v (.int .i64 i),.v (.string ⟨⟨(l.drop i).take (cnt Eh (l.drop i))⟩⟩),.v (.int .u64 (J6 0 ((l.drop i).take (cnt Eh (l.drop i))):Nat))] rfl
    simp only [Bo,A6,Bk,Bl,B1,Bj,Ch,A7,Bf,Br,Bu,Bd,Bp,C8,A5,Bc,Ba,A0,A1,ofOpt,Bb,Cp,Fj,Bz,Bi,B0,Bg,Cs,D8,Nat.reduceLT,Nat.reduceEqDiff,Aa,Ab,Ac,Af,Ag,Ah,Ai,Al,Am,Aq,Tj,mO,cV,Cw,cY,fbNil,hb,b68_4,q1,q2]
    exact ⟨_,rfl,keep _⟩
  ·simp only [Bo,A6,Bk,Bl,Bj,Ch,A7,C0,Bf,Bh,Bd,Bp,C8,A5,Bc,Ba,A0,A1,Bm,B5,ofOpt,Bb,Cp,Fj,Bz,Bs,D8,Nat.reduceLT,Nat.reduceEqDiff,Aa,Ab,Ac,Af,Ag,Ah,Ai,Aj,Ak,Am,Aq,Ar,Av,Option.toList,Ay,hf2,hs,hL,hg]
   refine WC.mono (hpw _) ?_
   rintro _ rfl
   by_cases hb:((J6 0 ((l.drop i).take (cnt Eh (l.drop i))):Nat):Int) > 9223372036854775808
   ·rw [if_pos (show 9223372036854775808 < J6 0 ((l.drop i).take (cnt Eh (l.drop i))) by omega)] at hp
    injection hp with hp; subst hp
    simp only [Bo,A6,Bk,Bl,B1,Bj,Dd,Ch,A7,Bf,Br,Bu,Bd,Bp,De,A5,Bc,Ba,A0,A1,ofOpt,Bb,Cp,Fj,Bz,Bi,B0,Bg,Cs,D8,Nat.reduceLT,Nat.reduceEqDiff,Aa,Ab,Ac,Af,Ag,Ah,Ai,Al,Am,Ap,Tj,mO,cV,Cw,cY,fbNil,hb,kP,z1,z2]
    exact ⟨_,rfl,keep _⟩
   ·rw [if_neg (show ¬ 9223372036854775808 < J6 0 ((l.drop i).take (cnt Eh (l.drop i))) by omega)] at hp
    injection hp with hp; subst hp
    have q1:=hst [.v (.int .i64 2),.v (.int .i64 i),.v (.string ⟨⟨(l.drop i).take (cnt Eh (l.drop i))⟩⟩),.v (.int .u64 (J6 0 ((l.drop i).take (cnt Eh (l.drop i))):Nat))] rfl
    have q2:=Kb (S.newBox (El Ea)) S.next [.v (.int .i64 2),.v (.int .i64 i),.v (.string ⟨⟨(l.drop i).take (cnt Eh (l.drop i))⟩⟩),.v (.int .u64 (J6 0 ((l.drop i).take (cnt Eh (l.drop i))):Nat))] rfl
    simp only [Bo,A6,Bk,Bl,B1,Bj,Ch,A7,Bf,Br,Bu,Bd,Bp,C8,A5,Bc,Ba,A0,A1,ofOpt,Bb,Cp,Fj,Bz,Bi,B0,Bg,Cs,D8,Nat.reduceLT,Nat.reduceEqDiff,Aa,Ab,Ac,Af,Ag,Ah,Ai,Al,Am,Aq,Tj,mO,cV,Cw,cY,fbNil,hb,b68_4,q1,q2]
    exact ⟨_,rfl,keep _⟩
def bU:Code:=match Tryz.f103.body with
 | some (.seq _ (.seq (.seq _ (.block _ (.loop c))) _))=>c
 | _=>.skip
theorem uI (l:List UInt8) (i:Nat) (hi:i ≤ l.length) (S:St) (b:Nat) (hS:S.mem.get b=some (.box (El Ea))):∀ (m j:Nat) (t:T AV),j + m=Gb.length → t.get 0=some (Bt l) → t.get 1=some (Dq i) → t.get 4=some (.ptr b 0) → t.get 8=some (.sl 1 0 1 (Gb.map Bt)) → t.get 9=some (Dq Gb.length) → t.get 10=some (Dq j) →
  WX E1 24 (.loop bU) ⟨t,[]⟩ S (fun r=>∃ t',t'.get 4=some (.ptr b 0) ∧ ((r=.out (.exit 0) ⟨t',[]⟩ S ∧ (Gb.drop j).find? (fun s=>Ey s (l.drop i))=none) ∨ (∃ s,r=.out .ret ⟨t',[]⟩ (S.put b (El ⟨4,i,s,0⟩)) ∧ t'.get 5=some (Dq 0) ∧ (Gb.drop j).find? (fun s=>Ey s (l.drop i))=some s)))
 | 0,j,t,hj,h0,h1,h4,h8,h9,h10=>by
  refine Do (Dh ?_)
  have hlt:¬ ((j:Int) < (Gb.length:Int)):=by omega
  have hd:Gb.drop j=[]:=List.drop_eq_nil_of_le (by omega)
  simp only [Bt,Dq] at h0 h1 h8 h9 h10 ⊢
  simp only [Bv,Bo,A6,Bk,Bl,Bq,C1,Bj,C7,Ch,A7,Bf,Bd,C8,A5,Bc,Ba,A0,ofOpt,Cp,Bs,Cu,Nat.reduceLT,Nat.reduceEqDiff,Aa,Ab,Ac,Am,Aq,bU,Tryz.f103,h8,h9,h10,hlt]
  refine ⟨_,?_,.inl ⟨rfl,by rw [hd]; rfl⟩⟩
  simp only [A0,Nat.reduceEqDiff,Ab,h4]
 | m + 1,j,t,hj,h0,h1,h4,h8,h9,h10=>by
  refine Do (Dh ?_)
  have hjl:j < Gb.length:=by omega
  have hlt:((j:Int) < (Gb.length:Int)):=by omega
  have hd:Gb.drop j=Gb[j] :: Gb.drop (j + 1):=List.drop_eq_getElem_cons hjl
  have hx:=idx69 1 0 Gb j hjl
  have h16:Gb.length=16:=rfl
  have hw:=K8 (i:=j) (by omega)
  have hs:=sl9_from l i hi
  obtain ⟨fn1,hf1⟩:=fnOk85
  simp only [Bt,Dq] at h0 h1 h8 h9 h10 hx ⊢
  simp only [Bv,Bo,A6,Bk,Bl,Bq,C1,Bj,C7,Ch,A7,Bf,Bh,Bd,De,A5,Bc,Ba,A0,Bm,B5,ofOpt,Cp,Fj,Bs,Cu,Nat.reduceLT,Nat.reduceEqDiff,Aa,Ab,Ac,Aj,Ak,Am,Ap,Option.toList,Ay,Az,bU,Tryz.f103,h0,h1,h8,h9,h10,hlt,hx,load9,hf1,hs]
  refine WC.mono (pre_w (l.drop i) Gb[j] S) ?_
  rintro _ rfl
  cases hb:Ey Gb[j] (l.drop i)
  ·simp only [Bw,Bo,A6,Bk,Bl,Bj,Cf,Ch,A7,Bf,Bd,Bp,C8,A5,Bc,Ba,A0,ofOpt,Bb,Cp,Bz,Bs,Dg,Nat.reduceLT,Nat.reduceEqDiff,Aa,Ab,Ac,Am,h1,h10,hw]
   refine WX.mono (uI l i hi S b hS m (j + 1) _ (by omega) ?_ ?_ ?_ ?_ ?_ ?_) ?_
   ·simp only [A0,Nat.reduceEqDiff,Ab,h0]; rfl
   ·simp only [A0,Nat.reduceEqDiff,Ab,h1]; rfl
   ·simp only [A0,Nat.reduceEqDiff,Ab,h4]
   ·simp only [A0,Nat.reduceEqDiff,Ab,h8]
   ·simp only [A0,Nat.reduceEqDiff,Ab,h9]; rfl
   ·simp only [A0,Nat.reduceEqDiff,Aa]; rfl
   ·rintro r ⟨t',h4',⟨rfl,h⟩ | ⟨s,rfl,h5,h⟩⟩
    ·exact ⟨t',h4',.inl ⟨rfl,by rw [hd,List.find?_cons,hb]; exact h⟩⟩
    ·exact ⟨t',h4',.inr ⟨s,rfl,h5,by rw [hd,List.find?_cons,hb]; exact h⟩⟩
  ·have hbl:=b68_3 _ _ _ 4 i ⟨⟨Gb[j]⟩⟩ rfl rfl rfl
   have h1s:=st68 hS rfl (show ([.v (.int .i64 4),.v (.int .i64 i),.v (.string ⟨⟨Gb[j]⟩⟩),W9 0]:List AV).length=4 from rfl)
   simp only [Bw,Dk,Bo,A6,Bk,Bl,B1,Bj,Dd,Cf,C9,Ch,A7,Bf,Br,Bu,Bd,Bp,De,A5,Bc,Ba,A0,ofOpt,Bb,Cp,Bz,Bs,Dg,Nat.reduceLT,Nat.reduceEqDiff,Aa,Ab,Ac,Am,h1,h4,h10,hbl,h1s]
   refine ⟨_,?_,.inr ⟨Gb[j],rfl,?_,by rw [hd,List.find?_cons,hb]⟩⟩
   ·simp only [A0,Nat.reduceEqDiff,Ab,h4]
   ·simp only [A0,Nat.reduceEqDiff,Aa]; rfl
theorem sign_w (l:List UInt8) (i:Nat) (hi:i ≤ l.length) (S:St):WC E1 103 [Bt l,Dq i] S (TokRet S (Nr (l.drop i) i)):=by
 refine Dv Tryz.f103 (by kernel_rfl) (by kernel_rfl) (by kernel_rfl) (by show (_:Nat) ≤ _;simp [Tryz.f103]) ?_
 obtain ⟨fn1,hf1⟩:=fnOk134
 have key:=fun t h0 h1 h4 h8 h9 h10=>uI l i hi (S.newBox (El Ea)) S.next (Cv S _) Gb.length 0 t (by omega) h0 h1 h4 h8 h9 h10
 unfold bU at key
 simp only [Tryz.f103] at key
 have keep:∀ ys,En S ((S.newBox (El Ea)).put S.next ys):=fun ys=>Et (Cz S _) (Nat.le_refl _) ys
 have hL:=fun S=>len69 S 1 0 (Gb.map Bt)
 rw [List.length_map] at hL
 simp only [A6,Bk,Bj,Ch,A7,Bf,Bh,Bd,A5,Bc,Ba,Ce,Bm,B5,ofOpt,ofOptS,Bb,Cp,Nat.reduceLT,Nat.reduceAdd,Ac,Ae,Ak,Tryz.f103,G9,hf1]
 refine WC.mono (signs_w _) ?_
 rintro _ rfl
 simp only [Bq,Dx,Bj,Ch,A7,Bf,Bd,Bp,A5,Bc,Ba,A0,A1,Bm,ofOpt,Bb,Cp,Nat.reduceLT,Nat.reduceEqDiff,Aa,Ab,Ac,hL]
 refine WX.mono (key _ ?_ ?_ ?_ ?_ ?_ ?_) ?_
 ·simp only [A0,A1,Nat.reduceEqDiff,Aa,Ab]
 ·simp only [A0,A1,Nat.reduceEqDiff,Aa,Ab]
 ·simp only [A0,A1,Nat.reduceEqDiff,Aa,Ab]
 ·simp only [A0,A1,Nat.reduceEqDiff,Aa,Ab]
 ·simp only [A0,A1,Nat.reduceEqDiff,Aa,Ab]; rfl
 ·simp only [A0,A1,Nat.reduceEqDiff,Aa,Ab]; rfl
 ·rintro r ⟨t',h4,⟨rfl,h⟩ | ⟨s,rfl,h5,h⟩⟩
  ·have e:Nr (l.drop i) i=(Ea,1):=by unfold Nr; rw [List.drop_zero] at h; rw [h]
   have q1:=Pc S (El Ea) (El Ea) rfl rfl
   have q2:=Kb (S.newBox (El Ea)) S.next (El Ea) rfl
   simp only [A6,Bk,B1,Bj,C7,C5,Ch,A7,Bf,Br,Bu,Bd,A5,Bc,Ba,A0,ofOpt,Bb,Cp,Bz,Bi,B0,Bg,Cs,Nat.reduceLT,Nat.reduceEqDiff,Aa,Ab,Ac,h4,kP,q1,q2]
   rw [e]
   exact ⟨_,rfl,keep _⟩
  ·have e:Nr (l.drop i) i=(⟨4,i,s,0⟩,0):=by unfold Nr; rw [List.drop_zero] at h; rw [h]
   have q2:=Kb (S.newBox (El Ea)) S.next (El ⟨4,i,s,0⟩) rfl
   simp only [Dd,C9,Cp,Bi,B0,Bg,Cs,h4,h5,q2]
   rw [e]
   exact ⟨_,rfl,keep _⟩
theorem next_w (l:List UInt8) (hl:l.length ≤ 100000) (i:Nat) (hi:i < l.length) (S:St) (p:Tk × Nat) (hp:Ja (l.drop i) i=some p):WC E1 66 [Bt l,Dq i] S (TokRet S p):=by
 refine Dv Tryz.f66 (by kernel_rfl) (by kernel_rfl) (by kernel_rfl) (by show (_:Nat) ≤ _;simp [Tryz.f66]) ?_
 obtain ⟨fn1,hf1⟩:=fnOk99
 obtain ⟨fn2,hf2⟩:=fnOk100
 obtain ⟨fn3,hf3⟩:=fnOk101
 obtain ⟨fn4,hf4⟩:=fnOk102
 obtain ⟨fn5,hf5⟩:=fnOk103
 have hx:=idx9 l i hi
 rw [List.drop_eq_getElem_cons hi] at hp
 simp only [Ja] at hp
 rw [← List.drop_eq_getElem_cons hi] at hp
 simp only [Bt,Dq]
 simp only [A6,Bk,Bq,Bj,Ch,A7,Bf,Bh,Bd,A5,Bc,Ba,Ce,A0,A1,Bm,B5,ofOpt,ofOptS,Bb,Cp,Nat.reduceLT,Nat.reduceAdd,Nat.reduceEqDiff,Aa,Ab,Ac,Ae,Aj,Ak,Tryz.f66,G9,hf1,hx]
 refine WC.mono (letter_w l[i] _) ?_
 rintro _ rfl
 have fin:∀ S2:St,En (S.newBox (El Ea)) S2 → ∀ q:Tk,Dt Tryz.prog S2 68 (.ptr S.next 0) (Ga q)=some (S2.put S.next (El q)) ∧ Cd Tryz.prog (S2.put S.next (El q)) 68 (.ptr S.next 0)=some (Ga q) ∧ En S (S2.put S.next (El q)):=fun S2 hk q =>
  ⟨st68 (by rw [hk.2 S.next (Nat.lt_succ_self _)]; exact Cv S _) rfl rfl,Kb _ _ _ rfl,Et ((Cz S _).trans hk) (Nat.le_refl _) _⟩
 cases hb:G0 l[i]
 ·rw [hb] at hp
  simp only [Am,Ab] at hp
  simp only [A6,Bk,Bl,Bj,Ch,A7,Bf,Bh,Bd,Bp,C8,A5,Bc,Ba,A0,A1,Bm,B5,ofOpt,Nat.reduceLT,Nat.reduceEqDiff,Aa,Ab,Ac,Aj,Ak,hf2,hf3]
  refine WC.mono (digit_w l[i] _) ?_
  rintro _ rfl
  cases hb2:Eh l[i]
  ·rw [hb2] at hp
   simp only [Am,Ab] at hp
   injection hp with hp; subst hp
   simp only [Bo,A6,Bk,Bl,Bj,Cf,Ch,A7,Bf,Bh,Bd,Bp,C8,A5,Bc,Ba,A0,A1,Bm,B5,ofOpt,Nat.reduceLT,Nat.reduceEqDiff,Aa,Ab,Ac,Aj,Ak,hf4,hf5]
   refine WC.mono (sign_w l i (by omega) _) ?_
   rintro _ ⟨S2,rfl,hk⟩
   obtain ⟨q1,q2,q3⟩:=fin S2 hk (Nr (l.drop i) i).1
   simp only [B1,Bj,Ch,A7,Bf,Br,Bu,Bd,Bp,A5,Bc,Ba,A0,A1,ofOpt,Cp,Bi,B0,Bg,Cs,Nat.reduceLT,Nat.reduceEqDiff,Aa,Ab,Ac,Ag,Ah,Cw,q1,q2]
   exact ⟨_,rfl,q3⟩
  ·rw [hb2] at hp
   simp only [Aa] at hp
   simp only [Bo,A6,Bk,Bl,Bj,Cf,Ch,A7,Bf,Bh,Bd,Bp,De,A5,Bc,Ba,A0,A1,Bm,B5,ofOpt,Nat.reduceLT,Nat.reduceEqDiff,Aa,Ab,Ac,Aj,Ak,hf4,hf5]
   refine WC.mono (number_w l hl i hi hb2 _ p hp) ?_
   rintro _ ⟨S2,rfl,hk⟩
   obtain ⟨q1,q2,q3⟩:=fin S2 hk p.1
   simp only [B1,Bj,Dd,C9,Ch,A7,Bf,Br,Bu,Bd,Bp,A5,Bc,Ba,A0,A1,ofOpt,Cp,Bi,B0,Bg,Cs,Nat.reduceLT,Nat.reduceEqDiff,Aa,Ab,Ac,Ag,Ah,Cw,q1,q2]
   exact ⟨_,rfl,q3⟩
 ·rw [hb] at hp
  simp only [Aa] at hp
  injection hp with hp; subst hp
  simp only [A6,Bk,Bl,Bj,Ch,A7,Bf,Bh,Bd,Bp,De,A5,Bc,Ba,A0,A1,Bm,B5,ofOpt,Nat.reduceLT,Nat.reduceEqDiff,Aa,Ab,Ac,Aj,Ak,hf2,hf3]
  refine WC.mono (word_w l hl i (by omega) _) ?_
  rintro _ ⟨S2,rfl,hk⟩
  obtain ⟨q1,q2,q3⟩:=fin S2 hk (O9 (l.drop i) i).1
  simp only [B1,Bj,Dd,C9,Ch,A7,Bf,Br,Bu,Bd,Bp,A5,Bc,Ba,A0,A1,ofOpt,Cp,Bi,B0,Bg,Cs,Nat.reduceLT,Nat.reduceEqDiff,Aa,Ab,Ac,Ag,Ah,Cw,q1,q2]
  exact ⟨_,rfl,q3⟩
end Go.Ax
