/- Lb -/
import Derived.Test.YtjgknelmjdallaaGreatDoorPrG12
set_option linter.unusedVariables false
set_option linter.unusedSimpArgs false
noncomputable section
namespace Go.Ax
open Go.RowKit Go.Proofs
set_option maxRecDepth 100000
def Cj (l:List UInt8):AV:=.v (.string ⟨⟨l⟩⟩)
def Du (n:Nat):AV:=.v (.int .i64 (n:Int))
theorem wrap_nat {n:Nat} (h:n ≤ 1000000000):IntKind.i64.wrap (n:Int)=(n:Int):=by
 rw [← Zy]
 have:in64 (n:Int)=true:=Nat.ble_eq_true_of_le (by omega)
 unfold Y9
 rw [this]
theorem I1 {i j:Nat} (h:i + j ≤ 1000000000):IntKind.i64.wrap ((i:Int) + (j:Int))=((i + j:Nat):Int):=by
 rw [← wrap_nat h]; push_cast; rfl
theorem Pq {i:Nat} (h:i + 1 ≤ 1000000000):IntKind.i64.wrap ((i:Int) + 1)=((i + 1:Nat):Int):=I1 (j:=1) h
theorem Vx (S:St) (l:List UInt8):Je Tryz.prog S 9 (.v (.string ⟨⟨l⟩⟩))=some l.length:=by
 have h:Tryz.prog.underlying 9=some .string:=rfl
 simp only [Je,h]; rfl
theorem idx9 (l:List UInt8) (i:Nat) (h:i < l.length):Ll Tryz.prog 9 (.v (.string ⟨⟨l⟩⟩)) (.v (.int .i64 (i:Int)))=some (K3 l[i]):=by
 have hu:Tryz.prog.underlying 9=some .string:=rfl
 have h0:(0:Int) ≤ (i:Int):=by omega
 simp only [Ll,hu,if_pos h0,Int.toNat_natCast,List.getElem?_eq_getElem h]; rfl
def groundX (P:Program) (G:Gl) (f:T AV) (S:St) (o:Oper):OR:=ground P G f S o
def notO (r:OR) (S:St) (x:Option AV):OR:=match x with
 | some (.v (.bool b))=>.val (.v (.bool (!b))) S
 | _=>r
theorem Ce (f:T AV) (S:St) (dst:Option Tmp) (k:Tmp) (ty:TypeId) (pos:String) (af:Array Edge) (gd:Option (Nat × Bool)) :
  ground Tryz.prog gR f S { dst:=dst,op:=.unOp .not 4 (.tmp k),type:=ty,pos:=pos,after:=af,guard:=gd }=notO (groundX Tryz.prog gR f S { dst:=dst,op:=.unOp .not 4 (.tmp k),type:=ty,pos:=pos,after:=af,guard:=gd }) S (f.get k):=by
 unfold notO
 split
 ·rename_i b h
  have hg:D6 gR f (.tmp k)=some (.bool b):=by unfold D6; simp only [Bc,h]; rfl
  unfold ground
  simp only [Op.operands,List.all_cons,List.all_nil,hg,Option.isSome_some,Bool.and_self,Aa]
  have e:execOp (fun x=>(D6 gR f x).getD undef) { dst:=dst,op:=.unOp .not 4 (.tmp k),type:=ty,pos:=pos,after:=af,guard:=gd }=execOp (fun _=>.bool b) { dst:=dst,op:=.unOp .not 4 (.tmp k),type:=ty,pos:=pos,after:=af,guard:=gd }:=by
   simp only [execOp,hg,Ae]
  rw [e]
  cases b <;> rfl
 ·rfl
theorem Ct (r:OR) (S:St) (b:Bool):notO r S (some (.v (.bool b)))=.val (.v (.bool (!b))) S:=rfl
def cnt (p:UInt8 → Bool):List UInt8 → Nat
 | []=>0
 | b :: r=>if p b then cnt p r + 1 else 0
theorem Ux (p:UInt8 → Bool):∀ l,cnt p l ≤ l.length
 | []=>Nat.le_refl _
 | b :: r=>by
  unfold cnt
  split
  ·have:=Ux p r; simp; omega
  ·simp
noncomputable def Rc:Code:=match Tryz.f96.body with
 | some (.seq _ (.seq (.block _ (.loop c)) _))=>c
 | _=>.skip
structure Test (k:FuncId) (p:UInt8 → Bool):Prop where
 run:∀ b S,WC E1 k [K3 b] S (fun r=>r=.ret (.v (.bool (p b))) S)
 fn:(E1.F k).isSome=true
set_option maxHeartbeats 4000000 in
theorem Yy {k:FuncId} {p:UInt8 → Bool} (hp:Test k p) (l:List UInt8) (hl:l.length ≤ 100000) (S:St):∀ (m i:Nat) (t:T AV),i + m=l.length → t.get 0=some (Cj l) → t.get 1=some (Du i) → t.get 2=some (.fn (.func k) [] []) →
  WX E1 21 (.loop Rc) ⟨t,[]⟩ S (fun r=>∃ t',r=.out (.exit 0) ⟨t',[]⟩ S ∧ t'.get 1=some (Du (i + cnt p (l.drop i))))
 | 0,i,t,hi,h0,h1,h2=>by
  refine E9 (Em ?_)
  have hlt:¬ ((i:Int) < (l.length:Int)):=by omega
  have hd:l.drop i=[]:=List.drop_eq_nil_of_le (by omega)
  simp only [Cj,Du] at h0 h1 ⊢
  simp only [B4,B9,Br,A8,Bj,Bp,B3,Dk,Ba,Cg,Bw,Bq,A9,C0,A7,A5,Cc,A4,Bd,Bc,A0,Bm,ofOpt,Be,Bv,Er,B5,Dj,Dv,Nat.reduceLT,Nat.reduceEqDiff,Aa,Ab,Ac,Af,Ag,Ah,Ai,Am,Aq,Ar,Av,Rc,Tryz.f96,h0,h1,h2,Vx,hlt]
  exact ⟨_,rfl,by simp only [A0,Nat.reduceEqDiff,Ab,h1,hd,cnt,Nat.add_zero]⟩
 | m + 1,i,t,hi,h0,h1,h2=>by
  refine E9 (Em ?_)
  have hil:i < l.length:=by omega
  have hlt:((i:Int) < (l.length:Int)):=by omega
  have hd:l.drop i=l[i] :: l.drop (i + 1):=List.drop_eq_getElem_cons hil
  obtain ⟨fn,hfn⟩:=Option.isSome_iff_exists.1 hp.fn
  have hx:=idx9 l i hil
  have hw:=Pq (i:=i) (by omega)
  simp only [Cj,Du] at h0 h1 ⊢
  simp only [A8,Bj,A9,A7,Bb,A5,A4,Bd,Bc,A0,Bm,Bz,ofOpt,Bv,B5,Dj,Nat.reduceLT,Nat.reduceEqDiff,Aa,Ab,Ac,Af,Ag,Ah,Ai,Aj,Ak,Al,Am,Ap,Rc,Tryz.f96,h0,h1,h2,Vx,hlt,hx,hfn]
  refine WC.mono (hp.run l[i] S) ?_
  rintro _ rfl
  cases hb:p l[i]
  ·simp only [B4,B9,Br,A8,Bp,B3,Dk,Ba,Cg,Bw,Bq,A9,A7,A5,Bf,Cc,A4,Bd,Bc,A0,ofOpt,Be,Bv,B5,Dv,Nat.reduceLT,Nat.reduceEqDiff,Aa,Ab,Ac,Am,h1]
   refine ⟨_,rfl,?_⟩
   have e:cnt p (l.drop i)=0:=by rw [hd]; unfold cnt; rw [hb]; rfl
   simp only [A0,Nat.reduceEqDiff,Ab,h1,e,Nat.add_zero]
  ·simp only [B4,B9,Br,A8,Bp,B3,Dk,Ba,Cg,Bw,Bq,A9,A7,A5,Bf,Cp,A4,Bd,Bc,A0,ofOpt,Be,Bv,B5,Dv,Nat.reduceLT,Nat.reduceEqDiff,Aa,Ab,Ac,Am,h1,hw]
   have e:cnt p (l.drop i)=cnt p (l.drop (i + 1)) + 1:=by rw [hd,cnt,hb]; rfl
   refine WX.mono (Yy hp l hl S m (i + 1) _ (by omega) ?_ ?_ ?_) ?_
   ·simp only [A0,Nat.reduceEqDiff,Ab,h0]; rfl
   ·simp only [A0,Nat.reduceEqDiff,Aa]; rfl
   ·simp only [A0,Nat.reduceEqDiff,Ab,h2]
   ·rintro r ⟨t',rfl,h⟩
    refine ⟨t',rfl,?_⟩
    rw [h,e]
    show some (Du _)=some (Du _)
    congr 2; omega
set_option maxHeartbeats 4000000 in
theorem Wq {k:FuncId} {p:UInt8 → Bool} (hp:Test k p) (l:List UInt8) (hl:l.length ≤ 100000) (i:Nat) (hi:i ≤ l.length) (S:St):WC E1 96 [Cj l,Du i,.fn (.func k) [] []] S (fun r=>r=.ret (Du (i + cnt p (l.drop i))) S):=by
 refine Dt Tryz.f96 (by kernel_rfl) (by kernel_rfl) (by kernel_rfl) (show (_:Nat) ≤ _ from by show (_:Nat) ≤ _; simp [Tryz.f96]) ?_
 have key:=fun t h0 h1 h2=>Yy hp l hl S (l.length - i) i t (by omega) h0 h1 h2
 unfold Rc at key
 simp only [Tryz.f96] at key
 simp only [A8,Bj,B3,D3,Ba,Bq,A9,A7,A5,A4,Bd,Bc,B7,ofOpt,Be,Nat.reduceLT,Nat.reduceAdd,Ac,Ae,Tryz.f96]
 refine WX.mono (key _ ?_ ?_ ?_) ?_
 ·simp only [A0,A1,Nat.reduceEqDiff,Aa,Ab]
 ·simp only [A0,A1,Nat.reduceEqDiff,Aa,Ab]
 ·simp only [A0,A1,Nat.reduceEqDiff,Aa,Ab]
 ·rintro r ⟨t',rfl,h⟩
  simp only [A8,Bj,By,Ba,Cg,Ch,Bq,A9,A7,A5,A4,Bd,Bc,A0,ofOpt,Bi,B0,Bg,Cd,Nat.reduceLT,Nat.reduceEqDiff,Aa,Ab,Ad,h]
theorem blankT:Test 97 Dw:=⟨blank_w,by kernel_rfl⟩
theorem notEndT:Test 98 K9:=⟨notEnd_w,by kernel_rfl⟩
theorem digitT:Test 101 Da:=⟨mB,by kernel_rfl⟩
theorem wordBT:Test 131 Ds:=⟨wordB_w,by kernel_rfl⟩
end Go.Ax
noncomputable section
namespace Go.Ax
open Go.RowKit Go.Proofs
set_option maxRecDepth 100000
theorem nG (l:List UInt8) (i:Nat) (h:i ≤ l.length):Ja Tryz.prog 9 (.v (.string ⟨⟨l⟩⟩)) (some (.v (.int .i64 (i:Int)))) none=some (.v (.string ⟨⟨l.drop i⟩⟩)):=by
 have hu:Tryz.prog.underlying 9=some .string:=rfl
 have h0:(0:Int) ≤ (i:Int):=by omega
 have hs:(⟨⟨l⟩⟩:ByteArray).size=l.length:=rfl
 simp only [Ja,hu,Iq,if_pos h0,Int.toNat_natCast,hs]
 rw [Nat.ble_eq_true_of_le h,Nat.ble_eq_true_of_le (Nat.le_refl _)]
 show some (AV.v (.string ⟨⟨(l.drop i).take (l.length - i)⟩⟩))=_
 rw [List.take_of_length_le (by simp)]
theorem sl9_to (l:List UInt8) (j:Nat) (h:j ≤ l.length):Ja Tryz.prog 9 (.v (.string ⟨⟨l⟩⟩)) none (some (.v (.int .i64 (j:Int))))=some (.v (.string ⟨⟨l.take j⟩⟩)):=by
 have hu:Tryz.prog.underlying 9=some .string:=rfl
 have h0:(0:Int) ≤ (j:Int):=by omega
 have hs:(⟨⟨l⟩⟩:ByteArray).size=l.length:=rfl
 simp only [Ja,hu,Iq,if_pos h0,Int.toNat_natCast,hs]
 rw [Nat.ble_eq_true_of_le (Nat.zero_le _),Nat.ble_eq_true_of_le h]
 rfl
theorem aM (l:List UInt8) (i j:Nat) (hi:i ≤ j) (h:j ≤ l.length):Ja Tryz.prog 9 (.v (.string ⟨⟨l⟩⟩)) (some (.v (.int .i64 (i:Int)))) (some (.v (.int .i64 (j:Int))))=some (.v (.string ⟨⟨(l.drop i).take (j - i)⟩⟩)):=by
 have hu:Tryz.prog.underlying 9=some .string:=rfl
 have h0:(0:Int) ≤ (i:Int):=by omega
 have h1:(0:Int) ≤ (j:Int):=by omega
 have hs:(⟨⟨l⟩⟩:ByteArray).size=l.length:=rfl
 simp only [Ja,hu,Iq,if_pos h0,if_pos h1,Int.toNat_natCast,hs]
 rw [Nat.ble_eq_true_of_le hi,Nat.ble_eq_true_of_le h]
 rfl
theorem Mo (l m:List UInt8):D8 .eql (.v (.string ⟨⟨l⟩⟩)) (.v (.string ⟨⟨m⟩⟩))=some (.v (.bool (decide (l=m)))):=by
 simp only [D8,Jp]
 have e:(l == m)=decide (l=m):=by rw [Bool.eq_iff_iff]; simp
 show some (AV.v (.bool (l == m)))=_
 rw [e]
theorem Dg (a b:AV):Hn Tryz.prog 9 a b=false:=by
 have h:Tryz.prog.underlying 9=some .string:=rfl
 unfold Hn; rw [h]
def D5 (pre l:List UInt8):Bool:=decide (l.take pre.length=pre)
set_option maxHeartbeats 4000000 in
theorem pre122_w (l pre:List UInt8) (S:St):WC E1 122 [Cj l,Cj pre] S (fun r=>r=.ret (.v (.bool (D5 pre l))) S):=by
 refine Dt Tryz.f122 (by kernel_rfl) (by kernel_rfl) (by kernel_rfl) (show (_:Nat) ≤ _ from by show (_:Nat) ≤ _; simp [Tryz.f122]) ?_
 unfold Cj
 by_cases h:(pre.length:Int) ≤ (l.length:Int)
 ·have hs:=sl9_to l pre.length (by omega)
  simp only [A8,Bj,By,Ba,Bq,A9,A7,A5,A4,Bd,Bc,B7,A0,A1,Bm,Bz,ofOpt,Be,Bv,Er,B5,Bi,B0,Bg,Cd,Eo,Nat.reduceLT,Nat.reduceAdd,Nat.reduceEqDiff,Aa,Ab,Ad,Ae,Af,Ag,Ah,Ai,Al,Am,Ap,Option.toList,Ay,Az,Tryz.f122,Vx,h,hs,Mo,Dg,D5]
 ·have e:D5 pre l=false:=by
   unfold D5
   rw [decide_eq_false_iff_not]; intro hq
   have:=congrArg List.length hq
   simp at this; omega
  simp only [A8,Bj,By,Ba,Bq,A9,C0,A7,A5,A4,Bd,Bc,B7,A0,A1,Bm,ofOpt,Be,Bv,Er,B5,Bi,B0,Bg,Cd,Eo,Nat.reduceLT,Nat.reduceAdd,Nat.reduceEqDiff,Aa,Ab,Ad,Ae,Af,Ag,Ah,Ai,Am,Aq,Ar,Av,Tryz.f122,Vx,h,Dg,e]
theorem fnOk122:∃ fn,E1.F 122=some fn:=Option.isSome_iff_exists.1 (by kernel_rfl)
theorem pre_w (l pre:List UInt8) (S:St):WC E1 85 [Cj l,Cj pre] S (fun r=>r=.ret (.v (.bool (D5 pre l))) S):=by
 refine Dt Tryz.f85 (by kernel_rfl) (by kernel_rfl) (by kernel_rfl) (show (_:Nat) ≤ _ from by show (_:Nat) ≤ _; simp [Tryz.f85]) ?_
 obtain ⟨fn1,hf1⟩:=fnOk122
 simp only [A8,Bj,Ba,Bq,A9,A7,Bb,A5,A4,Bd,Bc,B7,A0,A1,Bm,Bz,ofOpt,Be,Nat.reduceLT,Nat.reduceAdd,Nat.reduceEqDiff,Aa,Ab,Ac,Ae,Aj,Ak,Tryz.f85,hf1]
 refine WC.mono (pre122_w l pre S) ?_
 rintro _ rfl
 simp only [By,Ba,Bq,A9,A7,A5,Bf,A4,Bd,Bc,A0,A1,ofOpt,Bi,B0,Bg,Cd,Nat.reduceLT,Nat.reduceEqDiff,Aa,Ab,Ad]
theorem e69:Ix Tryz.prog 69=some (none,9):=by kernel_rfl
theorem u69:Tryz.prog.underlying 69=some (.slice 9):=by kernel_rfl
theorem s9:Fq Tryz.prog 9=some 1:=by kernel_rfl
theorem a9:Fs Tryz.prog 9=some false:=by kernel_rfl
theorem len69 (S:St) (tok off:Nat) (es:List AV):Je Tryz.prog S 69 (.sl tok off 1 es)=some es.length:=by simp [Je,u69]
theorem idx69 (tok off:Nat) (ws:List (List UInt8)) (i:Nat) (h:i < ws.length):Eu Tryz.prog 69 (.sl tok off 1 (ws.map Cj)) (.v (.int .i64 (i:Int)))=some (.ep [Cj ws[i]]):=by
 have h0:(0:Int) ≤ (i:Int):=by omega
 simp [Eu,h0,e69,s9,h,Cj,AV.cells]
theorem xK (S:St) (x:AV):Cv Tryz.prog S 9 (.ep [x])=some x:=by simp [Cv,Dc,a9]
noncomputable def Qc:Code:=match Tryz.f160.body with
 | some (.seq _ (.seq (.seq _ (.block _ (.loop c))) _))=>c
 | _=>.skip
set_option maxHeartbeats 4000000 in
theorem cG (tok off:Nat) (ws:List (List UInt8)) (s:List UInt8) (hl:ws.length ≤ 100000) (S:St):∀ (m i:Nat) (t:T AV),i + m=ws.length → t.get 0=some (.sl tok off 1 (ws.map Cj)) → t.get 1=some (Cj s) → t.get 7=some (Du ws.length) → t.get 8=some (Du i) →
  WX E1 19 (.loop Qc) ⟨t,[]⟩ S (fun r=>∃ t',(r=.out (.exit 0) ⟨t',[]⟩ S ∧ s ∉ ws.drop i) ∨ (∃ j:Nat,r=.out .ret ⟨t',[]⟩ S ∧ t'.get 4=some (Du j) ∧ s ∈ ws.drop i))
 | 0,i,t,hi,h0,h1,h7,h8=>by
  refine E9 (Em ?_)
  have hlt:¬ ((i:Int) < (ws.length:Int)):=by omega
  have hd:ws.drop i=[]:=List.drop_eq_nil_of_le (by omega)
  simp only [Cj,Du] at h0 h1 h7 h8 ⊢
  simp only [B9,Br,A8,Bj,Bp,B3,Dk,Ba,Cg,Bq,A9,A7,A5,Cc,A4,Bd,Bc,A0,ofOpt,Bv,B5,Dj,Nat.reduceLT,Nat.reduceEqDiff,Aa,Ab,Ac,Am,Aq,Qc,Tryz.f160,h0,h1,h7,h8,hlt]
  exact ⟨_,.inl ⟨rfl,by rw [hd]; exact List.not_mem_nil⟩⟩
 | m + 1,i,t,hi,h0,h1,h7,h8=>by
  refine E9 (Em ?_)
  have hil:i < ws.length:=by omega
  have hlt:((i:Int) < (ws.length:Int)):=by omega
  have hd:ws.drop i=ws[i] :: ws.drop (i + 1):=List.drop_eq_getElem_cons hil
  have hx:=idx69 tok off ws i hil
  have hw:=Pq (i:=i) (by omega)
  have hq:=Mo s ws[i]
  simp only [Cj,Du] at h0 h1 h7 h8 hx ⊢
  by_cases he:s=ws[i]
  ·rw [decide_eq_true he] at hq
   simp only [B4,B9,C3,Br,A8,Bj,Bp,B3,Dk,By,Ba,Cg,Co,Bw,Cq,Bq,A9,A7,A5,Cp,A4,Bd,Bc,A0,ofOpt,Be,Bv,B5,Dj,Dv,Nat.reduceLT,Nat.reduceEqDiff,Aa,Ab,Ac,Am,Ap,Qc,Tryz.f160,h0,h1,h7,h8,hlt,hx,xK,Dg,hq]
   exact ⟨_,.inr ⟨i,rfl,by simp only [A0,Nat.reduceEqDiff,Aa],by rw [hd,he]; exact List.mem_cons_self ..⟩⟩
  ·rw [decide_eq_false he] at hq
   simp only [B4,B9,C3,Br,A8,Bj,Bp,B3,Dk,By,Ba,Cg,Co,Bw,Cq,Bq,A9,A7,A5,Cp,Cc,A4,Bd,Bc,A0,ofOpt,Be,Bv,B5,Dj,Dv,Nat.reduceLT,Nat.reduceEqDiff,Aa,Ab,Ac,Am,Ap,Qc,Tryz.f160,h0,h1,h7,h8,hlt,hx,xK,Dg,hq,hw]
   refine WX.mono (cG tok off ws s hl S m (i + 1) _ (by omega) ?_ ?_ ?_ ?_) ?_
   ·simp only [A0,Nat.reduceEqDiff,Ab,h0]
   ·simp only [A0,Nat.reduceEqDiff,Ab,h1]; rfl
   ·simp only [A0,Nat.reduceEqDiff,Ab,h7]; rfl
   ·simp only [A0,Nat.reduceEqDiff,Aa]; rfl
   ·rintro r ⟨t',⟨rfl,h⟩ | ⟨j,rfl,h,hm⟩⟩
    ·exact ⟨t',.inl ⟨rfl,by rw [hd]; exact fun hc=>(List.mem_cons.1 hc).elim he h⟩⟩
    ·exact ⟨t',.inr ⟨j,rfl,h,by rw [hd]; exact List.mem_cons_of_mem _ hm⟩⟩
theorem index_w (tok off:Nat) (ws:List (List UInt8)) (s:List UInt8) (hl:ws.length ≤ 100000) (S:St):WC E1 160 [.sl tok off 1 (ws.map Cj),Cj s] S (fun r=>∃ x:Int,r=.ret (.v (.int .i64 x)) S ∧ (decide (0 ≤ x)=decide (s ∈ ws))):=by
 refine Dt Tryz.f160 (by kernel_rfl) (by kernel_rfl) (by kernel_rfl) (show (_:Nat) ≤ _ from by show (_:Nat) ≤ _; simp [Tryz.f160]) ?_
 have key:=fun t h0 h1 h7 h8=>cG tok off ws s hl S ws.length 0 t (by omega) h0 h1 h7 h8
 unfold Qc at key
 simp only [Tryz.f160] at key
 have hL:=len69 S tok off (ws.map Cj)
 rw [List.length_map] at hL
 simp only [A8,Bj,B3,D3,Ba,Bq,A9,A7,A5,A4,Bd,Bc,B7,A0,A1,Bm,ofOpt,Be,Bv,Nat.reduceLT,Nat.reduceAdd,Nat.reduceEqDiff,Aa,Ab,Ac,Ae,Tryz.f160,hL]
 refine WX.mono (key _ ?_ ?_ ?_ ?_) ?_
 ·simp only [A0,A1,Nat.reduceEqDiff,Aa,Ab]
 ·simp only [A0,A1,Nat.reduceEqDiff,Aa,Ab]
 ·simp only [A0,A1,Nat.reduceEqDiff,Aa,Ab]; rfl
 ·simp only [A0,A1,Nat.reduceEqDiff,Aa,Ab]; rfl
 ·rintro r ⟨t',⟨rfl,h⟩ | ⟨j,rfl,h,hm⟩⟩
  ·simp only [A8,Bj,By,Ba,Cg,Ch,Bq,A9,A7,A5,A4,Bd,Bc,A0,ofOpt,Be,Bi,B0,Bg,Cd,Nat.reduceLT,Aa,Ac]
   refine ⟨_,rfl,?_⟩
   rw [List.drop_zero] at h
   rw [decide_eq_false h]; rfl
  ·unfold Du at h
   simp only [Co,Cq,Bi,B0,Bg,Cd,h]
   refine ⟨_,rfl,?_⟩
   rw [List.drop_zero] at hm
   rw [decide_eq_true hm,decide_eq_true (show (0:Int) ≤ (j:Int) by omega)]
theorem fnOk160:∃ fn,E1.F 160=some fn:=Option.isSome_iff_exists.1 (by kernel_rfl)
theorem Uw (tok off:Nat) (ws:List (List UInt8)) (s:List UInt8) (hl:ws.length ≤ 100000) (S:St):WC E1 129 [.sl tok off 1 (ws.map Cj),Cj s] S (fun r=>r=.ret (.v (.bool (decide (s ∈ ws)))) S):=by
 refine Dt Tryz.f129 (by kernel_rfl) (by kernel_rfl) (by kernel_rfl) (show (_:Nat) ≤ _ from by show (_:Nat) ≤ _; simp [Tryz.f129]) ?_
 obtain ⟨fn1,hf1⟩:=fnOk160
 simp only [A8,Bj,Ba,Bq,A9,A7,Bb,A5,A4,Bd,Bc,B7,A0,A1,Bm,Bz,ofOpt,Be,Nat.reduceLT,Nat.reduceAdd,Nat.reduceEqDiff,Aa,Ab,Ac,Ae,Aj,Ak,Tryz.f129,hf1]
 refine WC.mono (index_w tok off ws s hl S) ?_
 rintro _ ⟨x,rfl,hx⟩
 simp only [By,Ba,Bq,A9,A7,A5,Bf,A4,Bd,Bc,A0,A1,ofOpt,Be,Bv,B5,Bi,B0,Bg,Cd,Eo,Nat.reduceLT,Nat.reduceEqDiff,Aa,Ab,Ad,Am,ge_iff_le,hx]
def Gw:Nat → List UInt8 → Nat
 | 0,_=>0
 | n + 1,l=>if D5 [45,45] (l.drop (cnt Dw l)) then cnt Dw l + (cnt K9 (l.drop (cnt Dw l)) + Gw n (l.drop (cnt Dw l + cnt K9 (l.drop (cnt Dw l))))) else cnt Dw l
theorem Qq (n:Nat) (l:List UInt8):Gw (n + 1) l=if D5 [45,45] (l.drop (cnt Dw l)) then cnt Dw l + (cnt K9 (l.drop (cnt Dw l)) + Gw n (l.drop (cnt Dw l + cnt K9 (l.drop (cnt Dw l))))) else cnt Dw l:=rfl
theorem Lq:∀ (n:Nat) (l:List UInt8),Gw n l ≤ l.length
 | 0,l=>Nat.zero_le _
 | n + 1,l=>by
  have h1:=Ux Dw l
  have h2:=Ux K9 (l.drop (cnt Dw l))
  have h3:=Lq n (l.drop (cnt Dw l + cnt K9 (l.drop (cnt Dw l))))
  unfold Gw
  simp only [List.length_drop] at h2 h3
  split <;> omega
noncomputable def aO:Code:=match Tryz.f65.body with
 | some (.seq _ (.block _ (.loop c)))=>c
 | _=>.skip
theorem uF:∃ fn,E1.F 96=some fn:=Option.isSome_iff_exists.1 (by kernel_rfl)
theorem fnOk85:∃ fn,E1.F 85=some fn:=Option.isSome_iff_exists.1 (by kernel_rfl)
theorem dash_len {l:List UInt8} (h:D5 [45,45] l=true):1 ≤ cnt K9 l:=by
 unfold D5 at h
 rw [decide_eq_true_iff] at h
 cases l with
 | nil=>cases h
 | cons a r =>
  cases r with
  | nil=>cases h
  | cons b r =>
   simp at h
   obtain ⟨rfl,rfl⟩:=h
   unfold cnt
   rw [if_pos (by decide)]; omega
set_option maxHeartbeats 4000000 in
theorem fI (l:List UInt8) (hl:l.length ≤ 100000) (S:St):∀ (n i:Nat) (t:T AV),l.length - i < n → i ≤ l.length → t.get 0=some (Cj l) → t.get 1=some (Du i) →
  WX E1 17 (.loop aO) ⟨t,[]⟩ S (fun r=>∃ t',r=.out .ret ⟨t',[]⟩ S ∧ t'.get 4=some (Du (i + Gw n (l.drop i))))
 | 0,i,t,hn,hi,h0,h1=>absurd hn (Nat.not_lt_zero _)
 | n + 1,i,t,hn,hi,h0,h1=>by
  refine E9 (Em ?_)
  obtain ⟨fn1,hf1⟩:=uF
  obtain ⟨fn2,hf2⟩:=fnOk85
  have hc1:=Ux Dw (l.drop i)
  rw [List.length_drop] at hc1
  have hs:=nG l (i + cnt Dw (l.drop i)) (by omega)
  have hdd:l.drop (i + cnt Dw (l.drop i))=(l.drop i).drop (cnt Dw (l.drop i)):=by rw [List.drop_drop]
  simp only [Cj,Du] at h0 h1 ⊢
  simp only [A8,Bj,B3,A9,A7,Bb,A5,A4,Bd,Bc,A0,Bm,Bz,ofOpt,Nat.reduceLT,Nat.reduceEqDiff,Aa,Ab,Ac,Aj,Ak,aO,Tryz.f65,h0,h1,hf1]
  refine WC.mono (Wq blankT l hl i hi S) ?_
  rintro _ rfl
  simp only [Du]
  simp only [A8,Bj,Ba,Bq,A9,A7,Bb,A5,Bf,A4,Bd,Bc,A0,Bm,Bz,ofOpt,Be,Bv,Er,Nat.reduceLT,Nat.reduceEqDiff,Aa,Ab,Ac,Aj,Ak,Option.toList,Ay,Az,h0,h1,hf2,hs]
  refine WC.mono (pre_w (l.drop (i + cnt Dw (l.drop i))) [45,45] S) ?_
  rintro _ rfl
  cases hb:D5 [45,45] (l.drop (i + cnt Dw (l.drop i)))
  ·have e:Gw (n + 1) (l.drop i)=cnt Dw (l.drop i):=by unfold Gw; rw [← hdd,hb]; rfl
   simp only [C3,Br,A8,Bj,Bp,By,Ba,Co,Cq,Bq,A9,A7,Bb,A5,Bf,Cp,A4,Bd,Bc,A0,Bm,Bz,ofOpt,Bv,Er,Ce,Ct,Nat.reduceLT,Nat.reduceEqDiff,Aa,Ab,Ac,Aj,Ak,Au,h0,h1,hf1,e]
   exact ⟨_,rfl,by simp only [A0,Nat.reduceEqDiff,Aa]⟩
  ·have e:Gw (n + 1) (l.drop i)=cnt Dw (l.drop i) + (cnt K9 (l.drop (i + cnt Dw (l.drop i))) + Gw n (l.drop (i + cnt Dw (l.drop i) + cnt K9 (l.drop (i + cnt Dw (l.drop i)))))):=by
    rw [Qq,← hdd,hb]; simp only [Aa,List.drop_drop,Nat.add_assoc]
   simp only [C3,Br,A8,Bj,Bp,By,Ba,Co,Cq,Bq,A9,A7,Bb,A5,Bf,Cc,A4,Bd,Bc,A0,Bm,Bz,ofOpt,Bv,Er,Ce,Ct,Nat.reduceLT,Nat.reduceEqDiff,Aa,Ab,Ac,Aj,Ak,Ar,h0,h1,hf1]
   refine WC.mono (Wq notEndT l hl (i + cnt Dw (l.drop i)) (by omega) S) ?_
   rintro _ rfl
   simp only [Du]
   simp only [B4,Bw,Bq,A9,A7,A5,Bf,A4,Bd,Bc,A0,ofOpt,Nat.reduceLT,Nat.reduceEqDiff,Aa,Ab,Ac]
   have hc2:=Ux K9 (l.drop (i + cnt Dw (l.drop i)))
   rw [List.length_drop] at hc2
   have hc3:=dash_len hb
   refine WX.mono (fI l hl S n (i + cnt Dw (l.drop i) + cnt K9 (l.drop (i + cnt Dw (l.drop i)))) _ (by omega) (by omega) ?_ ?_) ?_
   ·simp only [A0,Nat.reduceEqDiff,Ab,h0]; rfl
   ·simp only [A0,Nat.reduceEqDiff,Aa]; rfl
   ·rintro r ⟨t',rfl,h⟩
    refine ⟨t',rfl,?_⟩
    rw [h,e]
    show some (Du _)=some (Du _)
    congr 2; omega
theorem skip_w (l:List UInt8) (hl:l.length ≤ 100000) (n i:Nat) (hn:l.length - i < n) (hi:i ≤ l.length) (S:St):WC E1 65 [Cj l,Du i] S (fun r=>r=.ret (Du (i + Gw n (l.drop i))) S):=by
 refine Dt Tryz.f65 (by kernel_rfl) (by kernel_rfl) (by kernel_rfl) (show (_:Nat) ≤ _ from by show (_:Nat) ≤ _; simp [Tryz.f65]) ?_
 have key:=fun t h0 h1=>fI l hl S n i t hn hi h0 h1
 unfold aO at key
 simp only [Tryz.f65] at key
 simp only [A8,Bj,B3,D3,Ba,Bq,A9,A7,A5,A4,Bd,Bc,B7,ofOpt,Be,Nat.reduceLT,Nat.reduceAdd,Ac,Ae,Tryz.f65]
 refine WX.mono (key _ ?_ ?_) ?_
 ·simp only [A0,A1,Nat.reduceEqDiff,Aa,Ab]
 ·simp only [A0,A1,Nat.reduceEqDiff,Aa,Ab]
 ·rintro r ⟨t',rfl,h⟩
  simp only [Cq,Bi,B0,Bg,Cd,h]
end Go.Ax
noncomputable section
namespace Go.Ax
open Go.RowKit Go.Proofs
set_option maxRecDepth 100000
def Jk:List (List UInt8):=[[110,111,100,101],[114,101,116,117,114,110,115],[118,97,114],[108,101,116],[116,101,108],[105,110,116],[98,111,111,108],[102,117,116,117,114,101],[119,104,101,110],[110,111,116],[97,110,100],[111,114],[120,111,114],[105,102],[116,104,101,110],[101,108,115,101],[112,114,101],[102,98,121],[109,101,114,103,101],[97,115,121,110,99],[97,119,97,105,116],[97,102,116,101,114],[116,114,117,101],[102,97,108,115,101],[109,111,100]]
def Fb:List (List UInt8):=[[60,62],[60,61],[62,61],[45,62],[40],[41],[44],[59],[58],[61],[60],[62],[43],[45],[42],[47]]
structure Tk where
 kind:Nat
 pos:Nat
 text:List UInt8
 num:Nat
def Ro (n:Nat):AV:=.v (.int .u64 (n:Int))
def Df (t:Tk):List AV:=[Du t.kind,Du t.pos,Cj t.text,Ro t.num]
def Fd (t:Tk):AV:=.agg (Df t)
def C1:Tk:=⟨0,0,[],0⟩
def Ln (l:List UInt8) (i:Nat):Tk × Nat :=
 if l.take (cnt Ds l) ∈ Jk then (⟨3,i,l.take (cnt Ds l),0⟩,0) else if 30 < cnt Ds l then (C1,3) else (⟨1,i,l.take (cnt Ds l),0⟩,0)
def Ul (l:List UInt8) (i:Nat):Option (Tk × Nat) :=
 if 1 < cnt Da l ∧ l.head? = some 48 then some (C1,1) else if H9 0 (l.take (cnt Da l)) < 18446744073709551616 then (if 9223372036854775808 < H9 0 (l.take (cnt Da l)) then some (C1,3) else some (⟨2,i,l.take (cnt Da l),H9 0 (l.take (cnt Da l))⟩,0)) else some (C1,3)
def Kp (l:List UInt8) (i:Nat):Tk × Nat:=match Fb.find? (fun s=>D5 s l) with
 | some s=>(⟨4,i,s,0⟩,0)
 | none=>(C1,1)
def Hf (l:List UInt8) (i:Nat):Option (Tk × Nat):=match l with
 | []=>none
 | b :: _=>if F0 b then some (Ln l i) else if Da b then Ul l i else some (Kp l i)
def Ep (S S':St):Prop:=S.next ≤ S'.next ∧ ∀ id,id < S.next → S'.mem.get id=S.mem.get id
theorem Ep.refl (S:St):Ep S S:=⟨Nat.le_refl _,fun _ _=>rfl⟩
theorem Ep.trans {S S1 S2:St} (h:Ep S S1) (k:Ep S1 S2):Ep S S2:=⟨Nat.le_trans h.1 k.1,fun id hid=>(k.2 id (Nat.lt_of_lt_of_le hid h.1)).trans (h.2 id hid)⟩
def St.put (S:St) (id:Nat) (cs:List AV):St:={ S with mem:=S.mem.set id (some (.box cs)) }
theorem Dp (S:St) (cs:List AV):Ep S (S.newBox cs):=⟨Nat.le_succ _,fun id hid=>by
 show (S.mem.set S.next _).get id=_
 rw [T.get_set,if_neg (by omega)]⟩
theorem Ew {S S':St} (h:Ep S S') {id:Nat} (hid:S.next ≤ id) (cs:List AV):Ep S (S'.put id cs):=⟨h.1,fun k hk=>by
 show (S'.mem.set id _).get k=_
 rw [T.get_set,if_neg (by omega)]; exact h.2 k hk⟩
theorem Do (S:St) (cs:List AV):(S.newBox cs).mem.get S.next=some (.box cs):=by
 show (S.mem.set S.next _).get S.next=_
 rw [T.get_set,if_pos rfl]
theorem Et (S:St) (id:Nat) (cs:List AV):(S.put id cs).mem.get id=some (.box cs):=by
 show (S.mem.set id _).get id=_
 rw [T.get_set,if_pos rfl]
theorem a68:Fs Tryz.prog 68=some true:=by kernel_rfl
theorem s68:Fq Tryz.prog 68=some 4:=by kernel_rfl
theorem st68 {S:St} {id:Nat} {cs ys:List AV} (h:S.mem.get id=some (.box cs)) (hl:cs.length=4) (hy:ys.length=4):C9 Tryz.prog S 68 (.ptr id 0) (.agg ys)=some (S.put id ys):=by
 have h2:(AV.agg ys).noTup=true:=rfl
 simp [C9,h,s68,h2,AV.cells,hl,hy,St.put,List.drop_eq_nil_of_le]
theorem Lp (S:St) (cs ys:List AV) (hl:cs.length=4) (hy:ys.length=4):C9 Tryz.prog (S.newBox cs) 68 (.ptr S.next 0) (.agg ys)=some ((S.newBox cs).put S.next ys):=st68 (Do S cs) hl hy
theorem Ic (S:St) (id:Nat) (cs:List AV) (hl:cs.length=4):Cv Tryz.prog (S.put id cs) 68 (.ptr id 0)=some (.agg cs):=by
 have e:cs.take 4=cs:=List.take_of_length_le (by omega)
 simp [Cv,Dc,Et,a68,s68,hl,e]
theorem Fv (S:St):Jv Tryz.prog S 68=some (.ptr S.next 0,S.newBox (Df C1)):=rfl
theorem Yz:Hl Tryz.prog 68 []=some (.agg (Df C1)):=rfl
theorem b68_3 (a b c:AV) (k i:Int) (s:ByteArray) (ha:a=.v (.int .i64 k)) (hb:b=.v (.int .i64 i)) (hc:c=.v (.string s)):Hl Tryz.prog 68 [(0,a),(1,b),(2,c)]=some (.agg [a,b,c,Ro 0]):=by
 subst ha; subst hb; subst hc; rfl
theorem b68_4 (k i u:Int) (s:ByteArray):Hl Tryz.prog 68 [(0,.v (.int .i64 k)),(1,.v (.int .i64 i)),(2,.v (.string s)),(3,.v (.int .u64 u))]=some (.agg [.v (.int .i64 k),.v (.int .i64 i),.v (.string s),.v (.int .u64 u)]):=rfl
theorem yL:∃ fn,E1.F 129=some fn:=Option.isSome_iff_exists.1 (by kernel_rfl)
theorem fnOk132:∃ fn,E1.F 132=some fn:=Option.isSome_iff_exists.1 (by kernel_rfl)
theorem fnOk134:∃ fn,E1.F 134=some fn:=Option.isSome_iff_exists.1 (by kernel_rfl)
theorem fnOk100:∃ fn,E1.F 100=some fn:=Option.isSome_iff_exists.1 (by kernel_rfl)
theorem fnOk102:∃ fn,E1.F 102=some fn:=Option.isSome_iff_exists.1 (by kernel_rfl)
theorem fnOk103:∃ fn,E1.F 103=some fn:=Option.isSome_iff_exists.1 (by kernel_rfl)
theorem fnOk133:∃ fn,E1.F 133=some fn:=Option.isSome_iff_exists.1 (by kernel_rfl)
theorem fnOk65:∃ fn,E1.F 65=some fn:=Option.isSome_iff_exists.1 (by kernel_rfl)
theorem fnOk66:∃ fn,E1.F 66=some fn:=Option.isSome_iff_exists.1 (by kernel_rfl)
theorem z9:L9 Tryz.prog 9=some (.v (.string ⟨#[]⟩)):=by kernel_rfl
set_option maxHeartbeats 4000000 in
theorem words_w (S:St):WC E1 132 [] S (fun r=>r=.ret (.sl 1 0 1 (Jk.map Cj)) S):=by
 refine Dt Tryz.f132 (by kernel_rfl) (by kernel_rfl) (by kernel_rfl) (show (_:Nat) ≤ _ from by show (_:Nat) ≤ _; simp [Tryz.f132]) ?_
 simp only [A8,Bj,Ba,Bq,A9,A7,A5,A4,Bd,Bc,B7,ofOpt,Be,Bv,Bs,Nat.reduceLT,Ac,Ae,Tryz.f132]
 have h:∀ ps,ps=(List.range 25).zip (Jk.map Cj) → Dq Tryz.prog 69 25 ps=some (.sl 1 0 1 (Jk.map Cj)):=fun ps h=>by subst h; kernel_rfl
 rw [h _ (by kernel_rfl)]
 simp only [By,Ba,Bq,A9,A7,A5,A4,Bd,Bc,A0,A1,ofOpt,Bi,B0,Bg,Cd,Nat.reduceLT,Nat.reduceEqDiff,Aa,Ab,Ad]
set_option maxHeartbeats 4000000 in
theorem signs_w (S:St):WC E1 134 [] S (fun r=>r=.ret (.sl 1 0 1 (Fb.map Cj)) S):=by
 refine Dt Tryz.f134 (by kernel_rfl) (by kernel_rfl) (by kernel_rfl) (show (_:Nat) ≤ _ from by show (_:Nat) ≤ _; simp [Tryz.f134]) ?_
 simp only [A8,Bj,Ba,Bq,A9,A7,A5,A4,Bd,Bc,B7,ofOpt,Be,Bv,Bs,Nat.reduceLT,Ac,Ae,Tryz.f134]
 have h:∀ ps,ps=(List.range 16).zip (Fb.map Cj) → Dq Tryz.prog 69 16 ps=some (.sl 1 0 1 (Fb.map Cj)):=fun ps h=>by subst h; kernel_rfl
 rw [h _ (by kernel_rfl)]
 simp only [By,Ba,Bq,A9,A7,A5,A4,Bd,Bc,A0,A1,ofOpt,Bi,B0,Bg,Cd,Nat.reduceLT,Nat.reduceEqDiff,Aa,Ab,Ad]
theorem Z7 (p:UInt8 → Bool):∀ l:List UInt8,(l.take (cnt p l)).all p=true
 | []=>rfl
 | b :: r=>by
  unfold cnt
  split
  ·rename_i h; rw [List.take_succ_cons,List.all_cons,h,Z7 p r]; rfl
  ·rfl
theorem parse_w (s:List UInt8) (hn:s ≠ []) (hd:s.all Da=true) (h:H9 0 s < 18446744073709551616) (hl:s.length ≤ 100000) (S:St):WC E1 133 [Cj s,.v (.int .i64 10),.v (.int .i64 64)] S (fun r=>r=.ret (.tup [Ro (H9 0 s),.v .nilIface]) S):=by
 refine Nq (g:=F3 puI) (by kernel_rfl) ?_
 have hs:(⟨⟨s⟩⟩:ByteArray).size=s.length:=rfl
 have hc:s ≠ [] ∧ s.all Tq=true ∧ H9 0 s < 18446744073709551616 ∧ (⟨⟨s⟩⟩:ByteArray).size ≤ 9223372036854775806:=⟨hn,hd,h,by rw [hs]; omega⟩
 have e:puI [Cj s,.v (.int .i64 10),.v (.int .i64 64)]=some (.tup [Ro (H9 0 s),.v .nilIface]):=by
  show (if s ≠ [] ∧ s.all Tq=true ∧ H9 0 s < 18446744073709551616 ∧ (⟨⟨s⟩⟩:ByteArray).size ≤ 9223372036854775806 then _ else _)=_
  rw [if_pos hc]; rfl
 simp only [F3,e]
theorem range_w (s:List UInt8) (hn:s ≠ []) (hd:s.all Da=true) (h:¬ H9 0 s < 18446744073709551616) (hl:s.length ≤ 100000) (S:St):WC E1 133 [Cj s,.v (.int .i64 10),.v (.int .i64 64)] S (fun r=>r=.ret (.tup [Ro 18446744073709551615,.iface 251 (.ep [])]) S):=by
 refine Nq (g:=F3 puI) (by kernel_rfl) ?_
 have hs:(⟨⟨s⟩⟩:ByteArray).size=s.length:=rfl
 have hc:¬ (s ≠ [] ∧ s.all Tq=true ∧ H9 0 s < 18446744073709551616 ∧ (⟨⟨s⟩⟩:ByteArray).size ≤ 9223372036854775806):=fun hh=>h hh.2.2.1
 have hc2:s ≠ [] ∧ s.all Tq=true ∧ 18446744073709551616 ≤ H9 0 s ∧ (⟨⟨s⟩⟩:ByteArray).size ≤ 281474976710656:=⟨hn,hd,by omega,by rw [hs]; omega⟩
 have e:puI [Cj s,.v (.int .i64 10),.v (.int .i64 64)]=some (.tup [Ro 18446744073709551615,.iface 251 (.ep [])]):=by
  show (if s ≠ [] ∧ s.all Tq=true ∧ H9 0 s < 18446744073709551616 ∧ (⟨⟨s⟩⟩:ByteArray).size ≤ 9223372036854775806 then _ else if s ≠ [] ∧ s.all Tq=true ∧ 18446744073709551616 ≤ H9 0 s ∧ (⟨⟨s⟩⟩:ByteArray).size ≤ 281474976710656 then _ else _)=_
  rw [if_neg hc,if_pos hc2]; rfl
 simp only [F3,e]
def mL (S:St) (p:Tk × Nat) (r:R):Prop:=∃ S',r=.ret (.tup [Fd p.1,Du p.2]) S' ∧ Ep S S'
set_option maxHeartbeats 4000000 in
theorem word_w (l:List UInt8) (hl:l.length ≤ 100000) (i:Nat) (hi:i ≤ l.length) (S:St):WC E1 100 [Cj l,Du i] S (mL S (Ln (l.drop i) i)):=by
 refine Dt Tryz.f100 (by kernel_rfl) (by kernel_rfl) (by kernel_rfl) (show (_:Nat) ≤ _ from by show (_:Nat) ≤ _; simp [Tryz.f100]) ?_
 obtain ⟨fn1,hf1⟩:=uF
 obtain ⟨fn2,hf2⟩:=yL
 obtain ⟨fn3,hf3⟩:=fnOk132
 have hc:=Ux Ds (l.drop i)
 rw [List.length_drop] at hc
 have hs:=aM l i (i + cnt Ds (l.drop i)) (by omega) (by omega)
 rw [Nat.add_sub_cancel_left] at hs
 have hL:=fun S=>Vx S ((l.drop i).take (cnt Ds (l.drop i)))
 have hlen:((l.drop i).take (cnt Ds (l.drop i))).length=cnt Ds (l.drop i):=by rw [List.length_take,List.length_drop]; omega
 rw [hlen] at hL
 simp only [Cj,Du]
 simp only [A8,Bj,Ba,Bq,A9,A7,Bb,A5,A4,Bd,Bc,B7,A0,A1,Bm,Bz,ofOpt,ofOptS,Be,Bv,Nat.reduceLT,Nat.reduceAdd,Nat.reduceEqDiff,Aa,Ab,Ac,Ae,Aj,Ak,Tryz.f100,Fv,hf1]
 refine WC.mono (Wq wordBT l hl i hi _) ?_
 rintro _ rfl
 simp only [Du]
 simp only [A8,Bj,B3,Ba,Bq,A9,A7,Bb,A5,Bf,A4,Bd,Bc,A0,A1,Bm,Bz,ofOpt,Bv,Er,Nat.reduceLT,Nat.reduceEqDiff,Aa,Ab,Ac,Ak,Option.toList,Ay,hf3,hs]
 refine WC.mono (words_w _) ?_
 rintro _ rfl
 simp only [A9,A7,Bb,A5,Bf,A4,Bd,Bc,A0,A1,Bm,Bz,ofOpt,Nat.reduceLT,Nat.reduceEqDiff,Aa,Ab,Ac,Aj,Ak,hf2]
 refine WC.mono (Uw 1 0 Jk ((l.drop i).take (cnt Ds (l.drop i))) (by decide) _) ?_
 rintro _ rfl
 have hst:∀ ys:List AV,ys.length=4 → C9 Tryz.prog (S.newBox (Df C1)) 68 (.ptr S.next 0) (.agg ys)=some ((S.newBox (Df C1)).put S.next ys):=fun ys hy=>Lp S _ ys rfl hy
 have keep:∀ ys,Ep S ((S.newBox (Df C1)).put S.next ys):=fun ys=>Ew (Dp S _) (Nat.le_refl _) ys
 by_cases hm:(l.drop i).take (cnt Ds (l.drop i)) ∈ Jk
 ·have e:Ln (l.drop i) i=(⟨3,i,(l.drop i).take (cnt Ds (l.drop i)),0⟩,0):=by unfold Ln; rw [if_pos hm]
  rw [decide_eq_true hm]
  have hb:=b68_3 _ _ _ 3 i ⟨⟨(l.drop i).take (cnt Ds (l.drop i))⟩⟩ rfl rfl rfl
  have h1:=hst [.v (.int .i64 3),.v (.int .i64 i),.v (.string ⟨⟨(l.drop i).take (cnt Ds (l.drop i))⟩⟩),Ro 0] rfl
  have h2:=Ic (S.newBox (Df C1)) S.next [.v (.int .i64 3),.v (.int .i64 i),.v (.string ⟨⟨(l.drop i).take (cnt Ds (l.drop i))⟩⟩),Ro 0] rfl
  simp only [A8,Bj,Bp,By,Ba,Co,Cq,Bq,A9,A7,Bh,Bk,A5,Bf,Cp,A4,Bd,Bc,A0,A1,Bm,ofOpt,Be,Bv,Bs,Bi,B0,Bg,Cd,Nat.reduceLT,Nat.reduceEqDiff,Aa,Ab,Ac,hb,h1,h2]
  rw [e]
  exact ⟨_,rfl,keep _⟩
 ·rw [decide_eq_false hm]
  by_cases h30:30 < cnt Ds (l.drop i)
  ·have e:Ln (l.drop i) i=(C1,3):=by unfold Ln; rw [if_neg hm,if_pos h30]
   have hg:((cnt Ds (l.drop i):Nat):Int) > 30:=by omega
   have h1:=hst (Df C1) rfl
   have h2:=Ic (S.newBox (Df C1)) S.next (Df C1) rfl
   simp only [Br,A8,Bj,Bp,By,Ba,Co,Bw,Cq,Bq,A9,A7,Bh,Bk,A5,Bf,Cp,Cc,A4,Bd,Bc,A0,A1,Bm,ofOpt,Be,Bv,Bs,B5,Bi,B0,Bg,Cd,Dr,Nat.reduceLT,Nat.reduceEqDiff,Aa,Ab,Ac,Am,Ap,hL,hg,Yz,h1,h2]
   rw [e]
   exact ⟨_,rfl,keep _⟩
  ·have e:Ln (l.drop i) i=(⟨1,i,(l.drop i).take (cnt Ds (l.drop i)),0⟩,0):=by unfold Ln; rw [if_neg hm,if_neg h30]
   have hg:¬ ((cnt Ds (l.drop i):Nat):Int) > 30:=by omega
   have hb:=b68_3 _ _ _ 1 i ⟨⟨(l.drop i).take (cnt Ds (l.drop i))⟩⟩ rfl rfl rfl
   have h1:=hst [.v (.int .i64 1),.v (.int .i64 i),.v (.string ⟨⟨(l.drop i).take (cnt Ds (l.drop i))⟩⟩),Ro 0] rfl
   have h2:=Ic (S.newBox (Df C1)) S.next [.v (.int .i64 1),.v (.int .i64 i),.v (.string ⟨⟨(l.drop i).take (cnt Ds (l.drop i))⟩⟩),Ro 0] rfl
   simp only [Br,A8,Bj,Bp,By,Ba,Bw,Bq,A9,A7,Bh,Bk,A5,Bf,Cc,A4,Bd,Bc,A0,A1,Bm,ofOpt,Be,Bv,Bs,B5,Bi,B0,Bg,Cd,Dr,Nat.reduceLT,Nat.reduceEqDiff,Aa,Ab,Ac,Am,Aq,hL,hg,hb,h1,h2]
   rw [e]
   exact ⟨_,rfl,keep _⟩
end Go.Ax
noncomputable section
namespace Go.Ax
open Go.RowKit Go.Proofs
set_option maxRecDepth 100000
theorem Pc (a b:AV):Hn Tryz.prog 66 a b=false:=by
 have h:Tryz.prog.underlying 66=some (.int .u64):=rfl
 unfold Hn; rw [h]
theorem gO:Hn Tryz.prog 110 (.iface 251 (.ep [])) (.v .nilIface)=true:=by kernel_rfl
theorem Vt:Hn Tryz.prog 110 (.v .nilIface) (.v .nilIface)=false:=by kernel_rfl
def nilO (r:OR) (S:St) (x:Option AV):OR:=match x with
 | some (.v .nilIface)=>.val (.v (.bool false)) S
 | _=>r
def yT (P:Program) (G:Gl) (f:T AV) (S:St) (o:Oper) (op:BinOp) (t:TypeId) (a b:AV):OR:=Od P G f S o op t a b
theorem Zr (f:T AV) (S:St) (k:Nat) (dst:Option Tmp) (ty:TypeId) (pos:String) (af:Array Edge) (gd:Option (Nat × Bool)) :
  Od Tryz.prog gR f S { dst:=dst,op:=.binOp .neq 110 (.tmp k) (.const .nilIface) 110,type:=ty,pos:=pos,after:=af,guard:=gd } .neq 110 (.v .nilIface) (.v .nilIface) =
  nilO (yT Tryz.prog gR f S { dst:=dst,op:=.binOp .neq 110 (.tmp k) (.const .nilIface) 110,type:=ty,pos:=pos,after:=af,guard:=gd } .neq 110 (.v .nilIface) (.v .nilIface)) S (f.get k):=by
 unfold nilO
 split
 ·rename_i hf
  have h0:Mp Tryz.prog .neq 110 (.v .nilIface) (.v .nilIface)=none:=by kernel_rfl
  unfold Od
  rw [h0]
  have hg:D6 gR f (.tmp k)=some .nilIface:=by unfold D6; simp only [Bc,hf]; rfl
  have hc:D6 gR f (.const .nilIface)=some .nilIface:=rfl
  unfold ground
  simp only [Op.operands,List.all_cons,List.all_nil,hg,hc,Option.isSome_some,Bool.and_self,Aa]
  have e:execOp (fun x=>(D6 gR f x).getD undef) { dst:=dst,op:=.binOp .neq 110 (.tmp k) (.const .nilIface) 110,type:=ty,pos:=pos,after:=af,guard:=gd }=execOp (fun _=>.nilIface) { dst:=none,op:=.binOp .neq 110 (.tmp 29) (.const .nilIface) 110,type:=4,pos := "", after:=#[],guard:=none }:=by
   simp only [execOp,hg,hc,Ae]
   rfl
  rw [e]
  have e3:(R6 Tryz.prog 4000 (execOp (fun _=>Value.nilIface) { dst:=none,op:=.binOp .neq 110 (.tmp 29) (.const .nilIface) 110,type:=4,pos := "", after:=#[],guard:=none }))=some (.bool false):=by kernel_rfl
  rw [e3]; rfl
 ·rfl
theorem Vq (r:OR) (S:St):nilO r S (some (.v .nilIface))=.val (.v (.bool false)) S:=rfl
theorem yQ:D8 .neq (.v .nilIface) (.v .nilIface)=none:=rfl
theorem head_drop (l:List UInt8) (i:Nat) (h:i < l.length):(l.drop i).head? = some l[i]:=by rw [List.drop_eq_getElem_cons h]; rfl
set_option maxHeartbeats 8000000 in
theorem number_w (l:List UInt8) (hl:l.length ≤ 100000) (i:Nat) (hi:i < l.length) (hd:Da l[i]=true) (S:St) (p:Tk × Nat) (hp:Ul (l.drop i) i=some p):WC E1 102 [Cj l,Du i] S (mL S p):=by
 refine Dt Tryz.f102 (by kernel_rfl) (by kernel_rfl) (by kernel_rfl) (show (_:Nat) ≤ _ from by show (_:Nat) ≤ _; simp [Tryz.f102]) ?_
 obtain ⟨fn1,hf1⟩:=uF
 obtain ⟨fn2,hf2⟩:=fnOk133
 have hc:=Ux Da (l.drop i)
 rw [List.length_drop] at hc
 have hc1:1 ≤ cnt Da (l.drop i):=by rw [List.drop_eq_getElem_cons hi,cnt,if_pos hd]; omega
 have hs:=aM l i (i + cnt Da (l.drop i)) (by omega) (by omega)
 rw [Nat.add_sub_cancel_left] at hs
 have hL:=fun S=>Vx S ((l.drop i).take (cnt Da (l.drop i)))
 have hlen:((l.drop i).take (cnt Da (l.drop i))).length=cnt Da (l.drop i):=by rw [List.length_take,List.length_drop]; omega
 rw [hlen] at hL
 have h00:((l.drop i).take (cnt Da (l.drop i)))[0]'(by omega)=l[i]:=by simp
 have hx:=idx9 ((l.drop i).take (cnt Da (l.drop i))) 0 (by omega)
 rw [h00] at hx
 simp only [Int.ofNat_eq_natCast,Int.cast_ofNat_Int] at hx
 have hst:∀ ys:List AV,ys.length=4 → C9 Tryz.prog (S.newBox (Df C1)) 68 (.ptr S.next 0) (.agg ys)=some ((S.newBox (Df C1)).put S.next ys):=fun ys hy=>Lp S _ ys rfl hy
 have keep:∀ ys,Ep S ((S.newBox (Df C1)).put S.next ys):=fun ys=>Ew (Dp S _) (Nat.le_refl _) ys
 have z1:=hst (Df C1) rfl
 have z2:=Ic (S.newBox (Df C1)) S.next (Df C1) rfl
 simp only [Cj,Du]
 simp only [A8,Bj,Ba,Bq,A9,A7,Bb,A5,A4,Bd,Bc,B7,A0,A1,Bm,Bz,ofOpt,ofOptS,Be,Bv,Nat.reduceLT,Nat.reduceAdd,Nat.reduceEqDiff,Aa,Ab,Ac,Ae,Aj,Ak,Tryz.f102,Fv,hf1]
 refine WC.mono (Wq digitT l hl i (by omega) _) ?_
 rintro _ rfl
 simp only [Du]
 have h48:(((l[i].toNat:Nat):Int) == 48)=decide (l[i]=48):=by
  rw [Bool.eq_iff_iff]; simp only [beq_iff_eq,decide_eq_true_iff]
  constructor
  ·intro h; exact UInt8.toNat_inj.1 (by show l[i].toNat=48; omega)
  ·intro h; rw [h]; rfl
 unfold Ul at hp
 rw [head_drop l i hi] at hp
 by_cases hz:1 < cnt Da (l.drop i) ∧ l[i]=48
 ·rw [if_pos ⟨hz.1,by rw [hz.2]⟩] at hp
  injection hp with hp; subst hp
  have hg:((cnt Da (l.drop i):Nat):Int) > 1:=by omega
  rw [decide_eq_true hz.2] at h48
  simp only [Br,A8,Bj,Bp,By,Ba,Co,Bq,A9,A7,Bh,Bb,Bk,A5,Bf,Cp,A4,Bd,Bc,A0,A1,Bm,Bz,ofOpt,Be,Bv,Er,Bs,B5,Bi,B0,Bg,Cd,Dr,Ci,Nat.reduceLT,Nat.reduceEqDiff,Aa,Ab,Ac,Af,Ag,Ah,Ai,Aj,Ak,Al,Am,Ap,Option.toList,Ay,hf2,hs,hL,hg,hx,K3,La,h48,Yz,z1,z2]
  exact ⟨_,rfl,keep _⟩
 ·rw [if_neg (fun h=>hz ⟨h.1,by have:=h.2; injection this⟩)] at hp
  split at hp
  case isFalse =>
   rename_i hv
   injection hp with hp; subst hp
   have hpw:=fun S=>range_w ((l.drop i).take (cnt Da (l.drop i))) (by intro e; rw [e] at hlen; simp at hlen; omega) (Z7 _ _) hv (by omega) S
   unfold Cj Ro at hpw
   by_cases hg:((cnt Da (l.drop i):Nat):Int) > 1
   ·have h1:¬ l[i]=48:=fun e=>hz ⟨by omega,e⟩
    rw [decide_eq_false h1] at h48
    simp only [Br,A8,Bj,Bp,Ba,Bq,A9,A7,Bb,A5,Bf,Cc,A4,Bd,Bc,A0,A1,Bm,Bz,ofOpt,Be,Bv,Er,Bs,B5,Dr,Ci,Nat.reduceLT,Nat.reduceEqDiff,Aa,Ab,Ac,Af,Ag,Ah,Ai,Aj,Ak,Al,Am,Ap,Option.toList,Ay,hf2,hs,hL,hg,hx,K3,La,h48]
    refine WC.mono (hpw _) ?_
    rintro _ rfl
    simp only [Br,A8,Bj,Bp,By,Ba,Co,Bq,A9,C0,A7,Bh,Bk,A5,Bf,Cp,A4,Bd,Bc,A0,A1,ofOpt,Be,Bv,Er,Bs,Bi,B0,Bg,Cd,Nat.reduceLT,Nat.reduceEqDiff,Aa,Ab,Ac,Af,Ag,Ah,Ai,Am,Aw,Pc,gO,B8,Yz,z1,z2]
    exact ⟨_,rfl,keep _⟩
   ·simp only [Br,A8,Bj,Bp,Ba,Bq,A9,C0,A7,Bb,A5,Bf,Cc,A4,Bd,Bc,A0,A1,Bm,Bz,ofOpt,Be,Bv,Er,Bs,B5,Dr,Nat.reduceLT,Nat.reduceEqDiff,Aa,Ab,Ac,Af,Ag,Ah,Ai,Aj,Ak,Am,Aq,Ar,Av,Option.toList,Ay,hf2,hs,hL,hg]
    refine WC.mono (hpw _) ?_
    rintro _ rfl
    simp only [Br,A8,Bj,Bp,By,Ba,Co,Bq,A9,C0,A7,Bh,Bk,A5,Bf,Cp,A4,Bd,Bc,A0,A1,ofOpt,Be,Bv,Er,Bs,Bi,B0,Bg,Cd,Nat.reduceLT,Nat.reduceEqDiff,Aa,Ab,Ac,Af,Ag,Ah,Ai,Am,Aw,Pc,gO,B8,Yz,z1,z2]
    exact ⟨_,rfl,keep _⟩
  rename_i hv
  have hpw:=fun S=>parse_w ((l.drop i).take (cnt Da (l.drop i))) (by intro e; rw [e] at hlen; simp at hlen; omega) (Z7 _ _) hv (by omega) S
  unfold Cj Ro at hpw
  by_cases hg:((cnt Da (l.drop i):Nat):Int) > 1
  ·have h1:¬ l[i]=48:=fun e=>hz ⟨by omega,e⟩
   rw [decide_eq_false h1] at h48
   simp only [Br,A8,Bj,Bp,Ba,Bq,A9,A7,Bb,A5,Bf,Cc,A4,Bd,Bc,A0,A1,Bm,Bz,ofOpt,Be,Bv,Er,Bs,B5,Dr,Ci,Nat.reduceLT,Nat.reduceEqDiff,Aa,Ab,Ac,Af,Ag,Ah,Ai,Aj,Ak,Al,Am,Ap,Option.toList,Ay,hf2,hs,hL,hg,hx,K3,La,h48]
   refine WC.mono (hpw _) ?_
   rintro _ rfl
   by_cases hb:((H9 0 ((l.drop i).take (cnt Da (l.drop i))):Nat):Int) > 9223372036854775808
   ·rw [if_pos (show 9223372036854775808 < H9 0 ((l.drop i).take (cnt Da (l.drop i))) by omega)] at hp
    injection hp with hp; subst hp
    simp only [Br,A8,Bj,Bp,By,Ba,Co,Bq,A9,A7,Bh,Bk,A5,Bf,Cp,A4,Bd,Bc,A0,A1,ofOpt,Be,Bv,Er,Bs,Bi,B0,Bg,Cd,Dr,Nat.reduceLT,Nat.reduceEqDiff,Aa,Ab,Ac,Af,Ag,Ah,Ai,Al,Am,Ap,Pc,Zr,Vq,B8,Vt,yQ,hb,Yz,z1,z2]
    exact ⟨_,rfl,keep _⟩
   ·rw [if_neg (show ¬ 9223372036854775808 < H9 0 ((l.drop i).take (cnt Da (l.drop i))) by omega)] at hp
    injection hp with hp; subst hp
    have q1:=hst [.v (.int .i64 2),.v (.int .i64 i),.v (.string ⟨⟨(l.drop i).take (cnt Da (l.drop i))⟩⟩),.v (.int .u64 (H9 0 ((l.drop i).take (cnt Da (l.drop i))):Nat))] rfl
    have q2:=Ic (S.newBox (Df C1)) S.next [.v (.int .i64 2),.v (.int .i64 i),.v (.string ⟨⟨(l.drop i).take (cnt Da (l.drop i))⟩⟩),.v (.int .u64 (H9 0 ((l.drop i).take (cnt Da (l.drop i))):Nat))] rfl
    simp only [Br,A8,Bj,Bp,By,Ba,Bq,A9,A7,Bh,Bk,A5,Bf,Cc,A4,Bd,Bc,A0,A1,ofOpt,Be,Bv,Er,Bs,Bi,B0,Bg,Cd,Dr,Nat.reduceLT,Nat.reduceEqDiff,Aa,Ab,Ac,Af,Ag,Ah,Ai,Al,Am,Aq,Pc,Zr,Vq,B8,Vt,yQ,hb,b68_4,q1,q2]
    exact ⟨_,rfl,keep _⟩
  ·simp only [Br,A8,Bj,Bp,Ba,Bq,A9,C0,A7,Bb,A5,Bf,Cc,A4,Bd,Bc,A0,A1,Bm,Bz,ofOpt,Be,Bv,Er,Bs,B5,Dr,Nat.reduceLT,Nat.reduceEqDiff,Aa,Ab,Ac,Af,Ag,Ah,Ai,Aj,Ak,Am,Aq,Ar,Av,Option.toList,Ay,hf2,hs,hL,hg]
   refine WC.mono (hpw _) ?_
   rintro _ rfl
   by_cases hb:((H9 0 ((l.drop i).take (cnt Da (l.drop i))):Nat):Int) > 9223372036854775808
   ·rw [if_pos (show 9223372036854775808 < H9 0 ((l.drop i).take (cnt Da (l.drop i))) by omega)] at hp
    injection hp with hp; subst hp
    simp only [Br,A8,Bj,Bp,By,Ba,Co,Bq,A9,A7,Bh,Bk,A5,Bf,Cp,A4,Bd,Bc,A0,A1,ofOpt,Be,Bv,Er,Bs,Bi,B0,Bg,Cd,Dr,Nat.reduceLT,Nat.reduceEqDiff,Aa,Ab,Ac,Af,Ag,Ah,Ai,Al,Am,Ap,Pc,Zr,Vq,B8,Vt,yQ,hb,Yz,z1,z2]
    exact ⟨_,rfl,keep _⟩
   ·rw [if_neg (show ¬ 9223372036854775808 < H9 0 ((l.drop i).take (cnt Da (l.drop i))) by omega)] at hp
    injection hp with hp; subst hp
    have q1:=hst [.v (.int .i64 2),.v (.int .i64 i),.v (.string ⟨⟨(l.drop i).take (cnt Da (l.drop i))⟩⟩),.v (.int .u64 (H9 0 ((l.drop i).take (cnt Da (l.drop i))):Nat))] rfl
    have q2:=Ic (S.newBox (Df C1)) S.next [.v (.int .i64 2),.v (.int .i64 i),.v (.string ⟨⟨(l.drop i).take (cnt Da (l.drop i))⟩⟩),.v (.int .u64 (H9 0 ((l.drop i).take (cnt Da (l.drop i))):Nat))] rfl
    simp only [Br,A8,Bj,Bp,By,Ba,Bq,A9,A7,Bh,Bk,A5,Bf,Cc,A4,Bd,Bc,A0,A1,ofOpt,Be,Bv,Er,Bs,Bi,B0,Bg,Cd,Dr,Nat.reduceLT,Nat.reduceEqDiff,Aa,Ab,Ac,Af,Ag,Ah,Ai,Al,Am,Aq,Pc,Zr,Vq,B8,Vt,yQ,hb,b68_4,q1,q2]
    exact ⟨_,rfl,keep _⟩
noncomputable def Va:Code:=match Tryz.f103.body with
 | some (.seq _ (.seq (.seq _ (.block _ (.loop c))) _))=>c
 | _=>.skip
set_option maxHeartbeats 8000000 in
theorem fJ (l:List UInt8) (i:Nat) (hi:i ≤ l.length) (S:St) (b:Nat) (hS:S.mem.get b=some (.box (Df C1))):∀ (m j:Nat) (t:T AV),j + m=Fb.length → t.get 0=some (Cj l) → t.get 1=some (Du i) → t.get 4=some (.ptr b 0) → t.get 8=some (.sl 1 0 1 (Fb.map Cj)) → t.get 9=some (Du Fb.length) → t.get 10=some (Du j) →
  WX E1 24 (.loop Va) ⟨t,[]⟩ S (fun r=>∃ t',t'.get 4=some (.ptr b 0) ∧ ((r=.out (.exit 0) ⟨t',[]⟩ S ∧ (Fb.drop j).find? (fun s=>D5 s (l.drop i))=none) ∨ (∃ s,r=.out .ret ⟨t',[]⟩ (S.put b (Df ⟨4,i,s,0⟩)) ∧ t'.get 5=some (Du 0) ∧ (Fb.drop j).find? (fun s=>D5 s (l.drop i))=some s)))
 | 0,j,t,hj,h0,h1,h4,h8,h9,h10=>by
  refine E9 (Em ?_)
  have hlt:¬ ((j:Int) < (Fb.length:Int)):=by omega
  have hd:Fb.drop j=[]:=List.drop_eq_nil_of_le (by omega)
  simp only [Cj,Du] at h0 h1 h8 h9 h10 ⊢
  simp only [B9,Br,A8,Bj,Bp,B3,Dk,Ba,Cg,Bq,A9,A7,A5,Cc,A4,Bd,Bc,A0,ofOpt,Bv,B5,Dj,Nat.reduceLT,Nat.reduceEqDiff,Aa,Ab,Ac,Am,Aq,Va,Tryz.f103,h8,h9,h10,hlt]
  refine ⟨_,?_,.inl ⟨rfl,by rw [hd]; rfl⟩⟩
  simp only [A0,Nat.reduceEqDiff,Ab,h4]
 | m + 1,j,t,hj,h0,h1,h4,h8,h9,h10=>by
  refine E9 (Em ?_)
  have hjl:j < Fb.length:=by omega
  have hlt:((j:Int) < (Fb.length:Int)):=by omega
  have hd:Fb.drop j=Fb[j] :: Fb.drop (j + 1):=List.drop_eq_getElem_cons hjl
  have hx:=idx69 1 0 Fb j hjl
  have h16:Fb.length=16:=rfl
  have hw:=Pq (i:=j) (by omega)
  have hs:=nG l i hi
  obtain ⟨fn1,hf1⟩:=fnOk85
  simp only [Cj,Du] at h0 h1 h8 h9 h10 hx ⊢
  simp only [B9,Br,A8,Bj,Bp,B3,Dk,Ba,Cg,Bq,A9,A7,Bb,A5,Cp,A4,Bd,Bc,A0,Bm,Bz,ofOpt,Bv,Er,B5,Dj,Nat.reduceLT,Nat.reduceEqDiff,Aa,Ab,Ac,Aj,Ak,Am,Ap,Option.toList,Ay,Az,Va,Tryz.f103,h0,h1,h8,h9,h10,hlt,hx,xK,hf1,hs]
  refine WC.mono (pre_w (l.drop i) Fb[j] S) ?_
  rintro _ rfl
  cases hb:D5 Fb[j] (l.drop i)
  ·simp only [B4,Br,A8,Bj,Bp,Ba,Bw,Bq,A9,A7,A5,Bf,Cc,A4,Bd,Bc,A0,ofOpt,Be,Bv,Bs,B5,Dv,Nat.reduceLT,Nat.reduceEqDiff,Aa,Ab,Ac,Am,h1,h10,hw]
   refine WX.mono (fJ l i hi S b hS m (j + 1) _ (by omega) ?_ ?_ ?_ ?_ ?_ ?_) ?_
   ·simp only [A0,Nat.reduceEqDiff,Ab,h0]; rfl
   ·simp only [A0,Nat.reduceEqDiff,Ab,h1]; rfl
   ·simp only [A0,Nat.reduceEqDiff,Ab,h4]
   ·simp only [A0,Nat.reduceEqDiff,Ab,h8]
   ·simp only [A0,Nat.reduceEqDiff,Ab,h9]; rfl
   ·simp only [A0,Nat.reduceEqDiff,Aa]; rfl
   ·rintro r ⟨t',h4',⟨rfl,h⟩ | ⟨s,rfl,h5,h⟩⟩
    ·exact ⟨t',h4',.inl ⟨rfl,by rw [hd,List.find?_cons,hb]; exact h⟩⟩
    ·exact ⟨t',h4',.inr ⟨s,rfl,h5,by rw [hd,List.find?_cons,hb]; exact h⟩⟩
  ·have hbl:=b68_3 _ _ _ 4 i ⟨⟨Fb[j]⟩⟩ rfl rfl rfl
   have h1s:=st68 hS rfl (show ([.v (.int .i64 4),.v (.int .i64 i),.v (.string ⟨⟨Fb[j]⟩⟩),Ro 0]:List AV).length=4 from rfl)
   simp only [B4,C3,Br,A8,Bj,Bp,By,Ba,Co,Bw,Cq,Bq,A9,A7,Bh,Bk,A5,Bf,Cp,A4,Bd,Bc,A0,ofOpt,Be,Bv,Bs,B5,Dv,Nat.reduceLT,Nat.reduceEqDiff,Aa,Ab,Ac,Am,h1,h4,h10,hbl,h1s]
   refine ⟨_,?_,.inr ⟨Fb[j],rfl,?_,by rw [hd,List.find?_cons,hb]⟩⟩
   ·simp only [A0,Nat.reduceEqDiff,Ab,h4]
   ·simp only [A0,Nat.reduceEqDiff,Aa]; rfl
set_option maxHeartbeats 8000000 in
theorem sign_w (l:List UInt8) (i:Nat) (hi:i ≤ l.length) (S:St):WC E1 103 [Cj l,Du i] S (mL S (Kp (l.drop i) i)):=by
 refine Dt Tryz.f103 (by kernel_rfl) (by kernel_rfl) (by kernel_rfl) (show (_:Nat) ≤ _ from by show (_:Nat) ≤ _; simp [Tryz.f103]) ?_
 obtain ⟨fn1,hf1⟩:=fnOk134
 have key:=fun t h0 h1 h4 h8 h9 h10=>fJ l i hi (S.newBox (Df C1)) S.next (Do S _) Fb.length 0 t (by omega) h0 h1 h4 h8 h9 h10
 unfold Va at key
 simp only [Tryz.f103] at key
 have keep:∀ ys,Ep S ((S.newBox (Df C1)).put S.next ys):=fun ys=>Ew (Dp S _) (Nat.le_refl _) ys
 have hL:=fun S=>len69 S 1 0 (Fb.map Cj)
 rw [List.length_map] at hL
 simp only [A8,Bj,Ba,Bq,A9,A7,Bb,A5,A4,Bd,Bc,B7,Bm,Bz,ofOpt,ofOptS,Be,Bv,Nat.reduceLT,Nat.reduceAdd,Ac,Ae,Ak,Tryz.f103,Fv,hf1]
 refine WC.mono (signs_w _) ?_
 rintro _ rfl
 simp only [B3,D3,Ba,Bq,A9,A7,A5,Bf,A4,Bd,Bc,A0,A1,Bm,ofOpt,Be,Bv,Nat.reduceLT,Nat.reduceEqDiff,Aa,Ab,Ac,hL]
 refine WX.mono (key _ ?_ ?_ ?_ ?_ ?_ ?_) ?_
 ·simp only [A0,A1,Nat.reduceEqDiff,Aa,Ab]
 ·simp only [A0,A1,Nat.reduceEqDiff,Aa,Ab]
 ·simp only [A0,A1,Nat.reduceEqDiff,Aa,Ab]
 ·simp only [A0,A1,Nat.reduceEqDiff,Aa,Ab]
 ·simp only [A0,A1,Nat.reduceEqDiff,Aa,Ab]; rfl
 ·simp only [A0,A1,Nat.reduceEqDiff,Aa,Ab]; rfl
 ·rintro r ⟨t',h4,⟨rfl,h⟩ | ⟨s,rfl,h5,h⟩⟩
  ·have e:Kp (l.drop i) i=(C1,1):=by unfold Kp; rw [List.drop_zero] at h; rw [h]
   have q1:=Lp S (Df C1) (Df C1) rfl rfl
   have q2:=Ic (S.newBox (Df C1)) S.next (Df C1) rfl
   simp only [A8,Bj,By,Ba,Cg,Ch,Bq,A9,A7,Bh,Bk,A5,A4,Bd,Bc,A0,ofOpt,Be,Bv,Bs,Bi,B0,Bg,Cd,Nat.reduceLT,Nat.reduceEqDiff,Aa,Ab,Ac,h4,Yz,q1,q2]
   rw [e]
   exact ⟨_,rfl,keep _⟩
  ·have e:Kp (l.drop i) i=(⟨4,i,s,0⟩,0):=by unfold Kp; rw [List.drop_zero] at h; rw [h]
   have q2:=Ic (S.newBox (Df C1)) S.next (Df ⟨4,i,s,0⟩) rfl
   simp only [Co,Cq,Bv,Bi,B0,Bg,Cd,h4,h5,q2]
   rw [e]
   exact ⟨_,rfl,keep _⟩
set_option maxHeartbeats 8000000 in
theorem next_w (l:List UInt8) (hl:l.length ≤ 100000) (i:Nat) (hi:i < l.length) (S:St) (p:Tk × Nat) (hp:Hf (l.drop i) i=some p):WC E1 66 [Cj l,Du i] S (mL S p):=by
 refine Dt Tryz.f66 (by kernel_rfl) (by kernel_rfl) (by kernel_rfl) (show (_:Nat) ≤ _ from by show (_:Nat) ≤ _; simp [Tryz.f66]) ?_
 obtain ⟨fn1,hf1⟩:=fnOk99
 obtain ⟨fn2,hf2⟩:=fnOk100
 obtain ⟨fn3,hf3⟩:=yM
 obtain ⟨fn4,hf4⟩:=fnOk102
 obtain ⟨fn5,hf5⟩:=fnOk103
 have hx:=idx9 l i hi
 rw [List.drop_eq_getElem_cons hi] at hp
 simp only [Hf] at hp
 rw [← List.drop_eq_getElem_cons hi] at hp
 simp only [Cj,Du]
 simp only [A8,Bj,B3,Ba,Bq,A9,A7,Bb,A5,A4,Bd,Bc,B7,A0,A1,Bm,Bz,ofOpt,ofOptS,Be,Bv,Nat.reduceLT,Nat.reduceAdd,Nat.reduceEqDiff,Aa,Ab,Ac,Ae,Aj,Ak,Tryz.f66,Fv,hf1,hx]
 refine WC.mono (pE l[i] _) ?_
 rintro _ rfl
 have fin:∀ S2:St,Ep (S.newBox (Df C1)) S2 → ∀ q:Tk,C9 Tryz.prog S2 68 (.ptr S.next 0) (Fd q)=some (S2.put S.next (Df q)) ∧ Cv Tryz.prog (S2.put S.next (Df q)) 68 (.ptr S.next 0)=some (Fd q) ∧ Ep S (S2.put S.next (Df q)):=fun S2 hk q =>
  ⟨st68 (by rw [hk.2 S.next (Nat.lt_succ_self _)]; exact Do S _) rfl rfl,Ic _ _ _ rfl,Ew ((Dp S _).trans hk) (Nat.le_refl _) _⟩
 cases hb:F0 l[i]
 ·rw [hb] at hp
  simp only [Am,Ab] at hp
  simp only [A8,Bj,Bp,Ba,Bq,A9,A7,Bb,A5,Bf,Cc,A4,Bd,Bc,A0,A1,Bm,Bz,ofOpt,Nat.reduceLT,Nat.reduceEqDiff,Aa,Ab,Ac,Aj,Ak,hf2,hf3]
  refine WC.mono (mB l[i] _) ?_
  rintro _ rfl
  cases hb2:Da l[i]
  ·rw [hb2] at hp
   simp only [Am,Ab] at hp
   injection hp with hp; subst hp
   simp only [Br,A8,Bj,Bp,Ba,Bw,Bq,A9,A7,Bb,A5,Bf,Cc,A4,Bd,Bc,A0,A1,Bm,Bz,ofOpt,Nat.reduceLT,Nat.reduceEqDiff,Aa,Ab,Ac,Aj,Ak,hf4,hf5]
   refine WC.mono (sign_w l i (by omega) _) ?_
   rintro _ ⟨S2,rfl,hk⟩
   obtain ⟨q1,q2,q3⟩:=fin S2 hk (Kp (l.drop i) i).1
   simp only [By,Ba,Bq,A9,A7,Bh,Bk,A5,Bf,A4,Bd,Bc,A0,A1,ofOpt,Bv,Bi,B0,Bg,Cd,Nat.reduceLT,Nat.reduceEqDiff,Aa,Ab,Ac,Ag,Ah,B8,q1,q2]
   exact ⟨_,rfl,q3⟩
  ·rw [hb2] at hp
   simp only [Aa] at hp
   simp only [Br,A8,Bj,Bp,Ba,Bw,Bq,A9,A7,Bb,A5,Bf,Cp,A4,Bd,Bc,A0,A1,Bm,Bz,ofOpt,Nat.reduceLT,Nat.reduceEqDiff,Aa,Ab,Ac,Aj,Ak,hf4,hf5]
   refine WC.mono (number_w l hl i hi hb2 _ p hp) ?_
   rintro _ ⟨S2,rfl,hk⟩
   obtain ⟨q1,q2,q3⟩:=fin S2 hk p.1
   simp only [By,Ba,Co,Cq,Bq,A9,A7,Bh,Bk,A5,Bf,A4,Bd,Bc,A0,A1,ofOpt,Bv,Bi,B0,Bg,Cd,Nat.reduceLT,Nat.reduceEqDiff,Aa,Ab,Ac,Ag,Ah,B8,q1,q2]
   exact ⟨_,rfl,q3⟩
 ·rw [hb] at hp
  simp only [Aa] at hp
  injection hp with hp; subst hp
  simp only [A8,Bj,Bp,Ba,Bq,A9,A7,Bb,A5,Bf,Cp,A4,Bd,Bc,A0,A1,Bm,Bz,ofOpt,Nat.reduceLT,Nat.reduceEqDiff,Aa,Ab,Ac,Aj,Ak,hf2,hf3]
  refine WC.mono (word_w l hl i (by omega) _) ?_
  rintro _ ⟨S2,rfl,hk⟩
  obtain ⟨q1,q2,q3⟩:=fin S2 hk (Ln (l.drop i) i).1
  simp only [By,Ba,Co,Cq,Bq,A9,A7,Bh,Bk,A5,Bf,A4,Bd,Bc,A0,A1,ofOpt,Bv,Bi,B0,Bg,Cd,Nat.reduceLT,Nat.reduceEqDiff,Aa,Ab,Ac,Ag,Ah,B8,q1,q2]
  exact ⟨_,rfl,q3⟩
end Go.Ax
