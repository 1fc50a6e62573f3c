/- Rx -/
import Derived.Test.YtjgknelmjdallaaGreatDoorBkG22
import Derived.Test.YtjgknelmjdallaaGreatDoorBkG23
set_option linter.unusedVariables false
set_option linter.unusedSimpArgs false
noncomputable section
namespace Go.Ax
open Go.RowKit Go.Proofs
set_option maxRecDepth 100000
theorem and_eq (F:Operand → Value) (dst:Option Tmp) (k:Tmp) (c:Int) (ty ty2:TypeId) (pos:String) (af:Array Edge) (gd:Option (Nat × Bool)):execOp F { dst:=dst,op:=.binOp .and 3 (.tmp k) (.const (.int .i64 c)) ty2,type:=ty,pos:=pos,after:=af,guard:=gd }=execOp (mT (F (.tmp k)) (F (.const (.int .i64 c)))) { dst:=none,op:=.binOp .and 3 (.tmp 0) (.tmp 1) 3,type:=ty,pos := "", after:=#[],guard:=none }:=rfl
theorem and_val (a c:Int) (ty:TypeId):P3 Tryz.prog 4000 (execOp (mT (.int .i64 a) (.int .i64 c)) { dst:=none,op:=.binOp .and 3 (.tmp 0) (.tmp 1) 3,type:=ty,pos := "", after:=#[],guard:=none })=some (.int .i64 (bits .and .i64 a c)):=by kernel_rfl
def andO (r:OR) (S:St) (c:Int) (x:Option AV):OR:=match x with
 | some (.v (.int .i64 a))=>.val (.v (.int .i64 (bits .and .i64 a c))) S
 | _=>r
theorem fL (r:OR) (S:St) (c a:Int):andO r S c (some (.v (.int .i64 a)))=.val (.v (.int .i64 (bits .and .i64 a c))) S:=_root_.id rfl
theorem Ys (a c:Int):Ea .and (.v (.int .i64 a)) (.v (.int .i64 c))=none:=by simp [Ea]
theorem eG (f:T AV) (S:St) (dst:Option Tmp) (k:Tmp) (c x:Int) (ty ty2:TypeId) (pos:String) (af:Array Edge) (gd:Option (Nat × Bool)) :
  Ma Tryz.prog G7 f S { dst:=dst,op:=.binOp .and 3 (.tmp k) (.const (.int .i64 c)) ty2,type:=ty,pos:=pos,after:=af,guard:=gd } .and 3 (.v (.int .i64 x)) (.v (.int .i64 c))=andO (eH Tryz.prog G7 f S { dst:=dst,op:=.binOp .and 3 (.tmp k) (.const (.int .i64 c)) ty2,type:=ty,pos:=pos,after:=af,guard:=gd } .and 3 (.v (.int .i64 x)) (.v (.int .i64 c))) S c (f.get k):=by
 unfold andO
 split
 ·rename_i a h1
  have hg1:Dm G7 f (.tmp k)=some (.int .i64 a):=by unfold Dm; simp only [Ba,h1]; rfl
  have hg2:Dm G7 f (.const (.int .i64 c))=some (.int .i64 c):=rfl
  have h0:Lh Tryz.prog .and 3 (.v (.int .i64 x)) (.v (.int .i64 c))=none:=rfl
  unfold Ma
  rw [h0]
  simp only
  unfold ground
  have hall:((Op.binOp .and 3 (.tmp k) (.const (.int .i64 c)) ty2:Op).operands.toList.all fun x=>(Dm G7 f x).isSome)=true:=by
   show ([Operand.tmp k,Operand.const (.int .i64 c)].all fun x=>(Dm G7 f x).isSome)=true
   simp only [List.all_cons,List.all_nil,hg1,hg2,Option.isSome_some,Bool.and_self]
  refine (if_pos hall).trans ?_
  rw [and_eq]
  have e1:(Dm G7 f (.tmp k)).getD undef=.int .i64 a:=by rw [hg1]; rfl
  have e2:(Dm G7 f (.const (.int .i64 c))).getD undef=.int .i64 c:=by rw [hg2]; rfl
  simp only [e1,e2,and_val]
  rfl
 ·rfl
theorem bd33:Ho Tryz.prog 33 []=some (.agg (Dc 0 0)):=by kernel_rfl
theorem nn33 (a b:AV):Hs Tryz.prog 33 a b=false:=by
 have u33:(match Tryz.prog.underlying 33 with | some (.struct _)=>true | _=>false)=true:=by kernel_rfl
 unfold Hs
 split at u33
 ·rename_i h; rw [h]
 ·cases u33
noncomputable def vP (P:Program) (t:TypeId):Bool:=match P.underlying t with
 | some (.int _)=>true
 | _=>false
theorem rD {P:Program} {t:TypeId} (h:vP P t=true):∃ k,P.underlying t=some (.int k):=by
 unfold vP at h
 split at h
 ·rename_i k hk; exact ⟨k,hk⟩
 ·cases h
noncomputable def yT (P:Program) (f:Field) (o:Nat):Bool:=!decide (f.name = "_") && decide (f.offset=o) && decide (Fm P f.type=some false) && vP P f.type
noncomputable def vY:Bool:=match fieldsOf Tryz.prog 33 with
 | some fs=>(match fs.toList with
  | [f,g]=>yT Tryz.prog f 0 && yT Tryz.prog g 1 && !(Tryz.prog.stoodInHeld 33) && !(Tryz.prog.eqGuardType Tryz.prog.depth 33)
  | _=>false)
 | none=>false
theorem jU:vY=true:=by kernel_rfl
theorem Rn {P:Program} {f:Field} {o:Nat} (h:yT P f o=true):f.name ≠ "_" ∧ f.offset=o ∧ Fm P f.type=some false ∧ ∃ k,P.underlying f.type=some (.int k):=by
 unfold yT at h
 simp only [Bool.and_eq_true,decide_eq_true_eq,Bool.not_eq_true',decide_eq_false_iff_not] at h
 exact ⟨h.1.1.1,h.1.1.2,h.1.2,rD h.2⟩
theorem fe33 (a e:Int):Lh Tryz.prog .eql 33 (.agg [.v (.int .i64 a),.v (.int .i64 e)]) (.agg [.v (.int .i64 0),.v (.int .i64 0)])=some (.v (.bool ((a == 0) && ((e == 0) && true)))):=by
 have h:=jU
 unfold vY at h
 split at h
 ·rename_i fs hfs
  split at h
  ·rename_i f g hl
   simp only [Bool.and_eq_true,Bool.not_eq_true'] at h
   obtain ⟨⟨⟨h1,h2⟩,h3⟩,h4⟩:=h
   obtain ⟨f1,f2,f3,k1,f4⟩:=Rn h1
   obtain ⟨g1,g2,g3,k2,g4⟩:=Rn h2
   cases ha:(a == 0) <;> cases he:(e == 0) <;> simp [Lh,hfs,h3,h4,hl,Yu,f1,f2,f3,g1,g2,g3,eI,f4,g4,ha,he]
  ·cases h
 ·cases h
end Go.Ax
noncomputable section
namespace Go.Ax
open Go.RowKit Go.Proofs
set_option maxRecDepth 100000
theorem fn8_13:∃ fn,E8.F 13=some fn:=Option.isSome_iff_exists.1 (by kernel_rfl)
theorem Lg:∃ fn,E8.F 14=some fn:=Option.isSome_iff_exists.1 (by kernel_rfl)
theorem fn8_16:∃ fn,E8.F 16=some fn:=Option.isSome_iff_exists.1 (by kernel_rfl)
theorem Yo:∃ fn,E8.F 38=some fn:=Option.isSome_iff_exists.1 (by kernel_rfl)
theorem fn8_39:∃ fn,E8.F 39=some fn:=Option.isSome_iff_exists.1 (by kernel_rfl)
theorem Lz:∃ fn,E8.F 40=some fn:=Option.isSome_iff_exists.1 (by kernel_rfl)
theorem Mr:∃ fn,E8.F 41=some fn:=Option.isSome_iff_exists.1 (by kernel_rfl)
theorem Ly:∃ fn,E8.F 42=some fn:=Option.isSome_iff_exists.1 (by kernel_rfl)
theorem Mq:∃ fn,E8.F 43=some fn:=Option.isSome_iff_exists.1 (by kernel_rfl)
def ungX (P:Program) (G:Gl) (f:T AV) (S:St) (o:Oper):OR:=ground P G f S o
theorem neg7 (f:T AV) (S:St) (dst:Option Tmp) (k:Tmp) (ty:TypeId) (pos:String) (af:Array Edge) (gd:Option (Nat × Bool)) :
  ground Tryz.prog G7 f S { dst:=dst,op:=.unOp .neg 2 (.tmp k),type:=ty,pos:=pos,after:=af,guard:=gd }=negO (ungX Tryz.prog G7 f S { dst:=dst,op:=.unOp .neg 2 (.tmp k),type:=ty,pos:=pos,after:=af,guard:=gd }) S (f.get k):=by
 unfold negO
 split
 ·rename_i n h
  have hg:Dm G7 f (.tmp k)=some (.int .i64 n):=by unfold Dm; simp only [Ba,h]; rfl
  unfold ground
  simp only [Op.operands,List.all_cons,List.all_nil,hg,Option.isSome_some,Bool.and_self,Aa]
  have e:execOp (fun x=>(Dm G7 f x).getD undef) { dst:=dst,op:=.unOp .neg 2 (.tmp k),type:=ty,pos:=pos,after:=af,guard:=gd }=execOp (fun _=>.int .i64 n) { dst:=none,op:=.unOp .neg 2 (.tmp 0),type:=ty,pos := "", after:=#[],guard:=none }:=by
   simp only [execOp,hg,Ae]
  rw [e]
  have e3:P3 Tryz.prog 4000 (execOp (fun _=>Value.int .i64 n) { dst:=none,op:=.unOp .neg 2 (.tmp 0),type:=ty,pos := "", after:=#[],guard:=none })=some (.int .i64 (IntKind.i64.wrap (0 - n))):=by rfl
  rw [e3]; rfl
 ·rfl
theorem quo_eq (F:Operand → Value) (dst:Option Tmp) (k:Tmp) (c:Int) (ty ty2:TypeId) (pos:String) (af:Array Edge) (gd:Option (Nat × Bool)):execOp F { dst:=dst,op:=.binOp .quo 2 (.tmp k) (.const (.int .i64 c)) ty2,type:=ty,pos:=pos,after:=af,guard:=gd }=execOp (mT (F (.tmp k)) (F (.const (.int .i64 c)))) { dst:=none,op:=.binOp .quo 2 (.tmp 0) (.tmp 1) 2,type:=ty,pos := "", after:=#[],guard:=none }:=by kernel_rfl
theorem quo_val (a:Int) (ty:TypeId):P3 Tryz.prog 4000 (execOp (mT (.int .i64 a) (.int .i64 10)) { dst:=none,op:=.binOp .quo 2 (.tmp 0) (.tmp 1) 2,type:=ty,pos := "", after:=#[],guard:=none })=some (.int .i64 (IntKind.i64.wrap (a.tdiv 10))):=by kernel_rfl
def quoO (r:OR) (S:St) (x:Option AV):OR:=match x with
 | some (.v (.int .i64 a))=>.val (.v (.int .i64 (IntKind.i64.wrap (a.tdiv 10)))) S
 | _=>r
theorem quoO_i (r:OR) (S:St) (a:Int):quoO r S (some (.v (.int .i64 a)))=.val (.v (.int .i64 (IntKind.i64.wrap (a.tdiv 10)))) S:=_root_.id rfl
theorem fb_quo (a c:Int):Ea .quo (.v (.int .i64 a)) (.v (.int .i64 c))=none:=by simp [Ea]
theorem sG (f:T AV) (S:St) (dst:Option Tmp) (k:Tmp) (x:Int) (ty ty2:TypeId) (pos:String) (af:Array Edge) (gd:Option (Nat × Bool)) :
  Ma Tryz.prog G7 f S { dst:=dst,op:=.binOp .quo 2 (.tmp k) (.const (.int .i64 10)) ty2,type:=ty,pos:=pos,after:=af,guard:=gd } .quo 2 (.v (.int .i64 x)) (.v (.int .i64 10))=quoO (eH Tryz.prog G7 f S { dst:=dst,op:=.binOp .quo 2 (.tmp k) (.const (.int .i64 10)) ty2,type:=ty,pos:=pos,after:=af,guard:=gd } .quo 2 (.v (.int .i64 x)) (.v (.int .i64 10))) S (f.get k):=by
 unfold quoO
 split
 ·rename_i a h1
  have hg1:Dm G7 f (.tmp k)=some (.int .i64 a):=by unfold Dm; simp only [Ba,h1]; rfl
  have hg2:Dm G7 f (.const (.int .i64 10))=some (.int .i64 10):=rfl
  have h0:Lh Tryz.prog .quo 2 (.v (.int .i64 x)) (.v (.int .i64 10))=none:=rfl
  unfold Ma
  rw [h0]
  simp only
  unfold ground
  have hall:((Op.binOp .quo 2 (.tmp k) (.const (.int .i64 10)) ty2:Op).operands.toList.all fun x=>(Dm G7 f x).isSome)=true:=by
   show ([Operand.tmp k,Operand.const (.int .i64 10)].all fun x=>(Dm G7 f x).isSome)=true
   simp only [List.all_cons,List.all_nil,hg1,hg2,Option.isSome_some,Bool.and_self]
  refine (if_pos hall).trans ?_
  rw [quo_eq]
  have e1:(Dm G7 f (.tmp k)).getD undef=.int .i64 a:=by rw [hg1]; rfl
  have e2:(Dm G7 f (.const (.int .i64 10))).getD undef=.int .i64 10:=by rw [hg2]; rfl
  simp only [e1,e2,quo_val]
  rfl
 ·rfl
theorem nP (k:IntKind) (x y:Int) (h:0 < y):Ea .rem (.v (.int k x)) (.v (.int k y))=some (.v (.int k (x.tmod y))):=by simp [Ea,h]
theorem tmod_lt (n:Int) (m:Nat) (h:0 < m):-(m:Int) < n.tmod m ∧ n.tmod m < m:=by
 have h1:=Int.emod_nonneg n.natAbs (show (m:Int) ≠ 0 by omega)
 have h2:=Int.emod_lt_of_pos n.natAbs (show (0:Int) < m by omega)
 rcases Int.natAbs_eq n with e | e
 ·rw [e,Int.tmod_eq_emod_of_nonneg (by omega)]; omega
 ·rw [e,Int.neg_tmod,Int.tmod_eq_emod_of_nonneg (by omega)]; omega
theorem Kq (n:Int) (h:-1000000000 ≤ n ∧ n ≤ 1000000000):IntKind.i64.wrap n=n:=IntWalk.i64_in _ (by omega)
set_option maxHeartbeats 16000000 in
theorem dF (n:Int) (m:Nat) (h0:0 < m) (hm:m ≤ 1000) (S:St):WC E8 38 [.v (.int .i64 n),.v (.int .i64 (m:Int))] S (fun r=>∃ k:Nat,r=.ret (.v (.int .i64 (k:Int))) S ∧ k < m):=by
 refine Dx Tryz.f38 (by kernel_rfl) (by kernel_rfl) (by kernel_rfl) (show (_:Nat) ≤ _ from by show (_:Nat) ≤ _; simp [Tryz.f38]) ?_
 obtain ⟨b1,b2⟩:=tmod_lt n m h0
 have r1:=nP .i64 n m (by omega)
 have hw:IntKind.i64.wrap (n.tmod m + (m:Int))=n.tmod m + m:=Kq _ (by omega)
 have r2:=nP .i64 (n.tmod m + (m:Int)) m (by omega)
 have hk:(n.tmod m + (m:Int)).tmod m=(((n.tmod m + (m:Int)).toNat % m:Nat):Int):=by
  rw [Int.tmod_eq_emod_of_nonneg (by omega)]
  rw [Int.natCast_emod,Int.toNat_of_nonneg (by omega)]
 rw [hk] at r2
 simp only [A6,Bl,Bw,A4,Bh,A7,Bj,Bi,A5,Bc,Ba,Cc,A0,A1,ofOpt,Bb,Bv,Bg,By,Bf,Cl,Dl,Nat.reduceLT,Nat.reduceAdd,Nat.reduceEqDiff,Aa,Ab,Ac,Ae,Am,D6,Tryz.f38,r1,r2,hw]
 exact ⟨_,rfl,Nat.mod_lt _ h0⟩
theorem names_w (S:St):WC E8 39 [] S (fun r=>r=.ret (.sl 1 0 1 [Bp [120],Bp [121],Bp [122],Bp [98],Bp [99],Bp [117],Bp [102],Bp [103],Bp [104]]) S):=by
 refine Dx Tryz.f39 (by kernel_rfl) (by kernel_rfl) (by kernel_rfl) (show (_:Nat) ≤ _ from by show (_:Nat) ≤ _; simp [Tryz.f39]) ?_
 have row:Dv Tryz.prog 69 9 [(0,.v (.string ⟨⟨[120]⟩⟩)),(1,.v (.string ⟨⟨[121]⟩⟩)),(2,.v (.string ⟨⟨[122]⟩⟩)),(3,.v (.string ⟨⟨[98]⟩⟩)),(4,.v (.string ⟨⟨[99]⟩⟩)),(5,.v (.string ⟨⟨[117]⟩⟩)),(6,.v (.string ⟨⟨[102]⟩⟩)),(7,.v (.string ⟨⟨[103]⟩⟩)),(8,.v (.string ⟨⟨[104]⟩⟩))]=some (.sl 1 0 1 [Bp [120],Bp [121],Bp [122],Bp [98],Bp [99],Bp [117],Bp [102],Bp [103],Bp [104]]):=by kernel_rfl
 simp only [A6,Bl,Bw,A4,Bh,A7,Bj,Bi,A5,Bc,Ba,Cc,A0,A1,ofOpt,Bb,Bu,Bg,By,Bf,Cl,Nat.reduceLT,Nat.reduceEqDiff,Aa,Ab,Ad,Ae,D6,Tryz.f39,row]
-- numbers
theorem dig_0:F3 Tryz.prog 9 (.v (.string ⟨⟨[48,49,50,51,52,53,54,55,56,57]⟩⟩)) (some (.v (.int .i64 ((0:Nat):Int)))) (some (.v (.int .i64 ((0 + 1:Nat):Int))))=some (.v (.string ⟨⟨[UInt8.ofNat (48 + 0)]⟩⟩)):=by kernel_rfl
theorem dig_1:F3 Tryz.prog 9 (.v (.string ⟨⟨[48,49,50,51,52,53,54,55,56,57]⟩⟩)) (some (.v (.int .i64 ((1:Nat):Int)))) (some (.v (.int .i64 ((1 + 1:Nat):Int))))=some (.v (.string ⟨⟨[UInt8.ofNat (48 + 1)]⟩⟩)):=by kernel_rfl
theorem dig_2:F3 Tryz.prog 9 (.v (.string ⟨⟨[48,49,50,51,52,53,54,55,56,57]⟩⟩)) (some (.v (.int .i64 ((2:Nat):Int)))) (some (.v (.int .i64 ((2 + 1:Nat):Int))))=some (.v (.string ⟨⟨[UInt8.ofNat (48 + 2)]⟩⟩)):=by kernel_rfl
theorem dig_3:F3 Tryz.prog 9 (.v (.string ⟨⟨[48,49,50,51,52,53,54,55,56,57]⟩⟩)) (some (.v (.int .i64 ((3:Nat):Int)))) (some (.v (.int .i64 ((3 + 1:Nat):Int))))=some (.v (.string ⟨⟨[UInt8.ofNat (48 + 3)]⟩⟩)):=by kernel_rfl
theorem dig_4:F3 Tryz.prog 9 (.v (.string ⟨⟨[48,49,50,51,52,53,54,55,56,57]⟩⟩)) (some (.v (.int .i64 ((4:Nat):Int)))) (some (.v (.int .i64 ((4 + 1:Nat):Int))))=some (.v (.string ⟨⟨[UInt8.ofNat (48 + 4)]⟩⟩)):=by kernel_rfl
theorem dig_5:F3 Tryz.prog 9 (.v (.string ⟨⟨[48,49,50,51,52,53,54,55,56,57]⟩⟩)) (some (.v (.int .i64 ((5:Nat):Int)))) (some (.v (.int .i64 ((5 + 1:Nat):Int))))=some (.v (.string ⟨⟨[UInt8.ofNat (48 + 5)]⟩⟩)):=by kernel_rfl
theorem dig_6:F3 Tryz.prog 9 (.v (.string ⟨⟨[48,49,50,51,52,53,54,55,56,57]⟩⟩)) (some (.v (.int .i64 ((6:Nat):Int)))) (some (.v (.int .i64 ((6 + 1:Nat):Int))))=some (.v (.string ⟨⟨[UInt8.ofNat (48 + 6)]⟩⟩)):=by kernel_rfl
theorem dig_7:F3 Tryz.prog 9 (.v (.string ⟨⟨[48,49,50,51,52,53,54,55,56,57]⟩⟩)) (some (.v (.int .i64 ((7:Nat):Int)))) (some (.v (.int .i64 ((7 + 1:Nat):Int))))=some (.v (.string ⟨⟨[UInt8.ofNat (48 + 7)]⟩⟩)):=by kernel_rfl
theorem dig_8:F3 Tryz.prog 9 (.v (.string ⟨⟨[48,49,50,51,52,53,54,55,56,57]⟩⟩)) (some (.v (.int .i64 ((8:Nat):Int)))) (some (.v (.int .i64 ((8 + 1:Nat):Int))))=some (.v (.string ⟨⟨[UInt8.ofNat (48 + 8)]⟩⟩)):=by kernel_rfl
theorem dig_9:F3 Tryz.prog 9 (.v (.string ⟨⟨[48,49,50,51,52,53,54,55,56,57]⟩⟩)) (some (.v (.int .i64 ((9:Nat):Int)))) (some (.v (.int .i64 ((9 + 1:Nat):Int))))=some (.v (.string ⟨⟨[UInt8.ofNat (48 + 9)]⟩⟩)):=by kernel_rfl
theorem digSl (k:Nat) (h:k < 10):F3 Tryz.prog 9 (.v (.string ⟨⟨[48,49,50,51,52,53,54,55,56,57]⟩⟩)) (some (.v (.int .i64 (k:Int)))) (some (.v (.int .i64 ((k + 1:Nat):Int))))=some (.v (.string ⟨⟨[UInt8.ofNat (48 + k)]⟩⟩)):=by
 match k,h with
 | 0,_=>exact dig_0
 | 1,_=>exact dig_1
 | 2,_=>exact dig_2
 | 3,_=>exact dig_3
 | 4,_=>exact dig_4
 | 5,_=>exact dig_5
 | 6,_=>exact dig_6
 | 7,_=>exact dig_7
 | 8,_=>exact dig_8
 | 9,_=>exact dig_9
 | k + 10,h=>exact absurd h (by omega)
theorem W4 (n:Int) (h:n < 0):Lib.itoa n=45 :: Lib.decDigits n.natAbs:=by unfold Lib.itoa; rw [if_pos h]
theorem Qx (n:Int) (h:¬ n < 0):Lib.itoa n=Lib.decDigits n.natAbs:=by unfold Lib.itoa; rw [if_neg h,show n.toNat=n.natAbs by omega]
theorem kF (k:Nat) (h:k < 10):Lib.decDigits k=[UInt8.ofNat (48 + k)]:=by rw [Lib.decDigits,dif_pos h]
theorem dec_big (k:Nat) (h:¬ k < 10):Lib.decDigits k=Lib.decDigits (k / 10) ++ [UInt8.ofNat (48 + k % 10)]:=by rw [Lib.decDigits,dif_neg h]
theorem tdiv_abs (n:Int):(n.tdiv 10).natAbs=n.natAbs / 10:=by rw [Int.natAbs_tdiv]; rfl
theorem tmod_abs (n:Int):(n.tmod 10).natAbs=n.natAbs % 10:=by simp [Int.natAbs_tmod]
set_option maxHeartbeats 16000000 in
theorem sI:∀ (N:Nat) (n:Int),2 * n.natAbs + (if n < 0 then 1 else 0) < N → -9223372036854775808 ≤ n ∧ n ≤ 9223372036854775807 → ∀ S,WC E8 40 [.v (.int .i64 n)] S (fun r=>r=.ret (Bp (Lib.itoa n)) S)
 | 0,n,h,_,S=>absurd h (Nat.not_lt_zero _)
 | N + 1,n,hN,hb,S=>by
  refine Dx Tryz.f40 (by kernel_rfl) (by kernel_rfl) (by kernel_rfl) (show (_:Nat) ≤ _ from by show (_:Nat) ≤ _; simp [Tryz.f40]) ?_
  obtain ⟨fn1,hf1⟩:=Lz
  have ih:=sI N
  have td:=tdiv_abs n
  have tm:=tmod_abs n
  have hlen:=fun m h=>rA m h
  have hd:=Int.mul_tdiv_add_tmod n 10
  by_cases hneg:n < 0
  ·rw [if_pos hneg] at hN
   by_cases h10:n > -10
   ·have hw:IntKind.i64.wrap (0 - n)=-n:=by rw [Kq _ (by omega)]; omega
    have hc:=C5 [45] (Lib.itoa (-n)) (by have:=hlen (-n) (by omega); simp; omega)
    simp only [Br,A6,Ch,Bl,Bq,A4,Bh,A7,Bj,Cb,Bi,Ci,A5,Bc,Ba,Cc,A0,A1,Bo,B5,ofOpt,Bb,Dd,Do,Dl,Nat.reduceLT,Nat.reduceEqDiff,Aa,Ab,Ac,Ae,Aj,Ak,Am,Ap,Option.toList,Ay,D6,Hx,Dq,Tryz.f40,hneg,h10,neg7,uU,hw,hf1]
    refine WC.mono (ih (-n) (by rw [if_neg (by omega)]; omega) (by omega) S) ?_
    rintro _ rfl
    unfold Bp
    simp only [Bw,A4,B0,Bh,A7,Bj,Bi,Cz,A5,Bc,Ba,A0,A1,ofOpt,Bb,Bg,By,Bf,Cl,Nat.reduceLT,Nat.reduceEqDiff,Aa,Ab,Ac,Am,D6,Cy,hc]
    rw [W4 n hneg,Qx (-n) (by omega),Int.natAbs_neg]
    rfl
   ·have hq:IntKind.i64.wrap (n.tdiv 10)=n.tdiv 10:=IntWalk.i64_in _ (by omega)
    have hr:=nP .i64 n 10 (by omega)
    have hw:IntKind.i64.wrap (0 - n.tmod 10)=-(n.tmod 10):=by rw [Kq _ (by omega)]; omega
    have hc:=C5 (Lib.itoa (n.tdiv 10)) (Lib.itoa (-(n.tmod 10))) (by have:=hlen (n.tdiv 10) (by omega); have:=hlen (-(n.tmod 10)) (by omega); omega)
    simp only [Br,A6,Ch,Bl,Bq,A4,Bh,A7,Bj,Cb,Bi,Ci,Cg,A5,Bc,Ba,Cc,A0,A1,Bo,B5,ofOpt,Bb,Dd,Do,Dl,Nat.reduceLT,Nat.reduceEqDiff,Aa,Ab,Ac,Ae,Aj,Ak,Am,Ap,Aq,Option.toList,Ay,D6,Hx,Dq,Tryz.f40,hneg,h10,fb_quo,sG,quoO_i,hq,hf1]
    refine WC.mono (ih (n.tdiv 10) (by split <;> omega) (by omega) S) ?_
    rintro _ rfl
    simp only [A7,Bj,Cb,Bi,Cz,A5,Bc,Ba,A0,A1,Bo,B5,ofOpt,Bb,Nat.reduceLT,Nat.reduceEqDiff,Aa,Ab,Ac,Aj,Ak,Am,D6,Hx,Dq,hr,neg7,uU,hw,hf1]
    refine WC.mono (ih (-(n.tmod 10)) (by rw [if_neg (by omega)]; omega) (by omega) S) ?_
    rintro _ rfl
    unfold Bp
    simp only [Bw,A4,B0,Bh,A7,Bj,Bi,Cz,A5,Bc,Ba,A0,A1,ofOpt,Bg,By,Bf,Cl,Nat.reduceLT,Nat.reduceEqDiff,Aa,Ab,Ac,Am,D6,Cy,hc]
    have e1:n.tdiv 10 < 0:=by omega
    rw [W4 n hneg,W4 _ e1,Qx _ (by omega),Int.natAbs_neg,td,tm,dec_big n.natAbs (by omega),kF (n.natAbs % 10) (by omega)]
    rfl
  ·rw [if_neg hneg] at hN
   by_cases h10:n < 10
   ·obtain ⟨k,rfl⟩:∃ k:Nat,n=k:=⟨n.toNat,by omega⟩
    have hw:=Ka (i:=k) (by omega)
    have hs:=digSl k (by omega)
    simp only [Br,A6,Ch,Bl,Bq,Bw,A4,B0,Bh,A7,Bj,Bi,Ci,Cg,A5,Bc,Ba,Cc,A0,A1,B5,ofOpt,Bb,Bg,By,Bf,Cl,Dd,Do,Dl,Nat.reduceLT,Nat.reduceEqDiff,Aa,Ab,Ac,Ae,Am,Ap,Aq,Option.toList,Ay,D6,Hx,Dq,Tryz.f40,hneg,h10,hw,hs]
    rw [Qx _ hneg,Int.natAbs_natCast,kF k (by omega)]
    rfl
   ·have hq:IntKind.i64.wrap (n.tdiv 10)=n.tdiv 10:=IntWalk.i64_in _ (by omega)
    have hr:=nP .i64 n 10 (by omega)
    obtain ⟨d,hdd⟩:∃ d:Nat,n.tmod 10=d:=⟨(n.tmod 10).toNat,by omega⟩
    have hd9:d < 10:=by omega
    rw [hdd] at hr
    have hw:=Ka (i:=d) (by omega)
    have hs:=digSl d hd9
    have hc:=C5 (Lib.itoa (n.tdiv 10)) [UInt8.ofNat (48 + d)] (by have:=hlen (n.tdiv 10) (by omega); simp; omega)
    simp only [Br,A6,Ch,Bl,Bq,A4,Bh,A7,Bj,Bi,Cg,A5,Bc,Ba,Cc,A0,A1,B5,ofOpt,Bb,Dd,Do,Dl,Nat.reduceLT,Nat.reduceEqDiff,Aa,Ab,Ac,Ae,Am,Aq,Option.toList,Ay,D6,Hx,Dq,Tryz.f40,hneg,h10]
    refine G4 [(0,true),(1,true),(3,true),(4,true),(5,true),(6,true),(7,true),(8,true),(2,true),(9,true),(10,true)] (by kernel_rfl) (by kernel_rfl) ?_
    simp only [A5,Bc,Ba,A0,A1,Bo,B5,ofOpt,Bb,Dl,Nat.reduceLT,Nat.reduceEqDiff,Aa,Ab,Ac,Af,Ag,Ah,Aj,Ak,Am,Option.toList,Ay,D6,Hx,Dq,fb_quo,sG,quoO_i,hq,hr,hw,hs,hf1,Dj,C0,Df,Cn,Gu]
    refine WC.mono (ih (n.tdiv 10) (by split <;> omega) (by omega) S) ?_
    rintro _ rfl
    unfold Bp
    simp only [Bw,A4,A5,Bc,Ba,A0,A1,ofOpt,Bg,By,Bf,Cl,Nat.reduceLT,Nat.reduceEqDiff,Aa,Ab,Ac,Am,D6,Cy,hc,Ew,Dj,C0,Cn,Du,D9]
    have e1:¬ n.tdiv 10 < 0:=by omega
    rw [Qx n hneg,Qx _ e1,td,dec_big n.natAbs (by omega),show n.natAbs % 10=d by omega]
end Go.Ax
noncomputable section
namespace Go.Ax
open Go.RowKit Go.Proofs
set_option maxRecDepth 100000
theorem Kr:Dv Tryz.prog 88 15 [(0,.v (.int .i64 0)),(1,.v (.int .i64 10)),(2,.v (.int .i64 10)),(3,.v (.int .i64 10)),(4,.v (.int .i64 8)),(5,.v (.int .i64 4)),(6,.v (.int .i64 0)),(7,.v (.int .i64 0)),(8,.v (.int .i64 1)),(9,.v (.int .i64 1)),(10,.v (.int .i64 8)),(11,.v (.int .i64 9)),(12,.v (.int .i64 10)),(13,.v (.int .i64 10)),(14,.v (.int .i64 10))]=some (.sl 1 0 1 [.v (.int .i64 0),.v (.int .i64 10),.v (.int .i64 10),.v (.int .i64 10),.v (.int .i64 8),.v (.int .i64 4),.v (.int .i64 0),.v (.int .i64 0),.v (.int .i64 1),.v (.int .i64 1),.v (.int .i64 8),.v (.int .i64 9),.v (.int .i64 10),.v (.int .i64 10),.v (.int .i64 10)]):=by kernel_rfl
theorem ix88_1:Cm Tryz.prog 88 (.sl 1 0 1 [.v (.int .i64 0),.v (.int .i64 10),.v (.int .i64 10),.v (.int .i64 10),.v (.int .i64 8),.v (.int .i64 4),.v (.int .i64 0),.v (.int .i64 0),.v (.int .i64 1),.v (.int .i64 1),.v (.int .i64 8),.v (.int .i64 9),.v (.int .i64 10),.v (.int .i64 10),.v (.int .i64 10)]) (.v (.int .i64 ((1:Nat):Int)))=some (.ep [.v (.int .i64 10)]):=by kernel_rfl
theorem ix88_2:Cm Tryz.prog 88 (.sl 1 0 1 [.v (.int .i64 0),.v (.int .i64 10),.v (.int .i64 10),.v (.int .i64 10),.v (.int .i64 8),.v (.int .i64 4),.v (.int .i64 0),.v (.int .i64 0),.v (.int .i64 1),.v (.int .i64 1),.v (.int .i64 8),.v (.int .i64 9),.v (.int .i64 10),.v (.int .i64 10),.v (.int .i64 10)]) (.v (.int .i64 ((2:Nat):Int)))=some (.ep [.v (.int .i64 10)]):=by kernel_rfl
theorem ix88_3:Cm Tryz.prog 88 (.sl 1 0 1 [.v (.int .i64 0),.v (.int .i64 10),.v (.int .i64 10),.v (.int .i64 10),.v (.int .i64 8),.v (.int .i64 4),.v (.int .i64 0),.v (.int .i64 0),.v (.int .i64 1),.v (.int .i64 1),.v (.int .i64 8),.v (.int .i64 9),.v (.int .i64 10),.v (.int .i64 10),.v (.int .i64 10)]) (.v (.int .i64 ((3:Nat):Int)))=some (.ep [.v (.int .i64 10)]):=by kernel_rfl
theorem ix88_4:Cm Tryz.prog 88 (.sl 1 0 1 [.v (.int .i64 0),.v (.int .i64 10),.v (.int .i64 10),.v (.int .i64 10),.v (.int .i64 8),.v (.int .i64 4),.v (.int .i64 0),.v (.int .i64 0),.v (.int .i64 1),.v (.int .i64 1),.v (.int .i64 8),.v (.int .i64 9),.v (.int .i64 10),.v (.int .i64 10),.v (.int .i64 10)]) (.v (.int .i64 ((4:Nat):Int)))=some (.ep [.v (.int .i64 8)]):=by kernel_rfl
theorem ix88_5:Cm Tryz.prog 88 (.sl 1 0 1 [.v (.int .i64 0),.v (.int .i64 10),.v (.int .i64 10),.v (.int .i64 10),.v (.int .i64 8),.v (.int .i64 4),.v (.int .i64 0),.v (.int .i64 0),.v (.int .i64 1),.v (.int .i64 1),.v (.int .i64 8),.v (.int .i64 9),.v (.int .i64 10),.v (.int .i64 10),.v (.int .i64 10)]) (.v (.int .i64 ((5:Nat):Int)))=some (.ep [.v (.int .i64 4)]):=by kernel_rfl
theorem Ru:Cm Tryz.prog 88 (.sl 1 0 1 [.v (.int .i64 0),.v (.int .i64 10),.v (.int .i64 10),.v (.int .i64 10),.v (.int .i64 8),.v (.int .i64 4),.v (.int .i64 0),.v (.int .i64 0),.v (.int .i64 1),.v (.int .i64 1),.v (.int .i64 8),.v (.int .i64 9),.v (.int .i64 10),.v (.int .i64 10),.v (.int .i64 10)]) (.v (.int .i64 ((6:Nat):Int)))=some (.ep [.v (.int .i64 0)]):=by kernel_rfl
theorem ix88_7:Cm Tryz.prog 88 (.sl 1 0 1 [.v (.int .i64 0),.v (.int .i64 10),.v (.int .i64 10),.v (.int .i64 10),.v (.int .i64 8),.v (.int .i64 4),.v (.int .i64 0),.v (.int .i64 0),.v (.int .i64 1),.v (.int .i64 1),.v (.int .i64 8),.v (.int .i64 9),.v (.int .i64 10),.v (.int .i64 10),.v (.int .i64 10)]) (.v (.int .i64 ((7:Nat):Int)))=some (.ep [.v (.int .i64 0)]):=by kernel_rfl
theorem ix88_8:Cm Tryz.prog 88 (.sl 1 0 1 [.v (.int .i64 0),.v (.int .i64 10),.v (.int .i64 10),.v (.int .i64 10),.v (.int .i64 8),.v (.int .i64 4),.v (.int .i64 0),.v (.int .i64 0),.v (.int .i64 1),.v (.int .i64 1),.v (.int .i64 8),.v (.int .i64 9),.v (.int .i64 10),.v (.int .i64 10),.v (.int .i64 10)]) (.v (.int .i64 ((8:Nat):Int)))=some (.ep [.v (.int .i64 1)]):=by kernel_rfl
theorem ix88_9:Cm Tryz.prog 88 (.sl 1 0 1 [.v (.int .i64 0),.v (.int .i64 10),.v (.int .i64 10),.v (.int .i64 10),.v (.int .i64 8),.v (.int .i64 4),.v (.int .i64 0),.v (.int .i64 0),.v (.int .i64 1),.v (.int .i64 1),.v (.int .i64 8),.v (.int .i64 9),.v (.int .i64 10),.v (.int .i64 10),.v (.int .i64 10)]) (.v (.int .i64 ((9:Nat):Int)))=some (.ep [.v (.int .i64 1)]):=by kernel_rfl
theorem ix88_10:Cm Tryz.prog 88 (.sl 1 0 1 [.v (.int .i64 0),.v (.int .i64 10),.v (.int .i64 10),.v (.int .i64 10),.v (.int .i64 8),.v (.int .i64 4),.v (.int .i64 0),.v (.int .i64 0),.v (.int .i64 1),.v (.int .i64 1),.v (.int .i64 8),.v (.int .i64 9),.v (.int .i64 10),.v (.int .i64 10),.v (.int .i64 10)]) (.v (.int .i64 ((10:Nat):Int)))=some (.ep [.v (.int .i64 8)]):=by kernel_rfl
theorem ix88_11:Cm Tryz.prog 88 (.sl 1 0 1 [.v (.int .i64 0),.v (.int .i64 10),.v (.int .i64 10),.v (.int .i64 10),.v (.int .i64 8),.v (.int .i64 4),.v (.int .i64 0),.v (.int .i64 0),.v (.int .i64 1),.v (.int .i64 1),.v (.int .i64 8),.v (.int .i64 9),.v (.int .i64 10),.v (.int .i64 10),.v (.int .i64 10)]) (.v (.int .i64 ((11:Nat):Int)))=some (.ep [.v (.int .i64 9)]):=by kernel_rfl
theorem ix88_12:Cm Tryz.prog 88 (.sl 1 0 1 [.v (.int .i64 0),.v (.int .i64 10),.v (.int .i64 10),.v (.int .i64 10),.v (.int .i64 8),.v (.int .i64 4),.v (.int .i64 0),.v (.int .i64 0),.v (.int .i64 1),.v (.int .i64 1),.v (.int .i64 8),.v (.int .i64 9),.v (.int .i64 10),.v (.int .i64 10),.v (.int .i64 10)]) (.v (.int .i64 ((12:Nat):Int)))=some (.ep [.v (.int .i64 10)]):=by kernel_rfl
theorem ix88_13:Cm Tryz.prog 88 (.sl 1 0 1 [.v (.int .i64 0),.v (.int .i64 10),.v (.int .i64 10),.v (.int .i64 10),.v (.int .i64 8),.v (.int .i64 4),.v (.int .i64 0),.v (.int .i64 0),.v (.int .i64 1),.v (.int .i64 1),.v (.int .i64 8),.v (.int .i64 9),.v (.int .i64 10),.v (.int .i64 10),.v (.int .i64 10)]) (.v (.int .i64 ((13:Nat):Int)))=some (.ep [.v (.int .i64 10)]):=by kernel_rfl
theorem ix88_14:Cm Tryz.prog 88 (.sl 1 0 1 [.v (.int .i64 0),.v (.int .i64 10),.v (.int .i64 10),.v (.int .i64 10),.v (.int .i64 8),.v (.int .i64 4),.v (.int .i64 0),.v (.int .i64 0),.v (.int .i64 1),.v (.int .i64 1),.v (.int .i64 8),.v (.int .i64 9),.v (.int .i64 10),.v (.int .i64 10),.v (.int .i64 10)]) (.v (.int .i64 ((14:Nat):Int)))=some (.ep [.v (.int .i64 10)]):=by kernel_rfl
theorem Eh (b:Nat):C9 Tryz.prog 24 (.ptr b 0) 0=some (.ptr b 0):=by kernel_rfl
theorem Vp (b:Nat):C9 Tryz.prog 24 (.ptr b 0) 1=some (.ptr b 1):=by kernel_rfl
theorem E4 (b:Nat):C9 Tryz.prog 24 (.ptr b 0) 2=some (.ptr b 2):=by kernel_rfl
theorem Fd (b:Nat):C9 Tryz.prog 24 (.ptr b 0) 3=some (.ptr b 3):=by kernel_rfl
theorem Js (b:Nat):C9 Tryz.prog 24 (.ptr b 0) 4=some (.ptr b 4):=by kernel_rfl
theorem Gf (b:Nat):C9 Tryz.prog 24 (.ptr b 0) 5=some (.ptr b 5):=by kernel_rfl
theorem ag24:Fm Tryz.prog 24=some true:=by kernel_rfl
theorem sz24:Fo Tryz.prog 24=some 6:=by kernel_rfl
theorem ag22:Fm Tryz.prog 22=some false:=by kernel_rfl
theorem I3 {S:St} {id:Nat} {cs:List AV} (h:S.mem.get id=some (.box cs)) (hl:cs.length=6):C3 Tryz.prog S 24 (.ptr id 0)=some (.agg cs):=by
 simp [C3,Dr,h,ag24,sz24,hl]
 rw [List.take_of_length_le (by omega)]
theorem J5 (S:St) {cs:List AV} (hl:cs.length=6):C3 Tryz.prog S 24 (.ep cs)=some (.agg cs):=by
 simp [C3,Dr,ag24,sz24,hl]
 rw [List.take_of_length_le (by omega)]
theorem Jz (S:St) (a:AV) (r:List AV):C3 Tryz.prog S 3 (.ep (a :: r))=some a:=by
 have:Fm Tryz.prog 3=some false:=by kernel_rfl
 simp [C3,Dr,this]
theorem Kf {S:St} {id kind pos:Nat} {n:Int} {name:List UInt8} {off:Bool} {kv:AV} (h:S.mem.get id=some (.box (exC kind pos n name off kv))):C3 Tryz.prog S 22 (.ptr id 5)=some kv:=by simp [C3,Dr,h,ag22,exC]
theorem el22:Ir Tryz.prog 22=some (none,24):=by kernel_rfl
theorem oR:Tryz.prog.underlying 22=some (.slice 24):=by kernel_rfl
theorem jQ (tok off:Nat) (es:List AV) (j:Nat) (ys:List AV) (hy:es[j]? = some (.agg ys)):Cm Tryz.prog 22 (.sl tok off 6 es) (.v (.int .i64 (j:Int)))=some (.ep ys):=by
 simp [Cm,el22,sz24,hy,AV.cells]
theorem Ht (tok off:Nat) (ys:List AV) (r:List AV):Cm Tryz.prog 22 (.sl tok off 6 (.agg ys :: r)) (.v (.int .i64 0))=some (.ep ys):=jQ tok off _ 0 ys rfl
theorem Ui (tok off:Nat) (ys:List AV) (a:AV) (r:List AV):Cm Tryz.prog 22 (.sl tok off 6 (a :: .agg ys :: r)) (.v (.int .i64 1))=some (.ep ys):=jQ tok off _ 1 ys rfl
theorem idx22_2 (tok off:Nat) (ys:List AV) (a b:AV) (r:List AV):Cm Tryz.prog 22 (.sl tok off 6 (a :: b :: .agg ys :: r)) (.v (.int .i64 2))=some (.ep ys):=jQ tok off _ 2 ys rfl
theorem Ss:∀ {es:List AV} {l:List PE},RepF es l → es.length=l.length
 | _,_,.nil=>rfl
 | _,_,.cons a e r l h h2=>by simp [Ss h2]
theorem Wf:∀ {es:List AV} {l:List PE},RepF es l → ∀ (i:Nat) (h:i < l.length),∃ ys,es[i]? = some (.agg ys) ∧ RepE (.agg ys) l[i]
 | _,_,.nil,i,hi=>absurd hi (Nat.not_lt_zero _)
 | _,_,.cons a e r l h h2,0,hi=>by
  obtain ⟨xs,rfl,_⟩:=h.agg
  exact ⟨xs,rfl,h⟩
 | _,_,.cons a e r l h h2,i + 1,hi=>by
  obtain ⟨ys,h3,h4⟩:=Wf h2 i (by simpa using hi)
  exact ⟨ys,by simpa using h3,by simpa using h4⟩
theorem len22 (S:St) {v:AV} {l:List PE} (h:RepK v l):Hp Tryz.prog S 22 v=some l.length:=by
 cases h with
 | nil=>simp [Hp,oR]
 | row tok off es kids h =>
  have:=Ss h
  simp [Hp,oR,this]
set_option maxHeartbeats 16000000 in
theorem sT (kind pos:Nat) (hk:1 ≤ kind ∧ kind ≤ 14) (n:Int) (name:List UInt8) (off:Bool) (kv:AV) (kids:List PE) (S:St):WC E8 42 [.agg (exC kind pos n name off kv)] S (fun r=>∃ S',r=.ret (D0 (Dh (.mk kind pos n name off kids))) S' ∧ Eg S S'):=by
 refine Dx Tryz.f42 (by kernel_rfl) (by kernel_rfl) (by kernel_rfl) (show (_:Nat) ≤ _ from by show (_:Nat) ≤ _; simp [Tryz.f42]) ?_
 have g1:=Db S (exC kind pos n name off kv)
 have k1:=C4 S (exC kind pos n name off kv)
 generalize hS1:S.newBox (exC kind pos n name off kv)=S1 at g1 k1
 have l0:=Jn g1
 have l2:=lxN g1
 have l3:=E3 g1
 by_cases h1:kind=1
 ·subst h1
  have e1:(((1:Nat):Int) == 1)=true:=rfl
  have e6:(((1:Nat):Int) != 6)=true:=rfl
  by_cases hn:n < 0
  ·have en:decide (n < 0)=true:=by simpa using hn
   simp only [Br,A6,Bl,Bq,Bt,Bw,A4,B0,Bs,Bz,Bh,A7,Bj,Bi,Ci,A5,Bc,Ba,Cc,A0,A1,ofOpt,Bb,Bu,Bv,Bg,By,Bf,Cl,Dd,B7,C2,Nat.reduceLT,Nat.reduceEqDiff,Aa,Ab,Ac,Ae,Af,Ag,Ah,Ai,Al,Am,D6,Gi,Cy,Dq,Tryz.f42,hS1,Kr,l0,l2,l3,Eh,E4,Fd,Cd,Ce,Jz,e1,e6,ix88_1,en]
   exact ⟨_,by rw [show Dh (.mk 1 pos n name off kids)=8 by simp [Dh,hn]]; rfl,k1⟩
  ·have en:decide (n < 0)=false:=by simpa using hn
   simp only [Br,A6,Bl,Bq,Bt,Bw,A4,B0,Bs,Bz,Bh,A7,Bj,Bi,Ci,Cg,A5,Bc,Ba,Cc,A0,A1,ofOpt,Bb,Bu,Bv,Bg,By,Bf,Cl,Dd,B7,C2,Nat.reduceLT,Nat.reduceEqDiff,Aa,Ab,Ac,Ae,Af,Ag,Ah,Ai,Al,Am,D6,Gi,Cy,Dq,Tryz.f42,hS1,Kr,l0,l2,l3,Eh,E4,Fd,Cd,Ce,Jz,e1,e6,ix88_1,en]
   exact ⟨_,by rw [show Dh (.mk 1 pos n name off kids)=10 by simp [Dh,hn]]; rfl,k1⟩
 by_cases h2:kind=2
 ·subst h2
  have e1:(((2:Nat):Int) == 1)=false:=rfl
  have e6:(((2:Nat):Int) != 6)=true:=rfl
  simp only [Br,A6,Bl,Bq,Bt,Bw,A4,B0,Bs,Bz,Bh,A7,Ct,Bj,Bi,Ci,Cg,A5,Bc,Ba,Cc,A0,A1,ofOpt,Bb,Bu,Bv,Bg,By,Bf,Cl,B7,C2,Nat.reduceLT,Nat.reduceEqDiff,Aa,Ab,Ac,Ae,Af,Ag,Ah,Ai,Am,Ar,Av,D6,Hx,Gi,Cy,Dq,Tryz.f42,hS1,Kr,l0,l3,Eh,E4,Fd,Cd,Ce,Jz,e1,e6,ix88_2]
  exact ⟨_,by rw [show Dh (.mk 2 pos n name off kids)=10 by simp [Dh]]; rfl,k1⟩
 by_cases h3:kind=3
 ·subst h3
  have e1:(((3:Nat):Int) == 1)=false:=rfl
  have e6:(((3:Nat):Int) != 6)=true:=rfl
  simp only [Br,A6,Bl,Bq,Bt,Bw,A4,B0,Bs,Bz,Bh,A7,Ct,Bj,Bi,Ci,Cg,A5,Bc,Ba,Cc,A0,A1,ofOpt,Bb,Bu,Bv,Bg,By,Bf,Cl,B7,C2,Nat.reduceLT,Nat.reduceEqDiff,Aa,Ab,Ac,Ae,Af,Ag,Ah,Ai,Am,Ar,Av,D6,Hx,Gi,Cy,Dq,Tryz.f42,hS1,Kr,l0,l3,Eh,E4,Fd,Cd,Ce,Jz,e1,e6,ix88_3]
  exact ⟨_,by rw [show Dh (.mk 3 pos n name off kids)=10 by simp [Dh]]; rfl,k1⟩
 by_cases h4:kind=4
 ·subst h4
  have e1:(((4:Nat):Int) == 1)=false:=rfl
  have e6:(((4:Nat):Int) != 6)=true:=rfl
  simp only [Br,A6,Bl,Bq,Bt,Bw,A4,B0,Bs,Bz,Bh,A7,Ct,Bj,Bi,Ci,Cg,A5,Bc,Ba,Cc,A0,A1,ofOpt,Bb,Bu,Bv,Bg,By,Bf,Cl,B7,C2,Nat.reduceLT,Nat.reduceEqDiff,Aa,Ab,Ac,Ae,Af,Ag,Ah,Ai,Am,Ar,Av,D6,Hx,Gi,Cy,Dq,Tryz.f42,hS1,Kr,l0,l3,Eh,E4,Fd,Cd,Ce,Jz,e1,e6,ix88_4]
  exact ⟨_,by rw [show Dh (.mk 4 pos n name off kids)=8 by simp [Dh]]; rfl,k1⟩
 by_cases h5:kind=5
 ·subst h5
  have e1:(((5:Nat):Int) == 1)=false:=rfl
  have e6:(((5:Nat):Int) != 6)=true:=rfl
  simp only [Br,A6,Bl,Bq,Bt,Bw,A4,B0,Bs,Bz,Bh,A7,Ct,Bj,Bi,Ci,Cg,A5,Bc,Ba,Cc,A0,A1,ofOpt,Bb,Bu,Bv,Bg,By,Bf,Cl,B7,C2,Nat.reduceLT,Nat.reduceEqDiff,Aa,Ab,Ac,Ae,Af,Ag,Ah,Ai,Am,Ar,Av,D6,Hx,Gi,Cy,Dq,Tryz.f42,hS1,Kr,l0,l3,Eh,E4,Fd,Cd,Ce,Jz,e1,e6,ix88_5]
  exact ⟨_,by rw [show Dh (.mk 5 pos n name off kids)=4 by simp [Dh]]; rfl,k1⟩
 by_cases h6:kind=6
 ·subst h6
  have e1:(((6:Nat):Int) == 1)=false:=rfl
  have e6:(((6:Nat):Int) != 6)=false:=rfl
  by_cases w0:name=[111,114]
  ·subst w0
   simp only [Br,A6,Bl,Bq,Bt,Bw,A4,B0,Bs,Bz,Bh,A7,Ct,Bj,Bi,Ci,Cg,A5,Bc,Ba,Cc,A0,A1,ofOpt,Bb,Bu,Bv,Bg,By,Bf,Cl,B7,C2,Nat.reduceLT,Nat.reduceEqDiff,Aa,Ab,Ac,Ae,Af,Ag,Ah,Ai,Am,Ap,Ar,Av,D6,Hx,Gi,Cy,Dq,Tryz.f42,hS1,Kr,l0,l3,Eh,E4,Fd,Cd,Ce,Jz,e1,e6,Ru]
   exact ⟨_,rfl,k1⟩
  have d0:decide (name=([111,114]:List UInt8))=false:=by simpa using w0
  by_cases w1:name=[120,111,114]
  ·subst w1
   simp only [Br,A6,Bl,Bq,Bt,Bw,A4,B0,Bs,Bz,Bh,A7,Ct,Bj,Bi,Ci,Cg,A5,Bc,Ba,Cc,A0,A1,ofOpt,Bb,Bu,Bv,Bg,By,Bf,Cl,B7,C2,Nat.reduceLT,Nat.reduceEqDiff,Aa,Ab,Ac,Ae,Af,Ag,Ah,Ai,Am,Ap,Ar,Av,D6,Hx,Gi,Cy,Dq,Tryz.f42,hS1,Kr,l0,l3,Eh,E4,Fd,Cd,Ce,Jz,e1,e6,Ru]
   exact ⟨_,rfl,k1⟩
  have d1:decide (name=([120,111,114]:List UInt8))=false:=by simpa using w1
  by_cases w2:name=[97,110,100]
  ·subst w2
   simp only [Br,A6,Bl,Bq,Bt,Bw,A4,B0,Bs,Bz,Bh,A7,Ct,Bj,Bi,Ci,Cg,A5,Bc,Ba,Cc,A0,A1,ofOpt,Bb,Bu,Bv,Bg,By,Bf,Cl,B7,C2,Nat.reduceLT,Nat.reduceEqDiff,Aa,Ab,Ac,Ae,Af,Ag,Ah,Ai,Am,Ap,Ar,Av,D6,Hx,Gi,Cy,Dq,Tryz.f42,hS1,Kr,l0,l3,Eh,E4,Fd,Cd,Ce,Jz,e1,e6,Ru]
   exact ⟨_,rfl,k1⟩
  have d2:decide (name=([97,110,100]:List UInt8))=false:=by simpa using w2
  by_cases w3:name=[42]
  ·subst w3
   simp only [Br,A6,Bl,Bq,Bt,Bw,A4,B0,Bs,Bz,Bh,A7,Ct,Bj,Bi,Ci,Cg,A5,Bc,Ba,Cc,A0,A1,ofOpt,Bb,Bu,Bv,Bg,By,Bf,Cl,B7,C2,Nat.reduceLT,Nat.reduceEqDiff,Aa,Ab,Ac,Ae,Af,Ag,Ah,Ai,Am,Ap,Ar,Av,D6,Hx,Gi,Cy,Dq,Tryz.f42,hS1,Kr,l0,l3,Eh,E4,Fd,Cd,Ce,Jz,e1,e6,Ru]
   exact ⟨_,rfl,k1⟩
  have d3:decide (name=([42]:List UInt8))=false:=by simpa using w3
  by_cases w4:name=[47]
  ·subst w4
   simp only [Br,A6,Bl,Bq,Bt,Bw,A4,B0,Bs,Bz,Bh,A7,Ct,Bj,Bi,Ci,Cg,A5,Bc,Ba,Cc,A0,A1,ofOpt,Bb,Bu,Bv,Bg,By,Bf,Cl,B7,C2,Nat.reduceLT,Nat.reduceEqDiff,Aa,Ab,Ac,Ae,Af,Ag,Ah,Ai,Am,Ap,Ar,Av,D6,Hx,Gi,Cy,Dq,Tryz.f42,hS1,Kr,l0,l3,Eh,E4,Fd,Cd,Ce,Jz,e1,e6,Ru]
   exact ⟨_,rfl,k1⟩
  have d4:decide (name=([47]:List UInt8))=false:=by simpa using w4
  by_cases w5:name=[109,111,100]
  ·subst w5
   simp only [Br,A6,Bl,Bq,Bt,Bw,A4,B0,Bs,Bz,Bh,A7,Ct,Bj,Bi,Ci,Cg,A5,Bc,Ba,Cc,A0,A1,ofOpt,Bb,Bu,Bv,Bg,By,Bf,Cl,B7,C2,Nat.reduceLT,Nat.reduceEqDiff,Aa,Ab,Ac,Ae,Af,Ag,Ah,Ai,Am,Ap,Ar,Av,D6,Hx,Gi,Cy,Dq,Tryz.f42,hS1,Kr,l0,l3,Eh,E4,Fd,Cd,Ce,Jz,e1,e6,Ru]
   exact ⟨_,rfl,k1⟩
  have d5:decide (name=([109,111,100]:List UInt8))=false:=by simpa using w5
  by_cases w6:name=[43]
  ·subst w6
   simp only [Br,A6,Bl,Bq,Bt,Bw,A4,B0,Bs,Bz,Bh,A7,Ct,Bj,Bi,Ci,Cg,A5,Bc,Ba,Cc,A0,A1,ofOpt,Bb,Bu,Bv,Bg,By,Bf,Cl,B7,C2,Nat.reduceLT,Nat.reduceEqDiff,Aa,Ab,Ac,Ae,Af,Ag,Ah,Ai,Am,Ap,Ar,Av,D6,Hx,Gi,Cy,Dq,Tryz.f42,hS1,Kr,l0,l3,Eh,E4,Fd,Cd,Ce,Jz,e1,e6,Ru]
   exact ⟨_,rfl,k1⟩
  have d6:decide (name=([43]:List UInt8))=false:=by simpa using w6
  by_cases w7:name=[45]
  ·subst w7
   simp only [Br,A6,Bl,Bq,Bt,Bw,A4,B0,Bs,Bz,Bh,A7,Ct,Bj,Bi,Ci,Cg,A5,Bc,Ba,Cc,A0,A1,ofOpt,Bb,Bu,Bv,Bg,By,Bf,Cl,B7,C2,Nat.reduceLT,Nat.reduceEqDiff,Aa,Ab,Ac,Ae,Af,Ag,Ah,Ai,Am,Ap,Ar,Av,D6,Hx,Gi,Cy,Dq,Tryz.f42,hS1,Kr,l0,l3,Eh,E4,Fd,Cd,Ce,Jz,e1,e6,Ru]
   exact ⟨_,rfl,k1⟩
  have d7:decide (name=([45]:List UInt8))=false:=by simpa using w7
  simp only [Br,A6,Bl,Bq,Bt,Bw,A4,B0,Bs,Bz,Bh,A7,Ct,Bj,Bi,Cg,A5,Bc,Ba,Cc,A0,A1,ofOpt,Bb,Bu,Bv,Bg,By,Bf,Cl,B7,C2,Nat.reduceLT,Nat.reduceEqDiff,Aa,Ab,Ac,Ae,Af,Ag,Ah,Ai,Am,Ar,Av,D6,Hx,Gi,Cy,Dq,Tryz.f42,hS1,Kr,l0,l3,Eh,E4,Fd,Cd,Ce,Jz,e1,e6,Ru,d0,d1,d2,d3,d4,d5,d6,d7]
  have e:Dh (.mk 6 pos n name off kids)=5:=by simp [Dh,F1,w0,w1,w2,w3,w4,w5,w6,w7]
  exact ⟨_,by rw [e]; rfl,k1⟩
 by_cases h7:kind=7
 ·subst h7
  have e1:(((7:Nat):Int) == 1)=false:=rfl
  have e6:(((7:Nat):Int) != 6)=true:=rfl
  simp only [Br,A6,Bl,Bq,Bt,Bw,A4,B0,Bs,Bz,Bh,A7,Ct,Bj,Bi,Ci,Cg,A5,Bc,Ba,Cc,A0,A1,ofOpt,Bb,Bu,Bv,Bg,By,Bf,Cl,B7,C2,Nat.reduceLT,Nat.reduceEqDiff,Aa,Ab,Ac,Ae,Af,Ag,Ah,Ai,Am,Ar,Av,D6,Hx,Gi,Cy,Dq,Tryz.f42,hS1,Kr,l0,l3,Eh,E4,Fd,Cd,Ce,Jz,e1,e6,ix88_7]
  exact ⟨_,by rw [show Dh (.mk 7 pos n name off kids)=0 by simp [Dh]]; rfl,k1⟩
 by_cases h8:kind=8
 ·subst h8
  have e1:(((8:Nat):Int) == 1)=false:=rfl
  have e6:(((8:Nat):Int) != 6)=true:=rfl
  simp only [Br,A6,Bl,Bq,Bt,Bw,A4,B0,Bs,Bz,Bh,A7,Ct,Bj,Bi,Ci,Cg,A5,Bc,Ba,Cc,A0,A1,ofOpt,Bb,Bu,Bv,Bg,By,Bf,Cl,B7,C2,Nat.reduceLT,Nat.reduceEqDiff,Aa,Ab,Ac,Ae,Af,Ag,Ah,Ai,Am,Ar,Av,D6,Hx,Gi,Cy,Dq,Tryz.f42,hS1,Kr,l0,l3,Eh,E4,Fd,Cd,Ce,Jz,e1,e6,ix88_8]
  exact ⟨_,by rw [show Dh (.mk 8 pos n name off kids)=1 by simp [Dh]]; rfl,k1⟩
 by_cases h9:kind=9
 ·subst h9
  have e1:(((9:Nat):Int) == 1)=false:=rfl
  have e6:(((9:Nat):Int) != 6)=true:=rfl
  simp only [Br,A6,Bl,Bq,Bt,Bw,A4,B0,Bs,Bz,Bh,A7,Ct,Bj,Bi,Ci,Cg,A5,Bc,Ba,Cc,A0,A1,ofOpt,Bb,Bu,Bv,Bg,By,Bf,Cl,B7,C2,Nat.reduceLT,Nat.reduceEqDiff,Aa,Ab,Ac,Ae,Af,Ag,Ah,Ai,Am,Ar,Av,D6,Hx,Gi,Cy,Dq,Tryz.f42,hS1,Kr,l0,l3,Eh,E4,Fd,Cd,Ce,Jz,e1,e6,ix88_9]
  exact ⟨_,by rw [show Dh (.mk 9 pos n name off kids)=1 by simp [Dh]]; rfl,k1⟩
 by_cases h10:kind=10
 ·subst h10
  have e1:(((10:Nat):Int) == 1)=false:=rfl
  have e6:(((10:Nat):Int) != 6)=true:=rfl
  simp only [Br,A6,Bl,Bq,Bt,Bw,A4,B0,Bs,Bz,Bh,A7,Ct,Bj,Bi,Ci,Cg,A5,Bc,Ba,Cc,A0,A1,ofOpt,Bb,Bu,Bv,Bg,By,Bf,Cl,B7,C2,Nat.reduceLT,Nat.reduceEqDiff,Aa,Ab,Ac,Ae,Af,Ag,Ah,Ai,Am,Ar,Av,D6,Hx,Gi,Cy,Dq,Tryz.f42,hS1,Kr,l0,l3,Eh,E4,Fd,Cd,Ce,Jz,e1,e6,ix88_10]
  exact ⟨_,by rw [show Dh (.mk 10 pos n name off kids)=8 by simp [Dh]]; rfl,k1⟩
 by_cases h11:kind=11
 ·subst h11
  have e1:(((11:Nat):Int) == 1)=false:=rfl
  have e6:(((11:Nat):Int) != 6)=true:=rfl
  simp only [Br,A6,Bl,Bq,Bt,Bw,A4,B0,Bs,Bz,Bh,A7,Ct,Bj,Bi,Ci,Cg,A5,Bc,Ba,Cc,A0,A1,ofOpt,Bb,Bu,Bv,Bg,By,Bf,Cl,B7,C2,Nat.reduceLT,Nat.reduceEqDiff,Aa,Ab,Ac,Ae,Af,Ag,Ah,Ai,Am,Ar,Av,D6,Hx,Gi,Cy,Dq,Tryz.f42,hS1,Kr,l0,l3,Eh,E4,Fd,Cd,Ce,Jz,e1,e6,ix88_11]
  exact ⟨_,by rw [show Dh (.mk 11 pos n name off kids)=9 by simp [Dh]]; rfl,k1⟩
 by_cases h12:kind=12
 ·subst h12
  have e1:(((12:Nat):Int) == 1)=false:=rfl
  have e6:(((12:Nat):Int) != 6)=true:=rfl
  simp only [Br,A6,Bl,Bq,Bt,Bw,A4,B0,Bs,Bz,Bh,A7,Ct,Bj,Bi,Ci,Cg,A5,Bc,Ba,Cc,A0,A1,ofOpt,Bb,Bu,Bv,Bg,By,Bf,Cl,B7,C2,Nat.reduceLT,Nat.reduceEqDiff,Aa,Ab,Ac,Ae,Af,Ag,Ah,Ai,Am,Ar,Av,D6,Hx,Gi,Cy,Dq,Tryz.f42,hS1,Kr,l0,l3,Eh,E4,Fd,Cd,Ce,Jz,e1,e6,ix88_12]
  exact ⟨_,by rw [show Dh (.mk 12 pos n name off kids)=10 by simp [Dh]]; rfl,k1⟩
 by_cases h13:kind=13
 ·subst h13
  have e1:(((13:Nat):Int) == 1)=false:=rfl
  have e6:(((13:Nat):Int) != 6)=true:=rfl
  simp only [Br,A6,Bl,Bq,Bt,Bw,A4,B0,Bs,Bz,Bh,A7,Ct,Bj,Bi,Ci,Cg,A5,Bc,Ba,Cc,A0,A1,ofOpt,Bb,Bu,Bv,Bg,By,Bf,Cl,B7,C2,Nat.reduceLT,Nat.reduceEqDiff,Aa,Ab,Ac,Ae,Af,Ag,Ah,Ai,Am,Ar,Av,D6,Hx,Gi,Cy,Dq,Tryz.f42,hS1,Kr,l0,l3,Eh,E4,Fd,Cd,Ce,Jz,e1,e6,ix88_13]
  exact ⟨_,by rw [show Dh (.mk 13 pos n name off kids)=10 by simp [Dh]]; rfl,k1⟩
 by_cases h14:kind=14
 ·subst h14
  have e1:(((14:Nat):Int) == 1)=false:=rfl
  have e6:(((14:Nat):Int) != 6)=true:=rfl
  simp only [Br,A6,Bl,Bq,Bt,Bw,A4,B0,Bs,Bz,Bh,A7,Ct,Bj,Bi,Ci,Cg,A5,Bc,Ba,Cc,A0,A1,ofOpt,Bb,Bu,Bv,Bg,By,Bf,Cl,B7,C2,Nat.reduceLT,Nat.reduceEqDiff,Aa,Ab,Ac,Ae,Af,Ag,Ah,Ai,Am,Ar,Av,D6,Hx,Gi,Cy,Dq,Tryz.f42,hS1,Kr,l0,l3,Eh,E4,Fd,Cd,Ce,Jz,e1,e6,ix88_14]
  exact ⟨_,by rw [show Dh (.mk 14 pos n name off kids)=10 by simp [Dh]]; rfl,k1⟩
 omega
def RefOk (e:PE):Prop:=∀ (ys:List AV),RepE (.agg ys) e → ∀ S,2 ≤ S.next → WC E8 14 [.agg ys] S (fun r=>∃ S',r=.ret (Bp (Dz e)) S' ∧ Eg S S')
structure RefK (e:PE):Prop where
 ok:RefOk e
 kind:1 ≤ I4 e ∧ I4 e ≤ 14
 len:(Dz e).length ≤ 1000000000
def kTe (e:PE) (least:Nat):List UInt8:=if Dh e < least then 40 :: (Dz e ++ [41]) else Dz e
theorem Ki {e:PE} (h:RefK e) (least:Nat):(kTe e least).length ≤ 1000000002:=by
 have:=h.len
 unfold kTe; split <;> simp <;> omega
set_option maxHeartbeats 16000000 in
theorem Lf {e:PE} (h:RefK e) {ys:List AV} (hr:RepE (.agg ys) e) (least:Nat) (S:St) (hn:2 ≤ S.next):WC E8 41 [.agg ys,.v (.int .i64 (least:Int))] S (fun r=>∃ S',r=.ret (Bp (kTe e least)) S' ∧ Eg S S'):=by
 refine Dx Tryz.f41 (by kernel_rfl) (by kernel_rfl) (by kernel_rfl) (show (_:Nat) ≤ _ from by show (_:Nat) ≤ _; simp [Tryz.f41]) ?_
 obtain ⟨fn1,hf14⟩:=Lg
 obtain ⟨fn2,hf42⟩:=Ly
 obtain ⟨zs,hz,hzl⟩:=hr.agg
 injection hz with hz; subst hz
 have g1:=Db S ys
 have k1:=C4 S ys
 have lt1:S.next < (S.newBox ys).next:=Nat.lt_succ_self _
 generalize hS1:S.newBox ys=S1 at g1 k1 lt1
 have l0:=I3 g1 hzl
 have n1:2 ≤ S1.next:=Nat.le_trans hn k1.1
 have hlen:=h.len
 simp only [A6,Bl,A4,Bh,A7,Bj,Cb,Bi,A5,Bc,Ba,Cc,A0,A1,Bo,B5,ofOpt,Bb,Nat.reduceLT,Nat.reduceAdd,Nat.reduceEqDiff,Aa,Ab,Ac,Ae,Aj,Ak,D6,Tryz.f41,Cd,Ce,hS1,l0,hf42]
 have hb:WC E8 42 [.agg ys] S1 (fun r=>∃ S',r=.ret (D0 (Dh e)) S' ∧ Eg S1 S'):=by
  have hk:=h.kind
  cases hr with
  | mk kind pos n name off kv kids hkk=>exact sT kind pos hk n name off kv kids S1
 refine WC.mono hb ?_
 rintro _ ⟨S2,rfl,k2⟩
 have g2:=(k2.2 _ lt1).trans g1
 have l2:=I3 g2 hzl
 have n2:2 ≤ S2.next:=Nat.le_trans n1 k2.1
 simp only [D0]
 by_cases hlt:Dh e < least
 ·have en:decide ((Dh e:Int) < (least:Int))=true:=by simpa using hlt
  have c1:=C5 [40] (Dz e) (by simp; omega)
  have c2:=C5 ([40] ++ Dz e) [41] (by simp; omega)
  simp only [Br,A6,Bl,Bq,A4,Bh,A7,Bj,Cb,Bi,Cz,Ci,A5,Bc,Ba,A0,A1,Bo,B5,ofOpt,Bv,Dd,Nat.reduceLT,Nat.reduceEqDiff,Aa,Ab,Ac,Aj,Ak,Am,D6,en,l2,hf14]
  refine WC.mono (h.ok ys hr S2 n2) ?_
  rintro _ ⟨S3,rfl,k3⟩
  unfold Bp
  simp only [Bw,A4,B0,Bh,A7,Bj,Bi,Cz,A5,Bc,Ba,A0,A1,ofOpt,Bb,Bg,By,Bf,Cl,Nat.reduceLT,Nat.reduceEqDiff,Aa,Ab,Ac,Am,D6,Cy,c1,c2]
  exact ⟨_,by rw [show kTe e least=([40] ++ Dz e) ++ [41] by unfold kTe; rw [if_pos hlt]; rfl],(k1.trans k2).trans k3⟩
 ·have en:decide ((Dh e:Int) < (least:Int))=false:=by simpa using hlt
  simp only [Br,A6,Bl,Bq,A4,Bh,A7,Bj,Cb,Bi,Cz,Cg,A5,Bc,Ba,A0,A1,Bo,B5,ofOpt,Bv,Dd,Nat.reduceLT,Nat.reduceEqDiff,Aa,Ab,Ac,Aj,Ak,Am,D6,en,l2,hf14]
  refine WC.mono (h.ok ys hr S2 n2) ?_
  rintro _ ⟨S3,rfl,k3⟩
  simp only [Bw,A4,Bh,A7,Bj,Bi,Cz,A5,Bc,Ba,A0,A1,ofOpt,Bg,By,Bf,Cl,Nat.reduceLT,Nat.reduceEqDiff,Aa,Ab,Ac]
  exact ⟨_,by rw [show kTe e least=Dz e by unfold kTe; rw [if_neg hlt]],(k1.trans k2).trans k3⟩
-- rows
noncomputable def iE:Code:=match Tryz.f43.body with
 | some (.seq _ (.seq _ (.seq (.seq _ (.block _ (.loop b))) _)))=>b
 | _=>.skip
def Jp (l:List PE):List UInt8:=Lib.join (l.map Dz) [44,32]
theorem vK (l:List PE) (e:PE):Jp (l ++ [e])=if l=[] then Dz e else Jp l ++ [44,32] ++ Dz e:=by
 cases l with
 | nil=>simp [Jp,Lib.join_one]
 | cons a r =>
  rw [if_neg (by simp)]
  unfold Jp
  rw [List.cons_append,List.map_cons,List.map_cons,Lib.join_cons,Lib.join_cons,List.map_append]
  simp [Lib.joinTail]
theorem al24 (S:St):J1 Tryz.prog S 24=some (.ptr S.next 0,S.newBox exZ):=rfl
theorem oY {S:St} {id:Nat} {cs ys:List AV} (h:S.mem.get id=some (.box cs)) (hl:cs.length=6) (hy:ys.length=6):C7 Tryz.prog S 24 (.ptr id 0) (.agg ys)=some (S.put id ys):=by
 have hd:cs.drop 6=[]:=List.drop_eq_nil_of_le (by omega)
 simp [C7,h,sz24,AV.noTup,AV.cells,hl,hy,St.put,hd]
set_option maxHeartbeats 16000000 in
theorem uD {v:AV} {tok off:Nat} {es:List AV} (l:List PE) (hv:v=.sl tok off 6 es) (hr:RepF es l) (hk:∀ e ∈ l,RefK e) (hj:∀ i,(Jp (l.take i)).length ≤ 1000000000) (hl:l.length ≤ 1000) (S0:St):∀ (m i:Nat) (t:T AV) (S:St),i + m=l.length → t.get 6=some v → t.get 7=some (D0 l.length) → t.get 8=some (D0 i) → t.get 3=some (Bp (Jp (l.take i))) → 2 ≤ S.next → Eg S0 S →
  WX E8 23 (.loop iE) ⟨t,[]⟩ S (fun o=>∃ t' S',o=.out (.exit 0) ⟨t',[]⟩ S' ∧ t'.get 3=some (Bp (Jp l)) ∧ Eg S0 S')
 | 0,i,t,S,hi,h6,h7,h8,h3,hn,hk0=>by
  refine Fe (El ?_)
  have hlt:¬ ((i:Int) < (l.length:Int)):=by omega
  rw [List.take_of_length_le (by omega)] at h3
  simp only [D0] at h7 h8
  simp only [Cf,Br,A6,Bl,Bq,Bt,Dk,A4,Ey,Bh,A7,Bj,Bi,Cg,A5,Bc,Ba,A0,ofOpt,Bv,Dd,Nat.reduceLT,Nat.reduceEqDiff,Aa,Ab,Ac,Am,Aq,D6,iE,Tryz.f43,h7,h8,hlt]
  exact ⟨_,_,rfl,by simp only [A0,Nat.reduceEqDiff,Ab,h3],hk0⟩
 | m + 1,i,t,S,hi,h6,h7,h8,h3,hn,hk0=>by
  refine Fe (El ?_)
  obtain ⟨fn1,hf14⟩:=Lg
  have hil:i < l.length:=by omega
  have hlt:((i:Int) < (l.length:Int)):=by omega
  have hw:=Ka (i:=i) (by omega)
  have hek:RefK l[i]:=hk _ (List.getElem_mem hil)
  obtain ⟨ys,hyi,hre⟩:=Wf hr i hil
  obtain ⟨zs,hz,hzl⟩:=hre.agg
  injection hz with hz; subst hz
  have hx:=jQ tok off es i ys hyi
  have hep:=J5 S hzl
  have g1:=Db S exZ
  have k1:=C4 S exZ
  have lt1:S.next < (S.newBox exZ).next:=Nat.lt_succ_self _
  have q1:=oY g1 rfl hzl
  have g2:=Ek (S.newBox exZ) S.next ys
  have k2:Eg S ((S.newBox exZ).put S.next ys):=Ee k1 (Nat.le_refl _) _
  generalize hS2:(S.newBox exZ).put S.next ys=S2 at q1 g2 k2
  have l2:=I3 g2 hzl
  have n2:2 ≤ S2.next:=Nat.le_trans hn k2.1
  have htl:=hek.len
  have hj0:=hj i
  have hsn:Jp (l.take (i + 1))=if l.take i=[] then Dz l[i] else Jp (l.take i) ++ [44,32] ++ Dz l[i]:=by
   rw [List.take_succ_eq_append_getElem hil,vK]
  subst hv
  simp only [D0,Bp] at h7 h8 h3
  by_cases h0:i=0
  ·subst h0
   have hgt:¬ (((0:Nat):Int) > 0):=by omega
   have e0:Jp (l.take 0)=[]:=rfl
   rw [e0] at h3
   have c1:=C5 [] (Dz l[0]) (by simp; omega)
   simp only [Cf,Br,A6,Bl,Bq,Bt,Dk,A4,Ey,Bh,A7,Bj,Eb,Cb,En,Bi,Ci,Cg,A5,Bc,Ba,A0,Bo,B5,ofOpt,ofOptS,Bb,Bv,Dd,Do,Nat.reduceLT,Nat.reduceEqDiff,Aa,Ab,Ac,Aj,Ak,Am,Ap,Aq,D6,Hx,Cy,iE,Tryz.f43,h7,h8,hlt,h6,hx,hep,al24,q1,hgt,h3,l2,hf14]
   refine WC.mono (hek.ok ys hre S2 n2) ?_
   rintro _ ⟨S3,rfl,k3⟩
   unfold Bp
   simp only [B8,A6,A4,Bs,Bh,A7,Bj,Bi,Cz,A5,Bc,Ba,A0,ofOpt,Bb,Bv,Dl,Nat.reduceLT,Nat.reduceAdd,Nat.reduceEqDiff,Aa,Ab,Ac,Aj,Am,D6,Cy,c1,h8,hw]
   refine WX.mono (uD (tok:=tok) (off:=off) l rfl hr hk hj hl S0 m (0 + 1) _ S3 (by omega) ?_ ?_ ?_ ?_ (Nat.le_trans n2 k3.1) ((hk0.trans k2).trans k3)) (fun r h=>h)
   ·simp only [A0,Nat.reduceEqDiff,Ab,h6]
   ·simp only [A0,Nat.reduceEqDiff,Ab,h7]; rfl
   ·simp only [A0,Nat.reduceEqDiff,Aa]; rfl
   ·simp only [A0,Nat.reduceEqDiff,Aa,Ab]; rw [hsn,if_pos (by simp)]; rfl
  ·have hgt:((i:Int) > 0):=by omega
   have hne:l.take i ≠ []:=by
    intro e
    have h9:(l.take i).length=0:=by rw [e]; rfl
    rw [List.length_take] at h9; omega
   have c1:=C5 (Jp (l.take i)) [44,32] (by rw [show ([44,32]:List UInt8).length=2 from rfl]; omega)
   have c2:=C5 (Jp (l.take i) ++ [44,32]) (Dz l[i]) (by simp only [List.length_append,List.length_cons,List.length_nil]; omega)
   simp only [Cf,Br,A6,Bl,Bq,Bt,Dk,A4,Ey,Bh,A7,Bj,Eb,Cb,En,Bi,Ci,A5,Bc,Ba,A0,Bo,B5,ofOpt,ofOptS,Bb,Bv,Dd,Do,Nat.reduceLT,Nat.reduceEqDiff,Aa,Ab,Ac,Aj,Ak,Am,Ap,D6,Cy,iE,Tryz.f43,h7,h8,hlt,h6,hx,hep,al24,q1,hgt,h3,c1,l2,hf14]
   refine WC.mono (hek.ok ys hre S2 n2) ?_
   rintro _ ⟨S3,rfl,k3⟩
   unfold Bp
   simp only [B8,A6,A4,Bs,Bh,A7,Bj,Bi,Cz,A5,Bc,Ba,A0,ofOpt,Bb,Bv,Dl,Nat.reduceLT,Nat.reduceEqDiff,Aa,Ab,Ac,Am,D6,Cy,c2,h8,hw]
   refine WX.mono (uD (tok:=tok) (off:=off) l rfl hr hk hj hl S0 m (i + 1) _ S3 (by omega) ?_ ?_ ?_ ?_ (Nat.le_trans n2 k3.1) ((hk0.trans k2).trans k3)) (fun r h=>h)
   ·simp only [A0,Nat.reduceEqDiff,Ab,h6]
   ·simp only [A0,Nat.reduceEqDiff,Ab,h7]; rfl
   ·simp only [A0,Nat.reduceEqDiff,Aa]; rfl
   ·simp only [A0,Nat.reduceEqDiff,Aa,Ab]; rw [hsn,if_neg hne]; rfl
theorem len22s (S:St) (tok off:Nat) (es:List AV):Hp Tryz.prog S 22 (.sl tok off 6 es)=some es.length:=by simp [Hp,oR]
set_option maxHeartbeats 16000000 in
theorem row2_w {v:AV} {l:List PE} (hv:RepK v l) (hk:∀ e ∈ l,RefK e) (hj:∀ i,(Jp (l.take i)).length ≤ 1000000000) (hl:l.length ≤ 1000) (S:St) (hn:2 ≤ S.next):WC E8 43 [v] S (fun r=>∃ S',r=.ret (Bp (Jp l)) S' ∧ Eg S S'):=by
 refine Dx Tryz.f43 (by kernel_rfl) (by kernel_rfl) (by kernel_rfl) (show (_:Nat) ≤ _ from by show (_:Nat) ≤ _; simp [Tryz.f43]) ?_
 cases hv with
 | nil =>
  have hlen:Hp Tryz.prog S 22 .nils=some 0:=by simp [Hp,oR]
  have hlt:¬ ((((0:Nat):Int)) < (((0:Nat):Int))):=by omega
  have e0:(((0:Nat):Int) < ((0:Nat):Int))=False:=by simp
  simp only [A6,Bl,Bt,D5,A4,Bh,A7,Bj,Bi,A5,Bc,Ba,Cc,A0,A1,Bo,ofOpt,Bb,Nat.reduceLT,Nat.reduceEqDiff,Aa,Ab,Ac,Ae,D6,Tryz.f43,hlen]
  refine Fe (El ?_)
  have hlt:¬ (((0:Int)) < (((0:Nat):Int))):=by omega
  simp only [Cf,Br,A6,Bl,Bq,Bt,Dk,Bw,A4,Ey,F7,Bh,A7,Bj,Bi,Cg,A5,Bc,Ba,A0,A1,ofOpt,Bv,Bg,By,Bf,Cl,Dd,Nat.reduceLT,Nat.reduceEqDiff,Aa,Ab,Ac,Am,Aq,D6,hlt]
  exact ⟨_,rfl,Eg.refl _⟩
 | row tok off es kids hr =>
  have key:=fun t h6 h7 h8 h3=>uD l rfl hr hk hj hl S l.length 0 t S (by omega) h6 h7 h8 h3 hn (Eg.refl S) (tok:=tok) (off:=off)
  unfold iE at key
  simp only [Tryz.f43] at key
  have hlen:=len22s S tok off es
  rw [Ss hr] at hlen
  simp only [A6,Bl,Bt,D5,A4,Bh,A7,Bj,Bi,A5,Bc,Ba,Cc,A0,A1,Bo,ofOpt,Bb,Nat.reduceLT,Nat.reduceEqDiff,Aa,Ab,Ac,Ae,D6,Tryz.f43,hlen]
  refine WX.mono (key _ ?_ ?_ ?_ ?_) ?_
  ·simp only [A0,A1,Nat.reduceEqDiff,Aa,Ab]
  ·simp only [A0,A1,Nat.reduceEqDiff,Aa,Ab]; rfl
  ·simp only [A0,A1,Nat.reduceEqDiff,Aa,Ab]; rfl
  ·simp only [A0,A1,Nat.reduceEqDiff,Aa,Ab]; rfl
  rintro o ⟨t',S',rfl,h3,hk'⟩
  simp only [A6,Bl,Bw,A4,Ey,F7,Bh,A7,Bj,Bi,A5,Bc,Ba,A0,ofOpt,Bg,By,Bf,Cl,Nat.reduceLT,Nat.reduceEqDiff,Aa,Ab,Ac,h3]
  exact ⟨S',rfl,hk'⟩
end Go.Ax
