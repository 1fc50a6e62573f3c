/- Gb -/
import Derived.Test.YtjgknelmjdallaaGreatDoorTaG25
import Derived.Test.YtjgknelmjdallaaGreatDoorTaG23
import Derived.Test.YtjgknelmjdallaaGreatDoorTaG24
import Derived.Test.YtjgknelmjdallaaGreatDoorTaG22
set_option linter.unusedVariables false
set_option linter.unusedSimpArgs false
set_option maxHeartbeats 16000000
noncomputable section
namespace Go.Ax
open Go.RowKit Go.Proofs
set_option maxRecDepth 100000
theorem uP (b:Bool):D3 (Pi b)=Rr b:=by
 cases b
 ·show Lib.itoa 7=[55]
  unfold Lib.itoa
  rw [if_neg (by decide),show (7:Int).toNat=7 from rfl,Lib.decDigits,dif_pos (by decide)]
  rfl
 ·rfl
theorem mW:∀ (l:List Bool) (i:Nat),La (i + 1) l=Yt (l.map Pi)
 | [],i=>rfl
 | b :: l,i=>by
  show (if i + 1=0 then _ else [44,32]) ++ (Rr b ++ La (i + 1 + 1) l)=44 :: 32 :: (D3 (Pi b) ++ Yt (l.map Pi))
  rw [if_neg (by omega),mW l (i + 1),uP]
  rfl
theorem text_aw (vals:List Bool):D3 (awE vals)=[97,119,97,105,116,32,117] ++ awT vals:=by
 cases vals with
 | nil=>rfl
 | cons b l =>
  show R3 [117] (Dj ((b :: l).map Pi))=_
  unfold R3 awT
  rw [if_pos (by show 0 < (Dj (Pi b :: l.map Pi)).length; unfold Dj; simp),if_neg (by simp)]
  rw [List.map_cons,jT,uP]
  have e:La 0 (b :: l)=[32,97,102,116,101,114,32,40] ++ (Rr b ++ Yt (l.map Pi)):=by
   show (if (0:Nat)=0 then _ else _) ++ (Rr b ++ La (0 + 1) l)=_
   rw [if_pos rfl,mW]
  rw [e]
  simp
theorem text_less:D3 (.mk 6 0 0 [60] false [Tz 0,Tz 1])=[48,32,60,32,49]:=by
 have e0:Lib.itoa 0=[48]:=by unfold Lib.itoa; rw [if_neg (by decide),show (0:Int).toNat=0 from rfl,Lib.decDigits,dif_pos (by decide)]; rfl
 have e1:Lib.itoa 1=[49]:=by unfold Lib.itoa; rw [if_neg (by decide),show (1:Int).toNat=1 from rfl,Lib.decDigits,dif_pos (by decide)]; rfl
 have k0:D3 (Tz 0)=[48]:=e0
 have k1:D3 (Tz 1)=[49]:=e1
 show lM [60] (Dj [Tz 0,Tz 1])=_
 have ek:Dj [Tz 0,Tz 1]=[⟨[48],Dq (Tz 0),1⟩,⟨[49],Dq (Tz 1),1⟩]:=by
  show [(⟨D3 (Tz 0),Dq (Tz 0),1⟩:KI),⟨D3 (Tz 1),Dq (Tz 1),1⟩]=_
  rw [k0,k1]
 rw [ek]
 rfl
theorem textAw_is (future y:Bool) (vals:List Bool):iL [fAw future y vals,gAw future]=Rs future y vals:=by
 have t1:=text_aw vals
 have t2:=text_less
 have c1:D3 (.mk 13 0 0 [103] false [])=[103,40,41]:=rfl
 have f1:Km future true=[102,117,116,117,114,101,32] ++ Km future false:=rfl
 show Vh (fAw future y vals) ++ 32 :: Vh (gAw future)=_
 unfold Vh fAw gAw Rs
 simp only [I3,List.map_cons,List.map_nil,Lib.join_one,Lib.join_nil,G8,Aa,fV,Qa,kL,eqLn,eqT,Kd,List.length_cons,List.length_nil,Ab,Am,t1,t2,c1,f1]
 simp
theorem V8 (b:Bool):(Km b false).length ≤ 4:=by cases b <;> decide
theorem R6:∀ (l:List Bool) (i:Nat),(La i l).length ≤ 12 * l.length
 | [],i=>Nat.zero_le _
 | b :: l,i=>by
  have:=R6 l (i + 1)
  have hv:(Rr b).length ≤ 4:=by cases b <;> decide
  show ((if i=0 then _ else _) ++ (Rr b ++ La (i + 1) l)).length ≤ 12 * (l.length + 1)
  have hs:(if i=0 then [32,97,102,116,101,114,32,40] else [44,32]:List UInt8).length ≤ 8:=by split <;> decide
  simp only [List.length_append]
  omega
theorem gA (future y:Bool) (vals:List Bool) (h:vals.length ≤ 10):(Rs future y vals).length ≤ 400:=by
 have a1:=V8 future
 have a2:=V8 y
 have a3:(awT vals).length ≤ 121:=by
  unfold awT
  split
  ·exact Nat.zero_le _
  ·have:=R6 vals 0
   rw [List.length_append]
   simp only [List.length_cons,List.length_nil]
   omega
 unfold Rs
 simp only [List.length_append,List.length_cons,List.length_nil]
 omega
theorem uR (future y:Bool) (vals:List Bool) (h:vals.length ≤ 10):∃ us ms,Kc (Rs future y vals)=some (.inr us) ∧ Jv 70000 (.inr us)=some (.inl ms) ∧ Each2 Nn [fAw future y vals,gAw future] ms:=by
 have hl:=gA future y vals h
 rw [← textAw_is] at hl ⊢
 refine read_line (by simp) (fun x hx=>?_) (by omega)
 simp only [List.mem_cons,List.not_mem_nil,or_false] at hx
 rcases hx with rfl | rfl
 ·exact good_fAw future y vals
 ·exact good_gAw future
end Go.Ax
noncomputable section
namespace Go.Ax
open Go.RowKit Go.Proofs
set_option maxRecDepth 100000
end Go.Ax
noncomputable section
namespace Go.Ax
open Go.RowKit Go.Proofs
open Classical
set_option maxRecDepth 100000
def yU (l:List UInt8):R:=if h:∃ r,CT E1 15 [Cl l] St0 r then Classical.choose h else .fail
def Zq (args:List AV) (S:St):R:=match args with
 | [.v (.string s)]=>match Mf (yU s.data.toList) with
  | some a=>.ret a S
  | none=>.fail
 | _=>.fail
def fL (v:AV) (e:PE):Prop:=RepE v e ∧ Fit e ∧ G0 e ≤ 1000000
def uQ:List AV → Option AV
 | [v]=>if h:∃ e,fL v e then some (Cl (D3 (Classical.choose h))) else none
 | _=>none
def knownI8 (k:Nat):Option (List AV → St → R):=Bool.rec (Bool.rec none (some (Gu uQ)) (Nat.beq k 17)) (some Zq) (Nat.beq k 15)
def E8:Env:={ P:=Tryz.prog,G:=G7,F:=E1.F,I:=knownI8,M:=rowM }
end Go.Ax
noncomputable section
namespace Go.Ax
open Go.RowKit Go.Proofs
set_option maxRecDepth 100000
end Go.Ax
noncomputable section
namespace Go.Ax
open Go.RowKit Go.Proofs
set_option maxRecDepth 100000
theorem U8:∀ {es:List AV} {l:List PE},RepF es l → es.length=l.length
 | _,_,.nil=>rfl
 | _,_,.cons a e r l h h2=>by simp [U8 h2]
theorem Sf:∀ {es:List AV} {l:List PE},RepF es l → ∀ (i:Nat) (h:i < l.length),∃ ys,es[i]? = some (.agg ys) ∧ RepE (.agg ys) l[i]
 | _,_,.nil,i,hi=>absurd hi (Nat.not_lt_zero _)
 | _,_,.cons a e r l h h2,0,hi=>by
  obtain ⟨xs,rfl,_⟩:=h.agg
  exact ⟨xs,rfl,h⟩
 | _,_,.cons a e r l h h2,i + 1,hi=>by
  obtain ⟨ys,h3,h4⟩:=Sf h2 i (by simpa using hi)
  exact ⟨ys,by simpa using h3,by simpa using h4⟩
def RefOk (e:PE):Prop:=∀ (ys:List AV),RepE (.agg ys) e → ∀ S,2 ≤ S.next → WC E8 14 [.agg ys] S (fun r=>∃ S',r=.ret (Cl (D3 e)) S' ∧ Em S S')
structure RefK (e:PE):Prop where
 ok:RefOk e
 kind:1 ≤ Iu e ∧ Iu e ≤ 14
 len:(D3 e).length ≤ 1000000000
end Go.Ax
noncomputable section
namespace Go.Ax
open Go.RowKit Go.Proofs
set_option maxRecDepth 100000
end Go.Ax
noncomputable section
namespace Go.Ax
open Go.RowKit Go.Proofs
set_option maxRecDepth 100000
end Go.Ax
noncomputable section
namespace Go.Ax
open Go.RowKit Go.Proofs
set_option maxRecDepth 100000
inductive Few:PE → Prop where
 | mk (kind pos:Nat) (n:Int) (name:List UInt8) (off:Bool) (kids:List PE) (h:kids.length ≤ 1000) (hk:∀ e ∈ kids,Few e):Few (.mk kind pos n name off kids)
theorem Lb (a b:AV):Hu Tryz.prog 4 a b=false:=by
 have h:Tryz.prog.underlying 4=some .bool:=by kernel_rfl
 unfold Hu; rw [h]
theorem Mm (op:BinOp) (a b:Bool):Ei op (.v (.bool a)) (.v (.bool b))=none:=rfl
theorem lx28 {S:St} {id kind pos:Nat} {n:Int} {name:List UInt8} {off:Bool} {kv:AV} (h:S.mem.get id=some (.box (exC kind pos n name off kv))):Ch Tryz.prog S 28 (.ptr id 5)=some kv:=by
 have:Fp Tryz.prog 28=some false:=by kernel_rfl
 simp [Ch,Dr,h,this,exC]
theorem un28:Tryz.prog.underlying 28=some (.slice 30):=by kernel_rfl
theorem len28r (S:St) {v:AV} {l:List PE} (h:RepK v l):F5 Tryz.prog S 28 v=some l.length:=by
 cases h with
 | nil=>simp [F5,un28]
 | row tok off es kids h=>simp [F5,un28,U8 h]
theorem idx28x (tok off:Nat) (es:List AV) (j:Nat) (ys:List AV) (hy:es[j]? = some (.agg ys)):Dd Tryz.prog 28 (.sl tok off 6 es) (.v (.int .i64 (j:Int)))=some (.ep ys):=by
 have e28':H8 Tryz.prog 28=some (none,30):=by kernel_rfl
 have s30':Fl Tryz.prog 30=some 6:=by kernel_rfl
 simp [Dd,e28',s30',hy,AV.cells]
theorem sR (S:St) {cs:List AV} (hl:cs.length=6):Ch Tryz.prog S 30 (.ep cs)=some (.agg cs):=by
 have a30':Fp Tryz.prog 30=some true:=by kernel_rfl
 have s30':Fl Tryz.prog 30=some 6:=by kernel_rfl
 simp [Ch,Dr,a30',s30',hl]
 rw [List.take_of_length_le (by omega)]
def eqlBO (r:OR) (S:St) (x y:Option AV):OR:=match x,y with
 | some (.v (.bool a)),some (.v (.bool b))=>.val (.v (.bool (a == b))) S
 | _,_=>r
theorem Od (r:OR) (S:St) (a b:Bool):eqlBO r S (some (.v (.bool a))) (some (.v (.bool b)))=.val (.v (.bool (a == b))) S:=_root_.id rfl
theorem fastEqBe (a b:Bool):Ku Tryz.prog .eql 4 (.v (.bool a)) (.v (.bool b))=none:=by cases a <;> cases b <;> kernel_rfl
theorem L3 (f:T AV) (S:St) (dst:Option Tmp) (k l:Tmp) (ty:TypeId) (pos:String) (af:Array Edge) (gd:Option (Nat × Bool)) (a b:Bool) :
  Lk Tryz.prog G7 f S { dst:=dst,op:=.binOp .eql 4 (.tmp k) (.tmp l) 4,type:=ty,pos:=pos,after:=af,guard:=gd } .eql 4 (.v (.bool a)) (.v (.bool b))=eqlBO (dL Tryz.prog G7 f S { dst:=dst,op:=.binOp .eql 4 (.tmp k) (.tmp l) 4,type:=ty,pos:=pos,after:=af,guard:=gd } .eql 4 (.v (.bool a)) (.v (.bool b))) S (f.get k) (f.get l):=by
 unfold eqlBO
 split
 ·rename_i x y h1 h2
  have hg1:Db G7 f (.tmp k)=some (.bool x):=by unfold Db; simp only [A9,h1]; rfl
  have hg2:Db G7 f (.tmp l)=some (.bool y):=by unfold Db; simp only [A9,h2]; rfl
  unfold Lk
  rw [fastEqBe]
  simp only
  unfold ground
  have hall:((Op.binOp .eql 4 (.tmp k) (.tmp l) 4:Op).operands.toList.all fun x=>(Db G7 f x).isSome)=true:=by
   show ([Operand.tmp k,Operand.tmp l].all fun x=>(Db G7 f x).isSome)=true
   simp only [List.all_cons,List.all_nil,hg1,hg2,Option.isSome_some,Bool.and_self]
  refine (if_pos hall).trans ?_
  have e:execOp (fun x=>(Db G7 f x).getD undef) { dst:=dst,op:=.binOp .eql 4 (.tmp k) (.tmp l) 4,type:=ty,pos:=pos,after:=af,guard:=gd }=execOp (bB (.bool x) (.bool y)) { dst:=none,op:=.binOp .eql 4 (.tmp 0) (.tmp 1) 4,type:=4,pos := "", after:=#[],guard:=none }:=by
   simp only [execOp,hg1,hg2,Ae]
   rfl
  rw [e]
  cases x <;> cases y <;> rfl
 ·rfl
theorem fW:∀ (l:List Bool) (j:Nat) (b:Bool),La j (l ++ [b])=La j l ++ ((if j + l.length=0 then [32,97,102,116,101,114,32,40] else [44,32]) ++ Rr b)
 | [],j,b=>by
  show (if j=0 then _ else _) ++ (Rr b ++ [])=[] ++ ((if j + 0=0 then _ else _) ++ Rr b)
  simp
 | a :: l,j,b=>by
  show (if j=0 then _ else _) ++ (Rr a ++ La (j + 1) (l ++ [b]))=((if j=0 then _ else _) ++ (Rr a ++ La (j + 1) l)) ++ _
  rw [fW l (j + 1) b,if_neg (show ¬ (j + 1 + l.length=0) by omega),if_neg (show ¬ (j + (a :: l).length=0) by simp)]
  simp
def Oe:Code:=match Tryz.f7.body with
 | some (.seq _ (.seq _ (.seq _ (.seq _ (.seq (.seq _ (.block _ (.loop b))) _)))))=>b
 | _=>.skip
def Td (b:Bool):AV:=.v (.bool b)
theorem un71:Tryz.prog.underlying 71=some (.slice 4):=by kernel_rfl
theorem el71:H8 Tryz.prog 71=some (none,4):=by kernel_rfl
theorem sz4b:Fl Tryz.prog 4=some 1:=by kernel_rfl
theorem idx71 (tok off:Nat) (l:List Bool) (j:Nat) (h:j < l.length):Dd Tryz.prog 71 (.sl tok off 1 (l.map Td)) (.v (.int .i64 (j:Int)))=some (.ep [Td l[j]]):=by
 simp [Dd,el71,sz4b,List.getElem?_map,List.getElem?_eq_getElem h,Td,AV.cells]
theorem ld4epz (S:St) (b:Bool):Ch Tryz.prog S 4 (.ep [Td b])=some (.v (.bool b)):=by
 have:Fp Tryz.prog 4=some false:=by kernel_rfl
 simp [Ch,Dr,this,Td]
def Rl (future:Bool) (fit:Bool) (l:List Bool):Bool:=fit && l.all fun b=>b == future
def LoopAw (future y fit:Bool) (vals:List Bool) (r:O):Prop:=∃ t' S',r=.out (.exit 0) ⟨t',[]⟩ S' ∧ t'.get 0=some (.v (.bool future)) ∧ t'.get 1=some (.v (.bool y)) ∧ t'.get 7=some (Cl (La 0 vals)) ∧ t'.get 8=some (.v (.bool (Rl future fit vals)))
theorem aw_lp (future y fit:Bool) (tok off:Nat) (vals:List Bool) (hl:vals.length ≤ 10):∀ (m i:Nat) (t:T AV) (S:St),i + m=vals.length → t.get 0=some (.v (.bool future)) → t.get 1=some (.v (.bool y)) → t.get 29=some (.sl tok off 1 (vals.map Td)) → t.get 30=some (Dl vals.length) → t.get 31=some (Dl i) → t.get 7=some (Cl (La 0 (vals.take i))) → t.get 8=some (.v (.bool (Rl future fit (vals.take i)))) →
  WX E9 90 (.loop Oe) ⟨t,[]⟩ S (LoopAw future y fit vals)
 | 0,i,t,S,hi,h0,h1,h29,h30,h31,h7,h8=>by
  refine D0 (Ds ?_)
  have hlt:¬ ((i:Int) < (vals.length:Int)):=by omega
  rw [List.take_of_length_le (by omega)] at h7 h8
  simp only [Dl] at h30 h31
  simp only [Bz,Bp,A6,Bk,Bo,Bs,C9,A4,C0,Bh,A7,Be,Bd,Cg,A5,Bb,A9,A0,ofOpt,Bt,C6,Nat.reduceLT,Nat.reduceEqDiff,Aa,Ab,Ac,Am,Aq,E3,Oe,Tryz.f7,h30,h31,hlt]
  exact ⟨_,_,rfl,by simp only [A0,Nat.reduceEqDiff,Ab,h0],by simp only [A0,Nat.reduceEqDiff,Ab,h1],by simp only [A0,Nat.reduceEqDiff,Ab,h7],by simp only [A0,Nat.reduceEqDiff,Ab,h8]⟩
 | m + 1,i,t,S,hi,h0,h1,h29,h30,h31,h7,h8=>by
  refine D0 (Ds ?_)
  have hil:i < vals.length:=by omega
  have hlt:((i:Int) < (vals.length:Int)):=by omega
  have hx:=idx71 tok off vals i hil
  have hld:=ld4epz S vals[i]
  have hw:=Ky (i:=i) (by omega)
  have hle:=R6 (vals.take i) 0
  have htl:(vals.take i).length=i:=by rw [List.length_take]; omega
  rw [htl] at hle
  have hsn:La 0 (vals.take (i + 1))=La 0 (vals.take i) ++ ((if i=0 then [32,97,102,116,101,114,32,40] else [44,32]) ++ Rr vals[i]):=by
   rw [List.take_succ_eq_append_getElem hil,fW,htl,Nat.zero_add]
  have hft:Rl future fit (vals.take (i + 1))=(Rl future fit (vals.take i) && (vals[i] == future)):=by
   rw [List.take_succ_eq_append_getElem hil]
   unfold Rl
   rw [List.all_append,Bool.and_assoc]
   simp
  have next:∀ (t':T AV) (S':St),t'.get 0=some (.v (.bool future)) → t'.get 1=some (.v (.bool y)) → t'.get 29=some (.sl tok off 1 (vals.map Td)) → t'.get 30=some (Dl vals.length) → t'.get 31=some (Dl (i + 1)) → t'.get 7=some (Cl (La 0 (vals.take (i + 1)))) → t'.get 8=some (.v (.bool (Rl future fit (vals.take (i + 1))))) → WX E9 90 (.loop Oe) ⟨t',[]⟩ S' (LoopAw future y fit vals):=fun t' S'=>aw_lp future y fit tok off vals hl m (i + 1) t' S' (by omega)
  rw [hsn,hft] at next
  clear hsn hft
  generalize Rl future fit (vals.take i)=ft at h8 next
  generalize vals[i]=b at hx hld next
  generalize La 0 (vals.take i)=tx at h7 hle next
  simp only [Dl,Cl] at h30 h31 h7
  have fin:∀ (c:List UInt8),True:=fun _=>trivial
  by_cases hi0:i=0
  ·subst hi0
   have e0:(((0:Nat):Int) == 0)=true:=rfl
   rw [if_pos rfl] at next
   have htx:tx=[]:=by cases tx with
    | nil=>rfl
    | cons a q=>simp at hle
   subst htx
   cases b
   ·cases ft
    ·have c2:=C3 [32,97,102,116,101,114,32,40] [55] (by decide)
     simp only [By,Bz,Bp,A6,Bk,Bo,Bs,C9,A4,C0,Br,Bh,A7,Cp,Be,Bd,Cf,Cg,A5,Bb,A9,A0,ofOpt,Ba,Bt,C6,Dh,Cc,Nat.reduceLT,Nat.reduceAdd,Nat.reduceEqDiff,Aa,Ab,Ac,Af,Ag,Ah,Ai,Am,Ap,Ar,Av,E3,O5,Cz,Oe,Tryz.f7,h0,h29,h30,h31,h7,h8,hlt,hx,hld,e0,c2,hw,Lb]
     refine next _ _ ?_ ?_ ?_ ?_ ?_ ?_ ?_ <;> simp only [A0,Nat.reduceEqDiff,Aa,Ab,h0,h1,h29,h30,h31,Dl,Cl]
     all_goals first | rfl | (simp [Rr]; done) | (cases future <;> rfl)
    ·have c2:=C3 [32,97,102,116,101,114,32,40] [55] (by decide)
     simp only [By,Bz,Bp,A6,Bk,Bo,Bs,C9,A4,C0,Br,Bh,A7,Be,Bd,Cf,Cg,A5,Bb,A9,A0,ofOpt,Ba,Bt,C6,Dh,Cc,Nat.reduceLT,Nat.reduceAdd,Nat.reduceEqDiff,Aa,Ab,Ac,Af,Ag,Ah,Ai,Al,Am,Ap,Av,E3,O5,Cz,Oe,Tryz.f7,h0,h29,h30,h31,h7,h8,hlt,hx,hld,e0,c2,hw,L3,Od,Mm,Lb]
     refine next _ _ ?_ ?_ ?_ ?_ ?_ ?_ ?_ <;> simp only [A0,Nat.reduceEqDiff,Aa,Ab,h0,h1,h29,h30,h31,Dl,Cl]
     all_goals first | rfl | (simp [Rr]; done) | (cases future <;> rfl)
   ·cases ft
    ·have c2:=C3 [32,97,102,116,101,114,32,40] [116,114,117,101] (by decide)
     simp only [By,Bz,Bp,A6,Bk,Bo,Bs,C9,A4,C0,Br,Bh,A7,Cp,Be,Bd,Cf,A5,Bb,A9,A0,ofOpt,Ba,Bt,C6,Dh,Cc,Nat.reduceLT,Nat.reduceAdd,Nat.reduceEqDiff,Aa,Ab,Ac,Af,Ag,Ah,Ai,Am,Ap,Ar,Av,E3,O5,Cz,Oe,Tryz.f7,h0,h29,h30,h31,h7,h8,hlt,hx,hld,e0,c2,hw,Lb]
     refine next _ _ ?_ ?_ ?_ ?_ ?_ ?_ ?_ <;> simp only [A0,Nat.reduceEqDiff,Aa,Ab,h0,h1,h29,h30,h31,Dl,Cl]
     all_goals first | rfl | (simp [Rr]; done) | (cases future <;> rfl)
    ·have c2:=C3 [32,97,102,116,101,114,32,40] [116,114,117,101] (by decide)
     simp only [By,Bz,Bp,A6,Bk,Bo,Bs,C9,A4,C0,Br,Bh,A7,Be,Bd,Cf,A5,Bb,A9,A0,ofOpt,Ba,Bt,C6,Dh,Cc,Nat.reduceLT,Nat.reduceAdd,Nat.reduceEqDiff,Aa,Ab,Ac,Af,Ag,Ah,Ai,Al,Am,Ap,Aw,E3,O5,Cz,Oe,Tryz.f7,h0,h29,h30,h31,h7,h8,hlt,hx,hld,e0,c2,hw,L3,Od,Mm,Lb]
     refine next _ _ ?_ ?_ ?_ ?_ ?_ ?_ ?_ <;> simp only [A0,Nat.reduceEqDiff,Aa,Ab,h0,h1,h29,h30,h31,Dl,Cl]
     all_goals first | rfl | (simp [Rr]; done) | (cases future <;> rfl)
  ·have e0:((i:Int) == 0)=false:=by rw [beq_eq_false_iff_ne]; omega
   rw [if_neg hi0] at next
   cases b
   ·cases ft
    ·have c1:=C3 tx [44,32] (by simp only [List.length_cons,List.length_nil]; omega)
     have c2:=C3 (tx ++ [44,32]) [55] (by simp only [List.length_append,List.length_cons,List.length_nil]; omega)
     simp only [By,Bz,Bp,A6,Bk,Bo,Bs,C9,A4,C0,Br,Bh,A7,Cp,Be,Bd,Cf,Cg,A5,Bb,A9,A0,ofOpt,Ba,Bt,C6,Dh,Cc,Nat.reduceLT,Nat.reduceEqDiff,Aa,Ab,Ac,Af,Ag,Ah,Ai,Am,Ap,Ar,Av,E3,O5,Cz,Oe,Tryz.f7,h0,h29,h30,h31,h7,h8,hlt,hx,hld,e0,c1,c2,hw,Lb]
     refine next _ _ ?_ ?_ ?_ ?_ ?_ ?_ ?_ <;> simp only [A0,Nat.reduceEqDiff,Aa,Ab,h0,h1,h29,h30,h31,Dl,Cl]
     all_goals first | rfl | (simp [Rr]; done) | (cases future <;> rfl)
    ·have c1:=C3 tx [44,32] (by simp only [List.length_cons,List.length_nil]; omega)
     have c2:=C3 (tx ++ [44,32]) [55] (by simp only [List.length_append,List.length_cons,List.length_nil]; omega)
     simp only [By,Bz,Bp,A6,Bk,Bo,Bs,C9,A4,C0,Br,Bh,A7,Be,Bd,Cf,Cg,A5,Bb,A9,A0,ofOpt,Ba,Bt,C6,Dh,Cc,Nat.reduceLT,Nat.reduceEqDiff,Aa,Ab,Ac,Af,Ag,Ah,Ai,Al,Am,Ap,Av,E3,O5,Cz,Oe,Tryz.f7,h0,h29,h30,h31,h7,h8,hlt,hx,hld,e0,c1,c2,hw,L3,Od,Mm,Lb]
     refine next _ _ ?_ ?_ ?_ ?_ ?_ ?_ ?_ <;> simp only [A0,Nat.reduceEqDiff,Aa,Ab,h0,h1,h29,h30,h31,Dl,Cl]
     all_goals first | rfl | (simp [Rr]; done) | (cases future <;> rfl)
   ·cases ft
    ·have c1:=C3 tx [44,32] (by simp only [List.length_cons,List.length_nil]; omega)
     have c2:=C3 (tx ++ [44,32]) [116,114,117,101] (by simp only [List.length_append,List.length_cons,List.length_nil]; omega)
     simp only [By,Bz,Bp,A6,Bk,Bo,Bs,C9,A4,C0,Br,Bh,A7,Cp,Be,Bd,Cf,Cg,A5,Bb,A9,A0,ofOpt,Ba,Bt,C6,Dh,Cc,Nat.reduceLT,Nat.reduceEqDiff,Aa,Ab,Ac,Af,Ag,Ah,Ai,Am,Ap,Ar,Av,E3,O5,Cz,Oe,Tryz.f7,h0,h29,h30,h31,h7,h8,hlt,hx,hld,e0,c1,c2,hw,Lb]
     refine next _ _ ?_ ?_ ?_ ?_ ?_ ?_ ?_ <;> simp only [A0,Nat.reduceEqDiff,Aa,Ab,h0,h1,h29,h30,h31,Dl,Cl]
     all_goals first | rfl | (simp [Rr]; done) | (cases future <;> rfl)
    ·have c1:=C3 tx [44,32] (by simp only [List.length_cons,List.length_nil]; omega)
     have c2:=C3 (tx ++ [44,32]) [116,114,117,101] (by simp only [List.length_append,List.length_cons,List.length_nil]; omega)
     simp only [By,Bz,Bp,A6,Bk,Bo,Bs,C9,A4,C0,Br,Bh,A7,Be,Bd,Cf,Cg,A5,Bb,A9,A0,ofOpt,Ba,Bt,C6,Dh,Cc,Nat.reduceLT,Nat.reduceEqDiff,Aa,Ab,Ac,Af,Ag,Ah,Ai,Al,Am,Ap,Aw,E3,O5,Cz,Oe,Tryz.f7,h0,h29,h30,h31,h7,h8,hlt,hx,hld,e0,c1,c2,hw,L3,Od,Mm,Lb]
     refine next _ _ ?_ ?_ ?_ ?_ ?_ ?_ ?_ <;> simp only [A0,Nat.reduceEqDiff,Aa,Ab,h0,h1,h29,h30,h31,Dl,Cl]
     all_goals first | rfl | (simp [Rr]; done) | (cases future <;> rfl)
def rawC (k a n:Int) (s:ByteArray) (b:Bool) (kv:AV):List AV:=[.v (.int .i64 k),.v (.int .i64 a),.v (.int .i64 n),.v (.string s),.v (.bool b),kv]
mutual
inductive RawE:AV → Prop where
 | mk (k a n:Int) (s:ByteArray) (b:Bool) (kv:AV) (hn:-9223372036854775808 ≤ n ∧ n ≤ 9223372036854775807) (h:RawK kv):RawE (.agg (rawC k a n s b kv))
inductive RawK:AV → Prop where
 | nil:RawK .nils
 | row (tok off:Nat) (es:List AV) (h:∀ e ∈ es,RawE e):RawK (.sl tok off 6 es)
 | emp (a:Addr):RawK (.v (.slice (some a) 0 0))
end
structure SomeE (d:Nat) (e:PE):Prop where
 good:GoodT e
 fit:Fit e
 few:Few e
 size:G0 e ≤ 4 ^ d
 deep:Ki e ≤ d
def V0 (c:Option Cell) (k:Nat):Option AV:=match c with
 | some (.box cs)=>cs[k]?
 | _=>none
theorem qD (cs:List AV) (k:Nat):V0 (some (.box cs)) k=cs[k]?:=_root_.id rfl
theorem dA {t:TypeId} (ha:Fp Tryz.prog t=some false) (S:St) (p k:Nat):Ch Tryz.prog S t (.ptr p k)=V0 (S.mem.get p) k:=by
 unfold Ch Dr V0
 simp only [ha]
 cases h:S.mem.get p with
 | none=>simp only [h]
 | some c =>
  cases c with
  | box cs =>
   simp only [h]
   by_cases hk:k ≤ cs.length
   ·rw [if_pos hk]
    simp only
    cases hd:cs.drop k with
    | nil =>
     have hl:=congrArg List.length hd
     simp at hl
     rw [List.getElem?_eq_none (by omega)]; rfl
    | cons a r =>
     have h0:(cs.drop k)[0]? = some a:=by rw [hd]; rfl
     rw [List.getElem?_drop,Nat.add_zero] at h0
     rw [h0]; rfl
   ·rw [if_neg hk,List.getElem?_eq_none (by omega)]
  | tip m=>simp only [h]
  | mp es=>simp only [h]
theorem mJ (S:St) (p k:Nat):Ch Tryz.prog S 3 (.ptr p k)=V0 (S.mem.get p) k:=dA (by kernel_rfl) S p k
theorem sP (S:St) (p k:Nat):Ch Tryz.prog S 4 (.ptr p k)=V0 (S.mem.get p) k:=dA (by kernel_rfl) S p k
theorem bF (S:St) (p k:Nat):Ch Tryz.prog S 9 (.ptr p k)=V0 (S.mem.get p) k:=dA (by kernel_rfl) S p k
theorem fng_19:∃ fn,E9.F 19=some fn:=Option.isSome_iff_exists.1 (by kernel_rfl)
theorem fng_27:∃ fn,E9.F 27=some fn:=Option.isSome_iff_exists.1 (by kernel_rfl)
theorem fng_28:∃ fn,E9.F 28=some fn:=Option.isSome_iff_exists.1 (by kernel_rfl)
theorem fng_29:∃ fn,E9.F 29=some fn:=Option.isSome_iff_exists.1 (by kernel_rfl)
theorem bl52 (b:Bool):Gj Tryz.prog 52 [(0,.v (.bool b))]=some (.agg [.v (.bool b),.v (.bool false)]):=by kernel_rfl
theorem fa52_0 (p:Nat):Cw Tryz.prog 52 (.ptr p 0) 0=some (.ptr p 0):=by kernel_rfl
theorem fa52_1 (p:Nat):Cw Tryz.prog 52 (.ptr p 0) 1=some (.ptr p 1):=by kernel_rfl
theorem l52_0 (S:St) (a c:AV):Ch Tryz.prog (S.newBox [a,c]) 4 (.ptr S.next 0)=some a:=by
 rw [sP,Cs]; rfl
theorem l52_1 (S:St) (a c:AV):Ch Tryz.prog (S.newBox [a,c]) 4 (.ptr S.next 1)=some c:=by
 rw [sP,Cs]; rfl
theorem type_g (b:Bool) (S:St):WC E9 28 [.agg [.v (.bool b),.v (.bool false)]] S (fun r=>∃ S',r=.ret (Cl (Km b false)) S' ∧ Em S S'):=by
 refine Do Tryz.f28 (by kernel_rfl) (by kernel_rfl) (by kernel_rfl) (by show (_:Nat) ≤ _;simp [Tryz.f28]) ?_
 have k1:=Ct S [.v (.bool b),.v (.bool false)]
 have l0:=l52_0 S (.v (.bool b)) (.v (.bool false))
 have l1:=l52_1 S (.v (.bool b)) (.v (.bool false))
 generalize hS1:S.newBox [.v (.bool b),.v (.bool false)]=S1 at k1 l0 l1
 cases b
 ·simp only [Bp,A6,Bk,Bo,Bw,A4,Bh,A7,Be,Bd,Cg,A5,Bb,A9,Cb,A0,A1,ofOpt,Ba,Bj,Bu,Bf,Ci,Nat.reduceLT,Nat.reduceEqDiff,Aa,Ab,Ac,Ae,Am,E3,O5,Cz,Tryz.f28,B8,B9,hS1,l0,l1,fa52_0,fa52_1]
  exact ⟨_,rfl,k1⟩
 ·simp only [Bp,A6,Bk,Bo,Bw,A4,Bh,A7,Be,Bd,Cf,Cg,A5,Bb,A9,Cb,A0,A1,ofOpt,Ba,Bj,Bu,Bf,Ci,Nat.reduceLT,Nat.reduceEqDiff,Aa,Ab,Ac,Ae,Am,E3,O5,Cz,Tryz.f28,B8,B9,hS1,l0,l1,fa52_0,fa52_1]
  exact ⟨_,rfl,k1⟩
theorem word_g (b:Bool) (S:St):WC E9 27 [.v (.bool b)] S (fun r=>∃ S',r=.ret (Cl (Km b false)) S' ∧ Em S S'):=by
 refine Do Tryz.f27 (by kernel_rfl) (by kernel_rfl) (by kernel_rfl) (by show (_:Nat) ≤ _;simp [Tryz.f27]) ?_
 obtain ⟨fn1,hf28⟩:=fng_28
 simp only [A6,Bk,A4,Bh,A7,Be,B3,Bd,A5,Bb,A9,Cb,A0,A1,Bn,B4,ofOpt,Ba,Bv,Nat.reduceLT,Nat.reduceEqDiff,Aa,Ab,Ac,Ae,Aj,Ak,E3,Tryz.f27,bl52,hf28]
 refine WC.mono (type_g b S) ?_
 rintro _ ⟨S1,rfl,k1⟩
 simp only [Bw,A4,Bh,A7,Be,Bd,Cn,A5,Bb,A9,A0,A1,ofOpt,Bj,Bu,Bf,Ci,Nat.reduceLT,Nat.reduceEqDiff,Aa,Ab,Ac]
 exact ⟨_,rfl,k1⟩
def CheckAw (future y:Bool) (vals:List Bool):Prop:=∀ (ms:List PN) (v:AV) (S:St),Each2 Nn [fAw future y vals,gAw future] ms → O0 v ms → WC E9 29 [v] S (fun r=>∃ (a e:Nat) (S':St),r=.ret (.agg (Dg a e)) S' ∧ ((((a:Int) == 0) && (((e:Int) == 0) && true))=(Rl future (future == y && decide (vals.length ≤ 8)) vals && future)))
def cC:Code:=match Tryz.f7.body with
 | some (.seq _ (.seq _ (.seq _ (.seq _ (.seq _ c)))))=>c
 | _=>.skip
def awT1:Code:=match cC with | .seq c _=>c | _=>.skip
def awT2:Code:=match cC with | .seq _ c=>c | _=>.skip
def EndsAw (r:O):Prop:=∃ f' S',r=.out .ret ⟨f',[]⟩ S' ∧ f'.get 6=some (.v (.bool true))
theorem awT2_w (future y:Bool) (vals:List Bool) (h10:vals.length ≤ 10) (hC:CheckAw future y vals) (t:T AV) (S:St) (h0:t.get 0=some (.v (.bool future))) (h1:t.get 1=some (.v (.bool y))) (h7:t.get 7=some (Cl (awT vals))) (h8:t.get 8=some (.v (.bool (Rl future (future == y && decide (vals.length ≤ 8)) vals)))):W E9 90 awT2 ⟨t,[]⟩ S EndsAw:=by
 obtain ⟨fn1,hf19⟩:=fng_19
 obtain ⟨fn2,hf27⟩:=fng_27
 obtain ⟨fn3,hf29⟩:=fng_29
 have ly:=V8 y
 have lf:=V8 future
 have la:(awT vals).length ≤ 121:=by
  unfold awT
  split
  ·exact Nat.zero_le _
  ·have:=R6 vals 0
   rw [List.length_append]
   simp only [List.length_cons,List.length_nil]
   omega
 obtain ⟨us,ms,hu,hread,hlike⟩:=uR future y vals h10
 have hlen:=gA future y vals h10
 have htx:((((((((([110,111,100,101,32,102,40,41,32,114,101,116,117,114,110,115,32,40,121,58,32]:List UInt8)) ++ Km y false) ++ [41,32,118,97,114,32,117,58,32,102,117,116,117,114,101,32]) ++ Km future false) ++ [59,32,108,101,116,32,117,32,61,32,97,115,121,110,99,32,103,40,41,59,32,121,32,61,32,97,119,97,105,116,32,117]) ++ awT vals) ++ [59,32,116,101,108,32,110,111,100,101,32,103,40,41,32,114,101,116,117,114,110,115,32,40,120,58,32]) ++ Km future false) ++ [41,32,108,101,116,32,120,32,61,32,48,32,60,32,49,59,32,116,101,108]=Rs future y vals:=by
  unfold Rs; simp
 simp only [Cl] at h7
 simp only [A6,Bk,A4,Bh,A7,Be,B3,Bd,A5,Bb,A9,A0,Bn,B4,ofOpt,Nat.reduceLT,Nat.reduceEqDiff,Aa,Ab,Ac,Aj,Ak,awT2,cC,Tryz.f7,h1,hf27]
 refine WC.mono (word_g y S) ?_
 rintro _ ⟨S1,rfl,k1⟩
 unfold Cl
 generalize Km y false=Y at ly htx
 generalize hF:Km future false=F at lf htx
 generalize awT vals=A at la htx h7
 have c1:=C3 ([110,111,100,101,32,102,40,41,32,114,101,116,117,114,110,115,32,40,121,58,32]) (Y) (by simp only [List.length_append,List.length_cons,List.length_nil]; omega)
 have c2:=C3 (([110,111,100,101,32,102,40,41,32,114,101,116,117,114,110,115,32,40,121,58,32]) ++ Y) ([41,32,118,97,114,32,117,58,32,102,117,116,117,114,101,32]) (by simp only [List.length_append,List.length_cons,List.length_nil]; omega)
 have c3:=C3 ((([110,111,100,101,32,102,40,41,32,114,101,116,117,114,110,115,32,40,121,58,32]) ++ Y) ++ [41,32,118,97,114,32,117,58,32,102,117,116,117,114,101,32]) (F) (by simp only [List.length_append,List.length_cons,List.length_nil]; omega)
 have c4:=C3 (((([110,111,100,101,32,102,40,41,32,114,101,116,117,114,110,115,32,40,121,58,32]) ++ Y) ++ [41,32,118,97,114,32,117,58,32,102,117,116,117,114,101,32]) ++ F) ([59,32,108,101,116,32,117,32,61,32,97,115,121,110,99,32,103,40,41,59,32,121,32,61,32,97,119,97,105,116,32,117]) (by simp only [List.length_append,List.length_cons,List.length_nil]; omega)
 have c5:=C3 ((((([110,111,100,101,32,102,40,41,32,114,101,116,117,114,110,115,32,40,121,58,32]) ++ Y) ++ [41,32,118,97,114,32,117,58,32,102,117,116,117,114,101,32]) ++ F) ++ [59,32,108,101,116,32,117,32,61,32,97,115,121,110,99,32,103,40,41,59,32,121,32,61,32,97,119,97,105,116,32,117]) (A) (by simp only [List.length_append,List.length_cons,List.length_nil]; omega)
 have c6:=C3 (((((([110,111,100,101,32,102,40,41,32,114,101,116,117,114,110,115,32,40,121,58,32]) ++ Y) ++ [41,32,118,97,114,32,117,58,32,102,117,116,117,114,101,32]) ++ F) ++ [59,32,108,101,116,32,117,32,61,32,97,115,121,110,99,32,103,40,41,59,32,121,32,61,32,97,119,97,105,116,32,117]) ++ A) ([59,32,116,101,108,32,110,111,100,101,32,103,40,41,32,114,101,116,117,114,110,115,32,40,120,58,32]) (by simp only [List.length_append,List.length_cons,List.length_nil]; omega)
 have c7:=C3 ((((((([110,111,100,101,32,102,40,41,32,114,101,116,117,114,110,115,32,40,121,58,32]) ++ Y) ++ [41,32,118,97,114,32,117,58,32,102,117,116,117,114,101,32]) ++ F) ++ [59,32,108,101,116,32,117,32,61,32,97,115,121,110,99,32,103,40,41,59,32,121,32,61,32,97,119,97,105,116,32,117]) ++ A) ++ [59,32,116,101,108,32,110,111,100,101,32,103,40,41,32,114,101,116,117,114,110,115,32,40,120,58,32]) (F) (by simp only [List.length_append,List.length_cons,List.length_nil]; omega)
 have c8:=C3 (((((((([110,111,100,101,32,102,40,41,32,114,101,116,117,114,110,115,32,40,121,58,32]) ++ Y) ++ [41,32,118,97,114,32,117,58,32,102,117,116,117,114,101,32]) ++ F) ++ [59,32,108,101,116,32,117,32,61,32,97,115,121,110,99,32,103,40,41,59,32,121,32,61,32,97,119,97,105,116,32,117]) ++ A) ++ [59,32,116,101,108,32,110,111,100,101,32,103,40,41,32,114,101,116,117,114,110,115,32,40,120,58,32]) ++ F) ([41,32,108,101,116,32,120,32,61,32,48,32,60,32,49,59,32,116,101,108]) (by simp only [List.length_append,List.length_cons,List.length_nil]; omega)
 simp only [A7,Be,B3,Bd,Cn,A5,Bb,A9,A0,Bn,B4,ofOpt,Ba,Nat.reduceLT,Nat.reduceEqDiff,Aa,Ab,Ac,Aj,Ak,Am,E3,Cz,h0,c1,c2,hf27]
 refine WC.mono (word_g future S1) ?_
 rintro _ ⟨S2,rfl,k2⟩
 rw [hF]
 unfold Cl
 simp only [A7,Be,B3,Bd,Cn,A5,Bb,A9,A0,Bn,B4,ofOpt,Ba,Nat.reduceLT,Nat.reduceEqDiff,Aa,Ab,Ac,Aj,Ak,Am,E3,Cz,h0,h7,c3,c4,c5,c6,hf27]
 refine WC.mono (word_g future S2) ?_
 rintro _ ⟨S3,rfl,k3⟩
 rw [hF]
 unfold Cl
 simp only [A7,Be,B3,Bd,Cn,A5,Bb,A9,A0,Bn,B4,Ba,Nat.reduceLT,Nat.reduceEqDiff,Aa,Ab,Ac,Aj,Ak,Am,E3,Cz,c7,c8,hf19]
 rw [htx]
 refine i9_19 _ _ _ ?_
 have hpc:Mi [.v (.string ⟨⟨Rs future y vals⟩⟩)] S3=Mi [Cl (Rs future y vals)] S3:=rfl
 rw [hpc]
 rcases rU (l:=Rs future y vals) (by omega) hu S3 with ⟨ns2,v,hr2,hp2,hi2⟩ | ⟨q,hr2,hp2⟩
 ·have he:ns2=ms:=by rw [hread] at hr2; injection hr2 with hr2; injection hr2 with hr2; exact hr2.symm
  subst he
  rw [hp2]
  have q1:=Pz (Cs S3 (Dg 0 0)) rfl (rfl:(Dg 0 0).length=2)
  have q2:=Ir (S3.newBox (Dg 0 0)) S3.next (Dg 0 0) rfl
  generalize hS4:(S3.newBox (Dg 0 0)).put S3.next (Dg 0 0)=S4 at q1 q2
  simp only [Bp,A6,Bk,Bo,Bw,A4,B1,Bh,A7,Be,Dm,B3,Dy,Bd,Cn,Cg,A5,Bb,A9,A0,Bn,B4,ofOpt,ofOptS,Ba,Bv,Nat.reduceLT,Nat.reduceEqDiff,Aa,Ab,Ac,Ag,Ah,Aj,Ak,Am,E3,O5,nn33,fb33,q1,q2,Oh,bd33,Cm,eq7nz,hf29]
  refine WC.mono (hC ns2 v S4 hlike hi2) ?_
  rintro _ ⟨a,e,S5,rfl,hfit⟩
  have e33:=fun f S o=>eq7e f S o a e
  rw [hfit] at e33
  generalize Rl future (future == y && decide (vals.length ≤ 8)) vals=ft at h8 e33
  cases ft <;> cases future
  all_goals
   simp only [Bw,A4,Bh,A7,Cp,Be,Bd,Cn,A5,Bb,A9,A0,ofOpt,Ba,Bv,Nat.reduceLT,Nat.reduceEqDiff,Aa,Ab,Ac,Ad,Af,Ag,Ah,Ai,Al,Am,Ar,Av,E3,O5,nn33,fbe33,h0,h8,bd33,e33,Bool.and_true,Bool.and_false,Bool.true_and,L3,Od,Mm,Lb]
   exact ⟨_,_,rfl,by simp only [A0,Nat.reduceEqDiff,Ab,Aa]⟩
 ·rw [hread] at hr2; injection hr2 with hr2; cases hr2
theorem isInt31:(match Tryz.prog.underlying 31 with | some (.int _)=>true | _=>false)=true:=by kernel_rfl
theorem nn31 (a b:AV):Hu Tryz.prog 31 a b=false:=by
 have h:=isInt31
 unfold Hu
 split at h
 ·rename_i k hu; rw [hu]
 ·cases h
def I9 (mn mm:AV) (a e:Nat):List AV:=[mn,mm,Dl a,Dl e]
def Jm (wrong:Bool) (at' err:Nat) (f:Nat × Nat):Nat × Nat:=if wrong=true ∧ f.2=0 then (at',err) else f
structure Sight (S:St) (s:Nat) (mn mm:AV) (f:Nat × Nat):Prop where
 box:S.mem.get s=some (.box (I9 mn mm f.1 f.2))
 lt:s < S.next
theorem fa125_0 (b:Nat):Cw Tryz.prog 125 (.ptr b 0) 0=some (.ptr b 0):=by kernel_rfl
theorem Rm (b:Nat):Cw Tryz.prog 125 (.ptr b 0) 1=some (.ptr b 1):=by kernel_rfl
theorem tN (b:Nat):Cw Tryz.prog 125 (.ptr b 0) 2=some (.ptr b 2):=by kernel_rfl
theorem fa33_1x (b:Nat):Cw Tryz.prog 33 (.ptr b 2) 1=some (.ptr b 3):=by kernel_rfl
theorem ldc31 (S:St) (p k:Nat):Ch Tryz.prog S 31 (.ptr p k)=V0 (S.mem.get p) k:=dA (by kernel_rfl) S p k
theorem bld33 (a e:Nat):Gj Tryz.prog 33 [(0,.v (.int .i64 (a:Int))),(1,.v (.int .i64 (e:Int)))]=some (.agg (Dg a e)):=by kernel_rfl
theorem sz33z:Fl Tryz.prog 33=some 2:=by kernel_rfl
theorem st33s {S:St} {s:Nat} {mn mm:AV} {a e:Nat} (h:S.mem.get s=some (.box (I9 mn mm a e))) (a' e':Nat):Di Tryz.prog S 33 (.ptr s 2) (.agg (Dg a' e'))=some (S.put s (I9 mn mm a' e')):=by
 simp [Di,h,sz33z,AV.noTup,AV.cells,Dg,I9,St.put]
theorem Tj {S:St} {s:Nat} {mn mm:AV} {f:Nat × Nat} (h:Sight S s mn mm f) (wrong:Bool) (at' err:Nat):WC E9 104 [.ptr s 0,.v (.bool wrong),Dl at',Dl err] S (fun r=>∃ S',r=.ret (.tup []) S' ∧ Sight S' s mn mm (Jm wrong at' err f) ∧ D9 s S S' ∧ S'.next=S.next):=by
 refine Do Tryz.f104 (by kernel_rfl) (by kernel_rfl) (by kernel_rfl) (by show (_:Nat) ≤ _;simp [Tryz.f104]) ?_
 have hb:=h.box
 have l3:Ch Tryz.prog S 31 (.ptr s 3)=some (.v (.int .i64 (f.2:Int))):=by rw [ldc31,hb]; rfl
 cases wrong
 ·simp only [Bp,A6,Bk,Bo,A4,Bh,A7,Cp,Be,Bd,Cg,A5,Bb,A9,Cb,A0,A1,ofOpt,Ba,Bv,Bu,Bf,Ci,Nat.reduceLT,Nat.reduceAdd,Nat.reduceEqDiff,Aa,Ab,Ac,Ae,Af,Ag,Ah,Ai,Am,Ar,Av,E3,O5,Tryz.f104,Ls,nn31,Dl]
  exact ⟨_,rfl,by rw [show Jm false at' err f=f from by unfold Jm; simp]; exact h,⟨Nat.le_refl _,fun _ _ _=>rfl⟩,rfl⟩
 ·by_cases hf:f.2=0
  ·have e0:((f.2:Int) == 0)=true:=by rw [hf]; rfl
   have q1:=st33s hb at' err
   simp only [Bp,A6,Bk,Bo,A4,Bh,A7,Be,Dm,Dy,Bd,Cf,A5,Bb,A9,Cb,A0,A1,ofOpt,Ba,Bv,Bu,Bf,Ci,Cc,Nat.reduceLT,Nat.reduceAdd,Nat.reduceEqDiff,Aa,Ab,Ac,Ae,Af,Ag,Ah,Ai,Al,Am,E3,Tryz.f104,tN,fa33_1x,l3,e0,bld33,q1,Ls,nn31,Dl]
   refine ⟨_,rfl,⟨?_,h.lt⟩,⟨Nat.le_refl _,fun id _ hn=>Eo hn⟩,rfl⟩
   rw [show Jm true at' err f=(at',err) from by unfold Jm; rw [if_pos ⟨rfl,hf⟩]]
   exact Eg _ _ _
  ·have e0:((f.2:Int) == 0)=false:=by rw [beq_eq_false_iff_ne]; omega
   simp only [Bp,A6,Bk,Bo,A4,Bh,A7,Be,Bd,Cg,A5,Bb,A9,Cb,A0,A1,ofOpt,Ba,Bv,Bu,Bf,Ci,Cc,Nat.reduceLT,Nat.reduceAdd,Nat.reduceEqDiff,Aa,Ab,Ac,Ae,Af,Ag,Ah,Ai,Al,Am,E3,Tryz.f104,tN,fa33_1x,l3,e0,Ls,nn31,Dl]
   exact ⟨_,rfl,by rw [show Jm true at' err f=f from by unfold Jm; rw [if_neg (fun h=>hf h.2)]]; exact h,⟨Nat.le_refl _,fun _ _ _=>rfl⟩,rfl⟩
section
variable {α:Type} (f:α → AV)
def Ip (l:List (List UInt8 × α)):List (Value × AV):=l.map fun p=>(Value.string ⟨⟨p.1⟩⟩,f p.2)
def Ub:List (List UInt8 × α) → List UInt8 → Option α
 | [],_=>none
 | (n,x) :: r,k=>if k=n then some x else Ub r k
def Ve:List (List UInt8 × α) → List UInt8 → α → List (List UInt8 × α)
 | [],k,x=>[(k,x)]
 | (n,y) :: r,k,x=>if k=n then (n,x) :: r else (n,y) :: Ve r k x
def lT (T E:TypeId):Prop:=∃ d,wY Tryz.prog T=some (9,d,E) ∧ ∀ x y:List UInt8,Instr.sameNow d (.string ⟨⟨x⟩⟩) (.string ⟨⟨y⟩⟩)=some (decide (x=y))
theorem nD {T E:TypeId} (h:(match wY Tryz.prog T with | some (9,.string,e)=>Nat.beq e E | _=>false)=true):lT T E:=by
 split at h
 ·rename_i e hk
  have:=Nat.eq_of_beq_eq_true h
  subst this
  refine ⟨_,hk,fun x y=>?_⟩
  simp only [Instr.sameNow,Aa]
  by_cases e:x=y
  ·subst e; simp [Jg]
  ·rw [decide_eq_false e]
   cases hb:((⟨⟨x⟩⟩:ByteArray) == ⟨⟨y⟩⟩) with
   | false=>simp [hb]
   | true=>exact absurd (congrArg (fun b:ByteArray=>b.data.toList) (cA hb)) e
 ·cases h
theorem X2 {d:TypeDesc} (hs:∀ x y:List UInt8,Instr.sameNow d (.string ⟨⟨x⟩⟩) (.string ⟨⟨y⟩⟩)=some (decide (x=y))) (k:List UInt8):∀ (l:List (List UInt8 × α)) (i:Nat),(Ub l k=none ∧ P8 d (.string ⟨⟨k⟩⟩) (Ip f l) i=some none ∧ ∀ y,Ve l k y=l ++ [(k,y)]) ∨ ∃ j x,Ub l k=some x ∧ P8 d (.string ⟨⟨k⟩⟩) (Ip f l) i=some (some (i + j,f x)) ∧ ∀ y,Ve l k y=l.set j (k,y)
 | [],i=>.inl ⟨rfl,rfl,fun _=>rfl⟩
 | (n,x) :: r,i=>by
  by_cases hk:k=n
  ·refine .inr ⟨0,x,by unfold Ub; rw [if_pos hk],?_,fun y=>by unfold Ve; rw [if_pos hk,hk]; rfl⟩
   unfold Ip P8
   simp only [List.map_cons,hs,decide_eq_true hk]
   rfl
  ·rcases X2 hs k r (i + 1) with ⟨h1,h2,h3⟩ | ⟨j,z,h1,h2,h3⟩
   ·refine .inl ⟨by unfold Ub; rw [if_neg hk]; exact h1,?_,fun y=>by unfold Ve; rw [if_neg hk,h3 y]; rfl⟩
    unfold Ip P8
    simp only [List.map_cons,hs,decide_eq_false hk]
    exact h2
   ·refine .inr ⟨j + 1,z,by unfold Ub; rw [if_neg hk]; exact h1,?_,fun y=>by unfold Ve; rw [if_neg hk,h3 y]; rfl⟩
    unfold Ip P8
    simp only [List.map_cons,hs,decide_eq_false hk]
    rw [show i + (j + 1)=i + 1 + j by omega]
    exact h2
theorem jJ {T E:TypeId} (hT:lT T E) {z:AV} (hz:Ll Tryz.prog E=some z) {S:St} {m:Nat} {l:List (List UInt8 × α)} (hm:S.mem.get m=some (.mp (Ip f l))) (k:List UInt8):Ia Tryz.prog S T (.map m) (.v (.string ⟨⟨k⟩⟩)) false=some (match Ub l k with | some x=>f x | none=>z):=by
 obtain ⟨d,hd,hs⟩:=hT
 have ht:Un 8 (.v (.string ⟨⟨k⟩⟩))=some (.string ⟨⟨k⟩⟩):=rfl
 simp only [Ia,Zt,hd,hm,ht]
 rcases X2 f hs k l 0 with ⟨h1,h2,_⟩ | ⟨j,x,h1,h2,_⟩
 ·rw [h1,h2]; simp only [hz]; rfl
 ·rw [h1,h2]; rfl
theorem mY {T E:TypeId} (hT:lT T E) {S:St} {m:Nat} {l:List (List UInt8 × α)} (hm:S.mem.get m=some (.mp (Ip f l))) (k:List UInt8) (x:α):Fw Tryz.prog S T (.map m) (.v (.string ⟨⟨k⟩⟩)) (f x)=some { S with mem:=S.mem.set m (some (.mp (Ip f (Ve l k x)))) }:=by
 obtain ⟨d,hd,hs⟩:=hT
 have ht:Un 8 (.v (.string ⟨⟨k⟩⟩))=some (.string ⟨⟨k⟩⟩):=rfl
 simp only [Fw,hd,hm,ht]
 rcases X2 f hs k l 0 with ⟨h1,h2,h3⟩ | ⟨j,y,h1,h2,h3⟩
 ·rw [h2,h3 x]; simp [Ip]
 ·rw [h2,h3 x]; simp [Ip,List.map_set]
end
theorem key123:lT 123 52:=nD (by kernel_rfl)
theorem key121:lT 121 49:=nD (by kernel_rfl)
def tyA (t:Bool × Bool):AV:=.agg [.v (.bool t.1),.v (.bool t.2)]
theorem zero52:Ll Tryz.prog 52=some (tyA (false,false)):=by kernel_rfl
theorem Ri {S:St} {m:Nat} {l:List (List UInt8 × (Bool × Bool))} (hm:S.mem.get m=some (.mp (Ip tyA l))) (k:List UInt8):Ia Tryz.prog S 123 (.map m) (.v (.string ⟨⟨k⟩⟩)) false=some (tyA ((Ub l k).getD (false,false))):=by
 rw [jJ tyA key123 zero52 hm k]
 cases Ub l k <;> rfl
theorem Rk:∃ fn,E9.F 104=some fn:=Option.isSome_iff_exists.1 (by kernel_rfl)
theorem fng_105:∃ fn,E9.F 105=some fn:=Option.isSome_iff_exists.1 (by kernel_rfl)
theorem fne52 (a b c d:Bool):Ku Tryz.prog .neq 52 (tyA (a,b)) (tyA (c,d))=some (.v (.bool (!((a == c) && (b == d))))):=by cases a <;> cases b <;> cases c <;> cases d <;> kernel_rfl
theorem ne52 (f:T AV) (S:St) (o:Oper) (a b c d:Bool):Lk Tryz.prog G7 f S o .neq 52 (tyA (a,b)) (tyA (c,d))=.val (.v (.bool (!((a == c) && (b == d))))) S:=by
 unfold Lk
 rw [fne52]
theorem nn52 (a b:AV):Hu Tryz.prog 52 a b=false:=by
 have u52:(match Tryz.prog.underlying 52 with | some (.struct _)=>true | _=>false)=true:=by kernel_rfl
 unfold Hu
 split at u52
 ·rename_i h; rw [h]
 ·cases u52
theorem fb52 (op:BinOp) (x y:Bool × Bool):Ei op (tyA x) (tyA y)=none:=rfl
theorem Xy (S:St) (p k:Nat):Ch Tryz.prog S 123 (.ptr p k)=V0 (S.mem.get p) k:=dA (by kernel_rfl) S p k
theorem ldc121 (S:St) (p k:Nat):Ch Tryz.prog S 121 (.ptr p k)=V0 (S.mem.get p) k:=dA (by kernel_rfl) S p k
theorem bl52t:Gj Tryz.prog 52 [(0,.v (.bool true))]=some (tyA (true,false)):=by kernel_rfl
def I8 (l:List (List UInt8 × (Bool × Bool))) (k:List UInt8):Bool × Bool:=(Ub l k).getD (false,false)
theorem fng_69:∃ fn,E9.F 69=some fn:=Option.isSome_iff_exists.1 (by kernel_rfl)
theorem fa54_0 (b:Nat):Cw Tryz.prog 54 (.ptr b 0) 0=some (.ptr b 0):=by kernel_rfl
theorem fa54_1 (b:Nat):Cw Tryz.prog 54 (.ptr b 0) 1=some (.ptr b 1):=by kernel_rfl
theorem bN (b:Nat):Cw Tryz.prog 54 (.ptr b 0) 2=some (.ptr b 2):=by kernel_rfl
theorem fa54_3 (b:Nat):Cw Tryz.prog 54 (.ptr b 0) 3=some (.ptr b 4):=by kernel_rfl
theorem Zp (b:Nat):Cw Tryz.prog 52 (.ptr b 2) 1=some (.ptr b 3):=by kernel_rfl
theorem fG (b:Nat):Cw Tryz.prog 52 (.ptr b 2) 0=some (.ptr b 2):=by kernel_rfl
theorem ld54ep (S:St) (d:PD):Ch Tryz.prog S 54 (.ep (Fg d))=some (.agg (Fg d)):=by
 simp [Ch,Dr,zT,dW,Fg]
theorem declC3 (d:PD):(Fg d)[3]? = some (.v (.bool d.fut)):=_root_.id rfl
theorem declC1 (d:PD):(Fg d)[1]? = some (.v (.int .i64 (d.pos:Int))):=_root_.id rfl
def N4:List PD → Nat × Nat → Nat × Nat
 | [],f=>f
 | d :: l,f=>N4 l (Jm d.fut d.pos 7 f)
def jB:Code:=match Tryz.f69.body with
 | some (.seq _ (.block _ (.loop b)))=>b
 | _=>.skip
theorem Sight.keep {S S':St} {s:Nat} {mn mm:AV} {f:Nat × Nat} (h:Sight S s mn mm f) (k:Em S S'):Sight S' s mn mm f:=⟨(k.2 s h.lt).trans h.box,Nat.lt_of_lt_of_le h.lt k.1⟩
def LoopNf (S0:St) (s:Nat) (mn mm:AV) (f:Nat × Nat) (r:O):Prop:=∃ t' S',r=.out (.exit 0) ⟨t',[]⟩ S' ∧ Sight S' s mn mm f ∧ D9 s S0 S'
theorem nf_lp {s:Nat} {mn mm:AV} {tok off:Nat} (ds:List PD) (hl:ds.length ≤ 1000000) (S0:St) (hs0:s < S0.next):∀ (m j:Nat) (f:Nat × Nat) (t:T AV) (S:St),j + m=ds.length → t.get 0=some (.ptr s 0) → t.get 6=some (.sl tok off 6 (ds.map F0)) → t.get 7=some (Dl ds.length) → t.get 8=some (Dl j) → Sight S s mn mm f → D9 s S0 S →
  WX E9 20 (.loop jB) ⟨t,[]⟩ S (LoopNf S0 s mn mm (N4 (ds.drop j) f))
 | 0,j,f,t,S,hj,h0,h6,h7,h8,hg,hk=>by
  refine D0 (Ds ?_)
  have hlt:¬ ((j:Int) < (ds.length:Int)):=by omega
  simp only [Dl] at h7 h8
  simp only [Bz,Bp,A6,Bk,Bo,Bs,C9,A4,C0,Bh,A7,Be,Bd,Cg,A5,Bb,A9,A0,ofOpt,Bt,C6,Nat.reduceLT,Nat.reduceEqDiff,Aa,Ab,Ac,Am,Aq,E3,jB,Tryz.f69,h7,h8,hlt]
  rw [List.drop_of_length_le (by omega)]
  exact ⟨_,_,rfl,hg,hk⟩
 | m + 1,j,f,t,S,hj,h0,h6,h7,h8,hg,hk=>by
  refine D0 (Ds ?_)
  obtain ⟨fn1,hf104⟩:=Rk
  have hjl:j < ds.length:=by omega
  have hlt:((j:Int) < (ds.length:Int)):=by omega
  have hw:IntKind.i64.wrap ((j:Int) + 1)=((j + 1:Nat):Int):=by rw [IntKind.wrap_i64]; omega
  have hx:=idx46d tok off ds j hjl
  rw [List.drop_eq_getElem_cons hjl]
  generalize ds[j]=d at hx
  have hep:=ld54ep S d
  have g1:=Cs S Nq
  have k1:=Ct S Nq
  have q1:=nF g1 rfl d
  have k2:Em S ((S.newBox Nq).put S.next (Fg d)):=En k1 (Nat.le_refl _) _
  have g2:=Eg (S.newBox Nq) S.next (Fg d)
  generalize hS2:(S.newBox Nq).put S.next (Fg d)=S2 at q1 k2 g2
  have hg2:=hg.keep k2
  simp only [Dl] at h7 h8
  simp only [Bz,Bp,A6,Bk,Bo,Bs,C9,A4,C0,Bh,A7,Be,Dm,B3,Dy,Bd,Cf,A5,Bb,A9,A0,Bn,B4,ofOpt,ofOptS,Ba,Bt,C6,Nat.reduceLT,Nat.reduceEqDiff,Aa,Ab,Ac,Aj,Ak,Am,Ap,E3,jB,Tryz.f69,h0,h6,h7,h8,hlt,hx,hep,Xe,q1,fa54_1,bN,Zp,mJ,sP,qD,g2,declC1,declC3,hf104]
  refine WC.mono (Tj hg2 d.fut d.pos 7) ?_
  rintro _ ⟨S3,rfl,hg3,k3,n3⟩
  simp only [By,A6,A4,Br,Bh,A7,Be,Bd,Cn,A5,Bb,A9,A0,ofOpt,Ba,Bt,Dh,Nat.reduceLT,Nat.reduceEqDiff,Aa,Ab,Ac,Am,E3,h8,hw]
  refine nf_lp (tok:=tok) (off:=off) ds hl S0 hs0 m (j + 1) _ _ S3 (by omega) ?_ ?_ ?_ ?_ hg3 ((hk.trans (k2.x s)).trans k3)
  ·simp only [A0,Nat.reduceEqDiff,Ab,h0]
  ·simp only [A0,Nat.reduceEqDiff,Ab,h6]
  ·simp only [A0,Nat.reduceEqDiff,Ab,h7]; rfl
  ·simp only [A0,Nat.reduceEqDiff,Aa]; rfl
theorem noFut_w {S:St} {s:Nat} {mn mm v:AV} {f:Nat × Nat} {ds:List PD} (h:Sight S s mn mm f) (hv:Hl 6 F0 v ds) (hl:ds.length ≤ 1000000):WC E9 69 [.ptr s 0,v] S (fun r=>∃ S',r=.ret (.tup []) S' ∧ Sight S' s mn mm (N4 ds f) ∧ D9 s S S'):=by
 refine Do Tryz.f69 (by kernel_rfl) (by kernel_rfl) (by kernel_rfl) (by show (_:Nat) ≤ _;simp [Tryz.f69]) ?_
 rcases hv with ⟨rfl,rfl⟩ | ⟨tok,off,rfl⟩
 ·have hlen:F5 Tryz.prog S 46 .nils=some 0:=by simp [F5,un46]
  simp only [A6,Bk,Bs,Dv,A4,Bh,A7,Be,Bd,A5,Bb,A9,Cb,A0,A1,Bn,ofOpt,Ba,Nat.reduceLT,Nat.reduceAdd,Nat.reduceEqDiff,Aa,Ab,Ac,Ae,E3,Tryz.f69,hlen]
  refine D0 (Ds ?_)
  have hlt:¬ ((0:Int) < ((0:Nat):Int)):=by omega
  simp only [Bz,Bp,A6,Bk,Bo,Bs,C9,A4,C0,Dw,Bh,A7,Be,Bd,Cg,A5,Bb,A9,A0,A1,ofOpt,Bt,Bu,Bf,Ci,C6,Nat.reduceLT,Nat.reduceEqDiff,Aa,Ab,Ac,Am,Aq,E3,hlt,Ls]
  exact ⟨_,rfl,h,⟨Nat.le_refl _,fun _ _ _=>rfl⟩⟩
 ·have key:=fun t h0 h6 h7 h8=>nf_lp (s:=s) (mn:=mn) (mm:=mm) (tok:=tok) (off:=off) ds hl S h.lt ds.length 0 f t S (by omega) h0 h6 h7 h8 h ⟨Nat.le_refl _,fun _ _ _=>rfl⟩
  unfold jB at key
  simp only [Tryz.f69] at key
  have hlen:F5 Tryz.prog S 46 (.sl tok off 6 (ds.map F0))=some ds.length:=by simp [F5,un46]
  simp only [A6,Bk,Bs,Dv,A4,Bh,A7,Be,Bd,A5,Bb,A9,Cb,A0,A1,Bn,ofOpt,Ba,Nat.reduceLT,Nat.reduceAdd,Nat.reduceEqDiff,Aa,Ab,Ac,Ae,E3,Tryz.f69,hlen]
  refine WX.mono (key _ ?_ ?_ ?_ ?_) ?_
  ·simp only [A0,A1,Nat.reduceEqDiff,Aa,Ab]
  ·simp only [A0,A1,Nat.reduceEqDiff,Aa,Ab]
  ·simp only [A0,A1,Nat.reduceEqDiff,Aa,Ab]; rfl
  ·simp only [A0,A1,Nat.reduceEqDiff,Aa,Ab]; rfl
  rintro o ⟨t',S',rfl,hg,hk⟩
  simp only [Dw,Bu,Bf,Ci,Aa,Ls]
  exact ⟨S',rfl,hg,hk⟩
theorem sZ:∃ fn,E9.F 163=some fn:=Option.isSome_iff_exists.1 (by kernel_rfl)
theorem fng_189:∃ fn,E9.F 189=some fn:=Option.isSome_iff_exists.1 (by kernel_rfl)
theorem fng_190:∃ fn,E9.F 190=some fn:=Option.isSome_iff_exists.1 (by kernel_rfl)
theorem fng_192:∃ fn,E9.F 192=some fn:=Option.isSome_iff_exists.1 (by kernel_rfl)
theorem fng_193:∃ fn,E9.F 193=some fn:=Option.isSome_iff_exists.1 (by kernel_rfl)
theorem fng_206:∃ fn,E9.F 206=some fn:=Option.isSome_iff_exists.1 (by kernel_rfl)
structure NdM where
 g:Nat
 l:List (List UInt8 × AV)
structure Cx (s m:Nat) (mn:NdM) (names:List (List UInt8 × (Bool × Bool))) (S:St) (f:Nat × Nat):Prop where
 g:Sight S s (.map mn.g) (.map m) f
 mp:S.mem.get m=some (.mp (Ip tyA names))
 lt:m < S.next ∧ m ≠ s
 nd:S.mem.get mn.g=some (.mp (Ip id mn.l))
 ndlt:mn.g < S.next ∧ mn.g ≠ s
theorem Cx.keep {s m:Nat} {mn:NdM} {names:List (List UInt8 × (Bool × Bool))} {S S':St} {f:Nat × Nat} (h:Cx s m mn names S f) (k:Em S S'):Cx s m mn names S' f:=⟨h.g.keep k,(k.2 m h.lt.1).trans h.mp,⟨Nat.lt_of_lt_of_le h.lt.1 k.1,h.lt.2⟩,(k.2 mn.g h.ndlt.1).trans h.nd,⟨Nat.lt_of_lt_of_le h.ndlt.1 k.1,h.ndlt.2⟩⟩
theorem Cx.x {s m:Nat} {mn:NdM} {names:List (List UInt8 × (Bool × Bool))} {S S':St} {f f':Nat × Nat} (h:Cx s m mn names S f) (k:D9 s S S') (hg:Sight S' s (.map mn.g) (.map m) f'):Cx s m mn names S' f':=⟨hg,(k.2 m h.lt.1 h.lt.2).trans h.mp,⟨Nat.lt_of_lt_of_le h.lt.1 k.1,h.lt.2⟩,(k.2 mn.g h.ndlt.1 h.ndlt.2).trans h.nd,⟨Nat.lt_of_lt_of_le h.ndlt.1 k.1,h.ndlt.2⟩⟩
def dV (s m:Nat) (mn:NdM) (names:List (List UInt8 × (Bool × Bool))) (Ty:PE → Nat × Nat → (Bool × Bool) × (Nat × Nat)) (e:PE):Prop:=∀ (xs:List AV) (S:St) (f:Nat × Nat),RepE (.agg xs) e → Cx s m mn names S f → WC E9 163 [.ptr s 0,.agg xs] S (fun r=>∃ S',r=.ret (tyA (Ty e f).1) S' ∧ Cx s m mn names S' (Ty e f).2 ∧ D9 s S S')
def Sk (Ty:PE → Nat × Nat → (Bool × Bool) × (Nat × Nat)) (t:Bool × Bool):List PE → Nat × Nat → Nat × Nat
 | [],f=>f
 | e :: l,f=>Sk Ty t l (Jm (!(((Ty e f).1.1 == t.1) && ((Ty e f).1.2 == t.2))) (Yv e) 7 (Ty e f).2)
def jF:Code:=match Tryz.f189.body with
 | some (.seq _ (.seq (.seq _ (.block _ (.loop b))) _))=>b
 | _=>.skip
theorem P6 {S:St} {id:Nat} {t:Bool × Bool} (h:S.mem.get id=some (.box [.v (.bool t.1),.v (.bool t.2)])):Ch Tryz.prog S 52 (.ptr id 0)=some (tyA t):=by
 simp [Ch,Dr,h,ag52,uV,tyA]
def LoopMu (s m:Nat) (mn:NdM) (names:List (List UInt8 × (Bool × Bool))) (S0:St) (q o:Nat) (f:Nat × Nat) (r:O):Prop:=∃ t' S',r=.out (.exit 0) ⟨t',[]⟩ S' ∧ t'.get 4=some (.ptr q 0) ∧ t'.get 6=some (.ptr o 0) ∧ Cx s m mn names S' f ∧ D9 s S0 S'
theorem mu_lp {s m:Nat} {mn:NdM} {names:List (List UInt8 × (Bool × Bool))} {Ty:PE → Nat × Nat → (Bool × Bool) × (Nat × Nat)} {tok off:Nat} {es:List AV} (l:List PE) (hr:RepF es l) (hT:∀ e ∈ l,dV s m mn names Ty e) (hl:l.length ≤ 1000000) (ty:Bool × Bool) (q o:Nat) (S0:St) (hs0:s < S0.next) (hq:q < S0.next ∧ q ≠ s) (hqm:S0.mem.get q=some (.box [.v (.bool ty.1),.v (.bool ty.2)])):∀ (n j:Nat) (f:Nat × Nat) (t:T AV) (S:St),j + n=l.length → t.get 0=some (.ptr s 0) → t.get 4=some (.ptr q 0) → t.get 6=some (.ptr o 0) → t.get 9=some (.sl tok off 6 es) → t.get 10=some (Dl l.length) → t.get 11=some (Dl j) → Cx s m mn names S f → D9 s S0 S →
  WX E9 26 (.loop jF) ⟨t,[]⟩ S (LoopMu s m mn names S0 q o (Sk Ty ty (l.drop j) f))
 | 0,j,f,t,S,hj,h0,h4,h6,h9,h10,h11,hc,hk=>by
  refine D0 (Ds ?_)
  have hlt:¬ ((j:Int) < (l.length:Int)):=by omega
  simp only [Dl] at h10 h11
  simp only [Bz,Bp,A6,Bk,Bo,Bs,C9,A4,C0,Bh,A7,Be,Bd,Cg,A5,Bb,A9,A0,ofOpt,Bt,C6,Nat.reduceLT,Nat.reduceEqDiff,Aa,Ab,Ac,Am,Aq,E3,jF,Tryz.f189,h10,h11,hlt]
  rw [List.drop_of_length_le (by omega)]
  exact ⟨_,_,rfl,by simp only [A0,Nat.reduceEqDiff,Ab,h4],by simp only [A0,Nat.reduceEqDiff,Ab,h6],hc,hk⟩
 | n + 1,j,f,t,S,hj,h0,h4,h6,h9,h10,h11,hc,hk=>by
  refine D0 (Ds ?_)
  obtain ⟨fn1,hf104⟩:=Rk
  obtain ⟨fn2,hf163⟩:=sZ
  have hjl:j < l.length:=by omega
  have hlt:((j:Int) < (l.length:Int)):=by omega
  have hw:IntKind.i64.wrap ((j:Int) + 1)=((j + 1:Nat):Int):=by rw [IntKind.wrap_i64]; omega
  obtain ⟨ys,hyi,hre⟩:=Sf hr j hjl
  have hx:=idx28x tok off es j ys hyi
  have hel:=hT _ (List.getElem_mem hjl)
  rw [List.drop_eq_getElem_cons hjl]
  generalize l[j]=e at hre hel
  have hyl:ys.length=6:=by cases hre; rfl
  have hep:=sR S hyl
  have g1:=Cs S exZ
  have k1:=Ct S exZ
  have q1:=Uv g1 rfl hyl
  have k2:Em S ((S.newBox exZ).put S.next ys):=En k1 (Nat.le_refl _) _
  have g2:=Eg (S.newBox exZ) S.next ys
  have n2:S.next < ((S.newBox exZ).put S.next ys).next:=Nat.lt_succ_self _
  generalize hS2:(S.newBox exZ).put S.next ys=S2 at q1 k2 g2 n2
  have hc2:=hc.keep k2
  have l2:=ld30 g2 hyl
  simp only [Dl] at h10 h11
  simp only [Bz,Bp,A6,Cj,Bk,Bo,Bs,C9,A4,C0,Bh,A7,Be,Dm,Dy,Bd,Cf,A5,Bb,A9,A0,ofOpt,ofOptS,Bt,C6,Nat.reduceLT,Nat.reduceEqDiff,Aa,Ab,Ac,Am,Ap,E3,jF,Tryz.f189,h9,h10,h11,hlt,hx,hep,Gb,q1]
  refine Gy [(0,true),(1,true),(2,true),(4,true),(6,true),(7,true),(3,true),(7,false),(4,false),(5,true),(8,true)] (by kernel_rfl) (by kernel_rfl) ?_
  have hkq2:D9 s S0 S2:=hk.trans (k2.x s)
  have l3b:=P6 ((hkq2.2 q hq.1 hq.2).trans hqm)
  have lpb:Ch Tryz.prog S2 3 (.ptr S.next 1)=some (.v (.int .i64 (Yv e:Int))):=ld3p g2 hre
  have bt:Ga (tyA ty) (tyA ty)=true:=by obtain ⟨a,b⟩:=ty; cases a <;> cases b <;> rfl
  simp only [A5,Bb,A9,A0,Bn,B4,ofOpt,Nat.reduceLT,Nat.reduceEqDiff,Aa,Ab,Ac,Af,Ag,Ah,Aj,Ak,Am,E3,h0,h4,l2,l3b,lpb,fe1,hf163,Dx,C8,Dk,Co,Gz]
  refine WC.mono (hel ys S2 f hre hc2) ?_
  rintro _ ⟨S3,rfl,hc3,k3⟩
  have hkq:D9 s S0 S3:=(hk.trans (k2.x s)).trans k3
  have gq:S3.mem.get q=some (.box [.v (.bool ty.1),.v (.bool ty.2)]):=(hkq.2 q hq.1 hq.2).trans hqm
  have l3:=P6 gq
  have hsn:S.next ≠ s:=by have:=hc.g.lt; omega
  have g3:S3.mem.get S.next=some (.box ys):=(k3.2 S.next n2 hsn).trans g2
  have lp:Ch Tryz.prog S3 3 (.ptr S.next 1)=some (.v (.int .i64 (Yv e:Int))):=ld3p g3 hre
  have nq:=fun f' S' o'=>ne52 f' S' o' (Ty e f).1.1 (Ty e f).1.2 ty.1 ty.2
  have ety:tyA (Ty e f).1=tyA ((Ty e f).1.1,(Ty e f).1.2):=rfl
  have ety2:tyA ty=tyA (ty.1,ty.2):=rfl
  simp only [A5,Bb,A9,A0,Bn,B4,ofOpt,Ba,Nat.reduceLT,Nat.reduceEqDiff,Aa,Ab,Ac,Aj,Ak,Am,E3,O5,h4,l3,lp,bt,nn52,fb52,ety,ety2,nq,hf104,Dx,Hj,C8,Dk,Co,D6,Eb,Es,V4]
  refine WC.mono (Tj hc3.g _ (Yv e) 7) ?_
  rintro _ ⟨S4,rfl,hg4,k4,n4⟩
  simp only [By,A6,A4,Br,Bh,A7,Be,Bd,A5,Bb,A9,A0,ofOpt,Ba,Bt,Dh,Nat.reduceLT,Nat.reduceEqDiff,Aa,Ab,Ac,Am,E3,h11,hw,Eu,Co,D6,Ed]
  refine mu_lp (tok:=tok) (off:=off) l hr hT hl ty q o S0 hs0 hq hqm n (j + 1) _ _ S4 (by omega) ?_ ?_ ?_ ?_ ?_ ?_ (hc3.x k4 hg4) (hkq.trans k4)
  ·simp only [A0,Nat.reduceEqDiff,Ab,h0]
  ·simp only [A0,Nat.reduceEqDiff,Ab,h4]
  ·simp only [A0,Nat.reduceEqDiff,Ab,h6]
  ·simp only [A0,Nat.reduceEqDiff,Ab,h9]
  ·simp only [A0,Nat.reduceEqDiff,Ab,h10]; rfl
  ·simp only [A0,Nat.reduceEqDiff,Aa]; rfl
end Go.Ax
