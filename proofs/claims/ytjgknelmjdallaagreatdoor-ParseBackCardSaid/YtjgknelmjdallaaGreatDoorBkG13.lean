/- Lc -/
import Derived.Test.YtjgknelmjdallaaGreatDoorBkG12
set_option linter.unusedVariables false
set_option linter.unusedSimpArgs false
noncomputable section
namespace Go.Ax
open Go.RowKit Go.Proofs
set_option maxRecDepth 100000
theorem pA (l:List UInt8) (i:Nat) (h:i ≤ l.length):F3 Tryz.prog 9 (.v (.string ⟨⟨l⟩⟩)) (some (.v (.int .i64 (i:Int)))) none=some (.v (.string ⟨⟨l.drop i⟩⟩)):=by
 have hu:Tryz.prog.underlying 9=some .string:=rfl
 have h0:(0:Int) ≤ (i:Int):=by omega
 have hs:(⟨⟨l⟩⟩:ByteArray).size=l.length:=rfl
 simp only [F3,hu,Ja,if_pos h0,Int.toNat_natCast,hs]
 rw [Nat.ble_eq_true_of_le h,Nat.ble_eq_true_of_le (Nat.le_refl _)]
 show some (AV.v (.string ⟨⟨(l.drop i).take (l.length - i)⟩⟩))=_
 rw [List.take_of_length_le (by simp)]
theorem sl9_to (l:List UInt8) (j:Nat) (h:j ≤ l.length):F3 Tryz.prog 9 (.v (.string ⟨⟨l⟩⟩)) none (some (.v (.int .i64 (j:Int))))=some (.v (.string ⟨⟨l.take j⟩⟩)):=by
 have hu:Tryz.prog.underlying 9=some .string:=rfl
 have h0:(0:Int) ≤ (j:Int):=by omega
 have hs:(⟨⟨l⟩⟩:ByteArray).size=l.length:=rfl
 simp only [F3,hu,Ja,if_pos h0,Int.toNat_natCast,hs]
 rw [Nat.ble_eq_true_of_le (Nat.zero_le _),Nat.ble_eq_true_of_le h]
 rfl
theorem bS (l:List UInt8) (i j:Nat) (hi:i ≤ j) (h:j ≤ l.length):F3 Tryz.prog 9 (.v (.string ⟨⟨l⟩⟩)) (some (.v (.int .i64 (i:Int)))) (some (.v (.int .i64 (j:Int))))=some (.v (.string ⟨⟨(l.drop i).take (j - i)⟩⟩)):=by
 have hu:Tryz.prog.underlying 9=some .string:=rfl
 have h0:(0:Int) ≤ (i:Int):=by omega
 have h1:(0:Int) ≤ (j:Int):=by omega
 have hs:(⟨⟨l⟩⟩:ByteArray).size=l.length:=rfl
 simp only [F3,hu,Ja,if_pos h0,if_pos h1,Int.toNat_natCast,hs]
 rw [Nat.ble_eq_true_of_le hi,Nat.ble_eq_true_of_le h]
 rfl
theorem Gi (l m:List UInt8):Ea .eql (.v (.string ⟨⟨l⟩⟩)) (.v (.string ⟨⟨m⟩⟩))=some (.v (.bool (decide (l=m)))):=by
 simp only [Ea,I9]
 have e:(l == m)=decide (l=m):=by rw [Bool.eq_iff_iff]; simp
 show some (AV.v (.bool (l == m)))=_
 rw [e]
theorem Cy (a b:AV):Hs Tryz.prog 9 a b=false:=by
 have h:Tryz.prog.underlying 9=some .string:=rfl
 unfold Hs; rw [h]
def Ef (pre l:List UInt8):Bool:=decide (l.take pre.length=pre)
set_option maxHeartbeats 4000000 in
theorem pre122_w (l pre:List UInt8) (S:St):WC E1 122 [Bp l,Bp pre] S (fun r=>r=.ret (.v (.bool (Ef pre l))) S):=by
 refine Dx Tryz.f122 (by kernel_rfl) (by kernel_rfl) (by kernel_rfl) (show (_:Nat) ≤ _ from by show (_:Nat) ≤ _; simp [Tryz.f122]) ?_
 unfold Bp
 by_cases h:(pre.length:Int) ≤ (l.length:Int)
 ·have hs:=sl9_to l pre.length (by omega)
  simp only [A6,Bl,Bw,Be,B1,A7,A9,A8,A5,Bc,Ba,Cc,A0,A1,Bo,B5,ofOpt,Bb,B9,Fb,Bv,Bg,By,Bf,Cl,Er,Nat.reduceLT,Nat.reduceAdd,Nat.reduceEqDiff,Aa,Ab,Ad,Ae,Af,Ag,Ah,Ai,Al,Am,Ap,Option.toList,Ay,Az,Tryz.f122,W1,h,hs,Gi,Cy,Ef]
 ·have e:Ef pre l=false:=by
   unfold Ef
   rw [decide_eq_false_iff_not]; intro hq
   have:=congrArg List.length hq
   simp at this; omega
  simp only [A6,Bl,Bw,Be,B1,A7,Ct,A9,A8,A5,Bc,Ba,Cc,A0,A1,Bo,ofOpt,Bb,B9,Fb,Bv,Bg,By,Bf,Cl,Er,Nat.reduceLT,Nat.reduceAdd,Nat.reduceEqDiff,Aa,Ab,Ad,Ae,Af,Ag,Ah,Ai,Am,Aq,Ar,Av,Tryz.f122,W1,h,Cy,e]
theorem fnOk122:∃ fn,E1.F 122=some fn:=Option.isSome_iff_exists.1 (by kernel_rfl)
theorem pre_w (l pre:List UInt8) (S:St):WC E1 85 [Bp l,Bp pre] S (fun r=>r=.ret (.v (.bool (Ef pre l))) S):=by
 refine Dx Tryz.f85 (by kernel_rfl) (by kernel_rfl) (by kernel_rfl) (show (_:Nat) ≤ _ from by show (_:Nat) ≤ _; simp [Tryz.f85]) ?_
 obtain ⟨fn1,hf1⟩:=fnOk122
 simp only [A6,Bl,Be,B1,A7,A9,Bd,A8,A5,Bc,Ba,Cc,A0,A1,Bo,B5,ofOpt,Bb,Nat.reduceLT,Nat.reduceAdd,Nat.reduceEqDiff,Aa,Ab,Ac,Ae,Aj,Ak,Tryz.f85,hf1]
 refine WC.mono (pre122_w l pre S) ?_
 rintro _ rfl
 simp only [Bw,Be,B1,A7,A9,A8,Bk,A5,Bc,Ba,A0,A1,ofOpt,Bg,By,Bf,Cl,Nat.reduceLT,Nat.reduceEqDiff,Aa,Ab,Ad]
theorem e69:Ir Tryz.prog 69=some (none,9):=by kernel_rfl
theorem u69:Tryz.prog.underlying 69=some (.slice 9):=by kernel_rfl
theorem s9:Fo Tryz.prog 9=some 1:=by kernel_rfl
theorem a9:Fm Tryz.prog 9=some false:=by kernel_rfl
theorem len69 (S:St) (tok off:Nat) (es:List AV):Hp Tryz.prog S 69 (.sl tok off 1 es)=some es.length:=by simp [Hp,u69]
theorem idx69 (tok off:Nat) (ws:List (List UInt8)) (i:Nat) (h:i < ws.length):Cm Tryz.prog 69 (.sl tok off 1 (ws.map Bp)) (.v (.int .i64 (i:Int)))=some (.ep [Bp ws[i]]):=by
 have h0:(0:Int) ≤ (i:Int):=by omega
 simp [Cm,h0,e69,s9,h,Bp,AV.cells]
theorem zG (S:St) (x:AV):C3 Tryz.prog S 9 (.ep [x])=some x:=by simp [C3,Dr,a9]
noncomputable def Q0:Code:=match Tryz.f160.body with
 | some (.seq _ (.seq (.seq _ (.block _ (.loop c))) _))=>c
 | _=>.skip
set_option maxHeartbeats 4000000 in
theorem dT (tok off:Nat) (ws:List (List UInt8)) (s:List UInt8) (hl:ws.length ≤ 100000) (S:St):∀ (m i:Nat) (t:T AV),i + m=ws.length → t.get 0=some (.sl tok off 1 (ws.map Bp)) → t.get 1=some (Bp s) → t.get 7=some (D0 ws.length) → t.get 8=some (D0 i) →
  WX E1 19 (.loop Q0) ⟨t,[]⟩ S (fun r=>∃ t',(r=.out (.exit 0) ⟨t',[]⟩ S ∧ s ∉ ws.drop i) ∨ (∃ j:Nat,r=.out .ret ⟨t',[]⟩ S ∧ t'.get 4=some (D0 j) ∧ s ∈ ws.drop i))
 | 0,i,t,hi,h0,h1,h7,h8=>by
  refine Fe (El ?_)
  have hlt:¬ ((i:Int) < (ws.length:Int)):=by omega
  have hd:ws.drop i=[]:=List.drop_eq_nil_of_le (by omega)
  simp only [Bp,D0] at h0 h1 h7 h8 ⊢
  simp only [Cf,Br,A6,Bl,Bq,Bt,Dk,Be,Cq,B1,A7,A9,A8,Cr,A5,Bc,Ba,A0,ofOpt,B9,Bv,Dd,Nat.reduceLT,Nat.reduceEqDiff,Aa,Ab,Ac,Am,Aq,Q0,Tryz.f160,h0,h1,h7,h8,hlt]
  exact ⟨_,.inl ⟨rfl,by rw [hd]; exact List.not_mem_nil⟩⟩
 | m + 1,i,t,hi,h0,h1,h7,h8=>by
  refine Fe (El ?_)
  have hil:i < ws.length:=by omega
  have hlt:((i:Int) < (ws.length:Int)):=by omega
  have hd:ws.drop i=ws[i] :: ws.drop (i + 1):=List.drop_eq_getElem_cons hil
  have hx:=idx69 tok off ws i hil
  have hw:=Ka (i:=i) (by omega)
  have hq:=Gi s ws[i]
  simp only [Bp,D0] at h0 h1 h7 h8 hx ⊢
  by_cases he:s=ws[i]
  ·rw [decide_eq_true he] at hq
   simp only [B8,Cf,C8,Br,A6,Bl,Bq,Bt,Dk,Bw,Be,Cq,Cv,B4,Cs,B1,A7,A9,A8,Cw,A5,Bc,Ba,A0,ofOpt,Bb,B9,Bv,Dd,Dl,Nat.reduceLT,Nat.reduceEqDiff,Aa,Ab,Ac,Am,Ap,Q0,Tryz.f160,h0,h1,h7,h8,hlt,hx,zG,Cy,hq]
   exact ⟨_,.inr ⟨i,rfl,by simp only [A0,Nat.reduceEqDiff,Aa],by rw [hd,he]; exact List.mem_cons_self ..⟩⟩
  ·rw [decide_eq_false he] at hq
   simp only [B8,Cf,C8,Br,A6,Bl,Bq,Bt,Dk,Bw,Be,Cq,Cv,B4,Cs,B1,A7,A9,A8,Cw,Cr,A5,Bc,Ba,A0,ofOpt,Bb,B9,Bv,Dd,Dl,Nat.reduceLT,Nat.reduceEqDiff,Aa,Ab,Ac,Am,Ap,Q0,Tryz.f160,h0,h1,h7,h8,hlt,hx,zG,Cy,hq,hw]
   refine WX.mono (dT tok off ws s hl S m (i + 1) _ (by omega) ?_ ?_ ?_ ?_) ?_
   ·simp only [A0,Nat.reduceEqDiff,Ab,h0]
   ·simp only [A0,Nat.reduceEqDiff,Ab,h1]; rfl
   ·simp only [A0,Nat.reduceEqDiff,Ab,h7]; rfl
   ·simp only [A0,Nat.reduceEqDiff,Aa]; rfl
   ·rintro r ⟨t',⟨rfl,h⟩ | ⟨j,rfl,h,hm⟩⟩
    ·exact ⟨t',.inl ⟨rfl,by rw [hd]; exact fun hc=>(List.mem_cons.1 hc).elim he h⟩⟩
    ·exact ⟨t',.inr ⟨j,rfl,h,by rw [hd]; exact List.mem_cons_of_mem _ hm⟩⟩
theorem index_w (tok off:Nat) (ws:List (List UInt8)) (s:List UInt8) (hl:ws.length ≤ 100000) (S:St):WC E1 160 [.sl tok off 1 (ws.map Bp),Bp s] S (fun r=>∃ x:Int,r=.ret (.v (.int .i64 x)) S ∧ (decide (0 ≤ x)=decide (s ∈ ws))):=by
 refine Dx Tryz.f160 (by kernel_rfl) (by kernel_rfl) (by kernel_rfl) (show (_:Nat) ≤ _ from by show (_:Nat) ≤ _; simp [Tryz.f160]) ?_
 have key:=fun t h0 h1 h7 h8=>dT tok off ws s hl S ws.length 0 t (by omega) h0 h1 h7 h8
 unfold Q0 at key
 simp only [Tryz.f160] at key
 have hL:=len69 S tok off (ws.map Bp)
 rw [List.length_map] at hL
 simp only [A6,Bl,Bt,D5,Be,B1,A7,A9,A8,A5,Bc,Ba,Cc,A0,A1,Bo,ofOpt,Bb,B9,Nat.reduceLT,Nat.reduceAdd,Nat.reduceEqDiff,Aa,Ab,Ac,Ae,Tryz.f160,hL]
 refine WX.mono (key _ ?_ ?_ ?_ ?_) ?_
 ·simp only [A0,A1,Nat.reduceEqDiff,Aa,Ab]
 ·simp only [A0,A1,Nat.reduceEqDiff,Aa,Ab]
 ·simp only [A0,A1,Nat.reduceEqDiff,Aa,Ab]; rfl
 ·simp only [A0,A1,Nat.reduceEqDiff,Aa,Ab]; rfl
 ·rintro r ⟨t',⟨rfl,h⟩ | ⟨j,rfl,h,hm⟩⟩
  ·simp only [A6,Bl,Bw,Be,Cq,Cp,B1,A7,A9,A8,A5,Bc,Ba,A0,ofOpt,Bb,Bg,By,Bf,Cl,Nat.reduceLT,Aa,Ac]
   refine ⟨_,rfl,?_⟩
   rw [List.drop_zero] at h
   rw [decide_eq_false h]; rfl
  ·unfold D0 at h
   simp only [Cv,Cs,Bg,By,Bf,Cl,h]
   refine ⟨_,rfl,?_⟩
   rw [List.drop_zero] at hm
   rw [decide_eq_true hm,decide_eq_true (show (0:Int) ≤ (j:Int) by omega)]
theorem fnOk160:∃ fn,E1.F 160=some fn:=Option.isSome_iff_exists.1 (by kernel_rfl)
theorem Vt (tok off:Nat) (ws:List (List UInt8)) (s:List UInt8) (hl:ws.length ≤ 100000) (S:St):WC E1 129 [.sl tok off 1 (ws.map Bp),Bp s] S (fun r=>r=.ret (.v (.bool (decide (s ∈ ws)))) S):=by
 refine Dx Tryz.f129 (by kernel_rfl) (by kernel_rfl) (by kernel_rfl) (show (_:Nat) ≤ _ from by show (_:Nat) ≤ _; simp [Tryz.f129]) ?_
 obtain ⟨fn1,hf1⟩:=fnOk160
 simp only [A6,Bl,Be,B1,A7,A9,Bd,A8,A5,Bc,Ba,Cc,A0,A1,Bo,B5,ofOpt,Bb,Nat.reduceLT,Nat.reduceAdd,Nat.reduceEqDiff,Aa,Ab,Ac,Ae,Aj,Ak,Tryz.f129,hf1]
 refine WC.mono (index_w tok off ws s hl S) ?_
 rintro _ ⟨x,rfl,hx⟩
 simp only [Bw,Be,B1,A7,A9,A8,Bk,A5,Bc,Ba,A0,A1,ofOpt,Bb,B9,Bv,Bg,By,Bf,Cl,Er,Nat.reduceLT,Nat.reduceEqDiff,Aa,Ab,Ad,Am,ge_iff_le,hx]
def Hg:Nat → List UInt8 → Nat
 | 0,_=>0
 | n + 1,l=>if Ef [45,45] (l.drop (cnt Ei l)) then cnt Ei l + (cnt Lt (l.drop (cnt Ei l)) + Hg n (l.drop (cnt Ei l + cnt Lt (l.drop (cnt Ei l))))) else cnt Ei l
theorem Rd (n:Nat) (l:List UInt8):Hg (n + 1) l=if Ef [45,45] (l.drop (cnt Ei l)) then cnt Ei l + (cnt Lt (l.drop (cnt Ei l)) + Hg n (l.drop (cnt Ei l + cnt Lt (l.drop (cnt Ei l))))) else cnt Ei l:=rfl
theorem Mf:∀ (n:Nat) (l:List UInt8),Hg n l ≤ l.length
 | 0,l=>Nat.zero_le _
 | n + 1,l=>by
  have h1:=Vu Ei l
  have h2:=Vu Lt (l.drop (cnt Ei l))
  have h3:=Mf n (l.drop (cnt Ei l + cnt Lt (l.drop (cnt Ei l))))
  unfold Hg
  simp only [List.length_drop] at h2 h3
  split <;> omega
noncomputable def bU:Code:=match Tryz.f65.body with
 | some (.seq _ (.block _ (.loop c)))=>c
 | _=>.skip
theorem vW:∃ fn,E1.F 96=some fn:=Option.isSome_iff_exists.1 (by kernel_rfl)
theorem fnOk85:∃ fn,E1.F 85=some fn:=Option.isSome_iff_exists.1 (by kernel_rfl)
theorem dash_len {l:List UInt8} (h:Ef [45,45] l=true):1 ≤ cnt Lt l:=by
 unfold Ef at h
 rw [decide_eq_true_iff] at h
 cases l with
 | nil=>cases h
 | cons a r =>
  cases r with
  | nil=>cases h
  | cons b r =>
   simp at h
   obtain ⟨rfl,rfl⟩:=h
   unfold cnt
   rw [if_pos (by decide)]; omega
set_option maxHeartbeats 4000000 in
theorem gY (l:List UInt8) (hl:l.length ≤ 100000) (S:St):∀ (n i:Nat) (t:T AV),l.length - i < n → i ≤ l.length → t.get 0=some (Bp l) → t.get 1=some (D0 i) →
  WX E1 17 (.loop bU) ⟨t,[]⟩ S (fun r=>∃ t',r=.out .ret ⟨t',[]⟩ S ∧ t'.get 4=some (D0 (i + Hg n (l.drop i))))
 | 0,i,t,hn,hi,h0,h1=>absurd hn (Nat.not_lt_zero _)
 | n + 1,i,t,hn,hi,h0,h1=>by
  refine Fe (El ?_)
  obtain ⟨fn1,hf1⟩:=vW
  obtain ⟨fn2,hf2⟩:=fnOk85
  have hc1:=Vu Ei (l.drop i)
  rw [List.length_drop] at hc1
  have hs:=pA l (i + cnt Ei (l.drop i)) (by omega)
  have hdd:l.drop (i + cnt Ei (l.drop i))=(l.drop i).drop (cnt Ei (l.drop i)):=by rw [List.drop_drop]
  simp only [Bp,D0] at h0 h1 ⊢
  simp only [A6,Bl,Bt,A7,A9,Bd,A8,A5,Bc,Ba,A0,Bo,B5,ofOpt,Nat.reduceLT,Nat.reduceEqDiff,Aa,Ab,Ac,Aj,Ak,bU,Tryz.f65,h0,h1,hf1]
  refine WC.mono (Xt blankT l hl i hi S) ?_
  rintro _ rfl
  simp only [D0]
  simp only [A6,Bl,Be,B1,A7,A9,Bd,A8,Bk,A5,Bc,Ba,A0,Bo,B5,ofOpt,Bb,B9,Fb,Nat.reduceLT,Nat.reduceEqDiff,Aa,Ab,Ac,Aj,Ak,Option.toList,Ay,Az,h0,h1,hf2,hs]
  refine WC.mono (pre_w (l.drop (i + cnt Ei (l.drop i))) [45,45] S) ?_
  rintro _ rfl
  cases hb:Ef [45,45] (l.drop (i + cnt Ei (l.drop i)))
  ·have e:Hg (n + 1) (l.drop i)=cnt Ei (l.drop i):=by unfold Hg; rw [← hdd,hb]; rfl
   simp only [C8,Br,A6,Bl,Bq,Bw,Be,Cv,Cs,B1,A7,A9,Bd,A8,Bk,Cw,A5,Bc,Ba,A0,Bo,B5,ofOpt,B9,Fb,Co,Cx,Nat.reduceLT,Nat.reduceEqDiff,Aa,Ab,Ac,Aj,Ak,Au,h0,h1,hf1,e]
   exact ⟨_,rfl,by simp only [A0,Nat.reduceEqDiff,Aa]⟩
  ·have e:Hg (n + 1) (l.drop i)=cnt Ei (l.drop i) + (cnt Lt (l.drop (i + cnt Ei (l.drop i))) + Hg n (l.drop (i + cnt Ei (l.drop i) + cnt Lt (l.drop (i + cnt Ei (l.drop i)))))):=by
    rw [Rd,← hdd,hb]; simp only [Aa,List.drop_drop,Nat.add_assoc]
   simp only [C8,Br,A6,Bl,Bq,Bw,Be,Cv,Cs,B1,A7,A9,Bd,A8,Bk,Cr,A5,Bc,Ba,A0,Bo,B5,ofOpt,B9,Fb,Co,Cx,Nat.reduceLT,Nat.reduceEqDiff,Aa,Ab,Ac,Aj,Ak,Ar,h0,h1,hf1]
   refine WC.mono (Xt notEndT l hl (i + cnt Ei (l.drop i)) (by omega) S) ?_
   rintro _ rfl
   simp only [D0]
   simp only [B8,B4,B1,A7,A9,A8,Bk,A5,Bc,Ba,A0,ofOpt,Nat.reduceLT,Nat.reduceEqDiff,Aa,Ab,Ac]
   have hc2:=Vu Lt (l.drop (i + cnt Ei (l.drop i)))
   rw [List.length_drop] at hc2
   have hc3:=dash_len hb
   refine WX.mono (gY l hl S n (i + cnt Ei (l.drop i) + cnt Lt (l.drop (i + cnt Ei (l.drop i)))) _ (by omega) (by omega) ?_ ?_) ?_
   ·simp only [A0,Nat.reduceEqDiff,Ab,h0]; rfl
   ·simp only [A0,Nat.reduceEqDiff,Aa]; rfl
   ·rintro r ⟨t',rfl,h⟩
    refine ⟨t',rfl,?_⟩
    rw [h,e]
    show some (D0 _)=some (D0 _)
    congr 2; omega
theorem skip_w (l:List UInt8) (hl:l.length ≤ 100000) (n i:Nat) (hn:l.length - i < n) (hi:i ≤ l.length) (S:St):WC E1 65 [Bp l,D0 i] S (fun r=>r=.ret (D0 (i + Hg n (l.drop i))) S):=by
 refine Dx Tryz.f65 (by kernel_rfl) (by kernel_rfl) (by kernel_rfl) (show (_:Nat) ≤ _ from by show (_:Nat) ≤ _; simp [Tryz.f65]) ?_
 have key:=fun t h0 h1=>gY l hl S n i t hn hi h0 h1
 unfold bU at key
 simp only [Tryz.f65] at key
 simp only [A6,Bl,Bt,D5,Be,B1,A7,A9,A8,A5,Bc,Ba,Cc,ofOpt,Bb,Nat.reduceLT,Nat.reduceAdd,Ac,Ae,Tryz.f65]
 refine WX.mono (key _ ?_ ?_) ?_
 ·simp only [A0,A1,Nat.reduceEqDiff,Aa,Ab]
 ·simp only [A0,A1,Nat.reduceEqDiff,Aa,Ab]
 ·rintro r ⟨t',rfl,h⟩
  simp only [Cs,Bg,By,Bf,Cl,h]
end Go.Ax
noncomputable section
namespace Go.Ax
open Go.RowKit Go.Proofs
set_option maxRecDepth 100000
def J0:List (List UInt8):=[[110,111,100,101],[114,101,116,117,114,110,115],[118,97,114],[108,101,116],[116,101,108],[105,110,116],[98,111,111,108],[102,117,116,117,114,101],[119,104,101,110],[110,111,116],[97,110,100],[111,114],[120,111,114],[105,102],[116,104,101,110],[101,108,115,101],[112,114,101],[102,98,121],[109,101,114,103,101],[97,115,121,110,99],[97,119,97,105,116],[97,102,116,101,114],[116,114,117,101],[102,97,108,115,101],[109,111,100]]
def Fz:List (List UInt8):=[[60,62],[60,61],[62,61],[45,62],[40],[41],[44],[59],[58],[61],[60],[62],[43],[45],[42],[47]]
structure Tk where
 kind:Nat
 pos:Nat
 text:List UInt8
 num:Nat
def Se (n:Nat):AV:=.v (.int .u64 (n:Int))
def D3 (t:Tk):List AV:=[D0 t.kind,D0 t.pos,Bp t.text,Se t.num]
def Fp (t:Tk):AV:=.agg (D3 t)
def Ds:Tk:=⟨0,0,[],0⟩
def Mz (l:List UInt8) (i:Nat):Tk × Nat :=
 if l.take (cnt Eu l) ∈ J0 then (⟨3,i,l.take (cnt Eu l),0⟩,0) else if 30 < cnt Eu l then (Ds,3) else (⟨1,i,l.take (cnt Eu l),0⟩,0)
def Wq (l:List UInt8) (i:Nat):Option (Tk × Nat) :=
 if 1 < cnt D1 l ∧ l.head? = some 48 then some (Ds,1) else if Io 0 (l.take (cnt D1 l)) < 18446744073709551616 then (if 9223372036854775808 < Io 0 (l.take (cnt D1 l)) then some (Ds,3) else some (⟨2,i,l.take (cnt D1 l),Io 0 (l.take (cnt D1 l))⟩,0)) else some (Ds,3)
def Ll (l:List UInt8) (i:Nat):Tk × Nat:=match Fz.find? (fun s=>Ef s l) with
 | some s=>(⟨4,i,s,0⟩,0)
 | none=>(Ds,1)
def H7 (l:List UInt8) (i:Nat):Option (Tk × Nat):=match l with
 | []=>none
 | b :: _=>if Gk b then some (Mz l i) else if D1 b then Wq l i else some (Ll l i)
def Eg (S S':St):Prop:=S.next ≤ S'.next ∧ ∀ id,id < S.next → S'.mem.get id=S.mem.get id
theorem Eg.refl (S:St):Eg S S:=⟨Nat.le_refl _,fun _ _=>rfl⟩
theorem Eg.trans {S S1 S2:St} (h:Eg S S1) (k:Eg S1 S2):Eg S S2:=⟨Nat.le_trans h.1 k.1,fun id hid=>(k.2 id (Nat.lt_of_lt_of_le hid h.1)).trans (h.2 id hid)⟩
def St.put (S:St) (id:Nat) (cs:List AV):St:={ S with mem:=S.mem.set id (some (.box cs)) }
theorem C4 (S:St) (cs:List AV):Eg S (S.newBox cs):=⟨Nat.le_succ _,fun id hid=>by
 show (S.mem.set S.next _).get id=_
 rw [T.get_set,if_neg (by omega)]⟩
theorem Ee {S S':St} (h:Eg S S') {id:Nat} (hid:S.next ≤ id) (cs:List AV):Eg S (S'.put id cs):=⟨h.1,fun k hk=>by
 show (S'.mem.set id _).get k=_
 rw [T.get_set,if_neg (by omega)]; exact h.2 k hk⟩
theorem Db (S:St) (cs:List AV):(S.newBox cs).mem.get S.next=some (.box cs):=by
 show (S.mem.set S.next _).get S.next=_
 rw [T.get_set,if_pos rfl]
theorem Ek (S:St) (id:Nat) (cs:List AV):(S.put id cs).mem.get id=some (.box cs):=by
 show (S.mem.set id _).get id=_
 rw [T.get_set,if_pos rfl]
theorem a68:Fm Tryz.prog 68=some true:=by kernel_rfl
theorem s68:Fo Tryz.prog 68=some 4:=by kernel_rfl
theorem st68 {S:St} {id:Nat} {cs ys:List AV} (h:S.mem.get id=some (.box cs)) (hl:cs.length=4) (hy:ys.length=4):C7 Tryz.prog S 68 (.ptr id 0) (.agg ys)=some (S.put id ys):=by
 have h2:(AV.agg ys).noTup=true:=rfl
 simp [C7,h,s68,h2,AV.cells,hl,hy,St.put,List.drop_eq_nil_of_le]
theorem Me (S:St) (cs ys:List AV) (hl:cs.length=4) (hy:ys.length=4):C7 Tryz.prog (S.newBox cs) 68 (.ptr S.next 0) (.agg ys)=some ((S.newBox cs).put S.next ys):=st68 (Db S cs) hl hy
theorem Iq (S:St) (id:Nat) (cs:List AV) (hl:cs.length=4):C3 Tryz.prog (S.put id cs) 68 (.ptr id 0)=some (.agg cs):=by
 have e:cs.take 4=cs:=List.take_of_length_le (by omega)
 simp [C3,Dr,Ek,a68,s68,hl,e]
theorem Gb (S:St):J1 Tryz.prog S 68=some (.ptr S.next 0,S.newBox (D3 Ds)):=rfl
theorem Z4:Ho Tryz.prog 68 []=some (.agg (D3 Ds)):=rfl
theorem b68_3 (a b c:AV) (k i:Int) (s:ByteArray) (ha:a=.v (.int .i64 k)) (hb:b=.v (.int .i64 i)) (hc:c=.v (.string s)):Ho Tryz.prog 68 [(0,a),(1,b),(2,c)]=some (.agg [a,b,c,Se 0]):=by
 subst ha; subst hb; subst hc; rfl
theorem b68_4 (k i u:Int) (s:ByteArray):Ho Tryz.prog 68 [(0,.v (.int .i64 k)),(1,.v (.int .i64 i)),(2,.v (.string s)),(3,.v (.int .u64 u))]=some (.agg [.v (.int .i64 k),.v (.int .i64 i),.v (.string s),.v (.int .u64 u)]):=rfl
theorem fnOk129:∃ fn,E1.F 129=some fn:=Option.isSome_iff_exists.1 (by kernel_rfl)
theorem fnOk132:∃ fn,E1.F 132=some fn:=Option.isSome_iff_exists.1 (by kernel_rfl)
theorem fnOk134:∃ fn,E1.F 134=some fn:=Option.isSome_iff_exists.1 (by kernel_rfl)
theorem fnOk100:∃ fn,E1.F 100=some fn:=Option.isSome_iff_exists.1 (by kernel_rfl)
theorem fnOk102:∃ fn,E1.F 102=some fn:=Option.isSome_iff_exists.1 (by kernel_rfl)
theorem fnOk103:∃ fn,E1.F 103=some fn:=Option.isSome_iff_exists.1 (by kernel_rfl)
theorem fnOk133:∃ fn,E1.F 133=some fn:=Option.isSome_iff_exists.1 (by kernel_rfl)
theorem fnOk65:∃ fn,E1.F 65=some fn:=Option.isSome_iff_exists.1 (by kernel_rfl)
theorem fnOk66:∃ fn,E1.F 66=some fn:=Option.isSome_iff_exists.1 (by kernel_rfl)
theorem z9:Mb Tryz.prog 9=some (.v (.string ⟨#[]⟩)):=by kernel_rfl
set_option maxHeartbeats 4000000 in
theorem words_w (S:St):WC E1 132 [] S (fun r=>r=.ret (.sl 1 0 1 (J0.map Bp)) S):=by
 refine Dx Tryz.f132 (by kernel_rfl) (by kernel_rfl) (by kernel_rfl) (show (_:Nat) ≤ _ from by show (_:Nat) ≤ _; simp [Tryz.f132]) ?_
 simp only [A6,Bl,Be,B1,A7,A9,A8,A5,Bc,Ba,Cc,ofOpt,Bb,B9,Bu,Nat.reduceLT,Ac,Ae,Tryz.f132]
 have h:∀ ps,ps=(List.range 25).zip (J0.map Bp) → Dv Tryz.prog 69 25 ps=some (.sl 1 0 1 (J0.map Bp)):=fun ps h=>by subst h; kernel_rfl
 rw [h _ (by kernel_rfl)]
 simp only [Bw,Be,B1,A7,A9,A8,A5,Bc,Ba,A0,A1,ofOpt,Bg,By,Bf,Cl,Nat.reduceLT,Nat.reduceEqDiff,Aa,Ab,Ad]
set_option maxHeartbeats 4000000 in
theorem signs_w (S:St):WC E1 134 [] S (fun r=>r=.ret (.sl 1 0 1 (Fz.map Bp)) S):=by
 refine Dx Tryz.f134 (by kernel_rfl) (by kernel_rfl) (by kernel_rfl) (show (_:Nat) ≤ _ from by show (_:Nat) ≤ _; simp [Tryz.f134]) ?_
 simp only [A6,Bl,Be,B1,A7,A9,A8,A5,Bc,Ba,Cc,ofOpt,Bb,B9,Bu,Nat.reduceLT,Ac,Ae,Tryz.f134]
 have h:∀ ps,ps=(List.range 16).zip (Fz.map Bp) → Dv Tryz.prog 69 16 ps=some (.sl 1 0 1 (Fz.map Bp)):=fun ps h=>by subst h; kernel_rfl
 rw [h _ (by kernel_rfl)]
 simp only [Bw,Be,B1,A7,A9,A8,A5,Bc,Ba,A0,A1,ofOpt,Bg,By,Bf,Cl,Nat.reduceLT,Nat.reduceEqDiff,Aa,Ab,Ad]
theorem bG (p:UInt8 → Bool):∀ l:List UInt8,(l.take (cnt p l)).all p=true
 | []=>rfl
 | b :: r=>by
  unfold cnt
  split
  ·rename_i h; rw [List.take_succ_cons,List.all_cons,h,bG p r]; rfl
  ·rfl
theorem parse_w (s:List UInt8) (hn:s ≠ []) (hd:s.all D1=true) (h:Io 0 s < 18446744073709551616) (hl:s.length ≤ 100000) (S:St):WC E1 133 [Bp s,.v (.int .i64 10),.v (.int .i64 64)] S (fun r=>r=.ret (.tup [Se (Io 0 s),.v .nilIface]) S):=by
 refine Lp (g:=F4 puI) (by kernel_rfl) ?_
 have hs:(⟨⟨s⟩⟩:ByteArray).size=s.length:=rfl
 have hc:s ≠ [] ∧ s.all Uv=true ∧ Io 0 s < 18446744073709551616 ∧ (⟨⟨s⟩⟩:ByteArray).size ≤ 9223372036854775806:=⟨hn,hd,h,by rw [hs]; omega⟩
 have e:puI [Bp s,.v (.int .i64 10),.v (.int .i64 64)]=some (.tup [Se (Io 0 s),.v .nilIface]):=by
  show (if s ≠ [] ∧ s.all Uv=true ∧ Io 0 s < 18446744073709551616 ∧ (⟨⟨s⟩⟩:ByteArray).size ≤ 9223372036854775806 then _ else _)=_
  rw [if_pos hc]; rfl
 simp only [F4,e]
theorem range_w (s:List UInt8) (hn:s ≠ []) (hd:s.all D1=true) (h:¬ Io 0 s < 18446744073709551616) (hl:s.length ≤ 100000) (S:St):WC E1 133 [Bp s,.v (.int .i64 10),.v (.int .i64 64)] S (fun r=>r=.ret (.tup [Se 18446744073709551615,.iface 251 (.ep [])]) S):=by
 refine Lp (g:=F4 puI) (by kernel_rfl) ?_
 have hs:(⟨⟨s⟩⟩:ByteArray).size=s.length:=rfl
 have hc:¬ (s ≠ [] ∧ s.all Uv=true ∧ Io 0 s < 18446744073709551616 ∧ (⟨⟨s⟩⟩:ByteArray).size ≤ 9223372036854775806):=fun hh=>h hh.2.2.1
 have hc2:s ≠ [] ∧ s.all Uv=true ∧ 18446744073709551616 ≤ Io 0 s ∧ (⟨⟨s⟩⟩:ByteArray).size ≤ 281474976710656:=⟨hn,hd,by omega,by rw [hs]; omega⟩
 have e:puI [Bp s,.v (.int .i64 10),.v (.int .i64 64)]=some (.tup [Se 18446744073709551615,.iface 251 (.ep [])]):=by
  show (if s ≠ [] ∧ s.all Uv=true ∧ Io 0 s < 18446744073709551616 ∧ (⟨⟨s⟩⟩:ByteArray).size ≤ 9223372036854775806 then _ else if s ≠ [] ∧ s.all Uv=true ∧ 18446744073709551616 ≤ Io 0 s ∧ (⟨⟨s⟩⟩:ByteArray).size ≤ 281474976710656 then _ else _)=_
  rw [if_neg hc,if_pos hc2]; rfl
 simp only [F4,e]
def oH (S:St) (p:Tk × Nat) (r:R):Prop:=∃ S',r=.ret (.tup [Fp p.1,D0 p.2]) S' ∧ Eg S S'
set_option maxHeartbeats 4000000 in
theorem word_w (l:List UInt8) (hl:l.length ≤ 100000) (i:Nat) (hi:i ≤ l.length) (S:St):WC E1 100 [Bp l,D0 i] S (oH S (Mz (l.drop i) i)):=by
 refine Dx Tryz.f100 (by kernel_rfl) (by kernel_rfl) (by kernel_rfl) (show (_:Nat) ≤ _ from by show (_:Nat) ≤ _; simp [Tryz.f100]) ?_
 obtain ⟨fn1,hf1⟩:=vW
 obtain ⟨fn2,hf2⟩:=fnOk129
 obtain ⟨fn3,hf3⟩:=fnOk132
 have hc:=Vu Eu (l.drop i)
 rw [List.length_drop] at hc
 have hs:=bS l i (i + cnt Eu (l.drop i)) (by omega) (by omega)
 rw [Nat.add_sub_cancel_left] at hs
 have hL:=fun S=>W1 S ((l.drop i).take (cnt Eu (l.drop i)))
 have hlen:((l.drop i).take (cnt Eu (l.drop i))).length=cnt Eu (l.drop i):=by rw [List.length_take,List.length_drop]; omega
 rw [hlen] at hL
 simp only [Bp,D0]
 simp only [A6,Bl,Be,B1,A7,A9,Bd,A8,A5,Bc,Ba,Cc,A0,A1,Bo,B5,ofOpt,ofOptS,Bb,B9,Nat.reduceLT,Nat.reduceAdd,Nat.reduceEqDiff,Aa,Ab,Ac,Ae,Aj,Ak,Tryz.f100,Gb,hf1]
 refine WC.mono (Xt wordBT l hl i hi _) ?_
 rintro _ rfl
 simp only [D0]
 simp only [A6,Bl,Bt,Be,B1,A7,A9,Bd,A8,Bk,A5,Bc,Ba,A0,A1,Bo,B5,ofOpt,B9,Fb,Nat.reduceLT,Nat.reduceEqDiff,Aa,Ab,Ac,Ak,Option.toList,Ay,hf3,hs]
 refine WC.mono (words_w _) ?_
 rintro _ rfl
 simp only [A7,A9,Bd,A8,Bk,A5,Bc,Ba,A0,A1,Bo,B5,ofOpt,Nat.reduceLT,Nat.reduceEqDiff,Aa,Ab,Ac,Aj,Ak,hf2]
 refine WC.mono (Vt 1 0 J0 ((l.drop i).take (cnt Eu (l.drop i))) (by decide) _) ?_
 rintro _ rfl
 have hst:∀ ys:List AV,ys.length=4 → C7 Tryz.prog (S.newBox (D3 Ds)) 68 (.ptr S.next 0) (.agg ys)=some ((S.newBox (D3 Ds)).put S.next ys):=fun ys hy=>Me S _ ys rfl hy
 have keep:∀ ys,Eg S ((S.newBox (D3 Ds)).put S.next ys):=fun ys=>Ee (C4 S _) (Nat.le_refl _) ys
 by_cases hm:(l.drop i).take (cnt Eu (l.drop i)) ∈ J0
 ·have e:Mz (l.drop i) i=(⟨3,i,(l.drop i).take (cnt Eu (l.drop i)),0⟩,0):=by unfold Mz; rw [if_pos hm]
  rw [decide_eq_true hm]
  have hb:=b68_3 _ _ _ 3 i ⟨⟨(l.drop i).take (cnt Eu (l.drop i))⟩⟩ rfl rfl rfl
  have h1:=hst [.v (.int .i64 3),.v (.int .i64 i),.v (.string ⟨⟨(l.drop i).take (cnt Eu (l.drop i))⟩⟩),Se 0] rfl
  have h2:=Iq (S.newBox (D3 Ds)) S.next [.v (.int .i64 3),.v (.int .i64 i),.v (.string ⟨⟨(l.drop i).take (cnt Eu (l.drop i))⟩⟩),Se 0] rfl
  simp only [A6,Bl,Bq,Bw,Be,Cv,Cs,B1,A7,A9,Bm,Bn,A8,Bk,Cw,A5,Bc,Ba,A0,A1,Bo,ofOpt,Bb,B9,Bu,Bg,By,Bf,Cl,Nat.reduceLT,Nat.reduceEqDiff,Aa,Ab,Ac,hb,h1,h2]
  rw [e]
  exact ⟨_,rfl,keep _⟩
 ·rw [decide_eq_false hm]
  by_cases h30:30 < cnt Eu (l.drop i)
  ·have e:Mz (l.drop i) i=(Ds,3):=by unfold Mz; rw [if_neg hm,if_pos h30]
   have hg:((cnt Eu (l.drop i):Nat):Int) > 30:=by omega
   have h1:=hst (D3 Ds) rfl
   have h2:=Iq (S.newBox (D3 Ds)) S.next (D3 Ds) rfl
   simp only [Br,A6,Bl,Bq,Bw,Be,Cv,B4,Cs,B1,A7,A9,Bm,Bn,A8,Bk,Cw,Cr,A5,Bc,Ba,A0,A1,Bo,ofOpt,Bb,B9,Bu,Bv,Bg,By,Bf,Cl,Do,Nat.reduceLT,Nat.reduceEqDiff,Aa,Ab,Ac,Am,Ap,hL,hg,Z4,h1,h2]
   rw [e]
   exact ⟨_,rfl,keep _⟩
  ·have e:Mz (l.drop i) i=(⟨1,i,(l.drop i).take (cnt Eu (l.drop i)),0⟩,0):=by unfold Mz; rw [if_neg hm,if_neg h30]
   have hg:¬ ((cnt Eu (l.drop i):Nat):Int) > 30:=by omega
   have hb:=b68_3 _ _ _ 1 i ⟨⟨(l.drop i).take (cnt Eu (l.drop i))⟩⟩ rfl rfl rfl
   have h1:=hst [.v (.int .i64 1),.v (.int .i64 i),.v (.string ⟨⟨(l.drop i).take (cnt Eu (l.drop i))⟩⟩),Se 0] rfl
   have h2:=Iq (S.newBox (D3 Ds)) S.next [.v (.int .i64 1),.v (.int .i64 i),.v (.string ⟨⟨(l.drop i).take (cnt Eu (l.drop i))⟩⟩),Se 0] rfl
   simp only [Br,A6,Bl,Bq,Bw,Be,B4,B1,A7,A9,Bm,Bn,A8,Bk,Cr,A5,Bc,Ba,A0,A1,Bo,ofOpt,Bb,B9,Bu,Bv,Bg,By,Bf,Cl,Do,Nat.reduceLT,Nat.reduceEqDiff,Aa,Ab,Ac,Am,Aq,hL,hg,hb,h1,h2]
   rw [e]
   exact ⟨_,rfl,keep _⟩
end Go.Ax
noncomputable section
namespace Go.Ax
open Go.RowKit Go.Proofs
set_option maxRecDepth 100000
theorem P6 (a b:AV):Hs Tryz.prog 66 a b=false:=by
 have h:Tryz.prog.underlying 66=some (.int .u64):=rfl
 unfold Hs; rw [h]
theorem iY:Hs Tryz.prog 110 (.iface 251 (.ep [])) (.v .nilIface)=true:=by kernel_rfl
theorem Ww:Hs Tryz.prog 110 (.v .nilIface) (.v .nilIface)=false:=by kernel_rfl
def nilO (r:OR) (S:St) (x:Option AV):OR:=match x with
 | some (.v .nilIface)=>.val (.v (.bool false)) S
 | _=>r
def eH (P:Program) (G:Gl) (f:T AV) (S:St) (o:Oper) (op:BinOp) (t:TypeId) (a b:AV):OR:=Ma P G f S o op t a b
theorem aR (f:T AV) (S:St) (k:Nat) (dst:Option Tmp) (ty:TypeId) (pos:String) (af:Array Edge) (gd:Option (Nat × Bool)) :
  Ma Tryz.prog gR f S { dst:=dst,op:=.binOp .neq 110 (.tmp k) (.const .nilIface) 110,type:=ty,pos:=pos,after:=af,guard:=gd } .neq 110 (.v .nilIface) (.v .nilIface) =
  nilO (eH Tryz.prog gR f S { dst:=dst,op:=.binOp .neq 110 (.tmp k) (.const .nilIface) 110,type:=ty,pos:=pos,after:=af,guard:=gd } .neq 110 (.v .nilIface) (.v .nilIface)) S (f.get k):=by
 unfold nilO
 split
 ·rename_i hf
  have h0:Lh Tryz.prog .neq 110 (.v .nilIface) (.v .nilIface)=none:=by kernel_rfl
  unfold Ma
  rw [h0]
  have hg:Dm gR f (.tmp k)=some .nilIface:=by unfold Dm; simp only [Ba,hf]; rfl
  have hc:Dm gR f (.const .nilIface)=some .nilIface:=rfl
  unfold ground
  simp only [Op.operands,List.all_cons,List.all_nil,hg,hc,Option.isSome_some,Bool.and_self,Aa]
  have e:execOp (fun x=>(Dm gR f x).getD undef) { dst:=dst,op:=.binOp .neq 110 (.tmp k) (.const .nilIface) 110,type:=ty,pos:=pos,after:=af,guard:=gd }=execOp (fun _=>.nilIface) { dst:=none,op:=.binOp .neq 110 (.tmp 29) (.const .nilIface) 110,type:=4,pos := "", after:=#[],guard:=none }:=by
   simp only [execOp,hg,hc,Ae]
   rfl
  rw [e]
  have e3:(P3 Tryz.prog 4000 (execOp (fun _=>Value.nilIface) { dst:=none,op:=.binOp .neq 110 (.tmp 29) (.const .nilIface) 110,type:=4,pos := "", after:=#[],guard:=none }))=some (.bool false):=by kernel_rfl
  rw [e3]; rfl
 ·rfl
theorem Wt (r:OR) (S:St):nilO r S (some (.v .nilIface))=.val (.v (.bool false)) S:=rfl
theorem fbNil:Ea .neq (.v .nilIface) (.v .nilIface)=none:=rfl
theorem head_drop (l:List UInt8) (i:Nat) (h:i < l.length):(l.drop i).head? = some l[i]:=by rw [List.drop_eq_getElem_cons h]; rfl
set_option maxHeartbeats 8000000 in
theorem number_w (l:List UInt8) (hl:l.length ≤ 100000) (i:Nat) (hi:i < l.length) (hd:D1 l[i]=true) (S:St) (p:Tk × Nat) (hp:Wq (l.drop i) i=some p):WC E1 102 [Bp l,D0 i] S (oH S p):=by
 refine Dx Tryz.f102 (by kernel_rfl) (by kernel_rfl) (by kernel_rfl) (show (_:Nat) ≤ _ from by show (_:Nat) ≤ _; simp [Tryz.f102]) ?_
 obtain ⟨fn1,hf1⟩:=vW
 obtain ⟨fn2,hf2⟩:=fnOk133
 have hc:=Vu D1 (l.drop i)
 rw [List.length_drop] at hc
 have hc1:1 ≤ cnt D1 (l.drop i):=by rw [List.drop_eq_getElem_cons hi,cnt,if_pos hd]; omega
 have hs:=bS l i (i + cnt D1 (l.drop i)) (by omega) (by omega)
 rw [Nat.add_sub_cancel_left] at hs
 have hL:=fun S=>W1 S ((l.drop i).take (cnt D1 (l.drop i)))
 have hlen:((l.drop i).take (cnt D1 (l.drop i))).length=cnt D1 (l.drop i):=by rw [List.length_take,List.length_drop]; omega
 rw [hlen] at hL
 have h00:((l.drop i).take (cnt D1 (l.drop i)))[0]'(by omega)=l[i]:=by simp
 have hx:=idx9 ((l.drop i).take (cnt D1 (l.drop i))) 0 (by omega)
 rw [h00] at hx
 simp only [Int.ofNat_eq_natCast,Int.cast_ofNat_Int] at hx
 have hst:∀ ys:List AV,ys.length=4 → C7 Tryz.prog (S.newBox (D3 Ds)) 68 (.ptr S.next 0) (.agg ys)=some ((S.newBox (D3 Ds)).put S.next ys):=fun ys hy=>Me S _ ys rfl hy
 have keep:∀ ys,Eg S ((S.newBox (D3 Ds)).put S.next ys):=fun ys=>Ee (C4 S _) (Nat.le_refl _) ys
 have z1:=hst (D3 Ds) rfl
 have z2:=Iq (S.newBox (D3 Ds)) S.next (D3 Ds) rfl
 simp only [Bp,D0]
 simp only [A6,Bl,Be,B1,A7,A9,Bd,A8,A5,Bc,Ba,Cc,A0,A1,Bo,B5,ofOpt,ofOptS,Bb,B9,Nat.reduceLT,Nat.reduceAdd,Nat.reduceEqDiff,Aa,Ab,Ac,Ae,Aj,Ak,Tryz.f102,Gb,hf1]
 refine WC.mono (Xt digitT l hl i (by omega) _) ?_
 rintro _ rfl
 simp only [D0]
 have h48:(((l[i].toNat:Nat):Int) == 48)=decide (l[i]=48):=by
  rw [Bool.eq_iff_iff]; simp only [beq_iff_eq,decide_eq_true_iff]
  constructor
  ·intro h; exact UInt8.toNat_inj.1 (by show l[i].toNat=48; omega)
  ·intro h; rw [h]; rfl
 unfold Wq at hp
 rw [head_drop l i hi] at hp
 by_cases hz:1 < cnt D1 (l.drop i) ∧ l[i]=48
 ·rw [if_pos ⟨hz.1,by rw [hz.2]⟩] at hp
  injection hp with hp; subst hp
  have hg:((cnt D1 (l.drop i):Nat):Int) > 1:=by omega
  rw [decide_eq_true hz.2] at h48
  simp only [Br,A6,Bl,Bq,Bw,Be,Cv,B1,A7,A9,Bm,Bd,Bn,A8,Bk,Cw,A5,Bc,Ba,A0,A1,Bo,B5,ofOpt,Bb,B9,Fb,Bu,Bv,Bg,By,Bf,Cl,Do,B7,Nat.reduceLT,Nat.reduceEqDiff,Aa,Ab,Ac,Af,Ag,Ah,Ai,Aj,Ak,Al,Am,Ap,Option.toList,Ay,hf2,hs,hL,hg,hx,Lo,Le,h48,Z4,z1,z2]
  exact ⟨_,rfl,keep _⟩
 ·rw [if_neg (fun h=>hz ⟨h.1,by have:=h.2; injection this⟩)] at hp
  split at hp
  case isFalse =>
   rename_i hv
   injection hp with hp; subst hp
   have hpw:=fun S=>range_w ((l.drop i).take (cnt D1 (l.drop i))) (by intro e; rw [e] at hlen; simp at hlen; omega) (bG _ _) hv (by omega) S
   unfold Bp Se at hpw
   by_cases hg:((cnt D1 (l.drop i):Nat):Int) > 1
   ·have h1:¬ l[i]=48:=fun e=>hz ⟨by omega,e⟩
    rw [decide_eq_false h1] at h48
    simp only [Br,A6,Bl,Bq,Be,B1,A7,A9,Bd,A8,Bk,Cr,A5,Bc,Ba,A0,A1,Bo,B5,ofOpt,Bb,B9,Fb,Bu,Bv,Do,B7,Nat.reduceLT,Nat.reduceEqDiff,Aa,Ab,Ac,Af,Ag,Ah,Ai,Aj,Ak,Al,Am,Ap,Option.toList,Ay,hf2,hs,hL,hg,hx,Lo,Le,h48]
    refine WC.mono (hpw _) ?_
    rintro _ rfl
    simp only [Br,A6,Bl,Bq,Bw,Be,Cv,B1,A7,Ct,A9,Bm,Bn,A8,Bk,Cw,A5,Bc,Ba,A0,A1,ofOpt,Bb,B9,Fb,Bu,Bg,By,Bf,Cl,Nat.reduceLT,Nat.reduceEqDiff,Aa,Ab,Ac,Af,Ag,Ah,Ai,Am,Aw,P6,iY,Cj,Z4,z1,z2]
    exact ⟨_,rfl,keep _⟩
   ·simp only [Br,A6,Bl,Bq,Be,B1,A7,Ct,A9,Bd,A8,Bk,Cr,A5,Bc,Ba,A0,A1,Bo,B5,ofOpt,Bb,B9,Fb,Bu,Bv,Do,Nat.reduceLT,Nat.reduceEqDiff,Aa,Ab,Ac,Af,Ag,Ah,Ai,Aj,Ak,Am,Aq,Ar,Av,Option.toList,Ay,hf2,hs,hL,hg]
    refine WC.mono (hpw _) ?_
    rintro _ rfl
    simp only [Br,A6,Bl,Bq,Bw,Be,Cv,B1,A7,Ct,A9,Bm,Bn,A8,Bk,Cw,A5,Bc,Ba,A0,A1,ofOpt,Bb,B9,Fb,Bu,Bg,By,Bf,Cl,Nat.reduceLT,Nat.reduceEqDiff,Aa,Ab,Ac,Af,Ag,Ah,Ai,Am,Aw,P6,iY,Cj,Z4,z1,z2]
    exact ⟨_,rfl,keep _⟩
  rename_i hv
  have hpw:=fun S=>parse_w ((l.drop i).take (cnt D1 (l.drop i))) (by intro e; rw [e] at hlen; simp at hlen; omega) (bG _ _) hv (by omega) S
  unfold Bp Se at hpw
  by_cases hg:((cnt D1 (l.drop i):Nat):Int) > 1
  ·have h1:¬ l[i]=48:=fun e=>hz ⟨by omega,e⟩
   rw [decide_eq_false h1] at h48
   simp only [Br,A6,Bl,Bq,Be,B1,A7,A9,Bd,A8,Bk,Cr,A5,Bc,Ba,A0,A1,Bo,B5,ofOpt,Bb,B9,Fb,Bu,Bv,Do,B7,Nat.reduceLT,Nat.reduceEqDiff,Aa,Ab,Ac,Af,Ag,Ah,Ai,Aj,Ak,Al,Am,Ap,Option.toList,Ay,hf2,hs,hL,hg,hx,Lo,Le,h48]
   refine WC.mono (hpw _) ?_
   rintro _ rfl
   by_cases hb:((Io 0 ((l.drop i).take (cnt D1 (l.drop i))):Nat):Int) > 9223372036854775808
   ·rw [if_pos (show 9223372036854775808 < Io 0 ((l.drop i).take (cnt D1 (l.drop i))) by omega)] at hp
    injection hp with hp; subst hp
    simp only [Br,A6,Bl,Bq,Bw,Be,Cv,B1,A7,A9,Bm,Bn,A8,Bk,Cw,A5,Bc,Ba,A0,A1,ofOpt,Bb,B9,Fb,Bu,Bg,By,Bf,Cl,Do,Nat.reduceLT,Nat.reduceEqDiff,Aa,Ab,Ac,Af,Ag,Ah,Ai,Al,Am,Ap,P6,aR,Wt,Cj,Ww,fbNil,hb,Z4,z1,z2]
    exact ⟨_,rfl,keep _⟩
   ·rw [if_neg (show ¬ 9223372036854775808 < Io 0 ((l.drop i).take (cnt D1 (l.drop i))) by omega)] at hp
    injection hp with hp; subst hp
    have q1:=hst [.v (.int .i64 2),.v (.int .i64 i),.v (.string ⟨⟨(l.drop i).take (cnt D1 (l.drop i))⟩⟩),.v (.int .u64 (Io 0 ((l.drop i).take (cnt D1 (l.drop i))):Nat))] rfl
    have q2:=Iq (S.newBox (D3 Ds)) S.next [.v (.int .i64 2),.v (.int .i64 i),.v (.string ⟨⟨(l.drop i).take (cnt D1 (l.drop i))⟩⟩),.v (.int .u64 (Io 0 ((l.drop i).take (cnt D1 (l.drop i))):Nat))] rfl
    simp only [Br,A6,Bl,Bq,Bw,Be,B1,A7,A9,Bm,Bn,A8,Bk,Cr,A5,Bc,Ba,A0,A1,ofOpt,Bb,B9,Fb,Bu,Bg,By,Bf,Cl,Do,Nat.reduceLT,Nat.reduceEqDiff,Aa,Ab,Ac,Af,Ag,Ah,Ai,Al,Am,Aq,P6,aR,Wt,Cj,Ww,fbNil,hb,b68_4,q1,q2]
    exact ⟨_,rfl,keep _⟩
  ·simp only [Br,A6,Bl,Bq,Be,B1,A7,Ct,A9,Bd,A8,Bk,Cr,A5,Bc,Ba,A0,A1,Bo,B5,ofOpt,Bb,B9,Fb,Bu,Bv,Do,Nat.reduceLT,Nat.reduceEqDiff,Aa,Ab,Ac,Af,Ag,Ah,Ai,Aj,Ak,Am,Aq,Ar,Av,Option.toList,Ay,hf2,hs,hL,hg]
   refine WC.mono (hpw _) ?_
   rintro _ rfl
   by_cases hb:((Io 0 ((l.drop i).take (cnt D1 (l.drop i))):Nat):Int) > 9223372036854775808
   ·rw [if_pos (show 9223372036854775808 < Io 0 ((l.drop i).take (cnt D1 (l.drop i))) by omega)] at hp
    injection hp with hp; subst hp
    simp only [Br,A6,Bl,Bq,Bw,Be,Cv,B1,A7,A9,Bm,Bn,A8,Bk,Cw,A5,Bc,Ba,A0,A1,ofOpt,Bb,B9,Fb,Bu,Bg,By,Bf,Cl,Do,Nat.reduceLT,Nat.reduceEqDiff,Aa,Ab,Ac,Af,Ag,Ah,Ai,Al,Am,Ap,P6,aR,Wt,Cj,Ww,fbNil,hb,Z4,z1,z2]
    exact ⟨_,rfl,keep _⟩
   ·rw [if_neg (show ¬ 9223372036854775808 < Io 0 ((l.drop i).take (cnt D1 (l.drop i))) by omega)] at hp
    injection hp with hp; subst hp
    have q1:=hst [.v (.int .i64 2),.v (.int .i64 i),.v (.string ⟨⟨(l.drop i).take (cnt D1 (l.drop i))⟩⟩),.v (.int .u64 (Io 0 ((l.drop i).take (cnt D1 (l.drop i))):Nat))] rfl
    have q2:=Iq (S.newBox (D3 Ds)) S.next [.v (.int .i64 2),.v (.int .i64 i),.v (.string ⟨⟨(l.drop i).take (cnt D1 (l.drop i))⟩⟩),.v (.int .u64 (Io 0 ((l.drop i).take (cnt D1 (l.drop i))):Nat))] rfl
    simp only [Br,A6,Bl,Bq,Bw,Be,B1,A7,A9,Bm,Bn,A8,Bk,Cr,A5,Bc,Ba,A0,A1,ofOpt,Bb,B9,Fb,Bu,Bg,By,Bf,Cl,Do,Nat.reduceLT,Nat.reduceEqDiff,Aa,Ab,Ac,Af,Ag,Ah,Ai,Al,Am,Aq,P6,aR,Wt,Cj,Ww,fbNil,hb,b68_4,q1,q2]
    exact ⟨_,rfl,keep _⟩
noncomputable def Wa:Code:=match Tryz.f103.body with
 | some (.seq _ (.seq (.seq _ (.block _ (.loop c))) _))=>c
 | _=>.skip
set_option maxHeartbeats 8000000 in
theorem gZ (l:List UInt8) (i:Nat) (hi:i ≤ l.length) (S:St) (b:Nat) (hS:S.mem.get b=some (.box (D3 Ds))):∀ (m j:Nat) (t:T AV),j + m=Fz.length → t.get 0=some (Bp l) → t.get 1=some (D0 i) → t.get 4=some (.ptr b 0) → t.get 8=some (.sl 1 0 1 (Fz.map Bp)) → t.get 9=some (D0 Fz.length) → t.get 10=some (D0 j) →
  WX E1 24 (.loop Wa) ⟨t,[]⟩ S (fun r=>∃ t',t'.get 4=some (.ptr b 0) ∧ ((r=.out (.exit 0) ⟨t',[]⟩ S ∧ (Fz.drop j).find? (fun s=>Ef s (l.drop i))=none) ∨ (∃ s,r=.out .ret ⟨t',[]⟩ (S.put b (D3 ⟨4,i,s,0⟩)) ∧ t'.get 5=some (D0 0) ∧ (Fz.drop j).find? (fun s=>Ef s (l.drop i))=some s)))
 | 0,j,t,hj,h0,h1,h4,h8,h9,h10=>by
  refine Fe (El ?_)
  have hlt:¬ ((j:Int) < (Fz.length:Int)):=by omega
  have hd:Fz.drop j=[]:=List.drop_eq_nil_of_le (by omega)
  simp only [Bp,D0] at h0 h1 h8 h9 h10 ⊢
  simp only [Cf,Br,A6,Bl,Bq,Bt,Dk,Be,Cq,B1,A7,A9,A8,Cr,A5,Bc,Ba,A0,ofOpt,B9,Bv,Dd,Nat.reduceLT,Nat.reduceEqDiff,Aa,Ab,Ac,Am,Aq,Wa,Tryz.f103,h8,h9,h10,hlt]
  refine ⟨_,?_,.inl ⟨rfl,by rw [hd]; rfl⟩⟩
  simp only [A0,Nat.reduceEqDiff,Ab,h4]
 | m + 1,j,t,hj,h0,h1,h4,h8,h9,h10=>by
  refine Fe (El ?_)
  have hjl:j < Fz.length:=by omega
  have hlt:((j:Int) < (Fz.length:Int)):=by omega
  have hd:Fz.drop j=Fz[j] :: Fz.drop (j + 1):=List.drop_eq_getElem_cons hjl
  have hx:=idx69 1 0 Fz j hjl
  have h16:Fz.length=16:=rfl
  have hw:=Ka (i:=j) (by omega)
  have hs:=pA l i hi
  obtain ⟨fn1,hf1⟩:=fnOk85
  simp only [Bp,D0] at h0 h1 h8 h9 h10 hx ⊢
  simp only [Cf,Br,A6,Bl,Bq,Bt,Dk,Be,Cq,B1,A7,A9,Bd,A8,Cw,A5,Bc,Ba,A0,Bo,B5,ofOpt,B9,Fb,Bv,Dd,Nat.reduceLT,Nat.reduceEqDiff,Aa,Ab,Ac,Aj,Ak,Am,Ap,Option.toList,Ay,Az,Wa,Tryz.f103,h0,h1,h8,h9,h10,hlt,hx,zG,hf1,hs]
  refine WC.mono (pre_w (l.drop i) Fz[j] S) ?_
  rintro _ rfl
  cases hb:Ef Fz[j] (l.drop i)
  ·simp only [B8,Br,A6,Bl,Bq,Be,B4,B1,A7,A9,A8,Bk,Cr,A5,Bc,Ba,A0,ofOpt,Bb,B9,Bu,Bv,Dl,Nat.reduceLT,Nat.reduceEqDiff,Aa,Ab,Ac,Am,h1,h10,hw]
   refine WX.mono (gZ l i hi S b hS m (j + 1) _ (by omega) ?_ ?_ ?_ ?_ ?_ ?_) ?_
   ·simp only [A0,Nat.reduceEqDiff,Ab,h0]; rfl
   ·simp only [A0,Nat.reduceEqDiff,Ab,h1]; rfl
   ·simp only [A0,Nat.reduceEqDiff,Ab,h4]
   ·simp only [A0,Nat.reduceEqDiff,Ab,h8]
   ·simp only [A0,Nat.reduceEqDiff,Ab,h9]; rfl
   ·simp only [A0,Nat.reduceEqDiff,Aa]; rfl
   ·rintro r ⟨t',h4',⟨rfl,h⟩ | ⟨s,rfl,h5,h⟩⟩
    ·exact ⟨t',h4',.inl ⟨rfl,by rw [hd,List.find?_cons,hb]; exact h⟩⟩
    ·exact ⟨t',h4',.inr ⟨s,rfl,h5,by rw [hd,List.find?_cons,hb]; exact h⟩⟩
  ·have hbl:=b68_3 _ _ _ 4 i ⟨⟨Fz[j]⟩⟩ rfl rfl rfl
   have h1s:=st68 hS rfl (show ([.v (.int .i64 4),.v (.int .i64 i),.v (.string ⟨⟨Fz[j]⟩⟩),Se 0]:List AV).length=4 from rfl)
   simp only [B8,C8,Br,A6,Bl,Bq,Bw,Be,Cv,B4,Cs,B1,A7,A9,Bm,Bn,A8,Bk,Cw,A5,Bc,Ba,A0,ofOpt,Bb,B9,Bu,Bv,Dl,Nat.reduceLT,Nat.reduceEqDiff,Aa,Ab,Ac,Am,h1,h4,h10,hbl,h1s]
   refine ⟨_,?_,.inr ⟨Fz[j],rfl,?_,by rw [hd,List.find?_cons,hb]⟩⟩
   ·simp only [A0,Nat.reduceEqDiff,Ab,h4]
   ·simp only [A0,Nat.reduceEqDiff,Aa]; rfl
set_option maxHeartbeats 8000000 in
theorem sign_w (l:List UInt8) (i:Nat) (hi:i ≤ l.length) (S:St):WC E1 103 [Bp l,D0 i] S (oH S (Ll (l.drop i) i)):=by
 refine Dx Tryz.f103 (by kernel_rfl) (by kernel_rfl) (by kernel_rfl) (show (_:Nat) ≤ _ from by show (_:Nat) ≤ _; simp [Tryz.f103]) ?_
 obtain ⟨fn1,hf1⟩:=fnOk134
 have key:=fun t h0 h1 h4 h8 h9 h10=>gZ l i hi (S.newBox (D3 Ds)) S.next (Db S _) Fz.length 0 t (by omega) h0 h1 h4 h8 h9 h10
 unfold Wa at key
 simp only [Tryz.f103] at key
 have keep:∀ ys,Eg S ((S.newBox (D3 Ds)).put S.next ys):=fun ys=>Ee (C4 S _) (Nat.le_refl _) ys
 have hL:=fun S=>len69 S 1 0 (Fz.map Bp)
 rw [List.length_map] at hL
 simp only [A6,Bl,Be,B1,A7,A9,Bd,A8,A5,Bc,Ba,Cc,Bo,B5,ofOpt,ofOptS,Bb,B9,Nat.reduceLT,Nat.reduceAdd,Ac,Ae,Ak,Tryz.f103,Gb,hf1]
 refine WC.mono (signs_w _) ?_
 rintro _ rfl
 simp only [Bt,D5,Be,B1,A7,A9,A8,Bk,A5,Bc,Ba,A0,A1,Bo,ofOpt,Bb,B9,Nat.reduceLT,Nat.reduceEqDiff,Aa,Ab,Ac,hL]
 refine WX.mono (key _ ?_ ?_ ?_ ?_ ?_ ?_) ?_
 ·simp only [A0,A1,Nat.reduceEqDiff,Aa,Ab]
 ·simp only [A0,A1,Nat.reduceEqDiff,Aa,Ab]
 ·simp only [A0,A1,Nat.reduceEqDiff,Aa,Ab]
 ·simp only [A0,A1,Nat.reduceEqDiff,Aa,Ab]
 ·simp only [A0,A1,Nat.reduceEqDiff,Aa,Ab]; rfl
 ·simp only [A0,A1,Nat.reduceEqDiff,Aa,Ab]; rfl
 ·rintro r ⟨t',h4,⟨rfl,h⟩ | ⟨s,rfl,h5,h⟩⟩
  ·have e:Ll (l.drop i) i=(Ds,1):=by unfold Ll; rw [List.drop_zero] at h; rw [h]
   have q1:=Me S (D3 Ds) (D3 Ds) rfl rfl
   have q2:=Iq (S.newBox (D3 Ds)) S.next (D3 Ds) rfl
   simp only [A6,Bl,Bw,Be,Cq,Cp,B1,A7,A9,Bm,Bn,A8,A5,Bc,Ba,A0,ofOpt,Bb,B9,Bu,Bg,By,Bf,Cl,Nat.reduceLT,Nat.reduceEqDiff,Aa,Ab,Ac,h4,Z4,q1,q2]
   rw [e]
   exact ⟨_,rfl,keep _⟩
  ·have e:Ll (l.drop i) i=(⟨4,i,s,0⟩,0):=by unfold Ll; rw [List.drop_zero] at h; rw [h]
   have q2:=Iq (S.newBox (D3 Ds)) S.next (D3 ⟨4,i,s,0⟩) rfl
   simp only [Cv,Cs,B9,Bg,By,Bf,Cl,h4,h5,q2]
   rw [e]
   exact ⟨_,rfl,keep _⟩
set_option maxHeartbeats 8000000 in
theorem next_w (l:List UInt8) (hl:l.length ≤ 100000) (i:Nat) (hi:i < l.length) (S:St) (p:Tk × Nat) (hp:H7 (l.drop i) i=some p):WC E1 66 [Bp l,D0 i] S (oH S p):=by
 refine Dx Tryz.f66 (by kernel_rfl) (by kernel_rfl) (by kernel_rfl) (show (_:Nat) ≤ _ from by show (_:Nat) ≤ _; simp [Tryz.f66]) ?_
 obtain ⟨fn1,hf1⟩:=fnOk99
 obtain ⟨fn2,hf2⟩:=fnOk100
 obtain ⟨fn3,hf3⟩:=fnOk101
 obtain ⟨fn4,hf4⟩:=fnOk102
 obtain ⟨fn5,hf5⟩:=fnOk103
 have hx:=idx9 l i hi
 rw [List.drop_eq_getElem_cons hi] at hp
 simp only [H7] at hp
 rw [← List.drop_eq_getElem_cons hi] at hp
 simp only [Bp,D0]
 simp only [A6,Bl,Bt,Be,B1,A7,A9,Bd,A8,A5,Bc,Ba,Cc,A0,A1,Bo,B5,ofOpt,ofOptS,Bb,B9,Nat.reduceLT,Nat.reduceAdd,Nat.reduceEqDiff,Aa,Ab,Ac,Ae,Aj,Ak,Tryz.f66,Gb,hf1,hx]
 refine WC.mono (qV l[i] _) ?_
 rintro _ rfl
 have fin:∀ S2:St,Eg (S.newBox (D3 Ds)) S2 → ∀ q:Tk,C7 Tryz.prog S2 68 (.ptr S.next 0) (Fp q)=some (S2.put S.next (D3 q)) ∧ C3 Tryz.prog (S2.put S.next (D3 q)) 68 (.ptr S.next 0)=some (Fp q) ∧ Eg S (S2.put S.next (D3 q)):=fun S2 hk q =>
  ⟨st68 (by rw [hk.2 S.next (Nat.lt_succ_self _)]; exact Db S _) rfl rfl,Iq _ _ _ rfl,Ee ((C4 S _).trans hk) (Nat.le_refl _) _⟩
 cases hb:Gk l[i]
 ·rw [hb] at hp
  simp only [Am,Ab] at hp
  simp only [A6,Bl,Bq,Be,B1,A7,A9,Bd,A8,Bk,Cr,A5,Bc,Ba,A0,A1,Bo,B5,ofOpt,Nat.reduceLT,Nat.reduceEqDiff,Aa,Ab,Ac,Aj,Ak,hf2,hf3]
  refine WC.mono (nW l[i] _) ?_
  rintro _ rfl
  cases hb2:D1 l[i]
  ·rw [hb2] at hp
   simp only [Am,Ab] at hp
   injection hp with hp; subst hp
   simp only [Br,A6,Bl,Bq,Be,B4,B1,A7,A9,Bd,A8,Bk,Cr,A5,Bc,Ba,A0,A1,Bo,B5,ofOpt,Nat.reduceLT,Nat.reduceEqDiff,Aa,Ab,Ac,Aj,Ak,hf4,hf5]
   refine WC.mono (sign_w l i (by omega) _) ?_
   rintro _ ⟨S2,rfl,hk⟩
   obtain ⟨q1,q2,q3⟩:=fin S2 hk (Ll (l.drop i) i).1
   simp only [Bw,Be,B1,A7,A9,Bm,Bn,A8,Bk,A5,Bc,Ba,A0,A1,ofOpt,B9,Bg,By,Bf,Cl,Nat.reduceLT,Nat.reduceEqDiff,Aa,Ab,Ac,Ag,Ah,Cj,q1,q2]
   exact ⟨_,rfl,q3⟩
  ·rw [hb2] at hp
   simp only [Aa] at hp
   simp only [Br,A6,Bl,Bq,Be,B4,B1,A7,A9,Bd,A8,Bk,Cw,A5,Bc,Ba,A0,A1,Bo,B5,ofOpt,Nat.reduceLT,Nat.reduceEqDiff,Aa,Ab,Ac,Aj,Ak,hf4,hf5]
   refine WC.mono (number_w l hl i hi hb2 _ p hp) ?_
   rintro _ ⟨S2,rfl,hk⟩
   obtain ⟨q1,q2,q3⟩:=fin S2 hk p.1
   simp only [Bw,Be,Cv,Cs,B1,A7,A9,Bm,Bn,A8,Bk,A5,Bc,Ba,A0,A1,ofOpt,B9,Bg,By,Bf,Cl,Nat.reduceLT,Nat.reduceEqDiff,Aa,Ab,Ac,Ag,Ah,Cj,q1,q2]
   exact ⟨_,rfl,q3⟩
 ·rw [hb] at hp
  simp only [Aa] at hp
  injection hp with hp; subst hp
  simp only [A6,Bl,Bq,Be,B1,A7,A9,Bd,A8,Bk,Cw,A5,Bc,Ba,A0,A1,Bo,B5,ofOpt,Nat.reduceLT,Nat.reduceEqDiff,Aa,Ab,Ac,Aj,Ak,hf2,hf3]
  refine WC.mono (word_w l hl i (by omega) _) ?_
  rintro _ ⟨S2,rfl,hk⟩
  obtain ⟨q1,q2,q3⟩:=fin S2 hk (Mz (l.drop i) i).1
  simp only [Bw,Be,Cv,Cs,B1,A7,A9,Bm,Bn,A8,Bk,A5,Bc,Ba,A0,A1,ofOpt,B9,Bg,By,Bf,Cl,Nat.reduceLT,Nat.reduceEqDiff,Aa,Ab,Ac,Ag,Ah,Cj,q1,q2]
  exact ⟨_,rfl,q3⟩
end Go.Ax
