/- Re -/
import Derived.Test.YtjgknelmjdallaaGreatDoorPrG21
import Derived.Lib.Join
import Derived.Lib.ItoaLen
import Derived.Test.YtjgknelmjdallaaGreatDoorPrG20
set_option linter.unusedVariables false
set_option linter.unusedSimpArgs false
noncomputable section
namespace Go.Ax
open Go.RowKit Go.Proofs
set_option maxRecDepth 100000
def H6 (s:List UInt8):Nat:=if s=[111,114] ∨ s=[120,111,114] then 2 else if s=[97,110,100] then 3 else if s=[43] ∨ s=[45] then 6 else if s=[42] ∨ s=[47] ∨ s=[109,111,100] then 7 else 5
def Ea:PE → Nat
 | .mk kind _ n name _ _=>if kind=1 then (if n < 0 then 8 else 10) else if kind=4 ∨ kind=10 then 8 else if kind=5 then 4 else if kind=6 then H6 name else if kind=7 then 0 else if kind=8 ∨ kind=9 then 1 else if kind=11 then 9 else 10
def Lj:PE → Nat
 | .mk kind _ _ _ _ _=>kind
structure KI where
 text:List UInt8
 binds:Nat
 kind:Nat
def kT (ks:List KI) (i least:Nat):List UInt8:=match ks[i]? with
 | none=>[]
 | some k=>if k.binds < least then 40 :: (k.text ++ [41]) else k.text
def Kr (ks:List KI):List UInt8:=Lib.join (ks.map (·.text)) [44,32]
def O7 (name:List UInt8) (off:Bool):List UInt8:=if off then [32,119,104,101,110,32,110,111,116,32] ++ name else [32,119,104,101,110,32] ++ name
def tD (ks:List KI):List UInt8:=if (∃ k,ks[0]? = some k ∧ k.kind=1) ∨ D5 [45] (kT ks 0 8)=true then ([45,40] ++ kT ks 0 8) ++ [41] else [45] ++ kT ks 0 8
def binT (name:List UInt8) (ks:List KI):List UInt8:=(((kT ks 0 (if H6 name=5 then 6 else H6 name) ++ [32]) ++ name) ++ [32]) ++ kT ks 1 (H6 name + 1)
def mK (name:List UInt8) (ks:List KI):List UInt8:=if 0 < ks.length then ([97,119,97,105,116,32] ++ name) ++ (([32,97,102,116,101,114,32,40] ++ Kr ks) ++ [41]) else [97,119,97,105,116,32] ++ name
def U5 (kind:Nat) (n:Int) (name:List UInt8) (off:Bool) (ks:List KI):List UInt8:=match kind with
 | 1=>Lib.itoa n
 | 2=>if n=0 then [102,97,108,115,101] else [116,114,117,101]
 | 3=>name
 | 4=>tD ks
 | 5=>[110,111,116,32] ++ kT ks 0 4
 | 6=>binT name ks
 | 7=>(((([105,102,32] ++ kT ks 0 0) ++ [32,116,104,101,110,32]) ++ kT ks 1 0) ++ [32,101,108,115,101,32]) ++ kT ks 2 0
 | 8=>(kT ks 0 2 ++ [32,45,62,32]) ++ kT ks 1 1
 | 9=>(kT ks 0 0 ++ [32,102,98,121,32]) ++ kT ks 1 1
 | 10=>[112,114,101,32] ++ kT ks 0 8
 | 11=>kT ks 0 9 ++ O7 name off
 | 12=>((((([109,101,114,103,101,32] ++ name) ++ [32,40]) ++ kT ks 0 0) ++ [41,32,40]) ++ kT ks 1 0) ++ [41]
 | 13=>((name ++ [40]) ++ Kr ks) ++ [41]
 | 14=>mK name ks
 | _=>[]
mutual
def Fz:PE → List UInt8
 | .mk kind _ n name off kids=>U5 kind n name off (Cx kids)
def Cx:List PE → List KI
 | []=>[]
 | e :: r=>⟨Fz e,Ea e,Lj e⟩ :: Cx r
end
theorem Xk:∀ l:List PE,Cx l=l.map fun e=>⟨Fz e,Ea e,Lj e⟩
 | []=>rfl
 | e :: r=>by
  show _ :: Cx r=_
  rw [Xk r]; rfl
theorem P8 (l:List PE):(Cx l).length=l.length:=by rw [Xk]; exact List.length_map ..
def Gr:PE → Nat
 | .mk _ _ _ _ _ kids=>1 + sizeL kids
where sizeL:List PE → Nat
 | []=>0
 | e :: r=>Gr e + sizeL r
theorem J1 (kind pos:Nat) (n:Int) (name:List UInt8) (off:Bool) (kids:List PE):Gr (.mk kind pos n name off kids)=1 + Gr.sizeL kids:=by rw [Gr]
theorem Lh:Gr.sizeL []=0:=by rw [Gr.sizeL]
theorem Gi (e:PE) (r:List PE):Gr.sizeL (e :: r)=Gr e + Gr.sizeL r:=by rw [Gr.sizeL]
inductive Fit:PE → Prop where
 | mk (kind pos:Nat) (n:Int) (name:List UInt8) (off:Bool) (kids:List PE) (hn:-9223372036854775808 ≤ n ∧ n ≤ 9223372036854775807) (hname:name.length ≤ 30) (hk:∀ e ∈ kids,Fit e):Fit (.mk kind pos n name off kids)
theorem itoa_len (n:Int) (h:-9223372036854775808 ≤ n ∧ n ≤ 9223372036854775807):(Lib.itoa n).length ≤ 21:=Lib.itoa_length_le n h.1 h.2
def L7:List KI → Nat
 | []=>0
 | k :: r=>k.text.length + 4 + L7 r
theorem Sa:∀ (ks:List KI) (i least:Nat),(kT ks i least).length ≤ L7 ks
 | [],i,least=>by simp [kT,L7]
 | k :: r,i,least=>by
  cases i with
  | zero =>
   have h1:(kT (k :: r) 0 least).length ≤ k.text.length + 2:=by
    unfold kT; simp only [Ah]; split <;> simp
   unfold L7; omega
  | succ i =>
   have:=Sa r i least
   have e:kT (k :: r) (i + 1) least=kT r i least:=by unfold kT; simp
   rw [e]; unfold L7; omega
theorem kT_len2 (a b:KI) (r:List KI) (x y:Nat):(kT (a :: b :: r) 0 x).length + (kT (a :: b :: r) 1 y).length ≤ L7 (a :: b :: r):=by
 have h1:(kT (a :: b :: r) 0 x).length ≤ a.text.length + 2:=by
  unfold kT; simp only [Ah]; split <;> simp
 have h2:(kT (a :: b :: r) 1 y).length ≤ b.text.length + 2:=by
  unfold kT; simp only [Ag,Ah]; split <;> simp
 unfold L7; unfold L7; omega
theorem Xl:∀ (ks:List KI) (x y:Nat),(kT ks 0 x).length + (kT ks 1 y).length ≤ L7 ks
 | [],x,y=>by simp [kT,L7]
 | [a],x,y=>by
  have h1:=Sa [a] 0 x
  have e:kT [a] 1 y=[]:=by simp [kT]
  rw [e]; simpa using h1
 | a :: b :: r,x,y=>kT_len2 a b r x y
theorem pG:∀ (ks:List KI) (x y z:Nat),(kT ks 0 x).length + (kT ks 1 y).length + (kT ks 2 z).length ≤ L7 ks
 | [],x,y,z=>by simp [kT,L7]
 | a :: r,x,y,z=>by
  have h1:(kT (a :: r) 0 x).length ≤ a.text.length + 2:=by
   unfold kT; simp only [Ah]; split <;> simp
  have e1:kT (a :: r) 1 y=kT r 0 y:=by unfold kT; simp
  have e2:kT (a :: r) 2 z=kT r 1 z:=by unfold kT; simp
  have:=Xl r y z
  rw [e1,e2]; unfold L7; omega
theorem P9:∀ (ks:List KI),(Kr ks).length ≤ L7 ks
 | []=>by simp [Kr,Lib.join_nil,L7]
 | [a]=>by simp [Kr,Lib.join_one,L7]
 | a :: b :: r=>by
  have ih:=P9 (b :: r)
  have e:Kr (a :: b :: r)=a.text ++ ([44,32] ++ Kr (b :: r)):=by
   unfold Kr Lib.join
   simp [List.intercalate,List.intersperse]
  rw [e]
  simp only [List.length_append,List.length_cons,List.length_nil]
  unfold L7; omega
theorem zP (kind:Nat) (n:Int) (name:List UInt8) (off:Bool) (ks:List KI) (hn:-9223372036854775808 ≤ n ∧ n ≤ 9223372036854775807) (hm:name.length ≤ 30):(U5 kind n name off ks).length + 4 ≤ 100 + L7 ks:=by
 have h2:=Xl ks
 have h1:=Sa ks
 have h3:=pG ks
 have hj:=P9 ks
 unfold U5
 split
 ·have:=itoa_len n hn; omega
 ·split <;> simp <;> omega
 ·omega
 ·unfold tD; have:=h1 0 8; split <;> simp <;> omega
 ·have:=h1 0 4; simp; omega
 ·unfold binT; have:=h2 (if H6 name=5 then 6 else H6 name) (H6 name + 1); simp only [List.length_append,List.length_cons,List.length_nil]; omega
 ·have:=h3 0 0 0; simp only [List.length_append,List.length_cons,List.length_nil]; omega
 ·have:=h2 2 1; simp only [List.length_append,List.length_cons,List.length_nil]; omega
 ·have:=h2 0 1; simp only [List.length_append,List.length_cons,List.length_nil]; omega
 ·have:=h1 0 8; simp only [List.length_append,List.length_cons,List.length_nil]; omega
 ·have:=h1 0 9; unfold O7; split <;> simp only [List.length_append,List.length_cons,List.length_nil] <;> omega
 ·have:=h2 0 0; simp only [List.length_append,List.length_cons,List.length_nil]; omega
 ·simp only [List.length_append,List.length_cons,List.length_nil]; omega
 ·unfold mK; split <;> simp only [List.length_append,List.length_cons,List.length_nil] <;> omega
 ·simp; omega
mutual
theorem Z6:∀ {e:PE},Fit e → (Fz e).length + 4 ≤ 100 * Gr e
 | .mk kind pos n name off kids,h=>by
  obtain ⟨hn,hm,hk⟩:(-9223372036854775808 ≤ n ∧ n ≤ 9223372036854775807) ∧ name.length ≤ 30 ∧ (∀ e ∈ kids,Fit e):=by cases h; exact ⟨‹_›,‹_›,‹_›⟩
  have h1:=zP kind n name off (Cx kids) hn hm
  have h2:=Wy kids hk
  rw [J1]
  show (U5 kind n name off (Cx kids)).length + 4 ≤ _
  omega
theorem Wy:∀ (l:List PE),(∀ e ∈ l,Fit e) → L7 (Cx l) ≤ 100 * Gr.sizeL l
 | [],_=>by rw [Lh]; simp [Cx,L7]
 | e :: r,h=>by
  have h1:=Z6 (h e (List.mem_cons_self ..))
  have h2:=Wy r (fun x hx=>h x (List.mem_cons_of_mem _ hx))
  rw [Gi]
  show (Fz e).length + 4 + L7 (Cx r) ≤ _
  omega
end
end Go.Ax
noncomputable section
namespace Go.Ax
open Go.RowKit Go.Proofs
set_option maxRecDepth 100000
theorem Ed:E6.P=Tryz.prog:=_root_.id rfl
theorem Wc:E6.G=gF:=_root_.id rfl
theorem D7 (a b:List UInt8) (h:a.length + b.length ≤ 4611686018427387904):D8 .add (.v (.string ⟨⟨a⟩⟩)) (.v (.string ⟨⟨b⟩⟩))=some (.v (.string ⟨⟨a ++ b⟩⟩)):=by
 have h':(⟨⟨a⟩⟩:ByteArray).size + (⟨⟨b⟩⟩:ByteArray).size ≤ 4611686018427387904:=h
 simp only [D8,if_pos h']
theorem G8 (a b:AV):Hn Tryz.prog 2 a b=false:=by
 have h:Tryz.prog.underlying 2=some (.int .i64):=rfl
 unfold Hn; rw [h]
theorem fn6_17:∃ fn,E6.F 17=some fn:=Option.isSome_iff_exists.1 (by kernel_rfl)
theorem fn6_49:∃ fn,E6.F 49=some fn:=Option.isSome_iff_exists.1 (by kernel_rfl)
theorem fn6_50:∃ fn,E6.F 50=some fn:=Option.isSome_iff_exists.1 (by kernel_rfl)
theorem lT:∃ fn,E6.F 51=some fn:=Option.isSome_iff_exists.1 (by kernel_rfl)
theorem fn6_52:∃ fn,E6.F 52=some fn:=Option.isSome_iff_exists.1 (by kernel_rfl)
theorem fn6_53:∃ fn,E6.F 53=some fn:=Option.isSome_iff_exists.1 (by kernel_rfl)
theorem fn6_54:∃ fn,E6.F 54=some fn:=Option.isSome_iff_exists.1 (by kernel_rfl)
theorem fn6_55:∃ fn,E6.F 55=some fn:=Option.isSome_iff_exists.1 (by kernel_rfl)
theorem fn6_84:∃ fn,E6.F 84=some fn:=Option.isSome_iff_exists.1 (by kernel_rfl)
theorem fn6_85:∃ fn,E6.F 85=some fn:=Option.isSome_iff_exists.1 (by kernel_rfl)
theorem fn6_86:∃ fn,E6.F 86=some fn:=Option.isSome_iff_exists.1 (by kernel_rfl)
theorem fn6_87:∃ fn,E6.F 87=some fn:=Option.isSome_iff_exists.1 (by kernel_rfl)
theorem uG:∃ fn,E6.F 88=some fn:=Option.isSome_iff_exists.1 (by kernel_rfl)
theorem fn6_48:∃ fn,E6.F 48=some fn:=Option.isSome_iff_exists.1 (by kernel_rfl)
theorem fn6_122:∃ fn,E6.F 122=some fn:=Option.isSome_iff_exists.1 (by kernel_rfl)
theorem fn6_28:∃ fn,E6.F 28=some fn:=Option.isSome_iff_exists.1 (by kernel_rfl)
theorem fn6_93:∃ fn,E6.F 93=some fn:=Option.isSome_iff_exists.1 (by kernel_rfl)
set_option maxHeartbeats 16000000 in
theorem when_w (name:List UInt8) (off:Bool) (hl:name.length ≤ 1000000) (S:St):WC E6 53 [Cj name,.v (.bool off)] S (fun r=>r=.ret (Cj (O7 name off)) S):=by
 refine Dt Tryz.f53 (by kernel_rfl) (by kernel_rfl) (by kernel_rfl) (show (_:Nat) ≤ _ from by show (_:Nat) ≤ _; simp [Tryz.f53]) ?_
 unfold Cj
 have h1:([32,119,104,101,110,32,110,111,116,32]:List UInt8).length + name.length ≤ 4611686018427387904:=by simp; omega
 have h2:([32,119,104,101,110,32]:List UInt8).length + name.length ≤ 4611686018427387904:=by simp; omega
 have q1:=D7 _ _ h1
 have q2:=D7 _ _ h2
 cases off
 ·simp only [Br,A8,Bj,Bp,By,A6,Cb,Bl,A9,Bo,Bn,Dh,A4,Bd,Bc,B7,A0,A1,ofOpt,Be,Bi,B0,Bg,Cd,Nat.reduceLT,Nat.reduceAdd,Nat.reduceEqDiff,Aa,Ab,Ac,Ae,Am,Ed,Dg,Tryz.f53,q1,q2]
  rfl
 ·simp only [Br,A8,Bj,Bp,By,A6,Cb,Bl,A9,Bo,Bn,C6,A4,Bd,Bc,B7,A0,A1,ofOpt,Be,Bi,B0,Bg,Cd,Nat.reduceLT,Nat.reduceAdd,Nat.reduceEqDiff,Aa,Ab,Ac,Ae,Am,Ed,Dg,Tryz.f53,q1,q2]
  rfl
set_option maxHeartbeats 16000000 in
theorem iE (b:Bool) (S:St):WC E6 49 [.v (.bool b)] S (fun r=>r=.ret (Cj (if b then [116,114,117,101] else [102,97,108,115,101])) S):=by
 refine Dt Tryz.f49 (by kernel_rfl) (by kernel_rfl) (by kernel_rfl) (show (_:Nat) ≤ _ from by show (_:Nat) ≤ _; simp [Tryz.f49]) ?_
 obtain ⟨fn1,hf1⟩:=fn6_84
 simp only [A8,Bj,A6,Bl,A9,Bo,B6,Bn,A4,Bd,Bc,B7,A0,A1,Bm,Bz,ofOpt,Be,Nat.reduceLT,Nat.reduceEqDiff,Aa,Ab,Ac,Ae,Aj,Ak,Tryz.f49,hf1]
 refine Dt Tryz.f84 (by kernel_rfl) (by kernel_rfl) (by kernel_rfl) (show (_:Nat) ≤ _ from by show (_:Nat) ≤ _; simp [Tryz.f84]) ?_
 cases b
 ·simp only [Br,A8,Bj,Bp,By,A6,Cb,Bl,A9,Bo,Bn,Cz,Dh,A4,Bd,Bc,B7,A0,A1,ofOpt,Be,Bi,B0,Bg,Cd,Nat.reduceLT,Nat.reduceEqDiff,Aa,Ab,Ac,Ae,Am,Tryz.f84]
  rfl
 ·simp only [Br,A8,Bj,Bp,By,A6,Cb,Bl,A9,Bo,Bn,Cz,C6,A4,Bd,Bc,B7,A0,A1,ofOpt,Be,Bi,B0,Bg,Cd,Nat.reduceLT,Nat.reduceEqDiff,Aa,Ab,Ac,Ae,Tryz.f84]
  rfl
set_option maxHeartbeats 16000000 in
theorem wF (s:List UInt8) (S:St):WC E6 87 [Cj s] S (fun r=>r=.ret (Du (H6 s)) S):=by
 refine Dt Tryz.f87 (by kernel_rfl) (by kernel_rfl) (by kernel_rfl) (show (_:Nat) ≤ _ from by show (_:Nat) ≤ _; simp [Tryz.f87]) ?_
 unfold Cj
 by_cases h0:s=[111,114]
 ·subst h0
  simp only [Br,A8,Bj,Bp,B3,By,A6,Cb,Ca,Cl,Bl,A9,Bo,Bn,C6,A4,Bd,Bc,B7,A0,A1,ofOpt,Be,Bi,B0,Bg,Cd,Nat.reduceLT,Nat.reduceEqDiff,Aa,Ab,Ac,Ae,Am,Ap,Ed,Mo,Dg,Tryz.f87]
  rfl
 have d0:decide (s=([111,114]:List UInt8))=false:=by simpa using h0
 by_cases h1:s=[120,111,114]
 ·subst h1
  simp only [Br,A8,Bj,Bp,B3,By,A6,Cb,Ca,Cl,Bl,A9,Bo,Bn,C6,A4,Bd,Bc,B7,A0,A1,ofOpt,Be,Bi,B0,Bg,Cd,Nat.reduceLT,Nat.reduceEqDiff,Aa,Ab,Ac,Ae,Am,Ap,Ed,Mo,Dg,Tryz.f87]
  rfl
 have d1:decide (s=([120,111,114]:List UInt8))=false:=by simpa using h1
 by_cases h2:s=[97,110,100]
 ·subst h2
  simp only [Br,A8,Bj,Bp,B3,By,A6,Cb,Ca,Cl,Bl,A9,Bo,Bn,C6,A4,Bd,Bc,B7,A0,A1,ofOpt,Be,Bi,B0,Bg,Cd,Nat.reduceLT,Nat.reduceEqDiff,Aa,Ab,Ac,Ae,Am,Ap,Ed,Mo,Dg,Tryz.f87]
  rfl
 have d2:decide (s=([97,110,100]:List UInt8))=false:=by simpa using h2
 by_cases h3:s=[43]
 ·subst h3
  simp only [Br,A8,Bj,Bp,B3,By,A6,Cb,Ca,Cl,Bl,A9,Bo,Bn,C6,A4,Bd,Bc,B7,A0,A1,ofOpt,Be,Bi,B0,Bg,Cd,Nat.reduceLT,Nat.reduceEqDiff,Aa,Ab,Ac,Ae,Am,Ap,Ed,Mo,Dg,Tryz.f87]
  rfl
 have d3:decide (s=([43]:List UInt8))=false:=by simpa using h3
 by_cases h4:s=[45]
 ·subst h4
  simp only [Br,A8,Bj,Bp,B3,By,A6,Cb,Ca,Cl,Bl,A9,Bo,Bn,C6,A4,Bd,Bc,B7,A0,A1,ofOpt,Be,Bi,B0,Bg,Cd,Nat.reduceLT,Nat.reduceEqDiff,Aa,Ab,Ac,Ae,Am,Ap,Ed,Mo,Dg,Tryz.f87]
  rfl
 have d4:decide (s=([45]:List UInt8))=false:=by simpa using h4
 by_cases h5:s=[42]
 ·subst h5
  simp only [Br,A8,Bj,Bp,B3,By,A6,Cb,Ca,Cl,Bl,A9,Bo,Bn,C6,A4,Bd,Bc,B7,A0,A1,ofOpt,Be,Bi,B0,Bg,Cd,Nat.reduceLT,Nat.reduceEqDiff,Aa,Ab,Ac,Ae,Am,Ap,Ed,Mo,Dg,Tryz.f87]
  rfl
 have d5:decide (s=([42]:List UInt8))=false:=by simpa using h5
 by_cases h6:s=[47]
 ·subst h6
  simp only [Br,A8,Bj,Bp,B3,By,A6,Cb,Ca,Cl,Bl,A9,Bo,Bn,C6,A4,Bd,Bc,B7,A0,A1,ofOpt,Be,Bi,B0,Bg,Cd,Nat.reduceLT,Nat.reduceEqDiff,Aa,Ab,Ac,Ae,Am,Ap,Ed,Mo,Dg,Tryz.f87]
  rfl
 have d6:decide (s=([47]:List UInt8))=false:=by simpa using h6
 by_cases h7:s=[109,111,100]
 ·subst h7
  simp only [Br,A8,Bj,Bp,B3,By,A6,Cb,Ca,Cl,Bl,A9,Bo,Bn,C6,A4,Bd,Bc,B7,A0,A1,ofOpt,Be,Bi,B0,Bg,Cd,Nat.reduceLT,Nat.reduceEqDiff,Aa,Ab,Ac,Ae,Am,Ap,Ed,Mo,Dg,Tryz.f87]
  rfl
 have d7:decide (s=([109,111,100]:List UInt8))=false:=by simpa using h7
 simp only [Br,A8,Bj,Bp,B3,By,A6,Cb,Ca,Cl,Bl,A9,Bo,Bn,Dh,A4,Bd,Bc,B7,A0,A1,ofOpt,Be,Bi,B0,Bg,Cd,Nat.reduceLT,Nat.reduceEqDiff,Aa,Ab,Ac,Ae,Am,Ed,Mo,Dg,Tryz.f87,d0,d1,d2,d3,d4,d5,d6,d7]
 have e:H6 s=5:=by unfold H6; simp [h0,h1,h2,h3,h4,h5,h6,h7]
 rw [e]; rfl
end Go.Ax
noncomputable section
namespace Go.Ax
open Go.RowKit Go.Proofs
set_option maxRecDepth 100000
theorem cO (b:Nat):Cy Tryz.prog 30 (.ptr b 0) 5=some (.ptr b 5):=by kernel_rfl
theorem ag2:Fs Tryz.prog 2=some false:=by kernel_rfl
theorem ag9:Fs Tryz.prog 9=some false:=by kernel_rfl
theorem ag4:Fs Tryz.prog 4=some false:=by kernel_rfl
section
variable {S:St} {id kind pos:Nat} {n:Int} {name:List UInt8} {off:Bool} {kv:AV} (h:S.mem.get id=some (.box (exC kind pos n name off kv)))
include h
theorem lxN:Cv Tryz.prog S 2 (.ptr id 2)=some (.v (.int .i64 n)):=by simp [Cv,Dc,h,ag2,exC]
theorem Io:Cv Tryz.prog S 9 (.ptr id 3)=some (.v (.string ⟨⟨name⟩⟩)):=by simp [Cv,Dc,h,ag9,exC,Cj]
theorem Pe:Cv Tryz.prog S 4 (.ptr id 4)=some (.v (.bool off)):=by simp [Cv,Dc,h,ag4,exC]
end
set_option maxHeartbeats 16000000 in
theorem binds_w (kind pos:Nat) (n:Int) (name:List UInt8) (off:Bool) (kv:AV) (kids:List PE) (S:St):WC E6 86 [.agg (exC kind pos n name off kv)] S (fun r=>∃ S',r=.ret (Du (Ea (.mk kind pos n name off kids))) S' ∧ Ep S S'):=by
 refine Dt Tryz.f86 (by kernel_rfl) (by kernel_rfl) (by kernel_rfl) (show (_:Nat) ≤ _ from by show (_:Nat) ≤ _; simp [Tryz.f86]) ?_
 obtain ⟨fn1,hf1⟩:=fn6_87
 have g1:=Do S (exC kind pos n name off kv)
 have k1:=Dp S (exC kind pos n name off kv)
 generalize hS1:S.newBox (exC kind pos n name off kv)=S1 at g1 k1
 have l0:=ld3e g1
 have l2:=lxN g1
 have l3:=Io g1
 by_cases h1:kind=1
 ·subst h1
  have e1:(((1:Nat):Int) == 1)=true:=rfl
  by_cases hn:n < 0
  ·have en:decide (n < 0)=true:=by simpa using hn
   simp only [Br,A8,Bj,Bp,B3,By,A6,Cb,Ca,Cl,Bl,A9,Bo,B6,Bn,C6,A4,Bd,Bc,B7,A0,A1,Bm,Bz,ofOpt,Be,B5,Bi,B0,Bg,Cd,Dj,Ci,Nat.reduceLT,Nat.reduceEqDiff,Aa,Ab,Ac,Ae,Aj,Ak,Am,Ed,G8,Tryz.f86,hf1,hS1,l0,l2,l3,fe0,fe2,fe3,Cm,Cn,e1,en]
   exact ⟨_,by rw [show Ea (.mk 1 pos n name off kids)=8 by simp [Ea,hn]]; rfl,k1⟩
  ·have en:decide (n < 0)=false:=by simpa using hn
   simp only [Br,A8,Bj,Bp,B3,By,A6,Cb,Ca,Cl,Bl,A9,Bo,B6,Bn,C6,Dh,A4,Bd,Bc,B7,A0,A1,Bm,Bz,ofOpt,Be,B5,Bi,B0,Bg,Cd,Dj,Ci,Nat.reduceLT,Nat.reduceEqDiff,Aa,Ab,Ac,Ae,Aj,Ak,Am,Ed,G8,Tryz.f86,hf1,hS1,l0,l2,l3,fe0,fe2,fe3,Cm,Cn,e1,en]
   exact ⟨_,by rw [show Ea (.mk 1 pos n name off kids)=10 by simp [Ea,hn]]; rfl,k1⟩
 by_cases h4:kind=4
 ·subst h4
  have e1:(((4:Nat):Int) == 1)=false:=rfl
  have e4:(((4:Nat):Int) == 4)=true:=rfl
  simp only [Br,A8,Bj,Bp,B3,By,A6,Cb,Ca,Cl,Bl,A9,Bo,B6,Bn,C6,Dh,A4,Bd,Bc,B7,A0,A1,Bm,Bz,ofOpt,Be,B5,Bi,B0,Bg,Cd,Dj,Ci,Nat.reduceLT,Nat.reduceEqDiff,Aa,Ab,Ac,Ae,Aj,Ak,Am,Ed,G8,Tryz.f86,hf1,hS1,l0,l2,l3,fe0,fe2,fe3,Cm,Cn,e1,e4]
  exact ⟨_,by rw [show Ea (.mk 4 pos n name off kids)=8 by simp [Ea]]; rfl,k1⟩
 by_cases h10:kind=10
 ·subst h10
  have e1:(((10:Nat):Int) == 1)=false:=rfl
  have e4:(((10:Nat):Int) == 4)=false:=rfl
  have e10:(((10:Nat):Int) == 10)=true:=rfl
  simp only [Br,A8,Bj,Bp,B3,By,A6,Cb,Ca,Cl,Bl,A9,Bo,B6,Bn,C6,Dh,A4,Bd,Bc,B7,A0,A1,Bm,Bz,ofOpt,Be,B5,Bi,B0,Bg,Cd,Dj,Ci,Nat.reduceLT,Nat.reduceEqDiff,Aa,Ab,Ac,Ae,Aj,Ak,Am,Ed,G8,Tryz.f86,hf1,hS1,l0,l2,l3,fe0,fe2,fe3,Cm,Cn,e1,e4,e10]
  exact ⟨_,by rw [show Ea (.mk 10 pos n name off kids)=8 by simp [Ea]]; rfl,k1⟩
 by_cases h5:kind=5
 ·subst h5
  have e1:(((5:Nat):Int) == 1)=false:=rfl
  have e4:(((5:Nat):Int) == 4)=false:=rfl
  have e10:(((5:Nat):Int) == 10)=false:=rfl
  have e5:(((5:Nat):Int) == 5)=true:=rfl
  simp only [Br,A8,Bj,Bp,B3,By,A6,Cb,Ca,Cl,Bl,A9,Bo,B6,Bn,C6,Dh,A4,Bd,Bc,B7,A0,A1,Bm,Bz,ofOpt,Be,B5,Bi,B0,Bg,Cd,Dj,Ci,Nat.reduceLT,Nat.reduceEqDiff,Aa,Ab,Ac,Ae,Aj,Ak,Am,Ed,G8,Tryz.f86,hf1,hS1,l0,l2,l3,fe0,fe2,fe3,Cm,Cn,e1,e4,e10,e5]
  exact ⟨_,by rw [show Ea (.mk 5 pos n name off kids)=4 by simp [Ea]]; rfl,k1⟩
 by_cases h6:kind=6
 ·subst h6
  have e1:(((6:Nat):Int) == 1)=false:=rfl
  have e4:(((6:Nat):Int) == 4)=false:=rfl
  have e10:(((6:Nat):Int) == 10)=false:=rfl
  have e5:(((6:Nat):Int) == 5)=false:=rfl
  have e6:(((6:Nat):Int) == 6)=true:=rfl
  simp only [Br,A8,Bj,Bp,B3,By,A6,Cb,Ca,Cl,Bl,A9,Bo,B6,Bn,C6,Dh,A4,Bd,Bc,B7,A0,A1,Bm,Bz,ofOpt,Be,B5,Bi,B0,Bg,Cd,Dj,Ci,Nat.reduceLT,Nat.reduceEqDiff,Aa,Ab,Ac,Ae,Aj,Ak,Am,Ed,G8,Tryz.f86,hf1,hS1,l0,l2,l3,fe0,fe2,fe3,Cm,Cn,e1,e4,e10,e5,e6]
  refine WC.mono (wF name S1) ?_
  rintro _ rfl
  simp only [By,A6,Cb,Cl,Bl,A9,Bo,Bn,Cz,A4,Bd,Bc,A0,A1,ofOpt,Bi,B0,Bg,Cd,Nat.reduceLT,Nat.reduceEqDiff,Aa,Ab,Ac]
  exact ⟨_,by rw [show Ea (.mk 6 pos n name off kids)=H6 name by simp [Ea]],k1⟩
 by_cases h7:kind=7
 ·subst h7
  have e1:(((7:Nat):Int) == 1)=false:=rfl
  have e4:(((7:Nat):Int) == 4)=false:=rfl
  have e10:(((7:Nat):Int) == 10)=false:=rfl
  have e5:(((7:Nat):Int) == 5)=false:=rfl
  have e6:(((7:Nat):Int) == 6)=false:=rfl
  have e7:(((7:Nat):Int) == 7)=true:=rfl
  simp only [Br,A8,Bj,Bp,B3,By,A6,Cb,Ca,Cl,Bl,A9,Bo,B6,Bn,C6,Dh,A4,Bd,Bc,B7,A0,A1,Bm,Bz,ofOpt,Be,B5,Bi,B0,Bg,Cd,Dj,Ci,Nat.reduceLT,Nat.reduceEqDiff,Aa,Ab,Ac,Ae,Aj,Ak,Am,Ed,G8,Tryz.f86,hf1,hS1,l0,l2,l3,fe0,fe2,fe3,Cm,Cn,e1,e4,e10,e5,e6,e7]
  exact ⟨_,by rw [show Ea (.mk 7 pos n name off kids)=0 by simp [Ea]]; rfl,k1⟩
 by_cases h8:kind=8
 ·subst h8
  have e1:(((8:Nat):Int) == 1)=false:=rfl
  have e4:(((8:Nat):Int) == 4)=false:=rfl
  have e10:(((8:Nat):Int) == 10)=false:=rfl
  have e5:(((8:Nat):Int) == 5)=false:=rfl
  have e6:(((8:Nat):Int) == 6)=false:=rfl
  have e7:(((8:Nat):Int) == 7)=false:=rfl
  have e8:(((8:Nat):Int) == 8)=true:=rfl
  simp only [Br,A8,Bj,Bp,B3,By,A6,Cb,Ca,Cl,Bl,A9,Bo,B6,Bn,C6,Dh,A4,Bd,Bc,B7,A0,A1,Bm,Bz,ofOpt,Be,B5,Bi,B0,Bg,Cd,Dj,Ci,Nat.reduceLT,Nat.reduceEqDiff,Aa,Ab,Ac,Ae,Aj,Ak,Am,Ed,G8,Tryz.f86,hf1,hS1,l0,l2,l3,fe0,fe2,fe3,Cm,Cn,e1,e4,e10,e5,e6,e7,e8]
  exact ⟨_,by rw [show Ea (.mk 8 pos n name off kids)=1 by simp [Ea]]; rfl,k1⟩
 by_cases h9:kind=9
 ·subst h9
  have e1:(((9:Nat):Int) == 1)=false:=rfl
  have e4:(((9:Nat):Int) == 4)=false:=rfl
  have e10:(((9:Nat):Int) == 10)=false:=rfl
  have e5:(((9:Nat):Int) == 5)=false:=rfl
  have e6:(((9:Nat):Int) == 6)=false:=rfl
  have e7:(((9:Nat):Int) == 7)=false:=rfl
  have e8:(((9:Nat):Int) == 8)=false:=rfl
  have e9:(((9:Nat):Int) == 9)=true:=rfl
  simp only [Br,A8,Bj,Bp,B3,By,A6,Cb,Ca,Cl,Bl,A9,Bo,B6,Bn,C6,Dh,A4,Bd,Bc,B7,A0,A1,Bm,Bz,ofOpt,Be,B5,Bi,B0,Bg,Cd,Dj,Ci,Nat.reduceLT,Nat.reduceEqDiff,Aa,Ab,Ac,Ae,Aj,Ak,Am,Ed,G8,Tryz.f86,hf1,hS1,l0,l2,l3,fe0,fe2,fe3,Cm,Cn,e1,e4,e10,e5,e6,e7,e8,e9]
  exact ⟨_,by rw [show Ea (.mk 9 pos n name off kids)=1 by simp [Ea]]; rfl,k1⟩
 by_cases h11:kind=11
 ·subst h11
  have e1:(((11:Nat):Int) == 1)=false:=rfl
  have e4:(((11:Nat):Int) == 4)=false:=rfl
  have e10:(((11:Nat):Int) == 10)=false:=rfl
  have e5:(((11:Nat):Int) == 5)=false:=rfl
  have e6:(((11:Nat):Int) == 6)=false:=rfl
  have e7:(((11:Nat):Int) == 7)=false:=rfl
  have e8:(((11:Nat):Int) == 8)=false:=rfl
  have e9:(((11:Nat):Int) == 9)=false:=rfl
  have e11:(((11:Nat):Int) == 11)=true:=rfl
  simp only [Br,A8,Bj,Bp,B3,By,A6,Cb,Ca,Cl,Bl,A9,Bo,B6,Bn,C6,Dh,A4,Bd,Bc,B7,A0,A1,Bm,Bz,ofOpt,Be,B5,Bi,B0,Bg,Cd,Dj,Ci,Nat.reduceLT,Nat.reduceEqDiff,Aa,Ab,Ac,Ae,Aj,Ak,Am,Ed,G8,Tryz.f86,hf1,hS1,l0,l2,l3,fe0,fe2,fe3,Cm,Cn,e1,e4,e10,e5,e6,e7,e8,e9,e11]
  exact ⟨_,by rw [show Ea (.mk 11 pos n name off kids)=9 by simp [Ea]]; rfl,k1⟩
 have e1:((kind:Int) == 1)=false:=by rw [beq_eq_false_iff_ne]; omega
 have e4:((kind:Int) == 4)=false:=by rw [beq_eq_false_iff_ne]; omega
 have e10:((kind:Int) == 10)=false:=by rw [beq_eq_false_iff_ne]; omega
 have e5:((kind:Int) == 5)=false:=by rw [beq_eq_false_iff_ne]; omega
 have e6:((kind:Int) == 6)=false:=by rw [beq_eq_false_iff_ne]; omega
 have e7:((kind:Int) == 7)=false:=by rw [beq_eq_false_iff_ne]; omega
 have e8:((kind:Int) == 8)=false:=by rw [beq_eq_false_iff_ne]; omega
 have e9:((kind:Int) == 9)=false:=by rw [beq_eq_false_iff_ne]; omega
 have e11:((kind:Int) == 11)=false:=by rw [beq_eq_false_iff_ne]; omega
 simp only [Br,A8,Bj,Bp,B3,By,A6,Cb,Ca,Cl,Bl,A9,Bo,B6,Bn,Dh,A4,Bd,Bc,B7,A0,A1,Bm,Bz,ofOpt,Be,B5,Bi,B0,Bg,Cd,Dj,Ci,Nat.reduceLT,Nat.reduceEqDiff,Aa,Ab,Ac,Ae,Aj,Ak,Am,Ed,G8,Tryz.f86,hf1,hS1,l0,l2,l3,fe0,fe2,fe3,Cm,Cn,e1,e4,e10,e5,e6,e7,e8,e9,e11]
 exact ⟨_,by rw [show Ea (.mk kind pos n name off kids)=10 by simp [Ea,h1,h4,h10,h5,h6,h7,h8,h9,h11]]; rfl,k1⟩
def Sv (e:PE):Prop:=∀ (ys:List AV),RepE (.agg ys) e → ∀ S,2 ≤ S.next → WC E6 17 [.agg ys] S (fun r=>∃ S',r=.ret (Cj (Fz e)) S' ∧ Ep S S')
theorem RepF.at:∀ {es:List AV} {l:List PE},RepF es l → ∀ (j:Nat) (h:j < es.length) (h2:j < l.length),RepE es[j] l[j]
 | _,_,.cons a e r l h h2,0,_,_=>h
 | _,_,.cons a e r l h h2,j + 1,k1,k2=>RepF.at h2 j (by simpa using k1) (by simpa using k2)
set_option maxHeartbeats 16000000 in
theorem Mb {kind pos:Nat} {n:Int} {name:List UInt8} {off:Bool} {kv:AV} {kids:List PE} (hk:RepK kv kids) (hlen:kids.length ≤ 2000000) (i least:Nat) (hok:∀ e ∈ kids,Sv e) (hz:L7 (Cx kids) ≤ 1000000000) (S:St) (hn2:2 ≤ S.next) :
  WC E6 51 [.agg (exC kind pos n name off kv),.v (.int .i64 (i:Int)),.v (.int .i64 (least:Int))] S (fun r=>∃ S',r=.ret (Cj (kT (Cx kids) i least)) S' ∧ Ep S S'):=by
 refine Dt Tryz.f51 (by kernel_rfl) (by kernel_rfl) (by kernel_rfl) (show (_:Nat) ≤ _ from by show (_:Nat) ≤ _; simp [Tryz.f51]) ?_
 obtain ⟨fn1,hf1⟩:=fn6_17
 obtain ⟨fn2,hf2⟩:=fn6_86
 have g1:=Do S (exC kind pos n name off kv)
 have k1:=Dp S (exC kind pos n name off kv)
 have lt1:S.next < (S.newBox (exC kind pos n name off kv)).next:=Nat.lt_succ_self _
 generalize hS1:S.newBox (exC kind pos n name off kv)=S1 at g1 k1 lt1
 have l5:=P7 g1
 have ek:(Cx kids)[i]? = (kids[i]?).map fun e=>⟨Fz e,Ea e,Lj e⟩:=by rw [Xk,List.getElem?_map]
 cases hk with
 | nil =>
  have hge:((i:Int) ≥ 0):=by omega
  have hd:decide ((i:Int) ≥ 0)=true:=decide_eq_true hge
  simp only [Br,A8,Bj,Bp,By,A6,Cb,Bl,A9,Bo,Bn,A4,Bd,Bc,B7,A0,A1,Bm,ofOpt,Be,B5,Bi,B0,Bg,Cd,Eo,Nat.reduceLT,Nat.reduceAdd,Nat.reduceEqDiff,Aa,Ab,Ac,Ae,Am,Ed,Tryz.f51,hS1,Cm,Cn,cO,l5,Uo]
  exact ⟨_,rfl,k1⟩
 | row tok o es _ hf =>
  have hl:=hf.len
  by_cases hi:i < kids.length
  ·have hie:i < es.length:=by omega
   have hd:decide ((i:Int) ≥ (es.length:Int))=false:=decide_eq_false (by omega)
   have hr:=hf.at i hie hi
   obtain ⟨ys,hy,hyl⟩:=hr.agg
   rw [hy] at hr
   have q1:=pQ tok o es i hie ys hy
   have q2:=xR S1 ys hyl
   simp only [Br,A8,Bj,Bp,By,A6,Cb,Bl,A9,Bo,B6,Bn,Dh,A4,Bd,Bc,B7,A0,A1,Bm,Bz,ofOpt,Be,B5,Bi,B0,Bg,Cd,Eo,Nat.reduceLT,Nat.reduceAdd,Nat.reduceEqDiff,Aa,Ab,Ac,Ae,Aj,Ak,Am,Ed,Tryz.f51,hf1,hS1,Cm,Cn,cO,l5,Ty,hd,q1,q2]
   refine WC.mono (hok _ (List.getElem_mem hi) ys hr S1 (by omega)) ?_
   rintro _ ⟨S2,rfl,k2⟩
   have g2:S2.mem.get S.next=some (.box (exC kind pos n name off (.sl tok o 6 es))):=(k2.2 _ lt1).trans g1
   have l6:=P7 g2
   have q3:=xR S2 ys hyl
   have hr':=hr
   obtain ⟨kd,ps,nn,nm,of,ks2,hkk⟩:∃ kd ps nn nm of ks2,kids[i]=.mk kd ps nn nm of ks2:=by cases h:kids[i]; exact ⟨_,_,_,_,_,_,rfl⟩
   rw [hkk] at hr'
   have e1:(Cx kids)[i]? = some ⟨Fz kids[i],Ea kids[i],Lj kids[i]⟩:=by rw [ek,List.getElem?_eq_getElem hi]; rfl
   have hzk:=Sa (Cx kids) i 11
   have e2:kT (Cx kids) i 11=if Ea kids[i] < 11 then 40 :: (Fz kids[i] ++ [41]) else Fz kids[i]:=by unfold kT; rw [e1]
   have hzt:(Fz kids[i]).length ≤ 1000000000:=by
    rw [e2] at hzk
    split at hzk
    ·simp only [List.length_cons,List.length_append] at hzk; omega
    ·omega
   cases hr' with
   | mk _ _ _ _ _ kv2 _ hk2 =>
   simp only [A8,Bj,A6,Bl,A9,Bo,B6,Bn,Cz,A4,Bd,Bc,A0,A1,Bm,Bz,ofOpt,Nat.reduceLT,Nat.reduceEqDiff,Aa,Ab,Ac,Aj,Ak,Ed,hf2,cO,l6,q1,q3]
   have hb:=binds_w kd ps nn nm of kv2 ks2 S2
   rw [← hkk] at hb
   refine WC.mono hb ?_
   rintro _ ⟨S3,rfl,k3⟩
   have q4:=D7 [40] (Fz kids[i]) (by simp; omega)
   have q5:=D7 ([40] ++ Fz kids[i]) [41] (by simp; omega)
   have eT:kT (Cx kids) i least=if Ea kids[i] < least then 40 :: (Fz kids[i] ++ [41]) else Fz kids[i]:=by unfold kT; rw [e1]
   rw [eT]
   by_cases hb:Ea kids[i] < least
   ·have d1:decide (((Ea kids[i]:Nat):Int) < (least:Int))=true:=decide_eq_true (by omega)
    simp only [Br,A8,Bj,Bp,By,A6,Cb,Bl,A9,Bo,Bn,Cz,C6,A4,Bd,Bc,A0,A1,ofOpt,Be,B5,Bi,B0,Bg,Cd,Dj,Nat.reduceLT,Nat.reduceEqDiff,Aa,Ab,Ac,Am,Ed,Dg,d1,q4,q5,Du,Cj]
    exact ⟨_,by rw [if_pos hb]; rfl,(k1.trans k2).trans k3⟩
   ·have d1:decide (((Ea kids[i]:Nat):Int) < (least:Int))=false:=decide_eq_false (by omega)
    simp only [Br,A8,Bj,Bp,By,A6,Bl,A9,Bo,Bn,Cz,Dh,A4,Bd,Bc,A0,A1,ofOpt,Be,B5,Bi,B0,Bg,Cd,Dj,Nat.reduceLT,Nat.reduceEqDiff,Aa,Ab,Ac,Am,Ed,Wc,Dg,d1,Du,Cj]
    exact ⟨_,by rw [if_neg hb],(k1.trans k2).trans k3⟩
  ·have hd:decide ((i:Int) ≥ (es.length:Int))=true:=decide_eq_true (by omega)
   have eT:kT (Cx kids) i least=[]:=by unfold kT; rw [ek,List.getElem?_eq_none (by omega)]; rfl
   rw [eT]
   simp only [Br,A8,Bj,Bp,By,A6,Cb,Bl,A9,Bo,Bn,C6,A4,Bd,Bc,B7,A0,A1,Bm,ofOpt,Be,B5,Bi,B0,Bg,Cd,Eo,Nat.reduceLT,Nat.reduceAdd,Nat.reduceEqDiff,Aa,Ab,Ac,Ae,Am,Ed,Tryz.f51,hS1,Cm,Cn,cO,l5,Ty,hd]
   exact ⟨_,rfl,k1⟩
end Go.Ax
noncomputable section
namespace Go.Ax
open Go.RowKit Go.Proofs
set_option maxRecDepth 100000
noncomputable def Gn:Code → Option Code
 | .loop c=>some c
 | .seq a b=>match Gn a with
  | some x=>some x
  | none=>Gn b
 | .cond _ a b=>match Gn a with
  | some x=>some x
  | none=>Gn b
 | .block _ c=>Gn c
 | _=>none
def X3 (lo:Nat) (S:St) (a:AV) (es:List AV):Prop:=(a=.nils ∧ es=[]) ∨ ∃ tok,2 ≤ tok ∧ lo ≤ tok ∧ tok < S.next ∧ a=.sl tok 0 1 es ∧ S.mem.get tok=some (.tip es.length)
theorem X3.keep {lo:Nat} {S S':St} {a:AV} {es:List AV} (h:X3 lo S a es) (k:Ep S S'):X3 lo S' a es:=by
 rcases h with h | ⟨tok,h1,h2,h3,h4,h5⟩
 ·exact .inl h
 ·exact .inr ⟨tok,h1,h2,Nat.lt_of_lt_of_le h3 k.1,h4,by rw [k.2 tok h3]; exact h5⟩
theorem el69:Ix Tryz.prog 69=some (none,9):=by kernel_rfl
theorem un69:Tryz.prog.underlying 69=some (.slice 9):=by kernel_rfl
theorem i9:(Tryz.prog.info? 9).map (fun i=>(i.zero,i.size,i.bytes))=some (some (.string ⟨#[]⟩),1,16):=by kernel_rfl
theorem sz9:Fq Tryz.prog 9=some 1:=by kernel_rfl
theorem zr9:L9 Tryz.prog 9=some (.v (.string ⟨#[]⟩)):=by kernel_rfl
theorem row69 (x:List UInt8):Dq Tryz.prog 69 1 [(0,.v (.string ⟨⟨x⟩⟩))]=some (.sl 1 0 1 [.v (.string ⟨⟨x⟩⟩)]):=by
 have h1:(AV.v (.string ⟨⟨x⟩⟩)).noTup=true:=rfl
 simp [Dq,el69,sz9,zr9,h1,AV.cells]
theorem app69 (S:St) (a b:AV):Hk E6 S 69 69 a b=Fc Tryz.prog S 69 69 a b:=rfl
theorem sP {lo:Nat} {S:St} {a:AV} {es:List AV} (h:X3 lo S a es) (hn:2 ≤ S.next) (hlo:lo ≤ S.next) (x:List UInt8) (hl:es.length ≤ 2000000) :
  ∃ S',Hk E6 S 69 69 a (.sl 1 0 1 [.v (.string ⟨⟨x⟩⟩)])=some (.sl S.next 0 1 (es ++ [.v (.string ⟨⟨x⟩⟩)]),S') ∧ X3 lo S' (.sl S.next 0 1 (es ++ [.v (.string ⟨⟨x⟩⟩)])) (es ++ [.v (.string ⟨⟨x⟩⟩)]) ∧ S.next ≤ S'.next ∧ ∀ id,id < lo → S'.mem.get id=S.mem.get id:=by
 obtain ⟨i,hi,hz0,hz1,hz2⟩:=G2 i9
 have hb1:(es.length + 1) * 16 ≤ 140737488355328:=by omega
 have hb2:es.length + 1 ≤ 9223372036854775807:=by omega
 rw [app69]
 rcases h with ⟨rfl,rfl⟩ | ⟨tok,h1,h2,h3,rfl,h5⟩
 ·refine ⟨S.grown 1 1,?_,.inr ⟨S.next,hn,hlo,Nat.lt_succ_self _,rfl,?_⟩,Nat.le_succ _,fun id hid=>?_⟩
  ·simp [Fc,el69,hi,hz0,hz1,hz2,L6,un69,Value.cells]
  ·show (S.mem.set S.next _).get S.next=_
   rw [T.get_set,if_pos rfl]; rfl
  ·show (S.mem.set S.next _).get id=_
   rw [T.get_set,if_neg (by omega)]
 ·obtain ⟨k,rfl⟩:∃ k,tok=k + 2:=⟨tok - 2,by omega⟩
  refine ⟨S.grown (k + 2) ((es ++ [AV.v (.string ⟨⟨x⟩⟩)]).length * 1),?_,.inr ⟨S.next,hn,hlo,Nat.lt_succ_self _,rfl,?_⟩,Nat.le_succ _,fun id hid=>?_⟩
  ·simp [Fc,el69,hi,hz0,hz1,hz2,L6,un69,Value.cells,N4,h5,hb1,hb2]
  ·show ((S.mem.set (k + 2) none).set S.next _).get S.next=_
   rw [T.get_set,if_pos rfl,Nat.mul_one]
  ·show ((S.mem.set (k + 2) none).set S.next _).get id=_
   rw [T.get_set,if_neg (by omega),T.get_set,if_neg (by omega)]
theorem Z9:∀ (ws:List (List UInt8)),Uc (ws.map Cj)=some ws
 | []=>rfl
 | w :: r=>by
  show (match Uc (r.map Cj) with | some l=>some (w :: l) | none=>none)=_
  rw [Z9 r]
theorem tR {lo:Nat} {S:St} {a:AV} {ws:List (List UInt8)} (h:X3 lo S a (ws.map Cj)) (sep:List UInt8) (hl:ws.length ≤ 1000000) (hz:(Lib.join ws sep).length ≤ 1000000000):WC E6 88 [a,.v (.string ⟨⟨sep⟩⟩)] S (fun r=>r=.ret (Cj (Lib.join ws sep)) S):=by
 refine Nq (g:=F3 Yo) (by kernel_rfl) ?_
 rcases h with ⟨rfl,h2⟩ | ⟨tok,_,_,_,rfl,_⟩
 ·have:ws=[]:=by simpa using h2
  subst this
  rfl
 ·have e:Yo [.sl tok 0 1 (ws.map Cj),.v (.string ⟨⟨sep⟩⟩)]=some (Cj (Lib.join ws sep)):=by
   unfold Yo
   simp only [Z9]
   rw [if_pos ⟨hl,hz⟩]
  show F3 Yo _ S=_
  unfold F3
  rw [e]
noncomputable def tP:Code:=(Gn (Tryz.f54.body.getD .skip)).getD .skip
theorem kT_zero (ks:List KI) (j:Nat) (h:j < ks.length):kT ks j 0=ks[j].text:=by
 unfold kT
 rw [List.getElem?_eq_getElem h]
 simp
set_option maxHeartbeats 16000000 in
theorem xT {kind pos:Nat} {n:Int} {name:List UInt8} {off:Bool} {kv:AV} {kids:List PE} (hk:RepK kv kids) (hlen:kids.length ≤ 2000000) (hok:∀ e ∈ kids,Sv e) (hz:L7 (Cx kids) ≤ 1000000000) (S1:St) (b:Nat) (hb:b < S1.next) (hn:2 ≤ S1.next) :
  ∀ (m j:Nat) (t:T AV) (S:St) (a:AV),j + m=kids.length → t.get 1=some (.ptr b 0) → t.get 3=some a → t.get 7=some (.v (.int .i64 (kids.length:Int))) → t.get 8=some (.v (.int .i64 (j:Int))) →
   S.mem.get b=some (.box (exC kind pos n name off kv)) → S1.next ≤ S.next → X3 S1.next S a ((((Cx kids).map (·.text)).take j).map Cj) → (∀ id,id < S1.next → S.mem.get id=S1.mem.get id) →
   WX E6 20 (.loop tP) ⟨t,[]⟩ S (fun r=>∃ t' S' a',r=.out (.exit 0) ⟨t',[]⟩ S' ∧ t'.get 3=some a' ∧ X3 S1.next S' a' (((Cx kids).map (·.text)).map Cj) ∧ Ep S1 S')
 | 0,j,t,S,a,hj,h1,h3,h7,h8,hbx,hS,hrow,hkeep=>by
  refine E9 (Em ?_)
  have hlt:decide ((j:Int) < (kids.length:Int))=false:=decide_eq_false (by omega)
  simp only [B9,Br,A8,Bj,Bp,B3,Dk,A6,Ff,Bl,A9,Bo,Bn,Dh,A4,Bd,Bc,A0,ofOpt,B5,Dj,Nat.reduceLT,Nat.reduceEqDiff,Aa,Ab,Ac,Ae,Am,Ed,tP,Gn,Tryz.f54,h1,h3,h7,h8,hlt]
  refine ⟨_,_,_,rfl,by simp only [A0,Nat.reduceEqDiff,Ab]; exact h3,?_,hS,hkeep⟩
  have e:((Cx kids).map (·.text)).take j=(Cx kids).map (·.text):=List.take_of_length_le (by rw [List.length_map,P8]; omega)
  rw [e] at hrow
  exact hrow
 | m + 1,j,t,S,a,hj,h1,h3,h7,h8,hbx,hS,hrow,hkeep=>by
  refine E9 (Em ?_)
  obtain ⟨fn1,hf1⟩:=lT
  have hlt:decide ((j:Int) < (kids.length:Int))=true:=decide_eq_true (by omega)
  have l0:Cv Tryz.prog S 30 (.ptr b 0)=some (.agg (exC kind pos n name off kv)):=ld30 hbx rfl
  simp only [B9,Br,A8,Bj,Bp,B3,Dk,A6,Ff,Bl,A9,Bo,B6,Bn,C6,A4,Bd,Bc,A0,Bm,Bz,ofOpt,Be,B5,Dj,Nat.reduceLT,Nat.reduceEqDiff,Aa,Ab,Ac,Ae,Aj,Ak,Am,Ed,tP,Gn,Tryz.f54,h1,h3,h7,h8,hlt,hf1,l0]
  refine WC.mono (Mb hk hlen j 0 hok hz S (by omega)) ?_
  rintro _ ⟨S2,rfl,k2⟩
  have hjl:j < (Cx kids).length:=by rw [P8]; omega
  rw [kT_zero _ _ hjl]
  have q1:=row69 (Cx kids)[j].text
  obtain ⟨S3,q2,hrow3,hn3,hk3⟩:=sP (hrow.keep k2) (by have:=k2.1; omega) (Nat.le_trans hS k2.1) (Cx kids)[j].text (by rw [List.length_map,List.length_take]; omega)
  have w1:IntKind.i64.wrap ((j:Int) + 1)=((j + 1:Nat):Int):=I1 (j:=1) (by omega)
  simp only [B4,A8,A6,Ca,Bl,A9,Bo,Bn,Cz,A4,Bd,Bc,A0,Bm,ofOpt,ofOptS,Be,Bs,B5,Dv,Nat.reduceLT,Nat.reduceEqDiff,Aa,Ab,Ac,Am,Ed,Cj,h8,q1,q2,w1]
  refine xT (kind:=kind) (pos:=pos) (n:=n) (name:=name) (off:=off) (kv:=kv) (kids:=kids) hk hlen hok hz S1 b hb hn m (j + 1) _ S3 (.sl S2.next 0 1 (((((Cx kids).map (·.text)).take j).map Cj) ++ [.v (.string ⟨⟨(Cx kids)[j].text⟩⟩)])) (by omega) (by simp only [A0,Nat.reduceEqDiff,Ab]; exact h1) (by simp only [A0,Nat.reduceEqDiff,Ab,Aa]) (by simp only [A0,Nat.reduceEqDiff,Ab]; exact h7) (by simp only [A0,Nat.reduceEqDiff,Ab,Aa]) ?_ ?_ ?_ ?_
  ·rw [hk3 b hb,k2.2 b (by omega)]; exact hbx
  ·exact Nat.le_trans hS (Nat.le_trans k2.1 hn3)
  ·have e:((((Cx kids).map (·.text)).take (j + 1)).map Cj)=((((Cx kids).map (·.text)).take j).map Cj) ++ [.v (.string ⟨⟨(Cx kids)[j].text⟩⟩)]:=by
    rw [List.take_add_one,List.map_append,List.getElem?_map,List.getElem?_eq_getElem hjl]; rfl
   rw [e]; exact hrow3
  ·intro id hid
   rw [hk3 id hid,k2.2 id (by omega)]; exact hkeep id hid
set_option maxHeartbeats 16000000 in
theorem cE {kind pos:Nat} {n:Int} {name:List UInt8} {off:Bool} {kv:AV} {kids:List PE} (hk:RepK kv kids) (hlen:kids.length ≤ 1000000) (hok:∀ e ∈ kids,Sv e) (hz:L7 (Cx kids) ≤ 1000000000) (S:St) (hn2:2 ≤ S.next) :
  WC E6 54 [.agg (exC kind pos n name off kv)] S (fun r=>∃ S',r=.ret (Cj (Kr (Cx kids))) S' ∧ Ep S S'):=by
 refine Dt Tryz.f54 (by kernel_rfl) (by kernel_rfl) (by kernel_rfl) (show (_:Nat) ≤ _ from by show (_:Nat) ≤ _; simp [Tryz.f54]) ?_
 obtain ⟨fn1,hf1⟩:=uG
 have g1:=Do S (exC kind pos n name off kv)
 have k1:=Dp S (exC kind pos n name off kv)
 have lt1:S.next < (S.newBox (exC kind pos n name off kv)).next:=Nat.lt_succ_self _
 generalize hS1:S.newBox (exC kind pos n name off kv)=S1 at g1 k1 lt1
 have l5:=P7 g1
 have lk:Je Tryz.prog S1 28 kv=some kids.length:=by
  cases hk with
  | nil=>exact Uo S1
  | row tok o es _ hf=>rw [Ty]; rw [hf.len]
 simp only [A8,Bj,B3,D3,A6,Bl,A9,Bo,Bn,A4,Bd,Bc,B7,A0,A1,Bm,ofOpt,Be,Nat.reduceLT,Nat.reduceEqDiff,Aa,Ab,Ac,Ae,Ed,Tryz.f54,hS1,Cm,Cn,cO,l5,lk]
 refine WX.mono (xT (kind:=kind) (pos:=pos) (n:=n) (name:=name) (off:=off) (kv:=kv) (kids:=kids) hk (by omega) hok hz S1 S.next lt1 (Nat.le_trans hn2 k1.1) kids.length 0 _ S1 .nils (by omega) (by simp [T.get_set]) (by simp [T.get_set]) (by simp [T.get_set]) (by simp [T.get_set]) g1 (Nat.le_refl _) (.inl ⟨rfl,by simp⟩) (fun _ _=>rfl)) ?_
 rintro _ ⟨t',S',a',rfl,h3,hrow,hkp⟩
 have hj:=P9 (Cx kids)
 simp only [A8,Bj,A6,Ff,Gg,A9,Bo,B6,Bn,A4,Bd,Bc,A0,Bm,Bz,ofOpt,Be,Nat.reduceLT,Aa,Ac,Aj,Ak,h3,hf1]
 refine WC.mono (tR hrow [44,32] (by rw [List.length_map,P8]; exact hlen) (by unfold Kr at hj; omega)) ?_
 rintro _ rfl
 simp only [By,A6,Bl,A9,Bo,Bn,Cz,A4,Bd,Bc,A0,ofOpt,Bi,B0,Bg,Cd,Nat.reduceLT,Nat.reduceEqDiff,Aa,Ab,Ac]
 exact ⟨_,rfl,k1.trans hkp⟩
end Go.Ax
noncomputable section
namespace Go.Ax
open Go.RowKit Go.Proofs
set_option maxRecDepth 100000
set_option maxHeartbeats 4000000 in
theorem pre6a_w (l pre:List UInt8) (S:St):WC E6 122 [Cj l,Cj pre] S (fun r=>r=.ret (.v (.bool (D5 pre l))) S):=by
 refine Dt Tryz.f122 (by kernel_rfl) (by kernel_rfl) (by kernel_rfl) (show (_:Nat) ≤ _ from by show (_:Nat) ≤ _; simp [Tryz.f122]) ?_
 unfold Cj
 by_cases h:(pre.length:Int) ≤ (l.length:Int)
 ·have hs:=sl9_to l pre.length (by omega)
  simp only [A8,Bj,By,Ba,Bq,A9,A7,A5,A4,Bd,Bc,B7,A0,A1,Bm,Bz,ofOpt,Be,Ed,Wc,B5,Bi,B0,Bg,Cd,Eo,Nat.reduceLT,Nat.reduceAdd,Nat.reduceEqDiff,Aa,Ab,Ad,Ae,Af,Ag,Ah,Ai,Al,Am,Ap,Option.toList,Ay,Az,Tryz.f122,Vx,h,hs,Mo,Dg,D5]
 ·have e:D5 pre l=false:=by
   unfold D5
   rw [decide_eq_false_iff_not]; intro hq
   have:=congrArg List.length hq
   simp at this; omega
  simp only [A8,Bj,By,Ba,Bq,A9,C0,A7,A5,A4,Bd,Bc,B7,A0,A1,Bm,ofOpt,Be,Ed,Wc,B5,Bi,B0,Bg,Cd,Eo,Nat.reduceLT,Nat.reduceAdd,Nat.reduceEqDiff,Aa,Ab,Ad,Ae,Af,Ag,Ah,Ai,Am,Aq,Ar,Av,Tryz.f122,Vx,h,Dg,e]
set_option maxHeartbeats 16000000 in
theorem sT (l pre:List UInt8) (S:St):WC E6 85 [Cj l,Cj pre] S (fun r=>r=.ret (.v (.bool (D5 pre l))) S):=by
 refine Dt Tryz.f85 (by kernel_rfl) (by kernel_rfl) (by kernel_rfl) (show (_:Nat) ≤ _ from by show (_:Nat) ≤ _; simp [Tryz.f85]) ?_
 obtain ⟨fn1,hf1⟩:=fn6_122
 simp only [A8,Bj,Ba,Bq,A9,A7,Bb,A5,A4,Bd,Bc,B7,A0,A1,Bm,Bz,ofOpt,Be,Nat.reduceLT,Nat.reduceAdd,Nat.reduceEqDiff,Aa,Ab,Ac,Ae,Aj,Ak,Tryz.f85,hf1]
 refine WC.mono (pre6a_w l pre S) ?_
 rintro _ rfl
 simp only [By,Ba,Bq,A9,A7,A5,Bf,A4,Bd,Bc,A0,A1,ofOpt,Bi,B0,Bg,Cd,Nat.reduceLT,Nat.reduceEqDiff,Aa,Ab,Ad]
theorem fepz (cs:List AV):Cy Tryz.prog 30 (.ep cs) 0=some (.ep cs):=by kernel_rfl
theorem lep3 (S:St) (kind pos:Nat) (n:Int) (name:List UInt8) (off:Bool) (kv:AV):Cv Tryz.prog S 3 (.ep (exC kind pos n name off kv))=some (.v (.int .i64 (kind:Int))):=by simp [Cv,Dc,a3,exC,Du]
theorem idx28z (tok off:Nat) (es:List AV) (h:0 < es.length) (ys:List AV) (hy:es[0]=.agg ys):Eu Tryz.prog 28 (.sl tok off 6 es) (.v (.int .i64 0))=some (.ep ys):=pQ tok off es 0 h ys hy
set_option maxHeartbeats 16000000 in
theorem neg_w {kind pos:Nat} {n:Int} {name:List UInt8} {off:Bool} {kv:AV} {kids:List PE} (hk:RepK kv kids) (hlen:kids.length ≤ 1000000) (hok:∀ e ∈ kids,Sv e) (hz:L7 (Cx kids) ≤ 1000000000) (S:St) (hn2:2 ≤ S.next):WC E6 50 [.agg (exC kind pos n name off kv)] S (fun r=>∃ S',r=.ret (Cj (tD (Cx kids))) S' ∧ Ep S S'):=by
 refine Dt Tryz.f50 (by kernel_rfl) (by kernel_rfl) (by kernel_rfl) (show (_:Nat) ≤ _ from by show (_:Nat) ≤ _; simp [Tryz.f50]) ?_
 obtain ⟨fn1,hf1⟩:=lT
 obtain ⟨fn2,hf2⟩:=fn6_85
 have g1:=Do S (exC kind pos n name off kv)
 have k1:=Dp S (exC kind pos n name off kv)
 have lt1:S.next < (S.newBox (exC kind pos n name off kv)).next:=Nat.lt_succ_self _
 generalize hS1:S.newBox (exC kind pos n name off kv)=S1 at g1 k1 lt1
 have l0:Cv Tryz.prog S1 30 (.ptr S.next 0)=some (.agg (exC kind pos n name off kv)):=ld30 g1 rfl
 simp only [A8,Bj,A6,Bl,A9,Bo,B6,Bn,A4,Bd,Bc,B7,A0,A1,Bm,Bz,ofOpt,Be,Nat.reduceLT,Nat.reduceEqDiff,Aa,Ab,Ac,Ae,Aj,Ak,Ed,hf1,hS1,Cm,Cn,Tryz.f50,l0]
 have hkw:=Mb (kind:=kind) (pos:=pos) (n:=n) (name:=name) (off:=off) hk (by omega) 0 8 hok hz S1 (Nat.le_trans hn2 k1.1)
 refine WC.mono hkw ?_
 rintro _ ⟨S2,rfl,k2⟩
 have g2:S2.mem.get S.next=some (.box (exC kind pos n name off kv)):=(k2.2 _ lt1).trans g1
 have l5:=P7 g2
 have hs:=Sa (Cx kids) 0 8
 have eN:tD (Cx kids)=if (∃ k,(Cx kids)[0]? = some k ∧ k.kind=1) ∨ D5 [45] (kT (Cx kids) 0 8)=true then ([45,40] ++ kT (Cx kids) 0 8) ++ [41] else [45] ++ kT (Cx kids) 0 8:=rfl
 rw [eN]
 generalize hs8:kT (Cx kids) 0 8=s8 at *
 have q4:=D7 [45,40] s8 (by simp; omega)
 have q5:=D7 ([45,40] ++ s8) [41] (by simp; omega)
 have q6:=D7 [45] s8 (by simp; omega)
 have fin:∀ (b:Bool),((∃ k,(Cx kids)[0]? = some k ∧ k.kind=1) ∨ b=true) → b=true ∨ ∃ k,(Cx kids)[0]? = some k ∧ k.kind=1:=fun b h=>h.symm
 cases hk with
 | nil =>
  have no:¬ ∃ k,(Cx [])[0]? = some k ∧ k.kind=1:=by rintro ⟨k,h,_⟩; cases h
  have hd:decide ((0:Int) > 0)=false:=rfl
  have hd':decide (((0:Nat):Int) > 0)=false:=rfl
  simp only [A8,Bj,A6,Bl,A9,C0,Bo,B6,Bn,Cz,A4,Bd,Bc,A0,A1,Bm,Bz,ofOpt,Be,B5,Dr,Nat.reduceLT,Nat.reduceEqDiff,Aa,Ab,Ac,Af,Ag,Ah,Ai,Aj,Ak,Al,Am,Ar,Av,Ed,Wc,hf2,cO,l5,Uo,hd',Cj]
  refine WC.mono (sT s8 [45] S2) ?_
  rintro _ rfl
  cases hp:D5 [45] s8 with
  | true =>
   simp only [Br,A8,Bj,Bp,By,A6,Cb,Bl,A9,Bo,Bn,Cz,C6,A4,Bd,Bc,A0,A1,ofOpt,Be,Bi,B0,Bg,Cd,Nat.reduceLT,Nat.reduceEqDiff,Aa,Ab,Ac,Am,Ed,Wc,Dg,q4,q5]
   exact ⟨_,by rw [if_pos (.inr trivial)],k1.trans k2⟩
  | false =>
   simp only [Br,A8,Bj,Bp,By,A6,Bl,A9,Bo,Bn,Cz,Dh,A4,Bd,Bc,A0,A1,ofOpt,Be,Bi,B0,Bg,Cd,Nat.reduceLT,Nat.reduceEqDiff,Aa,Ab,Ac,Am,Ed,Wc,Dg,q6]
   exact ⟨_,by rw [if_neg (fun h=>by rcases h with h | h; exact no h; cases h)],k1.trans k2⟩
 | row tok o es _ hf =>
  have hl:=hf.len
  cases hf with
  | nil =>
   have no:¬ ∃ k,(Cx [])[0]? = some k ∧ k.kind=1:=by rintro ⟨k,h,_⟩; cases h
   have hd:decide ((([]:List AV).length:Int) > 0)=false:=rfl
   simp only [A8,Bj,A6,Bl,A9,C0,Bo,B6,Bn,Cz,A4,Bd,Bc,A0,A1,Bm,Bz,ofOpt,Be,B5,Dr,Nat.reduceLT,Nat.reduceEqDiff,Aa,Ab,Ac,Af,Ag,Ah,Ai,Aj,Ak,Al,Am,Ar,Av,Ed,Wc,hf2,cO,l5,Ty,hd,Cj]
   refine WC.mono (sT s8 [45] S2) ?_
   rintro _ rfl
   cases hp:D5 [45] s8 with
   | true =>
    simp only [Br,A8,Bj,Bp,By,A6,Cb,Bl,A9,Bo,Bn,Cz,C6,A4,Bd,Bc,A0,A1,ofOpt,Be,Bi,B0,Bg,Cd,Nat.reduceLT,Nat.reduceEqDiff,Aa,Ab,Ac,Am,Ed,Wc,Dg,q4,q5]
    exact ⟨_,by rw [if_pos (.inr trivial)],k1.trans k2⟩
   | false =>
    simp only [Br,A8,Bj,Bp,By,A6,Bl,A9,Bo,Bn,Cz,Dh,A4,Bd,Bc,A0,A1,ofOpt,Be,Bi,B0,Bg,Cd,Nat.reduceLT,Nat.reduceEqDiff,Aa,Ab,Ac,Am,Ed,Wc,Dg,q6]
    exact ⟨_,by rw [if_neg (fun h=>by rcases h with h | h; exact no h; cases h)],k1.trans k2⟩
  | cons a e r l h h2 =>
   cases h with
   | mk kd ps nn nm of kv2 ks2 hk2 =>
   have hd:decide ((((AV.agg (exC kd ps nn nm of kv2)) :: r).length:Int) > 0)=true:=decide_eq_true (by simp only [List.length_cons]; omega)
   have q1:=idx28z tok o (AV.agg (exC kd ps nn nm of kv2) :: r) (by simp) (exC kd ps nn nm of kv2) rfl
   have q2:=lep3 S2 kd ps nn nm of kv2
   have ek:(∃ k,(Cx (.mk kd ps nn nm of ks2 :: l))[0]? = some k ∧ k.kind=1) ↔ kd=1:=⟨fun ⟨k,h,h1⟩=>by
    have:k=⟨Fz (.mk kd ps nn nm of ks2),Ea (.mk kd ps nn nm of ks2),kd⟩:=by injection h with h; exact h.symm
    subst this; exact h1,fun h=>⟨_,rfl,h⟩⟩
   by_cases h1:kd=1
   ·subst h1
    have e1:(((1:Nat):Int) == 1)=true:=rfl
    simp only [Br,A8,Bj,Bp,By,A6,Cb,Bl,A9,C0,Bo,Bn,Cz,C6,A4,Bd,Bc,A0,A1,Bm,Bz,ofOpt,Be,B5,Bi,B0,Bg,Cd,Dr,Ci,Nat.reduceLT,Nat.reduceEqDiff,Aa,Ab,Ac,Af,Ag,Ah,Ai,Aj,Ak,Al,Am,Aw,Ed,Wc,Dg,hf2,cO,l5,Ty,hd,q1,fepz,q2,e1,q4,q5,Cj]
    exact ⟨_,by rw [if_pos (.inl (ek.2 rfl))],k1.trans k2⟩
   ·have e1:((kd:Int) == 1)=false:=by rw [beq_eq_false_iff_ne]; omega
    simp only [A8,Bj,A6,Bl,A9,Bo,B6,Bn,Cz,A4,Bd,Bc,A0,A1,Bm,Bz,ofOpt,Be,B5,Dr,Ci,Nat.reduceLT,Nat.reduceEqDiff,Aa,Ab,Ac,Af,Ag,Ah,Ai,Aj,Ak,Al,Am,Ed,hf2,cO,l5,Ty,hd,q1,fepz,q2,e1,Cj]
    refine WC.mono (sT s8 [45] S2) ?_
    rintro _ rfl
    cases hp:D5 [45] s8 with
    | true =>
     simp only [Br,A8,Bj,Bp,By,A6,Cb,Bl,A9,Bo,Bn,Cz,C6,A4,Bd,Bc,A0,A1,ofOpt,Be,Bi,B0,Bg,Cd,Nat.reduceLT,Nat.reduceEqDiff,Aa,Ab,Ac,Am,Ed,Wc,Dg,q4,q5]
     exact ⟨_,by rw [if_pos (.inr trivial)],k1.trans k2⟩
    | false =>
     simp only [Br,A8,Bj,Bp,By,A6,Bl,A9,Bo,Bn,Cz,Dh,A4,Bd,Bc,A0,A1,ofOpt,Be,Bi,B0,Bg,Cd,Nat.reduceLT,Nat.reduceEqDiff,Aa,Ab,Ac,Am,Ed,Wc,Dg,q6]
     exact ⟨_,by rw [if_neg (fun h=>by rcases h with h | h; exact h1 (ek.1 h); cases h)],k1.trans k2⟩
set_option maxHeartbeats 16000000 in
theorem await_w {kind pos:Nat} {n:Int} {name:List UInt8} {off:Bool} {kv:AV} {kids:List PE} (hk:RepK kv kids) (hlen:kids.length ≤ 1000000) (hok:∀ e ∈ kids,Sv e) (hz:L7 (Cx kids) ≤ 1000000000) (hnm:name.length ≤ 30) (S:St) (hn2:2 ≤ S.next):WC E6 55 [.agg (exC kind pos n name off kv)] S (fun r=>∃ S',r=.ret (Cj (mK name (Cx kids))) S' ∧ Ep S S'):=by
 refine Dt Tryz.f55 (by kernel_rfl) (by kernel_rfl) (by kernel_rfl) (show (_:Nat) ≤ _ from by show (_:Nat) ≤ _; simp [Tryz.f55]) ?_
 obtain ⟨fn1,hf1⟩:=fn6_54
 have g1:=Do S (exC kind pos n name off kv)
 have k1:=Dp S (exC kind pos n name off kv)
 have lt1:S.next < (S.newBox (exC kind pos n name off kv)).next:=Nat.lt_succ_self _
 generalize hS1:S.newBox (exC kind pos n name off kv)=S1 at g1 k1 lt1
 have l0:Cv Tryz.prog S1 30 (.ptr S.next 0)=some (.agg (exC kind pos n name off kv)):=ld30 g1 rfl
 have l3:=Io g1
 have l5:=P7 g1
 have lk:Je Tryz.prog S1 28 kv=some kids.length:=by
  cases hk with
  | nil=>exact Uo S1
  | row tok o es _ hf=>rw [Ty]; rw [hf.len]
 have hj:=P9 (Cx kids)
 have q1:=D7 [97,119,97,105,116,32] name (by simp; omega)
 have q2:=D7 [32,97,102,116,101,114,32,40] (Kr (Cx kids)) (by simp; omega)
 have q3:=D7 ([32,97,102,116,101,114,32,40] ++ Kr (Cx kids)) [41] (by simp; omega)
 have q4:=D7 ([97,119,97,105,116,32] ++ name) (([32,97,102,116,101,114,32,40] ++ Kr (Cx kids)) ++ [41]) (by simp; omega)
 unfold mK
 by_cases h0:0 < kids.length
 ·have hd:decide ((kids.length:Int) > 0)=true:=decide_eq_true (by omega)
  simp only [Br,A8,Bj,Bp,By,A6,Bl,A9,Bo,B6,Bn,C6,A4,Bd,Bc,B7,A0,A1,Bm,Bz,ofOpt,Be,B5,Bi,B0,Bg,Cd,Dr,Nat.reduceLT,Nat.reduceEqDiff,Aa,Ab,Ac,Ae,Aj,Ak,Am,Ed,Dg,hf1,hS1,Cm,Cn,fe3,cO,Tryz.f55,l0,l3,l5,lk,hd,q1]
  refine WC.mono (cE (kind:=kind) (pos:=pos) (n:=n) (name:=name) (off:=off) hk hlen hok hz S1 (Nat.le_trans hn2 k1.1)) ?_
  rintro _ ⟨S2,rfl,k2⟩
  simp only [A8,Bj,By,A6,Bl,A9,Bo,Bn,Cz,A4,Bd,Bc,A0,A1,ofOpt,Be,Bi,B0,Bg,Cd,Nat.reduceLT,Nat.reduceEqDiff,Aa,Ab,Ac,Am,Ed,Dg,q2,q3,q4,Cj]
  exact ⟨_,by rw [if_pos (by rw [P8]; exact h0)],k1.trans k2⟩
 ·have hd:decide ((kids.length:Int) > 0)=false:=decide_eq_false (by omega)
  simp only [Br,A8,Bj,Bp,By,A6,Bl,A9,Bo,B6,Bn,Dh,A4,Bd,Bc,B7,A0,A1,Bm,Bz,ofOpt,Be,B5,Bi,B0,Bg,Cd,Dr,Nat.reduceLT,Nat.reduceEqDiff,Aa,Ab,Ac,Ae,Aj,Ak,Am,Ed,Dg,hf1,hS1,Cm,Cn,fe3,cO,Tryz.f55,l0,l3,l5,lk,hd,q1]
  exact ⟨_,by rw [if_neg (by rw [P8]; exact h0)]; rfl,k1⟩
set_option maxHeartbeats 16000000 in
theorem bin6_w {kind pos:Nat} {n:Int} {name:List UInt8} {off:Bool} {kv:AV} {kids:List PE} (hk:RepK kv kids) (hlen:kids.length ≤ 1000000) (hok:∀ e ∈ kids,Sv e) (hz:L7 (Cx kids) ≤ 1000000000) (hnm:name.length ≤ 30) (S:St) (hn2:2 ≤ S.next):WC E6 52 [.agg (exC kind pos n name off kv)] S (fun r=>∃ S',r=.ret (Cj (binT name (Cx kids))) S' ∧ Ep S S'):=by
 refine Dt Tryz.f52 (by kernel_rfl) (by kernel_rfl) (by kernel_rfl) (show (_:Nat) ≤ _ from by show (_:Nat) ≤ _; simp [Tryz.f52]) ?_
 obtain ⟨fn1,hf1⟩:=lT
 obtain ⟨fn2,hf2⟩:=fn6_87
 have g1:=Do S (exC kind pos n name off kv)
 have k1:=Dp S (exC kind pos n name off kv)
 have lt1:S.next < (S.newBox (exC kind pos n name off kv)).next:=Nat.lt_succ_self _
 generalize hS1:S.newBox (exC kind pos n name off kv)=S1 at g1 k1 lt1
 have l0:Cv Tryz.prog S1 30 (.ptr S.next 0)=some (.agg (exC kind pos n name off kv)):=ld30 g1 rfl
 have l3:=Io g1
 have rf:N0 (exC kind pos n name off kv) (exC kind pos n name off kv)=true:=dK (.mk kind pos n name off kv kids hk)
 have rf2:Hi (.agg (exC kind pos n name off kv)) (.agg (exC kind pos n name off kv))=true:=(RepE.mk kind pos n name off kv kids hk).refl
 have hsB:H6 name ≤ 7:=by unfold H6; split; omega; split; omega; split; omega; split <;> omega
 simp only [A8,Bj,A6,Bl,A9,Bo,B6,Bn,A4,Bd,Bc,B7,A0,A1,Bm,Bz,ofOpt,Be,Nat.reduceLT,Nat.reduceEqDiff,Aa,Ab,Ac,Ae,Aj,Ak,Ed,hf2,hS1,Cm,Cn,fe3,Tryz.f52,l3]
 refine WC.mono (wF name S1) ?_
 rintro _ rfl
 generalize hO:H6 name=own at hsB
 have hb2:=Xl (Cx kids) (if own=5 then 6 else own) (own + 1)
 have eB:binT name (Cx kids)=(((kT (Cx kids) 0 (if own=5 then 6 else own) ++ [32]) ++ name) ++ [32]) ++ kT (Cx kids) 1 (own + 1):=by unfold binT; rw [hO]
 rw [eB]
 generalize hA:kT (Cx kids) 0 (if own=5 then 6 else own)=sA at hb2
 generalize hB:kT (Cx kids) 1 (own + 1)=sB at hb2
 have q1:=D7 sA [32] (by simp; omega)
 have q2:=D7 (sA ++ [32]) name (by simp; omega)
 have q3:=D7 ((sA ++ [32]) ++ name) [32] (by simp; omega)
 have q4:=D7 (((sA ++ [32]) ++ name) ++ [32]) sB (by simp; omega)
 have w1:IntKind.i64.wrap ((own:Int) + 1)=((own + 1:Nat):Int):=I1 (j:=1) (by omega)
 by_cases h5:own=5
 ·have e5:((own:Int) == 5)=true:=by rw [h5]; rfl
  have hA':kT (Cx kids) 0 (own + 1)=sA:=by rw [← hA,if_pos h5,h5]
  simp only [Br,A8,Cu,Bj,Bp,A6,Bl,A9,Bo,Bn,Cz,C6,A4,Bd,Bc,A0,A1,ofOpt,Be,B5,Dv,Ci,Nat.reduceLT,Nat.reduceEqDiff,Aa,Ab,Ac,Am,Ed,e5,w1,Du]
  refine Jj [(0,true),(1,true),(4,true),(5,true),(8,true),(9,true),(10,true),(2,true),(8,false),(5,false),(3,true),(6,true),(7,true),(11,true),(5,false),(12,true),(13,true)] (by kernel_rfl) (by kernel_rfl) ?_
  simp only [A4,Bd,Bc,A0,A1,Bm,Bz,ofOpt,Be,B5,Dv,Nat.reduceLT,Nat.reduceEqDiff,Aa,Ab,Ac,Af,Ag,Ah,Aj,Ak,Am,Ed,hf1,fe3,l0,l3,w1,Dz,Eg,E5,D0,Hs]
  have hkw:=Mb (kind:=kind) (pos:=pos) (n:=n) (name:=name) (off:=off) hk (by omega) 0 (own + 1) hok hz S1 (Nat.le_trans hn2 k1.1)
  refine WC.mono hkw ?_
  rintro _ ⟨S2,rfl,k2⟩
  rw [hA']
  have g2:S2.mem.get S.next=some (.box (exC kind pos n name off kv)):=(k2.2 _ lt1).trans g1
  have m0:Cv Tryz.prog S2 30 (.ptr S.next 0)=some (.agg (exC kind pos n name off kv)):=ld30 g2 rfl
  have m3:=Io g2
  simp only [A4,Bd,Bc,A0,A1,Bm,Bz,ofOpt,Be,Nat.reduceLT,Nat.reduceEqDiff,Aa,Ab,Ac,Aj,Ak,Am,Ed,Dg,hf1,m0,m3,Cj,rf2,q1,q2,q3,Dz,L5,Eg,E5,D0,Fy,Dy,Ei,Kd]
  have hkw:=Mb (kind:=kind) (pos:=pos) (n:=n) (name:=name) (off:=off) hk (by omega) 1 (own + 1) hok hz S2 (by have:=k1.1; have:=k2.1; omega)
  refine WC.mono hkw ?_
  rintro _ ⟨S3,rfl,k3⟩
  rw [hB]
  have n3:=Io ((k3.2 _ (Nat.lt_of_lt_of_le lt1 k2.1)).trans g2)
  simp only [By,A6,A4,Bd,Bc,A0,A1,ofOpt,Bi,B0,Bg,Cd,Nat.reduceLT,Nat.reduceEqDiff,Aa,Ab,Ac,Am,Ed,Dg,n3,Cj,q4,Fw,Dz,L5,Eg,D0,Fy,Gy,Dy,Ei,Kd]
  exact ⟨_,rfl,(k1.trans k2).trans k3⟩
 ·have e5:((own:Int) == 5)=false:=by rw [beq_eq_false_iff_ne]; omega
  have hA':kT (Cx kids) 0 own=sA:=by rw [← hA,if_neg h5]
  simp only [Br,A8,Cu,Bj,Bp,A6,Bl,A9,Bo,Bn,Cz,Dh,A4,Bd,Bc,A0,A1,ofOpt,Be,B5,Dv,Ci,Nat.reduceLT,Nat.reduceEqDiff,Aa,Ab,Ac,Am,Ed,e5,w1,Du]
  refine Jj [(0,true),(1,true),(4,true),(5,true),(8,true),(9,true),(10,true),(2,true),(8,false),(5,false),(3,true),(6,true),(7,true),(11,true),(5,false),(12,true),(13,true)] (by kernel_rfl) (by kernel_rfl) ?_
  simp only [A4,Bd,Bc,A0,A1,Bm,Bz,ofOpt,Be,B5,Dv,Nat.reduceLT,Nat.reduceEqDiff,Aa,Ab,Ac,Af,Ag,Ah,Aj,Ak,Am,Ed,hf1,fe3,l0,l3,w1,Dz,Eg,E5,D0,Hs]
  have hkw:=Mb (kind:=kind) (pos:=pos) (n:=n) (name:=name) (off:=off) hk (by omega) 0 own hok hz S1 (Nat.le_trans hn2 k1.1)
  refine WC.mono hkw ?_
  rintro _ ⟨S2,rfl,k2⟩
  rw [hA']
  have g2:S2.mem.get S.next=some (.box (exC kind pos n name off kv)):=(k2.2 _ lt1).trans g1
  have m0:Cv Tryz.prog S2 30 (.ptr S.next 0)=some (.agg (exC kind pos n name off kv)):=ld30 g2 rfl
  have m3:=Io g2
  simp only [A4,Bd,Bc,A0,A1,Bm,Bz,ofOpt,Be,Nat.reduceLT,Nat.reduceEqDiff,Aa,Ab,Ac,Aj,Ak,Am,Ed,Dg,hf1,m0,m3,Cj,rf2,q1,q2,q3,Dz,L5,Eg,E5,D0,Fy,Dy,Ei,Kd]
  have hkw:=Mb (kind:=kind) (pos:=pos) (n:=n) (name:=name) (off:=off) hk (by omega) 1 (own + 1) hok hz S2 (by have:=k1.1; have:=k2.1; omega)
  refine WC.mono hkw ?_
  rintro _ ⟨S3,rfl,k3⟩
  rw [hB]
  have n3:=Io ((k3.2 _ (Nat.lt_of_lt_of_le lt1 k2.1)).trans g2)
  simp only [By,A6,A4,Bd,Bc,A0,A1,ofOpt,Bi,B0,Bg,Cd,Nat.reduceLT,Nat.reduceEqDiff,Aa,Ab,Ac,Am,Ed,Dg,n3,Cj,q4,Fw,Dz,L5,Eg,D0,Fy,Gy,Dy,Ei,Kd]
  exact ⟨_,rfl,(k1.trans k2).trans k3⟩
end Go.Ax
