/- Ji -/
import Derived.Test.YtjgknelmjdallaaGreatDoorTdG27
import Derived.Test.YtjgknelmjdallaaGreatDoorTdG11
import Derived.Test.YtjgknelmjdallaaGreatDoorTdG24
import Derived.Lib.LaidTab
import Derived.Deep.Strs
import Derived.Deep.Grids
import Derived.Test.YtjgknelmjdallaaGreatDoorTdG25
set_option linter.unusedVariables false
set_option linter.unusedSimpArgs false
set_option maxHeartbeats 16000000
noncomputable section
namespace Go.Ax
open Go.RowKit Go.Proofs
set_option maxRecDepth 100000
theorem aA:∀ (l:List Gd) (a b:Gd),Mv (l ++ [a]) (l ++ [b])=eqG a b
 | [],a,b=>by show (eqG a b && true)=_; rw [Bool.and_true]
 | g :: l,a,b=>by
  show (eqG g g && Mv (l ++ [a]) (l ++ [b]))=_
  rw [aA l a b]
  simp [eqG]
theorem like_mkids {wrong:Int} {i:Nat} {o:Bool} {ks:List PE} (h:LikeL (Zx wrong i o) ks):(((o != decide (wrong=(i:Int)))=true ∧ ∃ p q,ks=[.mk 1 p 0 [] false [],.mk 3 q 0 (tN (i + 1)) false []]) ∨ ((o != decide (wrong=(i:Int)))=false ∧ ∃ p q,ks=[.mk 3 p 0 (tN (i + 1)) false [],.mk 1 q 0 [] false []])):=by
 unfold Zx at h
 split at h
 ·rename_i hc
  obtain ⟨a,r,rfl,h1,h2⟩:=Mz h
  obtain ⟨b,rfl,h3⟩:=Y3 h2
  obtain ⟨p,rfl⟩:=U1 h1
  obtain ⟨q,rfl⟩:=Q2 h3
  exact .inl ⟨hc,p,q,rfl⟩
 ·rename_i hc
  obtain ⟨a,r,rfl,h1,h2⟩:=Mz h
  obtain ⟨b,rfl,h3⟩:=Y3 h2
  obtain ⟨p,rfl⟩:=Q2 h1
  obtain ⟨q,rfl⟩:=U1 h3
  exact .inr ⟨by simpa using hc,p,q,rfl⟩
section
variable {offs:List Bool} (h9:offs.length ≤ 9) {ds:List PD} (hds:∀ n name acc,ofL ds n name acc=ofL (dsK offs) n name acc)
include h9 hds
theorem okC {k:Nat} (hk:k < offs.length):Z1 ds (cN k) (Lr offs (cN k)):=by
 refine ⟨⟨20,true,by rw [hds]; exact clk_c offs h9 k hk⟩,?_⟩
 rw [clkD_c offs k (by omega),gY,List.length_take]; omega
theorem okT {k:Nat} (hk:k ≤ offs.length):Z1 ds (tN k) (Lr offs (tN k)):=by
 refine ⟨⟨20,true,by rw [hds]; exact clk_t offs h9 k hk⟩,?_⟩
 rw [iS offs k (by omega),gY,List.length_take]; omega
theorem okB:Z1 ds [98] (Lr offs [98]):=have _:=h9; ⟨⟨20,true,by rw [hds]; exact clk_b offs⟩,by show 0 ≤ 1000; decide⟩
theorem okY:Z1 ds [121] (Lr offs [121]):=have _:=h9; ⟨⟨20,true,by rw [hds]; exact clk_y offs⟩,by show 0 ≤ 1000; decide⟩
theorem eqs_deep (wrong:Int):∀ (l:List Bool) (i:Nat),l=offs.drop i → i + l.length=offs.length → ∀ (qs:List PQ) (f:Nat × Nat),Each2 Yn (R4 wrong i l) qs → (∀ q ∈ qs,SimKQ ds (Lr offs) q) ∧ Jx (dQ (Lr offs) qs f)=(Jx f && !(decide ((i:Int) ≤ wrong ∧ wrong < (offs.length:Int))))
 | [],i,hd,hi,qs,f,hq=>by
  have hi:i=offs.length:=by simpa using hi
  subst hi
  obtain ⟨q1,q2,rfl,a1,a2⟩:=Sc hq
  obtain ⟨p1,e1,rfl,b1⟩:=Kj a1
  obtain ⟨p2,e2,rfl,b2⟩:=Kj a2
  obtain ⟨p3,rfl⟩:=U1 b1
  obtain ⟨p4,rfl⟩:=Q2 b2
  refine ⟨fun q hq=>?_,?_⟩
  ·simp only [List.mem_cons,List.not_mem_nil,or_false] at hq
   rcases hq with rfl | rfl
   ·exact ⟨⟨_,rfl,okT h9 hds (Nat.le_refl _)⟩,.leaf _ (.num _ _ _ _) (fun e=>by cases e)⟩
   ·exact ⟨⟨_,rfl,okY h9 hds⟩,.leaf _ (.var _ _ _ _ _) (fun _=>okT h9 hds (Nat.zero_le _))⟩
  ·have e0:Lr offs (tN 0)=[]:=by rw [iS offs 0 (by decide),List.take_zero]; rfl
   have ey:Lr offs [121]=[]:=rfl
   show Jx (Hq (!(Mv (Lr offs (tN 0)) (Lr offs [121]))) p4 8 f)=_
   rw [e0,ey,decide_eq_false (by omega)]
   show Jx f=(Jx f && true)
   rw [Bool.and_true]
 | o :: l,i,hd,hi,qs,f,hq=>by
  simp only [List.length_cons] at hi
  have hio:i < offs.length:=by omega
  rw [List.drop_eq_getElem_cons hio] at hd
  injection hd with ho hl
  obtain ⟨q1,r1,rfl,a1,a2⟩:=Oq (a:=(⟨[(cN i,0)],false,if i=0 then Mn [98] else kM true⟩:PQ)) hq
  obtain ⟨q2,r2,rfl,a3,a4⟩:=Oq a2
  obtain ⟨p1,e1,rfl,b1⟩:=Kj a1
  obtain ⟨p2,e2,rfl,b2⟩:=Kj a3
  obtain ⟨p3,ks,rfl,b3⟩:=L7 b2
  have hc1:=okC h9 hds hio
  have ht1:=okT h9 hds (Nat.le_of_lt hio)
  have ht2:=okT h9 hds (k:=i + 1) hio
  have eqct:Lr offs (cN i)=Lr offs (tN i):=by rw [clkD_c offs i (by omega),iS offs i (by omega)]
  have ets:Lr offs (tN (i + 1))=Lr offs (tN i) ++ [(cN i,o)]:=by
   rw [iS offs (i + 1) (by omega),iS offs i (by omega),List.take_succ_eq_append_getElem hio,aQ,List.length_take,Nat.min_eq_left (by omega),Nat.zero_add,ho]
  have first:SimK ds (Lr offs) e1 ∧ ∀ f,exF (Lr offs) e1 (Lr offs (cN i)) f=f:=by
   by_cases hz:i=0
   ·rw [if_pos hz] at b1
    obtain ⟨p4,rfl⟩:=Q2 b1
    refine ⟨.leaf _ (.var _ _ _ _ _) (fun _=>okB h9 hds),fun f=>?_⟩
    subst hz
    have e0:Lr offs (cN 0)=[]:=by rw [clkD_c offs 0 (by decide),List.take_zero]; rfl
    rw [e0]; rfl
   ·rw [if_neg hz] at b1
    obtain ⟨p4,k4,rfl,b4⟩:=L7 (kind:=2) (pos:=0) (n:=1) (name:=[]) (off:=false) (kids:=[]) b1
    obtain rfl:=My b4
    exact ⟨.leaf _ (.tru _ _ _ _) (fun e=>by cases e),fun f=>rfl⟩
  have second:SimK ds (Lr offs) (.mk 12 p3 0 (cN i) false ks) ∧ ∀ f,Jx (exF (Lr offs) (.mk 12 p3 0 (cN i) false ks) (Lr offs (tN i)) f)=(Jx f && !(decide (wrong=(i:Int)))):=by
   rcases like_mkids b3 with ⟨hc,p,q,rfl⟩ | ⟨hc,p,q,rfl⟩
   ·refine ⟨.merge _ _ _ _ _ _ (.num _ _ _ _) (.var _ _ _ _ _) (fun e=>by cases e) (fun _=>ht2) hc1,fun f=>?_⟩
    show Jx (Hq (!(Mv (Lr offs (tN (i + 1))) (Lr offs (tN i) ++ [(cN i,true)]))) q 8 (Hq (!(Mv (Lr offs (cN i)) (Lr offs (tN i)))) p3 8 f))=_
    rw [ets,aA,eqct,V0,Lk _ _ _ (by decide),Lk _ _ _ (by decide)]
    have he:eqG (cN i,o) (cN i,true)=o:=by cases o <;> simp [eqG]
    rw [he]
    generalize decide (wrong=(i:Int))=d at hc ⊢
    cases o <;> cases d <;> simp at hc ⊢
   ·refine ⟨.merge _ _ _ _ _ _ (.var _ _ _ _ _) (.num _ _ _ _) (fun _=>ht2) (fun e=>by cases e) hc1,fun f=>?_⟩
    show Jx (Hq (!(Mv (Lr offs (tN (i + 1))) (Lr offs (tN i) ++ [(cN i,false)]))) p 8 (Hq (!(Mv (Lr offs (cN i)) (Lr offs (tN i)))) p3 8 f))=_
    rw [ets,aA,eqct,V0,Lk _ _ _ (by decide),Lk _ _ _ (by decide)]
    have he:eqG (cN i,o) (cN i,false)=!o:=by cases o <;> simp [eqG]
    rw [he]
    generalize decide (wrong=(i:Int))=d at hc ⊢
    cases o <;> cases d <;> simp at hc ⊢
  have ih:=fun f=>eqs_deep wrong l (i + 1) hl (by omega) r2 f a4
  refine ⟨fun q hq=>?_,?_⟩
  ·rcases List.mem_cons.1 hq with rfl | hq
   ·exact ⟨⟨_,rfl,hc1⟩,first.1⟩
   ·rcases List.mem_cons.1 hq with rfl | hq
    ·exact ⟨⟨_,rfl,ht1⟩,second.1⟩
    ·exact (ih f).1 q hq
  ·show Jx (dQ (Lr offs) r2 (exF (Lr offs) (.mk 12 p3 0 (cN i) false ks) (Lr offs (tN i)) (exF (Lr offs) e1 (Lr offs (cN i)) f)))=_
   rw [(ih _).2,second.2,first.2,Bool.and_assoc]
   congr 1
   by_cases h1:wrong=(i:Int)
   ·rw [decide_eq_true h1,decide_eq_true (show (i:Int) ≤ wrong ∧ wrong < (offs.length:Int) by omega)]; rfl
   ·rw [decide_eq_false h1]
    by_cases h2:(i:Int) ≤ wrong ∧ wrong < (offs.length:Int)
    ·rw [decide_eq_true h2,decide_eq_true (by omega)]; rfl
    ·rw [decide_eq_false h2,decide_eq_false (by omega)]; rfl
end
theorem qR {clk:List UInt8 → List Gd} (e:PE) (c:List Gd) {f:Nat × Nat} (h:FZ f):FZ (jV clk e c f):=by
 cases e with
 | mk kind pos n name off kids =>
  show FZ (if kind=3 then Hq (!(Mv (clk name) c)) pos 8 f else f)
  split
  ·exact h.tell _ _ _ (by decide)
  ·exact h
theorem fz_exK {clk:List UInt8 → List Gd} (e:PE) (c:List Gd) {f:Nat × Nat} (h:FZ f):FZ (exF clk e c f):=by
 cases e with
 | mk kind pos n name off kids =>
  simp only [exF]
  split
  ·split
   ·exact qR _ _ (qR _ _ (h.tell _ _ _ (by decide)))
   ·exact h
  ·exact qR _ _ h
theorem fz_eqsK {clk:List UInt8 → List Gd}:∀ (l:List PQ) (f:Nat × Nat),FZ f → FZ (dQ clk l f)
 | [],f,h=>h
 | q :: l,f,h=>by
  refine fz_eqsK l _ ?_
  unfold eqKF
  split
  ·exact fz_exK _ _ h
  ·exact h
def CheckKd (offs:List Bool) (wrong:Int):Prop:=∀ (ms:List PN) (v:AV) (S:St),Each2 Lo [wW offs wrong] ms → Oj v ms → WC E11 33 [v] S (fun r=>∃ (a e:Nat) (S':St),r=.ret (.agg (Ds a e)) S' ∧ ((((a:Int) == 0) && (((e:Int) == 0) && true)))=!(decide (0 ≤ wrong ∧ wrong < (offs.length:Int))))
theorem vO:∀ (l:List Bool) (i:Nat) (w:List UInt8 × Bool) (d:PD),d ∈ Ju i w l → (∃ k,k < l.length ∧ d.name=cN (i + k)) ∨ (∃ k,k ≤ l.length ∧ d.name=tN (i + k))
 | [],i,w,d,h=>by
  obtain rfl:=List.mem_singleton.1 h
  exact .inr ⟨0,Nat.le_refl _,rfl⟩
 | o :: l,i,w,d,h=>by
  rcases List.mem_cons.1 h with rfl | h
  ·exact .inl ⟨0,Nat.succ_pos _,rfl⟩
  ·rcases List.mem_cons.1 h with rfl | h
   ·exact .inr ⟨0,Nat.zero_le _,rfl⟩
   ·rcases vO l (i + 1) _ d h with ⟨k,h1,h2⟩ | ⟨k,h1,h2⟩
    ·exact .inl ⟨k + 1,by simp only [List.length_cons]; omega,by rw [h2,show i + 1 + k=i + (k + 1) by omega]⟩
    ·exact .inr ⟨k + 1,by simp only [List.length_cons]; omega,by rw [h2,show i + 1 + k=i + (k + 1) by omega]⟩
theorem wU {α β:Type} {R:α → β → Prop}:∀ {l:List α} {m:List β},Each2 R l m → ∀ b ∈ m,∃ a ∈ l,R a b
 | _,_,.cons a b l m h h2,x,hx=>by
  rcases List.mem_cons.1 hx with rfl | hx
  ·exact ⟨a,List.mem_cons_self ..,h⟩
  ·obtain ⟨y,h3,h4⟩:=wU h2 x hx
   exact ⟨y,List.mem_cons_of_mem _ h3,h4⟩
theorem tG {es:List AV} {f:PN} (h:NodeRows es [f]):∃ v,es=[v] ∧ Gr v f:=by
 cases h with
 | cons a _ r _ h1 h2=>cases h2; exact ⟨a,rfl,h1⟩
theorem checkKd (offs:List Bool) (h9:offs.length ≤ 9) (wrong:Int):CheckKd offs wrong:=by
 intro ms v S hl hp
 obtain ⟨nd,rfl,hn⟩:=Jz hl
 obtain ⟨tok,off,es,hv,hes⟩:=hp
 obtain ⟨w,rfl,hw⟩:=tG hes
 obtain ⟨h1,h2,h3,h4,h5⟩:=hn
 have hall:Each2 Md (dsK offs) (Kq nd):=iJ (iJ h2 h3) h4
 have hds:∀ n name acc,ofL (Kq nd) n name acc=ofL (dsK offs) n name acc:=fun n name acc=>ofL_like hall n name acc
 have l2:=Sd h2
 have l3:=Sd h3
 have l4:=Sd h4
 have l5:=Sd h5
 have lv:=fJ offs 0 ([],false)
 have l2:1=nd.ins.length:=l2
 have l3:1=nd.outs.length:=l3
 have l4:(Ju 0 ([],false) offs).length=nd.vars.length:=l4
 obtain ⟨hsim,hfine⟩:=eqs_deep h9 hds wrong offs 0 rfl (Nat.zero_add _) nd.eqs (0,0) h5
 have hlq:nd.eqs.length ≤ 1000000:=by
  have:∀ (l:List Bool) (i:Nat),(R4 wrong i l).length=2 * l.length + 2:=by
   intro l
   induction l with
   | nil=>intro i; rfl
   | cons o l ih=>intro i; show (R4 wrong (i + 1) l).length + 1 + 1=_; rw [ih]; simp only [List.length_cons]; omega
  have e:=this offs 0
  have l5:(R4 wrong 0 offs).length=nd.eqs.length:=l5
  omega
 have hof:∀ d ∈ nd.vars,∃ n l,ofL (Kq nd) n d.name []=some (l,true):=fun d hd=>by
  obtain ⟨d0,m0,k0⟩:=wU h4 d hd
  have hname:d0.name=d.name:=k0.1
  rcases vO offs 0 _ d0 m0 with ⟨k,k1,k2⟩ | ⟨k,k1,k2⟩
  ·exact ⟨20,_,by rw [hds,← hname,k2,Nat.zero_add]; exact clk_c offs h9 k k1⟩
  ·exact ⟨20,_,by rw [hds,← hname,k2,Nat.zero_add]; exact clk_t offs h9 k k1⟩
 refine WC.mono (checkK_w hv hw (by omega) hof hsim hlq S) ?_
 rintro _ ⟨S',rfl⟩
 refine ⟨_,_,S',rfl,?_⟩
 rw [fz_test (fz_eqsK _ _ (fun _=>rfl)),hfine]
 rfl
theorem minC_eq (F:Operand → Value) (dst:Option Tmp) (k:Tmp) (c:Int) (ty:TypeId) (pos:String) (af:Array Edge) (gd:Option (Nat × Bool)):execOp F { dst:=dst,op:=.call { callee:=.builtin .min,args:=#[.tmp k,.const (.int .i64 c)],argTypes:=#[3,3] },type:=ty,pos:=pos,after:=af,guard:=gd }=execOp (gQ (F (.tmp k)) (F (.const (.int .i64 c)))) { dst:=none,op:=.call { callee:=.builtin .min,args:=#[.tmp 0,.tmp 1],argTypes:=#[3,3] },type:=ty,pos := "", after:=#[],guard:=none }:=by kernel_rfl
def minCO (r:OR) (S:St) (x:Option AV) (c:Int):OR:=match x with
 | some (.v (.int .i64 a))=>.val (.v (.int .i64 (if c < a then c else a))) S
 | _=>r
theorem dA (r:OR) (S:St) (a c:Int):minCO r S (some (.v (.int .i64 a))) c=.val (.v (.int .i64 (if c < a then c else a))) S:=rfl
theorem Q6 (f:T AV) (S:St) (dst:Option Tmp) (k:Tmp) (c:Int) (ty:TypeId) (pos:String) (af:Array Edge) (gd:Option (Nat × Bool)) :
  ground Tryz.prog G7 f S { dst:=dst,op:=.call { callee:=.builtin .min,args:=#[.tmp k,.const (.int .i64 c)],argTypes:=#[3,3] },type:=ty,pos:=pos,after:=af,guard:=gd }=minCO (minZX Tryz.prog G7 f S { dst:=dst,op:=.call { callee:=.builtin .min,args:=#[.tmp k,.const (.int .i64 c)],argTypes:=#[3,3] },type:=ty,pos:=pos,after:=af,guard:=gd }) S (f.get k) c:=by
 unfold minCO
 split
 ·rename_i a h1
  have hg1:Dp G7 f (.tmp k)=some (.int .i64 a):=by unfold Dp; simp only [Ba,h1]; rfl
  have hg2:Dp G7 f (.const (.int .i64 c))=some (.int .i64 c):=rfl
  unfold ground
  have hall:((Op.call { callee:=.builtin .min,args:=#[.tmp k,.const (.int .i64 c)],argTypes:=#[3,3] }:Op).operands.toList.all fun x=>(Dp G7 f x).isSome)=true:=by
   show ([Operand.tmp k,Operand.const (.int .i64 c)].all fun x=>(Dp G7 f x).isSome)=true
   simp only [List.all_cons,List.all_nil,hg1,hg2,Option.isSome_some,Bool.and_self]
  refine (if_pos hall).trans ?_
  rw [minC_eq]
  have e1:(Dp G7 f (.tmp k)).getD undef=.int .i64 a:=by rw [hg1]; rfl
  have e2:(Dp G7 f (.const (.int .i64 c))).getD undef=.int .i64 c:=by rw [hg2]; rfl
  simp only [e1,e2,minZ_val]
  rfl
 ·rfl
def Qq (v:AV) (l:List Bool):Prop:=(v=.nils ∧ l=[]) ∨ ∃ tok off,v=.sl tok off 1 (l.map Rw)
def puI0 (args:List AV):Option AV:=match args with
 | [.v (.string s),.v (.int .i64 10),.v (.int .i64 64)]=>if s.data.toList ≠ [] ∧ s.data.toList.all Zn=true ∧ J6 0 s.data.toList < 18446744073709551616 ∧ s.size ≤ 9223372036854775806 then some (.tup [.v (.int .u64 (J6 0 s.data.toList)),.v .nilIface]) else none
 | _=>none
def E0:Env:={ P:=Tryz.prog,G:=fun _=>none,F:=E1.F,I:=fun k=>Bool.rec (Bool.rec none (some (W4 6)) (Nat.beq k 94)) (some (He puI0)) (Nat.beq k 133),M:=yW }
theorem e0_ok:E0.Ok:=⟨fun k fn h=>Rv.fn k fn h⟩
theorem e0_mix:E0.P.follows .mixedOrders=true:=Rn
theorem puI0_ok:∀ args a,puI0 args=some a → ∀ γ w (vs:List Value),VRL γ w args vs → Calls Tryz.prog 133 vs.toArray w fun e w'=>Below w.heap.size w w' ∧ ∃ v,e=.returned v ∧ ∀ γ w,VR γ w a v:=by
 intro args a h γ w vs hv
 unfold puI0 at h
 split at h
 ·rename_i s
  split at h
  ·rename_i hc
   obtain ⟨h0,h1,h2,h3⟩:=hc
   injection h with h; subst h
   obtain ⟨x,y,z,rfl,hx,hy,hz⟩:=hv.three
   cases hx; cases hy; cases hz
   refine (Tryz.strconv_ParseUint_10_at64_ok s h3 _ (parse_ok h0 h1 h2) w).mono fun e w' he=>⟨?_,_,he.1,fun γ w=>?_⟩
   ·rcases he.2 with rfl | rfl
    ·exact .refl _ _
    ·exact Lib.bytesWorld_below _ _ _
   ·exact .tup _ _ rfl (fun k hk hk'=>by
     match k,hk with
     | 0,_=>exact .v _ rfl
     | 1,_=>exact .v _ rfl)
  ·cases h
 ·cases h
theorem e0_intr:Kw E0:=fun k g hk base w0 args S hne γ w vs hS hg hv=>by
 have hk2:(Bool.rec (Bool.rec none (some (W4 6)) (Nat.beq k 94)) (some (He puI0)) (Nat.beq k 133):Option (List AV → St → R))=some g:=hk
 cases hb:Nat.beq k 133 with
 | false =>
  rw [hb] at hk2
  cases hc:Nat.beq k 94 with
  | false=>rw [hc] at hk2; cases hk2
  | true =>
   rw [hc] at hk2
   injection hk2 with hk2; subst hk2
   have:k=94:=Nat.eq_of_beq_eq_true hc
   subst this
   exact grow_I base w0 args S hne γ w vs hS hv
 | true =>
  rw [hb] at hk2
  injection hk2 with hk2; subst hk2
  have:k=133:=Nat.eq_of_beq_eq_true hb
  subst this
  exact plainI_ok (P:=Tryz.prog) (k:=133) puI0_ok base w0 args S hne γ w vs hS hv
def PowIn (w:World):Prop:=Lib.TabIs Tryz.prog w "internal/strconv.uint64pow10" .u64 Lib.pow10Tab
theorem PowIn.gr {w:World} (h:PowIn w):GR (GhW w) w gF:=by
 unfold PowIn Lib.TabIs World.var? at h
 rw [gPow6] at h
 simp only [Ai] at h
 split at h
 ·rename_i arr T fr ha
  injection h with h
  have hsz:arr.size=20:=by rw [h]; simp [Lib.pow10Tab_length]
  intro g cs hg
  unfold gF at hg
  cases hb:Nat.beq g 0 with
  | false=>rw [hb] at hg; cases hg
  | true =>
   have:g=0:=Nat.eq_of_beq_eq_true hb
   subst this
   rw [hb] at hg
   injection hg with hg; subst hg
   have hcell:∀ k,k < Zk.length → w.cell? ⟨0,0 + k,none⟩=some (arr.getD k undef):=fun k hk=>by
    rw [Uu] at hk
    rw [Nat.zero_add,Mc ha,Array.getElem?_eq_getElem (by omega)]
    simp [Array.getD,show k < arr.size by omega]
   refine ⟨.ep Zk 0 0 (fun k=>arr.getD k undef) (fun k hk=>⟨⟨World.block_lt_of_cell? w _ (hcell k hk),_,hcell k hk⟩,hcell k hk⟩) (fun x hx=>?_) (fun k hk=>?_),fun _=>⟨arr,T,fr,ha,by rw [hsz,Uu]⟩⟩
   ·unfold Zk at hx
    obtain ⟨z,_,rfl⟩:=List.mem_map.1 hx
    rfl
   ·have hk2:=hk
    rw [Uu] at hk2
    have e:arr.getD k undef=.int .u64 (Lib.pow10Tab[k]'(by rw [Lib.pow10Tab_length]; omega)):=by
     rw [h]
     simp [Array.getD,Lib.pow10Tab_length,hk2]
    have e3:Zk[k]=.v (.int .u64 (Lib.pow10Tab[k]'(by rw [Lib.pow10Tab_length]; omega))):=by simp [Zk]
    rw [e]
    have key:∀ a:AV,a=.v (.int .u64 (Lib.pow10Tab[k]'(by rw [Lib.pow10Tab_length]; omega))) → VR (GhW w) w a (.int .u64 (Lib.pow10Tab[k]'(by rw [Lib.pow10Tab_length]; omega))):=fun a h=>h ▸ .v _ rfl
    exact key _ e3
 ·cases h
theorem g7_of {w:World} (h1:RngIn w) (h2:PowIn w):GR (GhW w) w G7:=by
 intro g cs hg
 have hg':=hg
 unfold G7 at hg
 cases hb:Nat.beq g 0 with
 | true =>
  have:g=0:=Nat.eq_of_beq_eq_true hb
  subst this
  exact h2.gr 0 cs hg'
 | false =>
  rw [hb] at hg
  exact h1.gr g cs hg
theorem u9b:Tryz.prog.underlying 9=some .string:=by kernel_rfl
end Go.Ax
noncomputable section
namespace Go.Ax
open Go.RowKit Go.Proofs
set_option maxRecDepth 100000
open Go.WideShapes
theorem off_le {p:Program} {fits:TypeId → Bool}:∀ {d:Nat} {e:TypeId} {count off n:Nat},Go.rowAt p fits d e count off n=true → off ≤ count * p.cellsOf e
 | 0,e,count,off,n,h=>by simp [Go.rowAt] at h
 | d + 1,e,count,off,n,h=>by
  unfold Go.rowAt at h
  simp only at h
  split at h
  ·cases h
  ·rename_i hs
   have hp:0 < p.cellsOf e:=Nat.pos_of_ne_zero hs
   have h1:off / p.cellsOf e ≤ count ∧ (off % p.cellsOf e=0 ∨ off / p.cellsOf e < count):=by
    simp only [Bool.or_eq_true,Bool.and_eq_true,beq_iff_eq,decide_eq_true_eq] at h
    rcases h with ⟨⟨h1,h2⟩,_⟩ | ⟨h1,_⟩
    ·exact ⟨by omega,.inl h1⟩
    ·exact ⟨by omega,.inr h1⟩
   have hdm:=Nat.div_add_mod off (p.cellsOf e)
   have hml:=Nat.mod_lt off hp
   rcases h1 with ⟨h1,h2 | h2⟩
   ·rw [h2,Nat.add_zero] at hdm
    rw [← hdm,Nat.mul_comm]
    exact Nat.mul_le_mul_right _ h1
   ·have h3:(off / p.cellsOf e + 1) * p.cellsOf e ≤ count * p.cellsOf e:=Nat.mul_le_mul_right _ h2
    rw [Nat.add_mul,Nat.one_mul,Nat.mul_comm (off / p.cellsOf e)] at h3
    omega
theorem lies_le {p:Program}:∀ {d:Nat} {e:TypeId} {count off:Nat} {u:TypeId} {n:Nat},liesAt p d e count off u n=true → off ≤ count * p.cellsOf e
 | 0,e,count,off,u,n,h=>by simp [liesAt] at h
 | d + 1,e,count,off,u,n,h=>by
  unfold liesAt at h
  rw [Bool.or_eq_true] at h
  rcases h with h | h
  ·exact off_le h
  ·split at h
   ·exact lies_le h
   ·cases h
theorem has_off {P:Program} {W:World} {base:Nat} {a:Addr} {e:TypeId} {n:Nat} (h:W.has P .any base a e n):∃ b o arr T fr,a=⟨b,o,none⟩ ∧ W.heap[b]? = some (Obj.cells arr T fr) ∧ o ≤ arr.size:=by
 obtain ⟨_,hs,row,cells,h1,h2⟩:=h
 obtain ⟨b,o,spot⟩:=a
 simp only at hs
 subst hs
 simp only [World.shape?] at h1
 split at h1
 ·rename_i c el fr he
  simp only [Option.some.injEq,Prod.mk.injEq] at h1
  obtain ⟨rfl,rfl⟩:=h1
  refine ⟨b,o,c,_,fr,rfl,he,?_⟩
  have:=lies_le h2
  exact Nat.le_trans this (Nat.div_mul_le_self _ _)
 ·cases h1
theorem cell_bound {W:World} {b o:Nat} {arr:Array Value} {T:TypeId} {fr:Nat × Nat} {v:Value} (ha:W.heap[b]? = some (Obj.cells arr T fr)) (h:W.cell? ⟨b,o,none⟩=some v):o < arr.size:=by
 unfold World.cell? at h
 rw [ha] at h
 simp only [Option.isSome_none,Am,Ab] at h
 exact (Array.getElem?_eq_some_iff.1 h).1
theorem row_in {W w1:World} (hb:Below W.heap.size W w1) {b o len cap:Nat} {arr:Array Value} {T:TypeId} {fr:Nat × Nat} (ha:W.heap[b]? = some (Obj.cells arr T fr)) (hz:o + cap ≤ arr.size) (hl:len ≤ cap) (V:Nat → Value) (hsc:∀ i,fS (V i)=true)
  (hcell:∀ i,i < len → W.cell? ⟨b,o + i,none⟩=some (V i)):VR (GhW w1) w1 (.sl 0 0 1 ((List.range len).map fun i=>.v (V i))) (.slice (some ⟨b,o,none⟩) len cap):=by
 have hlt:b < W.heap.size:=(Array.getElem?_eq_some_iff.1 ha).1
 have hk:w1.heap[b]? = W.heap[b]?:=hb.block b hlt
 have hlt1:b < w1.heap.size:=Nat.lt_of_lt_of_le hlt hb.size
 have hc1:∀ i,i < len → w1.cell? ⟨b,o + i,none⟩=some (V i):=fun i hi=>by
  rw [← hcell i hi]
  unfold World.cell?
  simp only [hk]
 have hfl:∀ l:List Nat,Er (l.map fun i=>AV.v (V i))=l.map fun i=>AV.v (V i):=fun l=>by
  induction l with
  | nil=>rfl
  | cons x r ih =>
   show AV.cells (AV.v (V x)) ++ Er (r.map fun i=>AV.v (V i))=_
   rw [ih]; rfl
 have hmain:VR (GhW w1) w1 (.sl 0 0 1 ((List.range len).map fun i=>.v (V i))) (.slice (some ⟨b,o,none⟩) ((List.range len).map fun i=>AV.v (V i)).length cap):=by
  refine .sl 0 0 1 _ b o cap V (by omega) (fun e he=>?_) (fun x hx=>?_) (fun k hk=>?_) (fun k hk=>?_) (fun h=>absurd h (by omega)) (fun h=>absurd h (by omega)) (by simpa using hl) ⟨arr,T,fr,by rw [hk]; exact ha,by simpa using hz⟩
  ·obtain ⟨s,_,rfl⟩:=List.mem_map.1 he; rfl
  ·rw [hfl] at hx; obtain ⟨s,_,rfl⟩:=List.mem_map.1 hx; rfl
  ·rw [hfl] at hk
   have hk2:k < len:=by simpa using hk
   exact ⟨⟨hlt1,_,hc1 k hk2⟩,hc1 k hk2⟩
  ·have hk2:k < len:=by rw [hfl] at hk; simpa using hk
   have e1:(Er ((List.range len).map fun i=>AV.v (V i)))[k]=AV.v (V k):=by
    simp only [hfl,List.getElem_map,List.getElem_range]
   rw [e1]
   exact .v _ (hsc k)
 simpa using hmain
def BoolsIn (W:World) (v:Value):Prop:=∃ (l:List Bool) (na:AV),Qq na l ∧ ∀ w1,Below W.heap.size W w1 → VR (GhW w1) w1 na v
theorem c4b:Tryz.prog.cellsOf 4=1:=by kernel_rfl
theorem bools71_in {H:Type} {enc:TypeId × Value → H} {W:World} {base fuel:Nat} {a0:Option Addr} {len cap:Nat} {x:DataW H × List MemPlace} (hok:Value.okWide Tryz.prog W .any base 71 (.slice a0 len cap))
  (hf:DataW.trod enc Tryz.prog W 0 (fun _=>true) true fuel 71 (Value.slice a0 len cap).cells.toList=some x):BoolsIn W (.slice a0 len cap):=by
 rcases Go.Deep.open_bools un71 Tryz.underlying4 c4b hf with ⟨hcs,hx⟩ | ⟨a,len',cap',V,hcs,_,hl,hm,hx,hcell⟩
 ·simp [Value.cells] at hcs
  obtain ⟨rfl,rfl,rfl⟩:=hcs
  exact ⟨[],.nils,.inl ⟨rfl,rfl⟩,fun _ _=>.nils⟩
 ·simp [Value.cells] at hcs
  obtain ⟨rfl,rfl,rfl⟩:=hcs
  simp only [Value.okWide,un71,Cell.okWide,Cell.ok] at hok
  obtain ⟨b,o,arr,T,fr,rfl,ha,ho⟩:=has_off hok.2.2
  have hc:∀ i,i < cap → W.cell? ⟨b,o + i,none⟩=some (.bool (V i)):=fun i hi=>by rw [← Go.WideShapes.add_plain]; exact hcell i hi
  have hsz:o + cap ≤ arr.size:=by
   by_cases h0:cap=0
   ·omega
   ·have:=cell_bound ha (hc (cap - 1) (by omega)); omega
  refine ⟨(List.range len).map V,.sl 0 0 1 ((List.range len).map fun i=>.v (.bool (V i))),.inr ⟨0,0,by simp [Rw,Function.comp_def]⟩,fun w1 hb=>row_in hb ha hsz hl (fun i=>.bool (V i)) (fun _=>rfl) (fun i hi=>hc i (by omega))⟩
end Go.Ax
noncomputable section
namespace Go.Ax
open Go.RowKit Go.Proofs
set_option maxRecDepth 100000
structure FrS (p q o:Nat) (deep:Int) (t:T AV):Prop where
 t1:t.get 1=some (.v (.int .i64 deep))
 t2:t.get 2=some (.ptr p 0)
 t4:t.get 4=some (.ptr q 0)
 t6:t.get 6=some (.ptr o 0)
theorem FrS.same {p q o:Nat} {deep:Int} {t t':T AV} (h:FrS p q o deep t) (h1:t'.get 1=t.get 1) (h2:t'.get 2=t.get 2) (h4:t'.get 4=t.get 4) (h6:t'.get 6=t.get 6):FrS p q o deep t':=⟨h1.trans h.t1,h2.trans h.t2,h4.trans h.t4,h6.trans h.t6⟩
structure Mem3 (S0:St) (p q o lo:Nat) (ys xs:List AV) (S:St):Prop where
 keep:En S0 S
 mp:S.mem.get p=some (.box ys)
 mq:S.mem.get q=some (.box exZ)
 mo:S.mem.get o=some (.box xs)
 ord:2 ≤ S0.next ∧ S0.next ≤ p ∧ S0.next ≤ q ∧ S0.next ≤ o ∧ p < lo ∧ q < lo ∧ o < lo ∧ p ≠ o ∧ q ≠ o ∧ lo ≤ S.next
theorem Mem3.low {S0:St} {p q o lo:Nat} {ys xs:List AV} {S S':St} (h:Mem3 S0 p q o lo ys xs S) (hn:S.next ≤ S'.next) (hm:∀ id,id < lo → S'.mem.get id=S.mem.get id):Mem3 S0 p q o lo ys xs S':=by
 obtain ⟨h1,h2,h3,h4,h5⟩:=h
 exact ⟨⟨Nat.le_trans h1.1 hn,fun id hid=>(hm id (by omega)).trans (h1.2 id hid)⟩,(hm p (by omega)).trans h2,(hm q (by omega)).trans h3,(hm o (by omega)).trans h4,by omega⟩
theorem W8.ext {lo:Nat} {S S':St} {v:AV} {es:List AV} (h:W8 lo S v es) (hn:S.next ≤ S'.next) (hm:∀ id m,id < S.next → S.mem.get id=some (.tip m) → S'.mem.get id=some (.tip m)):W8 lo S' v es:=by
 rcases h with h | ⟨k,h1,h2,h3,h4⟩
 ·exact .inl h
 ·exact .inr ⟨k,h1,hm _ _ h3 h2,by omega,h4⟩
structure AtS (S0:St) (p q o lo:Nat) (ys xs:List AV) (v:AV) (es:List AV) (b:Nat) (zs:List AV) (S:St):Prop where
 m:Mem3 S0 p q o lo ys xs S
 r:W8 lo S v es
 mb:S.mem.get b=some (.box zs)
 hb:lo ≤ b ∧ b < S.next
theorem AtS.put {S0:St} {p q o lo:Nat} {ys xs:List AV} {v:AV} {es:List AV} {b:Nat} {zs:List AV} {S:St} (h:AtS S0 p q o lo ys xs v es b zs S) (zs':List AV):AtS S0 p q o lo ys xs v es b zs' (S.put b zs'):=by
 obtain ⟨h1,h2,h3,h4⟩:=h
 refine ⟨h1.low (Nat.le_refl _) (fun id hid=>Eg (by omega)),h2.ext (Nat.le_refl _) (fun id m hid e=>?_),Ed _ _ _,h4⟩
 by_cases hk:id=b
 ·subst hk; rw [h3] at e; cases e
 ·exact (Eg hk).trans e
theorem AtS.keep {S0:St} {p q o lo:Nat} {ys xs:List AV} {v:AV} {es:List AV} {b:Nat} {zs:List AV} {S S':St} (h:AtS S0 p q o lo ys xs v es b zs S) (k:En S S'):AtS S0 p q o lo ys xs v es b zs S':=by
 obtain ⟨h1,h2,h3,h4⟩:=h
 have:=h1.ord
 exact ⟨h1.low k.1 (fun id hid=>k.2 id (by omega)),h2.ext k.1 (fun id m hid e=>(k.2 id hid).trans e),(k.2 b h4.2).trans h3,h4.1,Nat.lt_of_lt_of_le h4.2 k.1⟩
theorem SomeE.mono {a b:Nat} {e:PE} (h:SomeE a e) (hab:a ≤ b):SomeE b e:=⟨h.good,h.fit,h.few,Nat.le_trans h.size (Nat.pow_le_pow_right (by decide) hab),by have:=h.deep; omega⟩
end Go.Ax
noncomputable section
namespace Go.Ax
open Go.RowKit Go.Proofs
set_option maxRecDepth 100000
end Go.Ax
noncomputable section
namespace Go.Ax
open Go.RowKit Go.Proofs
set_option maxRecDepth 100000
end Go.Ax
noncomputable section
namespace Go.Ax
open Go.RowKit Go.Proofs
set_option maxRecDepth 100000
theorem conv_eq (F:Operand → Value) (dst:Option Tmp) (k:Tmp) (ty:TypeId) (pos:String) (af:Array Edge) (gd:Option (Nat × Bool)):execOp F { dst:=dst,op:=.convert 3 5 (.tmp k),type:=ty,pos:=pos,after:=af,guard:=gd }=execOp (fun _=>F (.tmp k)) { dst:=none,op:=.convert 3 5 (.tmp 0),type:=ty,pos := "", after:=#[],guard:=none }:=by kernel_rfl
theorem conv_val (n:Int) (ty:TypeId):Rr Tryz.prog 4000 (execOp (fun _=>.int .i64 n) { dst:=none,op:=.convert 3 5 (.tmp 0),type:=ty,pos := "", after:=#[],guard:=none })=some (.int .u8 (IntKind.u8.wrap n)):=by kernel_rfl
def convU (r:OR) (S:St) (x:Option AV):OR:=match x with
 | some (.v (.int .i64 n))=>.val (.v (.int .u8 (IntKind.u8.wrap n))) S
 | _=>r
theorem eG (r:OR) (S:St) (n:Int):convU r S (some (.v (.int .i64 n)))=.val (.v (.int .u8 (IntKind.u8.wrap n))) S:=rfl
theorem Q7 (f:T AV) (S:St) (dst:Option Tmp) (k:Tmp) (ty:TypeId) (pos:String) (af:Array Edge) (gd:Option (Nat × Bool)) :
  ground Tryz.prog G7 f S { dst:=dst,op:=.convert 3 5 (.tmp k),type:=ty,pos:=pos,after:=af,guard:=gd }=convU (minZX Tryz.prog G7 f S { dst:=dst,op:=.convert 3 5 (.tmp k),type:=ty,pos:=pos,after:=af,guard:=gd }) S (f.get k):=by
 unfold convU
 split
 ·rename_i n h
  have hg:Dp G7 f (.tmp k)=some (.int .i64 n):=by unfold Dp; simp only [Ba,h]; rfl
  unfold ground
  have hall:((Op.convert 3 5 (.tmp k):Op).operands.toList.all fun x=>(Dp G7 f x).isSome)=true:=by
   show ([Operand.tmp k].all fun x=>(Dp G7 f x).isSome)=true
   simp only [List.all_cons,List.all_nil,hg,Option.isSome_some,Bool.and_self]
  refine (if_pos hall).trans ?_
  rw [conv_eq]
  have e1:(Dp G7 f (.tmp k)).getD undef=.int .i64 n:=by rw [hg]; rfl
  simp only [e1,conv_val]
  rfl
 ·rfl
theorem cv35 (n:Int):Hh Tryz.prog 3 5 (.v (.int .i64 n))=none:=by kernel_rfl
theorem row77 (n:Int):Dw Tryz.prog 77 1 [(0,.v (.int .u8 n))]=some (.sl 1 0 1 [.v (.int .u8 n)]):=by kernel_rfl
theorem qU:∃ fn,E11.F 31=some fn:=Option.isSome_iff_exists.1 (by kernel_rfl)
theorem fnv_32:∃ fn,E11.F 32=some fn:=Option.isSome_iff_exists.1 (by kernel_rfl)
theorem t77_0:Hh Tryz.prog 77 9 (.sl 1 0 1 [.v (.int .u8 (IntKind.u8.wrap (IntKind.i64.wrap (48 + ((0:Nat):Int)))))])=some (.v (.string ⟨⟨[Hk 0]⟩⟩)):=by kernel_rfl
theorem t77_1:Hh Tryz.prog 77 9 (.sl 1 0 1 [.v (.int .u8 (IntKind.u8.wrap (IntKind.i64.wrap (48 + ((1:Nat):Int)))))])=some (.v (.string ⟨⟨[Hk 1]⟩⟩)):=by kernel_rfl
theorem t77_2:Hh Tryz.prog 77 9 (.sl 1 0 1 [.v (.int .u8 (IntKind.u8.wrap (IntKind.i64.wrap (48 + ((2:Nat):Int)))))])=some (.v (.string ⟨⟨[Hk 2]⟩⟩)):=by kernel_rfl
theorem t77_3:Hh Tryz.prog 77 9 (.sl 1 0 1 [.v (.int .u8 (IntKind.u8.wrap (IntKind.i64.wrap (48 + ((3:Nat):Int)))))])=some (.v (.string ⟨⟨[Hk 3]⟩⟩)):=by kernel_rfl
theorem t77_4:Hh Tryz.prog 77 9 (.sl 1 0 1 [.v (.int .u8 (IntKind.u8.wrap (IntKind.i64.wrap (48 + ((4:Nat):Int)))))])=some (.v (.string ⟨⟨[Hk 4]⟩⟩)):=by kernel_rfl
theorem t77_5:Hh Tryz.prog 77 9 (.sl 1 0 1 [.v (.int .u8 (IntKind.u8.wrap (IntKind.i64.wrap (48 + ((5:Nat):Int)))))])=some (.v (.string ⟨⟨[Hk 5]⟩⟩)):=by kernel_rfl
theorem t77_6:Hh Tryz.prog 77 9 (.sl 1 0 1 [.v (.int .u8 (IntKind.u8.wrap (IntKind.i64.wrap (48 + ((6:Nat):Int)))))])=some (.v (.string ⟨⟨[Hk 6]⟩⟩)):=by kernel_rfl
theorem t77_7:Hh Tryz.prog 77 9 (.sl 1 0 1 [.v (.int .u8 (IntKind.u8.wrap (IntKind.i64.wrap (48 + ((7:Nat):Int)))))])=some (.v (.string ⟨⟨[Hk 7]⟩⟩)):=by kernel_rfl
theorem t77_8:Hh Tryz.prog 77 9 (.sl 1 0 1 [.v (.int .u8 (IntKind.u8.wrap (IntKind.i64.wrap (48 + ((8:Nat):Int)))))])=some (.v (.string ⟨⟨[Hk 8]⟩⟩)):=by kernel_rfl
theorem t77_9:Hh Tryz.prog 77 9 (.sl 1 0 1 [.v (.int .u8 (IntKind.u8.wrap (IntKind.i64.wrap (48 + ((9:Nat):Int)))))])=some (.v (.string ⟨⟨[Hk 9]⟩⟩)):=by kernel_rfl
theorem str77k (j:Nat) (h:j < 10):Hh Tryz.prog 77 9 (.sl 1 0 1 [.v (.int .u8 (IntKind.u8.wrap (IntKind.i64.wrap (48 + (j:Int)))))])=some (.v (.string ⟨⟨[Hk j]⟩⟩)):=by
 have hi:j=0 ∨ j=1 ∨ j=2 ∨ j=3 ∨ j=4 ∨ j=5 ∨ j=6 ∨ j=7 ∨ j=8 ∨ j=9:=by omega
 rcases hi with rfl | rfl | rfl | rfl | rfl | rfl | rfl | rfl | rfl | rfl
 ·exact t77_0
 ·exact t77_1
 ·exact t77_2
 ·exact t77_3
 ·exact t77_4
 ·exact t77_5
 ·exact t77_6
 ·exact t77_7
 ·exact t77_8
 ·exact t77_9
theorem mD (p:List UInt8) (hp:p.length ≤ 100) (j:Nat) (h:j < 10) (S:St):WC E11 31 [.v (.string ⟨⟨p⟩⟩),.v (.int .i64 (j:Int))] S (fun r=>r=.ret (.v (.string ⟨⟨p ++ [Hk j]⟩⟩)) S):=by
 refine Dv Tryz.f31 (by kernel_rfl) (by kernel_rfl) (by kernel_rfl) (by show (_:Nat) ≤ _;simp [Tryz.f31]) ?_
 have hs:=str77k j h
 have c1:=Cr p [Hk j] (by simp only [List.length_cons,List.length_nil]; omega)
 simp only [A6,Bk,B1,A4,Be,A7,A9,A8,A5,Bc,Ba,Ce,A0,A1,ofOpt,Bb,Bz,Bs,Bi,B0,Bg,Cs,Dg,Nat.reduceLT,Nat.reduceAdd,Nat.reduceEqDiff,Aa,Ab,Ad,Ae,Am,Fe,Sw,Cy,Tryz.f31,Q7,eG,cv35,row77,hs,c1]
def Zw:AV:=.fn (.func 31) [] []
theorem a39:Fo Tryz.prog 39=some false:=by kernel_rfl
theorem ldc39 (S:St) (p k:Nat):Cd Tryz.prog S 39 (.ptr p k)=W6 (S.mem.get p) k:=dB (by kernel_rfl) S p k
theorem ld71e (S:St) (a:AV):Cd Tryz.prog S 71 (.ep [a])=some a:=by
 have:Fo Tryz.prog 71=some false:=by kernel_rfl
 simp [Cd,D0,this]
theorem ix71r {v:AV} {l:List Bool} (h:Qq v l) (j:Nat) (hj:j < l.length):Cm Tryz.prog 71 v (.v (.int .i64 (j:Int)))=some (.ep [Rw l[j]]):=by
 rcases h with ⟨rfl,rfl⟩ | ⟨tok,off,rfl⟩
 ·cases hj
 ·exact idx71 tok off l j hj
def Wz (w:List UInt8 × Bool):List UInt8:=if w.1=[] then [] else L3 w.1 w.2
theorem clockN_w (na:AV) (q:Nat) (S:St):WC E11 32 [.v (.int .i64 (-1)),.v (.string ⟨⟨[32,119,104,101,110,32]⟩⟩),.ep [na],.ptr q 0] S (fun r=>r=.ret (.v (.string ⟨⟨[]⟩⟩)) S):=by
 refine Dv Tryz.f32 (by kernel_rfl) (by kernel_rfl) (by kernel_rfl) (by show (_:Nat) ≤ _;simp [Tryz.f32]) ?_
 have hlt:((-1:Int) < 0):=by decide
 simp only [Bo,A6,Bk,Bl,B1,A4,B4,Be,A7,A9,A8,B8,A5,Bc,Ba,Ce,A0,A1,ofOpt,Bb,Bs,Bi,B0,Bg,Cs,Cu,Nat.reduceLT,Nat.reduceAdd,Nat.reduceEqDiff,Aa,Ab,Ac,Ad,Ae,Am,Ap,Fe,Tryz.f32,hlt]
theorem clockK_w {na:AV} {all:List Bool} (hn:Qq na all) (q:Nat) (j:Nat) (hj:j < all.length) (h:j < 10) (S:St) (hq:S.mem.get q=some (.box [Zw])):WC E11 32 [.v (.int .i64 (j:Int)),.v (.string ⟨⟨[32,119,104,101,110,32]⟩⟩),.ep [na],.ptr q 0] S (fun r=>r=.ret (.v (.string ⟨⟨L3 (cN j) all[j]⟩⟩)) S):=by
 refine Dv Tryz.f32 (by kernel_rfl) (by kernel_rfl) (by kernel_rfl) (by show (_:Nat) ≤ _;simp [Tryz.f32]) ?_
 obtain ⟨fn1,hf31⟩:=qU
 have hlt:¬ ((j:Int) < 0):=by omega
 have l71:=ld71e S na
 have ix:=ix71r hn j hj
 have lb:=ld4epz S all[j]
 have lf:Cd Tryz.prog S 39 (.ptr q 0)=some (.fn (.func 31) [] []):=by rw [ldc39,hq]; rfl
 have c1:=Cr [32,119,104,101,110,32] [110,111,116,32] (by decide)
 have c2:=Cr ([32,119,104,101,110,32] ++ [110,111,116,32]) (cN j) (by simp [cN])
 have c3:Ej .add (.v (.string ⟨⟨[32,119,104,101,110,32]⟩⟩)) (.v (.string ⟨#[]⟩))=some (.v (.string ⟨⟨[32,119,104,101,110,32] ++ []⟩⟩)):=Cr [32,119,104,101,110,32] [] (by decide)
 have c4:=Cr [32,119,104,101,110,32] (cN j) (by simp [cN])
 have e99:[99] ++ [Hk j]=cN j:=rfl
 unfold Rw at ix lb
 generalize all[j]=o at ix lb
 cases o
 ·simp only [Bo,A6,Bk,Bl,B1,A4,B4,Be,A7,A9,By,A8,B6,A5,Bc,Ba,Ce,A0,A1,Bm,B5,ofOpt,Bb,Bs,Bi,B0,Bg,Cs,Cu,Nat.reduceLT,Nat.reduceAdd,Nat.reduceEqDiff,Aa,Ab,Ac,Ae,Aj,Ak,Am,Aq,Fe,Sw,Cy,Tryz.f32,hlt,l71,ix,lb,lf,hf31,c3]
  refine WC.mono (mD [99] (by decide) j h S) ?_
  rintro _ rfl
  rw [e99]
  simp only [B1,A4,Be,A7,A9,A8,Cj,A5,Bc,Ba,A0,A1,ofOpt,Bi,B0,Bg,Cs,Nat.reduceLT,Nat.reduceEqDiff,Aa,Ab,Ac,Am,Fe,Cy,c4]
  rfl
 ·simp only [Bo,A6,Bk,Bl,B1,A4,B4,Be,A7,A9,By,A8,B8,B6,A5,Bc,Ba,Ce,A0,A1,Bm,B5,ofOpt,Bb,Bs,Bi,B0,Bg,Cs,Cu,Nat.reduceLT,Nat.reduceAdd,Nat.reduceEqDiff,Aa,Ab,Ac,Ae,Aj,Ak,Am,Aq,Fe,Sw,Cy,Tryz.f32,hlt,l71,ix,lb,lf,hf31,c1]
  refine WC.mono (mD [99] (by decide) j h S) ?_
  rintro _ rfl
  rw [e99]
  simp only [B1,A4,Be,A7,A9,A8,Cj,A5,Bc,Ba,A0,A1,ofOpt,Bi,B0,Bg,Cs,Nat.reduceLT,Nat.reduceEqDiff,Aa,Ab,Ac,Am,Fe,Cy,c2]
  rfl
def Qd:Code:=match Tryz.f9.body with
 | some (.seq _ (.seq _ c))=>c
 | _=>.skip
def dkR:Nat → Code:=fun k=>match Qd with
 | .seq a (.seq b (.seq c (.seq d (.seq (.seq e _) (.seq f (.seq (.seq g _) _))))))=>match k with | 3=>a | 4=>b | 5=>c | 6=>d | 7=>e | 14=>f | _=>g
 | _=>.skip
def dkL0:Code:=match Qd with
 | .seq _ (.seq _ (.seq _ (.seq _ (.seq (.seq _ (.block _ (.loop b))) _))))=>b
 | _=>.skip
def dkL2:Code:=match Qd with
 | .seq _ (.seq _ (.seq _ (.seq _ (.seq _ (.seq _ (.seq (.seq _ (.block _ (.loop b))) _))))))=>b
 | _=>.skip
def dkTail:Code:=match Qd with
 | .seq _ (.seq _ (.seq _ (.seq _ (.seq _ (.seq _ (.seq _ c))))))=>c
 | _=>.skip
theorem dkRest_is:Qd=.seq (dkR 3) (.seq (dkR 4) (.seq (dkR 5) (.seq (dkR 6) (.seq (.seq (dkR 7) (.block 0 (.loop dkL0))) (.seq (dkR 14) (.seq (.seq (dkR 15) (.block 2 (.loop dkL2))) dkTail)))))):=by kernel_rfl
def wI (all:List Bool) (i:Nat):List UInt8 × Bool:=if i=0 then ([],false) else (cN (i - 1),all.getD (i - 1) false)
theorem declT_k (n:List UInt8) (b:Bool) (w:List UInt8 × Bool):Gg ⟨n,0,b,false,w.1,w.2⟩=((n ++ [58,32]) ++ Ji b false) ++ Wz w:=by
 unfold Gg Wz
 by_cases h:w.1=[]
 ·rw [if_pos h,if_pos h]; simp
 ·rw [if_neg h,if_neg h]
theorem tU (all:List Bool) (i:Nat):(Wz (wI all i)).length ≤ 12:=by
 unfold Wz wI
 by_cases h:i=0
 ·rw [if_pos h,if_pos rfl]; decide
 ·rw [if_neg h]
  split
  ·decide
  ·exact mY _ _
theorem clockI_w {na:AV} {all:List Bool} (hn:Qq na all) (q:Nat) (i:Nat) (h:i < 10) (hi:i ≤ all.length) (S:St) (hq:S.mem.get q=some (.box [Zw])):WC E11 32 [.v (.int .i64 (IntKind.i64.wrap ((i:Int) - 1))),.v (.string ⟨⟨[32,119,104,101,110,32]⟩⟩),.ep [na],.ptr q 0] S (fun r=>r=.ret (.v (.string ⟨⟨Wz (wI all i)⟩⟩)) S):=by
 cases i with
 | zero=>exact clockN_w na q S
 | succ j =>
  have hw:IntKind.i64.wrap (((j + 1:Nat):Int) - 1)=(j:Int):=by rw [IntKind.wrap_i64]; omega
  rw [hw]
  have e:Wz (wI all (j + 1))=L3 (cN j) all[j]:=by
   unfold Wz wI
   rw [if_neg (Nat.succ_ne_zero j),if_neg (fun e=>by cases e)]
   simp [List.getD_eq_getElem?_getD,List.getElem?_eq_getElem (show j < all.length by omega)]
  rw [e]
  exact clockK_w hn q j (by omega) (by omega) S hq
theorem vars_step (all:List Bool) (n i:Nat) (h:i < n) (hn:n ≤ all.length):Ht (Ju i (wI all i) ((all.take n).drop i))=(((((cN i ++ [58,32,98,111,111,108]) ++ Wz (wI all i)) ++ [59,32]) ++ (((tN i ++ [58,32,105,110,116]) ++ Wz (wI all i)) ++ [59,32]))) ++ Ht (Ju (i + 1) (wI all (i + 1)) ((all.take n).drop (i + 1))):=by
 have hl:(all.take n).length=n:=by rw [List.length_take]; omega
 have hd:(all.take n).drop i=all[i] :: (all.take n).drop (i + 1):=by
  rw [List.drop_eq_getElem_cons (by omega)]
  simp
 have ew:wI all (i + 1)=(cN i,all[i]):=by
  unfold wI
  rw [if_neg (Nat.succ_ne_zero i)]
  simp [List.getD_eq_getElem?_getD,List.getElem?_eq_getElem (show i < all.length by omega)]
 rw [hd,ew]
 show Gg ⟨cN i,0,true,false,(wI all i).1,(wI all i).2⟩ ++ 59 :: 32 :: (Gg ⟨tN i,0,false,false,(wI all i).1,(wI all i).2⟩ ++ 59 :: 32 :: Ht (Ju (i + 1) (cN i,all[i]) ((all.take n).drop (i + 1))))=_
 rw [declT_k,declT_k]
 simp [Ji]
theorem vars_last (all:List Bool) (n:Nat) (hn:n ≤ all.length):Ht (Ju n (wI all n) ((all.take n).drop n))=((tN n ++ [58,32,105,110,116]) ++ Wz (wI all n)) ++ [59,32]:=by
 have hl:(all.take n).length=n:=by rw [List.length_take]; omega
 rw [List.drop_of_length_le (by omega)]
 show Gg ⟨tN n,0,false,false,(wI all n).1,(wI all n).2⟩ ++ 59 :: 32 :: []=_
 rw [declT_k]
 simp [Ji]
def cloK (na:AV) (q:Nat):AV:=.fn (.func 32) [] [.ep [na],.ptr q 0]
theorem nmC (i:Nat) (h:i < 10) (S:St):WC E11 31 [.v (.string ⟨⟨[99]⟩⟩),.v (.int .i64 (i:Int))] S (fun r=>r=.ret (.v (.string ⟨⟨cN i⟩⟩)) S):=mD [99] (by decide) i h S
theorem nmT (i:Nat) (h:i < 10) (S:St):WC E11 31 [.v (.string ⟨⟨[116]⟩⟩),.v (.int .i64 (i:Int))] S (fun r=>r=.ret (.v (.string ⟨⟨tN i⟩⟩)) S):=mD [116] (by decide) i h S
def LoopV (na:AV) (q n:Nat) (wrong:Int) (V:List UInt8) (S:St) (r:O):Prop:=∃ t',r=.out (.exit 0) ⟨t',[]⟩ S ∧ t'.get 1=some (.v (.int .i64 wrong)) ∧ t'.get 2=some (.ep [na]) ∧ t'.get 5=some (.v (.int .i64 (n:Int))) ∧ t'.get 6=some (.ptr q 0) ∧ t'.get 7=some (.v (.string ⟨⟨V⟩⟩)) ∧ t'.get 8=some (.v (.string ⟨#[]⟩))
theorem dk_lp0 {na:AV} {all:List Bool} (hn:Qq na all) (n:Nat) (h9n:n ≤ 9) (hle:n ≤ all.length) (wrong:Int) (q:Nat) (V:List UInt8) (hV:V.length ≤ 1000):∀ (m i:Nat) (t:T AV) (S:St) (X:List UInt8),i + m=n → S.mem.get q=some (.box [Zw]) → t.get 1=some (.v (.int .i64 wrong)) → t.get 2=some (.ep [na]) → t.get 5=some (.v (.int .i64 (n:Int))) → t.get 6=some (.ptr q 0) → t.get 7=some (.v (.string ⟨⟨X⟩⟩)) → t.get 8=some (.v (.string ⟨#[]⟩)) → t.get 9=some (cloK na q) → t.get 24=some (.v (.int .i64 ((n + 1:Nat):Int))) → t.get 25=some (.v (.int .i64 (i:Int))) → X ++ Ht (Ju i (wI all i) ((all.take n).drop i))=V → WX E11 133 (.loop dkL0) ⟨t,[]⟩ S (LoopV na q n wrong V S)
 | 0,i,t,S,X,him,hq,h1,h2,h5,h6,h7,h8,h9,h24,h25,hX=>by
  refine Do (Dh ?_)
  obtain ⟨fn1,hf31⟩:=qU
  obtain ⟨fn2,hf32⟩:=fnv_32
  obtain rfl:i=n:=by omega
  have lf:Cd Tryz.prog S 39 (.ptr q 0)=some (.fn (.func 31) [] []):=by rw [ldc39,hq]; rfl
  rw [vars_last all i hle] at hX
  have hlt:((i:Int) < ((i + 1:Nat):Int)):=by omega
  have hge:¬ ((i:Int) < (i:Int)):=by omega
  have hno:¬ (((i + 1:Nat):Int) < ((i + 1:Nat):Int)):=by omega
  have hw:IntKind.i64.wrap ((i:Int) + 1)=((i + 1:Nat):Int):=by rw [IntKind.wrap_i64]; omega
  have hT:=fun S=>nmT i (by omega) S
  have hK:=fun S hq=>clockI_w hn q i (by omega) hle S hq
  have lK:=tU all i
  have lT:(tN i).length=2:=rfl
  generalize Wz (wI all i)=K at hX hK lK
  generalize tN i=Tn at hX hT lT
  have c47:=Cr Tn [58,32,105,110,116] (by simp only [List.length_cons,List.length_nil]; omega)
  have c52:=Cr (Tn ++ [58,32,105,110,116]) K (by simp only [List.length_append,List.length_cons,List.length_nil]; omega)
  have c53:=Cr ((Tn ++ [58,32,105,110,116]) ++ K) [59,32] (by simp only [List.length_append,List.length_cons,List.length_nil]; omega)
  have c54:=Cr X (((Tn ++ [58,32,105,110,116]) ++ K) ++ [59,32]) (by rw [← List.length_append,hX]; omega)
  rw [hX] at c54
  simp only [Bv,Bo,A6,Bk,Bl,Bq,C1,A4,Ci,Be,A7,A9,By,A8,B8,B6,A5,Bc,Ba,A0,Bm,B5,ofOpt,Bb,Bs,Cu,Nat.reduceLT,Nat.reduceEqDiff,Aa,Ab,Ac,Aj,Ak,Am,Ap,Aq,Fe,dkL0,Qd,Tryz.f9,h5,h6,h7,h24,h25,lf,hf31,hlt,hge]
  refine WC.mono (hT S) ?_
  rintro _ rfl
  simp only [A7,A9,By,A8,Cj,A5,Bc,Ba,A0,Bm,B5,ofOpt,Bb,Bs,Nat.reduceLT,Nat.reduceEqDiff,Aa,Ab,Ac,Aj,Am,Fe,Cy,h9,hf32,cloK,Zd,c47]
  refine WC.mono (hK S hq) ?_
  rintro _ rfl
  simp only [Bw,A6,A4,Bn,Be,A7,A9,A8,Cj,A5,Bc,Ba,A0,ofOpt,Bb,Bs,Dg,Nat.reduceLT,Nat.reduceEqDiff,Aa,Ab,Ac,Am,Fe,Cy,h25,c52,c53,c54,hw]
  refine Do (Dh ?_)
  simp only [Bv,Bo,A6,Bk,Bl,Bq,C1,A4,Ci,Be,A7,A9,By,A8,B6,A5,Bc,Ba,A0,Bm,B5,ofOpt,Bb,Bs,Cu,Nat.reduceLT,Nat.reduceEqDiff,Aa,Ab,Ac,Aj,Ak,Am,Aq,Fe,h5,h6,h7,h24,h25,lf,hf31,hno]
  exact ⟨_,rfl,by simp only [A0,A1,Nat.reduceEqDiff,Aa,Ab,h1],by simp only [A0,A1,Nat.reduceEqDiff,Aa,Ab,h2],by simp only [A0,A1,Nat.reduceEqDiff,Aa,Ab,h5],by simp only [A0,A1,Nat.reduceEqDiff,Aa,Ab,h6],by simp only [A0,A1,Nat.reduceEqDiff,Aa,Ab],by simp only [A0,A1,Nat.reduceEqDiff,Aa,Ab,h8]⟩
 | m + 1,i,t,S,X,him,hq,h1,h2,h5,h6,h7,h8,h9,h24,h25,hX=>by
  refine Do (Dh ?_)
  obtain ⟨fn1,hf31⟩:=qU
  obtain ⟨fn2,hf32⟩:=fnv_32
  have lf:Cd Tryz.prog S 39 (.ptr q 0)=some (.fn (.func 31) [] []):=by rw [ldc39,hq]; rfl
  rw [vars_step all n i (by omega) hle] at hX
  have hlt:((i:Int) < ((n + 1:Nat):Int)):=by omega
  have hlt2:((i:Int) < (n:Int)):=by omega
  have hw:IntKind.i64.wrap ((i:Int) + 1)=((i + 1:Nat):Int):=by rw [IntKind.wrap_i64]; omega
  have hC:=fun S=>nmC i (by omega) S
  have hT:=fun S=>nmT i (by omega) S
  have hK:=fun S hq=>clockI_w hn q i (by omega) (by omega) S hq
  have lK:=tU all i
  have lT:(tN i).length=2:=rfl
  have lC:(cN i).length=2:=rfl
  have lX:X.length ≤ 1000:=by have:=congrArg List.length hX; rw [List.length_append] at this; omega
  have key:=fun t' X'=>dk_lp0 hn n h9n hle wrong q V hV m (i + 1) t' S X' (by omega) hq
  generalize Ht (Ju (i + 1) (wI all (i + 1)) ((all.take n).drop (i + 1)))=R at hX key
  generalize Wz (wI all i)=K at hX hK lK
  generalize tN i=Tn at hX hT lT
  generalize cN i=Cn at hX hC lC
  have c35:=Cr Cn [58,32,98,111,111,108] (by simp only [List.length_cons,List.length_nil]; omega)
  have c40:=Cr (Cn ++ [58,32,98,111,111,108]) K (by simp only [List.length_append,List.length_cons,List.length_nil]; omega)
  have c41:=Cr ((Cn ++ [58,32,98,111,111,108]) ++ K) [59,32] (by simp only [List.length_append,List.length_cons,List.length_nil]; omega)
  have c42:=Cr X (((Cn ++ [58,32,98,111,111,108]) ++ K) ++ [59,32]) (by simp only [List.length_append,List.length_cons,List.length_nil]; omega)
  generalize hA:X ++ (((Cn ++ [58,32,98,111,111,108]) ++ K) ++ [59,32])=A at c42
  have lA:A.length ≤ 1100:=by rw [← hA]; simp only [List.length_append,List.length_cons,List.length_nil]; omega
  have c47:=Cr Tn [58,32,105,110,116] (by simp only [List.length_cons,List.length_nil]; omega)
  have c52:=Cr (Tn ++ [58,32,105,110,116]) K (by simp only [List.length_append,List.length_cons,List.length_nil]; omega)
  have c53:=Cr ((Tn ++ [58,32,105,110,116]) ++ K) [59,32] (by simp only [List.length_append,List.length_cons,List.length_nil]; omega)
  have c54:=Cr A (((Tn ++ [58,32,105,110,116]) ++ K) ++ [59,32]) (by simp only [List.length_append,List.length_cons,List.length_nil]; omega)
  generalize hB:A ++ (((Tn ++ [58,32,105,110,116]) ++ K) ++ [59,32])=B at c54
  have hX2:B ++ R=V:=by rw [← hB,← hA,← hX]; simp only [List.append_assoc]
  simp only [Bv,Bo,A6,Bk,Bl,Bq,C1,A4,Ci,Be,A7,A9,By,A8,B8,A5,Bc,Ba,A0,Bm,B5,ofOpt,Bb,Bs,Cu,Nat.reduceLT,Nat.reduceEqDiff,Aa,Ab,Ac,Aj,Ak,Am,Ap,Fe,dkL0,Qd,Tryz.f9,h5,h6,h7,h24,h25,lf,hf31,hlt,hlt2]
  refine WC.mono (hC S) ?_
  rintro _ rfl
  simp only [A7,A9,By,A8,Cj,A5,Bc,Ba,A0,Bm,B5,ofOpt,Bb,Bs,Nat.reduceLT,Nat.reduceEqDiff,Aa,Ab,Ac,Aj,Am,Fe,Cy,h9,hf32,cloK,Zd,c35]
  refine WC.mono (hK S hq) ?_
  rintro _ rfl
  simp only [A6,A4,Be,A7,A9,By,A8,Cj,A5,Bc,Ba,A0,Bm,B5,ofOpt,Bb,Nat.reduceLT,Nat.reduceEqDiff,Aa,Ab,Ac,Aj,Ak,Am,Fe,Cy,h6,h7,lf,hf31,c40,c41,c42]
  refine WC.mono (hT S) ?_
  rintro _ rfl
  simp only [A7,A9,By,A8,Cj,A5,Bc,Ba,A0,Bm,B5,ofOpt,Bb,Bs,Nat.reduceLT,Nat.reduceEqDiff,Aa,Ab,Ac,Aj,Am,Fe,Cy,h9,hf32,cloK,Zd,c47]
  refine WC.mono (hK S hq) ?_
  rintro _ rfl
  simp only [Bw,A6,A4,Bn,Be,A7,A9,A8,Cj,A5,Bc,Ba,A0,ofOpt,Bb,Bs,Dg,Nat.reduceLT,Nat.reduceEqDiff,Aa,Ab,Ac,Am,Fe,Cy,h25,c52,c53,c54,hw]
  refine key _ B ?_ ?_ ?_ ?_ ?_ ?_ ?_ ?_ ?_ hX2
  ·simp only [A0,A1,Nat.reduceEqDiff,Aa,Ab,h1]
  ·simp only [A0,A1,Nat.reduceEqDiff,Aa,Ab,h2]
  ·simp only [A0,A1,Nat.reduceEqDiff,Aa,Ab,h5]
  ·simp only [A0,A1,Nat.reduceEqDiff,Aa,Ab,h6]
  ·simp only [A0,A1,Nat.reduceEqDiff,Aa,Ab]
  ·simp only [A0,A1,Nat.reduceEqDiff,Aa,Ab,h8]
  ·simp only [A0,A1,Nat.reduceEqDiff,Aa,Ab,h9]
  ·simp only [A0,A1,Nat.reduceEqDiff,Aa,Ab,h24]
  ·simp only [A0,A1,Nat.reduceEqDiff,Aa,Ab]
end Go.Ax
