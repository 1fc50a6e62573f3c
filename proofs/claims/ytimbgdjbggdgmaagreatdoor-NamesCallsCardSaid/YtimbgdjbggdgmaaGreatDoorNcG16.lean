/- ZbPj -/
import Derived.Test.YtimbgdjbggdgmaaGreatDoorNcG15
set_option linter.unusedVariables false
set_option linter.unusedSimpArgs false
set_option maxHeartbeats 16000000
noncomputable section
open Nat (reduceLT reduceAdd reduceEqDiff)
namespace Go.Ax
open Go.RowKit Go.Proofs
set_option maxRecDepth 100000
section
attribute [local go_sem] Bool.false_eq_true T.get_set B1 Bn Dc Bz Dz Ct Ff A6 Bg By Ja if_false if_true Em Bo ofOpt Bu Er A4 true_and Bc
def maxG(x y:Value):Operand→Value:=fun z=>match z with
 |.tmp 0=>x
 |_=>y
theorem max_eq(F:Operand→Value)(dst:Option Tmp)(k l:Tmp)(ty:TypeId)(pos:String)(af:Array Edge)(gd:Option (Nat × Bool)):execOp F { dst:=dst,op:=.call { callee:=.builtin .max,args:=#[.tmp k,.tmp l],argTypes:=#[3,3] },type:=ty,pos:=pos,after:=af,guard:=gd }=execOp (maxG (F (.tmp k)) (F (.tmp l))) { dst:=none,op:=.call { callee:=.builtin .max,args:=#[.tmp 0,.tmp 1],argTypes:=#[3,3] },type:=ty,pos := "", after:=#[],guard:=none }:=by kernel_rfl
theorem max_val(a b:Int)(ty:TypeId):Qv Tryz.prog 4000 (execOp (maxG (.int .i64 a) (.int .i64 b)) { dst:=none,op:=.call { callee:=.builtin .max,args:=#[.tmp 0,.tmp 1],argTypes:=#[3,3] },type:=ty,pos := "", after:=#[],guard:=none })=some (.int .i64 (if b > a then b else a)):=by kernel_rfl
def maxX(P:Program)(G:Gl)(f:T AV)(S:St)(o:Oper):OR:=ground P G f S o
def maxO(r:OR)(S:St)(x y:Option AV):OR:=match x,y with
 |some (.v (.int .i64 a)),some (.v (.int .i64 b))=>.val (.v (.int .i64 (if b > a then b else a))) S
 |_,_=>r
theorem maxO_ii(r:OR)(S:St)(a b:Int):maxO r S (some (.v (.int .i64 a))) (some (.v (.int .i64 b)))=.val (.v (.int .i64 (if b > a then b else a))) S:=rfl
theorem yT(f:T AV)(S:St)(dst:Option Tmp)(k l:Tmp)(ty:TypeId)(pos:String)(af:Array Edge)(gd:Option (Nat × Bool)):
  ground Tryz.prog gR f S { dst:=dst,op:=.call { callee:=.builtin .max,args:=#[.tmp k,.tmp l],argTypes:=#[3,3] },type:=ty,pos:=pos,after:=af,guard:=gd }=maxO (maxX Tryz.prog gR f S { dst:=dst,op:=.call { callee:=.builtin .max,args:=#[.tmp k,.tmp l],argTypes:=#[3,3] },type:=ty,pos:=pos,after:=af,guard:=gd }) S (f.get k) (f.get l):=by
 unfold maxO
 split
 ·rename_i a b h1 h2
  have hg1:B8 gR f (.tmp k)=some (.int .i64 a):=by unfold B8;simp only[A6,h1];rfl
  have hg2:B8 gR f (.tmp l)=some (.int .i64 b):=by unfold B8;simp only[A6,h2];rfl
  unfold ground
  have hall:((Op.call { callee:=.builtin .max,args:=#[.tmp k,.tmp l],argTypes:=#[3,3] }:Op).operands.toList.all fun x=>(B8 gR f x).isSome)=true:=by
   show([Operand.tmp k,Operand.tmp l].all fun x=>(B8 gR f x).isSome)=true
   simp only[List.all_cons,List.all_nil,hg1,hg2,Option.isSome_some,Bool.and_self]
  refine(if_pos hall).trans ?_;rw[max_eq];have e1:(B8 gR f (.tmp k)).getD undef=.int .i64 a:=by rw[hg1];rfl
  have e2:(B8 gR f (.tmp l)).getD undef=.int .i64 b:=by rw[hg2];rfl
  simp only[e1,e2,max_val];rfl
 ·rfl
mutual
def Kt:PE→Int
 |.mk _ _ _ _ _ kids=>IntKind.i64.wrap (Q9 kids 0+1)
def Q9:List PE→Int→Int
 | [],m=>m
 |e :: r,m=>Q9 r (if Kt e > m then Kt e else m)
end
inductive Wide:PE→Prop where
 |mk (kind pos:Nat) (n:Int) (name:List UInt8) (off:Bool) (kids:List PE) (h:kids.length≤2000000) (hk:∀e∈kids,Wide e):Wide (.mk kind pos n name off kids)
theorem RepF.len:∀{es:List AV} {l:List PE},RepF es l→es.length=l.length:=fun {es l} h=>by
 induction es generalizing l with
 |nil=>cases h;rfl
 |cons a r ih=>cases h with
  |cons _ e _ l2 h h2=>simp[ih h2]
theorem Mi{S:St}{id kind pos:Nat}{n:Int}{name:List UInt8}{off:Bool}{kv:AV}(h:S.mem.get id=some (.box (exC kind pos n name off kv))):A8 Tryz.prog S 55 (.ptr id 5)=some kv:=by
 have a28:B9 Tryz.prog 55=some false:=by kernel_rfl
 simp[A8,Ca,h,a28,exC]
theorem Tg(S:St):Eo Tryz.prog S 55 .nils=some 0:=by kernel_rfl
theorem Xb(S:St)(tok off:Nat)(es:List AV):Eo Tryz.prog S 55 (.sl tok off 6 es)=some es.length:=by
 have h:Tryz.prog.underlying 55=some (.slice 57):=rfl;simp only[Eo,h]
theorem uD(tok off:Nat)(es:List AV)(j:Nat)(h:j<es.length)(ys:List AV)(hy:es[j]=.agg ys):Bh Tryz.prog 55 (.sl tok off 6 es) (.v (.int .i64 (j:Int)))=some (.ep ys):=by
 have h0:(0:Int)≤(j:Int):=by omega
 simp[Bh,h0,e28,s30,h,hy,AV.cells]
theorem lep30(S:St)(ys:List AV)(h:ys.length=6):A8 Tryz.prog S 57 (.ep ys)=some (.agg ys):=by
 have e:ys.take 6=ys:=Jd2 (by omega)
 simp[A8,Ca,a30,s30,h,e]
def fY:Code:=match Tryz.f245.body with
 |some (.seq _ (.seq _ (.seq _ (.seq (.block _ (.loop c)) _))))=>c
 |some (.seq _ (.seq _ (.seq (.seq _ (.block _ (.loop c))) _)))=>c
 |some (.seq _ (.seq _ (.seq (.seq _ (.seq (.block _ (.loop c)) _)) _)))=>c
 |_=>.skip
def DeepOk(e:PE):Prop:=∀(ys:List AV),RepE (.agg ys) e→∀S,WC E1 245 [.agg ys] S (fun r=>∃S',r=.ret (.v (.int .i64 (Kt e))) S'∧Dm S S')
def LoopDeep(S0:St)(d:Int)(r:O):Prop:=∃t' S',r=.out (.exit 0) ⟨t',[]⟩ S'∧t'.get 3=some (.v (.int .i64 d))∧Dm S0 S'
theorem Zc(S0:St)(tok off:Nat)(es:List AV)(hes:es.length≤2000000)(kv:AV)(hkv:kv=.sl tok off 6 es∨es=[]):∀(suf:List PE) (j:Nat) (m:Int) (t:T AV) (S:St),RepF (es.drop j) suf→j≤es.length→(∀e∈suf,DeepOk e) →
  t.get 3=some (.v (.int .i64 m))→t.get 7=some kv→t.get 8=some (.v (.int .i64 (es.length:Int)))→t.get 9=some (.v (.int .i64 (j:Int)))→Dm S0 S→WX E1 20 (.loop fY) ⟨t,[]⟩ S (LoopDeep S0 (Q9 suf m))
 | [],j,m,t,S,hr,hj,hd,h3,h7,h8,h9,hk=>by
  refine Bt (Bp ?_);have hl:j=es.length:=by have:=hr.len;rw[Jb4]at this;simp at this;omega
  have hlt:¬ ((j:Int)<(es.length:Int)):=by omega
  simp only[go_sem,De,Db,Dr,Hj,Ew,Jk,reduceLT,reduceEqDiff,Aq,Tryz.f245,fY,h7,h8,h9,hlt];exact⟨_,_,rfl,by simp[T.get_set,h3,Q9],hk⟩
 |e :: suf,j,m,t,S,hr,hj,hd,h3,h7,h8,h9,hk=>by
  refine Bt (Bp ?_);have hl:j<es.length:=by have:=hr.len;rw[Jb4]at this;simp at this;omega
  have hlt:((j:Int)<(es.length:Int)):=by omega
  rw[Ja6 hl]at hr;obtain⟨fn1,hf1⟩:=fX 245
  cases hr with
  |cons _ _ _ _ hr1 hr2 =>
  obtain⟨ys,hy,hyl⟩:=hr1.agg;rw[hy]at hr1
  have q0:kv=.sl tok off 6 es:=by
   rcases hkv with h |h
   ·exact h
   ·rw[h]at hl;cases hl
  subst q0;have q1:=uD tok off es j hl ys hy;have q2:=lep30 S ys hyl;have q3:=Vt (Co S exZ) rfl hyl;have g3:=Dv (S.newBox exZ) S.next ys;have k3:Dm S ((S.newBox exZ).put S.next ys):=Dj (Ce S _) (Ja1 _) _;generalize hS3:(S.newBox exZ).put S.next ys=S3 at q3 g3 k3;have q4:=ld30 g3 hyl;have w1:IntKind.i64.wrap ((j:Int)+1)=((j+1:Nat):Int):=I2 (j:=1) (by omega)
  simp only[go_sem,De,Db,Dr,Hj,B3,Bv,Cc,Fi,C9,ofOptS,Jk,reduceLT,reduceEqDiff,Aj,Ak,Ap,Tryz.f245,Sl,fY,h3,h7,h8,h9,hlt,q1,q2,q3,q4,hf1];refine WC.mono (hd e (Jb1 ..) ys hr1 S3) ?_;rintro _ ⟨S4,rfl,k4⟩;simp only[go_sem,C7,Cq,Cd,Ms,reduceLT,reduceEqDiff,h9,yT,maxO_ii,w1];exact Zc S0 tok off es hes _ (.inl rfl) suf (j+1) _ _ _ hr2 hl (fun e he=>hd e (Ja8 _ he)) (by simp[T.get_set]) (by simp[T.get_set,h7]) (by simp[T.get_set,h8]) (by simp[T.get_set]) (hk.trans (k3.trans k4))
theorem deep_w:∀{e:PE},Wide e→DeepOk e:=fun {e} hw=>by
 induction hw with
 |mk kind pos n name off kids hlen hk ih =>
  intro ys hr S
  cases hr with
  |mk _ _ _ _ _ kv _ hkk =>
  refine WCk Tryz.f245 ?_;have g1:=Co S (exC kind pos n name off kv);have l1:=Mi g1
  cases hkk with
  |nil =>
   simp only[go_sem,Iq,Cx,A1,reduceLT,reduceEqDiff,Ae,Tryz.f245,Cr,Cs,fe5,l1,Tg];refine WX.mono (Zc (S.newBox (exC kind pos n name off .nils)) 0 0 [] (by simp) .nils (.inr rfl) [] 0 0 _ _ .nil (by simp) (fun e h=>by cases h) (by simp[T.get_set]) (by simp[T.get_set]) (by simp[T.get_set]) (by simp[T.get_set]) ⟨Ja1 _,fun _ _=>rfl⟩) ?_
   rintro _ ⟨t',S',rfl,g3,k9⟩;simp only[go_sem,Dl,Ea,Bm,Cm,Ba,D8,reduceLT,reduceEqDiff,g3];exact⟨_,rfl,(Ce S _).trans k9⟩
  |row tok o es _ hf =>
   have hl:=hf.len;simp only[go_sem,Iq,Cx,A1,reduceLT,reduceEqDiff,Ae,Tryz.f245,Cr,Cs,fe5,l1,Xb];refine WX.mono (Zc (S.newBox (exC kind pos n name off (.sl tok o 6 es))) tok o es (by omega) (.sl tok o 6 es) (.inl rfl) kids 0 0 _ _ hf (by omega) ih (by simp[T.get_set]) (by simp[T.get_set]) (by simp[T.get_set]) (by simp[T.get_set]) ⟨Ja1 _,fun _ _=>rfl⟩) ?_
   rintro _ ⟨t',S',rfl,g3,k9⟩;simp only[go_sem,Dl,Ea,Bm,Cm,Ba,D8,reduceLT,reduceEqDiff,g3];exact⟨_,rfl,(Ce S _).trans k9⟩
end
section
attribute [local go_sem] Bool.false_beq Bool.false_eq_true Bool.not_false Bool.not_true Bool.true_beq Bool.true_eq_false List.append_nil List.getElem?_cons_succ List.getElem?_cons_zero List.getElem?_toArray List.head?_cons List.head?_nil List.nil_append Option.bind_some Option.getD_some Option.toList T.get_leaf T.get_set B1 Bn Dc Dr Eh Hj Iq Bz Dl Dz Db and_true beq_self_eq_true Ea Cq Df Fk Ct Ew Fi decide_false decide_true Ms Ff A6 Bg Bv J4 J8 B3 By Ja D6 Qj Ls Ml Jk Fb A7 Bm Cm Ge if_false if_true Cx C9 Em Gw Bo ofOpt ofOptS C8 Cc Bu Ba Bf Cd Er A4 A9 F8 De C7 Ib Je true_and D8 Bc
def P2(v:AV)(es:List AV):Prop:=(v=.nils∧es=[])∨∃tok off,v=.sl tok off 6 es
def rowN(v:AV)(es:List AV):Prop:=(v=.nils∧es=[])∨(es≠[]∧∃tok off,v=.sl tok off 6 es)
theorem rowN.is{v:AV}{es:List AV}(h:rowN v es):P2 v es:=h.elim .inl (fun h=>.inr h.2)
end
section
attribute [local go_sem] Bool.false_beq Bool.false_eq_true Bool.not_false Bool.not_true Bool.true_beq Bool.true_eq_false List.append_nil List.getElem?_cons_succ List.getElem?_cons_zero List.getElem?_toArray List.head?_cons List.head?_nil List.nil_append Option.bind_some Option.getD_some Option.toList T.get_leaf T.get_set B1 Bn Jy Ir gX Dc Dr Eh Hj Iq Bz Dl Dz Db Ez Cs Cr Sl and_true beqA_ptr Tw beq_self_eq_true Ea Cq Df Fk Ct Ew Fi decide_false decide_true Ms Ff A6 Bg Bv J4 J8 B3 By Km fN execR_pan Jv I1 Ja D6 Qj Ls Ml Jk Fb fe5 A7 Bm H9 I5 Cm Ge if_false if_true Cx Fq C9 Em Gw D3 Bo ofOpt ofOptS C8 Cc Bu Js Hw Ba Bf Cd Ht M8 Mp Er A4 A9 F8 De C7 Ib Je true_and D8 Bc
theorem I6(a b c d:Nat):D1 (.bs a b c d) (.bs a b c d)=true:=by simp[D1]
theorem tL(tok off sz:Nat)(es:List AV):Ha Tryz.prog 55 (.sl tok off sz es) .nils=true:=by unfold Ha;rw[u28]
theorem neNil28n:Ha Tryz.prog 55 .nils .nils=false:=by unfold Ha;rw[u28]
theorem fbNils:Cv .eql .nils .nils=none:=rfl
def nilS(r:OR)(S:St)(x:Option AV):OR:=match x with
 |some .nils=>.val (.v (.bool true)) S
 |_=>r
theorem eqOr28(f:T AV)(S:St)(k:Nat)(dst:Option Tmp)(ty:TypeId)(pos:String)(af:Array Edge)(gd:Option (Nat × Bool)):
  U7 Tryz.prog gR f S { dst:=dst,op:=.binOp .eql 55 (.tmp k) (.const (.slice none 0 0)) 55,type:=ty,pos:=pos,after:=af,guard:=gd } .eql 55 .nils .nils =
  nilS (eqOrX Tryz.prog gR f S { dst:=dst,op:=.binOp .eql 55 (.tmp k) (.const (.slice none 0 0)) 55,type:=ty,pos:=pos,after:=af,guard:=gd } .eql 55 .nils .nils) S (f.get k):=by
 unfold nilS
 split
 ·rename_i hf
  have h0:Y7 Tryz.prog .eql 55 .nils .nils=none:=by kernel_rfl
  unfold U7;rw[h0];have hg:B8 gR f (.tmp k)=some (.slice none 0 0):=by unfold B8;simp only[A6,hf];rfl
  have hc:B8 gR f (.const (.slice none 0 0))=some (.slice none 0 0):=rfl;unfold ground;simp only[Op.operands,List.all_cons,List.all_nil,hg,hc,Option.isSome_some,Bool.and_self,Aa]
  have e:execOp (fun x=>(B8 gR f x).getD undef) { dst:=dst,op:=.binOp .eql 55 (.tmp k) (.const (.slice none 0 0)) 55,type:=ty,pos:=pos,after:=af,guard:=gd }=execOp (fun _=>.slice none 0 0) { dst:=none,op:=.binOp .eql 55 (.tmp 3) (.const (.slice none 0 0)) 55,type:=4,pos := "", after:=#[],guard:=none }:=by
   simp only[execOp,hg,hc,Ae];rfl
  rw[e];have e3:(Qv Tryz.prog 4000 (execOp (fun _=>Value.slice none 0 0) { dst:=none,op:=.binOp .eql 55 (.tmp 3) (.const (.slice none 0 0)) 55,type:=4,pos := "", after:=#[],guard:=none }))=some (.bool true):=by kernel_rfl
  rw[e3];rfl
 ·rfl
theorem r28:Bd Tryz.prog 55 0 []=some (.sl 1 0 6 []):=by kernel_rfl
theorem appM28(S:St)(tok off:Nat)(e:AV)(es:List AV)(hl:(e :: es).length≤2000000):Ej E1 S 55 55 (.sl 1 0 6 []) (.sl tok off 6 (e :: es))=some (.bs S.next 0 (e :: es).length 6,S.newBox (B4 (e :: es))):=by
 obtain⟨i,hi,hz0,hz1,hz2⟩:=G1 i30;have hb1:(es.length+1)*72≤140737488355328:=by simp at hl;omega
 have hb2:es.length+1≤9223372036854775807:=by simp at hl;omega
 rw[app28];simp[Jh,e28,hi,hz0,hz1,hz2,K9,u28,Value.cells,hb1,hb2]
theorem app28e(S:St)(tok off:Nat):Ej E1 S 55 55 (.sl 1 0 6 []) (.sl tok off 6 [])=some (.sl 1 0 6 [],S):=by
 obtain⟨i,hi,hz0,hz1,hz2⟩:=G1 i30;rw[app28];simp[Jh,Ds,e28,hi,hz0,hz1,hz2,K9,u28,Value.cells]
theorem lW(S:St):WC E1 124 [.nils] S (fun r=>r=.ret .nils S):=by
 refine WCk Tryz.f124 ?_;simp only[go_sem,reduceLT,reduceAdd,reduceEqDiff,reduceIte,I6,Tryz.f124,neNil28n,fbNils,eqOr28,nilS]
def ClonePost(S:St)(es:List AV)(r:R):Prop:=(es=[]∧r=.ret (.sl 1 0 6 []) S)∨(es≠[]∧r=.ret (.bs S.next 0 es.length 6) (S.newBox (B4 es)))
theorem lV(S:St)(tok off:Nat)(es:List AV)(hl:es.length≤2000000):WC E1 124 [.sl tok off 6 es] S (ClonePost S es):=by
 refine WCk Tryz.f124 ?_
 cases es with
 |nil =>
  have q:=app28e S tok off;simp only[go_sem,reduceLT,reduceAdd,reduceEqDiff,reduceIte,I6,Tryz.f124,tL,r28,q];exact .inl ⟨rfl,rfl⟩
 |cons e es =>
  have q:=appM28 S tok off e es hl;simp only[go_sem,reduceLT,reduceAdd,reduceEqDiff,reduceIte,I6,Tryz.f124,tL,r28,q];exact .inr ⟨List.cons_ne_nil _ _,rfl⟩
def Rj(kv:AV):Prop:=kv=.nils∨(∃tok off es,kv=.sl tok off 6 es)∨∃id off n,kv=.bs id off n 6
theorem Rj.top{kv:AV}(h:Rj kv):kv.noTup=true∧kv.cells=[kv]:=by
 rcases h with rfl | ⟨_,_,_,rfl⟩ | ⟨_,_,_,rfl⟩ <;> exact⟨rfl,rfl⟩
theorem s28:Cl Tryz.prog 55=some 1:=by kernel_rfl
theorem jF{S:St}{id kind pos:Nat}{n:Int}{name:List UInt8}{off:Bool}{kv kv':AV}(h:S.mem.get id=some (.box (exC kind pos n name off kv)))(hk:Rj kv'):Bl Tryz.prog S 55 (.ptr id 5) kv' = some (S.put id (exC kind pos n name off kv')):=by
 simp[Bl,h,s28,hk.top.1,hk.top.2,exC,St.put]
theorem idx28b(id i n:Nat)(h:i<n):Bh Tryz.prog 55 (.bs id 0 n 6) (.v (.int .i64 (i:Int)))=some (.ptr id (i*6)):=by
 have h0:(0:Int)≤(i:Int):=by omega
 have h1:(i:Int)<(n:Int):=by omega
 simp[Bh,h0,e28,s30,h1]
theorem len28b(S:St)(id n:Nat):Eo Tryz.prog S 55 (.bs id 0 n 6)=some n:=by
 have h:Tryz.prog.underlying 55=some (.slice 57):=rfl;simp only[Eo,h]
theorem ldAt30{S:St}{id off:Nat}{cs ys:List AV}{rest:List AV}(h:S.mem.get id=some (.box cs))(hd:cs.drop off=ys ++ rest)(hy:ys.length=6)(ho:off≤cs.length):A8 Tryz.prog S 57 (.ptr id off)=some (.agg ys):=by
 have e:(ys ++ rest).take 6=ys:=by rw[← hy];simp
 have e2:(ys ++ rest).length=rest.length+6:=by simp[hy];omega
 simp[A8,Ca,h,ho,hd,a30,s30,e,hy]
theorem stAt30{S:St}{id off:Nat}{cs ys:List AV}(h:S.mem.get id=some (.box cs))(hy:ys.length=6)(ho:off+6≤cs.length):Bl Tryz.prog S 57 (.ptr id off) (.agg ys)=some (S.put id (cs.take off ++ ys ++ cs.drop (off+6))):=by
 have h2:(AV.agg ys).noTup=true:=rfl;simp[Bl,h,s30,h2,AV.cells,hy,ho,St.put]
def Gt:Code:=match Tryz.f69.body with
 |some (.seq _ (.seq _ (.seq (.seq _ (.block _ (.loop c))) _)))=>c
 |some (.seq _ (.seq _ (.seq (.seq _ (.seq (.block _ (.loop c)) _)) _)))=>c
 |some (.seq _ (.seq _ (.seq _ (.seq (.block _ (.loop c)) _))))=>c
 |_=>.skip
def Y8(e:PE)(kv:AV):List AV:=match e with
 |.mk kind pos n name off _=>exC kind pos n name off kv
theorem lK{es:List AV}{l:List PE}(h:RepF es l):(B4 es).length=es.length*6:=by
 induction es generalizing l with
 |nil=>rfl
 |cons a r ih=>cases h with
  |cons _ e _ l2 h1 h2 =>
   obtain⟨ys,rfl,hy⟩:=h1.agg;rw[Hu,Ja3,ih h2]
   show ys.length+_=_
   simp;omega
theorem Uz(t:T AV)(S:St)(h11:t.get 11=some (.v (.int .i64 0)))(h12:t.get 12=some (.v (.int .i64 0))):WX E1 25 (.loop Gt) ⟨t,[]⟩ S (fun r=>∃t',r=.out (.exit 0) ⟨t',[]⟩ S∧t'.get 1=t.get 1∧t'.get 2=t.get 2):=by
 refine Bt (Bp ?_);have hlt:¬ ((0:Int)<(0:Int)):=by omega
 simp only[go_sem,reduceLT,reduceAdd,reduceEqDiff,reduceIte,I6,Tryz.f69,Gt,h11,h12,hlt];exact⟨_,rfl,by simp[T.get_set],by simp[T.get_set]⟩
end
section
attribute [local go_sem] List.append_nil List.getElem?_cons_succ List.getElem?_cons_zero List.nil_append T.get_leaf T.get_set B1 Bn Dr Bz Dl Dz Ct Ff A6 Bg Bv B3 By Bm fp0 Cm if_false if_true C9 Bo ofOpt ofOptS C8 Cc Bu Ba Cd Hl A4 true_and D8 Bc
theorem Da{α β:Type}{x:PR α}{f:α→Nat→PR β}{b:β}{j:Nat}(h:PR.bind x f=.ok b j):∃a m,x=.ok a m∧f a m=.ok b j:=by
 cases x with
 |ok a m=>exact⟨a,m,rfl,h⟩
 |bad a e=>cases h
 |out=>cases h
theorem qK(kind pos:Nat)(n:Int)(name:List UInt8)(off:Bool):Wide (.mk kind pos n name off []):=.mk _ _ _ _ _ _ (by simp) (fun e h=>by cases h)
theorem wide1{x:PE}(h:Wide x)(kind pos:Nat)(n:Int)(name:List UInt8)(off:Bool):Wide (.mk kind pos n name off [x]):=.mk _ _ _ _ _ _ (by simp) (fun e he=>by
 rcases Jb8.1 he with rfl |he
 ·exact h
 ·cases he)
theorem qJ{x y:PE}(h:Wide x)(h2:Wide y)(kind pos:Nat)(n:Int)(name:List UInt8)(off:Bool):Wide (.mk kind pos n name off [x,y]):=.mk _ _ _ _ _ _ (by simp) (fun e he=>by
 simp only[Jb8,Ja7,or_false]at he;rcases he with rfl |rfl
 ·exact h
 ·exact h2)
theorem wide3{x y z:PE}(h:Wide x)(h2:Wide y)(h3:Wide z)(kind pos:Nat)(n:Int)(name:List UInt8)(off:Bool):Wide (.mk kind pos n name off [x,y,z]):=.mk _ _ _ _ _ _ (by simp) (fun e he=>by
 simp only[Jb8,Ja7,or_false]at he;rcases he with rfl |rfl |rfl
 ·exact h
 ·exact h2
 ·exact h3)
theorem H2{α:Type}{a b:α}{i j:Nat}(h:(PR.ok a i:PR α)=.ok b j):a=b∧i=j:=by injection h with h1 h2;exact⟨h1,h2⟩
theorem Qt{ts:List Tk}{ws:List (List UInt8)}{kid:Nat→PR PE}(hk:∀i e j,kid i=.ok e j→Wide e):∀(n:Nat) (x:PE) (i:Nat) (e:PE) (j:Nat),Wide x→Iv ts ws kid n x i=.ok e j→Wide e
 |0,x,i,e,j,hx,h=>by cases h
 |n+1,x,i,e,j,hx,h=>by
  unfold Iv at h
  split at h
  ·obtain⟨a,m,h1,h2⟩:=Da h
   exact Qt hk n _ _ _ _ (qJ hx (hk _ _ _ h1) ..) h2
  ·obtain⟨rfl,_⟩:=H2 h;exact hx
theorem bW{ts:List Tk}:∀(n:Nat) (x:PE) (i:Nat) (e:PE) (j:Nat),Wide x→Ih ts n x i=.ok e j→Wide e
 |0,x,i,e,j,hx,h=>by cases h
 |n+1,x,i,e,j,hx,h=>by
  unfold Ih at h
  split at h
  ·obtain⟨a,m,h1,h2⟩:=Da h
   exact bW n _ _ _ _ (wide1 hx ..) h2
  ·obtain⟨rfl,_⟩:=H2 h;exact hx
theorem Vy{ts:List Tk}{kid:Nat→PR PE}(hk:∀i e j,kid i=.ok e j→Wide e):∀(n:Nat) (l:List PE) (i:Nat) (r:List PE) (j:Nat),(∀e∈l,Wide e)→F9 ts kid n l i=.ok r j→(∀e∈r,Wide e)∧r.length≤l.length+n
 |0,l,i,r,j,hl,h=>by cases h
 |n+1,l,i,r,j,hl,h=>by
  unfold F9 at h
  split at h
  ·obtain⟨a,m,h1,h2⟩:=Da h
   obtain⟨h3,h4⟩:=Vy hk n _ _ _ _ (fun e he=>by
    rcases Jc7.1 he with he |he
    ·exact hl e he
    ·rcases Jb8.1 he with rfl |he
     ·exact hk _ _ _ h1
     ·cases he) h2
   refine⟨h3,?_⟩;rw[Ja3]at h4;simp at h4;omega
  ·obtain⟨a,m,h1,h2⟩:=Da h
   obtain⟨rfl,_⟩:=H2 h2;exact⟨hl,by omega⟩
theorem yD{ts:List Tk}{kid:Nat→PR PE}(hk:∀i e j,kid i=.ok e j→Wide e)(n i:Nat)(r:List PE)(j:Nat)(h:I4 ts kid n i=.ok r j):(∀e∈r,Wide e)∧r.length≤n+1:=by
 unfold I4 at h;obtain⟨a,m,h1,h2⟩:=Da h
 split at h2
 ·obtain⟨rfl,_⟩:=H2 h2;exact⟨fun e he=>(by cases he),by simp⟩
 ·obtain⟨b,m2,h3,h4⟩:=Da h2
  obtain⟨h5,h6⟩:=Vy hk n _ _ _ _ (fun e he=>by
   rcases Jb8.1 he with rfl |he
   ·exact hk _ _ _ h3
   ·cases he) h4
  refine⟨h5,?_⟩;simp at h6;omega
theorem Ys{ts:List Tk}{i:Nat}{e:PE}{j:Nat}(h:I7 ts i=.ok e j):Wide e:=by
 unfold I7 at h
 split at h
 ·cases h
 ·split at h
  ·split at h
   ·cases h
   ·split at h
    ·obtain⟨rfl,_⟩:=H2 h;exact qK ..
    ·cases h
  ·split at h
   ·split at h
    ·cases h
    ·obtain⟨rfl,_⟩:=H2 h;exact qK ..
   ·cases h
theorem cC(t:Tk):Wide (G4 t):=qK ..
theorem qD{ts:List Tk}:∀(n:Nat),n≤1000000→∀(nt:NT) (i:Nat) (e:PE) (j:Nat),P ts n nt i=.ok e j→Wide e
 |0,_,nt,i,e,j,h=>by cases nt <;> cases h
 |n+1,hn,nt,i,e,j,h=>by
  have ih:∀(nt:NT) (i:Nat) (e:PE) (j:Nat),P ts n nt i=.ok e j→Wide e:=qD n (by omega)
  cases nt with
  |expr =>
   unfold P at h
   split at h
   ·obtain⟨a,m,h1,h⟩:=Da h
    obtain⟨_,m,_,h⟩:=Da h;obtain⟨b,m,h2,h⟩:=Da h;obtain⟨_,m,_,h⟩:=Da h;obtain⟨c,m,h3,h⟩:=Da h;obtain⟨rfl,_⟩:=H2 h;exact wide3 (ih _ _ _ _ h1) (ih _ _ _ _ h2) (ih _ _ _ _ h3) ..
   ·exact ih _ _ _ _ h
  |arrow =>
   unfold P at h;obtain⟨a,m,h1,h⟩:=Da h
   split at h
   ·obtain⟨b,m,h2,h⟩:=Da h
    obtain⟨rfl,_⟩:=H2 h;exact qJ (ih _ _ _ _ h1) (ih _ _ _ _ h2) ..
   ·split at h
    ·obtain⟨rfl,_⟩:=H2 h;exact ih _ _ _ _ h1
    ·split at h
     ·obtain⟨b,m,h2,h⟩:=Da h
      obtain⟨rfl,_⟩:=H2 h;exact qJ (ih _ _ _ _ h1) (ih _ _ _ _ h2) ..
     ·obtain⟨rfl,_⟩:=H2 h;exact ih _ _ _ _ h1
  |or=>unfold P at h;obtain⟨a,m,h1,h⟩:=Da h;exact Qt (ih _) n _ _ _ _ (ih _ _ _ _ h1) h
  |and=>unfold P at h;obtain⟨a,m,h1,h⟩:=Da h;exact Qt (ih _) n _ _ _ _ (ih _ _ _ _ h1) h
  |sum=>unfold P at h;obtain⟨a,m,h1,h⟩:=Da h;exact Qt (ih _) n _ _ _ _ (ih _ _ _ _ h1) h
  |term=>unfold P at h;obtain⟨a,m,h1,h⟩:=Da h;exact Qt (ih _) n _ _ _ _ (ih _ _ _ _ h1) h
  |not =>
   unfold P at h
   split at h
   ·obtain⟨a,m,h1,h⟩:=Da h
    obtain⟨rfl,_⟩:=H2 h;exact wide1 (ih _ _ _ _ h1) ..
   ·obtain⟨a,m,h1,h⟩:=Da h
    split at h
    ·obtain⟨b,m,h2,h⟩:=Da h
     obtain⟨rfl,_⟩:=H2 h;exact qJ (ih _ _ _ _ h1) (ih _ _ _ _ h2) ..
    ·obtain⟨rfl,_⟩:=H2 h;exact ih _ _ _ _ h1
  |unary =>
   unfold P at h
   split at h
   ·obtain⟨a,m,h1,h⟩:=Da h
    obtain⟨rfl,_⟩:=H2 h;exact wide1 (ih _ _ _ _ h1) ..
   ·split at h
    ·exact Ys h
    ·split at h
     ·obtain⟨a,m,h1,h⟩:=Da h
      obtain⟨rfl,_⟩:=H2 h;exact wide1 (ih _ _ _ _ h1) ..
     ·exact ih _ _ _ _ h
  |when=>unfold P at h;obtain⟨a,m,h1,h⟩:=Da h;exact bW n _ _ _ _ (ih _ _ _ _ h1) h
  |primary =>
   unfold P at h
   split at h
   ·exact Ys h
   ·split at h
    ·exact ih _ _ _ _ h
    ·split at h
     ·obtain⟨rfl,_⟩:=H2 h;exact cC _
     ·split at h
      ·obtain⟨_,m,_,h⟩:=Da h
       obtain⟨a,m,h1,h⟩:=Da h;obtain⟨b,m,h2,h⟩:=Da h;obtain⟨rfl,_⟩:=H2 h;exact qJ (ih _ _ _ _ h1) (ih _ _ _ _ h2) ..
      ·split at h
       ·obtain⟨_,m,_,h⟩:=Da h
        split at h
        ·obtain⟨_,m,_,h⟩:=Da h
         obtain⟨a,m,h1,h⟩:=Da h;obtain⟨l,m,h2,h⟩:=Da h
         obtain⟨h3,h4⟩:=Vy (ih .lit) n _ _ _ _ (fun e he=>by
          rcases Jb8.1 he with rfl |he
          ·exact ih _ _ _ _ h1
          ·cases he) h2
         obtain⟨rfl,_⟩:=H2 h;simp at h4;exact .mk _ _ _ _ _ _ (by omega) h3
        ·obtain⟨rfl,_⟩:=H2 h;exact qK ..
       ·exact ih _ _ _ _ h
  |name =>
   unfold P at h
   split at h
   ·exact ih _ _ _ _ h
   ·obtain⟨_,m,_,h⟩:=Da h
    obtain⟨rfl,_⟩:=H2 h;exact qK ..
  |call =>
   unfold P at h;obtain⟨_,m,_,h⟩:=Da h;obtain⟨l,m,h2,h⟩:=Da h;obtain⟨h3,h4⟩:=yD (ih .expr) n _ _ _ h2;obtain⟨rfl,_⟩:=H2 h;exact .mk _ _ _ _ _ _ (by omega) h3
  |brk =>
   unfold P at h;obtain⟨_,m,_,h⟩:=Da h;obtain⟨a,m,h1,h⟩:=Da h;obtain⟨_,m,_,h⟩:=Da h;obtain⟨rfl,_⟩:=H2 h;exact ih _ _ _ _ h1
  |lit =>
   unfold P at h
   split at h
   ·obtain⟨rfl,_⟩:=H2 h;exact cC _
   ·exact Ys h
def xR:PE→Nat
 |.mk _ pos _ _ _ _=>pos
def F6(kid:Nat→PR PE)(i:Nat):PR PE:=(kid i).bind fun e j=>if Kt e > 40 then .bad (xR e) 3 else .ok e j
theorem ld3p{S:St}{id:Nat}{xs:List AV}{e:PE}(h:S.mem.get id=some (.box xs))(hr:RepE (.agg xs) e):A8 Tryz.prog S 3 (.ptr id 1)=some (.v (.int .i64 (xR e:Int))):=by
 cases hr with
 |mk kind pos n name off kv kids h2=>simp[A8,Ca,h,a3,exC,Bk,xR]
theorem fe1(b:Nat):A3 Tryz.prog 57 (.ptr b 0) 1=some (.ptr b 1):=by kernel_rfl
section
variable {p k:Nat} {ts:List Tk} (hts:TokOk ts)
include hts
theorem jM(m:Nat)(kid:Nat→PR PE)(hF:∃fn,E1.F m=some fn)(hkid:Con p k ts m kid)(hw:∀i e j,kid i=.ok e j→Wide e)(S:St)(i:Nat)(h:Cur S p k ts i)(hp:p<S.next)(hi:i<ts.length)(ho:kid i≠.out):WC E1 218 [.ptr p 0,Mr m p] S (Ot p k ts S RepE (F6 kid i)):=by
 have _:=hts;refine WCk Tryz.f218 ?_;obtain⟨fn1,hf1⟩:=hF;obtain⟨fn2,hf2⟩:=fX 245;unfold F6;obtain⟨x1,c1,br,hp1⟩:=Jg h hp;have y2:=x1;simp only[go_sem,Cx,reduceLT,reduceAdd,reduceEqDiff,Ae,Tryz.f218,Sl,hf1,Mr];refine WC.mono (hkid _ _ c1 hp1 hi ho) ?_
 cases hX3:kid i with
 |out=>exact absurd hX3 ho
 |bad a e =>
  rintro _ ⟨S3,rfl,x3⟩;simp only[A9,Bf,A7];exact⟨_,rfl,y2.trans x3⟩
 |ok a3 j3 =>
  rintro _ ⟨v3,S3,rfl,hr3,x3,c3,hi3⟩;obtain⟨xs3,rfl,hl3⟩:=RepE.agg hr3;have hp3:p<S3.next:=Ja0 hp1 x3.1;have y4:=(y2).trans x3;have br_4:=br.keep x3;rw[Bs];obtain⟨S5,q5,x5,c5,bx,hp5⟩:=Sj c3 hp3 (xs:=xs3) hl3;have y6:=(y4).trans x5;have br_6:=br_4.keep x5;have l7:=bx.ld30 hl3;simp only[go_sem,reduceLT,reduceEqDiff,Sl,hf2,q5,l7];refine WC.mono (deep_w (hw _ _ _ hX3) xs3 hr3 _) ?_;rintro _ ⟨S8,rfl,k8⟩;have x8:=k8.x p;have c8:=c5.keep hp5 k8;have hp8:p<S8.next:=Ja0 hp5 x8.1;have y9:=(y6).trans x8;have br_9:=br_6.keep x8;have bx_9:=bx.keep x8;have l10:=bx_9.ld30 hl3
  by_cases hd:Kt a3 > 40
  ·rw[if_pos hd]
   have lp:=ld3p bx_9.get hr3;have m3:Qh Tryz.prog 29 (.agg [.v (.int .i64 (xR a3:Int)),.v (.int .i64 3)])=some (.iface 29 (.agg [.v (.int .i64 (xR a3:Int)),.v (.int .i64 3)])):=mkI33 _ 3;simp only[go_sem,Db,A9,J8,Fi,Em,A7,Ls,reduceLT,reduceEqDiff,Am,Ap,l10,hd,fe1,lp,mI,m3];exact⟨_,rfl,y9⟩
  ·rw[if_neg hd]
   obtain⟨g11,h11,gx,gc⟩:=Fh (S0:=S) c8 br_9 rfl (Ja1 _) y9 (xs:=xs3) hl3;simp only[go_sem,Db,Ew,Em,Ls,reduceLT,reduceEqDiff,Am,Aq,l10,hd,g11,h11];exact⟨_,_,rfl,hr3,gx,gc,hi3⟩
omit hts
structure PQ where
 left:List (List UInt8 × Nat)
 async:Bool
 e:PE
def eqC(lv:AV)(a:Bool)(xs:List AV):List AV:=lv :: .v (.bool a) :: xs
def U5(v:AV)(q:PQ):Prop:=∃lv xs,v=.agg (eqC lv q.async xs)∧H8 2 Fg lv q.left∧xs.length=6∧RepE (.agg xs) q.e
def eqP(ts:List Tk)(n i:Nat):PR PQ:=(H3 ts n i).bind fun ls j=>(B2 ts [[61]] j).bind fun _ j=>if(tk ts j).text∈[[97,115,121,110,99]]then(F6 (P ts n .call) (j+1)).bind fun e m=>(B2 ts [[59]] m).bind fun _ m=>.ok ⟨ls,true,e⟩ m else(F6 (P ts n .expr) j).bind fun e m=>(B2 ts [[59]] m).bind fun _ m=>.ok ⟨ls,false,e⟩ m
theorem ag57:B9 Tryz.prog 59=some true:=by kernel_rfl
theorem sz57:Cl Tryz.prog 59=some 8:=by kernel_rfl
def zC57:List AV:=eqC .nils false exZ
theorem alo57(S:St):Ga Tryz.prog S 59=some (.ptr S.next 0,S.newBox zC57):=by kernel_rfl
theorem b57(v:AV)(l:List (List UInt8 × Nat))(h:H8 2 Fg v l):Du Tryz.prog 59 [(0,v)]=some (.agg (eqC v false exZ)):=by
 rcases h with⟨rfl,_⟩ | ⟨tok,off,rfl⟩
 ·kernel_rfl
 ·generalize l.map Fg=es
  kernel_rfl
theorem fq1(b:Nat):A3 Tryz.prog 59 (.ptr b 0) 1=some (.ptr b 1):=by kernel_rfl
theorem fq2(b:Nat):A3 Tryz.prog 59 (.ptr b 0) 2=some (.ptr b 2):=by kernel_rfl
theorem st57_1{S:St}{id:Nat}{lv:AV}{a:Bool}{xs:List AV}(h:S.mem.get id=some (.box (eqC lv a xs)))(o:Bool):Bl Tryz.prog S 4 (.ptr id 1) (.v (.bool o))=some (S.put id (eqC lv o xs)):=by
 have h2:(AV.v (.bool o)).noTup=true:=rfl;have s4:Cl Tryz.prog 4=some 1:=by kernel_rfl
 simp[Bl,h,s4,h2,AV.cells,St.put,eqC]
theorem ld57_1{S:St}{id:Nat}{lv:AV}{a:Bool}{xs:List AV}(h:S.mem.get id=some (.box (eqC lv a xs))):A8 Tryz.prog S 4 (.ptr id 1)=some (.v (.bool a)):=by
 have a4:B9 Tryz.prog 4=some false:=by kernel_rfl
 simp[A8,Ca,h,a4,eqC]
theorem st57_2{S:St}{id:Nat}{lv:AV}{a:Bool}{xs ys:List AV}(h:S.mem.get id=some (.box (eqC lv a xs)))(hx:xs.length=6)(hy:ys.length=6):Bl Tryz.prog S 57 (.ptr id 2) (.agg ys)=some (S.put id (eqC lv a ys)):=by
 have h2:(AV.agg ys).noTup=true:=rfl;have e:List.drop 6 xs=[]:=Jc3 (by omega)
 simp[Bl,h,s30,h2,AV.cells,hx,hy,St.put,eqC,e]
theorem cX{kid:Nat→PR PE}{i:Nat}(h:F6 kid i≠.out):kid i≠.out:=fun e=>h (by unfold F6;rw[e];rfl)
include hts
theorem eq_p(h2p:2≤p)(n:Nat)(hn:n≤1000000)(S:St)(i:Nat)(h:Cur S p k ts i)(hp:p<S.next)(hi:i<ts.length)(ho:eqP ts n i≠.out):WC E1 175 [.ptr p 0] S (Ot p k ts S U5 (eqP ts n i)):=by
 have eP:eqP ts n i=(H3 ts n i).bind fun ls j=>(B2 ts [[61]] j).bind fun _ j=>if(tk ts j).text∈[[97,115,121,110,99]]then(F6 (P ts n .call) (j+1)).bind fun e m=>(B2 ts [[59]] m).bind fun _ m=>.ok ⟨ls,true,e⟩ m else(F6 (P ts n .expr) j).bind fun e m=>(B2 ts [[59]] m).bind fun _ m=>.ok ⟨ls,false,e⟩ m:=rfl
 rw[eP]at ho ⊢;clear eP;have rd:Reads p k ts n:=Nx hts h2p n hn;refine WCk Tryz.f175 ?_;obtain⟨fn1,hf1⟩:=fX 217;obtain⟨fn2,hf2⟩:=fX 169;obtain⟨fn3,hf3⟩:=fX 173;obtain⟨fn4,hf4⟩:=fX 218;obtain⟨x1,c1,br,hp1⟩:=tE zC57 h hp;have y2:=x1;simp only[go_sem,Cx,reduceLT,reduceEqDiff,Ae,Tryz.f175,hf1,alo57];have ne1:=Ep ho;refine WC.mono (lefts_p hts h2p n hn _ _ c1 hp1 hi ne1) ?_
 cases hX3:H3 ts n i with
 |out=>exact absurd hX3 ne1
 |bad a e =>
  rintro _ ⟨S3,rfl,x3⟩;simp only[A9,Bf,A7];exact⟨_,rfl,y2.trans x3⟩
 |ok ls j3 =>
  rw[hX3]at ho;rw[Bs]at ho ⊢;rintro _ ⟨lv,S3,rfl,hlv,x3,c3,hi3⟩;have hp3:p<S3.next:=Ja0 hp1 x3.1;have y4:=(y2).trans x3;have br_4:=br.keep x3;have bq:=b57 lv ls hlv;obtain⟨S5,q5,x5,c5,bd,hp5⟩:=boxG2 sz57 zC57 rfl c3 hp3 (xs:=eqC lv false exZ) rfl;have y6:=(y4).trans x5;have br_6:=br_4.keep x5;have hne:S3.next≠S.next:=by have:=br_4.lt;omega
  simp only[go_sem,reduceLT,reduceEqDiff,hf2,alo57,bq,q5];refine WC.mono (Hq c5 hp5 hi3 hts 1 0 [[61]] (by decide) (by decide)) ?_
  cases hX7:B2 ts [[61]] j3 with
  |out=>exact absurd hX7 (Fa _ _ _)
  |bad a e =>
   rintro _ ⟨S7,rfl,x7⟩;simp only[A9,Bf,A7];exact⟨_,rfl,y6.trans x7⟩
  |ok a7 j7 =>
   rw[hX7]at ho;rw[Bs]at ho ⊢;rintro _ ⟨_,S7,rfl,rfl,x7,c7,hi7⟩;have hp7:p<S7.next:=Ja0 hp5 x7.1;have y8:=(y6).trans x7;have br_8:=br_6.keep x7;have bd_8:=bd.keep x7
   by_cases hm:(tk ts j7).text∈[[97,115,121,110,99]]
   ·rw[if_pos hm]at ho ⊢
    simp only[go_sem,reduceLT,reduceEqDiff,hf3];refine WC.mono (J1 c7 hp7 hi7 hts 1 0 [[97,115,121,110,99]] (by decide) (by decide) hm) ?_
    rintro _ ⟨S9,rfl,x9,c9,hi9,hp9⟩;have y10:=(y8).trans x9;have br_10:=br_8.keep x9;have bd_10:=bd_8.keep x9;have st809:=st57_1 bd_10.get true;obtain⟨px809,pc809,pb809,pr809⟩:=U4 (ys:=eqC lv true exZ) y10 y4.1 bd_10 c9 br_10 hne;have la9:=ld57_1 pb809.get;simp only[go_sem,Fi,reduceLT,reduceEqDiff,D3,hf4,fq1,st809,la9];have ne2:=Ep ho;refine WC.mono (jM hts 219 (P ts n .call) (fX 219) rd.call (qD n hn .call) _ _ pc809 hp9 hi9 (cX ne2)) ?_
    cases hX11:F6 (P ts n .call) (j7+1)with
    |out=>exact absurd hX11 ne2
    |bad a e =>
     rintro _ ⟨S11,rfl,x11⟩;simp only[A9,Bf,A7];exact⟨_,rfl,px809.trans x11⟩
    |ok a11 j11 =>
     rw[hX11]at ho;rw[Bs]at ho ⊢;rintro _ ⟨v11,S11,rfl,hr11,x11,c11,hi11⟩;obtain⟨xs11,rfl,hl11⟩:=RepE.agg hr11;have hp11:p<S11.next:=Ja0 hp9 x11.1;have y12:=(px809).trans x11;have bd_12:=pb809.keep x11;have br_12:=pr809.keep x11;have st859:=st57_2 (a:=true) bd_12.get rfl hl11;obtain⟨px859,pc859,pb859,pr859⟩:=U4 (ys:=eqC lv true xs11) y12 y4.1 bd_12 c11 br_12 hne;simp only[go_sem,reduceLT,reduceEqDiff,hf2,fq2,st859];refine WC.mono (Hq pc859 hp11 hi11 hts 1 0 [[59]] (by decide) (by decide)) ?_
     cases hX13:B2 ts [[59]] j11 with
     |out=>exact absurd hX13 (Fa _ _ _)
     |bad a e =>
      rintro _ ⟨S13,rfl,x13⟩;simp only[A9,Bf,A7];exact⟨_,rfl,px859.trans x13⟩
     |ok a13 j13 =>
      rw[hX13]at ho;rw[Bs]at ho ⊢;rintro _ ⟨_,S13,rfl,rfl,x13,c13,hi13⟩;have hp13:p<S13.next:=Ja0 hp11 x13.1;have y14:=(px859).trans x13;have bd_14:=pb859.keep x13;have br_14:=pr859.keep x13;have lz:=ldG ag57 sz57 bd_14.get (show(eqC lv true xs11).length=8 by simp[eqC,hl11])
      obtain⟨g15,h15,gx,gc⟩:=Xg ag57 sz57 (S0:=S) c13 br_14 rfl (Ja1 _) y14 (xs:=eqC lv true xs11) (by simp[eqC,hl11])
      simp only[go_sem,reduceLT,reduceEqDiff,lz,g15,h15];exact⟨_,_,rfl,⟨lv,xs11,rfl,hlv,hl11,hr11⟩,gx,gc,hi13⟩
   ·rw[if_neg hm]at ho ⊢
    simp only[go_sem,reduceLT,reduceEqDiff,hf3];refine WC.mono (K7 c7 hp7 hi7 hts 1 0 [[97,115,121,110,99]] (by decide) hm) ?_
    rintro _ ⟨S16,rfl,x16,c16,hi16,hp16⟩;have y17:=(y8).trans x16;have br_17:=br_8.keep x16;have bd_17:=bd_8.keep x16;have st816:=st57_1 bd_17.get false;obtain⟨px816,pc816,pb816,pr816⟩:=U4 (ys:=eqC lv false exZ) y17 y4.1 bd_17 c16 br_17 hne;have la16:=ld57_1 pb816.get;simp only[go_sem,Ew,reduceLT,reduceEqDiff,D3,hf4,fq1,st816,la16];have ne2:=Ep ho;refine WC.mono (jM hts 220 (P ts n .expr) (fX 220) rd.expr (qD n hn .expr) _ _ pc816 hp16 hi16 (cX ne2)) ?_
    cases hX18:F6 (P ts n .expr) j7 with
    |out=>exact absurd hX18 ne2
    |bad a e =>
     rintro _ ⟨S18,rfl,x18⟩;simp only[A9,Bf,A7];exact⟨_,rfl,px816.trans x18⟩
    |ok a18 j18 =>
     rw[hX18]at ho;rw[Bs]at ho ⊢;rintro _ ⟨v18,S18,rfl,hr18,x18,c18,hi18⟩;obtain⟨xs18,rfl,hl18⟩:=RepE.agg hr18;have hp18:p<S18.next:=Ja0 hp16 x18.1;have y19:=(px816).trans x18;have bd_19:=pb816.keep x18;have br_19:=pr816.keep x18;have st866:=st57_2 (a:=false) bd_19.get rfl hl18;obtain⟨px866,pc866,pb866,pr866⟩:=U4 (ys:=eqC lv false xs18) y19 y4.1 bd_19 c18 br_19 hne;simp only[go_sem,reduceLT,reduceEqDiff,hf2,fq2,st866];refine WC.mono (Hq pc866 hp18 hi18 hts 1 0 [[59]] (by decide) (by decide)) ?_
     cases hX20:B2 ts [[59]] j18 with
     |out=>exact absurd hX20 (Fa _ _ _)
     |bad a e =>
      rintro _ ⟨S20,rfl,x20⟩;simp only[A9,Bf,A7];exact⟨_,rfl,px866.trans x20⟩
     |ok a20 j20 =>
      rw[hX20]at ho;rw[Bs]at ho ⊢;rintro _ ⟨_,S20,rfl,rfl,x20,c20,hi20⟩;have hp20:p<S20.next:=Ja0 hp18 x20.1;have y21:=(px866).trans x20;have bd_21:=pb866.keep x20;have br_21:=pr866.keep x20;have lz:=ldG ag57 sz57 bd_21.get (show(eqC lv false xs18).length=8 by simp[eqC,hl18])
      obtain⟨g22,h22,gx,gc⟩:=Xg ag57 sz57 (S0:=S) c20 br_21 rfl (Ja1 _) y21 (xs:=eqC lv false xs18) (by simp[eqC,hl18])
      simp only[go_sem,reduceLT,reduceEqDiff,lz,g22,h22];exact⟨_,_,rfl,⟨lv,xs18,rfl,hlv,hl18,hr18⟩,gx,gc,hi20⟩
end
end
section
attribute [local go_sem] T.get_set B1 Ct Ff A6 Bg By if_false if_true ofOpt Bu true_and Bc
inductive EqRows:List AV→List PQ→Prop where
 |nil:EqRows [] []
 |cons (a:AV) (q:PQ) (r:List AV) (l:List PQ) (h:U5 a q) (h2:EqRows r l):EqRows (a :: r) (q :: l)
theorem EqRows.app:∀{es:List AV} {l:List PQ} {a:AV} {e:PQ},EqRows es l→U5 a e→EqRows (es ++ [a]) (l ++ [e]):=fun {es l a e} h h2=>by
 induction es generalizing l with
 |nil=>cases h;exact .cons _ _ _ _ h2 .nil
 |cons x r ih=>cases h with
  |cons _ e2 _ l2 h3 h4=>exact .cons _ _ _ _ h3 (ih h4)
theorem EqRows.len:∀{es:List AV} {l:List PQ},EqRows es l→es.length=l.length:=fun {es l} h=>by
 induction es generalizing l with
 |nil=>cases h;rfl
 |cons a r ih=>cases h with
  |cons _ e _ l2 h h2=>simp[ih h2]
def Zj(lo:Nat)(S:St)(a:AV)(es:List AV):Prop:=(a=.nils∧es=[])∨∃tok,a=.sl tok 0 8 es∧2≤tok∧lo≤tok∧tok<S.next∧S.mem.get tok=some (.tip (es.length*8))
theorem Zj.keep{lo p:Nat}{S S':St}{a:AV}{es:List AV}(h:Zj lo S a es)(k:C4 p S S')(hp:p<lo):Zj lo S' a es:=by
 rcases h with h | ⟨tok,h0,h1,h2,h3,h4⟩
 ·exact .inl h
 ·exact .inr ⟨tok,h0,h1,h2,Ja0 h3 k.1,by rw[k.2 tok h3 (by omega)];exact h4⟩
theorem Zj.put{lo:Nat}{S:St}{a:AV}{es:List AV}(h:Zj lo S a es){b:Nat}{cs ys:List AV}(hb:S.mem.get b=some (.box cs)):Zj lo (S.put b ys) a es:=by
 rcases h with h | ⟨tok,h0,h1,h2,h3,h4⟩
 ·exact .inl h
 ·refine .inr ⟨tok,h0,h1,h2,h3,?_⟩
  rw[D9 (fun e=>by subst e;rw[h4]at hb;cases hb)]
  exact h4
theorem i57:(Tryz.prog.info? 59).map (fun i=>(i.zero,i.size,i.bytes))=some (some (.agg #[.slice none 0 0,.bool false,.int .i64 0,.int .i64 0,.int .i64 0,.string ⟨#[]⟩,.bool false,.slice none 0 0]),8,104):=by kernel_rfl
theorem el47:Fs Tryz.prog 36=some (none,59):=by kernel_rfl
theorem un47:Tryz.prog.underlying 36=some (.slice 59):=by kernel_rfl
theorem zr57:Kb Tryz.prog 59=some (.agg zC57):=by kernel_rfl
theorem row47_1(xs:List AV)(hx:xs.length=8):Bd Tryz.prog 36 1 [(0,.agg xs)]=some (.sl 1 0 8 [.agg xs]):=by
 simp[Bd,el47,sz57,zr57,Cr,Cs,hx]
theorem app47(S:St)(a b:AV):Ej E1 S 36 36 a b=(match Jh Tryz.prog S 36 36 false a b with |some r=>some r |none=>Ds Tryz.prog S 36 36 a b):=rfl
theorem push47{lo:Nat}{S:St}{a:AV}{es:List AV}(h:Zj lo S a es)(hn:2≤S.next)(hlo:lo≤S.next)(xs:List AV)(hx:xs.length=8)(hl:es.length≤2000000):
  ∃S',Ej E1 S 36 36 a (.sl 1 0 8 [.agg xs])=some (.sl S.next 0 8 (es ++ [.agg xs]),S')∧Zj lo S' (.sl S.next 0 8 (es ++ [.agg xs])) (es ++ [.agg xs])∧S.next<S'.next∧∀id,id<lo∨(∃cs,id<S.next∧S.mem.get id=some (.box cs))→S'.mem.get id=S.mem.get id:=by
 obtain⟨i,hi,hz0,hz1,hz2⟩:=G1 i57;have hb1:(es.length+1)*104≤140737488355328:=by omega
 have hb2:es.length+1≤9223372036854775807:=by omega
 rw[app47];rcases h with⟨rfl,rfl⟩ | ⟨tok,rfl,h1,h2,h3,h5⟩
 ·have hM:Jh Tryz.prog S 36 36 false .nils (.sl 1 0 8 [.agg xs])=none:=by
   simp[Jh,el47,hi,hz0,hz1,hz2,K9,un47,Value.cells]
  rw[hM];refine⟨S.grown 1 (([] ++ [AV.agg xs]).length*8),?_,.inr ⟨_,rfl,hn,hlo,Ja5 _,?_⟩,Ja5 _,fun id hid=>?_⟩
  ·simp[Ds,el47,hi,hz0,hz1,hz2,K9,un47,Value.cells]
  ·show(S.mem.set S.next _).get S.next=_
   rw[T.get_set,if_pos rfl]
  ·show(S.mem.set S.next _).get id=_
   rw[T.get_set,if_neg (by rcases hid with h | ⟨_,h,_⟩ <;> omega)]
 ·obtain⟨k,rfl⟩:∃k,tok=k+2:=⟨tok - 2,by omega⟩
  have hM:Jh Tryz.prog S 36 36 false (.sl (k+2) 0 8 es) (.sl 1 0 8 [.agg xs])=none:=by
   simp[Jh,el47,hi,hz0,hz1,hz2,K9,un47,Value.cells]
  rw[hM];refine⟨S.grown (k+2) ((es ++ [AV.agg xs]).length*8),?_,.inr ⟨_,rfl,hn,hlo,Ja5 _,?_⟩,Ja5 _,fun id hid=>?_⟩
  ·simp[Ds,el47,hi,hz0,hz1,hz2,K9,un47,Value.cells,Le,h5,hb1,hb2]
  ·show((S.mem.set (k+2) none).set S.next _).get S.next=_
   rw[T.get_set,if_pos rfl]
  ·show((S.mem.set (k+2) none).set S.next _).get id=_
   rw[T.get_set,if_neg (by rcases hid with h | ⟨_,h,_⟩ <;> omega),T.get_set,if_neg (fun e=>by
    subst e;rcases hid with h | ⟨_,_,h⟩
    ·omega
    ·rw[h5]at h;cases h)]
structure PN where
 name:List UInt8
 pos:Nat
 ins:List PD
 outs:List PD
 vars:List PD
 eqs:List PQ
def H7(nm:List UInt8)(pos:Nat)(a b c d:AV):List AV:=[A2 nm,Bk pos,a,b,c,d]
theorem ag49:B9 Tryz.prog 38=some true:=by kernel_rfl
theorem sz49:Cl Tryz.prog 38=some 6:=by kernel_rfl
def wK:List AV:=H7 [] 0 .nils .nils .nils .nils
theorem alo49(S:St):Ga Tryz.prog S 38=some (.ptr S.next 0,S.newBox wK):=by kernel_rfl
theorem fn5(b:Nat):A3 Tryz.prog 38 (.ptr b 0) 5=some (.ptr b 5):=by kernel_rfl
theorem ld49_5{S:St}{id:Nat}{nm:List UInt8}{pos:Nat}{a b c d:AV}(h:S.mem.get id=some (.box (H7 nm pos a b c d))):A8 Tryz.prog S 36 (.ptr id 5)=some d:=by
 have a47:B9 Tryz.prog 36=some false:=by kernel_rfl
 simp[A8,Ca,h,a47,H7]
theorem st49_5{S:St}{id:Nat}{nm:List UInt8}{pos:Nat}{a b c d:AV}(h:S.mem.get id=some (.box (H7 nm pos a b c d)))(tok off:Nat)(es:List AV):Bl Tryz.prog S 36 (.ptr id 5) (.sl tok off 8 es)=some (S.put id (H7 nm pos a b c (.sl tok off 8 es))):=by
 have h2:(AV.sl tok off 8 es).noTup=true:=rfl;have h3:(AV.sl tok off 8 es).cells=[.sl tok off 8 es]:=rfl;have s47:Cl Tryz.prog 36=some 1:=by kernel_rfl
 simp[Bl,h,s47,h2,h3,St.put,H7]
def Oa(ts:List Tk)(N:Nat):Nat→List PQ→Nat→PR (List PQ)
 |0,_,_=>.out
 |n+1,l,i=>if(tk ts i).text∈[[116,101,108]]then .ok l i else(eqP ts N i).bind fun q j=>Oa ts N n (l ++ [q]) j
def pF:Code:=match Tryz.f111.body with
 |some (.seq _ (.seq _ (.seq _ (.seq _ (.seq _ (.seq _ (.seq _ (.seq _ (.seq _ (.seq (.block _ (.loop c)) _))))))))))=>c
 |some (.seq _ (.seq _ (.seq _ (.seq _ (.seq _ (.seq _ (.seq _ (.seq _ (.seq _ (.seq _ (.seq (.block _ (.loop c)) _)))))))))))=>c
 |some (.seq _ (.seq _ (.seq _ (.seq _ (.seq _ (.seq _ (.seq _ (.seq _ (.seq _ (.seq _ (.seq _ (.seq (.block _ (.loop c)) _))))))))))))=>c
 |_=>.skip
theorem yL{v:AV}{l:List (List UInt8 × Nat)}(h:H8 2 Fg v l):D1 v v=true:=by
 rcases h with⟨rfl,_⟩ | ⟨tok,off,rfl⟩
 ·rfl
 ·have e:Gm (l.map Fg) (l.map Fg)=true:=by
   induction l with
   |nil=>rfl
   |cons a r ih=>simp[Gm,ih,D1,Fg,Il,A2,Bk,eqS,Jx]
  simp[D1,e]
theorem U5.refl{v:AV}{q:PQ}(h:U5 v q):D1 v v=true:=by
 obtain⟨lv,xs,rfl,h1,h2,h3⟩:=h;simp[eqC,D1,Gm,yL h1,gP h3,eqS]
theorem EqRows.refl:∀{es:List AV} {l:List PQ},EqRows es l→Gm es es=true:=fun {es l} h=>by
 induction es generalizing l with
 |nil=>rfl
 |cons a r ih=>cases h with
  |cons _ e _ l2 h h2=>simp[Gm,h.refl,ih h2]
theorem Zj.refl{lo:Nat}{S:St}{a:AV}{es:List AV}{l:List PQ}(h:Zj lo S a es)(h2:EqRows es l):D1 a a=true:=by
 rcases h with⟨rfl,_⟩ | ⟨tok,rfl,_⟩
 ·rfl
 ·simp[D1,h2.refl]
def LoopEqs(p k:Nat)(ts:List Tk)(S0:St)(rb b4:Nat)(nm:List UInt8)(pos:Nat)(a b c:AV)(x:PR (List PQ))(r:O):Prop :=
 (∃t' S' d es l i',r=.out (.exit 0) ⟨t',[]⟩ S'∧t'.get 0=some (.ptr p 0)∧t'.get 2=some (.ptr rb 0)∧t'.get 4=some (.ptr b4 0)∧Has p S' rb wK∧Has p S' b4 (H7 nm pos a b c d)∧Zj S0.next S' d es∧EqRows es l∧C4 p S0 S'∧Cur S' p k ts i'∧i'<ts.length∧p<S'.next∧x=.ok l i') ∨
 (∃t' S' a e,r=.out (.pan (Xj a e)) ⟨t',[]⟩ S'∧C4 p S0 S'∧x=.bad a e)
section
variable {p k:Nat} {ts:List Tk} (hts:TokOk ts)
include hts
theorem fO(h2p:2≤p)(N:Nat)(hN:N≤1000000)(S0:St)(hp0:p<S0.next)(rb b4:Nat)(hrb:S0.next≤rb)(hb4:S0.next≤b4)(hne:b4≠rb)(nm:List UInt8)(pos:Nat)(a b c:AV):∀(n:Nat) (l:List PQ) (i:Nat) (t:T AV) (S:St) (d:AV) (es:List AV),Oa ts N n l i≠.out→n+l.length≤2000000 →
  t.get 0=some (.ptr p 0)→t.get 2=some (.ptr rb 0)→t.get 4=some (.ptr b4 0)→Cur S p k ts i→p<S.next→i<ts.length→Has p S rb wK→Has p S b4 (H7 nm pos a b c d)→Zj S0.next S d es→EqRows es l→C4 p S0 S →
  WX E1 72 (.loop pF) ⟨t,[]⟩ S (LoopEqs p k ts S0 rb b4 nm pos a b c (Oa ts N n l i))
 |0,l,i,t,S,d,es,ho,hnl,h0,h2,h4,h,hp,hi,hr,hb,hq,hf,hx=>absurd rfl ho
 |n+1,l,i,t,S,d,es,ho,hnl,h0,h2,h4,h,hp,hi,hr,hb,hq,hf,hx=>by
  refine Bt (Bp ?_);obtain⟨fn1,hf1⟩:=fX 112;obtain⟨fn2,hf2⟩:=fX 175;have eP:Oa ts N (n+1) l i=if(tk ts i).text∈[[116,101,108]]then .ok l i else(eqP ts N i).bind fun q j=>Oa ts N n (l ++ [q]) j:=rfl
  rw[eP]at ho ⊢;clear eP;have e0:=Gy hi;simp only[go_sem,Bz,Dz,Bv,C9,Bo,C8,reduceLT,reduceEqDiff,Aj,Ak,Tryz.f111,fp0,Hl,hf1,h0,pF];refine WC.mono (O9 _ p k ts i h hp hi 1 0 [[116,101,108]] (by decide)) ?_
  rintro _ ⟨S1,rfl,k1⟩;have x1:=k1.x p;have c1:=h.keep hp k1;have hp1:p<S1.next:=Ja0 hp x1.1;have y2:=(hx).trans x1;have br_2:=hr.keep x1;have bd_2:=hb.keep x1;rw[← e0]
  by_cases hm:(tk ts i).text∈[[116,101,108]]
  ·rw[if_pos hm]
   rw[decide_eq_true hm];simp only[go_sem,De,Db,Eh,Dr,Dc,Hj,A4,Er,Bn,Cd,Ew,Ms,Ge,Gw,reduceLT,reduceEqDiff,Ar];exact .inl ⟨_,_,d,es,l,i,rfl,by simp[T.get_set,h0],by simp[T.get_set,h2],by simp[T.get_set,h4],br_2,bd_2,hq.keep x1 hp0,hf,y2,c1,hi,hp1,rfl⟩
  ·rw[if_neg hm]at ho ⊢
   rw[decide_eq_false hm];simp only[go_sem,De,Db,Eh,Dr,Dc,Hj,A4,Er,Bn,Cd,Fi,Ms,Ge,Gw,reduceLT,reduceEqDiff,Au];refine Dd [(0,true),(1,true),(2,true),(3,true),(1,false),(4,true),(5,true),(6,true),(7,true)] (by kernel_rfl) (by kernel_rfl) ?_
   have ld1:=ld49_5 bd_2.get;simp only[go_sem,C9,reduceLT,reduceEqDiff,Af,Ag,Ah,Aj,Ak,Am,Ir,I1,Km,Hw,Mp,hf2,h0,h4,fn5,ld1];have ne1:=Ep ho;refine WC.mono (eq_p hts h2p N hN _ _ c1 hp1 hi ne1) ?_
   cases hX3:eqP ts N i with
   |out=>exact absurd hX3 ne1
   |bad a e =>
    rintro _ ⟨S3,rfl,x3⟩;simp only[Ib,Df,Ht,I5];exact .inr ⟨_,_,_,_,rfl,y2.trans x3,rfl⟩
   |ok a3 j3 =>
    rw[hX3]at ho;rw[Bs]at ho ⊢;rintro _ ⟨_,S3,rfl,⟨lv,xs,rfl,hlv,hxl,hrx⟩,x3,c3,hi3⟩;have hp3:p<S3.next:=Ja0 hp1 x3.1;have y4:=(y2).trans x3;have br_4:=br_2.keep x3;have bd_4:=bd_2.keep x3;have hxq:(eqC lv a3.async xs).length=8:=by simp[eqC,hxl]
    have ld2:=ld49_5 bd_4.get;have bq:=hq.refl hf;have rw1:=row47_1 (eqC lv a3.async xs) hxq;have hq2:Zj S0.next S3 d es:=hq.keep ((x1).trans x3) hp0;have hle:=y4.1;obtain⟨S5,a5,r5,n5,k5⟩:=push47 hq2 (by omega) hle (eqC lv a3.async xs) hxq (by rw[hf.len];omega)
    have st1:=st49_5 (S:=S5) ((k5 b4 (.inr ⟨_,bd_4.lt,bd_4.get⟩)).trans bd_4.get) S3.next 0 (es ++ [.agg (eqC lv a3.async xs)]);have hb9:Has p S5 b4 (H7 nm pos a b c d):=⟨(k5 b4 (.inr ⟨_,bd_4.lt,bd_4.get⟩)).trans bd_4.get,Nat.lt_trans bd_4.lt n5,bd_4.ne⟩;have hr9:Has p S5 rb wK:=⟨(k5 rb (.inr ⟨_,br_4.lt,br_4.get⟩)).trans br_4.get,Nat.lt_trans br_4.lt n5,br_4.ne⟩;have z9:C4 p S0 S5:=⟨Jb2 hle (Nat.le_of_lt n5),fun id hid hn=>(k5 id (.inl hid)).trans (y4.2 id hid hn)⟩
    have c9:Cur S5 p k ts j3:=(k5 p (.inl hp0)).trans c3;obtain⟨px,pc,pb,pr⟩:=U4 (ys:=H7 nm pos a b c (.sl S3.next 0 8 (es ++ [.agg (eqC lv a3.async xs)]))) z9 hb4 hb9 c9 hr9 hne;simp only[go_sem,C7,Cq,ofOptS,C8,reduceLT,reduceEqDiff,Jy,Ir,gX,I1,Jv,Js,Hw,M8,H9,Ez,Fq,h4,fn5,ld2,bq,rw1,a5,st1];exact fO h2p N hN S0 hp0 rb b4 hrb hb4 hne nm pos a b c n _ _ _ _ _ _ ho (by rw[Ja3];simp;omega) (by simp[T.get_set,h0]) (by simp[T.get_set,h2]) (by simp[T.get_set,h4]) pc (Nat.lt_trans hp3 n5) hi3 pr pb (r5.put hb9.get) (hf.app ⟨lv,xs,rfl,hlv,hxl,hrx⟩) px
end
end
end Go.Ax
