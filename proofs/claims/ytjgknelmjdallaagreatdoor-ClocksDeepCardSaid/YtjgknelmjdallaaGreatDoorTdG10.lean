/- Xc -/
import Derived.Test.YtjgknelmjdallaaGreatDoorTdG9
set_option linter.unusedVariables false
set_option linter.unusedSimpArgs false
noncomputable section
namespace Go.Ax
open Go.RowKit
def Mm (k:Ck) (ck:Fl) (r:O):O:=O.rec (motive:=fun _=>O) (fun e f S=>Ex.rec (motive:=fun _=>O) (k ck f.tmps f.dfr S) (fun i=>.out (.exit i) f S) (.out .ret f S) (fun a=>.out (.pan a) f S) e) .fail r
def P0:Bx:=⟨fun _ _ _ _=>.fail⟩
def Xu:Bx:=⟨fun _ t d S=>.out .normal ⟨t,d⟩ S⟩
def idS:SB:=⟨fun t _=>t⟩
def dstS (n:Nat) (dst:Option Tmp):Option SB:=match dst with
 | none=>some idS
 | some d=>if d < n then some (setS d) else none
theorem R5 {n:Nat} {dst:Option Tmp} {s:SB} (h:dstS n dst=some s) (t:T AV) (d:List Dfr) (a:AV) (S:St):Pr n ⟨t,d⟩ dst a S=.out .normal ⟨s.s t a,d⟩ S:=by
 cases dst with
 | none=>injection h with h; subst h; rfl
 | some x =>
  simp only [dstS] at h
  split at h
  ·rename_i hx
   injection h with h; subst h
   simp only [Pr,if_pos hx,setS_ok]
  ·cases h
def Rf (x y:O):Prop:=x=.fail ∨ x=y
theorem Rf.refl (x:O):Rf x x:=.inr rfl
def CkF (E:Env) (ck:Fl):Prop:=∀ k args S,ck k args S ≠ .fail → (E.F k).isSome=true
def W3 (E:Env) (callK:Fl) (n:Nat) (o:Oper) (f:Fr) (S:St):O:=match Bc E f.tmps S o with
  | .val a S'=>Pr n f o.dst a S'
  | .skip S'=>Pr n f o.dst (.tup []) S'
  | .enter k args S'=>match callK k args S' with
   | .ret a S''=>Pr n f o.dst a S''
   | .pan a S''=>.out (.pan a) f S''
   | .fail=>.fail
  | .dfr fn caps args S'=>Pr n { f with dfr:=⟨fn,caps,args⟩ :: f.dfr } o.dst (.tup []) S'
  | .pan a S'=>.out (.pan a) f S'
  | .fail=>.fail
def retX (s:SB) (k:Bx) (ck:Fl) (t:T AV) (d:List Dfr) (r:R):O:=R.rec (motive:=fun _=>O) (fun a S=>k.c ck (s.s t a) d S) (fun a S=>.out (.pan a) ⟨t,d⟩ S) .fail r
def yieldX (s:SB) (k:Bx) (ck:Fl) (t:T AV) (d:List Dfr) (r:OR):O:=OR.rec (motive:=fun _=>O) (fun a S=>k.c ck (s.s t a) d S) (fun S=>k.c ck (s.s t (.tup [])) d S) (fun f args S=>retX s k ck t d (ck f args S)) (fun fn caps args S=>k.c ck (s.s t (.tup [])) (⟨fn,caps,args⟩ :: d) S) (fun a S=>.out (.pan a) ⟨t,d⟩ S) .fail r
def slowC (E:Env) (o:Oper) (s:SB) (k:Bx):Bx:=⟨fun ck t d S=>yieldX s k ck t d (Ya E t S o)⟩
def lookB (v:VB) (s:SB) (k:Bx):Bx:=⟨fun ck t d S=>Option.rec (motive:=fun _=>O) .fail (fun a=>k.c ck (s.s t a) d S) (v.v t S)⟩
def stC (S:St) (id off:Nat) (b:AV) (kk:St → O) (c:Option Cell):O:=Option.rec (motive:=fun _=>O) .fail (fun c=>Cell.rec (motive:=fun _=>O) (fun cs=>Option.rec (motive:=fun _=>O) .fail (fun r=>kk ⟨S.next,S.mem.set id (some (.box r))⟩) (Qo off (Qg b) cs)) (fun _=>.fail) (fun _=>.fail) c) c
def st1 (sz:Nat) (S:St) (b:AV) (kk:St → O) (a:AV):O:=PV.rec (motive:=fun _=>O) (fun id off=>Bool.rec (motive:=fun _=>O) .fail (stC S id off b kk (S.mem.get id)) (Ri b sz)) (fun _=>.fail) .fail (fun _ _ _ _=>.fail) (fun _=>.fail) (fun _=>.fail) .fail (fun _ _ _ _=>.fail) a.pv
def storeB (sz:Nat) (gx gy:GB) (s:SB) (k:Bx):Bx:=⟨fun ck t d S=>Option.rec (motive:=fun _=>O) .fail (fun a=>Option.rec (motive:=fun _=>O) .fail (fun b=>st1 sz S b (fun S'=>k.c ck (s.s t (.tup [])) d S') a) (gy.g t)) (gx.g t)⟩
def xU (l:List GB) (t:T AV):Option (List AV):=List.rec (motive:=fun _=>Option (List AV)) (some []) (fun g _ ih=>Option.rec (motive:=fun _=>Option (List AV)) none (fun a=>Sy a ih) (g.g t)) l
def callFB (f:FuncId) (args:List GB) (s:SB) (k:Bx):Bx:=⟨fun ck t d S=>Option.rec (motive:=fun _=>O) .fail (fun l=>retX s k ck t d (ck f l S)) (xU args t)⟩
def rZ (s:SB) (k:Bx) (ck:Fl) (t:T AV) (d:List Dfr) (S:St) (args:List AV) (a:AV):O:=match a with
 | .fn (.func f) first caps=>retX s k ck t d (ck f (first ++ args ++ caps) S)
 | _=>.fail
def callCB (g:GB) (args:List GB) (s:SB) (k:Bx):Bx:=⟨fun ck t d S=>Option.rec (motive:=fun _=>O) .fail (fun a=>Option.rec (motive:=fun _=>O) .fail (fun l=>rZ s k ck t d S l a) (xU args t)) (g.g t)⟩
def allocB (z:List AV) (s:SB) (k:Bx):Bx:=⟨fun ck t d S=>k.c ck (s.s t (.ptr S.next 0)) d ⟨Nat.succ S.next,S.mem.set S.next (some (.box z))⟩⟩
def boxB (g:GB) (s:SB) (k:Bx):Bx:=⟨fun ck t d S=>Option.rec (motive:=fun _=>O) .fail (fun a=>Bool.rec (motive:=fun _=>O) .fail (k.c ck (s.s t (.ptr S.next 0)) d ⟨Nat.succ S.next,S.mem.set S.next (some (.box (Qg a)))⟩) (pP a)) (g.g t)⟩
def zeroOf (P:Program) (e:TypeId):Option (List AV):=match P.info? e with
 | some i=>match i.zero with
  | some z=>match Bb 8 z with
   | some a=>if a.noTup then some a.cells else none
   | none=>none
  | none=>none
 | none=>none
def rR (E:Env) (o:Oper) (s:SB) (k:Bx):Bx:=if Iq o then lookB (valV E o) s k else match o.op with
 | .store t x y=>match Fu E.P t with
  | some n=>storeB n (opG E.G x) (opG E.G y) s k
  | none=>P0
 | .alloc e=>match zeroOf E.P e with
  | some z=>allocB z s k
  | none=>P0
 | .box _ x=>boxB (opG E.G x) s k
 | .call c=>match c.callee with
  | .value (.func f)=>callFB f (c.args.toList.map (opG E.G)) s k
  | .value x=>callCB (opG E.G x) (c.args.toList.map (opG E.G)) s k
  | _=>slowC E o s k
 | _=>slowC E o s k
theorem sL (G:Gl) (t:T AV):∀ xs:List Operand,xU (xs.map (opG G)) t=B5 (Ba G t) xs
 | []=>rfl
 | x :: r=>by
  have ih:=sL G t r
  show Option.rec (motive:=fun _=>Option (List AV)) none (fun a=>Sy a (xU (r.map (opG G)) t)) ((opG G x).g t)=_
  rw [ih,Iz]
  simp only [B5]
  cases Ba G t x <;> cases B5 (Ba G t) r <;> rfl
section
variable {E:Env} {n:Nat} {o:Oper} {s:SB} {k:Bx} {ck:Fl} {t:T AV} {d:List Dfr} {S:St}
theorem retX_ok (hs:dstS n o.dst=some s) (r:R):retX s k ck t d r=Mm k.c ck (match r with
   | .ret a S''=>Pr n ⟨t,d⟩ o.dst a S''
   | .pan a S''=>.out (.pan a) ⟨t,d⟩ S''
   | .fail=>.fail):=by
 cases r with
 | ret a S'=>simp only [R5 hs]; rfl
 | pan a S'=>rfl
 | fail=>rfl
theorem slowC_ok (hs:dstS n o.dst=some s):(slowC E o s k).c ck t d S=Mm k.c ck (W3 E ck n o ⟨t,d⟩ S):=by
 show yieldX s k ck t d (Ya E t S o)=_
 rw [Vf]
 unfold W3
 cases Bc E t S o with
 | val a S'=>simp only [R5 hs]; rfl
 | skip S'=>simp only [R5 hs]; rfl
 | enter f args S'=>exact retX_ok hs _
 | dfr fn caps args S'=>simp only [R5 hs]; rfl
 | pan a S'=>rfl
 | fail=>rfl
theorem st1_ok {P:Program} {sz:Nat} {ty:TypeId} {a b:AV} {kk:St → O} (hz:Fu P ty=some sz):st1 sz S b kk a=.fail ∨ ∃ S',Dt P S ty a b=some S' ∧ st1 sz S b kk a=kk S':=by
 unfold st1
 cases hp:a.pv with
 | p id off =>
  rw [pv_p hp]
  show Bool.rec (motive:=fun _=>O) .fail (stC S id off b kk (S.mem.get id)) (Ri b sz)=.fail ∨ ∃ S',_ ∧ Bool.rec (motive:=fun _=>O) .fail (stC S id off b kk (S.mem.get id)) (Ri b sz)=kk S'
  cases hk:Ri b sz with
  | false=>exact .inl rfl
  | true =>
   obtain ⟨k1,k2⟩:=Xt hk
   show stC S id off b kk (S.mem.get id)=.fail ∨ ∃ S',_ ∧ stC S id off b kk (S.mem.get id)=kk S'
   cases hm:S.mem.get id with
   | none=>exact .inl rfl
   | some c =>
    cases c with
    | box cs =>
     show Option.rec (motive:=fun _=>O) .fail (fun r=>kk ⟨S.next,S.mem.set id (some (.box r))⟩) (Qo off (Qg b) cs)=.fail ∨ ∃ S',_ ∧ Option.rec (motive:=fun _=>O) .fail (fun r=>kk ⟨S.next,S.mem.set id (some (.box r))⟩) (Qo off (Qg b) cs)=kk S'
     cases ho:Qo off (Qg b) cs with
     | none=>exact .inl rfl
     | some r =>
      obtain ⟨k3,k4⟩:=V9 _ _ _ _ ho
      rw [Vj] at k3 k4
      refine .inr ⟨⟨S.next,S.mem.set id (some (.box r))⟩,?_,rfl⟩
      simp only [Dt,hm,hz,k1,k2,beq_self_eq_true,Bool.true_and]
      rw [if_pos (by rw [k2] at k3; simpa using k3),k4,k2]
    | tip m=>exact .inl rfl
    | mp es=>exact .inl rfl
 | e=>exact .inl rfl
 | n=>exact .inl rfl
 | l=>exact .inl rfl
 | a=>exact .inl rfl
 | t=>exact .inl rfl
 | no=>exact .inl rfl
 | w=>exact .inl rfl
theorem coreB_ok (hck:CkF E ck) (hs:dstS n o.dst=some s):Rf ((rR E o s k).c ck t d S) (Mm k.c ck (W3 E ck n o ⟨t,d⟩ S)):=by
 have slow:Rf ((slowC E o s k).c ck t d S) (Mm k.c ck (W3 E ck n o ⟨t,d⟩ S)):=.inr (slowC_ok hs)
 unfold rR
 split
 ·rename_i hl
  show Rf (Option.rec (motive:=fun _=>O) .fail (fun a=>k.c ck (s.s t a) d S) ((valV E o).v t S)) _
  cases hv:(valV E o).v t S with
  | none=>exact .inl rfl
  | some a =>
   have:=valV_ok hl t S a hv
   refine .inr ?_
   simp only [W3,this,R5 hs]; rfl
 ·split
  ·rename_i ty x y ho
   split
   ·rename_i sz hz
    show Rf (Option.rec (motive:=fun _=>O) .fail (fun a=>Option.rec (motive:=fun _=>O) .fail (fun b=>st1 sz S b (fun S'=>k.c ck (s.s t (.tup [])) d S') a) ((opG E.G y).g t)) ((opG E.G x).g t)) _
    rw [Iz,Iz]
    cases hx:Ba E.G t x with
    | none=>exact .inl rfl
    | some a =>
     cases hy:Ba E.G t y with
     | none=>exact .inl rfl
     | some b =>
      show Rf (st1 sz S b (fun S'=>k.c ck (s.s t (.tup [])) d S') a) _
      rcases st1_ok (S:=S) (a:=a) (b:=b) (kk:=fun S'=>k.c ck (s.s t (.tup [])) d S') hz with h | ⟨S',h1,h2⟩
      ·exact .inl h
      ·refine .inr (h2.trans ?_)
       simp only [W3,Bc,ho,hx,hy,h1,R5 hs]; rfl
   ·exact .inl rfl
  ·rename_i e ho
   split
   ·rename_i z hz
    refine .inr ?_
    unfold zeroOf at hz
    split at hz
    ·rename_i i hi
     split at hz
     ·rename_i z0 hz0
      split at hz
      ·rename_i a ha
       split at hz
       ·rename_i hn
        injection hz with hz; subst hz
        simp only [W3,Bc,ho,Js,hi,hz0,ha,if_pos hn,ofOptS,R5 hs]; rfl
       ·cases hz
      ·cases hz
     ·cases hz
    ·cases hz
   ·exact .inl rfl
  ·rename_i e x ho
   show Rf (Option.rec (motive:=fun _=>O) .fail (fun a=>Bool.rec (motive:=fun _=>O) .fail (k.c ck (s.s t (.ptr S.next 0)) d ⟨Nat.succ S.next,S.mem.set S.next (some (.box (Qg a)))⟩) (pP a)) ((opG E.G x).g t)) _
   rw [Iz]
   cases hx:Ba E.G t x with
   | none=>exact .inl rfl
   | some a =>
    show Rf (Bool.rec (motive:=fun _=>O) .fail (k.c ck (s.s t (.ptr S.next 0)) d ⟨Nat.succ S.next,S.mem.set S.next (some (.box (Qg a)))⟩) (pP a)) _
    rw [vK,Vj]
    cases hn:a.noTup with
    | false=>exact .inl rfl
    | true =>
     refine .inr ?_
     simp only [W3,Bc,ho,hx,if_pos hn,R5 hs]; rfl
  ·rename_i c ho
   have fnc:∀ (g:AV) (l:List AV),(∃ x,c.callee=.value x ∧ Ba E.G t x=some g) → B5 (Ba E.G t) c.args.toList=some l → Rf (rZ s k ck t d S l g) (Mm k.c ck (W3 E ck n o ⟨t,d⟩ S)):=by
    rintro g l ⟨x,hc,hx⟩ hl
    unfold rZ
    split
    ·rename_i f first caps
     cases hF:E.F f with
     | none =>
      have:ck f (first ++ l ++ caps) S=.fail:=by
       cases hr:ck f (first ++ l ++ caps) S with
       | fail=>rfl
       | ret a S'=>have:=hck f (first ++ l ++ caps) S (by rw [hr]; exact fun e=>by cases e); rw [hF] at this; cases this
       | pan a S'=>have:=hck f (first ++ l ++ caps) S (by rw [hr]; exact fun e=>by cases e); rw [hF] at this; cases this
      rw [this]; exact .inl rfl
     | some fn =>
      refine .inr ?_
      rw [retX_ok hs]
      simp only [W3,Bc,ho,Bm,hc,hx,hl,hF]
    ·exact .inl rfl
   split
   ·rename_i f hc
    show Rf (Option.rec (motive:=fun _=>O) .fail (fun l=>retX s k ck t d (ck f l S)) (xU (c.args.toList.map (opG E.G)) t)) _
    rw [sL]
    cases hl:B5 (Ba E.G t) c.args.toList with
    | none=>exact .inl rfl
    | some l =>
     have:=fnc (.fn (.func f) [] []) l ⟨_,hc,rfl⟩ hl
     simpa [rZ] using this
   ·rename_i x hc hne
    show Rf (Option.rec (motive:=fun _=>O) .fail (fun a=>Option.rec (motive:=fun _=>O) .fail (fun l=>rZ s k ck t d S l a) (xU (c.args.toList.map (opG E.G)) t)) ((opG E.G x).g t)) _
    rw [sL,Iz]
    cases hx:Ba E.G t x with
    | none=>exact .inl rfl
    | some g =>
     cases hl:B5 (Ba E.G t) c.args.toList with
     | none=>exact .inl rfl
     | some l=>exact fnc g l ⟨x,hne,hx⟩ hl
   ·exact slow
  ·exact slow
def oE (s:SB) (k:Bx):Bx:=⟨fun ck t d S=>k.c ck (s.s t (.tup [])) d S⟩
def Pz (a:AV):Bool:=PV.rec (motive:=fun _=>Bool) (fun _ _=>false) (fun _=>false) false (fun _ _ _ _=>false) (fun _=>false) (fun _=>true) false (fun _ _ _ _=>false) a.pv
def sameB (x y:Bool):Bool:=Bool.rec (motive:=fun _=>Bool) (notR y) y x
def guard1 (want:Bool) (x y:Bx) (a:AV):Bx:=SV.rec (motive:=fun _=>Bx) (fun b=>Bool.rec (motive:=fun _=>Bx) y x (sameB b want)) (fun _ _=>P0) (fun _=>P0) (Bool.rec (motive:=fun _=>Bx) P0 y (Pz a)) a.sv
def guardB (g:GB) (want:Bool) (x y:Bx):Bx:=⟨fun ck t d S=>Option.rec (motive:=fun _=>O) .fail (fun a=>(guard1 want x y a).c ck t d S) (g.g t)⟩
def opB (E:Env) (n:Nat) (ops:Array Oper) (o:Oper) (k:Bx):Bx:=match dstS n o.dst with
 | none=>P0
 | some s=>match o.guard with
  | none=>rR E o s k
  | some (j,want)=>match (ops[j]?).bind (·.dst) with
   | none=>oE s k
   | some d=>guardB (getG d) want (rR E o s k) (oE s k)
theorem opB_ok {ops:Array Oper} (hck:CkF E ck):Rf ((opB E n ops o k).c ck t d S) (Mm k.c ck (Gv E ck n ops o ⟨t,d⟩ S)):=by
 unfold opB
 split
 ·exact .inl rfl
 ·rename_i s hs
  have skip:(oE s k).c ck t d S=Mm k.c ck (Pr n ⟨t,d⟩ o.dst (.tup []) S):=by rw [R5 hs]; rfl
  have core:=coreB_ok (E:=E) (n:=n) (o:=o) (k:=k) (t:=t) (d:=d) (S:=S) hck hs
  split
  ·rename_i hg
   have:Gv E ck n ops o ⟨t,d⟩ S=W3 E ck n o ⟨t,d⟩ S:=by unfold Gv A5; rw [hg]; rfl
   rw [this]; exact core
  ·rename_i j want hg
   split
   ·rename_i hj
    have:Gv E ck n ops o ⟨t,d⟩ S=Pr n ⟨t,d⟩ o.dst (.tup []) S:=by unfold Gv A5; rw [hg]; simp only [hj]
    rw [this]; exact .inr skip
   ·rename_i d0 hj
    show Rf (Option.rec (motive:=fun _=>O) .fail (fun a=>(guard1 want (rR E o s k) (oE s k) a).c ck t d S) ((getG d0).g t)) _
    rw [dK]
    cases hx:t.get d0 with
    | none=>exact .inl rfl
    | some a =>
     show Rf ((guard1 want (rR E o s k) (oE s k) a).c ck t d S) _
     unfold guard1
     cases hv:a.sv with
     | b b =>
      have ha:=sv_b hv
      subst ha
      have hw:A5 ops o t=some (b == want):=by unfold A5; rw [hg]; simp only [hj,hx]
      show Rf ((Bool.rec (motive:=fun _=>Bx) (oE s k) (rR E o s k) (sameB b want)).c ck t d S) _
      have hb:sameB b want=(b == want):=by cases b <;> cases want <;> rfl
      rw [hb]
      cases hbw:(b == want) with
      | false =>
       have:Gv E ck n ops o ⟨t,d⟩ S=Pr n ⟨t,d⟩ o.dst (.tup []) S:=by unfold Gv; simp only [hw,hbw]
       rw [this]; exact .inr skip
      | true =>
       have:Gv E ck n ops o ⟨t,d⟩ S=W3 E ck n o ⟨t,d⟩ S:=by unfold Gv; simp only [hw,hbw]; rfl
       rw [this]; exact core
     | i=>exact .inl rfl
     | s=>exact .inl rfl
     | no =>
      show Rf ((Bool.rec (motive:=fun _=>Bx) P0 (oE s k) (Pz a)).c ck t d S) _
      cases hp:a.pv with
      | t vs =>
       have:Pz a=true:=by unfold Pz; rw [hp]
       rw [this]
       have ha:=pv_t hp
       subst ha
       have hw:A5 ops o t=some false:=by unfold A5; rw [hg]; simp only [hj,hx]
       have:Gv E ck n ops o ⟨t,d⟩ S=Pr n ⟨t,d⟩ o.dst (.tup []) S:=by unfold Gv; simp only [hw]
       rw [this]; exact .inr skip
      | p =>
       have:Pz a=false:=by unfold Pz; rw [hp]
       rw [this]; exact .inl rfl
      | e =>
       have:Pz a=false:=by unfold Pz; rw [hp]
       rw [this]; exact .inl rfl
      | n =>
       have:Pz a=false:=by unfold Pz; rw [hp]
       rw [this]; exact .inl rfl
      | l =>
       have:Pz a=false:=by unfold Pz; rw [hp]
       rw [this]; exact .inl rfl
      | a =>
       have:Pz a=false:=by unfold Pz; rw [hp]
       rw [this]; exact .inl rfl
      | no =>
       have:Pz a=false:=by unfold Pz; rw [hp]
       rw [this]; exact .inl rfl
      | w =>
       have:Pz a=false:=by unfold Pz; rw [hp]
       rw [this]; exact .inl rfl
def opsB (E:Env) (n:Nat) (ops:Array Oper) (l:List Oper):Bx → Bx:=List.rec (motive:=fun _=>Bx → Bx) (fun k=>k) (fun o _ ih k=>opB E n ops o (ih k)) l
end
theorem opsB_ok {E:Env} {n:Nat} {ops:Array Oper} {ck:Fl} (hck:CkF E ck) (k:Bx):∀ (l:List Oper) (t:T AV) (d:List Dfr) (S:St),Rf ((opsB E n ops l k).c ck t d S) (Mm k.c ck (oN E ck n ops l ⟨t,d⟩ S))
 | [],t,d,S=>.inr rfl
 | o :: r,t,d,S=>by
  have h:=opB_ok (E:=E) (n:=n) (o:=o) (ops:=ops) (k:=opsB E n ops r k) (t:=t) (d:=d) (S:=S) hck
  show Rf ((opB E n ops o (opsB E n ops r k)).c ck t d S) _
  rcases h with h | h
  ·exact .inl h
  ·rw [h]
   unfold oN
   cases Gv E ck n ops o ⟨t,d⟩ S with
   | fail=>exact .inl rfl
   | out e f' S' =>
    cases e with
    | normal=>exact opsB_ok hck k r f'.tmps f'.dfr S'
    | exit i=>exact .inr rfl
    | ret=>exact .inr rfl
    | pan a=>exact .inr rfl
def re1 (k:Bx) (ck:Fl) (t:T AV) (d:List Dfr) (S:St) (b a:Option AV):O:=Option.rec (motive:=fun _=>O) .fail (fun b=>Option.rec (motive:=fun _=>O) .fail (fun a=>Bool.rec (motive:=fun _=>O) .fail (k.c ck t d S) (Gj b a)) a) b
def reB (E:Env) (ops:Array Oper) (o:Oper) (k:Bx):Bx:=match o.guard,o.dst,Iq o with
 | none,some d0,true=>⟨fun ck t d S=>re1 k ck t d S ((getG d0).g t) ((valV E o).v t S)⟩
 | _,_,_=>⟨fun ck t d S=>Bool.rec (motive:=fun _=>O) .fail (k.c ck t d S) (D6 E ops o t S)⟩
theorem reB_ok {E:Env} {ops:Array Oper} {o:Oper} {k:Bx} {ck:Fl} {t:T AV} {d:List Dfr} {S:St}:Rf ((reB E ops o k).c ck t d S) (if D6 E ops o t S then k.c ck t d S else .fail):=by
 have slow:Rf (Bool.rec (motive:=fun _=>O) .fail (k.c ck t d S) (D6 E ops o t S)) (if D6 E ops o t S then k.c ck t d S else .fail):=by
  cases D6 E ops o t S <;> exact .inr rfl
 unfold reB
 split
 ·rename_i d0 hg hd hl
  show Rf (re1 k ck t d S ((getG d0).g t) ((valV E o).v t S)) _
  rw [dK]
  cases hb:t.get d0 with
  | none=>exact .inl rfl
  | some b =>
   cases hv:(valV E o).v t S with
   | none=>exact .inl rfl
   | some a =>
    have h1:=valV_ok hl t S a hv
    have h2:Em E ops o t S=some a:=by unfold Em A5; rw [hg]; simp only [h1]
    have h3:D6 E ops o t S=Gj b a:=by unfold D6; rw [h2,hd]; simp only [hb]
    rw [h3]
    show Rf (Bool.rec (motive:=fun _=>O) .fail (k.c ck t d S) (Gj b a)) _
    cases Gj b a <;> exact .inr rfl
 ·exact slow
def rsB (E:Env) (n:Nat) (ops:Array Oper) (l:List RS):Bx → Bx:=List.rec (motive:=fun _=>Bx → Bx) (fun k=>k) (fun s _ ih k=>RS.rec (motive:=fun _=>Bx) (fun o=>opB E n ops o (ih k)) (fun o=>reB E ops o (ih k)) s) l
theorem fV {E:Env} {n:Nat} {ops:Array Oper} {ck:Fl} (hck:CkF E ck) (k:Bx):∀ (l:List RS) (t:T AV) (d:List Dfr) (S:St),Rf ((rsB E n ops l k).c ck t d S) (Mm k.c ck (F1 E ck n ops l ⟨t,d⟩ S))
 | [],t,d,S=>.inr rfl
 | .op o :: r,t,d,S=>by
  have h:=opB_ok (E:=E) (n:=n) (o:=o) (ops:=ops) (k:=rsB E n ops r k) (t:=t) (d:=d) (S:=S) hck
  show Rf ((opB E n ops o (rsB E n ops r k)).c ck t d S) _
  rcases h with h | h
  ·exact .inl h
  ·rw [h]
   have e:F1 E ck n ops (.op o :: r) ⟨t,d⟩ S=match Gv E ck n ops o ⟨t,d⟩ S with
    | .out .normal f' S'=>F1 E ck n ops r f' S'
    | r=>r:=rfl
   rw [e]
   cases Gv E ck n ops o ⟨t,d⟩ S with
   | fail=>exact .inl rfl
   | out e f' S' =>
    cases e with
    | normal=>exact fV hck k r f'.tmps f'.dfr S'
    | exit i=>exact .inr rfl
    | ret=>exact .inr rfl
    | pan a=>exact .inr rfl
 | .re o :: r,t,d,S=>by
  have h:=reB_ok (E:=E) (o:=o) (ops:=ops) (k:=rsB E n ops r k) (ck:=ck) (t:=t) (d:=d) (S:=S)
  show Rf ((reB E ops o (rsB E n ops r k)).c ck t d S) _
  have e:F1 E ck n ops (.re o :: r) ⟨t,d⟩ S=if D6 E ops o t S then F1 E ck n ops r ⟨t,d⟩ S else .fail:=rfl
  rw [e]
  rcases h with h | h
  ·exact .inl h
  ·rw [h]
   cases D6 E ops o t S with
   | false=>exact .inl rfl
   | true=>exact fV hck k r t d S
def drawS (E:Env) (n:Nat) (ops:Array Oper) (k:Bx):Bx:=⟨fun ck t d S=>Mm k.c ck (aV E ck n ops ⟨t,d⟩ S)⟩
def Y0 (l:List RS):Bool:=l.all fun s=>match s with
 | .op o=>Iq o
 | .re _=>true
def fixB (E:Env) (n:Nat) (ops:Array Oper) (l:List RS) (k:Bx):Bx:=⟨fun ck t d S=>Mm k.c ck (Q8 ⟨I3 ops.toList t,d⟩ ((rsB E n ops l Xu).c ck t d S))⟩
def drawO (E:Env) (n:Nat) (ops:Array Oper) (k:Bx):Bx :=
 let ms:=bm ops.toList []
 let order:=Rb ops ms ops.size (List.range ops.size) 0
 if Vx ops ms order then (match Rg ops ms order [] with
  | some rs=>if Y0 rs then rsB E n ops rs k else fixB E n ops rs k
  | none=>drawS E n ops k) else drawS E n ops k
def drawF (E:Env) (n:Nat) (ops:Array Oper) (x:FlP) (k:Bx):Bx:=match Vo ops x with
 | some rs=>if x.d < n then ⟨fun ck t d S=>Mm k.c ck (Q8 ⟨I3 ops.toList t,d⟩ ((rsB E n ops rs Xu).c ck (T.set t x.d none) d S))⟩ else P0
 | none=>P0
def drawM (E:Env) (n:Nat) (ops:Array Oper) (x:MkX) (k:Bx):Bx:=match cZ ops x with
 | some rs=>if mkFit E.P n ops x=true then ⟨fun ck t d S=>Mm k.c ck (Q8 ⟨I3 ops.toList t,d⟩ ((rsB E n ops rs Xu).c ck (Nz E.P ops x.mks t) d S))⟩ else P0
 | none=>P0
def eE (E:Env) (n:Nat) (ops:Array Oper) (k:Bx):Bx:=match Ss E.P ops with
 | some x=>drawF E n ops x k
 | none=>match Wf E.P ops with
  | some x=>drawM E n ops x k
  | none=>drawO E n ops k
theorem Ws (ck:Fl) (r:O):Mm Xu.c ck r=r:=by
 cases r with
 | fail=>rfl
 | out e f S=>cases e <;> rfl
theorem Xk {E:Env} {ck:Fl} {n:Nat} {ops:Array Oper} {fb:Fr}:∀ (l:List RS) (f:Fr) (S:St),Y0 l=true → Q8 fb (F1 E ck n ops l f S)=F1 E ck n ops l f S
 | [],f,S,h=>rfl
 | .op o :: r,f,S,h=>by
  unfold Y0 at h
  rw [List.all_cons,Bool.and_eq_true] at h
  have e:F1 E ck n ops (.op o :: r) f S=match Gv E ck n ops o f S with
    | .out .normal f' S'=>F1 E ck n ops r f' S'
    | r=>r:=rfl
  rw [e,Uh,Sh h.1]
  cases Em E ops o f.tmps S with
  | none=>rfl
  | some a =>
   simp only
   rw [Rz]
   cases okD n o.dst with
   | false=>rfl
   | true=>exact Xk r _ S h.2
 | .re o :: r,f,S,h=>by
  unfold Y0 at h
  rw [List.all_cons,Bool.and_eq_true] at h
  have e:F1 E ck n ops (.re o :: r) f S=if D6 E ops o f.tmps S then F1 E ck n ops r f S else .fail:=rfl
  rw [e]
  cases D6 E ops o f.tmps S with
  | false=>rfl
  | true=>exact Xk r f S h.2
theorem drawO_ok {E:Env} {n:Nat} {ops:Array Oper} {ck:Fl} (hck:CkF E ck) (k:Bx) (t:T AV) (d:List Dfr) (S:St):Rf ((drawO E n ops k).c ck t d S) (Mm k.c ck (Jn E ck n ops ⟨t,d⟩ S)):=by
 have slow:Rf ((drawS E n ops k).c ck t d S) (Mm k.c ck (Jn E ck n ops ⟨t,d⟩ S)):=by
  refine .inr ?_
  show Mm k.c ck (aV E ck n ops ⟨t,d⟩ S)=_
  rw [iM]
 unfold drawO
 simp only
 split
 ·rename_i hst
  split
  ·rename_i rs hrs
   have e:F1 E ck n ops rs ⟨t,d⟩ S=.fail ∨ Jn E ck n ops ⟨t,d⟩ S=Q8 ⟨I3 ops.toList t,d⟩ (F1 E ck n ops rs ⟨t,d⟩ S):=by
    unfold Jn
    simp only
    rw [if_pos hst]
    exact Ot _ rs _ _ [] hrs (fun _ h=>absurd h List.not_mem_nil)
   split
   ·rename_i hlk
    have h:=fV (E:=E) (n:=n) (ops:=ops) hck k rs t d S
    rcases h with h | h
    ·exact .inl h
    ·rw [h]
     rcases e with e | e
     ·rw [e]; exact .inl rfl
     ·rw [e,Xk rs _ _ hlk]; exact .inr rfl
   ·have h:=fV (E:=E) (n:=n) (ops:=ops) hck Xu rs t d S
    rw [Ws] at h
    show Rf (Mm k.c ck (Q8 ⟨I3 ops.toList t,d⟩ ((rsB E n ops rs Xu).c ck t d S))) _
    rcases h with h | h
    ·rw [h]; exact .inl rfl
    ·rw [h]
     rcases e with e | e
     ·rw [e]; exact .inl rfl
     ·rw [e]; exact .inr rfl
  ·exact slow
 ·exact slow
theorem drawB_ok {E:Env} {n:Nat} {ops:Array Oper} {ck:Fl} (hck:CkF E ck) (k:Bx) (t:T AV) (d:List Dfr) (S:St):Rf ((eE E n ops k).c ck t d S) (Mm k.c ck (Dm E ck n ops ⟨t,d⟩ S)):=by
 cases hx:Ss E.P ops with
 | some x =>
  have e1:eE E n ops k=drawF E n ops x k:=by unfold eE; rw [hx]
  have e2:Dm E ck n ops ⟨t,d⟩ S=Wr E x ck n ops ⟨t,d⟩ S:=by unfold Dm; rw [hx]
  rw [e1,e2]
  unfold drawF Wr
  cases hrs:Vo ops x with
  | none=>exact .inl rfl
  | some rs =>
   simp only
   split
   ·have h:=fV (E:=E) (n:=n) (ops:=ops) hck Xu rs (T.set t x.d none) d S
    rw [Ws] at h
    show Rf (Mm k.c ck (Q8 ⟨I3 ops.toList t,d⟩ ((rsB E n ops rs Xu).c ck (T.set t x.d none) d S))) _
    rcases h with h | h
    ·rw [h]; exact .inl rfl
    ·rw [h]; exact .inr rfl
   ·exact .inl rfl
 | none =>
  cases hy:Wf E.P ops with
  | some x =>
   have e1:eE E n ops k=drawM E n ops x k:=by unfold eE; rw [hx]; simp only [hy]
   have e2:Dm E ck n ops ⟨t,d⟩ S=Wq E x ck n ops ⟨t,d⟩ S:=by unfold Dm; rw [hx]; simp only [hy]
   rw [e1,e2]
   unfold drawM Wq
   cases hrs:cZ ops x with
   | none=>exact .inl rfl
   | some rs =>
    simp only
    cases hc:mkFit E.P n ops x with
    | true =>
     have h:=fV (E:=E) (n:=n) (ops:=ops) hck Xu rs (Nz E.P ops x.mks t) d S
     rw [Ws] at h
     rw [if_pos rfl,if_pos rfl]
     show Rf (Mm k.c ck (Q8 ⟨I3 ops.toList t,d⟩ ((rsB E n ops rs Xu).c ck (Nz E.P ops x.mks t) d S))) _
     rcases h with h | h
     ·rw [h]; exact .inl rfl
     ·rw [h]; exact .inr rfl
    | false=>rw [if_neg (by simp),if_neg (by simp)]; exact .inl rfl
  | none =>
   have e1:eE E n ops k=drawO E n ops k:=by unfold eE; rw [hx]; simp only [hy]
   have e2:Dm E ck n ops ⟨t,d⟩ S=Jn E ck n ops ⟨t,d⟩ S:=by unfold Dm; rw [hx]; simp only [hy]
   rw [e1,e2]
   exact drawO_ok hck k t d S
def Zf (E:Env):N9:=fun ck n ops f S=>match Ss E.P ops with
 | some x=>Wr E x ck n ops f S
 | none=>match Wf E.P ops with
  | some x=>Wq E x ck n ops f S
  | none=>aV E ck n ops f S
theorem drawnNewR_eq (E:Env):Zf E=Dm E:=by
 unfold Zf
 rw [iM]
 rfl
end Go.Ax
noncomputable section
namespace Go.Ax
open Go.RowKit
theorem yP {E:Env} {D:N9} {callK:Fl} {rec:Nat → Code → Fr → St → O} (hE:E.Ok) (hD:Wy E D) (hC:∀ base w0,Pq E base w0 callK) (hR:CodeOk E rec):CodeOk E (Ft E D rec callK):=by
 have loop:∀ (base:Nat) (w0:World) (Q:Exit → Act → World → Prop) (n:Nat) (c:Code) (γ:Gh) (S:St) (w:World) (f:Fr) (act:Act),SR base w0 γ S w → AR γ w n f act → GR γ w E.G →
   N8 base w0 n γ S w Q (Ft E D rec callK n (.loop c) f S) → LWp E.P c Q act w:=by
  intro base w0 Q n c γ S w f act hS ha hg hH
  refine LWp.round (hR.code base w0 _ n c γ S w f act hS ha hg ?_)
  unfold Ft at hH
  simp only at hH
  split at hH
  ·rename_i f' S' hr
   rw [hr]
   intro γ' act' w' k1 k2 k3
   exact hR.loop base w0 Q n c γ' S' w' f' act' k1 k3 (hg.mono k2.ev) (hH.later k2)
  ·rename_i r hr
   cases hst:rec n c f S with
   | fail=>rw [hst] at hH; exact hH.elim
   | out e f' S' =>
    rw [hst] at hH
    intro γ' act' w' k1 k2 k3
    have:=hH γ' act' w' k1 k2 k3
    cases e with
    | normal=>exact absurd hst (hr f' S')
    | exit id=>exact this
    | ret=>exact this
    | pan a=>exact this
 refine ⟨fun base w0 Q n c γ S w f act hS ha hg hH=>?_,loop⟩
 cases c with
 | skip=>exact wp_skip (hH γ act w hS (.refl _ _ _) ha)
 | label l=>exact wp_label (hH γ act w hS (.refl _ _ _) ha)
 | region id ops draw =>
  cases draw with
  | false=>exact wp_region_list (aB hE (hC base w0) _ γ S w f act hS ha hg hH)
  | true=>exact hD base w0 Q _ (hC base w0) n id ops γ S w f act hS ha hg hH
 | seq x y =>
  refine wp_seq (hR.code base w0 _ n x γ S w f act hS ha hg ?_)
  unfold Ft at hH
  simp only at hH
  split at hH
  ·rename_i f' S' hr
   rw [hr]
   intro γ' act' w' k1 k2 k3
   exact hR.code base w0 Q n y γ' S' w' f' act' k1 k3 (hg.mono k2.ev) (hH.later k2)
  ·rename_i r hr
   cases hst:rec n x f S with
   | fail=>rw [hst] at hH; exact hH.elim
   | out e f' S' =>
    rw [hst] at hH
    intro γ' act' w' k1 k2 k3
    have:=hH γ' act' w' k1 k2 k3
    cases e with
    | normal=>exact absurd hst (hr f' S')
    | exit id=>exact this
    | ret=>exact this
    | pan a=>exact this
 | cond c x y =>
  unfold Ft at hH
  simp only at hH
  split at hH
  ·rename_i hc
   have hv:=Gf ha.tmps hg hc
   generalize hq:act.eval c=q at hv
   cases hv
   exact wp_cond_true hq (hR.code base w0 Q n x γ S w f act hS ha hg hH)
  ·rename_i hc
   have hv:=Gf ha.tmps hg hc
   generalize hq:act.eval c=q at hv
   cases hv
   exact wp_cond_false hq (hR.code base w0 Q n y γ S w f act hS ha hg hH)
  ·exact hH.elim
 | block id c =>
  refine wp_block (hR.code base w0 _ n c γ S w f act hS ha hg ?_)
  unfold Ft at hH
  simp only at hH
  split at hH
  ·rename_i id' f' S' hr
   rw [hr]
   intro γ' act' w' k1 k2 k3
   show if id' = id then Q .normal act' w' else Q (.exit id') act' w'
   split
   ·rename_i he
    rw [if_pos he] at hH
    exact hH γ' act' w' k1 k2 k3
   ·rename_i he
    rw [if_neg he] at hH
    exact hH γ' act' w' k1 k2 k3
  ·rename_i r hr
   cases hst:rec n c f S with
   | fail=>rw [hst] at hH; exact hH.elim
   | out e f' S' =>
    rw [hst] at hH
    intro γ' act' w' k1 k2 k3
    have:=hH γ' act' w' k1 k2 k3
    cases e with
    | normal=>exact this
    | exit id'=>exact absurd hst (hr id' f' S')
    | ret=>exact this
    | pan a=>exact this
 | loop c=>exact (loop base w0 Q n c γ S w f act hS ha hg hH).loop
 | exit id=>exact wp_exit (hH γ act w hS (.refl _ _ _) ha)
 | ret=>exact wp_ret (hH γ act w hS (.refl _ _ _) ha)
 | rangeFunc=>exact hH.elim
 | scope=>exact hH.elim
 | goto=>exact hH.elim
 | refuse=>exact hH.elim
def Jv (E:Env) (D:N9) (ck:Fl):Nat → Nat → Code → Fr → St → O :=
 Nat.rec (fun _ _ _ _=>.fail) (fun _ ih=>Ft E D ih ck)
theorem aC {E:Env} {D:N9} {ck:Fl} (hE:E.Ok) (hD:Wy E D) (hC:∀ base w0,Pq E base w0 ck):∀ m,CodeOk E (Jv E D ck m)
 | 0=>⟨fun _ _ _ _ _ _ _ _ _ _ _ _ _ h=>h.elim,fun _ _ _ _ _ _ _ _ _ _ _ _ _ h=>h.elim⟩
 | m + 1=>yP hE hD hC (aC hE hD hC m)
theorem uO {E:Env} {D:N9} {ck:Fl}:∀ (m n:Nat) (c:Code) (f:Fr) (S:St),Jv E D ck m n c f S ≠ .fail → Jv E D ck (m + 1) n c f S=Jv E D ck m n c f S
 | 0,n,c,f,S,h=>absurd rfl h
 | m + 1,n,c,f,S,h=>by
  have ih:=uO (E:=E) (D:=D) (ck:=ck) m
  have e1:∀ m n c f S,Jv E D ck (m + 1) n c f S=Ft E D (Jv E D ck m) ck n c f S:=fun _ _ _ _ _=>rfl
  rw [e1] at h ⊢
  rw [e1 m]
  have sub:∀ (c:Code) (f:Fr) (S:St) (r:O),Jv E D ck m n c f S=r → r ≠ .fail → Jv E D ck (m + 1) n c f S=r:=fun c f S r hr hne=>(ih n c f S (by rw [hr]; exact hne)).trans hr
  cases c with
  | seq a b =>
   simp only [Ft] at h ⊢
   cases hr:Jv E D ck m n a f S with
   | fail=>rw [hr] at h; exact absurd rfl h
   | out e f' S' =>
    rw [sub _ _ _ _ hr (fun e=>by cases e)]
    rw [hr] at h
    cases e with
    | normal=>exact ih n b f' S' h
    | _=>rfl
  | loop a =>
   simp only [Ft] at h ⊢
   cases hr:Jv E D ck m n a f S with
   | fail=>rw [hr] at h; exact absurd rfl h
   | out e f' S' =>
    rw [sub _ _ _ _ hr (fun e=>by cases e)]
    rw [hr] at h
    cases e with
    | normal=>exact ih n (.loop a) f' S' h
    | _=>rfl
  | block id a =>
   simp only [Ft] at h ⊢
   cases hr:Jv E D ck m n a f S with
   | fail=>rw [hr] at h; exact absurd rfl h
   | out e f' S'=>rw [sub _ _ _ _ hr (fun e=>by cases e)]
  | cond x a b =>
   simp only [Ft] at h ⊢
   split at h
   ·exact ih n a f S h
   ·exact ih n b f S h
   ·exact absurd rfl h
  | region id ops dr=>cases dr <;> rfl
  | _=>rfl
theorem lJ {E:Env} {D:N9} {ck:Fl} {m m' n:Nat} {c:Code} {f:Fr} {S:St} (hm:m ≤ m') (h:Jv E D ck m n c f S ≠ .fail):Jv E D ck m' n c f S=Jv E D ck m n c f S:=by
 induction hm with
 | refl=>rfl
 | step hm ih=>rw [uO _ _ _ _ _ (by rw [ih]; exact h),ih]
def Wa (k:Option Bx):Bx:=Option.rec (motive:=fun _=>Bx) Xu (fun k=>k) k
def thenB (x k:Bx):Bx:=⟨fun ck t d S=>Mm k.c ck (x.c ck t d S)⟩
def uC (x:Bx) (k:Option Bx):Bx:=Option.rec (motive:=fun _=>Bx) x (fun k=>thenB x k) k
def exitB (id:Nat):Bx:=⟨fun _ t d S=>.out (.exit id) ⟨t,d⟩ S⟩
def retB:Bx:=⟨fun _ t d S=>.out .ret ⟨t,d⟩ S⟩
def sel1 (a b:Bx) (v:AV):Bx:=SV.rec (motive:=fun _=>Bx) (fun c=>Bool.rec (motive:=fun _=>Bx) b a c) (fun _ _=>P0) (fun _=>P0) P0 v.sv
def condB (g:GB) (a b:Bx):Bx:=⟨fun ck t d S=>Option.rec (motive:=fun _=>O) .fail (fun v=>(sel1 a b v).c ck t d S) (g.g t)⟩
def blkX (id:Nat) (r:O):O:=O.rec (motive:=fun _=>O) (fun e f S=>Ex.rec (motive:=fun _=>O) (.out .normal f S) (fun i=>Bool.rec (motive:=fun _=>O) (.out (.exit i) f S) (.out .normal f S) (Nat.beq i id)) (.out .ret f S) (fun a=>.out (.pan a) f S) e) .fail r
def blockB (id:Nat) (x:Bx):Bx:=⟨fun ck t d S=>blkX id (x.c ck t d S)⟩
def loopX (ih:T AV → List Dfr → St → O) (r:O):O:=O.rec (motive:=fun _=>O) (fun e f S=>Ex.rec (motive:=fun _=>O) (ih f.tmps f.dfr S) (fun i=>.out (.exit i) f S) (.out .ret f S) (fun a=>.out (.pan a) f S) e) .fail r
def jT (x:Bx) (ck:Fl) (j:Nat):T AV → List Dfr → St → O:=Nat.rec (motive:=fun _=>T AV → List Dfr → St → O) (fun _ _ _=>.fail) (fun _ ih t d S=>loopX ih (x.c ck t d S)) j
def fuelN:Nat:=5000
def loopB (x:Bx):Bx:=⟨fun ck t d S=>jT x ck fuelN t d S⟩
theorem loopB_c (x:Bx) (ck:Fl) (t:T AV) (d:List Dfr) (S:St):(loopB x).c ck t d S=jT x ck fuelN t d S:=rfl
def L1 (E:Env) (n:Nat) (c:Code):Option Bx → Bx:=Code.rec (motive:=fun _=>Option Bx → Bx)
 (fun k=>Wa k)
 (fun _ ops dr k=>Bool.rec (motive:=fun _=>Bx) (opsB E n ops ops.toList (Wa k)) (eE E n ops (Wa k)) dr)
 (fun _ _ ia ib k=>ia (some (ib k)))
 (fun x _ _ ia ib k=>uC (condB (opG E.G x) (ia none) (ib none)) k)
 (fun id _ ia k=>uC (blockB id (ia none)) k)
 (fun _ ia k=>uC (loopB (ia none)) k)
 (fun _ _ _ _ _ _ _=>P0)
 (fun id _=>exitB id)
 (fun _ _ _=>P0)
 (fun _ k=>Wa k)
 (fun _ _=>P0)
 (fun _=>retB)
 (fun _ _=>P0) c
def Z0 (k:Option Bx) (ck:Fl) (r:O):O:=match k with
 | none=>r
 | some k=>Mm k.c ck r
theorem rS (k:Option Bx) (ck:Fl):Z0 k ck .fail=.fail:=by cases k <;> rfl
theorem eH (k:Option Bx) (ck:Fl) (r:O):Mm (Wa k).c ck r=Z0 k ck r:=by
 cases k with
 | none=>exact Ws ck r
 | some k=>rfl
theorem tailB_c (x:Bx) (k:Option Bx) (ck:Fl) (t:T AV) (d:List Dfr) (S:St):(uC x k).c ck t d S=Z0 k ck (x.c ck t d S):=by cases k <;> rfl
def COk (E:Env) (n:Nat) (ck:Fl) (c:Code):Prop:=∀ (k:Option Bx) (t:T AV) (d:List Dfr) (S:St),(L1 E n c k).c ck t d S=.fail ∨ ∃ m,Z0 k ck (Jv E (Dm E) ck m n c ⟨t,d⟩ S)=(L1 E n c k).c ck t d S
theorem yJ {E:Env} {n:Nat} {ck:Fl} {c:Code} {x:Bx} (h:∀ (t:T AV) (d:List Dfr) (S:St),x.c ck t d S=.fail ∨ ∃ m,Jv E (Dm E) ck m n c ⟨t,d⟩ S=x.c ck t d S) (k:Option Bx) (t:T AV) (d:List Dfr) (S:St) :
  (uC x k).c ck t d S=.fail ∨ ∃ m,Z0 k ck (Jv E (Dm E) ck m n c ⟨t,d⟩ S)=(uC x k).c ck t d S:=by
 rw [tailB_c]
 rcases h t d S with h | ⟨m,h⟩
 ·rw [h,rS]; exact .inl rfl
 ·exact .inr ⟨m,by rw [h]⟩
theorem Tw {E:Env} {n:Nat} {ck:Fl} (hck:CkF E ck):∀ c:Code,COk E n ck c
 | .skip=>fun k t d S=>.inr ⟨1,(eH k ck _).symm⟩
 | .label l=>fun k t d S=>.inr ⟨1,(eH k ck _).symm⟩
 | .region id ops false=>fun k t d S=>by
  have h:=opsB_ok (E:=E) (n:=n) (ops:=ops) hck (Wa k) ops.toList t d S
  rw [eH] at h
  show (opsB E n ops ops.toList (Wa k)).c ck t d S=.fail ∨ _
  rcases h with h | h
  ·exact .inl h
  ·exact .inr ⟨1,h.symm⟩
 | .region id ops true=>fun k t d S=>by
  have h:=drawB_ok (E:=E) (n:=n) (ops:=ops) hck (Wa k) t d S
  rw [eH] at h
  show (eE E n ops (Wa k)).c ck t d S=.fail ∨ _
  rcases h with h | h
  ·exact .inl h
  ·exact .inr ⟨1,h.symm⟩
 | .seq a b=>fun k t d S=>by
  have ha:=Tw (n:=n) hck a (some (L1 E n b k)) t d S
  show (L1 E n a (some (L1 E n b k))).c ck t d S=.fail ∨ ∃ m,_=(L1 E n a (some (L1 E n b k))).c ck t d S
  rcases ha with ha | ⟨m1,ha⟩
  ·exact .inl ha
  ·rw [← ha]
   cases hr:Jv E (Dm E) ck m1 n a ⟨t,d⟩ S with
   | fail=>exact .inl rfl
   | out e f' S' =>
    have hne:Jv E (Dm E) ck m1 n a ⟨t,d⟩ S ≠ .fail:=by rw [hr]; exact fun e=>by cases e
    cases e with
    | normal =>
     have hb:=Tw (n:=n) hck b k f'.tmps f'.dfr S'
     show (L1 E n b k).c ck f'.tmps f'.dfr S' = .fail ∨ ∃ m,_=(L1 E n b k).c ck f'.tmps f'.dfr S'
     rcases hb with hb | ⟨m2,hb⟩
     ·exact .inl hb
     ·rw [← hb]
      by_cases hf:Jv E (Dm E) ck m2 n b ⟨f'.tmps,f'.dfr⟩ S' = .fail
      ·rw [hf,rS]; exact .inl rfl
      ·refine .inr ⟨max m1 m2 + 1,?_⟩
       have e1:Jv E (Dm E) ck (max m1 m2 + 1) n (.seq a b) ⟨t,d⟩ S=Jv E (Dm E) ck m2 n b f' S':=by
        show Ft E (Dm E) (Jv E (Dm E) ck (max m1 m2)) ck n (.seq a b) ⟨t,d⟩ S=_
        simp only [Ft]
        rw [lJ (Nat.le_max_left m1 m2) hne,hr]
        exact lJ (Nat.le_max_right m1 m2) hf
       rw [e1]
    | exit i=>refine .inr ⟨m1 + 1,?_⟩; show Z0 k ck (Ft E (Dm E) (Jv E (Dm E) ck m1) ck n (.seq a b) ⟨t,d⟩ S)=_; simp only [Ft,hr]; cases k <;> rfl
    | ret=>refine .inr ⟨m1 + 1,?_⟩; show Z0 k ck (Ft E (Dm E) (Jv E (Dm E) ck m1) ck n (.seq a b) ⟨t,d⟩ S)=_; simp only [Ft,hr]; cases k <;> rfl
    | pan a=>refine .inr ⟨m1 + 1,?_⟩; show Z0 k ck (Ft E (Dm E) (Jv E (Dm E) ck m1) ck n (.seq _ b) ⟨t,d⟩ S)=_; simp only [Ft,hr]; cases k <;> rfl
 | .cond x a b=>yJ fun t d S=>by
  have ha:=Tw (n:=n) hck a none t d S
  have hb:=Tw (n:=n) hck b none t d S
  show Option.rec (motive:=fun _=>O) .fail (fun v=>(sel1 (L1 E n a none) (L1 E n b none) v).c ck t d S) ((opG E.G x).g t)=.fail ∨ ∃ m,_=Option.rec (motive:=fun _=>O) .fail (fun v=>(sel1 (L1 E n a none) (L1 E n b none) v).c ck t d S) ((opG E.G x).g t)
  rw [Iz]
  cases hx:Ba E.G t x with
  | none=>exact .inl rfl
  | some v =>
   show (sel1 (L1 E n a none) (L1 E n b none) v).c ck t d S=.fail ∨ ∃ m,_=(sel1 (L1 E n a none) (L1 E n b none) v).c ck t d S
   unfold sel1
   cases hv:v.sv with
   | b c =>
    have hvv:=sv_b hv
    subst hvv
    cases c with
    | true =>
     show (L1 E n a none).c ck t d S=.fail ∨ ∃ m,_=(L1 E n a none).c ck t d S
     rcases ha with ha | ⟨m,ha⟩
     ·exact .inl ha
     ·refine .inr ⟨m + 1,?_⟩
      rw [← ha]
      show Ft E (Dm E) (Jv E (Dm E) ck m) ck n (.cond x a b) ⟨t,d⟩ S=_
      simp only [Ft,hx]; rfl
    | false =>
     show (L1 E n b none).c ck t d S=.fail ∨ ∃ m,_=(L1 E n b none).c ck t d S
     rcases hb with hb | ⟨m,hb⟩
     ·exact .inl hb
     ·refine .inr ⟨m + 1,?_⟩
      rw [← hb]
      show Ft E (Dm E) (Jv E (Dm E) ck m) ck n (.cond x a b) ⟨t,d⟩ S=_
      simp only [Ft,hx]; rfl
   | i=>exact .inl rfl
   | s=>exact .inl rfl
   | no=>exact .inl rfl
 | .block id a=>yJ fun t d S=>by
  have ha:=Tw (n:=n) hck a none t d S
  show blkX id ((L1 E n a none).c ck t d S)=.fail ∨ ∃ m,_=blkX id ((L1 E n a none).c ck t d S)
  rcases ha with ha | ⟨m,ha⟩
  ·rw [ha]; exact .inl rfl
  ·rw [← ha]
   refine .inr ⟨m + 1,?_⟩
   show Ft E (Dm E) (Jv E (Dm E) ck m) ck n (.block id a) ⟨t,d⟩ S=blkX id (Jv E (Dm E) ck m n a ⟨t,d⟩ S)
   simp only [Ft]
   cases Jv E (Dm E) ck m n a ⟨t,d⟩ S with
   | fail=>rfl
   | out e f' S' =>
    cases e with
    | exit i =>
     show (if i=id then O.out .normal f' S' else .out (.exit i) f' S')=Bool.rec (motive:=fun _=>O) (.out (.exit i) f' S') (.out .normal f' S') (Nat.beq i id)
     rw [fA]
     by_cases h:i=id
     ·rw [if_pos h,decide_eq_true h]
     ·rw [if_neg h,decide_eq_false h]
    | _=>rfl
 | .loop a=>yJ fun t d S=>by
  have key:∀ (j:Nat) (t:T AV) (d:List Dfr) (S:St),jT (L1 E n a none) ck j t d S=.fail ∨ ∃ m,Jv E (Dm E) ck m n (.loop a) ⟨t,d⟩ S=jT (L1 E n a none) ck j t d S:=by
   intro j
   induction j with
   | zero=>exact fun t d S=>.inl rfl
   | succ j ih =>
    intro t d S
    have ha:=Tw (n:=n) hck a none t d S
    show loopX (jT (L1 E n a none) ck j) ((L1 E n a none).c ck t d S)=.fail ∨ ∃ m,_=loopX (jT (L1 E n a none) ck j) ((L1 E n a none).c ck t d S)
    rcases ha with ha | ⟨m1,ha⟩
    ·rw [ha]; exact .inl rfl
    ·rw [← ha]
     have ha2:Z0 none ck (Jv E (Dm E) ck m1 n a ⟨t,d⟩ S)=Jv E (Dm E) ck m1 n a ⟨t,d⟩ S:=rfl
     rw [ha2]
     cases hr:Jv E (Dm E) ck m1 n a ⟨t,d⟩ S with
     | fail=>exact .inl rfl
     | out e f' S' =>
      have hne:Jv E (Dm E) ck m1 n a ⟨t,d⟩ S ≠ .fail:=by rw [hr]; exact fun e=>by cases e
      cases e with
      | normal =>
       show jT (L1 E n a none) ck j f'.tmps f'.dfr S' = .fail ∨ ∃ m,_=jT (L1 E n a none) ck j f'.tmps f'.dfr S'
       rcases ih f'.tmps f'.dfr S' with h | ⟨m2,h⟩
       ·exact .inl h
       ·rw [← h]
        by_cases hf:Jv E (Dm E) ck m2 n (.loop a) ⟨f'.tmps,f'.dfr⟩ S' = .fail
        ·rw [hf]; exact .inl rfl
        ·refine .inr ⟨max m1 m2 + 1,?_⟩
         show Ft E (Dm E) (Jv E (Dm E) ck (max m1 m2)) ck n (.loop a) ⟨t,d⟩ S=_
         simp only [Ft]
         rw [lJ (Nat.le_max_left m1 m2) hne,hr]
         exact lJ (Nat.le_max_right m1 m2) hf
      | exit i=>refine .inr ⟨m1 + 1,?_⟩; show Ft E (Dm E) (Jv E (Dm E) ck m1) ck n (.loop a) ⟨t,d⟩ S=_; simp only [Ft,hr]; rfl
      | ret=>refine .inr ⟨m1 + 1,?_⟩; show Ft E (Dm E) (Jv E (Dm E) ck m1) ck n (.loop a) ⟨t,d⟩ S=_; simp only [Ft,hr]; rfl
      | pan b=>refine .inr ⟨m1 + 1,?_⟩; show Ft E (Dm E) (Jv E (Dm E) ck m1) ck n (.loop a) ⟨t,d⟩ S=_; simp only [Ft,hr]; rfl
  show (loopB (L1 E n a none)).c ck t d S=.fail ∨ ∃ m,_=(loopB (L1 E n a none)).c ck t d S
  rw [loopB_c]
  exact key _ t d S
 | .exit id=>fun k t d S=>.inr ⟨1,by cases k <;> rfl⟩
 | .ret=>fun k t d S=>.inr ⟨1,by cases k <;> rfl⟩
 | .rangeFunc .. => fun k t d S=>.inl rfl
 | .scope _=>fun k t d S=>.inl rfl
 | .goto _=>fun k t d S=>.inl rfl
 | .refuse _=>fun k t d S=>.inl rfl
theorem loadV_load {E:Env} {t:TypeId} {g:GB} {f:T AV} {S:St} {a:AV} (h:(vR E.P t g).v f S=some a):∃ b,g.g f=some b ∧ Cd E.P S t b=some a:=by
 unfold vR at h
 split at h
 ·rename_i ht
  obtain ⟨b,h1,h2⟩:=Ho h
  exact ⟨b,h1,ld1_ok ht h2⟩
 ·rename_i ht
  split at h
  ·rename_i n hs
   obtain ⟨b,h1,h2⟩:=Ho h
   exact ⟨b,h1,ldN_ok ht hs h2⟩
  ·cases h
 ·cases h
def kY (P:Program) (r:ResultVar):VB:=match r with
 | .tmp t=>moveV (getG t)
 | .cell x t=>vR P t (getG x)
def resX (l:List VB) (f:T AV) (S:St):Option (List AV):=List.rec (motive:=fun _=>Option (List AV)) (some []) (fun v _ ih=>Option.rec (motive:=fun _=>Option (List AV)) none (fun a=>Sy a ih) (v.v f S)) l
theorem resX_ok {E:Env} {f:T AV} {S:St}:∀ {rs:List ResultVar} {l:List AV},resX (rs.map (kY E.P)) f S=some l → Bg E f S rs=some l
 | [],l,h=>h
 | r :: rs,l,h=>by
  have h:Option.rec (motive:=fun _=>Option (List AV)) none (fun a=>Sy a (resX (rs.map (kY E.P)) f S)) ((kY E.P r).v f S)=some l:=h
  cases hv:(kY E.P r).v f S with
  | none=>rw [hv] at h; cases h
  | some a =>
   rw [hv] at h
   have h:Sy a (resX (rs.map (kY E.P)) f S)=some l:=h
   cases hq:resX (rs.map (kY E.P)) f S with
   | none=>rw [hq] at h; cases h
   | some q =>
    rw [hq] at h
    have h:some (a :: q)=some l:=h
    injection h with h; subst h
    have ih:=resX_ok (E:=E) hq
    cases r with
    | tmp t =>
     have hv:(getG t).g f=some a:=hv
     rw [dK] at hv
     simp only [Bg,hv,ih]
    | cell x t =>
     obtain ⟨b,h1,h2⟩:=loadV_load (E:=E) hv
     rw [dK] at h1
     simp only [Bg,h1,h2,ih]
def giveX (l:List VB) (f:T AV) (S:St):R:=Option.rec (motive:=fun _=>R) .fail (fun l=>.ret (Cs l) S) (resX l f S)
def endX (l:List VB) (r:O):R:=O.rec (motive:=fun _=>R) (fun e f S=>List.rec (motive:=fun _=>R) (Ex.rec (motive:=fun _=>R) (giveX l f.tmps S) (fun _=>.fail) (giveX l f.tmps S) (fun a=>.pan a S) e) (fun _ _ _=>.fail) f.dfr) .fail r
def dH (l:List AV):Nat → T AV:=List.rec (motive:=fun _=>Nat → T AV) (fun _=>.leaf) (fun a _ ih k=>(setS k).s (ih (Nat.succ k)) a) l
theorem initR_eq:∀ (l:List AV) (k:Nat),dH l k=Ce l k
 | [],k=>rfl
 | a :: r,k=>by
  show (setS k).s (dH r (k + 1)) a=_
  rw [setS_ok,initR_eq r (k + 1)]; rfl
def runCR (E:Env) (ck:Fl) (m:Nat):Nat → Code → Fr → St → O :=
 Nat.rec (motive:=fun _=>Nat → Code → Fr → St → O) (fun _ _ _ _=>.fail) (fun _ ih=>nR E (Zf E) ih ck) m
theorem runCR_eq (E:Env) (ck:Fl):∀ m,runCR E ck m=Jv E (Dm E) ck m
 | 0=>rfl
 | m + 1=>by
  have ih:=runCR_eq E ck m
  show (fun n c f S=>nR E (Zf E) (runCR E ck m) ck n c f S)=_
  rw [ih,drawnNewR_eq]
  funext n c f S
  exact uE ..
def defers (l:List Oper):Bool:=l.any fun o=>match o.op with | .defer _=>true | _=>false
def Sq:Code → Bool
 | .region _ ops _=>defers ops.toList
 | .seq a b=>Sq a || Sq b
 | .cond _ a b=>Sq a || Sq b
 | .block _ a=>Sq a
 | .loop a=>Sq a
 | _=>false
def failF:FB:=⟨fun _ _ _=>.fail⟩
def slowF (E:Env) (k:FuncId):FB:=⟨fun ck args S=>Nq E (runCR E ck fuelN) k args S⟩
def fastF (x:Bx) (n:Nat) (l:List VB):FB:=⟨fun ck args S=>Bool.rec (motive:=fun _=>R) .fail (endX l (x.c ck (dH args 0) [] S)) (Nat.ble (gU args) n)⟩
def fnB (E:Env) (k:FuncId):FB:=match E.F k with
 | none=>failF
 | some fn=>match E.I k with
  | some g=>⟨fun _ args S=>g args S⟩
  | none=>match fn.body with
   | none=>failF
   | some c=>if Sq c then slowF E k else fastF (L1 E fn.ntmps c none) fn.ntmps (fn.results.toList.map (kY E.P))
def Vk (E:Env) (m:Nat):Fl:=Nat.rec (motive:=fun _=>Fl) (fun _ _ _=>.fail) (fun _ ih k args S=>(fnB E k).f ih args S) m
theorem endX_ok {E:Env} {fn:Func} {rec:Nat → Code → Fr → St → O} (r:O):endX (fn.results.toList.map (kY E.P)) r=.fail ∨ endX (fn.results.toList.map (kY E.P)) r=dW E rec fn r:=by
 have give:∀ (f:T AV) (S:St),giveX (fn.results.toList.map (kY E.P)) f S=.fail ∨ giveX (fn.results.toList.map (kY E.P)) f S=Pk E fn f S:=fun f S=>by
  unfold giveX
  cases hq:resX (fn.results.toList.map (kY E.P)) f S with
  | none=>exact .inl rfl
  | some l =>
   refine .inr ?_
   unfold Pk
   rw [resX_ok hq]
 cases r with
 | fail=>exact .inl rfl
 | out e f S =>
  obtain ⟨t,d⟩:=f
  cases d with
  | cons x y=>exact .inl rfl
  | nil=>cases e with
   | normal=>exact give t S
   | exit i=>exact .inl rfl
   | ret=>exact give t S
   | pan a=>exact .inr rfl
theorem fnB_ok {E:Env} {ck:Fl} (hck:CkF E ck) (k:FuncId) (args:List AV) (S:St):(fnB E k).f ck args S=.fail ∨ ((E.F k).isSome=true ∧ ∃ m,(fnB E k).f ck args S=Nq E (Jv E (Dm E) ck m) k args S):=by
 unfold fnB
 cases hF:E.F k with
 | none=>exact .inl rfl
 | some fn =>
  simp only
  cases hI:E.I k with
  | some g=>exact .inr ⟨rfl,0,by simp only [Nq,hI]⟩
  | none =>
   simp only
   cases hb:fn.body with
   | none=>exact .inl rfl
   | some c =>
    simp only
    split
    ·exact .inr ⟨rfl,fuelN,by show Nq E (runCR E ck fuelN) k args S=_; rw [runCR_eq]⟩
    ·show (Bool.rec (motive:=fun _=>R) .fail (endX _ ((L1 E fn.ntmps c none).c ck (dH args 0) [] S)) (Nat.ble (gU args) fn.ntmps):R)=.fail ∨ _ ∧ ∃ m,(Bool.rec (motive:=fun _=>R) .fail (endX _ ((L1 E fn.ntmps c none).c ck (dH args 0) [] S)) (Nat.ble (gU args) fn.ntmps):R)=_
     cases hl:Nat.ble (gU args) fn.ntmps with
     | false=>exact .inl rfl
     | true =>
      have hle:args.length ≤ fn.ntmps:=by rw [← R1]; exact Nat.le_of_ble_eq_true hl
      show endX _ ((L1 E fn.ntmps c none).c ck (dH args 0) [] S)=.fail ∨ _ ∧ ∃ m,endX _ ((L1 E fn.ntmps c none).c ck (dH args 0) [] S)=_
      rcases Tw hck c none (dH args 0) [] S with h | ⟨m,h⟩
      ·rw [h]; exact .inl rfl
      ·rw [← h]
       rcases endX_ok (E:=E) (fn:=fn) (rec:=Jv E (Dm E) ck m) (Z0 none ck (Jv E (Dm E) ck m fn.ntmps c ⟨dH args 0,[]⟩ S)) with h2 | h2
       ·exact .inl h2
       ·refine .inr ⟨rfl,m,h2.trans ?_⟩
        simp only [Nq,hI,hF,hb,if_pos hle,initR_eq]
        rfl
theorem callX_F {E:Env}:∀ m,CkF E (Vk E m)
 | 0=>fun k args S h=>absurd rfl h
 | m + 1=>fun k args S h=>by
  rcases fnB_ok (callX_F m) k args S with h2 | ⟨h2,_⟩
  ·exact absurd h2 h
  ·exact h2
theorem eU {E:Env} (hE:E.Ok) (hI:Kw E) (hmix:E.P.follows .mixedOrders=true):∀ m base w0,Pq E base w0 (Vk E m)
 | 0,base,w0=>fun k args S h=>absurd rfl h
 | m + 1,base,w0=>by
  intro k args S hne γ w vs hS hg hv hF
  rcases fnB_ok (callX_F m) k args S with h2 | ⟨_,j,h2⟩
  ·exact absurd h2 hne
  ·have e:Vk E (m + 1) k args S=Nq E (Jv E (Dm E) (Vk E m) j) k args S:=h2
   rw [e] at hne ⊢
   exact Te hE hI (aC hE (Jf hE hmix) (eU hE hI hmix m) j) base w0 k args S hne γ w vs hS hg hv hF
end Go.Ax
noncomputable section
namespace Go.Ax
open Go.RowKit
section
variable {E:Env}
theorem Yj (hE:E.Ok) (hI:Kw E) (hmix:E.P.follows .mixedOrders=true) (hG:E.G=fun _=>none) {m:Nat} {k:FuncId} {args:List AV} (h:mK (Vk E m k args St0)=true) (hF:(E.F k).isSome=true) {w:World} {vs:List Value} (hv:VRL Gh0 w args vs) :
  Calls E.P k vs.toArray w fun e w'=>e=.returned (.bool true) ∧ Below w.heap.size w w':=by
 cases hr:Vk E m k args St0 with
 | fail=>rw [hr] at h; cases h
 | pan a S=>rw [hr] at h; cases h
 | ret a S =>
  rw [hr] at h
  have hne:Vk E m k args St0 ≠ .fail:=by rw [hr]; exact fun e=>by cases e
  have:=eU hE hI hmix m w.heap.size w k args St0 hne Gh0 w vs (SR.start w) (by rw [hG]; exact GR.none) hv hF
  rw [hr] at this
  refine this.mono fun e w' he=>?_
  obtain ⟨γ',v,h1,h2,h3,rfl⟩:=he
  unfold mK at h
  split at h
  ·rename_i b S' heq
   injection heq with e1 e2
   subst e1; subst h
   cases h3
   exact ⟨rfl,h1.below⟩
  ·cases h
end
end Go.Ax
