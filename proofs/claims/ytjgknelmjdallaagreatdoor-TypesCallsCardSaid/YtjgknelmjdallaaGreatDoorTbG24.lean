/- Ql -/
import Derived.Test.YtjgknelmjdallaaGreatDoorTbG23
import Derived.Test.YtjgknelmjdallaaGreatDoorTbG14
import Derived.Lib.AppendIntMem
import Derived.Test.YtjgknelmjdallaaGreatDoorTbG20
import Derived.Test.YtjgknelmjdallaaGreatDoorTbG22
import Derived.Test.YtjgknelmjdallaaGreatDoorTbG18
set_option linter.unusedVariables false
set_option linter.unusedSimpArgs false
noncomputable section
namespace Go.Ax
open Go.RowKit Go.Proofs
set_option maxRecDepth 100000
theorem codeWG {E:Env} (hE:E.Ok) (hI:Le E) (hmix:E.P.follows .mixedOrders=true) {n t:Nat} {c:Code} {f:T AV} {S:St}
  (h:W E n c ⟨f,[]⟩ S (fun r=>∃ f' S',r=.out .ret ⟨f',[]⟩ S' ∧ f'.get t=some (.v (.bool true)))) {Q:Exit → Act → World → Prop} {act:Act} {γ:Gh} {base:Nat} {w0 w:World} (hS:SR base w0 γ S w) (hg:GR γ w E.G) (hf:FR γ w f act.tmps) (hn:act.tmps.size=n) (hd:act.defers=[])
  (hQ:∀ act' w',act'.tmps.size=n → act'.defers=[] → act'.tmps[t]? = some (.bool true) → Below base w0 w' → Q .ret act' w'):c.wp E.P Q act w:=by
 obtain ⟨r,⟨m0,hm⟩,f',S',rfl,ht⟩:=Ds h
 refine (Tq hE hI (Jc hE hmix) m0).code base w0 Q n c γ S w ⟨f,[]⟩ act hS ⟨hf,hn,by rw [hd]; trivial⟩ hg ?_
 rw [hm m0 (Nat.le_refl _)]
 intro γ' act' w' h1 h2 h3
 show Q .ret act' w'
 obtain ⟨k1,k2⟩:=h3.tmps t _ ht
 have hdd:=h3.dfr
 have hd':act'.defers=[]:=by
  cases hx:act'.defers with
  | nil=>rfl
  | cons a r=>rw [hx] at hdd; exact hdd.elim
 refine hQ act' w' h3.size hd' ?_ h1.below
 have e1:act'.tmps[t]? = some (act'.tmps[t]):=Array.getElem?_eq_getElem k1
 have e2:act'.tmps.getD t undef=act'.tmps[t]:=by simp [k1]
 rw [e1]
 rw [e2] at k2
 generalize act'.tmps[t]=z at k2
 cases k2
 rfl
def GhW (w:World):Gh:={ loc:=fun _=>none,im:=fun b o=>b < w.heap.size ∧ ∃ v,w.cell? ⟨b,o,none⟩=some v }
theorem SR.whole (w:World):SR w.heap.size w (GhW w) St0 w :=
 ⟨.refl _ _,Nat.le_refl _,fun _ _ h=>h.2,fun _ _=>⟨rfl,rfl⟩,Nat.le_refl _,fun _ _ _ h=>(by cases h),fun _ _ h=>(by cases h),fun _ _ _ _ _ _ _ h=>(by cases h)⟩
def RngIn (w:World):Prop:=∃ b o:Nat,w.cell? ⟨5,0,none⟩=some (.iface 278 (.pointer (some ⟨b,o,none⟩)))
theorem RngIn.gr {w:World} (h:RngIn w):GR (GhW w) w gR:=by
 obtain ⟨b,o,h⟩:=h
 intro g cs hg
 unfold gR at hg
 cases hb:Nat.beq g 5 with
 | false=>rw [hb] at hg; cases hg
 | true =>
  have:g=5:=Nat.eq_of_beq_eq_true hb
  subst this
  rw [hb] at hg
  injection hg with hg; subst hg
  refine ⟨.ep _ 5 0 (fun _=>.iface 278 (.pointer (some ⟨b,o,none⟩))) (fun k hk=>?_) (fun x hx=>?_) (fun k hk=>?_),fun h2=>absurd h2 (by simp)⟩
  ·have:k=0:=by simp at hk; exact hk
   subst this
   exact ⟨⟨World.block_lt_of_cell? w _ h,_,h⟩,h⟩
  ·simp only [List.mem_cons,List.not_mem_nil,or_false] at hx; subst hx; rfl
  ·have:k=0:=by simp at hk; exact hk
   subst this
   exact .iface _ _ _ (.ep [] b o (fun _=>undef) (fun k h=>absurd h (Nat.not_lt_zero k)) (fun _ h=>absurd h List.not_mem_nil) (fun k h=>absurd h (Nat.not_lt_zero k)))
def allK (F L:Nat):Nat → List UInt8 → Nat → Option ((Nat × Nat) ⊕ List Tk)
 | 0,_,_=>none
 | n + 1,r,i=>match r with
  | []=>some (.inr [⟨5,L,[],0⟩])
  | b :: r'=>match Iv (b :: r') i with
   | none=>none
   | some p=>if p.2=0 then (match allK F L n (((b :: r').drop p.1.text.length).drop (H7 F ((b :: r').drop p.1.text.length))) (i + p.1.text.length + H7 F ((b :: r').drop p.1.text.length)) with
     | none=>none
     | some (.inl x)=>some (.inl x)
     | some (.inr ts)=>some (.inr (p.1 :: ts))) else some (.inl (i,p.2))
theorem allK_eq (l:List UInt8):∀ (n i:Nat),i ≤ l.length → P3 l n i=allK (l.length + 1) l.length n (l.drop i) i
 | 0,i,hi=>rfl
 | n + 1,i,hi=>by
  unfold P3 allK
  by_cases h:i < l.length
  ·rw [if_pos h,List.drop_eq_getElem_cons h]
   simp only
   rw [← List.drop_eq_getElem_cons h]
   cases hq:Iv (l.drop i) i with
   | none=>rfl
   | some p =>
    simp only
    by_cases he:p.2=0
    ·rw [if_pos he,if_pos he]
     have hp:Iv (l.drop i) i=some (p.1,0):=by rw [hq,← he]
     have hn:=aS hp
     rw [List.length_drop] at hn
     have hs:=Oo (l.length + 1) (l.drop (i + p.1.text.length))
     rw [List.length_drop] at hs
     rw [allK_eq l n _ (by omega)]
     simp only [List.drop_drop,Nat.add_assoc]
     generalize allK (l.length + 1) l.length n _ _=z
     cases z with
     | none=>rfl
     | some y=>cases y <;> rfl
    ·rw [if_neg he,if_neg he]
  ·rw [if_neg h]
   have hd:l.drop i=[]:=List.drop_eq_nil_of_le (by omega)
   rw [hd]
def lexK (L:Nat) (l:List UInt8):Option ((Nat × Nat) ⊕ List Tk):=Bool.rec (motive:=fun _=>Option ((Nat × Nat) ⊕ List Tk)) (some (.inl (4000,3))) (allK (L + 1) L (L + 1) (l.drop (H7 (L + 1) l)) (H7 (L + 1) l)) (Nat.ble L 4000)
theorem lexK_eq (l:List UInt8):lexK l.length l=Kd l:=by
 unfold lexK Kd
 by_cases h:4000 < l.length
 ·rw [if_pos h]
  have:Nat.ble l.length 4000=false:=by
   cases hb:Nat.ble l.length 4000 with
   | false=>rfl
   | true=>have:=Nat.le_of_ble_eq_true hb; omega
  rw [this]
 ·rw [if_neg h,Nat.ble_eq_true_of_le (by omega),allK_eq l _ _ (Oo _ _)]
def Za (args:List AV) (S:St):R:=match args with
 | [.v (.string s)]=>if s.size ≤ 1000000 then (match lexK s.data.toList.length s.data.toList with
   | some (.inr ts)=>.ret (.tup [.sl 0 0 4 (ts.map F0),.agg (Dh 0 0)]) S
   | some (.inl x)=>.ret (.tup [.nils,.agg (Dh x.1 x.2)]) S
   | none=>.fail) else .fail
 | _=>.fail
def AV.plain:AV → Bool
 | .v _=>true
 | _=>false
theorem VR.plain {γ γ':Gh} {w w':World} {a:AV} {x:Value} (h:VR γ w a x) (hp:a.plain=true):VR γ' w' a x:=by
 cases h with
 | v x h=>exact .v x h
 | _=>cases hp
theorem VR.rowPlain {γ γ':Gh} {w:World} {tok sz:Nat} {es:List AV} {x:Value} (h:VR γ w (.sl tok 0 sz es) x) (hp:∀ a ∈ Ep es,a.plain=true) (him:∀ b o,γ.im b o → γ'.im b o):VR γ' w (.sl 0 0 sz es) x:=by
 cases h with
 | sl _ _ _ _ b o cap c hsz hes h1 h hr ht hf hc hb =>
  exact .sl 0 0 sz es b o cap c hsz hes h1 (fun k hk=>⟨him _ _ (h k hk).1,(h k hk).2⟩) (fun k hk=>(hr k hk).plain (hp _ (List.getElem_mem hk))) (fun h=>by omega) (fun h=>by omega) hc hb
theorem VR.aggPlain {γ γ':Gh} {w w':World} {cs:List AV} {x:Value} (h:VR γ w (.agg cs) x) (hp:∀ a ∈ cs,a.plain=true):VR γ' w' (.agg cs) x:=by
 cases h with
 | agg _ x hx h1 h=>exact .agg cs x hx h1 (fun k hk hk'=>(h k hk hk').plain (hp _ (List.getElem_mem hk)))
theorem tok_plain (ts:List Tk):∀ a ∈ Ep (ts.map F0),a.plain=true:=by
 intro a ha
 unfold Ep at ha
 rw [List.mem_flatMap] at ha
 obtain ⟨e,he,hae⟩:=ha
 obtain ⟨t,_,rfl⟩:=List.mem_map.1 he
 simp only [F0,AV.cells,Eh,List.mem_cons,List.not_mem_nil,or_false] at hae
 rcases hae with rfl | rfl | rfl | rfl <;> rfl
theorem sV (a e:Nat):∀ x ∈ Dh a e,x.plain=true:=by
 intro x hx
 simp only [Dh,List.mem_cons,List.not_mem_nil,or_false] at hx
 rcases hx with rfl | rfl <;> rfl
theorem lex_I (base:Nat) (w0:World) (args:List AV) (S:St) (hne:Za args S ≠ .fail) (γ:Gh) (w:World) (vs:List Value) (hS:SR base w0 γ S w) (hg:GR γ w E1.G) (hv:VRL γ w args vs):Calls Tryz.prog 25 vs.toArray w (Pa base w0 γ S w (Za args S)):=by
 generalize hr:Za args S=r at hne ⊢
 unfold Za at hr
 split at hr
 case h_2=>exact absurd hr.symm hne
 rename_i s
 split at hr
 case isFalse=>exact absurd hr.symm hne
 rename_i hsz
 have es:AV.v (.string s)=Bq s.data.toList:=rfl
 rw [lexK_eq] at hr
 cases ho:Kd s.data.toList with
 | none=>rw [ho] at hr; exact absurd hr.symm hne
 | some out =>
  have hlen:s.data.toList.length ≤ 1000000:=by rw [Array.length_toList]; exact hsz
  obtain ⟨r2,⟨m0,hm⟩,hpost⟩:=all_w s.data.toList S hS.pos hlen out ho
  have hc:=hm m0 (Nat.le_refl _)
  have hrne:r2 ≠ .fail:=by
   cases out with
   | inl x=>obtain ⟨S',rfl,_⟩:=hpost; exact fun e=>by cases e
   | inr ts=>obtain ⟨S',tok,rfl,_⟩:=hpost; exact fun e=>by cases e
  have:=N4 Sq bT (Jc Sq Td) m0 base w0 25 [.v (.string s)] S (by rw [es]; show ckN E1 m0 25 _ S ≠ _; rw [hc]; exact hrne) γ w vs hS hg hv (by kernel_rfl)
  rw [es] at this
  rw [show Vy E1 (Db E1) m0 25 [Bq s.data.toList] S=r2 from hc] at this
  refine this.mono fun x w' hx=>?_
  rw [ho] at hr
  cases out with
  | inl y =>
   obtain ⟨S',rfl,hk⟩:=hpost
   obtain ⟨γ',v,k1,k2,k3,rfl⟩:=hx
   obtain ⟨q1,q2⟩:=hS.forget k1 k2 hk.2
   simp only at hr
   subst hr
   refine ⟨_,v,q1,q2,?_,rfl⟩
   cases k3 with
   | tup _ xs hx hh =>
    refine .tup _ xs hx (fun k hk1 hk2=>?_)
    match k,hk1 with
    | 0,_ =>
     have:=hh 0 (by simp) hk2
     simp only [List.getElem_cons_zero] at this ⊢
     generalize xs[0]=z at this
     cases this; exact .nils
    | 1,_=>exact (hh 1 (by simp) hk2).aggPlain (sV _ _)
  | inr ts =>
   obtain ⟨S',tok,rfl,hk⟩:=hpost
   obtain ⟨γ',v,k1,k2,k3,rfl⟩:=hx
   obtain ⟨q1,q2⟩:=hS.forget k1 k2 hk.2
   simp only at hr
   subst hr
   refine ⟨_,v,q1,q2,?_,rfl⟩
   cases k3 with
   | tup _ xs hx hh =>
    refine .tup _ xs hx (fun k hk1 hk2=>?_)
    match k,hk1 with
    | 0,_=>exact (hh 0 (by simp) hk2).rowPlain (tok_plain ts) (fun _ _ h=>h)
    | 1,_=>exact (hh 1 (by simp) hk2).aggPlain (sV _ _)
def Yy:List AV → Option (List (List UInt8))
 | []=>some []
 | .v (.string s) :: r=>match Yy r with
  | some l=>some (s.data.toList :: l)
  | none=>none
 | _=>none
def memK (s:List UInt8) (ws:List (List UInt8)):Bool:=List.rec (motive:=fun _=>Bool) false (fun w _ ih=>Bool.rec (motive:=fun _=>Bool) ih true (Lx s w)) ws
def Rl (args:List AV) (S:St):R:=match args with
 | [.sl tok off 1 es,.v (.string s)]=>match Yy es with
  | some ws=>if ws.length ≤ 100000 then .ret (.v (.bool (memK s.data.toList ws))) S else .fail
  | none=>.fail
 | _=>.fail
def knownI (k:Nat):Option (List AV → St → R):=Bool.rec (Bool.rec (E1.I k) (some Rl) (Nat.beq k 129)) (some Za) (Nat.beq k 25)
def E2:Env:={ P:=Tryz.prog,G:=gR,F:=E1.F,I:=knownI,M:=rowM }
def Yd:List AV:=Lib.pow10Tab.map fun z=>.v (.int .u64 z)
def gF:Gl:=fun g=>Bool.rec none (some Yd) (Nat.beq g 0)
theorem Tx:Yd.length=20:=by unfold Yd; rw [List.length_map,Lib.pow10Tab_length]
theorem gPow6:Tryz.prog.globalNamed "internal/strconv.uint64pow10" = some 0:=by kernel_rfl
theorem Cr (a b:List UInt8) (h:a.length + b.length ≤ 4611686018427387904):Ei .add (.v (.string ⟨⟨a⟩⟩)) (.v (.string ⟨⟨b⟩⟩))=some (.v (.string ⟨⟨a ++ b⟩⟩)):=by
 have h':(⟨⟨a⟩⟩:ByteArray).size + (⟨⟨b⟩⟩:ByteArray).size ≤ 4611686018427387904:=h
 simp only [Ei,if_pos h']
theorem ag4:Fq Tryz.prog 4=some false:=by kernel_rfl
section
variable {S:St} {id kind pos:Nat} {n:Int} {name:List UInt8} {off:Bool} {kv:AV} (h:S.mem.get id=some (.box (exC kind pos n name off kv)))
include h
end
theorem RepF.at:∀ {es:List AV} {l:List PE},RepF es l → ∀ (j:Nat) (h:j < es.length) (h2:j < l.length),RepE es[j] l[j]
 | _,_,.cons a e r l h h2,0,_,_=>h
 | _,_,.cons a e r l h h2,j + 1,k1,k2=>RepF.at h2 j (by simpa using k1) (by simpa using k2)
def eW (lo:Nat) (S:St) (a:AV) (es:List AV):Prop:=(a=.nils ∧ es=[]) ∨ ∃ tok,2 ≤ tok ∧ lo ≤ tok ∧ tok < S.next ∧ a=.sl tok 0 1 es ∧ S.mem.get tok=some (.tip es.length)
theorem eW.keep {lo:Nat} {S S':St} {a:AV} {es:List AV} (h:eW lo S a es) (k:En S S'):eW lo S' a es:=by
 rcases h with h | ⟨tok,h1,h2,h3,h4,h5⟩
 ·exact .inl h
 ·exact .inr ⟨tok,h1,h2,Nat.lt_of_lt_of_le h3 k.1,h4,by rw [k.2 tok h3]; exact h5⟩
theorem i9:(Tryz.prog.info? 9).map (fun i=>(i.zero,i.size,i.bytes))=some (some (.string ⟨#[]⟩),1,16):=by kernel_rfl
end Go.Ax
noncomputable section
namespace Go.Ax
open Go.RowKit Go.Proofs
set_option maxRecDepth 100000
end Go.Ax
noncomputable section
namespace Go.Ax
open Go.RowKit Go.Proofs
set_option maxRecDepth 100000
end Go.Ax
noncomputable section
namespace Go.Ax
open Go.RowKit Go.Proofs
set_option maxRecDepth 100000
def Jw (b f:Bool):List UInt8:=if f then [102,117,116,117,114,101,32] ++ (if b then [98,111,111,108] else [105,110,116]) else (if b then [98,111,111,108] else [105,110,116])
def G6 (d:PD):List UInt8:=if d.clock=[] then (d.name ++ [58,32]) ++ Jw d.bool d.fut else ((d.name ++ [58,32]) ++ Jw d.bool d.fut) ++ N6 d.clock d.off
def I1 (l:List PD) (sep:List UInt8):List UInt8:=Lib.join (l.map G6) sep
def J0 (l:List (List UInt8 × Nat)):List UInt8:=if 1 < l.length then ([40] ++ Lib.join (l.map (·.1)) [44,32]) ++ [41] else Lib.join (l.map (·.1)) [44,32]
def eqT (q:PQ):List UInt8:=(if q.async then (J0 q.left ++ [32,61,32]) ++ [97,115,121,110,99,32] else J0 q.left ++ [32,61,32]) ++ D3 q.e
def Vq (d:PD):Prop:=d.name.length ≤ 30 ∧ d.clock.length ≤ 30
theorem bK (l m:List UInt8):Ei .neq (.v (.string ⟨⟨l⟩⟩)) (.v (.string ⟨⟨m⟩⟩))=some (.v (.bool (!decide (l=m)))):=by
 show some (AV.v (.bool (!Lx l m)))=_
 rw [J7]
 congr 4
 by_cases h:l=m <;> simp [h]
theorem ag52:Fq Tryz.prog 52=some true:=by kernel_rfl
theorem yK:Fm Tryz.prog 52=some 2:=by kernel_rfl
theorem idx46d (tok off:Nat) (l:List PD) (j:Nat) (h:j < l.length):Cl Tryz.prog 46 (.sl tok off 6 (l.map F4)) (.v (.int .i64 (j:Int)))=some (.ep (Fh l[j])):=by
 have h0:(0:Int) ≤ (j:Int):=by omega
 simp [Cl,h0,el46,gT,h,F4,AV.cells]
theorem lep54 (S:St) (d:PD):Ci Tryz.prog S 54 (.ep (Fh d))=some (.agg (Fh d)):=by
 simp [Ci,Dv,ag54,gT,Fh]
theorem qK {S:St} {id:Nat} {cs:List AV} (h:S.mem.get id=some (.box cs)) (hl:cs.length=6) (d:PD):Dk Tryz.prog S 54 (.ptr id 0) (.agg (Fh d))=some (S.put id (Fh d)):=by
 have h2:(AV.agg (Fh d)).noTup=true:=rfl
 have h3:(Fh d).length=6:=rfl
 simp [Dk,h,gT,h2,AV.cells,hl,h3,St.put,List.drop_eq_nil_of_le]
theorem idx55d (tok off:Nat) (l:List (List UInt8 × Nat)) (j:Nat) (h:j < l.length):Cl Tryz.prog 55 (.sl tok off 2 (l.map Hg)) (.v (.int .i64 (j:Int)))=some (.ep (Ik l[j])):=by
 have h0:(0:Int) ≤ (j:Int):=by omega
 simp [Cl,h0,el55,yJ,h,Hg,AV.cells]
theorem lep59 (S:St) (d:List UInt8 × Nat):Ci Tryz.prog S 59 (.ep (Ik d))=some (.agg (Ik d)):=by
 simp [Ci,Dv,ag59,yJ,Ik]
theorem st59w {S:St} {id:Nat} {cs:List AV} (h:S.mem.get id=some (.box cs)) (hl:cs.length=2) (d:List UInt8 × Nat):Dk Tryz.prog S 59 (.ptr id 0) (.agg (Ik d))=some (S.put id (Ik d)):=by
 have h2:(AV.agg (Ik d)).noTup=true:=rfl
 have h3:(Ik d).length=2:=rfl
 simp [Dk,h,yJ,h2,AV.cells,hl,h3,St.put,List.drop_eq_nil_of_le]
def tyW (b:Bool):List UInt8:=if b then [98,111,111,108] else [105,110,116]
def xZ (b f:Bool):List TK:=if f then [kw [102,117,116,117,114,101],kw (tyW b)] else [kw (tyW b)]
def Mx (d:PD):List TK:=nm d.name :: sg [58] :: xZ d.bool d.fut
def Hb (d:PD):List TK:=if d.clock=[] then Mx d else Mx d ++ N7 d.clock d.off
def Ju (d:PD):Prop:=G3 d.name ∧ (d.clock=[] → d.off=false) ∧ (d.clock ≠ [] → G3 d.clock)
theorem spelt_type (b f:Bool):Us (Jw b f) (xZ b f):=by
 intro r vs hf hr
 have h1:SpT (tyW b ++ r) (kw (tyW b) :: vs):=fH (by cases b <;> decide) hf hr
 unfold Jw xZ
 cases f with
 | true=>exact Kz (w:=[102,117,116,117,114,101]) (by decide) h1
 | false=>exact h1
theorem yO {name:List UInt8} (hn:G3 name) (off:Bool) {r:List UInt8} {vs:List TK} (hf:Fol r) (hr:SpT r vs):SpT (N6 name off ++ r) (N7 name off ++ vs):=by
 cases off with
 | false=>exact .blank _ _ (Kz (w:=[119,104,101,110]) (by decide) (Sd hn hf hr))
 | true=>exact .blank _ _ (Kz (w:=[119,104,101,110]) (by decide) (Kz (w:=[110,111,116]) (by decide) (Sd hn hf hr)))
theorem whenT_head (name:List UInt8) (off:Bool) (r:List UInt8):Fol (N6 name off ++ r):=by
 cases off <;> exact Q5 _
theorem Xj {d:PD} (h:Ju d):Us (G6 d) (Hb d):=by
 intro r vs hf hr
 unfold G6 Hb
 have base:∀ r vs,Fol r → SpT r vs → SpT (((d.name ++ [58,32]) ++ Jw d.bool d.fut) ++ r) (Mx d ++ vs):=fun r vs hf hr=>by
  simp only [List.append_assoc,List.cons_append,Aj]
  exact Sd h.1 (Ww (c:=58) rfl) (L5 (s:=[58]) (by decide) (.blank _ _ (spelt_type _ _ r vs hf hr)))
 split
 ·exact base r vs hf hr
 ·rename_i hc
  have e1:(((d.name ++ [58,32]) ++ Jw d.bool d.fut) ++ N6 d.clock d.off) ++ r=((d.name ++ [58,32]) ++ Jw d.bool d.fut) ++ (N6 d.clock d.off ++ r):=List.append_assoc ..
  have e2:(Mx d ++ N7 d.clock d.off) ++ vs=Mx d ++ (N7 d.clock d.off ++ vs):=List.append_assoc ..
  rw [e1,e2]
  exact base _ _ (whenT_head _ _ _) (yO (h.2.2 hc) _ hf hr)
theorem yT {ts:List Tk} {i:Nat} {a b c:List TK} (h:Ee ts i ((a ++ b) ++ c)):Ee ts i (a ++ (b ++ c)):=by rw [List.append_assoc] at h; exact h
theorem xG {d:PD} {ts:List Tk} {i:Nat} {rest:List TK} (hs:Ee ts i (Mx d ++ rest)):∃ p,Iq ts i=.ok ⟨d.name,p,d.bool,d.fut,[],false⟩ (i + (Mx d).length):=by
 have h0:Ee ts i (nm d.name :: sg [58] :: (xZ d.bool d.fut ++ rest)):=hs
 obtain ⟨k0,t0,-,-,h1⟩:=h0.cons
 obtain ⟨k1,t1,-,-,h2⟩:=h1.cons
 have t0:(tk ts i).text=d.name:=t0
 have hb:∀ b:Bool,decide (tyW b=[98,111,111,108])=b:=by intro b; cases b <;> decide
 have hm:∀ b:Bool,tyW b ∈ ([[105,110,116],[98,111,111,108]]:List (List UInt8)):=by intro b; cases b <;> decide
 have hnf:∀ b:Bool,tyW b ∉ ([[102,117,116,117,114,101]]:List (List UInt8)):=by intro b; cases b <;> decide
 refine ⟨(tk ts i).pos,?_⟩
 unfold Iq
 rw [Qx k0]
 show (Ea ts [[58]] (i + 1)).bind _=_
 rw [Iw (by rw [t1]; decide)]
 show (if (tk ts (i + 1 + 1)).text ∈ [[102,117,116,117,114,101]] then (Ea ts [[105,110,116],[98,111,111,108]] (i + 1 + 1 + 1)).bind _ else (Ea ts [[105,110,116],[98,111,111,108]] (i + 1 + 1)).bind _)=_
 unfold Mx xZ at *
 cases hf:d.fut with
 | true =>
  rw [hf] at h2
  obtain ⟨k2,t2,-,-,h3⟩:=Ee.cons (x:=kw [102,117,116,117,114,101]) (r:=kw (tyW d.bool) :: rest) h2
  obtain ⟨k3,t3,-,-,-⟩:=h3.cons
  have t3:(tk ts (i + 1 + 1 + 1)).text=tyW d.bool:=t3
  rw [if_pos (by rw [t2]; decide),Iw (by rw [t3]; exact hm _)]
  show PR.ok (PD.mk (tk ts i).text (tk ts i).pos (decide ((tk ts (i + 1 + 1 + 1)).text=_)) true [] false) _=_
  rw [t0,t3,hb]; rfl
 | false =>
  rw [hf] at h2
  obtain ⟨k2,t2,-,-,-⟩:=Ee.cons (x:=kw (tyW d.bool)) (r:=rest) h2
  have t2:(tk ts (i + 1 + 1)).text=tyW d.bool:=t2
  rw [if_neg (by rw [t2]; exact hnf _),Iw (by rw [t2]; exact hm _)]
  show PR.ok (PD.mk (tk ts i).text (tk ts i).pos (decide ((tk ts (i + 1 + 1)).text=_)) false [] false) _=_
  rw [t0,t2,hb]; rfl
theorem clock_rd {name:List UInt8} (hn:gQ name) {off:Bool} {ts:List Tk} {i:Nat} {rest:List TK} (hs:Ee ts i (N7 name off ++ rest)):(tk ts i).text=[119,104,101,110] ∧ Ip ts (i + 1)=.ok (name,off) (i + (N7 name off).length):=by
 unfold Ip
 cases off with
 | false =>
  obtain ⟨k0,t0,-,-,h3⟩:=Ee.cons (x:=kw [119,104,101,110]) (r:=nm name :: rest) hs
  obtain ⟨k1,t1,-,-,-⟩:=h3.cons
  have t1:(tk ts (i + 1)).text=name:=t1
  refine ⟨t0,?_⟩
  rw [if_neg (by rw [t1]; intro hc; simp at hc; subst hc; exact hn.1 (by decide)),Qx k1]
  show PR.ok ((tk ts (i + 1)).text,false) _=_
  rw [t1]; rfl
 | true =>
  obtain ⟨k0,t0,-,-,h3⟩:=Ee.cons (x:=kw [119,104,101,110]) (r:=kw [110,111,116] :: nm name :: rest) hs
  obtain ⟨k1,t1,-,-,h4⟩:=h3.cons
  obtain ⟨k2,t2,-,-,-⟩:=h4.cons
  have t2:(tk ts (i + 1 + 1)).text=name:=t2
  refine ⟨t0,?_⟩
  rw [if_pos (by rw [t1]; decide),Qx k2]
  show PR.ok ((tk ts (i + 1 + 1)).text,true) _=_
  rw [t2]; rfl
theorem oE {d:PD} (h:Ju d) {ts:List Tk} {i:Nat} {rest:List TK} (hs:Ee ts i (Hb d ++ sg [59] :: rest)):∃ d',Gb ts i=.ok d' (i + (Hb d).length + 1) ∧ Mq d d':=by
 unfold Hb at hs ⊢
 unfold Gb
 by_cases hc:d.clock=[]
 ·rw [if_pos hc] at hs ⊢
  obtain ⟨p,hp⟩:=xG hs
  obtain ⟨k1,t1,-,-,-⟩:=hs.skip.cons
  rw [hp]
  refine ⟨⟨d.name,p,d.bool,d.fut,[],false⟩,?_,rfl,rfl,rfl,hc,h.2.1 hc⟩
  show (if (tk ts (i + (Mx d).length)).text ∈ [[119,104,101,110]] then _ else (Ea ts [[59]] (i + (Mx d).length)).bind _)=_
  rw [if_neg (by rw [t1]; decide),Iw (by rw [t1]; decide)]; rfl
 ·rw [if_neg hc] at hs ⊢
  have hs1:=yT hs
  obtain ⟨p,hp⟩:=xG hs1
  obtain ⟨h1,h2⟩:=clock_rd (h.2.2 hc).1 hs1.skip
  obtain ⟨k1,t1,-,-,-⟩:=hs1.skip.skip.cons
  rw [hp]
  refine ⟨⟨d.name,p,d.bool,d.fut,d.clock,d.off⟩,?_,rfl,rfl,rfl,rfl,rfl⟩
  show (if (tk ts (i + (Mx d).length)).text ∈ [[119,104,101,110]] then (Ip ts (i + (Mx d).length + 1)).bind _ else _)=_
  rw [if_pos (by rw [h1]; decide),h2]
  show (Ea ts [[59]] (i + (Mx d).length + (N7 d.clock d.off).length)).bind _=_
  rw [Iw (by rw [t1]; decide),List.length_append,← Nat.add_assoc]; rfl
def Rr {α:Type} (J:α → List TK):List α → List TK
 | []=>[]
 | x :: l=>sg [44] :: (J x ++ Rr J l)
def rowT {α:Type} (T:α → List UInt8):List α → List UInt8
 | []=>[]
 | x :: l=>44 :: 32 :: (T x ++ rowT T l)
def H8 {α:Type} (J:α → List TK):List α → List TK
 | []=>[]
 | x :: l=>J x ++ Rr J l
theorem join_rowT {α:Type} (T:α → List UInt8) (x:α):∀ (l:List α),Lib.join ((x :: l).map T) [44,32]=T x ++ rowT T l:=by
 intro l
 induction l generalizing x with
 | nil=>show Lib.join [T x] [44,32]=_; rw [Lib.join_one]; exact (List.append_nil _).symm
 | cons b l ih =>
  have e2:Lib.join ((x :: b :: l).map T) [44,32]=T x ++ ([44,32] ++ Lib.join ((b :: l).map T) [44,32]):=by
   simp [Lib.join]
  rw [e2,ih]; rfl
theorem jV {α:Type} {T:α → List UInt8} {J:α → List TK}:∀ (l:List α),(∀ x ∈ l,Us (T x) (J x)) → ∀ r vs,SpT r vs → SpT (rowT T l ++ 41 :: r) (Rr J l ++ sg [41] :: vs)
 | [],_,r,vs,h=>L5 (s:=[41]) (by decide) h
 | e :: l,he,r,vs,h=>by
  have ih:=jV l (fun x hx=>he x (List.mem_cons_of_mem _ hx)) r vs h
  have hf:Fol (rowT T l ++ 41 :: r):=by
   cases l with
   | nil=>exact fol_r _
   | cons b l=>exact fol_k _
  have:=he e (List.mem_cons_self ..) _ _ hf ih
  show SpT (44 :: 32 :: ((T e ++ rowT T l) ++ 41 :: r)) (sg [44] :: ((J e ++ Rr J l) ++ sg [41] :: vs))
  rw [List.append_assoc,List.append_assoc]
  exact L5 (s:=[44]) (by decide) (.blank _ _ this)
theorem Qf {α:Type} {T:α → List UInt8} {J:α → List TK} (l:List α) (he:∀ x ∈ l,Us (T x) (J x)) {r:List UInt8} {vs:List TK} (h:SpT r vs):SpT (40 :: (Lib.join (l.map T) [44,32] ++ 41 :: r)) (Gr (H8 J l) ++ vs):=by
 cases l with
 | nil=>exact L5 (s:=[40]) (by decide) (L5 (s:=[41]) (by decide) h)
 | cons e l =>
  have ej:Gr (H8 J (e :: l)) ++ vs=sg [40] :: (J e ++ (Rr J l ++ sg [41] :: vs)):=by
   show sg [40] :: ((J e ++ Rr J l) ++ [sg [41]]) ++ vs=_
   simp
  rw [join_rowT,ej,List.append_assoc]
  have ih:=jV (T:=T) (J:=J) l (fun x hx=>he x (List.mem_cons_of_mem _ hx)) r vs h
  have hf:Fol (rowT T l ++ 41 :: r):=by
   cases l with
   | nil=>exact fol_r _
   | cons b l=>exact fol_k _
  exact L5 (s:=[40]) (by decide) (he e (List.mem_cons_self ..) _ _ hf ih)
def RdG {α:Type} (J:α → List TK) (R:α → α → Prop) (ts:List Tk) (kid:Nat → PR α) (x:α):Prop:=∀ i rest,Ee ts i (J x ++ rest) → ∃ x',kid i=.ok x' (i + (J x).length) ∧ R x x'
theorem kU {α:Type} {J:α → List TK} {R:α → α → Prop} {ts:List Tk} {kid:Nat → PR α} {rest:List TK}:∀ (l:List α),(∀ x ∈ l,RdG J R ts kid x) → ∀ (acc acc':List α),Each2 R acc acc' → ∀ i,Ee ts i (Rr J l ++ sg [41] :: rest) → ∃ l',Each2 R (acc ++ l) l' ∧ ∀ q,l.length + 1 ≤ q → Hj ts kid q acc' i=.ok l' (i + (Rr J l).length + 1)
 | [],_,acc,acc',hl,i,hs=>by
  obtain ⟨k0,t0,-,-,-⟩:=Ee.cons (x:=sg [41]) (r:=rest) hs
  refine ⟨acc',by rw [List.append_nil]; exact hl,fun q hq=>?_⟩
  obtain ⟨q,rfl⟩:∃ m,q=m + 1:=⟨q - 1,by simp at hq; omega⟩
  show (if (tk ts i).text ∈ [[44]] then _ else (Ea ts [[41]] i).bind fun _ j=>.ok acc' j)=_
  rw [if_neg (by rw [t0]; decide),Iw (by rw [t0]; decide)]; rfl
 | e :: l,he,acc,acc',hl,i,hs=>by
  have hs':Ee ts i (sg [44] :: (J e ++ (Rr J l ++ sg [41] :: rest))):=by
   have:Rr J (e :: l) ++ sg [41] :: rest=sg [44] :: (J e ++ (Rr J l ++ sg [41] :: rest)):=by
    show sg [44] :: (J e ++ Rr J l) ++ _=_
    rw [List.cons_append,List.append_assoc]
   rw [← this]; exact hs
  obtain ⟨k0,t0,-,-,h1⟩:=hs'.cons
  obtain ⟨e',p1,hx⟩:=he e (List.mem_cons_self ..) (i + 1) _ h1
  obtain ⟨l',hl',p2⟩:=kU l (fun x hx=>he x (List.mem_cons_of_mem _ hx)) (acc ++ [e]) (acc' ++ [e']) (hl.snoc hx) (i + 1 + (J e).length) h1.skip
  refine ⟨l',by rw [List.append_assoc] at hl'; exact hl',fun q hq=>?_⟩
  obtain ⟨q,rfl⟩:∃ m,q=m + 1:=⟨q - 1,by simp at hq; omega⟩
  show (if (tk ts i).text ∈ [[44]] then (kid (i + 1)).bind _ else _)=_
  rw [if_pos (by rw [t0]; decide),p1]
  show Hj ts kid q (acc' ++ [e']) (i + 1 + (J e).length)=_
  rw [p2 q (by simp at hq; omega)]
  congr 1
  show _=i + (sg [44] :: (J e ++ Rr J l)).length + 1
  simp; omega
theorem listA_rd {α:Type} {J:α → List TK} {R:α → α → Prop} {ts:List Tk} {kid:Nat → PR α} {rest:List TK} (l:List α) (he:∀ x ∈ l,RdG J R ts kid x) (hh:∀ x ∈ l,J x ≠ [] ∧ Ht (J x) ≠ [41]) {i:Nat} (hs:Ee ts i (Gr (H8 J l) ++ rest)):∃ l',Each2 R l l' ∧ ∀ q,l.length + 1 ≤ q → Kb ts kid q i=.ok l' (i + (Gr (H8 J l)).length):=by
 cases l with
 | nil =>
  obtain ⟨k1,t1,-,-,h1⟩:=Ee.cons (x:=sg [40]) (r:=sg [41] :: rest) hs
  obtain ⟨k2,t2,-,-,-⟩:=h1.cons
  refine ⟨[],.nil,fun q _=>?_⟩
  unfold Kb
  rw [Iw (by rw [t1]; decide)]
  show (if (tk ts (i + 1)).text ∈ [[41]] then _ else _)=_
  rw [if_pos (by rw [t2]; decide)]; rfl
 | cons e l =>
  have ej:Gr (H8 J (e :: l)) ++ rest=sg [40] :: (J e ++ (Rr J l ++ sg [41] :: rest)):=by
   show sg [40] :: ((J e ++ Rr J l) ++ [sg [41]]) ++ rest=_
   simp
  have el:i + (Gr (H8 J (e :: l))).length=i + 1 + (J e).length + (Rr J l).length + 1:=by
   show i + (sg [40] :: ((J e ++ Rr J l) ++ [sg [41]])).length=_
   simp; omega
  rw [ej] at hs
  obtain ⟨k1,t1,-,-,h1⟩:=hs.cons
  obtain ⟨e',p1,hx⟩:=he e (List.mem_cons_self ..) (i + 1) _ h1
  obtain ⟨l',hl',p2⟩:=kU l (fun x hx=>he x (List.mem_cons_of_mem _ hx)) [e] [e'] (Each2.one hx) (i + 1 + (J e).length) h1.skip
  refine ⟨l',hl',fun q hq=>?_⟩
  have hk:=hh e (List.mem_cons_self ..)
  have hx2:(tk ts (i + 1)).text ≠ [41]:=by rw [h1.head,Im hk.1]; exact hk.2
  unfold Kb
  rw [Iw (by rw [t1]; decide)]
  show (if (tk ts (i + 1)).text ∈ [[41]] then _ else (kid (i + 1)).bind _)=_
  rw [if_neg (by simpa using hx2),p1]
  show Hj ts kid q [e'] (i + 1 + (J e).length)=_
  rw [p2 q (by simp at hq ⊢; omega),el]
abbrev Q1:List UInt8:=[97,115,121,110,99]
theorem iQ {x:PE} (h:GoodT x) (ih:Ht (Gs x) ≠ Q1) {ks:List KJ} {k:Nat} (hk:ks[k]? = some (pB x)) (least:Nat) (r:List TK):Ht (kJ ks k least ++ r) ≠ Q1:=by
 have hne:=(uX h).2.ne
 by_cases hb:Dw x < least
 ·rw [kj_brk hk hb]; show ([40]:List UInt8) ≠ _; decide
 ·rw [wD hk hb,Im hne]; exact ih
theorem no_async {e:PE} (h:GoodT e):Ht (Gs e) ≠ Q1:=by
 induction h with
 | mk kind pos n name off kids hs hk ih =>
  rw [Ut]
  have hn:∀ w:List UInt8,G3 w → w ≠ Q1:=fun w hw e=>hw.1.1 (e ▸ by decide)
  cases hs with
  | num _ hr =>
   show Ht (dI n) ≠ _
   unfold dI
   split
   ·show ([45]:List UInt8) ≠ _; decide
   ·exact Zn _ (by decide)
  | truth _ hr=>rcases hr with rfl | rfl <;> decide
  | var _ h=>exact hn _ h
  | neg x =>
   show Ht (pK _) ≠ _
   unfold pK
   split <;> (show ([45]:List UInt8) ≠ _; decide)
  | not x=>show ([110,111,116]:List UInt8) ≠ _; decide
  | bin _ x y hm=>exact iQ (hk x (by simp)) (ih x (by simp)) (k:=0) rfl _ _
  | ite x y z=>show ([105,102]:List UInt8) ≠ _; decide
  | arrow x y=>exact iQ (hk x (by simp)) (ih x (by simp)) (k:=0) rfl _ _
  | fby x y h=>exact iQ (hk x (by simp)) (ih x (by simp)) (k:=0) rfl _ _
  | pre x=>show ([112,114,101]:List UInt8) ≠ _; decide
  | when _ _ x h=>exact iQ (hk x (by simp)) (ih x (by simp)) (k:=0) rfl _ _
  | merge _ x y h=>show ([109,101,114,103,101]:List UInt8) ≠ _; decide
  | call _ _ h=>exact hn _ h
  | await _ _ h hl =>
   cases kids <;> (show ([97,119,97,105,116]:List UInt8) ≠ _; decide)
theorem call_rd {e:PE} (h:GoodT e) (hk:I0 e=13) {ts:List Tk} {i:Nat} {rest:List TK} (hs:Ee ts i (Gs e ++ rest)) (hst:Hx 10 rest):RdA ts i (i + (Gs e).length) e .call:=by
 have hb:=(back_e h).1
 cases h with
 | mk kind pos n name off kids hsh hkk =>
  have:kind=13:=hk
  subst this
  cases hsh with
  | call _ _ hn =>
   obtain ⟨e',he,N,hP⟩:=hb.a (L:=10) (Nat.le_refl _) (by decide) hs hst
   have et:Gs (.mk 13 pos 0 name false kids)=nm name :: Gr (Oz (Fv kids)):=Ut ..
   have hs':Ee ts i (nm name :: sg [40] :: ((Oz (Fv kids) ++ [sg [41]]) ++ rest)):=by rw [et] at hs; exact hs
   obtain ⟨k0,t0,-,-,h1⟩:=hs'.cons
   have k0:(tk ts i).kind=1:=k0
   obtain ⟨k1,t1,-,-,-⟩:=h1.cons
   refine ⟨e',he,N,fun m hm=>?_⟩
   have:=hP (m + 2) (by omega)
   have e2:P ts (m + 2) .primary i=P ts m .call i:=by
    rw [Nc,k0,if_neg (by decide),if_pos rfl]
    show (if (tk ts (i + 1)).text=[40] then P ts m .call i else _)=_
    rw [if_pos t1]
   rw [← e2]; exact this
abbrev T5 (x:List UInt8 × Nat):List TK:=[nm x.1]
def Iz (l:List (List UInt8 × Nat)):List TK:=if 1 < l.length then Gr (H8 T5 l) else H8 T5 l
def pC (l:List (List UInt8 × Nat)):Prop:=l ≠ [] ∧ ∀ x ∈ l,G3 x.1
theorem iO {ts:List Tk} (x:List UInt8 × Nat):RdG T5 LikeF ts (Ie ts) x:=fun i rest hs=>by
 obtain ⟨k0,t0,-,-,-⟩:=Ee.cons (x:=nm x.1) (r:=rest) hs
 refine ⟨((tk ts i).text,(tk ts i).pos),?_,t0.symm⟩
 unfold Ie
 rw [Qx k0]; rfl
theorem lefts_rd {l:List (List UInt8 × Nat)} (h:pC l) {ts:List Tk} {i:Nat} {rest:List TK} (hs:Ee ts i (Iz l ++ rest)):∃ l',Each2 LikeF l l' ∧ ∀ q,l.length + 1 ≤ q → Jk ts q i=.ok l' (i + (Iz l).length):=by
 match l,h with
 | [x],h =>
  obtain ⟨k0,t0,-,-,-⟩:=Ee.cons (x:=nm x.1) (r:=rest) hs
  obtain ⟨x',p,hx⟩:=iO x i rest hs
  refine ⟨[x'],Each2.one hx,fun q hq=>?_⟩
  unfold Jk
  rw [if_pos k0,p]; rfl
 | x :: y :: r,h =>
  have ej:Iz (x :: y :: r) ++ rest=sg [40] :: (T5 x ++ sg [44] :: (T5 y ++ (Rr T5 r ++ sg [41] :: rest))):=by
   unfold Iz
   rw [if_pos (by simp)]
   show sg [40] :: ((T5 x ++ Rr T5 (y :: r)) ++ [sg [41]]) ++ rest=_
   simp [Rr]
  have el:i + (Iz (x :: y :: r)).length=i + 1 + 1 + 1 + 1 + (Rr T5 r).length + 1:=by
   unfold Iz
   rw [if_pos (by simp)]
   show i + (sg [40] :: ((T5 x ++ Rr T5 (y :: r)) ++ [sg [41]])).length=_
   simp [Rr]; omega
  rw [ej] at hs
  obtain ⟨k0,t0,-,-,h1⟩:=hs.cons
  obtain ⟨x',p1,hx⟩:=iO x (i + 1) _ h1
  have h2:Ee ts (i + 1 + 1) _:=h1.skip
  obtain ⟨k2,t2,-,-,h3⟩:=h2.cons
  obtain ⟨y',p2,hy⟩:=iO y (i + 1 + 1 + 1) _ h3
  have h4:Ee ts (i + 1 + 1 + 1 + 1) _:=h3.skip
  obtain ⟨l',hl,p3⟩:=kU r (fun x _=>iO x) [y] [y'] (Each2.one hy) (i + 1 + 1 + 1 + 1) h4
  refine ⟨x' :: l',.cons _ _ _ _ hx hl,fun q hq=>?_⟩
  unfold Jk
  rw [if_neg (by rw [k0]; decide),Iw (by rw [t0]; decide)]
  show (Ie ts (i + 1)).bind _=_
  rw [p1]
  show (Ea ts [[44]] (i + 1 + 1)).bind _=_
  rw [Iw (by rw [t2]; decide)]
  show ((Ie ts (i + 1 + 1 + 1)).bind fun y m=>Hj ts (Ie ts) q [y] m).bind _=_
  rw [p2]
  show (Hj ts (Ie ts) q [y'] (i + 1 + 1 + 1 + 1)).bind _=_
  rw [p3 q (by simp at hq; omega),el]; rfl
def Vz (q:PQ):List TK:=if q.async then kw Q1 :: Gs q.e else Gs q.e
def eqJ (q:PQ):List TK:=Iz q.left ++ sg [61] :: (Vz q ++ [sg [59]])
def Sa (q:PQ):Prop:=pC q.left ∧ GoodT q.e ∧ (q.async=true → I0 q.e=13) ∧ ¬ I7 q.e > 40
theorem jR (r:List TK):Hx 0 (sg [59] :: r):=Pj fun k hk=>by unfold E5; split <;> decide
theorem eq_rd {q:PQ} (h:Sa q) {ts:List Tk} {i:Nat} {rest:List TK} (hs:Ee ts i (eqJ q ++ rest)):∃ q',Ys q q' ∧ ∃ N,∀ n,N ≤ n → eqP ts n i=.ok q' (i + (eqJ q).length):=by
 have hs1:Ee ts i (Iz q.left ++ sg [61] :: (Vz q ++ sg [59] :: rest)):=by
  have:eqJ q ++ rest=Iz q.left ++ sg [61] :: (Vz q ++ sg [59] :: rest):=by unfold eqJ; simp
  rw [← this]; exact hs
 have el:i + (eqJ q).length=i + (Iz q.left).length + 1 + (Vz q).length + 1:=by unfold eqJ; simp; omega
 obtain ⟨ls,hl,p1⟩:=lefts_rd h.1 hs1
 obtain ⟨k1,t1,-,-,h2⟩:=hs1.skip.cons
 rw [el]
 by_cases ha:q.async=true
 ·have eb:Vz q=kw Q1 :: Gs q.e:=by unfold Vz; rw [if_pos ha]
  rw [eb] at h2 ⊢
  obtain ⟨k2,t2,-,-,h3⟩:=Ee.cons (x:=kw Q1) (r:=Gs q.e ++ sg [59] :: rest) h2
  obtain ⟨e',he,N,p2⟩:=call_rd h.2.1 (h.2.2.1 ha) h3 ((jR rest).mono (Nat.zero_le _))
  obtain ⟨k4,t4,-,-,-⟩:=h3.skip.cons
  refine ⟨⟨ls,true,e'⟩,⟨hl,ha,he⟩,N + q.left.length + 1,fun n hn=>?_⟩
  unfold eqP
  rw [p1 n (by omega)]
  show (Ea ts [[61]] (i + (Iz q.left).length)).bind _=_
  rw [Iw (by rw [t1]; decide)]
  show (if (tk ts (i + (Iz q.left).length + 1)).text ∈ [[97,115,121,110,99]] then ((P ts n .call (i + (Iz q.left).length + 1 + 1)).bind fun e j=>if I7 e > 40 then .bad (aE e) 3 else .ok e j).bind _ else _)=_
  rw [if_pos (by rw [t2]; decide),p2 n (by omega)]
  show (if I7 e' > 40 then _ else PR.ok e' _).bind _=_
  rw [if_neg (by rw [← X6 he]; exact h.2.2.2)]
  show (Ea ts [[59]] (i + (Iz q.left).length + 1 + 1 + (Gs q.e).length)).bind _=_
  rw [Iw (by rw [t4]; decide)]
  show PR.ok _ _=PR.ok _ _
  congr 1
  simp; omega
 ·have ha':q.async=false:=by simpa using ha
  have eb:Vz q=Gs q.e:=by unfold Vz; rw [if_neg ha]
  rw [eb] at h2 ⊢
  have hit:=(back_e h.2.1).1
  obtain ⟨e',he,N,p2⟩:=hit.a (L:=0) (Nat.zero_le _) (by decide) h2 (jR rest)
  obtain ⟨k4,t4,-,-,-⟩:=h2.skip.cons
  have hna:(tk ts (i + (Iz q.left).length + 1)).text ≠ Q1:=by rw [h2.head,Im hit.1.ne]; exact no_async h.2.1
  refine ⟨⟨ls,false,e'⟩,⟨hl,ha',he⟩,N + q.left.length + 1,fun n hn=>?_⟩
  unfold eqP
  rw [p1 n (by omega)]
  show (Ea ts [[61]] (i + (Iz q.left).length)).bind _=_
  rw [Iw (by rw [t1]; decide)]
  show (if (tk ts (i + (Iz q.left).length + 1)).text ∈ [[97,115,121,110,99]] then _ else ((P ts n .expr (i + (Iz q.left).length + 1)).bind fun e j=>if I7 e > 40 then .bad (aE e) 3 else .ok e j).bind _)=_
  rw [if_neg (by simpa using hna),show P ts n .expr (i + (Iz q.left).length + 1)=_ from p2 n (by omega)]
  show (if I7 e' > 40 then _ else PR.ok e' _).bind _=_
  rw [if_neg (by rw [← X6 he]; exact h.2.2.2)]
  show (Ea ts [[59]] (i + (Iz q.left).length + 1 + (Gs q.e).length)).bind _=_
  rw [Iw (by rw [t4]; decide)]; rfl
def W3:List PQ → List TK
 | []=>[]
 | q :: l=>eqJ q ++ W3 l
theorem eqJ_head {q:PQ} (h:Sa q):eqJ q ≠ [] ∧ Ht (eqJ q) ≠ [116,101,108]:=by
 have hl:=h.1
 unfold eqJ Iz
 match hq:q.left,hl with
 | [x],hl =>
  refine ⟨by simp,fun e=>?_⟩
  have hx:x.1=[116,101,108]:=e
  have:=hl.2 x (by simp)
  rw [hx] at this
  exact this.1.1 (by decide)
 | x :: y :: r,hl =>
  rw [if_pos (by simp)]
  exact ⟨by simp,by show ([40]:List UInt8) ≠ _; decide⟩
theorem eqs_rd {ts:List Tk} {rest:List TK}:∀ (l:List PQ),(∀ q ∈ l,Sa q) → ∀ (acc acc':List PQ),Each2 Ys acc acc' → ∀ i,Ee ts i (W3 l ++ kw [116,101,108] :: rest) → ∃ l',Each2 Ys (acc ++ l) l' ∧ ∃ N,∀ n q,N ≤ n → N ≤ q → Qz ts n q acc' i=.ok l' (i + (W3 l).length)
 | [],_,acc,acc',hl,i,hs=>by
  obtain ⟨k0,t0,-,-,-⟩:=Ee.cons (x:=kw [116,101,108]) (r:=rest) hs
  refine ⟨acc',by rw [List.append_nil]; exact hl,1,fun n q _ hq=>?_⟩
  obtain ⟨q,rfl⟩:∃ m,q=m + 1:=⟨q - 1,by omega⟩
  show (if (tk ts i).text ∈ [[116,101,108]] then PR.ok acc' i else _)=_
  rw [if_pos (by rw [t0]; decide)]; rfl
 | e :: l,he,acc,acc',hl,i,hs=>by
  have hs':Ee ts i (eqJ e ++ (W3 l ++ kw [116,101,108] :: rest)):=yT hs
  have hg:=he e (List.mem_cons_self ..)
  obtain ⟨hne,hh⟩:=eqJ_head hg
  obtain ⟨e',hx,N1,p1⟩:=eq_rd hg hs'
  obtain ⟨l',hl',N2,p2⟩:=eqs_rd l (fun x hx=>he x (List.mem_cons_of_mem _ hx)) (acc ++ [e]) (acc' ++ [e']) (hl.snoc hx) _ hs'.skip
  refine ⟨l',by rw [List.append_assoc] at hl'; exact hl',N1 + N2 + 1,fun n q hn hq=>?_⟩
  obtain ⟨q,rfl⟩:∃ m,q=m + 1:=⟨q - 1,by omega⟩
  have ht:(tk ts i).text ≠ [116,101,108]:=by rw [hs'.head,Im hne]; exact hh
  show (if (tk ts i).text ∈ [[116,101,108]] then _ else (eqP ts n i).bind fun q j=>Qz ts n _ (acc' ++ [q]) j)=_
  rw [if_neg (by simpa using ht),p1 n (by omega)]
  show Qz ts n q (acc' ++ [e']) _=_
  rw [p2 n q (by omega) (by omega)]
  congr 1
  show _=i + (eqJ e ++ W3 l).length
  rw [List.length_append,Nat.add_assoc]
def Kk:List PD → List TK
 | []=>[]
 | d :: l=>Hb d ++ sg [59] :: Kk l
def Pe (l:List PD):List TK:=if l=[] then [] else kw [118,97,114] :: Kk l
theorem xS {ts:List Tk} {t:TK} {rest:List TK} (ht:t.1 ≠ 1):∀ (l:List PD),(∀ d ∈ l,Ju d) → ∀ (acc acc':List PD),Each2 Mq acc acc' → ∀ i,Ee ts i (Kk l ++ t :: rest) → ∃ l',Each2 Mq (acc ++ l) l' ∧ ∀ q,l.length + 1 ≤ q → J9 ts q acc' i=.ok l' (i + (Kk l).length)
 | [],_,acc,acc',hl,i,hs=>by
  obtain ⟨k0,t0,-,-,-⟩:=Ee.cons (x:=t) (r:=rest) hs
  refine ⟨acc',by rw [List.append_nil]; exact hl,fun q hq=>?_⟩
  obtain ⟨q,rfl⟩:∃ m,q=m + 1:=⟨q - 1,by simp at hq; omega⟩
  show (if (tk ts i).kind=1 then _ else PR.ok acc' i)=_
  rw [if_neg (by rw [k0]; exact ht)]; rfl
 | d :: l,he,acc,acc',hl,i,hs=>by
  have hs':Ee ts i (Hb d ++ sg [59] :: (Kk l ++ t :: rest)):=Qg hs
  obtain ⟨d',p1,hx⟩:=oE (he d (List.mem_cons_self ..)) hs'
  obtain ⟨k1,t1,-,-,h2⟩:=hs'.skip.cons
  obtain ⟨l',hl',p2⟩:=xS ht l (fun x hx=>he x (List.mem_cons_of_mem _ hx)) (acc ++ [d]) (acc' ++ [d']) (hl.snoc hx) _ h2
  refine ⟨l',by rw [List.append_assoc] at hl'; exact hl',fun q hq=>?_⟩
  obtain ⟨q,rfl⟩:∃ m,q=m + 1:=⟨q - 1,by simp at hq; omega⟩
  have k0:(tk ts i).kind=1:=by
   have hd:∃ r,Hb d=nm d.name :: r:=by unfold Hb Mx; split <;> exact ⟨_,rfl⟩
   obtain ⟨r,er⟩:=hd
   rw [er] at hs'
   exact hs'.cons.1
  show (if (tk ts i).kind=1 then (Gb ts i).bind fun d j=>J9 ts q (acc' ++ [d]) j else _)=_
  rw [if_pos k0,p1]
  show J9 ts q (acc' ++ [d']) _=_
  rw [p2 q (by simp at hq; omega)]
  congr 1
  show _=i + (Hb d ++ sg [59] :: Kk l).length
  simp; omega
theorem vars_rd {ts:List Tk} {rest:List TK} (l:List PD) (he:∀ d ∈ l,Ju d) {i:Nat} (hs:Ee ts i (Pe l ++ kw [108,101,116] :: rest)):∃ l',Each2 Mq l l' ∧ ∀ q,l.length + 1 ≤ q → Ol ts q i=.ok l' (i + (Pe l).length):=by
 cases l with
 | nil =>
  obtain ⟨k0,t0,-,-,-⟩:=Ee.cons (x:=kw [108,101,116]) (r:=rest) hs
  refine ⟨[],.nil,fun q hq=>?_⟩
  unfold Ol
  rw [if_neg (by rw [t0]; decide)]; rfl
 | cons d l =>
  have ej:Pe (d :: l)=kw [118,97,114] :: Kk (d :: l):=by unfold Pe; rw [if_neg (by simp)]
  rw [ej] at hs ⊢
  obtain ⟨k0,t0,-,-,h1⟩:=Ee.cons (x:=kw [118,97,114]) (r:=Kk (d :: l) ++ kw [108,101,116] :: rest) hs
  have hs':Ee ts (i + 1) (Hb d ++ sg [59] :: (Kk l ++ kw [108,101,116] :: rest)):=Qg h1
  obtain ⟨d',p1,hx⟩:=oE (he d (List.mem_cons_self ..)) hs'
  obtain ⟨k1,t1,-,-,h2⟩:=hs'.skip.cons
  obtain ⟨l',hl',p2⟩:=xS (t:=kw [108,101,116]) (by decide) l (fun x hx=>he x (List.mem_cons_of_mem _ hx)) [d] [d'] (Each2.one hx) _ h2
  refine ⟨l',hl',fun q hq=>?_⟩
  unfold Ol
  rw [if_pos (by rw [t0]; decide),p1]
  show J9 ts q [d'] _=_
  rw [p2 q (by simp at hq; omega)]
  congr 1
  show _=i + (kw [118,97,114] :: (Hb d ++ sg [59] :: Kk l)).length
  simp; omega
def Rx (n:PN):List TK:=kw [110,111,100,101] :: nm n.name :: (Gr (H8 Hb n.ins) ++ kw [114,101,116,117,114,110,115] :: (Gr (H8 Hb n.outs) ++ (Pe n.vars ++ kw [108,101,116] :: (W3 n.eqs ++ [kw [116,101,108]]))))
structure GoodNode (n:PN):Prop where
 name:G3 n.name
 ins:∀ d ∈ n.ins,Ju d ∧ d.clock=[]
 outs:∀ d ∈ n.outs,Ju d ∧ d.clock=[]
 vars:∀ d ∈ n.vars,Ju d
 eqs:∀ q ∈ n.eqs,Sa q
theorem zV {ts:List Tk} {d:PD} (h:Ju d ∧ d.clock=[]):RdG Hb Mq ts (Iq ts) d:=fun i rest hs=>by
 have ej:Hb d=Mx d:=by unfold Hb; rw [if_pos h.2]
 rw [ej] at hs ⊢
 obtain ⟨p,hp⟩:=xG hs
 exact ⟨_,hp,rfl,rfl,rfl,h.2,h.1.2.1 h.2⟩
theorem nY {d:PD} (h:Ju d):Hb d ≠ [] ∧ Ht (Hb d) ≠ [41]:=by
 have hd:∃ r,Hb d=nm d.name :: r:=by unfold Hb Mx; split <;> exact ⟨_,rfl⟩
 obtain ⟨r,er⟩:=hd
 rw [er]
 refine ⟨by simp,fun e=>?_⟩
 have e:d.name=[41]:=e
 have:=h.1
 rw [e] at this
 exact this.1.2 (by decide)
theorem node_rd {x:PN} (h:GoodNode x) {ts:List Tk} {i:Nat} {rest:List TK} (hs:Ee ts i (Rx x ++ rest)):∃ x',Ll x x' ∧ ∃ N,∀ n,N ≤ n → K3 ts n i=.ok x' (i + (Rx x).length):=by
 have ej:Rx x ++ rest=kw [110,111,100,101] :: nm x.name :: (Gr (H8 Hb x.ins) ++ (kw [114,101,116,117,114,110,115] :: (Gr (H8 Hb x.outs) ++ (Pe x.vars ++ (kw [108,101,116] :: (W3 x.eqs ++ (kw [116,101,108] :: rest))))))):=by
  unfold Rx; simp
 have el:i + (Rx x).length=i + 1 + 1 + (Gr (H8 Hb x.ins)).length + 1 + (Gr (H8 Hb x.outs)).length + (Pe x.vars).length + 1 + (W3 x.eqs).length + 1:=by
  unfold Rx; simp; omega
 rw [ej] at hs
 rw [el]
 obtain ⟨k0,t0,-,-,h0⟩:=hs.cons
 obtain ⟨k1,t1,-,-,h1⟩:=h0.cons
 have t1:(tk ts (i + 1)).text=x.name:=t1
 obtain ⟨ins,hins,p2⟩:=listA_rd x.ins (fun d hd=>zV (h.ins d hd)) (fun d hd=>nY (h.ins d hd).1) h1
 have h2:=h1.skip
 obtain ⟨k3,t3,-,-,h3⟩:=h2.cons
 obtain ⟨outs,houts,p4⟩:=listA_rd x.outs (fun d hd=>zV (h.outs d hd)) (fun d hd=>nY (h.outs d hd).1) h3
 have h4:=h3.skip
 obtain ⟨vars,hvars,p5⟩:=vars_rd x.vars h.vars h4
 have h5:=h4.skip
 obtain ⟨k6,t6,-,-,h6⟩:=h5.cons
 obtain ⟨eqs,heqs,N,p7⟩:=eqs_rd x.eqs h.eqs [] [] .nil _ h6
 obtain ⟨k8,t8,-,-,-⟩:=h6.skip.cons
 refine ⟨⟨x.name,(tk ts (i + 1)).pos,ins,outs,vars,eqs⟩,⟨rfl,hins,houts,hvars,heqs⟩,N + x.ins.length + x.outs.length + x.vars.length + 1,fun n hn=>?_⟩
 unfold K3
 rw [Iw (by rw [t0]; decide)]
 show (Gi ts 1 (i + 1)).bind _=_
 rw [Qx k1]
 show (Kb ts (Iq ts) n (i + 1 + 1)).bind _=_
 rw [p2 n (by omega)]
 show (Ea ts [[114,101,116,117,114,110,115]] (i + 1 + 1 + (Gr (H8 Hb x.ins)).length)).bind _=_
 rw [Iw (by rw [t3]; decide)]
 show (Kb ts (Iq ts) n (i + 1 + 1 + (Gr (H8 Hb x.ins)).length + 1)).bind _=_
 rw [p4 n (by omega)]
 show (Ol ts n (i + 1 + 1 + (Gr (H8 Hb x.ins)).length + 1 + (Gr (H8 Hb x.outs)).length)).bind _=_
 rw [p5 n (by omega)]
 show (Ea ts [[108,101,116]] (i + 1 + 1 + (Gr (H8 Hb x.ins)).length + 1 + (Gr (H8 Hb x.outs)).length + (Pe x.vars).length)).bind _=_
 rw [Iw (by rw [t6]; decide)]
 show (Qz ts n n [] (i + 1 + 1 + (Gr (H8 Hb x.ins)).length + 1 + (Gr (H8 Hb x.outs)).length + (Pe x.vars).length + 1)).bind _=_
 rw [p7 n n (by omega) (by omega)]
 show (Ea ts [[116,101,108]] (i + 1 + 1 + (Gr (H8 Hb x.ins)).length + 1 + (Gr (H8 Hb x.outs)).length + (Pe x.vars).length + 1 + (W3 x.eqs).length)).bind _=_
 rw [Iw (by rw [t8]; decide)]
 show PR.ok (PN.mk (tk ts (i + 1)).text _ ins outs vars eqs) _=_
 rw [t1]
def fN:List PN → List TK
 | []=>[finT]
 | x :: l=>Rx x ++ fN l
theorem prog_rd {ts:List Tk}:∀ (l:List PN),(∀ x ∈ l,GoodNode x) → ∀ (acc acc':List PN),Each2 Ll acc acc' → ∀ i,Ee ts i (fN l) → ∃ l' j,Each2 Ll (acc ++ l) l' ∧ (tk ts j).kind=5 ∧ ∃ N,∀ n q,N ≤ n → N ≤ q → Lg ts n q acc' i=.ok l' j
 | [],_,acc,acc',hl,i,hs=>by
  obtain ⟨k0,t0,-,-,-⟩:=Ee.cons (x:=finT) (r:=[]) hs
  refine ⟨acc',i,by rw [List.append_nil]; exact hl,k0,1,fun n q _ hq=>?_⟩
  obtain ⟨q,rfl⟩:∃ m,q=m + 1:=⟨q - 1,by omega⟩
  show (if (tk ts i).text ∈ [[110,111,100,101]] then _ else PR.ok acc' i)=_
  rw [if_neg (by rw [t0]; decide)]
 | e :: l,he,acc,acc',hl,i,hs=>by
  have hs':Ee ts i (Rx e ++ fN l):=hs
  obtain ⟨e',hx,N1,p1⟩:=node_rd (he e (List.mem_cons_self ..)) hs'
  obtain ⟨l',j,hl',hk,N2,p2⟩:=prog_rd l (fun x hx=>he x (List.mem_cons_of_mem _ hx)) (acc ++ [e]) (acc' ++ [e']) (hl.snoc hx) _ hs'.skip
  refine ⟨l',j,by rw [List.append_assoc] at hl'; exact hl',hk,N1 + N2 + 1,fun n q hn hq=>?_⟩
  obtain ⟨q,rfl⟩:∃ m,q=m + 1:=⟨q - 1,by omega⟩
  have t0:(tk ts i).text=[110,111,100,101]:=hs'.cons.2.1
  show (if (tk ts i).text ∈ [[110,111,100,101]] then (K3 ts n i).bind fun y j=>Lg ts n q (acc' ++ [y]) j else _)=_
  rw [if_pos (by rw [t0]; decide),p1 n (by omega)]
  show Lg ts n q (acc' ++ [e']) _=_
  rw [p2 n q (by omega) (by omega)]
theorem lC {ts:List Tk} {l:List PN} (hne:l ≠ []) (h:∀ x ∈ l,GoodNode x) (hs:Ee ts 0 (fN l)):∃ l' j,Each2 Ll l l' ∧ (tk ts j).kind=5 ∧ ∃ N,∀ n,N ≤ n → Fg ts n 0=.ok l' j:=by
 cases l with
 | nil=>exact absurd rfl hne
 | cons e l =>
  have hs':Ee ts 0 (Rx e ++ fN l):=hs
  obtain ⟨e',hx,N1,p1⟩:=node_rd (h e (List.mem_cons_self ..)) hs'
  obtain ⟨l',j,hl',hk,N2,p2⟩:=prog_rd l (fun x hx=>h x (List.mem_cons_of_mem _ hx)) [e] [e'] (Each2.one hx) _ hs'.skip
  refine ⟨l',j,hl',hk,N1 + N2 + 1,fun n hn=>?_⟩
  unfold Fg
  rw [p1 n (by omega)]
  show Lg ts n n [e'] _=_
  rw [p2 n n (by omega) (by omega)]
section
variable {ts:List Tk} (hts:NameL ts)
include hts
omit hts in
omit hts in
omit hts in
omit hts in
omit hts in
theorem eqP_le (n i:Nat):(eqP ts n i).le (eqP ts (n + 1) i):=by
 have hr:∀ (n:Nat) (l:List (List UInt8 × Nat)) (i:Nat),(Hj ts (Ie ts) n l i).le (Hj ts (Ie ts) (n + 1) l i):=by
  intro n
  induction n with
  | zero=>intro l i ho; exact absurd rfl ho
  | succ n ih =>
   intro l i
   unfold Hj
   exact O0 (F5 (le_refl _) fun a j=>ih _ j) (le_refl _)
 have hl:(Jk ts n i).le (Jk ts (n + 1) i):=by
  unfold Jk
  exact O0 (le_refl _) (F5 (le_refl _) fun _ j=>F5 (le_refl _) fun x j=>F5 (le_refl _) fun _ j=>F5 (F5 (le_refl _) fun y m=>hr n _ _) fun _ _=>le_refl _)
 unfold eqP
 refine F5 hl fun ls j=>F5 (le_refl _) fun _ j=>O0 ?_ ?_
 ·exact F5 (F5 (P_le n .call _) fun _ _=>le_refl _) fun _ _=>le_refl _
 ·exact F5 (F5 (P_le n .expr _) fun _ _=>le_refl _) fun _ _=>le_refl _
omit hts in
theorem eqsP_le (N:Nat):∀ (n:Nat) (l:List PQ) (i:Nat),(Qz ts N n l i).le (Qz ts (N + 1) (n + 1) l i)
 | 0,l,i=>fun ho=>absurd rfl ho
 | n + 1,l,i=>by
  unfold Qz
  exact O0 (le_refl _) (F5 (eqP_le N i) fun q j=>eqsP_le N n _ j)
omit hts in
theorem tF (n i:Nat):(Kb ts (Iq ts) n i).le (Kb ts (Iq ts) (n + 1) i):=by
 have hr:∀ (n:Nat) (l:List PD) (i:Nat),(Hj ts (Iq ts) n l i).le (Hj ts (Iq ts) (n + 1) l i):=by
  intro n
  induction n with
  | zero=>intro l i ho; exact absurd rfl ho
  | succ n ih =>
   intro l i
   unfold Hj
   exact O0 (F5 (le_refl _) fun a j=>ih _ j) (le_refl _)
 unfold Kb
 exact F5 (le_refl _) fun _ j=>O0 (le_refl _) (F5 (le_refl _) fun x m=>hr n _ _)
omit hts in
theorem xT:∀ (n:Nat) (l:List PD) (i:Nat),(J9 ts n l i).le (J9 ts (n + 1) l i)
 | 0,l,i=>fun ho=>absurd rfl ho
 | n + 1,l,i=>by
  unfold J9
  exact O0 (F5 (le_refl _) fun d j=>xT n _ j) (le_refl _)
omit hts in
theorem nodeP_le (n i:Nat):(K3 ts n i).le (K3 ts (n + 1) i):=by
 unfold K3
 refine F5 (le_refl _) fun _ j=>F5 (le_refl _) fun t j=>F5 (tF n j) fun ins j=>F5 (le_refl _) fun _ j=>F5 (tF n j) fun outs j=>F5 ?_ fun vars j=>F5 (le_refl _) fun _ j=>F5 (eqsP_le n n [] j) fun qs j=>F5 (le_refl _) fun _ j=>le_refl _
 unfold Ol
 exact O0 (F5 (le_refl _) fun x m=>xT n _ m) (le_refl _)
omit hts in
theorem zN (N:Nat):∀ (n:Nat) (l:List PN) (i:Nat),(Lg ts N n l i).le (Lg ts (N + 1) (n + 1) l i)
 | 0,l,i=>fun ho=>absurd rfl ho
 | n + 1,l,i=>by
  unfold Lg
  exact O0 (F5 (nodeP_le N i) fun q j=>zN N n _ j) (le_refl _)
omit hts in
theorem zK (n i:Nat):(Fg ts n i).le (Fg ts (n + 1) i):=by
 unfold Fg
 exact F5 (nodeP_le n i) fun x j=>zN n n [x] j
omit hts in
theorem Yj {n m:Nat} (h:n ≤ m) (i:Nat):(Fg ts n i).le (Fg ts m i):=by
 induction h with
 | refl=>exact le_refl _
 | step _ ih=>exact fun ho=>(zK _ _ (by rw [ih ho]; exact ho)).trans (ih ho)
end
theorem ag55:Fq Tryz.prog 55=some false:=by kernel_rfl
theorem ldq0 {S:St} {id:Nat} {lv:AV} {a:Bool} {xs:List AV} (h:S.mem.get id=some (.box (eqC lv a xs))):Ci Tryz.prog S 55 (.ptr id 0)=some lv:=by
 simp [Ci,Dv,h,ag55,eqC]
theorem ldq1 {S:St} {id:Nat} {lv:AV} {a:Bool} {xs:List AV} (h:S.mem.get id=some (.box (eqC lv a xs))):Ci Tryz.prog S 4 (.ptr id 1)=some (.v (.bool a)):=by
 simp [Ci,Dv,h,ag4,eqC]
theorem ldq2 {S:St} {id:Nat} {lv:AV} {a:Bool} {xs:List AV} (h:S.mem.get id=some (.box (eqC lv a xs))) (hx:xs.length=6):Ci Tryz.prog S 30 (.ptr id 2)=some (.agg xs):=by
 have e:xs.take 6=xs:=List.take_of_length_le (by omega)
 simp [Ci,Dv,h,a30,s30,eqC,hx,e]
end Go.Ax
