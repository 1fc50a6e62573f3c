/- Ql -/
import Derived.Test.YtjgknelmjdallaaGreatDoorTdG22
import Derived.Test.YtjgknelmjdallaaGreatDoorTdG13
import Derived.Lib.AppendIntMem
import Derived.Test.YtjgknelmjdallaaGreatDoorTdG19
import Derived.Test.YtjgknelmjdallaaGreatDoorTdG21
import Derived.Test.YtjgknelmjdallaaGreatDoorTdG17
set_option linter.unusedVariables false
set_option linter.unusedSimpArgs false
noncomputable section
namespace Go.Ax
open Go.RowKit Go.Proofs
set_option maxRecDepth 100000
theorem codeWG {E:Env} (hE:E.Ok) (hI:Kw E) (hmix:E.P.follows .mixedOrders=true) {n t:Nat} {c:Code} {f:T AV} {S:St}
  (h:W E n c ⟨f,[]⟩ S (fun r=>∃ f' S',r=.out .ret ⟨f',[]⟩ S' ∧ f'.get t=some (.v (.bool true)))) {Q:Exit → Act → World → Prop} {act:Act} {γ:Gh} {base:Nat} {w0 w:World} (hS:SR base w0 γ S w) (hg:GR γ w E.G) (hf:FR γ w f act.tmps) (hn:act.tmps.size=n) (hd:act.defers=[])
  (hQ:∀ act' w',act'.tmps.size=n → act'.defers=[] → act'.tmps[t]? = some (.bool true) → Below base w0 w' → Q .ret act' w'):c.wp E.P Q act w:=by
 obtain ⟨r,⟨m0,hm⟩,f',S',rfl,ht⟩:=Dh h
 refine (Um hE hI (Jf hE hmix) m0).code base w0 Q n c γ S w ⟨f,[]⟩ act hS ⟨hf,hn,by rw [hd]; trivial⟩ hg ?_
 rw [hm m0 (Nat.le_refl _)]
 intro γ' act' w' h1 h2 h3
 show Q .ret act' w'
 obtain ⟨k1,k2⟩:=h3.tmps t _ ht
 have hdd:=h3.dfr
 have hd':act'.defers=[]:=by
  cases hx:act'.defers with
  | nil=>rfl
  | cons a r=>rw [hx] at hdd; exact hdd.elim
 refine hQ act' w' h3.size hd' ?_ h1.below
 have e1:act'.tmps[t]? = some (act'.tmps[t]):=Array.getElem?_eq_getElem k1
 have e2:act'.tmps.getD t undef=act'.tmps[t]:=by simp [k1]
 rw [e1]
 rw [e2] at k2
 generalize act'.tmps[t]=z at k2
 cases k2
 rfl
def GhW (w:World):Gh:={ loc:=fun _=>none,im:=fun b o=>b < w.heap.size ∧ ∃ v,w.cell? ⟨b,o,none⟩=some v }
theorem SR.whole (w:World):SR w.heap.size w (GhW w) St0 w :=
 ⟨.refl _ _,Nat.le_refl _,fun _ _ h=>h.2,fun _ _=>⟨rfl,rfl⟩,Nat.le_refl _,fun _ _ _ h=>(by cases h),fun _ _ h=>(by cases h),fun _ _ _ _ _ _ _ h=>(by cases h)⟩
def RngIn (w:World):Prop:=∃ b o:Nat,w.cell? ⟨5,0,none⟩=some (.iface 278 (.pointer (some ⟨b,o,none⟩)))
theorem RngIn.gr {w:World} (h:RngIn w):GR (GhW w) w gR:=by
 obtain ⟨b,o,h⟩:=h
 intro g cs hg
 unfold gR at hg
 cases hb:Nat.beq g 5 with
 | false=>rw [hb] at hg; cases hg
 | true =>
  have:g=5:=Nat.eq_of_beq_eq_true hb
  subst this
  rw [hb] at hg
  injection hg with hg; subst hg
  refine ⟨.ep _ 5 0 (fun _=>.iface 278 (.pointer (some ⟨b,o,none⟩))) (fun k hk=>?_) (fun x hx=>?_) (fun k hk=>?_),fun h2=>absurd h2 (by simp)⟩
  ·have:k=0:=by simp at hk; exact hk
   subst this
   exact ⟨⟨World.block_lt_of_cell? w _ h,_,h⟩,h⟩
  ·simp only [List.mem_cons,List.not_mem_nil,or_false] at hx; subst hx; rfl
  ·have:k=0:=by simp at hk; exact hk
   subst this
   exact .iface _ _ _ (.ep [] b o (fun _=>undef) (fun k h=>absurd h (Nat.not_lt_zero k)) (fun _ h=>absurd h List.not_mem_nil) (fun k h=>absurd h (Nat.not_lt_zero k)))
def allK (F L:Nat):Nat → List UInt8 → Nat → Option ((Nat × Nat) ⊕ List Tk)
 | 0,_,_=>none
 | n + 1,r,i=>match r with
  | []=>some (.inr [⟨5,L,[],0⟩])
  | b :: r'=>match Ja (b :: r') i with
   | none=>none
   | some p=>if p.2=0 then (match allK F L n (((b :: r').drop p.1.text.length).drop (Im F ((b :: r').drop p.1.text.length))) (i + p.1.text.length + Im F ((b :: r').drop p.1.text.length)) with
     | none=>none
     | some (.inl x)=>some (.inl x)
     | some (.inr ts)=>some (.inr (p.1 :: ts))) else some (.inl (i,p.2))
theorem allK_eq (l:List UInt8):∀ (n i:Nat),i ≤ l.length → Qk l n i=allK (l.length + 1) l.length n (l.drop i) i
 | 0,i,hi=>rfl
 | n + 1,i,hi=>by
  unfold Qk allK
  by_cases h:i < l.length
  ·rw [if_pos h,List.drop_eq_getElem_cons h]
   simp only
   rw [← List.drop_eq_getElem_cons h]
   cases hq:Ja (l.drop i) i with
   | none=>rfl
   | some p =>
    simp only
    by_cases he:p.2=0
    ·rw [if_pos he,if_pos he]
     have hp:Ja (l.drop i) i=some (p.1,0):=by rw [hq,← he]
     have hn:=cW hp
     rw [List.length_drop] at hn
     have hs:=Pd (l.length + 1) (l.drop (i + p.1.text.length))
     rw [List.length_drop] at hs
     rw [allK_eq l n _ (by omega)]
     simp only [List.drop_drop,Nat.add_assoc]
     generalize allK (l.length + 1) l.length n _ _=z
     cases z with
     | none=>rfl
     | some y=>cases y <;> rfl
    ·rw [if_neg he,if_neg he]
  ·rw [if_neg h]
   have hd:l.drop i=[]:=List.drop_eq_nil_of_le (by omega)
   rw [hd]
def lexK (L:Nat) (l:List UInt8):Option ((Nat × Nat) ⊕ List Tk):=Bool.rec (motive:=fun _=>Option ((Nat × Nat) ⊕ List Tk)) (some (.inl (4000,3))) (allK (L + 1) L (L + 1) (l.drop (Im (L + 1) l)) (Im (L + 1) l)) (Nat.ble L 4000)
theorem lexK_eq (l:List UInt8):lexK l.length l=Kt l:=by
 unfold lexK Kt
 by_cases h:4000 < l.length
 ·rw [if_pos h]
  have:Nat.ble l.length 4000=false:=by
   cases hb:Nat.ble l.length 4000 with
   | false=>rfl
   | true=>have:=Nat.le_of_ble_eq_true hb; omega
  rw [this]
 ·rw [if_neg h,Nat.ble_eq_true_of_le (by omega),allK_eq l _ _ (Pd _ _)]
def aJ (args:List AV) (S:St):R:=match args with
 | [.v (.string s)]=>if s.size ≤ 1000000 then (match lexK s.data.toList.length s.data.toList with
   | some (.inr ts)=>.ret (.tup [.sl 0 0 4 (ts.map Ga),.agg (Ds 0 0)]) S
   | some (.inl x)=>.ret (.tup [.nils,.agg (Ds x.1 x.2)]) S
   | none=>.fail) else .fail
 | _=>.fail
def AV.plain:AV → Bool
 | .v _=>true
 | _=>false
theorem VR.plain {γ γ':Gh} {w w':World} {a:AV} {x:Value} (h:VR γ w a x) (hp:a.plain=true):VR γ' w' a x:=by
 cases h with
 | v x h=>exact .v x h
 | _=>cases hp
theorem VR.rowPlain {γ γ':Gh} {w:World} {tok sz:Nat} {es:List AV} {x:Value} (h:VR γ w (.sl tok 0 sz es) x) (hp:∀ a ∈ Er es,a.plain=true) (him:∀ b o,γ.im b o → γ'.im b o):VR γ' w (.sl 0 0 sz es) x:=by
 cases h with
 | sl _ _ _ _ b o cap c hsz hes h1 h hr ht hf hc hb =>
  exact .sl 0 0 sz es b o cap c hsz hes h1 (fun k hk=>⟨him _ _ (h k hk).1,(h k hk).2⟩) (fun k hk=>(hr k hk).plain (hp _ (List.getElem_mem hk))) (fun h=>by omega) (fun h=>by omega) hc hb
theorem VR.aggPlain {γ γ':Gh} {w w':World} {cs:List AV} {x:Value} (h:VR γ w (.agg cs) x) (hp:∀ a ∈ cs,a.plain=true):VR γ' w' (.agg cs) x:=by
 cases h with
 | agg _ x hx h1 h=>exact .agg cs x hx h1 (fun k hk hk'=>(h k hk hk').plain (hp _ (List.getElem_mem hk)))
theorem tok_plain (ts:List Tk):∀ a ∈ Er (ts.map Ga),a.plain=true:=by
 intro a ha
 unfold Er at ha
 rw [List.mem_flatMap] at ha
 obtain ⟨e,he,hae⟩:=ha
 obtain ⟨t,_,rfl⟩:=List.mem_map.1 he
 simp only [Ga,AV.cells,El,List.mem_cons,List.not_mem_nil,or_false] at hae
 rcases hae with rfl | rfl | rfl | rfl <;> rfl
theorem wL (a e:Nat):∀ x ∈ Ds a e,x.plain=true:=by
 intro x hx
 simp only [Ds,List.mem_cons,List.not_mem_nil,or_false] at hx
 rcases hx with rfl | rfl <;> rfl
theorem lex_I (base:Nat) (w0:World) (args:List AV) (S:St) (hne:aJ args S ≠ .fail) (γ:Gh) (w:World) (vs:List Value) (hS:SR base w0 γ S w) (hg:GR γ w E1.G) (hv:VRL γ w args vs):Calls Tryz.prog 25 vs.toArray w (O7 base w0 γ S w (aJ args S)):=by
 generalize hr:aJ args S=r at hne ⊢
 unfold aJ at hr
 split at hr
 case h_2=>exact absurd hr.symm hne
 rename_i s
 split at hr
 case isFalse=>exact absurd hr.symm hne
 rename_i hsz
 have es:AV.v (.string s)=Bt s.data.toList:=rfl
 rw [lexK_eq] at hr
 cases ho:Kt s.data.toList with
 | none=>rw [ho] at hr; exact absurd hr.symm hne
 | some out =>
  have hlen:s.data.toList.length ≤ 1000000:=by rw [Array.length_toList]; exact hsz
  obtain ⟨r2,⟨m0,hm⟩,hpost⟩:=all_w s.data.toList S hS.pos hlen out ho
  have hc:=hm m0 (Nat.le_refl _)
  have hrne:r2 ≠ .fail:=by
   cases out with
   | inl x=>obtain ⟨S',rfl,_⟩:=hpost; exact fun e=>by cases e
   | inr ts=>obtain ⟨S',tok,rfl,_⟩:=hpost; exact fun e=>by cases e
  have:=Ng Rv dZ (Jf Rv Rn) m0 base w0 25 [.v (.string s)] S (by rw [es]; show ckN E1 m0 25 _ S ≠ _; rw [hc]; exact hrne) γ w vs hS hg hv (by kernel_rfl)
  rw [es] at this
  rw [show Vl E1 (Dm E1) m0 25 [Bt s.data.toList] S=r2 from hc] at this
  refine this.mono fun x w' hx=>?_
  rw [ho] at hr
  cases out with
  | inl y =>
   obtain ⟨S',rfl,hk⟩:=hpost
   obtain ⟨γ',v,k1,k2,k3,rfl⟩:=hx
   obtain ⟨q1,q2⟩:=hS.forget k1 k2 hk.2
   simp only at hr
   subst hr
   refine ⟨_,v,q1,q2,?_,rfl⟩
   cases k3 with
   | tup _ xs hx hh =>
    refine .tup _ xs hx (fun k hk1 hk2=>?_)
    match k,hk1 with
    | 0,_ =>
     have:=hh 0 (by simp) hk2
     simp only [List.getElem_cons_zero] at this ⊢
     generalize xs[0]=z at this
     cases this; exact .nils
    | 1,_=>exact (hh 1 (by simp) hk2).aggPlain (wL _ _)
  | inr ts =>
   obtain ⟨S',tok,rfl,hk⟩:=hpost
   obtain ⟨γ',v,k1,k2,k3,rfl⟩:=hx
   obtain ⟨q1,q2⟩:=hS.forget k1 k2 hk.2
   simp only at hr
   subst hr
   refine ⟨_,v,q1,q2,?_,rfl⟩
   cases k3 with
   | tup _ xs hx hh =>
    refine .tup _ xs hx (fun k hk1 hk2=>?_)
    match k,hk1 with
    | 0,_=>exact (hh 0 (by simp) hk2).rowPlain (tok_plain ts) (fun _ _ h=>h)
    | 1,_=>exact (hh 1 (by simp) hk2).aggPlain (wL _ _)
def Z7:List AV → Option (List (List UInt8))
 | []=>some []
 | .v (.string s) :: r=>match Z7 r with
  | some l=>some (s.data.toList :: l)
  | none=>none
 | _=>none
def memK (s:List UInt8) (ws:List (List UInt8)):Bool:=List.rec (motive:=fun _=>Bool) false (fun w _ ih=>Bool.rec (motive:=fun _=>Bool) ih true (Kp s w)) ws
def Sf (args:List AV) (S:St):R:=match args with
 | [.sl tok off 1 es,.v (.string s)]=>match Z7 es with
  | some ws=>if ws.length ≤ 100000 then .ret (.v (.bool (memK s.data.toList ws))) S else .fail
  | none=>.fail
 | _=>.fail
def knownI (k:Nat):Option (List AV → St → R):=Bool.rec (Bool.rec (E1.I k) (some Sf) (Nat.beq k 129)) (some aJ) (Nat.beq k 25)
def E2:Env:={ P:=Tryz.prog,G:=gR,F:=E1.F,I:=knownI,M:=yW }
def Zk:List AV:=Lib.pow10Tab.map fun z=>.v (.int .u64 z)
def gF:Gl:=fun g=>Bool.rec none (some Zk) (Nat.beq g 0)
theorem Uu:Zk.length=20:=by unfold Zk; rw [List.length_map,Lib.pow10Tab_length]
theorem gPow6:Tryz.prog.globalNamed "internal/strconv.uint64pow10" = some 0:=by kernel_rfl
theorem Cr (a b:List UInt8) (h:a.length + b.length ≤ 4611686018427387904):Ej .add (.v (.string ⟨⟨a⟩⟩)) (.v (.string ⟨⟨b⟩⟩))=some (.v (.string ⟨⟨a ++ b⟩⟩)):=by
 have h':(⟨⟨a⟩⟩:ByteArray).size + (⟨⟨b⟩⟩:ByteArray).size ≤ 4611686018427387904:=h
 simp only [Ej,if_pos h']
section
variable {S:St} {id kind pos:Nat} {n:Int} {name:List UInt8} {off:Bool} {kv:AV} (h:S.mem.get id=some (.box (exC kind pos n name off kv)))
include h
end
theorem RepF.at:∀ {es:List AV} {l:List PE},RepF es l → ∀ (j:Nat) (h:j < es.length) (h2:j < l.length),RepE es[j] l[j]
 | _,_,.cons a e r l h h2,0,_,_=>h
 | _,_,.cons a e r l h h2,j + 1,k1,k2=>RepF.at h2 j (by simpa using k1) (by simpa using k2)
def iY (lo:Nat) (S:St) (a:AV) (es:List AV):Prop:=(a=.nils ∧ es=[]) ∨ ∃ tok,2 ≤ tok ∧ lo ≤ tok ∧ tok < S.next ∧ a=.sl tok 0 1 es ∧ S.mem.get tok=some (.tip es.length)
theorem iY.keep {lo:Nat} {S S':St} {a:AV} {es:List AV} (h:iY lo S a es) (k:En S S'):iY lo S' a es:=by
 rcases h with h | ⟨tok,h1,h2,h3,h4,h5⟩
 ·exact .inl h
 ·exact .inr ⟨tok,h1,h2,Nat.lt_of_lt_of_le h3 k.1,h4,by rw [k.2 tok h3]; exact h5⟩
theorem i9:(Tryz.prog.info? 9).map (fun i=>(i.zero,i.size,i.bytes))=some (some (.string ⟨#[]⟩),1,16):=by kernel_rfl
end Go.Ax
noncomputable section
namespace Go.Ax
open Go.RowKit Go.Proofs
set_option maxRecDepth 100000
end Go.Ax
noncomputable section
namespace Go.Ax
open Go.RowKit Go.Proofs
set_option maxRecDepth 100000
end Go.Ax
noncomputable section
namespace Go.Ax
open Go.RowKit Go.Proofs
set_option maxRecDepth 100000
def Ji (b f:Bool):List UInt8:=if f then [102,117,116,117,114,101,32] ++ (if b then [98,111,111,108] else [105,110,116]) else (if b then [98,111,111,108] else [105,110,116])
def Gg (d:PD):List UInt8:=if d.clock=[] then (d.name ++ [58,32]) ++ Ji d.bool d.fut else ((d.name ++ [58,32]) ++ Ji d.bool d.fut) ++ L3 d.clock d.off
def I4 (l:List PD) (sep:List UInt8):List UInt8:=Lib.join (l.map Gg) sep
def Ka (l:List (List UInt8 × Nat)):List UInt8:=if 1 < l.length then ([40] ++ Lib.join (l.map (·.1)) [44,32]) ++ [41] else Lib.join (l.map (·.1)) [44,32]
def eqT (q:PQ):List UInt8:=(if q.async then (Ka q.left ++ [32,61,32]) ++ [97,115,121,110,99,32] else Ka q.left ++ [32,61,32]) ++ D3 q.e
def Wx (d:PD):Prop:=d.name.length ≤ 30 ∧ d.clock.length ≤ 30
theorem idx46d (tok off:Nat) (l:List PD) (j:Nat) (h:j < l.length):Cm Tryz.prog 46 (.sl tok off 6 (l.map Fq)) (.v (.int .i64 (j:Int)))=some (.ep (Eu l[j])):=by
 have h0:(0:Int) ≤ (j:Int):=by omega
 simp [Cm,h0,el46,fO,h,Fq,AV.cells]
theorem qD (S:St) (d:PD):Cd Tryz.prog S 54 (.ep (Eu d))=some (.agg (Eu d)):=by
 simp [Cd,D0,ag54,fO,Eu]
theorem Xj {S:St} {id:Nat} {cs:List AV} (h:S.mem.get id=some (.box cs)) (hl:cs.length=6) (d:PD):Dt Tryz.prog S 54 (.ptr id 0) (.agg (Eu d))=some (S.put id (Eu d)):=by
 have h2:(AV.agg (Eu d)).noTup=true:=rfl
 have h3:(Eu d).length=6:=rfl
 simp [Dt,h,fO,h2,AV.cells,hl,h3,St.put,List.drop_eq_nil_of_le]
theorem idx55d (tok off:Nat) (l:List (List UInt8 × Nat)) (j:Nat) (h:j < l.length):Cm Tryz.prog 55 (.sl tok off 2 (l.map Hr)) (.v (.int .i64 (j:Int)))=some (.ep (Ib l[j])):=by
 have h0:(0:Int) ≤ (j:Int):=by omega
 simp [Cm,h0,el55,sz59,h,Hr,AV.cells]
theorem lep59 (S:St) (d:List UInt8 × Nat):Cd Tryz.prog S 59 (.ep (Ib d))=some (.agg (Ib d)):=by
 simp [Cd,D0,ag59,sz59,Ib]
theorem st59w {S:St} {id:Nat} {cs:List AV} (h:S.mem.get id=some (.box cs)) (hl:cs.length=2) (d:List UInt8 × Nat):Dt Tryz.prog S 59 (.ptr id 0) (.agg (Ib d))=some (S.put id (Ib d)):=by
 have h2:(AV.agg (Ib d)).noTup=true:=rfl
 have h3:(Ib d).length=2:=rfl
 simp [Dt,h,sz59,h2,AV.cells,hl,h3,St.put,List.drop_eq_nil_of_le]
def tyW (b:Bool):List UInt8:=if b then [98,111,111,108] else [105,110,116]
def typeJ (b f:Bool):List TK:=if f then [kw [102,117,116,117,114,101],kw (tyW b)] else [kw (tyW b)]
def Ny (d:PD):List TK:=nm d.name :: sg [58] :: typeJ d.bool d.fut
def Hn (d:PD):List TK:=if d.clock=[] then Ny d else Ny d ++ Ox d.clock d.off
def Jt (d:PD):Prop:=Gt d.name ∧ (d.clock=[] → d.off=false) ∧ (d.clock ≠ [] → Gt d.clock)
theorem spelt_type (b f:Bool):Vq (Ji b f) (typeJ b f):=by
 intro r vs hf hr
 have h1:SpT (tyW b ++ r) (kw (tyW b) :: vs):=jJ (by cases b <;> decide) hf hr
 unfold Ji typeJ
 cases f with
 | true=>exact Lt (w:=[102,117,116,117,114,101]) (by decide) h1
 | false=>exact h1
theorem spelt_whenT {name:List UInt8} (hn:Gt name) (off:Bool) {r:List UInt8} {vs:List TK} (hf:Fol r) (hr:SpT r vs):SpT (L3 name off ++ r) (Ox name off ++ vs):=by
 cases off with
 | false=>exact .blank _ _ (Lt (w:=[119,104,101,110]) (by decide) (Tf hn hf hr))
 | true=>exact .blank _ _ (Lt (w:=[119,104,101,110]) (by decide) (Lt (w:=[110,111,116]) (by decide) (Tf hn hf hr)))
theorem whenT_head (name:List UInt8) (off:Bool) (r:List UInt8):Fol (L3 name off ++ r):=by
 cases off <;> exact Rt _
theorem Ys {d:PD} (h:Jt d):Vq (Gg d) (Hn d):=by
 intro r vs hf hr
 unfold Gg Hn
 have base:∀ r vs,Fol r → SpT r vs → SpT (((d.name ++ [58,32]) ++ Ji d.bool d.fut) ++ r) (Ny d ++ vs):=fun r vs hf hr=>by
  simp only [List.append_assoc,List.cons_append,Aj]
  exact Tf h.1 (X0 (c:=58) rfl) (Ms (s:=[58]) (by decide) (.blank _ _ (spelt_type _ _ r vs hf hr)))
 split
 ·exact base r vs hf hr
 ·rename_i hc
  have e1:(((d.name ++ [58,32]) ++ Ji d.bool d.fut) ++ L3 d.clock d.off) ++ r=((d.name ++ [58,32]) ++ Ji d.bool d.fut) ++ (L3 d.clock d.off ++ r):=List.append_assoc ..
  have e2:(Ny d ++ Ox d.clock d.off) ++ vs=Ny d ++ (Ox d.clock d.off ++ vs):=List.append_assoc ..
  rw [e1,e2]
  exact base _ _ (whenT_head _ _ _) (spelt_whenT (h.2.2 hc) _ hf hr)
theorem sees_app {ts:List Tk} {i:Nat} {a b c:List TK} (h:Ek ts i ((a ++ b) ++ c)):Ek ts i (a ++ (b ++ c)):=by rw [List.append_assoc] at h; exact h
theorem decl_rd {d:PD} {ts:List Tk} {i:Nat} {rest:List TK} (hs:Ek ts i (Ny d ++ rest)):∃ p,I6 ts i=.ok ⟨d.name,p,d.bool,d.fut,[],false⟩ (i + (Ny d).length):=by
 have h0:Ek ts i (nm d.name :: sg [58] :: (typeJ d.bool d.fut ++ rest)):=hs
 obtain ⟨k0,t0,-,-,h1⟩:=h0.cons
 obtain ⟨k1,t1,-,-,h2⟩:=h1.cons
 have t0:(tk ts i).text=d.name:=t0
 have hb:∀ b:Bool,decide (tyW b=[98,111,111,108])=b:=by intro b; cases b <;> decide
 have hm:∀ b:Bool,tyW b ∈ ([[105,110,116],[98,111,111,108]]:List (List UInt8)):=by intro b; cases b <;> decide
 have hnf:∀ b:Bool,tyW b ∉ ([[102,117,116,117,114,101]]:List (List UInt8)):=by intro b; cases b <;> decide
 refine ⟨(tk ts i).pos,?_⟩
 unfold I6
 rw [Rk k0]
 show (Ef ts [[58]] (i + 1)).bind _=_
 rw [Jb (by rw [t1]; decide)]
 show (if (tk ts (i + 1 + 1)).text ∈ [[102,117,116,117,114,101]] then (Ef ts [[105,110,116],[98,111,111,108]] (i + 1 + 1 + 1)).bind _ else (Ef ts [[105,110,116],[98,111,111,108]] (i + 1 + 1)).bind _)=_
 unfold Ny typeJ at *
 cases hf:d.fut with
 | true =>
  rw [hf] at h2
  obtain ⟨k2,t2,-,-,h3⟩:=Ek.cons (x:=kw [102,117,116,117,114,101]) (r:=kw (tyW d.bool) :: rest) h2
  obtain ⟨k3,t3,-,-,-⟩:=h3.cons
  have t3:(tk ts (i + 1 + 1 + 1)).text=tyW d.bool:=t3
  rw [if_pos (by rw [t2]; decide),Jb (by rw [t3]; exact hm _)]
  show PR.ok (PD.mk (tk ts i).text (tk ts i).pos (decide ((tk ts (i + 1 + 1 + 1)).text=_)) true [] false) _=_
  rw [t0,t3,hb]; rfl
 | false =>
  rw [hf] at h2
  obtain ⟨k2,t2,-,-,-⟩:=Ek.cons (x:=kw (tyW d.bool)) (r:=rest) h2
  have t2:(tk ts (i + 1 + 1)).text=tyW d.bool:=t2
  rw [if_neg (by rw [t2]; exact hnf _),Jb (by rw [t2]; exact hm _)]
  show PR.ok (PD.mk (tk ts i).text (tk ts i).pos (decide ((tk ts (i + 1 + 1)).text=_)) false [] false) _=_
  rw [t0,t2,hb]; rfl
theorem clock_rd {name:List UInt8} (hn:kU name) {off:Bool} {ts:List Tk} {i:Nat} {rest:List TK} (hs:Ek ts i (Ox name off ++ rest)):(tk ts i).text=[119,104,101,110] ∧ I5 ts (i + 1)=.ok (name,off) (i + (Ox name off).length):=by
 unfold I5
 cases off with
 | false =>
  obtain ⟨k0,t0,-,-,h3⟩:=Ek.cons (x:=kw [119,104,101,110]) (r:=nm name :: rest) hs
  obtain ⟨k1,t1,-,-,-⟩:=h3.cons
  have t1:(tk ts (i + 1)).text=name:=t1
  refine ⟨t0,?_⟩
  rw [if_neg (by rw [t1]; intro hc; simp at hc; subst hc; exact hn.1 (by decide)),Rk k1]
  show PR.ok ((tk ts (i + 1)).text,false) _=_
  rw [t1]; rfl
 | true =>
  obtain ⟨k0,t0,-,-,h3⟩:=Ek.cons (x:=kw [119,104,101,110]) (r:=kw [110,111,116] :: nm name :: rest) hs
  obtain ⟨k1,t1,-,-,h4⟩:=h3.cons
  obtain ⟨k2,t2,-,-,-⟩:=h4.cons
  have t2:(tk ts (i + 1 + 1)).text=name:=t2
  refine ⟨t0,?_⟩
  rw [if_pos (by rw [t1]; decide),Rk k2]
  show PR.ok ((tk ts (i + 1 + 1)).text,true) _=_
  rw [t2]; rfl
theorem rV {d:PD} (h:Jt d) {ts:List Tk} {i:Nat} {rest:List TK} (hs:Ek ts i (Hn d ++ sg [59] :: rest)):∃ d',Gs ts i=.ok d' (i + (Hn d).length + 1) ∧ Md d d':=by
 unfold Hn at hs ⊢
 unfold Gs
 by_cases hc:d.clock=[]
 ·rw [if_pos hc] at hs ⊢
  obtain ⟨p,hp⟩:=decl_rd hs
  obtain ⟨k1,t1,-,-,-⟩:=hs.skip.cons
  rw [hp]
  refine ⟨⟨d.name,p,d.bool,d.fut,[],false⟩,?_,rfl,rfl,rfl,hc,h.2.1 hc⟩
  show (if (tk ts (i + (Ny d).length)).text ∈ [[119,104,101,110]] then _ else (Ef ts [[59]] (i + (Ny d).length)).bind _)=_
  rw [if_neg (by rw [t1]; decide),Jb (by rw [t1]; decide)]; rfl
 ·rw [if_neg hc] at hs ⊢
  have hs1:=sees_app hs
  obtain ⟨p,hp⟩:=decl_rd hs1
  obtain ⟨h1,h2⟩:=clock_rd (h.2.2 hc).1 hs1.skip
  obtain ⟨k1,t1,-,-,-⟩:=hs1.skip.skip.cons
  rw [hp]
  refine ⟨⟨d.name,p,d.bool,d.fut,d.clock,d.off⟩,?_,rfl,rfl,rfl,rfl,rfl⟩
  show (if (tk ts (i + (Ny d).length)).text ∈ [[119,104,101,110]] then (I5 ts (i + (Ny d).length + 1)).bind _ else _)=_
  rw [if_pos (by rw [h1]; decide),h2]
  show (Ef ts [[59]] (i + (Ny d).length + (Ox d.clock d.off).length)).bind _=_
  rw [Jb (by rw [t1]; decide),List.length_append,← Nat.add_assoc]; rfl
def Sk {α:Type} (J:α → List TK):List α → List TK
 | []=>[]
 | x :: l=>sg [44] :: (J x ++ Sk J l)
def rowT {α:Type} (T:α → List UInt8):List α → List UInt8
 | []=>[]
 | x :: l=>44 :: 32 :: (T x ++ rowT T l)
def Ip {α:Type} (J:α → List TK):List α → List TK
 | []=>[]
 | x :: l=>J x ++ Sk J l
theorem join_rowT {α:Type} (T:α → List UInt8) (x:α):∀ (l:List α),Lib.join ((x :: l).map T) [44,32]=T x ++ rowT T l:=by
 intro l
 induction l generalizing x with
 | nil=>show Lib.join [T x] [44,32]=_; rw [Lib.join_one]; exact (List.append_nil _).symm
 | cons b l ih =>
  have e2:Lib.join ((x :: b :: l).map T) [44,32]=T x ++ ([44,32] ++ Lib.join ((b :: l).map T) [44,32]):=by
   simp [Lib.join]
  rw [e2,ih]; rfl
theorem nU {α:Type} {T:α → List UInt8} {J:α → List TK}:∀ (l:List α),(∀ x ∈ l,Vq (T x) (J x)) → ∀ r vs,SpT r vs → SpT (rowT T l ++ 41 :: r) (Sk J l ++ sg [41] :: vs)
 | [],_,r,vs,h=>Ms (s:=[41]) (by decide) h
 | e :: l,he,r,vs,h=>by
  have ih:=nU l (fun x hx=>he x (List.mem_cons_of_mem _ hx)) r vs h
  have hf:Fol (rowT T l ++ 41 :: r):=by
   cases l with
   | nil=>exact fol_r _
   | cons b l=>exact fol_k _
  have:=he e (List.mem_cons_self ..) _ _ hf ih
  show SpT (44 :: 32 :: ((T e ++ rowT T l) ++ 41 :: r)) (sg [44] :: ((J e ++ Sk J l) ++ sg [41] :: vs))
  rw [List.append_assoc,List.append_assoc]
  exact Ms (s:=[44]) (by decide) (.blank _ _ this)
theorem Qu {α:Type} {T:α → List UInt8} {J:α → List TK} (l:List α) (he:∀ x ∈ l,Vq (T x) (J x)) {r:List UInt8} {vs:List TK} (h:SpT r vs):SpT (40 :: (Lib.join (l.map T) [44,32] ++ 41 :: r)) (G5 (Ip J l) ++ vs):=by
 cases l with
 | nil=>exact Ms (s:=[40]) (by decide) (Ms (s:=[41]) (by decide) h)
 | cons e l =>
  have ej:G5 (Ip J (e :: l)) ++ vs=sg [40] :: (J e ++ (Sk J l ++ sg [41] :: vs)):=by
   show sg [40] :: ((J e ++ Sk J l) ++ [sg [41]]) ++ vs=_
   simp
  rw [join_rowT,ej,List.append_assoc]
  have ih:=nU (T:=T) (J:=J) l (fun x hx=>he x (List.mem_cons_of_mem _ hx)) r vs h
  have hf:Fol (rowT T l ++ 41 :: r):=by
   cases l with
   | nil=>exact fol_r _
   | cons b l=>exact fol_k _
  exact Ms (s:=[40]) (by decide) (he e (List.mem_cons_self ..) _ _ hf ih)
def RdG {α:Type} (J:α → List TK) (R:α → α → Prop) (ts:List Tk) (kid:Nat → PR α) (x:α):Prop:=∀ i rest,Ek ts i (J x ++ rest) → ∃ x',kid i=.ok x' (i + (J x).length) ∧ R x x'
theorem oS {α:Type} {J:α → List TK} {R:α → α → Prop} {ts:List Tk} {kid:Nat → PR α} {rest:List TK}:∀ (l:List α),(∀ x ∈ l,RdG J R ts kid x) → ∀ (acc acc':List α),Each2 R acc acc' → ∀ i,Ek ts i (Sk J l ++ sg [41] :: rest) → ∃ l',Each2 R (acc ++ l) l' ∧ ∀ q,l.length + 1 ≤ q → Hu ts kid q acc' i=.ok l' (i + (Sk J l).length + 1)
 | [],_,acc,acc',hl,i,hs=>by
  obtain ⟨k0,t0,-,-,-⟩:=Ek.cons (x:=sg [41]) (r:=rest) hs
  refine ⟨acc',by rw [List.append_nil]; exact hl,fun q hq=>?_⟩
  obtain ⟨q,rfl⟩:∃ m,q=m + 1:=⟨q - 1,by simp at hq; omega⟩
  show (if (tk ts i).text ∈ [[44]] then _ else (Ef ts [[41]] i).bind fun _ j=>.ok acc' j)=_
  rw [if_neg (by rw [t0]; decide),Jb (by rw [t0]; decide)]; rfl
 | e :: l,he,acc,acc',hl,i,hs=>by
  have hs':Ek ts i (sg [44] :: (J e ++ (Sk J l ++ sg [41] :: rest))):=by
   have:Sk J (e :: l) ++ sg [41] :: rest=sg [44] :: (J e ++ (Sk J l ++ sg [41] :: rest)):=by
    show sg [44] :: (J e ++ Sk J l) ++ _=_
    rw [List.cons_append,List.append_assoc]
   rw [← this]; exact hs
  obtain ⟨k0,t0,-,-,h1⟩:=hs'.cons
  obtain ⟨e',p1,hx⟩:=he e (List.mem_cons_self ..) (i + 1) _ h1
  obtain ⟨l',hl',p2⟩:=oS l (fun x hx=>he x (List.mem_cons_of_mem _ hx)) (acc ++ [e]) (acc' ++ [e']) (hl.snoc hx) (i + 1 + (J e).length) h1.skip
  refine ⟨l',by rw [List.append_assoc] at hl'; exact hl',fun q hq=>?_⟩
  obtain ⟨q,rfl⟩:∃ m,q=m + 1:=⟨q - 1,by simp at hq; omega⟩
  show (if (tk ts i).text ∈ [[44]] then (kid (i + 1)).bind _ else _)=_
  rw [if_pos (by rw [t0]; decide),p1]
  show Hu ts kid q (acc' ++ [e']) (i + 1 + (J e).length)=_
  rw [p2 q (by simp at hq; omega)]
  congr 1
  show _=i + (sg [44] :: (J e ++ Sk J l)).length + 1
  simp; omega
theorem listA_rd {α:Type} {J:α → List TK} {R:α → α → Prop} {ts:List Tk} {kid:Nat → PR α} {rest:List TK} (l:List α) (he:∀ x ∈ l,RdG J R ts kid x) (hh:∀ x ∈ l,J x ≠ [] ∧ Ie (J x) ≠ [41]) {i:Nat} (hs:Ek ts i (G5 (Ip J l) ++ rest)):∃ l',Each2 R l l' ∧ ∀ q,l.length + 1 ≤ q → K3 ts kid q i=.ok l' (i + (G5 (Ip J l)).length):=by
 cases l with
 | nil =>
  obtain ⟨k1,t1,-,-,h1⟩:=Ek.cons (x:=sg [40]) (r:=sg [41] :: rest) hs
  obtain ⟨k2,t2,-,-,-⟩:=h1.cons
  refine ⟨[],.nil,fun q _=>?_⟩
  unfold K3
  rw [Jb (by rw [t1]; decide)]
  show (if (tk ts (i + 1)).text ∈ [[41]] then _ else _)=_
  rw [if_pos (by rw [t2]; decide)]; rfl
 | cons e l =>
  have ej:G5 (Ip J (e :: l)) ++ rest=sg [40] :: (J e ++ (Sk J l ++ sg [41] :: rest)):=by
   show sg [40] :: ((J e ++ Sk J l) ++ [sg [41]]) ++ rest=_
   simp
  have el:i + (G5 (Ip J (e :: l))).length=i + 1 + (J e).length + (Sk J l).length + 1:=by
   show i + (sg [40] :: ((J e ++ Sk J l) ++ [sg [41]])).length=_
   simp; omega
  rw [ej] at hs
  obtain ⟨k1,t1,-,-,h1⟩:=hs.cons
  obtain ⟨e',p1,hx⟩:=he e (List.mem_cons_self ..) (i + 1) _ h1
  obtain ⟨l',hl',p2⟩:=oS l (fun x hx=>he x (List.mem_cons_of_mem _ hx)) [e] [e'] (Each2.one hx) (i + 1 + (J e).length) h1.skip
  refine ⟨l',hl',fun q hq=>?_⟩
  have hk:=hh e (List.mem_cons_self ..)
  have hx2:(tk ts (i + 1)).text ≠ [41]:=by rw [h1.head,I2 hk.1]; exact hk.2
  unfold K3
  rw [Jb (by rw [t1]; decide)]
  show (if (tk ts (i + 1)).text ∈ [[41]] then _ else (kid (i + 1)).bind _)=_
  rw [if_neg (by simpa using hx2),p1]
  show Hu ts kid q [e'] (i + 1 + (J e).length)=_
  rw [p2 q (by simp at hq ⊢; omega),el]
abbrev Rp:List UInt8:=[97,115,121,110,99]
theorem mJ {x:PE} (h:GoodT x) (ih:Ie (G6 x) ≠ Rp) {ks:List KJ} {k:Nat} (hk:ks[k]? = some (sV x)) (least:Nat) (r:List TK):Ie (kJ ks k least ++ r) ≠ Rp:=by
 have hne:=(yR h).2.ne
 by_cases hb:D1 x < least
 ·rw [kj_brk hk hb]; show ([40]:List UInt8) ≠ _; decide
 ·rw [kj_own hk hb,I2 hne]; exact ih
theorem no_async {e:PE} (h:GoodT e):Ie (G6 e) ≠ Rp:=by
 induction h with
 | mk kind pos n name off kids hs hk ih =>
  rw [Vr]
  have hn:∀ w:List UInt8,Gt w → w ≠ Rp:=fun w hw e=>hw.1.1 (e ▸ by decide)
  cases hs with
  | num _ hr =>
   show Ie (gL n) ≠ _
   unfold gL
   split
   ·show ([45]:List UInt8) ≠ _; decide
   ·exact bA _ (by decide)
  | truth _ hr=>rcases hr with rfl | rfl <;> decide
  | var _ h=>exact hn _ h
  | neg x =>
   show Ie (tI _) ≠ _
   unfold tI
   split <;> (show ([45]:List UInt8) ≠ _; decide)
  | not x=>show ([110,111,116]:List UInt8) ≠ _; decide
  | bin _ x y hm=>exact mJ (hk x (by simp)) (ih x (by simp)) (k:=0) rfl _ _
  | ite x y z=>show ([105,102]:List UInt8) ≠ _; decide
  | arrow x y=>exact mJ (hk x (by simp)) (ih x (by simp)) (k:=0) rfl _ _
  | fby x y h=>exact mJ (hk x (by simp)) (ih x (by simp)) (k:=0) rfl _ _
  | pre x=>show ([112,114,101]:List UInt8) ≠ _; decide
  | when _ _ x h=>exact mJ (hk x (by simp)) (ih x (by simp)) (k:=0) rfl _ _
  | merge _ x y h=>show ([109,101,114,103,101]:List UInt8) ≠ _; decide
  | call _ _ h=>exact hn _ h
  | await _ _ h hl =>
   cases kids <;> (show ([97,119,97,105,116]:List UInt8) ≠ _; decide)
theorem call_rd {e:PE} (h:GoodT e) (hk:Ic e=13) {ts:List Tk} {i:Nat} {rest:List TK} (hs:Ek ts i (G6 e ++ rest)) (hst:Ij 10 rest):RdA ts i (i + (G6 e).length) e .call:=by
 have hb:=(back_e h).1
 cases h with
 | mk kind pos n name off kids hsh hkk =>
  have:kind=13:=hk
  subst this
  cases hsh with
  | call _ _ hn =>
   obtain ⟨e',he,N,hP⟩:=hb.a (L:=10) (Nat.le_refl _) (by decide) hs hst
   have et:G6 (.mk 13 pos 0 name false kids)=nm name :: G5 (Pi (F6 kids)):=Vr ..
   have hs':Ek ts i (nm name :: sg [40] :: ((Pi (F6 kids) ++ [sg [41]]) ++ rest)):=by rw [et] at hs; exact hs
   obtain ⟨k0,t0,-,-,h1⟩:=hs'.cons
   have k0:(tk ts i).kind=1:=k0
   obtain ⟨k1,t1,-,-,-⟩:=h1.cons
   refine ⟨e',he,N,fun m hm=>?_⟩
   have:=hP (m + 2) (by omega)
   have e2:P ts (m + 2) .primary i=P ts m .call i:=by
    rw [N5,k0,if_neg (by decide),if_pos rfl]
    show (if (tk ts (i + 1)).text=[40] then P ts m .call i else _)=_
    rw [if_pos t1]
   rw [← e2]; exact this
abbrev U2 (x:List UInt8 × Nat):List TK:=[nm x.1]
def Jd (l:List (List UInt8 × Nat)):List TK:=if 1 < l.length then G5 (Ip U2 l) else Ip U2 l
def sW (l:List (List UInt8 × Nat)):Prop:=l ≠ [] ∧ ∀ x ∈ l,Gt x.1
theorem mG {ts:List Tk} (x:List UInt8 × Nat):RdG U2 LikeF ts (Ix ts) x:=fun i rest hs=>by
 obtain ⟨k0,t0,-,-,-⟩:=Ek.cons (x:=nm x.1) (r:=rest) hs
 refine ⟨((tk ts i).text,(tk ts i).pos),?_,t0.symm⟩
 unfold Ix
 rw [Rk k0]; rfl
theorem lefts_rd {l:List (List UInt8 × Nat)} (h:sW l) {ts:List Tk} {i:Nat} {rest:List TK} (hs:Ek ts i (Jd l ++ rest)):∃ l',Each2 LikeF l l' ∧ ∀ q,l.length + 1 ≤ q → J9 ts q i=.ok l' (i + (Jd l).length):=by
 match l,h with
 | [x],h =>
  obtain ⟨k0,t0,-,-,-⟩:=Ek.cons (x:=nm x.1) (r:=rest) hs
  obtain ⟨x',p,hx⟩:=mG x i rest hs
  refine ⟨[x'],Each2.one hx,fun q hq=>?_⟩
  unfold J9
  rw [if_pos k0,p]; rfl
 | x :: y :: r,h =>
  have ej:Jd (x :: y :: r) ++ rest=sg [40] :: (U2 x ++ sg [44] :: (U2 y ++ (Sk U2 r ++ sg [41] :: rest))):=by
   unfold Jd
   rw [if_pos (by simp)]
   show sg [40] :: ((U2 x ++ Sk U2 (y :: r)) ++ [sg [41]]) ++ rest=_
   simp [Sk]
  have el:i + (Jd (x :: y :: r)).length=i + 1 + 1 + 1 + 1 + (Sk U2 r).length + 1:=by
   unfold Jd
   rw [if_pos (by simp)]
   show i + (sg [40] :: ((U2 x ++ Sk U2 (y :: r)) ++ [sg [41]])).length=_
   simp [Sk]; omega
  rw [ej] at hs
  obtain ⟨k0,t0,-,-,h1⟩:=hs.cons
  obtain ⟨x',p1,hx⟩:=mG x (i + 1) _ h1
  have h2:Ek ts (i + 1 + 1) _:=h1.skip
  obtain ⟨k2,t2,-,-,h3⟩:=h2.cons
  obtain ⟨y',p2,hy⟩:=mG y (i + 1 + 1 + 1) _ h3
  have h4:Ek ts (i + 1 + 1 + 1 + 1) _:=h3.skip
  obtain ⟨l',hl,p3⟩:=oS r (fun x _=>mG x) [y] [y'] (Each2.one hy) (i + 1 + 1 + 1 + 1) h4
  refine ⟨x' :: l',.cons _ _ _ _ hx hl,fun q hq=>?_⟩
  unfold J9
  rw [if_neg (by rw [k0]; decide),Jb (by rw [t0]; decide)]
  show (Ix ts (i + 1)).bind _=_
  rw [p1]
  show (Ef ts [[44]] (i + 1 + 1)).bind _=_
  rw [Jb (by rw [t2]; decide)]
  show ((Ix ts (i + 1 + 1 + 1)).bind fun y m=>Hu ts (Ix ts) q [y] m).bind _=_
  rw [p2]
  show (Hu ts (Ix ts) q [y'] (i + 1 + 1 + 1 + 1)).bind _=_
  rw [p3 q (by simp at hq; omega),el]; rfl
def W7 (q:PQ):List TK:=if q.async then kw Rp :: G6 q.e else G6 q.e
def eqJ (q:PQ):List TK:=Jd q.left ++ sg [61] :: (W7 q ++ [sg [59]])
def Ql (q:PQ):Prop:=sW q.left ∧ GoodT q.e ∧ (q.async=true → Ic q.e=13) ∧ ¬ Hw q.e > 40
theorem nP (r:List TK):Ij 0 (sg [59] :: r):=P1 fun k hk=>by unfold Fd; split <;> decide
theorem eq_rd {q:PQ} (h:Ql q) {ts:List Tk} {i:Nat} {rest:List TK} (hs:Ek ts i (eqJ q ++ rest)):∃ q',Yn q q' ∧ ∃ N,∀ n,N ≤ n → eqP ts n i=.ok q' (i + (eqJ q).length):=by
 have hs1:Ek ts i (Jd q.left ++ sg [61] :: (W7 q ++ sg [59] :: rest)):=by
  have:eqJ q ++ rest=Jd q.left ++ sg [61] :: (W7 q ++ sg [59] :: rest):=by unfold eqJ; simp
  rw [← this]; exact hs
 have el:i + (eqJ q).length=i + (Jd q.left).length + 1 + (W7 q).length + 1:=by unfold eqJ; simp; omega
 obtain ⟨ls,hl,p1⟩:=lefts_rd h.1 hs1
 obtain ⟨k1,t1,-,-,h2⟩:=hs1.skip.cons
 rw [el]
 by_cases ha:q.async=true
 ·have eb:W7 q=kw Rp :: G6 q.e:=by unfold W7; rw [if_pos ha]
  rw [eb] at h2 ⊢
  obtain ⟨k2,t2,-,-,h3⟩:=Ek.cons (x:=kw Rp) (r:=G6 q.e ++ sg [59] :: rest) h2
  obtain ⟨e',he,N,p2⟩:=call_rd h.2.1 (h.2.2.1 ha) h3 ((nP rest).mono (Nat.zero_le _))
  obtain ⟨k4,t4,-,-,-⟩:=h3.skip.cons
  refine ⟨⟨ls,true,e'⟩,⟨hl,ha,he⟩,N + q.left.length + 1,fun n hn=>?_⟩
  unfold eqP
  rw [p1 n (by omega)]
  show (Ef ts [[61]] (i + (Jd q.left).length)).bind _=_
  rw [Jb (by rw [t1]; decide)]
  show (if (tk ts (i + (Jd q.left).length + 1)).text ∈ [[97,115,121,110,99]] then ((P ts n .call (i + (Jd q.left).length + 1 + 1)).bind fun e j=>if Hw e > 40 then .bad (cE e) 3 else .ok e j).bind _ else _)=_
  rw [if_pos (by rw [t2]; decide),p2 n (by omega)]
  show (if Hw e' > 40 then _ else PR.ok e' _).bind _=_
  rw [if_neg (by rw [← Zh he]; exact h.2.2.2)]
  show (Ef ts [[59]] (i + (Jd q.left).length + 1 + 1 + (G6 q.e).length)).bind _=_
  rw [Jb (by rw [t4]; decide)]
  show PR.ok _ _=PR.ok _ _
  congr 1
  simp; omega
 ·have ha':q.async=false:=by simpa using ha
  have eb:W7 q=G6 q.e:=by unfold W7; rw [if_neg ha]
  rw [eb] at h2 ⊢
  have hit:=(back_e h.2.1).1
  obtain ⟨e',he,N,p2⟩:=hit.a (L:=0) (Nat.zero_le _) (by decide) h2 (nP rest)
  obtain ⟨k4,t4,-,-,-⟩:=h2.skip.cons
  have hna:(tk ts (i + (Jd q.left).length + 1)).text ≠ Rp:=by rw [h2.head,I2 hit.1.ne]; exact no_async h.2.1
  refine ⟨⟨ls,false,e'⟩,⟨hl,ha',he⟩,N + q.left.length + 1,fun n hn=>?_⟩
  unfold eqP
  rw [p1 n (by omega)]
  show (Ef ts [[61]] (i + (Jd q.left).length)).bind _=_
  rw [Jb (by rw [t1]; decide)]
  show (if (tk ts (i + (Jd q.left).length + 1)).text ∈ [[97,115,121,110,99]] then _ else ((P ts n .expr (i + (Jd q.left).length + 1)).bind fun e j=>if Hw e > 40 then .bad (cE e) 3 else .ok e j).bind _)=_
  rw [if_neg (by simpa using hna),show P ts n .expr (i + (Jd q.left).length + 1)=_ from p2 n (by omega)]
  show (if Hw e' > 40 then _ else PR.ok e' _).bind _=_
  rw [if_neg (by rw [← Zh he]; exact h.2.2.2)]
  show (Ef ts [[59]] (i + (Jd q.left).length + 1 + (G6 q.e).length)).bind _=_
  rw [Jb (by rw [t4]; decide)]; rfl
def Yb:List PQ → List TK
 | []=>[]
 | q :: l=>eqJ q ++ Yb l
theorem eqJ_head {q:PQ} (h:Ql q):eqJ q ≠ [] ∧ Ie (eqJ q) ≠ [116,101,108]:=by
 have hl:=h.1
 unfold eqJ Jd
 match hq:q.left,hl with
 | [x],hl =>
  refine ⟨by simp,fun e=>?_⟩
  have hx:x.1=[116,101,108]:=e
  have:=hl.2 x (by simp)
  rw [hx] at this
  exact this.1.1 (by decide)
 | x :: y :: r,hl =>
  rw [if_pos (by simp)]
  exact ⟨by simp,by show ([40]:List UInt8) ≠ _; decide⟩
theorem eqs_rd {ts:List Tk} {rest:List TK}:∀ (l:List PQ),(∀ q ∈ l,Ql q) → ∀ (acc acc':List PQ),Each2 Yn acc acc' → ∀ i,Ek ts i (Yb l ++ kw [116,101,108] :: rest) → ∃ l',Each2 Yn (acc ++ l) l' ∧ ∃ N,∀ n q,N ≤ n → N ≤ q → Rm ts n q acc' i=.ok l' (i + (Yb l).length)
 | [],_,acc,acc',hl,i,hs=>by
  obtain ⟨k0,t0,-,-,-⟩:=Ek.cons (x:=kw [116,101,108]) (r:=rest) hs
  refine ⟨acc',by rw [List.append_nil]; exact hl,1,fun n q _ hq=>?_⟩
  obtain ⟨q,rfl⟩:∃ m,q=m + 1:=⟨q - 1,by omega⟩
  show (if (tk ts i).text ∈ [[116,101,108]] then PR.ok acc' i else _)=_
  rw [if_pos (by rw [t0]; decide)]; rfl
 | e :: l,he,acc,acc',hl,i,hs=>by
  have hs':Ek ts i (eqJ e ++ (Yb l ++ kw [116,101,108] :: rest)):=sees_app hs
  have hg:=he e (List.mem_cons_self ..)
  obtain ⟨hne,hh⟩:=eqJ_head hg
  obtain ⟨e',hx,N1,p1⟩:=eq_rd hg hs'
  obtain ⟨l',hl',N2,p2⟩:=eqs_rd l (fun x hx=>he x (List.mem_cons_of_mem _ hx)) (acc ++ [e]) (acc' ++ [e']) (hl.snoc hx) _ hs'.skip
  refine ⟨l',by rw [List.append_assoc] at hl'; exact hl',N1 + N2 + 1,fun n q hn hq=>?_⟩
  obtain ⟨q,rfl⟩:∃ m,q=m + 1:=⟨q - 1,by omega⟩
  have ht:(tk ts i).text ≠ [116,101,108]:=by rw [hs'.head,I2 hne]; exact hh
  show (if (tk ts i).text ∈ [[116,101,108]] then _ else (eqP ts n i).bind fun q j=>Rm ts n _ (acc' ++ [q]) j)=_
  rw [if_neg (by simpa using ht),p1 n (by omega)]
  show Rm ts n q (acc' ++ [e']) _=_
  rw [p2 n q (by omega) (by omega)]
  congr 1
  show _=i + (eqJ e ++ Yb l).length
  rw [List.length_append,Nat.add_assoc]
def Lb:List PD → List TK
 | []=>[]
 | d :: l=>Hn d ++ sg [59] :: Lb l
def Pw (l:List PD):List TK:=if l=[] then [] else kw [118,97,114] :: Lb l
theorem vars_rd1 {ts:List Tk} {t:TK} {rest:List TK} (ht:t.1 ≠ 1):∀ (l:List PD),(∀ d ∈ l,Jt d) → ∀ (acc acc':List PD),Each2 Md acc acc' → ∀ i,Ek ts i (Lb l ++ t :: rest) → ∃ l',Each2 Md (acc ++ l) l' ∧ ∀ q,l.length + 1 ≤ q → Ky ts q acc' i=.ok l' (i + (Lb l).length)
 | [],_,acc,acc',hl,i,hs=>by
  obtain ⟨k0,t0,-,-,-⟩:=Ek.cons (x:=t) (r:=rest) hs
  refine ⟨acc',by rw [List.append_nil]; exact hl,fun q hq=>?_⟩
  obtain ⟨q,rfl⟩:∃ m,q=m + 1:=⟨q - 1,by simp at hq; omega⟩
  show (if (tk ts i).kind=1 then _ else PR.ok acc' i)=_
  rw [if_neg (by rw [k0]; exact ht)]; rfl
 | d :: l,he,acc,acc',hl,i,hs=>by
  have hs':Ek ts i (Hn d ++ sg [59] :: (Lb l ++ t :: rest)):=Qv hs
  obtain ⟨d',p1,hx⟩:=rV (he d (List.mem_cons_self ..)) hs'
  obtain ⟨k1,t1,-,-,h2⟩:=hs'.skip.cons
  obtain ⟨l',hl',p2⟩:=vars_rd1 ht l (fun x hx=>he x (List.mem_cons_of_mem _ hx)) (acc ++ [d]) (acc' ++ [d']) (hl.snoc hx) _ h2
  refine ⟨l',by rw [List.append_assoc] at hl'; exact hl',fun q hq=>?_⟩
  obtain ⟨q,rfl⟩:∃ m,q=m + 1:=⟨q - 1,by simp at hq; omega⟩
  have k0:(tk ts i).kind=1:=by
   have hd:∃ r,Hn d=nm d.name :: r:=by unfold Hn Ny; split <;> exact ⟨_,rfl⟩
   obtain ⟨r,er⟩:=hd
   rw [er] at hs'
   exact hs'.cons.1
  show (if (tk ts i).kind=1 then (Gs ts i).bind fun d j=>Ky ts q (acc' ++ [d]) j else _)=_
  rw [if_pos k0,p1]
  show Ky ts q (acc' ++ [d']) _=_
  rw [p2 q (by simp at hq; omega)]
  congr 1
  show _=i + (Hn d ++ sg [59] :: Lb l).length
  simp; omega
theorem vars_rd {ts:List Tk} {rest:List TK} (l:List PD) (he:∀ d ∈ l,Jt d) {i:Nat} (hs:Ek ts i (Pw l ++ kw [108,101,116] :: rest)):∃ l',Each2 Md l l' ∧ ∀ q,l.length + 1 ≤ q → Pa ts q i=.ok l' (i + (Pw l).length):=by
 cases l with
 | nil =>
  obtain ⟨k0,t0,-,-,-⟩:=Ek.cons (x:=kw [108,101,116]) (r:=rest) hs
  refine ⟨[],.nil,fun q hq=>?_⟩
  unfold Pa
  rw [if_neg (by rw [t0]; decide)]; rfl
 | cons d l =>
  have ej:Pw (d :: l)=kw [118,97,114] :: Lb (d :: l):=by unfold Pw; rw [if_neg (by simp)]
  rw [ej] at hs ⊢
  obtain ⟨k0,t0,-,-,h1⟩:=Ek.cons (x:=kw [118,97,114]) (r:=Lb (d :: l) ++ kw [108,101,116] :: rest) hs
  have hs':Ek ts (i + 1) (Hn d ++ sg [59] :: (Lb l ++ kw [108,101,116] :: rest)):=Qv h1
  obtain ⟨d',p1,hx⟩:=rV (he d (List.mem_cons_self ..)) hs'
  obtain ⟨k1,t1,-,-,h2⟩:=hs'.skip.cons
  obtain ⟨l',hl',p2⟩:=vars_rd1 (t:=kw [108,101,116]) (by decide) l (fun x hx=>he x (List.mem_cons_of_mem _ hx)) [d] [d'] (Each2.one hx) _ h2
  refine ⟨l',hl',fun q hq=>?_⟩
  unfold Pa
  rw [if_pos (by rw [t0]; decide),p1]
  show Ky ts q [d'] _=_
  rw [p2 q (by simp at hq; omega)]
  congr 1
  show _=i + (kw [118,97,114] :: (Hn d ++ sg [59] :: Lb l)).length
  simp; omega
def So (n:PN):List TK:=kw [110,111,100,101] :: nm n.name :: (G5 (Ip Hn n.ins) ++ kw [114,101,116,117,114,110,115] :: (G5 (Ip Hn n.outs) ++ (Pw n.vars ++ kw [108,101,116] :: (Yb n.eqs ++ [kw [116,101,108]]))))
structure GoodNode (n:PN):Prop where
 name:Gt n.name
 ins:∀ d ∈ n.ins,Jt d ∧ d.clock=[]
 outs:∀ d ∈ n.outs,Jt d ∧ d.clock=[]
 vars:∀ d ∈ n.vars,Jt d
 eqs:∀ q ∈ n.eqs,Ql q
theorem param_rd {ts:List Tk} {d:PD} (h:Jt d ∧ d.clock=[]):RdG Hn Md ts (I6 ts) d:=fun i rest hs=>by
 have ej:Hn d=Ny d:=by unfold Hn; rw [if_pos h.2]
 rw [ej] at hs ⊢
 obtain ⟨p,hp⟩:=decl_rd hs
 exact ⟨_,hp,rfl,rfl,rfl,h.2,h.1.2.1 h.2⟩
theorem rQ {d:PD} (h:Jt d):Hn d ≠ [] ∧ Ie (Hn d) ≠ [41]:=by
 have hd:∃ r,Hn d=nm d.name :: r:=by unfold Hn Ny; split <;> exact ⟨_,rfl⟩
 obtain ⟨r,er⟩:=hd
 rw [er]
 refine ⟨by simp,fun e=>?_⟩
 have e:d.name=[41]:=e
 have:=h.1
 rw [e] at this
 exact this.1.2 (by decide)
theorem node_rd {x:PN} (h:GoodNode x) {ts:List Tk} {i:Nat} {rest:List TK} (hs:Ek ts i (So x ++ rest)):∃ x',Lo x x' ∧ ∃ N,∀ n,N ≤ n → Lu ts n i=.ok x' (i + (So x).length):=by
 have ej:So x ++ rest=kw [110,111,100,101] :: nm x.name :: (G5 (Ip Hn x.ins) ++ (kw [114,101,116,117,114,110,115] :: (G5 (Ip Hn x.outs) ++ (Pw x.vars ++ (kw [108,101,116] :: (Yb x.eqs ++ (kw [116,101,108] :: rest))))))):=by
  unfold So; simp
 have el:i + (So x).length=i + 1 + 1 + (G5 (Ip Hn x.ins)).length + 1 + (G5 (Ip Hn x.outs)).length + (Pw x.vars).length + 1 + (Yb x.eqs).length + 1:=by
  unfold So; simp; omega
 rw [ej] at hs
 rw [el]
 obtain ⟨k0,t0,-,-,h0⟩:=hs.cons
 obtain ⟨k1,t1,-,-,h1⟩:=h0.cons
 have t1:(tk ts (i + 1)).text=x.name:=t1
 obtain ⟨ins,hins,p2⟩:=listA_rd x.ins (fun d hd=>param_rd (h.ins d hd)) (fun d hd=>rQ (h.ins d hd).1) h1
 have h2:=h1.skip
 obtain ⟨k3,t3,-,-,h3⟩:=h2.cons
 obtain ⟨outs,houts,p4⟩:=listA_rd x.outs (fun d hd=>param_rd (h.outs d hd)) (fun d hd=>rQ (h.outs d hd).1) h3
 have h4:=h3.skip
 obtain ⟨vars,hvars,p5⟩:=vars_rd x.vars h.vars h4
 have h5:=h4.skip
 obtain ⟨k6,t6,-,-,h6⟩:=h5.cons
 obtain ⟨eqs,heqs,N,p7⟩:=eqs_rd x.eqs h.eqs [] [] .nil _ h6
 obtain ⟨k8,t8,-,-,-⟩:=h6.skip.cons
 refine ⟨⟨x.name,(tk ts (i + 1)).pos,ins,outs,vars,eqs⟩,⟨rfl,hins,houts,hvars,heqs⟩,N + x.ins.length + x.outs.length + x.vars.length + 1,fun n hn=>?_⟩
 unfold Lu
 rw [Jb (by rw [t0]; decide)]
 show (Gz ts 1 (i + 1)).bind _=_
 rw [Rk k1]
 show (K3 ts (I6 ts) n (i + 1 + 1)).bind _=_
 rw [p2 n (by omega)]
 show (Ef ts [[114,101,116,117,114,110,115]] (i + 1 + 1 + (G5 (Ip Hn x.ins)).length)).bind _=_
 rw [Jb (by rw [t3]; decide)]
 show (K3 ts (I6 ts) n (i + 1 + 1 + (G5 (Ip Hn x.ins)).length + 1)).bind _=_
 rw [p4 n (by omega)]
 show (Pa ts n (i + 1 + 1 + (G5 (Ip Hn x.ins)).length + 1 + (G5 (Ip Hn x.outs)).length)).bind _=_
 rw [p5 n (by omega)]
 show (Ef ts [[108,101,116]] (i + 1 + 1 + (G5 (Ip Hn x.ins)).length + 1 + (G5 (Ip Hn x.outs)).length + (Pw x.vars).length)).bind _=_
 rw [Jb (by rw [t6]; decide)]
 show (Rm ts n n [] (i + 1 + 1 + (G5 (Ip Hn x.ins)).length + 1 + (G5 (Ip Hn x.outs)).length + (Pw x.vars).length + 1)).bind _=_
 rw [p7 n n (by omega) (by omega)]
 show (Ef ts [[116,101,108]] (i + 1 + 1 + (G5 (Ip Hn x.ins)).length + 1 + (G5 (Ip Hn x.outs)).length + (Pw x.vars).length + 1 + (Yb x.eqs).length)).bind _=_
 rw [Jb (by rw [t8]; decide)]
 show PR.ok (PN.mk (tk ts (i + 1)).text _ ins outs vars eqs) _=_
 rw [t1]
def jP:List PN → List TK
 | []=>[finT]
 | x :: l=>So x ++ jP l
theorem prog_rd {ts:List Tk}:∀ (l:List PN),(∀ x ∈ l,GoodNode x) → ∀ (acc acc':List PN),Each2 Lo acc acc' → ∀ i,Ek ts i (jP l) → ∃ l' j,Each2 Lo (acc ++ l) l' ∧ (tk ts j).kind=5 ∧ ∃ N,∀ n q,N ≤ n → N ≤ q → L5 ts n q acc' i=.ok l' j
 | [],_,acc,acc',hl,i,hs=>by
  obtain ⟨k0,t0,-,-,-⟩:=Ek.cons (x:=finT) (r:=[]) hs
  refine ⟨acc',i,by rw [List.append_nil]; exact hl,k0,1,fun n q _ hq=>?_⟩
  obtain ⟨q,rfl⟩:∃ m,q=m + 1:=⟨q - 1,by omega⟩
  show (if (tk ts i).text ∈ [[110,111,100,101]] then _ else PR.ok acc' i)=_
  rw [if_neg (by rw [t0]; decide)]
 | e :: l,he,acc,acc',hl,i,hs=>by
  have hs':Ek ts i (So e ++ jP l):=hs
  obtain ⟨e',hx,N1,p1⟩:=node_rd (he e (List.mem_cons_self ..)) hs'
  obtain ⟨l',j,hl',hk,N2,p2⟩:=prog_rd l (fun x hx=>he x (List.mem_cons_of_mem _ hx)) (acc ++ [e]) (acc' ++ [e']) (hl.snoc hx) _ hs'.skip
  refine ⟨l',j,by rw [List.append_assoc] at hl'; exact hl',hk,N1 + N2 + 1,fun n q hn hq=>?_⟩
  obtain ⟨q,rfl⟩:∃ m,q=m + 1:=⟨q - 1,by omega⟩
  have t0:(tk ts i).text=[110,111,100,101]:=hs'.cons.2.1
  show (if (tk ts i).text ∈ [[110,111,100,101]] then (Lu ts n i).bind fun y j=>L5 ts n q (acc' ++ [y]) j else _)=_
  rw [if_pos (by rw [t0]; decide),p1 n (by omega)]
  show L5 ts n q (acc' ++ [e']) _=_
  rw [p2 n q (by omega) (by omega)]
theorem oZ {ts:List Tk} {l:List PN} (hne:l ≠ []) (h:∀ x ∈ l,GoodNode x) (hs:Ek ts 0 (jP l)):∃ l' j,Each2 Lo l l' ∧ (tk ts j).kind=5 ∧ ∃ N,∀ n,N ≤ n → Fm ts n 0=.ok l' j:=by
 cases l with
 | nil=>exact absurd rfl hne
 | cons e l =>
  have hs':Ek ts 0 (So e ++ jP l):=hs
  obtain ⟨e',hx,N1,p1⟩:=node_rd (h e (List.mem_cons_self ..)) hs'
  obtain ⟨l',j,hl',hk,N2,p2⟩:=prog_rd l (fun x hx=>h x (List.mem_cons_of_mem _ hx)) [e] [e'] (Each2.one hx) _ hs'.skip
  refine ⟨l',j,hl',hk,N1 + N2 + 1,fun n hn=>?_⟩
  unfold Fm
  rw [p1 n (by omega)]
  show L5 ts n n [e'] _=_
  rw [p2 n n (by omega) (by omega)]
section
variable {ts:List Tk} (hts:NameL ts)
include hts
omit hts in
omit hts in
omit hts in
omit hts in
omit hts in
theorem eqP_le (n i:Nat):(eqP ts n i).le (eqP ts (n + 1) i):=by
 have hr:∀ (n:Nat) (l:List (List UInt8 × Nat)) (i:Nat),(Hu ts (Ix ts) n l i).le (Hu ts (Ix ts) (n + 1) l i):=by
  intro n
  induction n with
  | zero=>intro l i ho; exact absurd rfl ho
  | succ n ih =>
   intro l i
   unfold Hu
   exact Pj (Gi (le_refl _) fun a j=>ih _ j) (le_refl _)
 have hl:(J9 ts n i).le (J9 ts (n + 1) i):=by
  unfold J9
  exact Pj (le_refl _) (Gi (le_refl _) fun _ j=>Gi (le_refl _) fun x j=>Gi (le_refl _) fun _ j=>Gi (Gi (le_refl _) fun y m=>hr n _ _) fun _ _=>le_refl _)
 unfold eqP
 refine Gi hl fun ls j=>Gi (le_refl _) fun _ j=>Pj ?_ ?_
 ·exact Gi (Gi (P_le n .call _) fun _ _=>le_refl _) fun _ _=>le_refl _
 ·exact Gi (Gi (P_le n .expr _) fun _ _=>le_refl _) fun _ _=>le_refl _
omit hts in
theorem eqsP_le (N:Nat):∀ (n:Nat) (l:List PQ) (i:Nat),(Rm ts N n l i).le (Rm ts (N + 1) (n + 1) l i)
 | 0,l,i=>fun ho=>absurd rfl ho
 | n + 1,l,i=>by
  unfold Rm
  exact Pj (le_refl _) (Gi (eqP_le N i) fun q j=>eqsP_le N n _ j)
omit hts in
theorem wX (n i:Nat):(K3 ts (I6 ts) n i).le (K3 ts (I6 ts) (n + 1) i):=by
 have hr:∀ (n:Nat) (l:List PD) (i:Nat),(Hu ts (I6 ts) n l i).le (Hu ts (I6 ts) (n + 1) l i):=by
  intro n
  induction n with
  | zero=>intro l i ho; exact absurd rfl ho
  | succ n ih =>
   intro l i
   unfold Hu
   exact Pj (Gi (le_refl _) fun a j=>ih _ j) (le_refl _)
 unfold K3
 exact Gi (le_refl _) fun _ j=>Pj (le_refl _) (Gi (le_refl _) fun x m=>hr n _ _)
omit hts in
theorem varsP_le:∀ (n:Nat) (l:List PD) (i:Nat),(Ky ts n l i).le (Ky ts (n + 1) l i)
 | 0,l,i=>fun ho=>absurd rfl ho
 | n + 1,l,i=>by
  unfold Ky
  exact Pj (Gi (le_refl _) fun d j=>varsP_le n _ j) (le_refl _)
omit hts in
theorem nodeP_le (n i:Nat):(Lu ts n i).le (Lu ts (n + 1) i):=by
 unfold Lu
 refine Gi (le_refl _) fun _ j=>Gi (le_refl _) fun t j=>Gi (wX n j) fun ins j=>Gi (le_refl _) fun _ j=>Gi (wX n j) fun outs j=>Gi ?_ fun vars j=>Gi (le_refl _) fun _ j=>Gi (eqsP_le n n [] j) fun qs j=>Gi (le_refl _) fun _ j=>le_refl _
 unfold Pa
 exact Pj (Gi (le_refl _) fun x m=>varsP_le n _ m) (le_refl _)
omit hts in
theorem progP_le (N:Nat):∀ (n:Nat) (l:List PN) (i:Nat),(L5 ts N n l i).le (L5 ts (N + 1) (n + 1) l i)
 | 0,l,i=>fun ho=>absurd rfl ho
 | n + 1,l,i=>by
  unfold L5
  exact Pj (Gi (nodeP_le N i) fun q j=>progP_le N n _ j) (le_refl _)
omit hts in
theorem programP_le (n i:Nat):(Fm ts n i).le (Fm ts (n + 1) i):=by
 unfold Fm
 exact Gi (nodeP_le n i) fun x j=>progP_le n n [x] j
omit hts in
theorem Zr {n m:Nat} (h:n ≤ m) (i:Nat):(Fm ts n i).le (Fm ts m i):=by
 induction h with
 | refl=>exact le_refl _
 | step _ ih=>exact fun ho=>(programP_le _ _ (by rw [ih ho]; exact ho)).trans (ih ho)
end
theorem ag55:Fo Tryz.prog 55=some false:=by kernel_rfl
theorem ldq0 {S:St} {id:Nat} {lv:AV} {a:Bool} {xs:List AV} (h:S.mem.get id=some (.box (eqC lv a xs))):Cd Tryz.prog S 55 (.ptr id 0)=some lv:=by
 simp [Cd,D0,h,ag55,eqC]
theorem ldq2 {S:St} {id:Nat} {lv:AV} {a:Bool} {xs:List AV} (h:S.mem.get id=some (.box (eqC lv a xs))) (hx:xs.length=6):Cd Tryz.prog S 30 (.ptr id 2)=some (.agg xs):=by
 have e:xs.take 6=xs:=List.take_of_length_le (by omega)
 simp [Cd,D0,h,a30,s30,eqC,hx,e]
end Go.Ax
