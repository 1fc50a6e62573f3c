/- Rn -/
import Derived.Test.YtjgknelmjdallaaGreatDoorTdG23
import Derived.Shelf.Strings.Builder1
import Derived.Shelf.Strings.Builder2
import Derived.OneCell
import Derived.Lib.Hide
import Derived.ProofKit
import Derived.Tactics
import Derived.Deep.RegionHeld3
import Derived.Deep.DeepCutAuto
import Derived.Deep.RegionWith
import Derived.WalkSpells
import Derived.WalkKit
import Derived.OwnWalk
import Derived.IntWalk
import Derived.Test.YtjgknelmjdallaaGreatDoorTdG19
import Derived.Test.YtjgknelmjdallaaGreatDoorTdG20
import Derived.Test.YtjgknelmjdallaaGreatDoorTdG11
import Derived.Test.YtjgknelmjdallaaGreatDoorTdG22
import Derived.Laws.BitsLemmas
import Derived.Laws.Unary
import Derived.Test.YtjgknelmjdallaaGreatDoorTdG21
set_option linter.unusedVariables false
set_option linter.unusedSimpArgs false
set_option maxHeartbeats 16000000
noncomputable section
namespace Go.Ax
open Go.RowKit Go.Proofs
theorem Zt {w w':World} {base e size n:Nat} {v:Value} {xs:List Value} (h:w.ownsRow base e size v n xs) (hb:Below w.heap.size w w'):w'.ownsRow base e size v n xs:=by
 refine ⟨h.1,?_⟩
 rcases h.2 with hn | ⟨g,cap,cur,hv,hbg,hg,rest⟩
 ·exact .inl hn
 ·exact .inr ⟨g,cap,cur,hv,hbg,(hb.block g (Array.getElem?_eq_some_iff.1 hg).1).trans hg,rest⟩
def Six (w:World) (b o:Nat) (c0 c1 c2 c3 c4 c5:Value):Prop :=
 w.cell? ⟨b,o,none⟩=some c0 ∧ w.cell? ⟨b,o + 1,none⟩=some c1 ∧ w.cell? ⟨b,o + 2,none⟩=some c2 ∧ w.cell? ⟨b,o + 3,none⟩=some c3 ∧ w.cell? ⟨b,o + 4,none⟩=some c4 ∧ w.cell? ⟨b,o + 5,none⟩=some c5
theorem Six.below {w w':World} {B b o:Nat} {c0 c1 c2 c3 c4 c5:Value} (hb:Below B w w') (h:b < B) (hs:Six w b o c0 c1 c2 c3 c4 c5):Six w' b o c0 c1 c2 c3 c4 c5:=by
 obtain ⟨h0,h1,h2,h3,h4,h5⟩:=hs
 exact ⟨(hb.cell (p:=⟨b,o,none⟩) h).trans h0,(hb.cell (p:=⟨b,o + 1,none⟩) h).trans h1,(hb.cell (p:=⟨b,o + 2,none⟩) h).trans h2,(hb.cell (p:=⟨b,o + 3,none⟩) h).trans h3,(hb.cell (p:=⟨b,o + 4,none⟩) h).trans h4,(hb.cell (p:=⟨b,o + 5,none⟩) h).trans h5⟩
def Blk (w:World) (b T:Nat) (cs:Array Value):Prop:=w.heap[b]? = some (.cells cs T (0,0))
theorem Blk.lt {w:World} {b T:Nat} {cs:Array Value} (h:Blk w b T cs):b < w.heap.size:=lt_of_block h
theorem Blk.cell {w:World} {b T:Nat} {cs:Array Value} (h:Blk w b T cs) {o:Nat} {v:Value} (hv:cs[o]? = some v):w.cell? ⟨b,o,none⟩=some v:=by
 unfold Blk at h
 simp [World.cell?,h,hv]
theorem Blk.new (w:World) (T:Nat) (cs:Array Value):Blk (w.alloc (.cells cs T)) w.heap.size T cs:=heap_alloc_new w _
theorem Blk.same {w w':World} {b T:Nat} {cs:Array Value} (h:Blk w b T cs) (hs:w'.heap[b]? = w.heap[b]?):Blk w' b T cs:=hs.trans h
theorem Blk.below {w w':World} {b T:Nat} {cs:Array Value} (h:Blk w b T cs) (hb:Below w.heap.size w w'):Blk w' b T cs:=h.same (hb.block b h.lt)
theorem Blk.alloc {w:World} {b T:Nat} {cs:Array Value} (h:Blk w b T cs) (o:Obj):Blk (w.alloc o) b T cs:=h.same (heap_alloc_old w _ h.lt)
theorem Blk.other {w:World} {b b' o T:Nat} {cs:Array Value} {x:Value} (h:Blk w b T cs) (hne:b ≠ b'):Blk (w.setCell ⟨b',o,none⟩ x) b T cs :=
 h.same (Below.heap_setCell _ _ _ _ hne)
theorem Blk.set {w:World} {b o T:Nat} {cs:Array Value} (h:Blk w b T cs) (x:Value):Blk (w.setCell ⟨b,o,none⟩ x) b T (cs.setIfInBounds o x):=by
 have hlt:=h.lt
 have h':w.heap[b]=.cells cs T (0,0):=by have:=h; unfold Blk at this; simpa [Array.getElem?_eq_getElem hlt] using this
 show (w.heap.modify b _)[b]? = _
 rw [Array.getElem?_eq_getElem (by simpa using hlt),Array.getElem_modify_self,h']
 rfl
theorem Blk.grown {w w':World} {b T:Nat} {cs:Array Value} {row:Option Nat} (h:Blk w b T cs) (hg:w.grownBy w' row) (hne:row ≠ some b):Blk w' b T cs :=
 h.same (hg.block b h.lt (fun e=>hne e.symm))
theorem size108:(Tryz.prog.info? 108).map (·.size)=some 2:=by kernel_rfl
theorem lies108:liesAt Tryz.prog Tryz.prog.depth 108 (2 / Tryz.prog.cellsOf 108) 0 108 1=true:=by kernel_rfl
theorem infoByte5:(Tryz.prog.info? 5).map (fun i=>(i.zero,i.size,i.bytes))=some (some (.int .u8 0),1,1):=by kernel_rfl
set_option maxRecDepth 100000 in
theorem cc_used (b:Nat) (w:World) (h0:w.cell? ⟨b,0,none⟩=some (.pointer (some ⟨b,0,none⟩))) :
  Calls Tryz.prog 92 #[.pointer (some ⟨b,0,none⟩)] w fun e w'=>e=.returned (.tuple #[]) ∧ w' = w:=by
 obtain ⟨j,hj,_⟩:=Option.map_eq_some_iff.1 size108
 go_enter Tryz.func92,Tryz.ntmps92
 go_wp2
 rw [Lib.run_neq_ptr_same w _ Tryz.underlying106 hj]
 go_wp2
 go_end0
 exact ⟨rfl,rfl⟩
set_option maxRecDepth 100000 in
theorem cc_fresh (b:Nat) (w:World) (h0:w.cell? ⟨b,0,none⟩=some (.pointer none)) (hsh:w.shape? b=some (108,2)) (hfz:w.frozen? ⟨b,0,none⟩=false) :
  Calls Tryz.prog 92 #[.pointer (some ⟨b,0,none⟩)] w fun e w'=>e=.returned (.tuple #[]) ∧ w' = w.setCell ⟨b,0,none⟩ (.pointer (some ⟨b,0,none⟩)):=by
 obtain ⟨j,hj,hjs⟩:=Option.map_eq_some_iff.1 size108
 go_enter Tryz.func92,Tryz.ntmps92
 go_wp2
 rw [Lib.run_to_unsafe w ⟨b,0,none⟩ Tryz.underlying106 Tryz.underlying198 hj (by rw [hjs]; decide) hsh (Nat.zero_lt_succ 1)]
 simp only [Result.andThen]
 rw [Oper.upon_value]
 go_wp2
 rw [run_callFunc_extern Tryz.func130 (by kernel_rfl) (by kernel_rfl) (by kernel_rfl) (e:=Extern.AbiNoEscape.same) (by kernel_rfl)]
 rw [Lib.run_noEscape]
 simp only [Result.andThen]
 rw [Oper.upon_value]
 go_wp2
 rw [Lib.run_from_unsafe w ⟨b,0,none⟩ Tryz.underlying198 Tryz.underlying106 hj hsh lies108]
 simp only [Result.andThen]
 rw [Oper.upon_value]
 go_wp2
 go_end0
 exact ⟨rfl,rfl⟩
theorem cc_any (B b:Nat) (bs:List Value) (w:World) (h:Lib.IsBuilder 108 5 B b bs w) :
  Calls Tryz.prog 92 #[.pointer (some ⟨b,0,none⟩)] w fun e w'=>e=.returned (.tuple #[]) ∧ (Lib.BuilderAt 108 5 B b (.pointer (some ⟨b,0,none⟩)) bs w' ∧ Below B w w' ∧ ∀ k T cs,k ≠ b → Blk w k T cs → Blk w' k T cs):=by
 rcases h with h | h
 ·refine (cc_fresh b w h.cell0 h.shape h.frozen0).mono ?_
  rintro e w' ⟨rfl,rfl⟩
  exact ⟨rfl,h.used _,(Below.refl B w).setCell (p:=⟨b,0,none⟩) h.1 _,fun k T cs hk hb=>hb.other hk⟩
 ·refine (cc_used b w h.cell0).mono ?_
  rintro e w' ⟨rfl,rfl⟩
  exact ⟨rfl,h,Below.refl B _,fun k T cs hk hb=>hb⟩
set_option maxRecDepth 100000 in
theorem write_any (B b:Nat) (bs:List Value) (s:ByteArray) (w:World) (h:Lib.IsBuilder 108 5 B b bs w) (hlen:bs.length + s.size ≤ 140737488355328) (hBw:B ≤ w.heap.size) :
  Calls Tryz.prog 59 #[.pointer (some ⟨b,0,none⟩),.string s] w fun e w'=>e=.returned (.tuple #[.int .i64 s.size,.nilIface]) ∧ (Lib.BuilderAt 108 5 B b (.pointer (some ⟨b,0,none⟩)) (bs ++ Lib.strCells s) w' ∧ Below B w w' ∧ ∀ k T cs,k ≠ b → T ≠ 5 → Blk w k T cs → Blk w' k T cs):=by
 obtain ⟨i0,hi,hz0,hz1,hz2⟩:=info_parts infoByte5
 go_enter Tryz.func59,Tryz.ntmps59
 go_wp2_with fail
 refine (cc_any B b bs _ h).mono ?_
 rintro e w1 ⟨rfl,h1,hb1,hk1⟩
 obtain ⟨hB,v,hbk,hown,hne⟩:=h1
 have c0:w1.cell? ⟨b,0,none⟩=some (.pointer (some ⟨b,0,none⟩)):=by rw [Lib.cell_of_heap hbk]; rfl
 have c1:w1.cell? ⟨b,1,none⟩=some v:=by rw [Lib.cell_of_heap hbk]; rfl
 go_wp2_with (at_builtin; refine Lib.wpList_append_own_string _ rfl _ _ 77 9 rfl B 5 i0 Tryz.underlying77 Tryz.underlying9 hi hz0 hz1 hz2 _ _ _ rfl hown s rfl ?c3 ?c4 ?c5 ?_)
 case c3=>unfold maxLen; omega
 case c4=>omega
 case c5=>have:=hb1.size; omega
 intro v' w2 hown' hgrow _
 have hlt:b < w1.heap.size:=by
  rcases Nat.lt_or_ge b w1.heap.size with h' | h'
  ·exact h'
  ·simp [Array.getElem?_eq_none h'] at hbk
 have hb2:w2.heap[b]? = some (.cells #[.pointer (some ⟨b,0,none⟩),v] 108 (0,0)):=by
  rw [hgrow.block b hlt (fun e=>hne e.symm)]
  exact hbk
 have d0:w2.cell? ⟨b,0,none⟩=some (.pointer (some ⟨b,0,none⟩)):=by rw [Lib.cell_of_heap hb2]; rfl
 have d1:w2.cell? ⟨b,1,none⟩=some v:=by rw [Lib.cell_of_heap hb2]; rfl
 have f1:w2.frozen? ⟨b,1,none⟩=false:=Lib.frozen_of_heap hb2 1
 obtain ⟨ao,n',cap,rfl⟩:∃ ao n' cap,v' = .slice ao n' cap:=by
  rcases hown'.2 with ⟨hv,_⟩ | ⟨g,cap,cur,hv,_⟩
  ·exact ⟨_,_,_,hv⟩
  ·exact ⟨_,_,_,hv⟩
 go_wp2
 go_ret2
 refine ⟨rfl,?_,?_,?_⟩
 ·exact Lib.BuilderAt.put (T:=108) (e:=5) hB hb2 (bs':=bs ++ Lib.strCells s) (by simpa [Lib.strCells_length] using hown') (by decide)
 ·exact (hb1.grown hgrow (by have:=hb1.size; omega) (fun k hk=>(hown.lt k hk).1)).setCell (p:=⟨b,1,none⟩) hB _
 ·intro k T cs hk hT hb
  have hb1':=hk1 k T cs hk hb
  refine Blk.other (hb1'.grown hgrow (fun e=>?_)) hk
  rcases hown.2 with ⟨hv,_⟩ | ⟨g,cap,cur,hv,_,hg,_⟩
  ·subst hv; simp [Value.ownBlock] at e
  ·subst hv
   have:g=k:=by simpa [Value.ownBlock] using e
   subst this
   have h2:=hb1'.symm.trans hg
   injection h2 with h2
   injection h2 with _ h2
   exact hT h2
end Go.Ax
noncomputable section
namespace Go.Ax
open Go.RowKit Go.Proofs
theorem Vg {w w':World} (hb:Below w.heap.size w w'):Ev (GhW w) w (GhW w') w' :=
 ⟨fun _ _ h=>(by cases h),fun b o h=>⟨Nat.lt_of_lt_of_le h.1 hb.size,by obtain ⟨v,hv⟩:=h.2; exact ⟨v,(hb.cell (p:=⟨b,o,none⟩) h.1).trans hv⟩⟩,fun b o v h hv=>(hb.cell (p:=⟨b,o,none⟩) h.1).trans hv,fun b arr T fr h=>⟨arr,fr,(hb.block b (Array.getElem?_eq_some_iff.1 h).1).trans h,rfl⟩⟩
def RdD (w:World) (B:Nat) (v:Value) (es:List PD):Prop:=∃ p c,v=.slice p es.length c ∧ ∃ a,VR (GhW w) w a v ∧ F2 6 Fq a es
def RdE (w:World) (v:Value) (q:PQ):Prop:=∃ a,VR (GhW w) w a v ∧ Zl a q
theorem RdD.below {w w':World} {B:Nat} {v:Value} {es:List PD} (h:RdD w B v es) (hb:Below w.heap.size w w'):RdD w' B v es:=by
 obtain ⟨p,c,hv,a,h1,h2⟩:=h
 exact ⟨p,c,hv,a,h1.mono (Vg hb),h2⟩
theorem RdE.below {w w':World} {v:Value} {q:PQ} (h:RdE w v q) (hb:Below w.heap.size w w'):RdE w' v q:=by
 obtain ⟨a,h1,h2⟩:=h
 exact ⟨a,h1.mono (Vg hb),h2⟩
structure Nd where
 nm:ByteArray
 pos:Int
 ins:List PD
 outs:List PD
 vars:List PD
 eqs:List PQ
theorem wA {w w':World} {B b:Nat} {bs:List Value} (h:Lib.IsBuilder 108 5 B b bs w) (hb:Below w.heap.size w w'):Lib.IsBuilder 108 5 B b bs w':=by
 rcases h with ⟨h1,v,h2,h3,h4⟩ | ⟨h1,v,h2,h3,h4⟩
 ·exact Or.inl ⟨h1,v,(hb.block b (Array.getElem?_eq_some_iff.1 h2).1).trans h2,Zt h3 hb,h4⟩
 ·exact Or.inr ⟨h1,v,(hb.block b (Array.getElem?_eq_some_iff.1 h2).1).trans h2,Zt h3 hb,h4⟩
theorem yL (a b:ByteArray):Lib.strCells a ++ Lib.strCells b=Lib.strCells (a ++ b):=by unfold Lib.strCells; simp
def jA (w:World) (nb:Nat) (cs:Array Value) (acc:ByteArray) (wx:World):Prop :=
 Below w.heap.size w wx ∧ Blk wx nb 49 cs ∧ Lib.IsBuilder 108 5 w.heap.size w.heap.size (Lib.strCells acc) wx
theorem jA.write {w wx:World} {nb:Nat} {cs:Array Value} {acc s:ByteArray} (h:jA w nb cs acc wx) (hn:nb ≠ w.heap.size) (hz:acc.size + s.size ≤ 140737488355328) :
  Calls Tryz.prog 59 #[.pointer (some ⟨w.heap.size,0,none⟩),.string s] wx fun e w'=>e=.returned (.tuple #[.int .i64 s.size,.nilIface]) ∧ jA w nb cs (acc ++ s) w' ∧ ∀ k T cs,k ≠ w.heap.size → T ≠ 5 → Blk wx k T cs → Blk w' k T cs:=by
 refine (write_any w.heap.size w.heap.size (Lib.strCells acc) s wx h.2.2 (by rw [Lib.strCells_length]; exact hz) h.1.size).mono ?_
 rintro e w' ⟨rfl,h1,h2,h3⟩
 exact ⟨rfl,⟨h.1.trans h2,h3 _ _ _ hn (by decide) h.2.1,Or.inr (yL acc s ▸ h1)⟩,h3⟩
theorem jA.below {w wx w':World} {nb:Nat} {cs:Array Value} {acc:ByteArray} (h:jA w nb cs acc wx) (hb:Below wx.heap.size wx w'):jA w nb cs acc w' :=
 ⟨h.1.trans (hb.mono h.1.size),h.2.1.below hb,wA h.2.2 hb⟩
theorem jA.drew {w wx:World} {nb:Nat} {cs:Array Value} {acc:ByteArray} (h:jA w nb cs acc wx):jA w nb cs acc wx.drew:=h.below ((Below.refl _ _).drew)
end Go.Ax
noncomputable section
namespace Go.Ax
open Go.RowKit Go.Proofs
set_option maxRecDepth 100000
theorem NodeRows.at:∀ {es:List AV} {l:List PN},NodeRows es l → es.length=l.length ∧ ∀ i (h:i < l.length),∃ x,es[i]? = some x ∧ Gr x l[i]
 | _,_,.nil=>⟨rfl,fun i h=>absurd h (Nat.not_lt_zero i)⟩
 | _,_,.cons a q r l h h2=>⟨by simp [h2.at.1],fun i hi=>by
  cases i with
  | zero=>exact ⟨a,rfl,h⟩
  | succ i=>exact h2.at.2 i (by simpa using hi)⟩
theorem EqRows.at:∀ {es:List AV} {l:List PQ},EqRows es l → es.length=l.length ∧ ∀ i (h:i < l.length),∃ x,es[i]? = some x ∧ Zl x l[i]
 | _,_,.nil=>⟨rfl,fun i h=>absurd h (Nat.not_lt_zero i)⟩
 | _,_,.cons a q r l h h2=>⟨by simp [h2.at.1],fun i hi=>by
  cases i with
  | zero=>exact ⟨a,rfl,h⟩
  | succ i=>exact h2.at.2 i (by simpa using hi)⟩
theorem Vy {l:List (List UInt8 × Nat)} (h:sW l) {r:List UInt8} {vs:List TK} (hf:Fol r) (hr:SpT r vs):SpT (Ka l ++ r) (Jd l ++ vs):=by
 match l,h with
 | [x],h =>
  have e:Ka [x]=x.1:=by
   unfold Ka
   rw [if_neg (by simp)]
   exact Lib.join_one _ _
  rw [e]
  exact Tf (h.2 x (by simp)) hf hr
 | x :: y :: q,h =>
  have e:Ka (x :: y :: q) ++ r=40 :: (Lib.join ((x :: y :: q).map (·.1)) [44,32] ++ 41 :: r):=by
   unfold Ka
   rw [if_pos (by simp)]
   simp
  have e2:Jd (x :: y :: q)=G5 (Ip U2 (x :: y :: q)):=by unfold Jd; rw [if_pos (by simp)]
  rw [e,e2]
  exact Qu (T:=fun x=>x.1) (J:=U2) (x :: y :: q) (fun z hz r vs hf hr=>Tf (h.2 z hz) hf hr) hr
def Rx {α:Type} (G:α → Prop) (k:Nat) (l:List α) (j:Nat):Prop:=(∀ x ∈ l,G x) ∧ l.length + k ≤ j
theorem Rx.snoc {α:Type} {G:α → Prop} {k i j:Nat} {l:List α} {a:α} (h:Rx G k l i) (ha:G a) (hij:i < j):Rx G k (l ++ [a]) j :=
 ⟨fun x hx=>by simp at hx; rcases hx with hx | rfl; exact h.1 _ hx; exact ha,by have:=h.2; simp; omega⟩
theorem Rx.one {α:Type} {G:α → Prop} {k j:Nat} {a:α} (ha:G a) (hij:k < j):Rx G k [a] j:=⟨fun x hx=>by simp at hx; subst hx; exact ha,by simp; omega⟩
def QFit (j:Nat) (q:PQ):Prop:=q.left.length ≤ j ∧ (∀ x ∈ q.left,x.1.length ≤ 30) ∧ Fit q.e ∧ Hl q.e ≤ j
theorem QFit.mono {i j:Nat} {q:PQ} (h:QFit i q) (hij:i ≤ j):QFit j q:=⟨Nat.le_trans h.1 hij,h.2.1,h.2.2.1,Nat.le_trans h.2.2.2 hij⟩
def jB (j:Nat) (n:PN):Prop:=(n.ins.length ≤ j ∧ ∀ x ∈ n.ins,Wx x) ∧ (n.outs.length ≤ j ∧ ∀ x ∈ n.outs,Wx x) ∧ (n.vars.length ≤ j ∧ ∀ x ∈ n.vars,Wx x) ∧ n.eqs.length ≤ j ∧ (∀ q ∈ n.eqs,QFit j q) ∧ n.name.length ≤ 30
theorem jB.mono {i j:Nat} {n:PN} (h:jB i n) (hij:i ≤ j):jB j n:=⟨⟨Nat.le_trans h.1.1 hij,h.1.2⟩,⟨Nat.le_trans h.2.1.1 hij,h.2.1.2⟩,⟨Nat.le_trans h.2.2.1.1 hij,h.2.2.1.2⟩,Nat.le_trans h.2.2.2.1 hij,fun q hq=>(h.2.2.2.2.1 q hq).mono hij,h.2.2.2.2.2⟩
section
variable {ts:List Tk} (hts:NameOk ts)
include hts
omit hts in
omit hts in
omit hts in
end
end Go.Ax
noncomputable section
namespace Go.Ax
open Go.RowKit Go.Proofs
set_option maxRecDepth 100000
end Go.Ax
noncomputable section
namespace Go.Ax
open Go.RowKit Go.Proofs
set_option maxRecDepth 100000
theorem Each2.len {α β:Type} {R:α → β → Prop}:∀ {l:List α} {m:List β},Each2 R l m → l.length=m.length
 | _,_,.nil=>rfl
 | _,_,.cons a b l m h h2=>by rw [List.length_cons,List.length_cons,h2.len]
theorem Each2.mem {α β:Type} {R:α → β → Prop}:∀ {l:List α} {m:List β},Each2 R l m → ∀ b ∈ m,∃ a ∈ l,R a b
 | _,_,.cons a b l m h h2,x,hx=>by
  rcases List.mem_cons.1 hx with rfl | hx
  ·exact ⟨a,List.mem_cons_self ..,h⟩
  ·obtain ⟨y,hy,hr⟩:=h2.mem x hx
   exact ⟨y,List.mem_cons_of_mem _ hy,hr⟩
end Go.Ax
noncomputable section
namespace Go.Ax
open Go.RowKit
mutual
def clean:AV → AV
 | .sl _ _ sz es=>.sl 0 0 sz (Jg es)
 | .agg cs=>.agg (Jg cs)
 | .tup vs=>.tup (Jg vs)
 | .v x=>.v x
 | .nilp=>.nilp
 | .nils=>.nils
 | .nilm=>.nilm
 | .ptr a b=>.ptr a b
 | .ep cs=>.ep cs
 | .map id=>.map id
 | .fn f a b=>.fn f a b
 | .iface t x=>.iface t x
 | .bs a b c d=>.bs a b c d
def Jg:List AV → List AV
 | []=>[]
 | a :: r=>clean a :: Jg r
end
mutual
def Ml:AV → Bool
 | .sl _ _ _ es=>Ki es
 | .agg cs=>Ki cs
 | .tup vs=>Ki vs
 | .v _=>true
 | .nilp=>true
 | .nils=>true
 | .nilm=>true
 | .ptr _ _=>false
 | .ep _=>false
 | .map _=>false
 | .fn _ _ _=>false
 | .iface _ _=>false
 | .bs _ _ _ _=>false
def Ki:List AV → Bool
 | []=>true
 | a :: r=>Ml a && Ki r
end
theorem Qf:∀ es,Jg es=es.map clean
 | []=>rfl
 | a :: r=>by rw [Jg,Qf r]; rfl
theorem Ve:∀ {es},Ki es=true → ∀ a ∈ es,Ml a=true
 | [],_,a,h=>by cases h
 | b :: r,h,a,ha=>by
  rw [Ki,Bool.and_eq_true] at h
  rcases List.mem_cons.1 ha with rfl | ha
  ·exact h.1
  ·exact Ve h.2 a ha
theorem xK (a:AV):(clean a).one=a.one:=by cases a <;> rfl
theorem kK (a:AV):(clean a).cells=a.cells.map clean:=by
 cases a <;> first | rfl | skip
 ·show Jg _=_; rw [Qf]; rfl
theorem Wn:∀ es:List AV,Er (es.map clean)=(Er es).map clean
 | []=>rfl
 | a :: r=>by
  unfold Er
  rw [List.map_cons,List.flatMap_cons,List.flatMap_cons,List.map_append,kK]
  have:=Wn r
  unfold Er at this
  rw [this]
theorem freeV_cells {a:AV} (h:Ml a=true):∀ c ∈ a.cells,Ml c=true:=by
 cases a with
 | agg cs=>exact Ve h
 | _=>intro c hc; simp only [AV.cells,List.mem_cons,List.not_mem_nil,or_false] at hc; subst hc; exact h
theorem free_flat {es:List AV} (h:Ki es=true):∀ c ∈ Er es,Ml c=true:=by
 intro c hc
 unfold Er at hc
 rw [List.mem_flatMap] at hc
 obtain ⟨e,he,hce⟩:=hc
 exact freeV_cells (Ve h e he) c hce
theorem VR.clean {γ γ':Gh} {w:World} (him:∀ b o,γ.im b o → γ'.im b o) {a:AV} {x:Value} (h:VR γ w a x):Ml a=true → VR γ' w (Go.Ax.clean a) x:=by
 induction h with
 | v x h=>intro _; exact .v x h
 | nilp=>intro _; exact .nilp
 | ptr id off b s h=>intro hf; cases hf
 | ep cs b o c h h1 hr ih=>intro hf; cases hf
 | nils=>intro _; exact .nils
 | sl tok off sz es b o cap c hsz hes h1 h hr ht hf2 hc hb ih =>
  intro hf
  have hf:Ki es=true:=hf
  show VR γ' w (.sl 0 0 sz (Jg es)) _
  rw [Qf]
  have hlen:(Er (es.map Go.Ax.clean)).length=(Er es).length:=by rw [Wn,List.length_map]
  have key:=VR.sl (γ:=γ') (w:=w) 0 0 sz (es.map Go.Ax.clean) b o cap c hsz (fun e he=>by
    obtain ⟨e',he',rfl⟩:=List.mem_map.1 he
    rw [kK,List.length_map]; exact hes e' he') (fun y hy=>by
    rw [Wn] at hy
    obtain ⟨y',hy',rfl⟩:=List.mem_map.1 hy
    rw [xK]; exact h1 y' hy') (fun k hk=>⟨him _ _ (h k (by rw [← hlen]; exact hk)).1,(h k (by rw [← hlen]; exact hk)).2⟩) (fun k hk=>by
    have hk':k < (Er es).length:=by rw [← hlen]; exact hk
    have:=ih k hk' (free_flat hf _ (List.getElem_mem hk'))
    have e:(Er (es.map Go.Ax.clean))[k]=Go.Ax.clean (Er es)[k]:=by
     simp only [Wn,List.getElem_map]
    rw [e]; exact this) (fun h=>by omega) (fun h=>by omega) (by rw [List.length_map]; exact hc) hb
  rw [List.length_map] at key
  exact key
 | nilm=>intro _; exact .nilm
 | map id b s h=>intro hf; cases hf
 | fn f first caps x y hx hy h1 h2 ih1 ih2=>intro hf; cases hf
 | iface t a x h ih=>intro hf; cases hf
 | agg cs x hx h1 h ih =>
  intro hf
  have hf:Ki cs=true:=hf
  show VR γ' w (.agg (Jg cs)) _
  rw [Qf]
  refine .agg _ x (by rw [hx,List.length_map]) (fun a ha=>?_) (fun k hk hk'=>?_)
  ·obtain ⟨a',ha',rfl⟩:=List.mem_map.1 ha
   rw [xK]; exact h1 a' ha'
  ·rw [List.getElem_map]
   have hk2:k < cs.length:=by rw [List.length_map] at hk; exact hk
   exact ih k hk2 hk' (Ve hf _ (List.getElem_mem hk2))
 | tup vs x hx h ih =>
  intro hf
  have hf:Ki vs=true:=hf
  show VR γ' w (.tup (Jg vs)) _
  rw [Qf]
  refine .tup _ x (by rw [hx,List.length_map]) (fun k hk hk'=>?_)
  rw [List.getElem_map]
  have hk2:k < vs.length:=by rw [List.length_map] at hk; exact hk
  exact ih k hk2 hk' (Ve hf _ (List.getElem_mem hk2))
 | bs id off n2 sz b s cap h hc hsz hb=>intro hf; cases hf
def Gh.more (γ γ1:Gh):Gh:={ γ with im:=fun b o=>γ.im b o ∨ γ1.im b o }
theorem SR.more {base:Nat} {w0 w w':World} {γ γ1:Gh} {S:St} (h:SR base w0 γ S w) (hb:Below w.heap.size w w') (hi:∀ b o,γ1.im b o → w.heap.size ≤ b ∧ ∃ v,w'.cell? ⟨b,o,none⟩=some v):SR base w0 (γ.more γ1) S w' ∧ Ext γ S w (γ.more γ1) S w':=by
 have hc:∀ b o v,w.cell? ⟨b,o,none⟩=some v → w'.cell? ⟨b,o,none⟩=some v:=fun b o v hv=>(hb.cell (World.block_lt_of_cell? w _ hv)).trans hv
 have ev:Ev γ w (γ.more γ1) w':=⟨fun _ _ h=>h,fun _ _ h=>.inl h,fun b o v _ hv=>hc b o v hv,fun b arr T fr ha=>⟨arr,fr,(hb.block b (Array.getElem?_eq_some_iff.1 ha).1).trans ha,rfl⟩⟩
 have him:∀ b,b < w.heap.size → ∀ o,(γ.more γ1).im b o → γ.im b o:=fun b hlt o ho=>ho.elim id (fun h=>by have:=(hi b o h).1; omega)
 refine ⟨⟨h.below.trans (hb.mono h.hbase),Nat.le_trans h.hbase hb.size,fun b o ho=>?_,h.fresh,h.pos,fun id b s e=>Nat.lt_of_lt_of_le (h.inb id b s e) hb.size,fun id c e=>?_,h.inj⟩,
  ⟨ev,Nat.le_refl _,fun _ _=>rfl,hb.size,fun id c b s h l=>.inr ⟨id,c,s,h,l⟩,fun b hl _=>⟨hb.block b hl,him b hl⟩⟩⟩
 ·rcases ho with ho | ho
  ·obtain ⟨v,hv⟩:=h.imc b o ho; exact ⟨v,hc b o v hv⟩
  ·exact (hi b o ho).2
 ·obtain ⟨b,s,h1,h2,h3⟩:=h.live id c e
  exact ⟨b,s,h1,h2,h3.keep ev (hb.block b (h.inb id b s h1)) (fun o=>him b (h.inb id b s h1) o)⟩
def N0:R → Option AV
 | .ret a _=>Bool.rec none (some (clean a)) (Ml a)
 | _=>none
end Go.Ax
noncomputable section
namespace Go.Ax
open Go.RowKit Go.Proofs
set_option maxRecDepth 100000
mutual
theorem Yy:∀ {a:AV} {e:PE},RepE a e → Ml a=true ∧ RepE (clean a) e
 | _,_,.mk kind pos n name off kv kids h=>by
  obtain ⟨h1,h2⟩:=repK_free h
  refine ⟨?_,.mk kind pos n name off (clean kv) kids h2⟩
  show Ki (exC kind pos n name off kv)=true
  simp [exC,Ki,Ml,Dq,Bt,h1]
theorem repK_free:∀ {a:AV} {l:List PE},RepK a l → Ml a=true ∧ RepK (clean a) l
 | _,_,.nil=>⟨rfl,.nil⟩
 | _,_,.row tok off es kids h=>by
  obtain ⟨h1,h2⟩:=uW h
  exact ⟨h1,.row 0 0 (Jg es) kids h2⟩
theorem uW:∀ {es:List AV} {l:List PE},RepF es l → Ki es=true ∧ RepF (Jg es) l
 | _,_,.nil=>⟨rfl,.nil⟩
 | _,_,.cons a e r l h h2=>by
  obtain ⟨h1,h3⟩:=Yy h
  obtain ⟨h4,h5⟩:=uW h2
  exact ⟨by rw [Ki,h1,h4]; rfl,.cons (clean a) e (Jg r) l h3 h5⟩
end
theorem Qn {α:Type} {sz:Nat} {A:α → AV} (hA:∀ x,Ml (A x)=true ∧ clean (A x)=A x) {a:AV} {l:List α} (h:F2 sz A a l):Ml a=true ∧ F2 sz A (clean a) l:=by
 rcases h with ⟨rfl,rfl⟩ | ⟨tok,off,rfl⟩
 ·exact ⟨rfl,.inl ⟨rfl,rfl⟩⟩
 ·have key:∀ l:List α,Ki (l.map A)=true ∧ Jg (l.map A)=l.map A:=fun l=>by
   induction l with
   | nil=>exact ⟨rfl,rfl⟩
   | cons x r ih=>rw [List.map_cons]; exact ⟨by rw [Ki,(hA x).1,ih.1]; rfl,by rw [Jg,(hA x).2,ih.2]⟩
  refine ⟨(key l).1,.inr ⟨0,0,?_⟩⟩
  show AV.sl 0 0 sz (Jg (l.map A))=_
  rw [(key l).2]
theorem iQ (d:PD):Ml (Fq d)=true ∧ clean (Fq d)=Fq d:=⟨rfl,rfl⟩
theorem left_free (d:List UInt8 × Nat):Ml (Hr d)=true ∧ clean (Hr d)=Hr d:=⟨rfl,rfl⟩
theorem isEq_free {v:AV} {q:PQ} (h:Zl v q):Ml v=true ∧ Zl (clean v) q:=by
 obtain ⟨lv,xs,rfl,hl,hx,hr⟩:=h
 obtain ⟨h1,h2⟩:=Qn left_free hl
 obtain ⟨h3,h4⟩:=Yy hr
 have h3:Ki xs=true:=h3
 have h4:RepE (.agg (Jg xs)) q.e:=h4
 refine ⟨?_,clean lv,Jg xs,rfl,h2,by rw [Qf,List.length_map]; exact hx,h4⟩
 show Ki (lv :: .v (.bool q.async) :: xs)=true
 rw [Ki,Ki,h1,h3]; rfl
theorem kE:∀ {es:List AV} {l:List PQ},EqRows es l → Ki es=true ∧ EqRows (Jg es) l
 | _,_,.nil=>⟨rfl,.nil⟩
 | _,_,.cons a q r l h h2=>by
  obtain ⟨h1,h3⟩:=isEq_free h
  obtain ⟨h4,h5⟩:=kE h2
  exact ⟨by rw [Ki,h1,h4]; rfl,.cons _ _ _ _ h3 h5⟩
theorem isNode_free {v:AV} {n:PN} (h:Gr v n):Ml v=true ∧ Gr (clean v) n:=by
 obtain ⟨a,b,c,d,es,rfl,h1,h2,h3,h4,h5⟩:=h
 obtain ⟨a1,a2⟩:=Qn iQ h1
 obtain ⟨b1,b2⟩:=Qn iQ h2
 obtain ⟨c1,c2⟩:=Qn iQ h3
 obtain ⟨e1,e2⟩:=kE h5
 have hd:Ml d=true ∧ ((clean d=.nils ∧ Jg es=[]) ∨ ∃ tok,clean d=.sl tok 0 8 (Jg es)):=by
  rcases h4 with ⟨rfl,rfl⟩ | ⟨tok,rfl⟩
  ·exact ⟨rfl,.inl ⟨rfl,rfl⟩⟩
  ·exact ⟨e1,.inr ⟨0,rfl⟩⟩
 refine ⟨?_,clean a,clean b,clean c,clean d,Jg es,rfl,a2,b2,c2,hd.2,e2⟩
 show Ki (Fg n.name n.pos a b c d)=true
 simp [Fg,Ki,Ml,Dq,Bt,a1,b1,c1,hd.1]
theorem Zv:∀ {es:List AV} {l:List PN},NodeRows es l → Ki es=true ∧ NodeRows (Jg es) l
 | _,_,.nil=>⟨rfl,.nil⟩
 | _,_,.cons a q r l h h2=>by
  obtain ⟨h1,h3⟩:=isNode_free h
  obtain ⟨h4,h5⟩:=Zv h2
  exact ⟨by rw [Ki,h1,h4]; rfl,.cons _ _ _ _ h3 h5⟩
theorem jX {v:AV} {l:List PN} (h:Oj v l):Ml v=true ∧ Oj (clean v) l:=by
 obtain ⟨tok,off,es,rfl,hn⟩:=h
 obtain ⟨h1,h2⟩:=Zv hn
 exact ⟨h1,0,0,Jg es,rfl,h2⟩
end Go.Ax
noncomputable section
namespace Go.Ax
open Go.RowKit Go.Proofs
open Classical
set_option maxRecDepth 100000
theorem CT.one {E:Env} {k:FuncId} {args:List AV} {S:St} {r r':R} (h:CT E k args S r) (h':CT E k args S r'):r=r':=by
 obtain ⟨m,hm⟩:=h
 obtain ⟨m',hm'⟩:=h'
 rw [← hm (max m m') (by omega),← hm' (max m m') (by omega)]
theorem gR_drop {γ:Gh} {w:World} (hg:GR γ w gR):GR ⟨fun _=>none,γ.im⟩ w gR:=by
 intro g cs h
 have h0:=h
 unfold gR at h
 cases hb:Nat.beq g 5 with
 | false=>rw [hb] at h; cases h
 | true =>
  have:g=5:=Nat.eq_of_beq_eq_true hb
  subst this
  injection h with h; subst h
  refine ⟨?_,fun h2=>absurd h2 (by simp)⟩
  have:=(hg 5 _ rfl).1
  cases this with
  | ep _ b o c h1 h2 hr =>
   refine .ep _ _ _ c h1 h2 (fun k hk=>?_)
   have hr:=hr k hk
   have hk0:k=0:=by simp at hk; exact hk
   subst hk0
   simp only [List.getElem_cons_zero] at hr ⊢
   generalize c 0=z at hr
   cases hr with
   | iface t a x hx =>
    cases hx with
    | ep cs b o c h1 h2 hr=>exact .iface _ _ _ (.ep [] b o c (fun k h=>absurd h (Nat.not_lt_zero k)) (fun _ h=>absurd h List.not_mem_nil) (fun k h=>absurd h (Nat.not_lt_zero k)))
theorem memoCT {k:FuncId} {args:List AV} {r:R} {a:AV} (hct:CT E1 k args St0 r) (hc:N0 r=some a) (hF:(E1.F k).isSome=true) {base:Nat} {w0:World} {γ:Gh} {S:St} {w:World} {vs:List Value}
  (hS:SR base w0 γ S w) (hg:GR γ w gR) (hv:∀ γ:Gh,VRL γ w args vs):Calls Tryz.prog k vs.toArray w (O7 base w0 γ S w (.ret a S)):=by
 cases hr:r with
 | fail=>rw [hr] at hc; cases hc
 | pan a S=>rw [hr] at hc; cases hc
 | ret a1 S1 =>
  rw [hr] at hc
  obtain ⟨m0,hm⟩:=hct
  have hm:=hm m0 (Nat.le_refl _)
  have hS0:SR w.heap.size w ⟨fun _=>none,γ.im⟩ St0 w:=⟨.refl _ _,Nat.le_refl _,fun b o h=>hS.imc b o h,fun _ _=>⟨rfl,rfl⟩,Nat.le_refl _,fun _ _ _ h=>(by cases h),fun _ _ h=>(by cases h),fun _ _ _ _ _ _ _ h=>(by cases h)⟩
  have:=Ng Rv dZ (Jf Rv Rn) m0 w.heap.size w k args St0 (by show ckN E1 m0 k args St0 ≠ _; rw [hm,hr]; intro e; cases e) _ w vs hS0 (gR_drop hg) (hv _) hF
  rw [show Vl E1 (Dm E1) m0 k args St0=.ret a1 S1 from hm.trans hr] at this
  refine this.mono fun e w' he=>?_
  obtain ⟨γ',v,h1,h2,h3,rfl⟩:=he
  cases hf:Ml a1 with
  | false=>simp only [N0,hf] at hc; cases hc
  | true =>
   simp only [N0,hf] at hc
   injection hc with hc; subst hc
   have hi:∀ b o,(⟨fun _=>none,fun b o=>γ'.im b o ∧ w.heap.size ≤ b⟩:Gh).im b o → w.heap.size ≤ b ∧ ∃ v,w'.cell? ⟨b,o,none⟩=some v:=fun b o ho=>⟨ho.2,h1.imc b o ho.1⟩
   obtain ⟨q1,q2⟩:=hS.more h1.below hi
   refine ⟨_,v,q1,q2,h3.clean (fun b o ho=>?_) hf,rfl⟩
   by_cases hlt:b < w.heap.size
   ·exact .inl ((h2.frame b hlt (fun id c s hm hl=>by cases hl)).2 o ho)
   ·exact .inr ⟨ho,Nat.le_of_not_lt hlt⟩
def progR (l:List UInt8):R:=if h:∃ r,CT E1 19 [Bt l] St0 r then Classical.choose h else .fail
theorem progR_is {l:List UInt8} {r:R} (h:CT E1 19 [Bt l] St0 r):progR l=r:=by
 have he:∃ r,CT E1 19 [Bt l] St0 r:=⟨r,h⟩
 unfold progR
 rw [dif_pos he]
 exact (Classical.choose_spec he).one h
def L6 (args:List AV) (S:St):R:=match args with
 | [.v (.string s)]=>match N0 (progR s.data.toList) with
  | some a=>.ret a S
  | none=>.fail
 | _=>.fail
theorem prog_I7 (base:Nat) (w0:World) (args:List AV) (S:St) (hne:L6 args S ≠ .fail) (γ:Gh) (w:World) (vs:List Value) (hS:SR base w0 γ S w) (hg:GR γ w gR) (hv:VRL γ w args vs):Calls Tryz.prog 19 vs.toArray w (O7 base w0 γ S w (L6 args S)):=by
 generalize hr:L6 args S=r at hne ⊢
 unfold L6 at hr
 split at hr
 case h_2=>exact absurd hr.symm hne
 rename_i s
 split at hr
 case h_2=>exact absurd hr.symm hne
 rename_i a ha
 subst hr
 by_cases h:∃ r,CT E1 19 [Bt s.data.toList] St0 r
 ·obtain ⟨r,h⟩:=h
  rw [progR_is h] at ha
  refine memoCT h ha (by kernel_rfl) hS hg (fun γ'=>?_)
  refine ⟨hv.1,fun k h1 h2=>?_⟩
  match k,h1 with
  | 0,_ =>
   have:=hv.2 0 (by simp) h2
   generalize vs[0]=z at this
   cases this
   exact .v _ rfl
 ·unfold progR at ha
  rw [dif_neg h] at ha
  cases ha
theorem lU {l:List UInt8} {out:(Nat × Nat) ⊕ List Tk} (hsz:l.length ≤ 1000000) (hlx:Kt l=some out) (S:St) :
  (∃ ns v,Kg 70000 out=some (.inl ns) ∧ L6 [Bt l] S=.ret (.tup [v,.agg (Ds 0 0)]) S ∧ Oj v ns) ∨ (∃ y:Nat × Nat,Kg 70000 out=some (.inr y) ∧ L6 [Bt l] S=.ret (.tup [.nils,.agg (Ds y.1 y.2)]) S):=by
 obtain ⟨hok,_⟩:=read_s hlx
 obtain ⟨r,hct,hpost⟩:=pE l St0 (Nat.le_refl _) hsz out hlx 70000 (by omega) hok
 have hp:L6 [Bt l] S=match N0 (progR l) with | some a=>.ret a S | none=>.fail:=rfl
 rw [progR_is hct] at hp
 cases hx:Kg 70000 out with
 | none=>exact absurd hx hok
 | some x =>
  rw [hx] at hpost
  cases x with
  | inl ns =>
   obtain ⟨v,S',rfl,hi,hk⟩:=hpost
   obtain ⟨h1,h2⟩:=jX hi
   refine .inl ⟨ns,clean v,rfl,?_,h2⟩
   rw [hp]
   have e:N0 (.ret (.tup [v,.agg (Ds 0 0)]) S')=some (.tup [clean v,.agg (Ds 0 0)]):=by
    have hf:Ml (.tup [v,.agg (Ds 0 0)])=true:=by
     show (Ml v && (Ki (Ds 0 0) && true))=true
     rw [h1]; rfl
    simp only [N0,hf]
    rfl
   rw [e]
  | inr y =>
   obtain ⟨S',rfl,hk⟩:=hpost
   refine .inr ⟨y,rfl,?_⟩
   rw [hp]
   have e:N0 (.ret (.tup [.nils,.agg (Ds y.1 y.2)]) S')=some (.tup [.nils,.agg (Ds y.1 y.2)]):=rfl
   rw [e]
def G7:Gl:=fun g=>Bool.rec (gR g) (some Zk) (Nat.beq g 0)
theorem G7_R {γ:Gh} {w:World} (h:GR γ w G7):GR γ w gR:=by
 intro g cs hg
 have hg':=hg
 unfold gR at hg
 cases hb:Nat.beq g 5 with
 | false=>rw [hb] at hg; cases hg
 | true =>
  have:g=5:=Nat.eq_of_beq_eq_true hb
  subst this
  exact h 5 cs hg'
end Go.Ax
noncomputable section
namespace Go.Ax
open Go.RowKit Go.Proofs
set_option maxRecDepth 100000
def fr (k:Int) (b:Bool):T AV:=(T.leaf.set 0 (some (.v (.int .i64 k)))).set 1 (some (.v (.bool b)))
theorem bd33:Gc Tryz.prog 33 []=some (.agg (Ds 0 0)):=by kernel_rfl
theorem zM (a b:AV):H9 Tryz.prog 33 a b=false:=by
 have u33:(match Tryz.prog.underlying 33 with | some (.struct _)=>true | _=>false)=true:=by kernel_rfl
 unfold H9
 split at u33
 ·rename_i h; rw [h]
 ·cases u33
theorem fb33 (x y:List AV):Ej .neq (.agg x) (.agg y)=none:=rfl
def isIntT (P:Program) (t:TypeId):Bool:=match P.underlying t with
 | some (.int _)=>true
 | _=>false
theorem isIntT_spec {P:Program} {t:TypeId} (h:isIntT P t=true):∃ k,P.underlying t=some (.int k):=by
 unfold isIntT at h
 split at h
 ·rename_i k hk; exact ⟨k,hk⟩
 ·cases h
def okFld (P:Program) (f:Field) (o:Nat):Bool:=!decide (f.name = "_") && decide (f.offset=o) && decide (Fo P f.type=some false) && isIntT P f.type
def flds33:Bool:=match fieldsOf Tryz.prog 33 with
 | some fs=>(match fs.toList with
  | [f,g]=>okFld Tryz.prog f 0 && okFld Tryz.prog g 1 && !(Tryz.prog.stoodInHeld 33) && !(Tryz.prog.eqGuardType Tryz.prog.depth 33)
  | _=>false)
 | none=>false
theorem wM:flds33=true:=by kernel_rfl
theorem Wb {P:Program} {f:Field} {o:Nat} (h:okFld P f o=true):f.name ≠ "_" ∧ f.offset=o ∧ Fo P f.type=some false ∧ ∃ k,P.underlying f.type=some (.int k):=by
 unfold okFld at h
 simp only [Bool.and_eq_true,decide_eq_true_eq,Bool.not_eq_true',decide_eq_false_iff_not] at h
 exact ⟨h.1.1.1,h.1.1.2,h.1.2,isIntT_spec h.2⟩
theorem fq33 (a e:Int):Kv Tryz.prog .neq 33 (.agg [.v (.int .i64 a),.v (.int .i64 e)]) (.agg [.v (.int .i64 0),.v (.int .i64 0)])=some (.v (.bool (!((a == 0) && ((e == 0) && true))))):=by
 have h:=wM
 unfold flds33 at h
 split at h
 ·rename_i fs hfs
  split at h
  ·rename_i f g hl
   simp only [Bool.and_eq_true,Bool.not_eq_true'] at h
   obtain ⟨⟨⟨h1,h2⟩,h3⟩,h4⟩:=h
   obtain ⟨f1,f2,f3,k1,f4⟩:=Wb h1
   obtain ⟨g1,g2,g3,k2,g4⟩:=Wb h2
   cases ha:(a == 0) <;> cases he:(e == 0) <;> simp [Kv,hfs,h3,h4,hl,Yc,f1,f2,f3,g1,g2,g3,iF,f4,g4,ha,he]
  ·cases h
 ·cases h
theorem fe33 (a e:Int):Kv Tryz.prog .eql 33 (.agg [.v (.int .i64 a),.v (.int .i64 e)]) (.agg [.v (.int .i64 0),.v (.int .i64 0)])=some (.v (.bool ((a == 0) && ((e == 0) && true)))):=by
 have h:=wM
 unfold flds33 at h
 split at h
 ·rename_i fs hfs
  split at h
  ·rename_i f g hl
   simp only [Bool.and_eq_true,Bool.not_eq_true'] at h
   obtain ⟨⟨⟨h1,h2⟩,h3⟩,h4⟩:=h
   obtain ⟨f1,f2,f3,k1,f4⟩:=Wb h1
   obtain ⟨g1,g2,g3,k2,g4⟩:=Wb h2
   cases ha:(a == 0) <;> cases he:(e == 0) <;> simp [Kv,hfs,h3,h4,hl,Yc,f1,f2,f3,g1,g2,g3,iF,f4,g4,ha,he]
  ·cases h
 ·cases h
def Fz {α:Type} (x:PR α):Prop:=∀ a e,x=.bad a e → e ≠ 0
section
variable {α β:Type}
theorem Fz.ok {a:α} {j:Nat}:Fz (.ok a j):=fun _ _ h=>by cases h
theorem Fz.out:Fz (.out:PR α):=fun _ _ h=>by cases h
theorem Fz.bad {a e:Nat} (h:e ≠ 0):Fz (.bad a e:PR α):=fun _ _ h'=>by injection h' with h1 h2; subst h2; exact h
theorem Fz.bind {x:PR α} {f:α → Nat → PR β} (h:Fz x) (hf:∀ a j,Fz (f a j)):Fz (x.bind f):=by
 cases x with
 | ok a j=>exact hf a j
 | bad a e=>exact .bad (h a e rfl)
 | out=>exact .out
theorem Fz.ite {c:Prop} [Decidable c] {x y:PR α} (h1:Fz x) (h2:Fz y):Fz (if c then x else y):=by
 by_cases h:c
 ·rw [if_pos h]; exact h1
 ·rw [if_neg h]; exact h2
end
section
variable {ts:List Tk}
end
theorem fbe33 (x y:List AV):Ej .eql (.agg x) (.agg y)=none:=_root_.id rfl
theorem eq7n (f:T AV) (S:St) (o:Oper) (a e:Nat):Mb Tryz.prog G7 f S o .neq 33 (.agg (Ds a e)) (.agg (Ds 0 0))=.val (.v (.bool (!(((a:Int) == 0) && (((e:Int) == 0) && true))))) S:=by
 unfold Mb
 have h:Kv Tryz.prog .neq 33 (.agg (Ds a e)) (.agg (Ds 0 0))=some (.v (.bool (!(((a:Int) == 0) && (((e:Int) == 0) && true))))):=fq33 a e
 rw [h]
theorem eq7e (f:T AV) (S:St) (o:Oper) (a e:Nat):Mb Tryz.prog G7 f S o .eql 33 (.agg (Ds a e)) (.agg (Ds 0 0))=.val (.v (.bool (((a:Int) == 0) && (((e:Int) == 0) && true)))) S:=by
 unfold Mb
 have h:Kv Tryz.prog .eql 33 (.agg (Ds a e)) (.agg (Ds 0 0))=some (.v (.bool (((a:Int) == 0) && (((e:Int) == 0) && true)))):=fe33 a e
 rw [h]
theorem eq7nz (f:T AV) (S:St) (o:Oper):Mb Tryz.prog G7 f S o .neq 33 (.agg (Ds 0 0)) (.agg (Ds 0 0))=.val (.v (.bool false)) S:=eq7n f S o 0 0
theorem gV {S:St} {id:Nat} {x0 x1 a b c d:AV} (h:S.mem.get id=some (.box [x0,x1,a,b,c,d])):Cd Tryz.prog S 46 (.ptr id 2)=some a:=by simp [Cd,D0,h,a46]
theorem ld46_3 {S:St} {id:Nat} {x0 x1 a b c d:AV} (h:S.mem.get id=some (.box [x0,x1,a,b,c,d])):Cd Tryz.prog S 46 (.ptr id 3)=some b:=by simp [Cd,D0,h,a46]
theorem ld46_4 {S:St} {id:Nat} {x0 x1 a b c d:AV} (h:S.mem.get id=some (.box [x0,x1,a,b,c,d])):Cd Tryz.prog S 46 (.ptr id 4)=some c:=by simp [Cd,D0,h,a46]
theorem Xm {v:AV} {es:List AV} (h:Tg v es):v.noTup=true:=by
 rcases h with ⟨rfl,rfl⟩ | ⟨tok,off,rfl⟩ <;> rfl
theorem z46:∃ z,Mi Tryz.prog 46=some z:=Option.isSome_iff_exists.1 (by kernel_rfl)
theorem row159 {a b c:AV} {ea eb ec:List AV} (ha:Tg a ea) (hb:Tg b eb) (hc:Tg c ec):Dw Tryz.prog 159 3 [(0,a),(1,b),(2,c)]=some (.sl 1 0 1 [a,b,c]):=by
 obtain ⟨z,hz⟩:=z46
 have e:([(0,a),(1,b),(2,c)].map (·.1) == List.range 3)=true:=by rfl
 simp [Dw,e159,s46',hz,Xm ha,Xm hb,Xm hc,Qx ha,Qx hb,Qx hc]
 decide
theorem fnOk63:∃ fn,E1.F 63=some fn:=Option.isSome_iff_exists.1 (by kernel_rfl)
theorem all_any {x0 x1 a b c d:AV} {ea eb ec:List AV} (ha:Tg a ea) (hb:Tg b eb) (hc:Tg c ec) (hl:ea.length + eb.length + ec.length ≤ 3000) (S:St) (hS:2 ≤ S.next):WC E1 22 [.agg [x0,x1,a,b,c,d]] S (fun r=>∃ v S',r=.ret v S' ∧ rowN v (ea ++ eb ++ ec) ∧ Keeps S S'):=by
 refine Dv Tryz.f22 (by kernel_rfl) (by kernel_rfl) (by kernel_rfl) (by show (_:Nat) ≤ _;simp [Tryz.f22]) ?_
 obtain ⟨fn1,hf1⟩:=fnOk63
 have g:=Cv S [x0,x1,a,b,c,d]
 have l2:=gV g
 have l3:=ld46_3 g
 have l4:=ld46_4 g
 have hr:=row159 ha hb hc
 have hn:(AV.agg [x0,x1,a,b,c,d]).noTup=true:=rfl
 have hcl:(AV.agg [x0,x1,a,b,c,d]).cells=[x0,x1,a,b,c,d]:=rfl
 simp only [Bw,Bv,Dk,Dy,Bo,A6,Co,Bk,Bl,Bq,Dx,C1,B1,A4,C7,Dd,Cl,Cf,C9,Dc,C5,Be,A7,C0,Bf,Br,Bh,D5,Bu,Bd,Bp,Cq,De,C8,A5,Bc,Ba,Ce,A0,A1,Bm,B5,ofOpt,ofOptS,Bb,Cp,Fj,Bz,Bs,Bi,Cg,B0,Bg,Cs,C6,Db,Cu,Ew,D8,E3,Dg,B9,Di,Nat.reduceLT,Nat.reduceAdd,Nat.reduceEqDiff,Aa,Ab,reduceIte,Ac,Ad,Ae,Af,Ag,Ah,Ai,Aj,Ak,Al,Am,Ao,Ap,Aq,Ar,Au,Av,Aw,Option.toList,Ay,Az,Tryz.f22,hf1,l2,l3,l4,hr,hn,hcl,aU,aT,qZ]
 refine WC.mono (concat_w 1 0 [a,b,c] [ea,eb,ec] ⟨ha,hb,hc,trivial⟩ (by show 3 ≤ 1000; decide) (by simp [Vw]; omega) (S.newBox [x0,x1,a,b,c,d]) (Nat.le_succ_of_le hS)) ?_
 rintro _ ⟨v,S',rfl,hv,hk⟩
 simp only [Bw,Bv,Dk,Dy,Bo,A6,Co,Bk,Bl,Bq,Dx,C1,B1,A4,C7,Dd,Cl,Cf,C9,Dc,C5,Be,A7,C0,Bf,Br,Bh,D5,Bu,Bd,Bp,Cq,De,C8,A5,Bc,Ba,Ce,A0,A1,Bm,B5,ofOpt,ofOptS,Bb,Cp,Fj,Bz,Bs,Bi,Cg,B0,Bg,Cs,C6,Db,Cu,Ew,D8,E3,Dg,B9,Di,Nat.reduceLT,Nat.reduceAdd,Nat.reduceEqDiff,Aa,Ab,reduceIte,Ac,Ad,Ae,Af,Ag,Ah,Ai,Aj,Ak,Al,Am,Ao,Ap,Aq,Ar,Au,Av,Aw,Option.toList,Ay,Az,Tryz.f22]
 refine ⟨v,S',rfl,by simpa using hv,Nat.le_trans (Nat.le_succ _) hk.1,fun id hid=>(hk.2 id (Nat.lt_succ_of_lt hid)).trans (Fy hid)⟩
def uP:AV → Option (List AV)
 | .nils=>some []
 | .sl _ _ sz es=>Bool.rec none (some es) (Nat.beq sz 6)
 | _=>none
theorem oO {v:AV} {es:List AV} (h:uP v=some es):Tg v es:=by
 unfold uP at h
 split at h
 ·injection h with h; subst h; exact .inl ⟨rfl,rfl⟩
 ·rename_i tok off sz es'
  cases hb:Nat.beq sz 6 with
  | false=>rw [hb] at h; cases h
  | true =>
   rw [hb] at h
   injection h with h; subst h
   have:sz=6:=Nat.eq_of_beq_eq_true hb
   subst this
   exact .inr ⟨tok,off,rfl⟩
 ·cases h
def AV.plainC:AV → Bool
 | .agg cs=>cs.all AV.plain
 | a=>a.plain
theorem plainC_flat {es:List AV} (h:es.all AV.plainC=true):∀ a ∈ Er es,a.plain=true:=by
 intro a ha
 unfold Er at ha
 rw [List.mem_flatMap] at ha
 obtain ⟨e,he,hae⟩:=ha
 have:=List.all_eq_true.1 h e he
 cases e with
 | agg cs=>exact List.all_eq_true.1 this a hae
 | _=>simp only [AV.cells,List.mem_cons,List.not_mem_nil,or_false] at hae; subst hae; exact this
theorem VR.rowPlain2 {γ γ':Gh} {w:World} {tok off sz:Nat} {es:List AV} {x:Value} (h:VR γ w (.sl tok off sz es) x) (hp:∀ a ∈ Er es,a.plain=true) (him:∀ b o,γ.im b o → γ'.im b o):VR γ' w (.sl 0 0 sz es) x:=by
 cases h with
 | sl _ _ _ _ b o cap c hsz hes h1 h hr ht hf hc hb =>
  exact .sl 0 0 sz es b o cap c hsz hes h1 (fun k hk=>⟨him _ _ (h k hk).1,(h k hk).2⟩) (fun k hk=>(hr k hk).plain (hp _ (List.getElem_mem hk))) (fun h=>by omega) (fun h=>by omega) hc hb
def rowW (es:List AV):AV:=match es with
 | []=>.nils
 | e :: r=>.sl 0 0 6 (e :: r)
def lE (args:List AV) (S:St):R:=match args with
 | [.agg [x0,x1,a,b,c,d]]=>match uP a,uP b,uP c with
  | some ea,some eb,some ec=>Bool.rec .fail (.ret (rowW (ea ++ eb ++ ec)) S) ((ea ++ eb ++ ec).all AV.plainC && Nat.ble (ea.length + eb.length + ec.length) 3000)
  | _,_,_=>.fail
 | _=>.fail
theorem all_I (base:Nat) (w0:World) (args:List AV) (S:St) (hne:lE args S ≠ .fail) (γ:Gh) (w:World) (vs:List Value) (hS:SR base w0 γ S w) (hg:GR γ w E1.G) (hv:VRL γ w args vs):Calls Tryz.prog 22 vs.toArray w (O7 base w0 γ S w (lE args S)):=by
 generalize hr:lE args S=r at hne ⊢
 unfold lE at hr
 split at hr
 case h_2=>exact absurd hr.symm hne
 rename_i x0 x1 a b c d
 split at hr
 case h_2=>exact absurd hr.symm hne
 rename_i ea eb ec h1 h2 h3
 cases hb:((ea ++ eb ++ ec).all AV.plainC && Nat.ble (ea.length + eb.length + ec.length) 3000) with
 | false=>rw [hb] at hr; exact absurd hr.symm hne
 | true =>
  rw [hb] at hr
  rw [Bool.and_eq_true] at hb
  have hlen:=Nat.le_of_ble_eq_true hb.2
  obtain ⟨r2,⟨m0,hm⟩,v,S',rfl,hrow,hk⟩:=all_any (x0:=x0) (x1:=x1) (d:=d) (oO h1) (oO h2) (oO h3) hlen S hS.pos
  have hc:=hm m0 (Nat.le_refl _)
  have:=Ng Rv dZ (Jf Rv Rn) m0 base w0 22 [.agg [x0,x1,a,b,c,d]] S (by show ckN E1 m0 22 _ S ≠ _; rw [hc]; exact fun e=>by cases e) γ w vs hS hg hv (by kernel_rfl)
  rw [show Vl E1 (Dm E1) m0 22 [.agg [x0,x1,a,b,c,d]] S=_ from hc] at this
  refine this.mono fun x w' hx=>?_
  subst hr
  obtain ⟨γ',y,k1,k2,k3,rfl⟩:=hx
  obtain ⟨q1,q2⟩:=hS.forget k1 k2 hk.2
  refine ⟨_,y,q1,q2,?_,rfl⟩
  rcases hrow with ⟨rfl,he⟩ | ⟨hne2,tok,off,rfl⟩
  ·rw [he]; cases k3; exact .nils
  ·unfold rowW
   cases hes:ea ++ eb ++ ec with
   | nil=>exact absurd hes hne2
   | cons e r =>
    rw [hes] at k3 hb
    exact k3.rowPlain2 (plainC_flat hb.1) (fun _ _ h=>h)
def mI (k:Nat):Option (List AV → St → R):=Bool.rec (Bool.rec (Bool.rec none (some aJ) (Nat.beq k 25)) (some L6) (Nat.beq k 19)) (some lE) (Nat.beq k 22)
def E9:Env:={ P:=Tryz.prog,G:=G7,F:=E1.F,I:=mI,M:=yW }
theorem e9_intr:Kw E9:=fun k g hk base w0 args S hne γ w vs hS hg hv=>by
 have hk2:(Bool.rec (Bool.rec (Bool.rec none (some aJ) (Nat.beq k 25)) (some L6) (Nat.beq k 19)) (some lE) (Nat.beq k 22):Option (List AV → St → R))=some g:=hk
 cases hb:Nat.beq k 22 with
 | true =>
  rw [hb] at hk2
  injection hk2 with hk2; subst hk2
  have:k=22:=Nat.eq_of_beq_eq_true hb
  subst this
  exact all_I base w0 args S hne γ w vs hS (G7_R hg) hv
 | false =>
  rw [hb] at hk2
  cases hc:Nat.beq k 19 with
  | true =>
   rw [hc] at hk2
   injection hk2 with hk2; subst hk2
   have:k=19:=Nat.eq_of_beq_eq_true hc
   subst this
   exact prog_I7 base w0 args S hne γ w vs hS (G7_R hg) hv
  | false =>
   rw [hc] at hk2
   cases hd:Nat.beq k 25 with
   | true =>
    rw [hd] at hk2
    injection hk2 with hk2; subst hk2
    have:k=25:=Nat.eq_of_beq_eq_true hd
    subst this
    exact lex_I base w0 args S hne γ w vs hS (G7_R hg) hv
   | false=>rw [hd] at hk2; cases hk2
def iE (q:PQ):List UInt8:=eqT q ++ [59,32]
theorem spelt_eqLn {q:PQ} (h:Ql q) {r:List UInt8} {vs:List TK} (hr:SpT r vs):SpT (iE q ++ r) (eqJ q ++ vs):=by
 have hend:SpT (59 :: 32 :: r) (sg [59] :: vs):=Ms (s:=[59]) (by decide) (.blank _ _ hr)
 have he:=(yR h.2.1).1 (59 :: 32 :: r) (sg [59] :: vs) (X0 rfl) hend
 have ej:eqJ q ++ vs=Jd q.left ++ sg [61] :: (W7 q ++ sg [59] :: vs):=by unfold eqJ; simp
 rw [ej]
 unfold iE eqT W7
 by_cases ha:q.async=true
 ·rw [if_pos ha,if_pos ha]
  have e:((((Ka q.left ++ [32,61,32]) ++ [97,115,121,110,99,32]) ++ D3 q.e) ++ [59,32]) ++ r=Ka q.left ++ (32 :: ([61] ++ 32 :: (Rp ++ 32 :: (D3 q.e ++ 59 :: 32 :: r)))):=by simp
  have goal:=Vy h.1 (Rt _) (.blank _ _ (uG (s:=[61]) (by decide) (Lt (w:=Rp) (by decide) he)))
  rw [← e] at goal
  exact goal
 ·rw [if_neg ha,if_neg ha]
  have e:(((Ka q.left ++ [32,61,32]) ++ D3 q.e) ++ [59,32]) ++ r=Ka q.left ++ (32 :: ([61] ++ 32 :: (D3 q.e ++ 59 :: 32 :: r))):=by simp
  have goal:=Vy h.1 (Rt _) (.blank _ _ (uG (s:=[61]) (by decide) he))
  rw [← e] at goal
  exact goal
def L9:List PQ → List UInt8
 | []=>[]
 | q :: l=>iE q ++ L9 l
theorem jI:∀ (l:List PQ),(∀ q ∈ l,Ql q) → ∀ {r:List UInt8} {vs:List TK},SpT r vs → SpT (L9 l ++ r) (Yb l ++ vs)
 | [],_,r,vs,h=>h
 | q :: l,he,r,vs,h=>by
  show SpT ((iE q ++ L9 l) ++ r) ((eqJ q ++ Yb l) ++ vs)
  rw [List.append_assoc,List.append_assoc]
  exact spelt_eqLn (he q (List.mem_cons_self ..)) (jI l (fun x hx=>he x (List.mem_cons_of_mem _ hx)) h)
def Ht:List PD → List UInt8
 | []=>[]
 | d :: l=>Gg d ++ 59 :: 32 :: Ht l
theorem Zq:∀ (l:List PD),(∀ d ∈ l,Jt d) → ∀ {r:List UInt8} {vs:List TK},SpT r vs → SpT (Ht l ++ r) (Lb l ++ vs)
 | [],_,r,vs,h=>h
 | d :: l,he,r,vs,h=>by
  have ih:=Zq l (fun x hx=>he x (List.mem_cons_of_mem _ hx)) h
  have e1:Ht (d :: l) ++ r=Gg d ++ 59 :: 32 :: (Ht l ++ r):=by
   show (Gg d ++ 59 :: 32 :: Ht l) ++ r=_
   simp
  have e2:Lb (d :: l) ++ vs=Hn d ++ sg [59] :: (Lb l ++ vs):=by
   show (Hn d ++ sg [59] :: Lb l) ++ vs=_
   simp
  rw [e1,e2]
  exact Ys (he d (List.mem_cons_self ..)) _ _ (X0 rfl) (Ms (s:=[59]) (by decide) (.blank _ _ ih))
def Xe (l:List PD):List UInt8:=match l with
 | []=>[]
 | d :: l=>[118,97,114] ++ 32 :: Ht (d :: l)
theorem yQ (l:List PD) (he:∀ d ∈ l,Jt d) {r:List UInt8} {vs:List TK} (h:SpT r vs):SpT (Xe l ++ r) (Pw l ++ vs):=by
 cases l with
 | nil=>exact h
 | cons d l =>
  have e1:Xe (d :: l) ++ r=[118,97,114] ++ 32 :: (Ht (d :: l) ++ r):=by
   show ([118,97,114] ++ 32 :: Ht (d :: l)) ++ r=_
   simp
  have e2:Pw (d :: l) ++ vs=kw [118,97,114] :: (Lb (d :: l) ++ vs):=by unfold Pw; rw [if_neg (by simp)]; rfl
  rw [e1,e2]
  exact Lt (w:=[118,97,114]) (by decide) (Zq (d :: l) he h)
def Lf (n:PN):List UInt8:=[110,111,100,101,32] ++ (n.name ++ ([40] ++ (I4 n.ins [44,32] ++ ([41,32,114,101,116,117,114,110,115,32,40] ++ (I4 n.outs [44,32] ++ ([41,32] ++ (Xe n.vars ++ ([108,101,116,32] ++ (L9 n.eqs ++ [116,101,108])))))))))
theorem bT {n:PN} (h:GoodNode n) {r:List UInt8} {vs:List TK} (hf:Fol r) (hr:SpT r vs):SpT (Lf n ++ r) (So n ++ vs):=by
 have h9:SpT ([116,101,108] ++ r) (kw [116,101,108] :: vs):=jJ (w:=[116,101,108]) (by decide) hf hr
 have h8:=jI n.eqs h.eqs h9
 have h7:SpT ([108,101,116] ++ 32 :: (L9 n.eqs ++ ([116,101,108] ++ r))) (kw [108,101,116] :: (Yb n.eqs ++ kw [116,101,108] :: vs)):=Lt (w:=[108,101,116]) (by decide) h8
 have h6:=yQ n.vars h.vars h7
 have h5:=Qu (T:=Gg) (J:=Hn) n.outs (fun d hd=>Ys (h.outs d hd).1) (.blank _ _ h6)
 have h4:SpT ([114,101,116,117,114,110,115] ++ 32 :: _) (kw [114,101,116,117,114,110,115] :: _):=Lt (w:=[114,101,116,117,114,110,115]) (by decide) h5
 have h3:=Qu (T:=Gg) (J:=Hn) n.ins (fun d hd=>Ys (h.ins d hd).1) (.blank _ _ h4)
 have h2:SpT (n.name ++ _) (nm n.name :: _):=Tf h.name (fol_l _) h3
 have h1:SpT ([110,111,100,101] ++ 32 :: _) (kw [110,111,100,101] :: _):=Lt (w:=[110,111,100,101]) (by decide) h2
 have ej:So n ++ vs=kw [110,111,100,101] :: nm n.name :: (G5 (Ip Hn n.ins) ++ (kw [114,101,116,117,114,110,115] :: (G5 (Ip Hn n.outs) ++ (Pw n.vars ++ (kw [108,101,116] :: (Yb n.eqs ++ (kw [116,101,108] :: vs))))))):=by
  unfold So; simp
 have et:Lf n ++ r=[110,111,100,101] ++ 32 :: (n.name ++ 40 :: (Lib.join (n.ins.map Gg) [44,32] ++ 41 :: 32 :: ([114,101,116,117,114,110,115] ++ 32 :: 40 :: (Lib.join (n.outs.map Gg) [44,32] ++ 41 :: 32 :: (Xe n.vars ++ ([108,101,116] ++ 32 :: (L9 n.eqs ++ ([116,101,108] ++ r)))))))):=by
  unfold Lf I4; simp
 rw [ej,et]
 exact h1
def V5:List PN → List UInt8
 | []=>[]
 | [n]=>Lf n
 | n :: m :: l=>Lf n ++ 32 :: V5 (m :: l)
theorem bS:∀ (l:List PN),(∀ x ∈ l,GoodNode x) → SpT (V5 l) (jP l)
 | [],_=>.fin
 | [n],h=>by
  have:=bT (h n (List.mem_cons_self ..)) (r:=[]) (vs:=[finT]) (fun c q e=>by cases e) .fin
  rw [List.append_nil] at this
  exact this
 | n :: m :: l,h=>bT (h n (List.mem_cons_self ..)) (Rt _) (.blank _ _ (bS (m :: l) (fun x hx=>h x (List.mem_cons_of_mem _ hx))))
theorem read_spelt {X:List UInt8} {ns:List PN} (hne:ns ≠ []) (hg:∀ x ∈ ns,GoodNode x) (hs:SpT X (jP ns)) (h4:X.length ≤ 4000):∃ us ms,Kt X=some (.inr us) ∧ Kg 70000 (.inr us)=some (.inl ms) ∧ Each2 Lo ns ms:=by
 obtain ⟨us,hu,hsee⟩:=sp_lex hs h4
 obtain ⟨ms,j,hl,hk,N,hN⟩:=oZ hne hg hsee
 refine ⟨us,ms,hu,?_,hl⟩
 have hok:=(read_s hu).1
 have hno:Fm us 70000 0 ≠ .out:=fun e=>hok (by unfold Kg; simp only [e])
 have h1:=Zr (Nat.le_max_right N 70000) 0 hno
 rw [hN _ (Nat.le_max_left N 70000)] at h1
 unfold Kg
 simp only [← h1]
 rw [if_pos hk]
theorem gB {ns:List PN} (hne:ns ≠ []) (hg:∀ x ∈ ns,GoodNode x) (h4:(V5 ns).length ≤ 4000):∃ us ms,Kt (V5 ns)=some (.inr us) ∧ Kg 70000 (.inr us)=some (.inl ms) ∧ Each2 Lo ns ms:=read_spelt hne hg (bS ns hg) h4
def O8 (n:Int):PE:=.mk 1 0 n [] false []
def kM (b:Bool):PE:=.mk 2 0 (if b then 1 else 0) [] false []
theorem U9 (n:Int) (h:-9223372036854775808 ≤ n ∧ n ≤ 9223372036854775807):GoodT (O8 n):=.mk _ _ _ _ _ _ (.num n h) (fun e he=>by cases he)
end Go.Ax
noncomputable section
namespace Go.Ax
open Go.RowKit Go.Proofs
set_option maxRecDepth 100000
end Go.Ax
noncomputable section
namespace Go.Ax
open Go.RowKit Go.Proofs
set_option maxRecDepth 100000
end Go.Ax
noncomputable section
namespace Go.Ax
open Go.RowKit Go.Proofs
open Classical
set_option maxRecDepth 100000
def exprR (l:List UInt8):R:=if h:∃ r,CT E1 15 [Bt l] St0 r then Classical.choose h else .fail
def dP (args:List AV) (S:St):R:=match args with
 | [.v (.string s)]=>match N0 (exprR s.data.toList) with
  | some a=>.ret a S
  | none=>.fail
 | _=>.fail
def mT (v:AV) (e:PE):Prop:=RepE v e ∧ Fit e ∧ Hl e ≤ 1000000
def textI:List AV → Option AV
 | [v]=>if h:∃ e,mT v e then some (Bt (D3 (Classical.choose h))) else none
 | _=>none
def knownI8 (k:Nat):Option (List AV → St → R):=Bool.rec (Bool.rec none (some (He textI)) (Nat.beq k 17)) (some dP) (Nat.beq k 15)
def E8:Env:={ P:=Tryz.prog,G:=G7,F:=E1.F,I:=knownI8,M:=yW }
end Go.Ax
noncomputable section
namespace Go.Ax
open Go.RowKit Go.Proofs
set_option maxRecDepth 100000
end Go.Ax
noncomputable section
namespace Go.Ax
open Go.RowKit Go.Proofs
set_option maxRecDepth 100000
theorem Uq:∀ {es:List AV} {l:List PE},RepF es l → es.length=l.length
 | _,_,.nil=>rfl
 | _,_,.cons a e r l h h2=>by simp [Uq h2]
theorem Ur:∀ {es:List AV} {l:List PE},RepF es l → ∀ (i:Nat) (h:i < l.length),∃ ys,es[i]? = some (.agg ys) ∧ RepE (.agg ys) l[i]
 | _,_,.nil,i,hi=>absurd hi (Nat.not_lt_zero _)
 | _,_,.cons a e r l h h2,0,hi=>by
  obtain ⟨xs,rfl,_⟩:=h.agg
  exact ⟨xs,rfl,h⟩
 | _,_,.cons a e r l h h2,i + 1,hi=>by
  obtain ⟨ys,h3,h4⟩:=Ur h2 i (by simpa using hi)
  exact ⟨ys,by simpa using h3,by simpa using h4⟩
def RefOk (e:PE):Prop:=∀ (ys:List AV),RepE (.agg ys) e → ∀ S,2 ≤ S.next → WC E8 14 [.agg ys] S (fun r=>∃ S',r=.ret (Bt (D3 e)) S' ∧ En S S')
structure RefK (e:PE):Prop where
 ok:RefOk e
 kind:1 ≤ Ic e ∧ Ic e ≤ 14
 len:(D3 e).length ≤ 1000000000
end Go.Ax
noncomputable section
namespace Go.Ax
open Go.RowKit Go.Proofs
set_option maxRecDepth 100000
end Go.Ax
noncomputable section
namespace Go.Ax
open Go.RowKit Go.Proofs
set_option maxRecDepth 100000
end Go.Ax
noncomputable section
namespace Go.Ax
open Go.RowKit Go.Proofs
set_option maxRecDepth 100000
inductive Few:PE → Prop where
 | mk (kind pos:Nat) (n:Int) (name:List UInt8) (off:Bool) (kids:List PE) (h:kids.length ≤ 1000) (hk:∀ e ∈ kids,Few e):Few (.mk kind pos n name off kids)
theorem Kn (a b:AV):H9 Tryz.prog 4 a b=false:=by
 have h:Tryz.prog.underlying 4=some .bool:=by kernel_rfl
 unfold H9; rw [h]
theorem Ll (op:BinOp) (a b:Bool):Ej op (.v (.bool a)) (.v (.bool b))=none:=rfl
theorem gS {S:St} {id kind pos:Nat} {n:Int} {name:List UInt8} {off:Bool} {kv:AV} (h:S.mem.get id=some (.box (exC kind pos n name off kv))):Cd Tryz.prog S 28 (.ptr id 5)=some kv:=by
 have:Fo Tryz.prog 28=some false:=by kernel_rfl
 simp [Cd,D0,h,this,exC]
theorem un28:Tryz.prog.underlying 28=some (.slice 30):=by kernel_rfl
theorem qE (S:St) {v:AV} {l:List PE} (h:RepK v l):Fw Tryz.prog S 28 v=some l.length:=by
 cases h with
 | nil=>simp [Fw,un28]
 | row tok off es kids h=>simp [Fw,un28,Uq h]
theorem idx28x (tok off:Nat) (es:List AV) (j:Nat) (ys:List AV) (hy:es[j]? = some (.agg ys)):Cm Tryz.prog 28 (.sl tok off 6 es) (.v (.int .i64 (j:Int)))=some (.ep ys):=by
 have e28':Ir Tryz.prog 28=some (none,30):=by kernel_rfl
 have s30':Fu Tryz.prog 30=some 6:=by kernel_rfl
 simp [Cm,e28',s30',hy,AV.cells]
theorem Wh (S:St) {cs:List AV} (hl:cs.length=6):Cd Tryz.prog S 30 (.ep cs)=some (.agg cs):=by
 have a30':Fo Tryz.prog 30=some true:=by kernel_rfl
 have s30':Fu Tryz.prog 30=some 6:=by kernel_rfl
 simp [Cd,D0,a30',s30',hl]
 rw [List.take_of_length_le (by omega)]
end Go.Ax
