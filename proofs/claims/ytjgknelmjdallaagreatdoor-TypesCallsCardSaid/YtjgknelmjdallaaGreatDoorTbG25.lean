/- Rn -/
import Derived.Test.YtjgknelmjdallaaGreatDoorTbG24
import Derived.Shelf.Strings.Builder1
import Derived.Shelf.Strings.Builder2
import Derived.OneCell
import Derived.Lib.Hide
import Derived.ProofKit
import Derived.Tactics
import Derived.Deep.RegionHeld3
import Derived.Deep.DeepCutAuto
import Derived.Deep.RegionWith
import Derived.WalkSpells
import Derived.WalkKit
import Derived.OwnWalk
import Derived.IntWalk
import Derived.Test.YtjgknelmjdallaaGreatDoorTbG20
import Derived.Test.YtjgknelmjdallaaGreatDoorTbG21
import Derived.Test.YtjgknelmjdallaaGreatDoorTbG12
import Derived.Test.YtjgknelmjdallaaGreatDoorTbG23
import Derived.Laws.BitsLemmas
import Derived.Laws.Unary
import Derived.Test.YtjgknelmjdallaaGreatDoorTbG22
set_option linter.unusedVariables false
set_option linter.unusedSimpArgs false
set_option maxHeartbeats 16000000
noncomputable section
namespace Go.Ax
open Go.RowKit Go.Proofs
theorem Yl {w w':World} {base e size n:Nat} {v:Value} {xs:List Value} (h:w.ownsRow base e size v n xs) (hb:Below w.heap.size w w'):w'.ownsRow base e size v n xs:=by
 refine ⟨h.1,?_⟩
 rcases h.2 with hn | ⟨g,cap,cur,hv,hbg,hg,rest⟩
 ·exact .inl hn
 ·exact .inr ⟨g,cap,cur,hv,hbg,(hb.block g (Array.getElem?_eq_some_iff.1 hg).1).trans hg,rest⟩
def Six (w:World) (b o:Nat) (c0 c1 c2 c3 c4 c5:Value):Prop :=
 w.cell? ⟨b,o,none⟩=some c0 ∧ w.cell? ⟨b,o + 1,none⟩=some c1 ∧ w.cell? ⟨b,o + 2,none⟩=some c2 ∧ w.cell? ⟨b,o + 3,none⟩=some c3 ∧ w.cell? ⟨b,o + 4,none⟩=some c4 ∧ w.cell? ⟨b,o + 5,none⟩=some c5
theorem Six.below {w w':World} {B b o:Nat} {c0 c1 c2 c3 c4 c5:Value} (hb:Below B w w') (h:b < B) (hs:Six w b o c0 c1 c2 c3 c4 c5):Six w' b o c0 c1 c2 c3 c4 c5:=by
 obtain ⟨h0,h1,h2,h3,h4,h5⟩:=hs
 exact ⟨(hb.cell (p:=⟨b,o,none⟩) h).trans h0,(hb.cell (p:=⟨b,o + 1,none⟩) h).trans h1,(hb.cell (p:=⟨b,o + 2,none⟩) h).trans h2,(hb.cell (p:=⟨b,o + 3,none⟩) h).trans h3,(hb.cell (p:=⟨b,o + 4,none⟩) h).trans h4,(hb.cell (p:=⟨b,o + 5,none⟩) h).trans h5⟩
def Blk (w:World) (b T:Nat) (cs:Array Value):Prop:=w.heap[b]? = some (.cells cs T (0,0))
theorem Blk.lt {w:World} {b T:Nat} {cs:Array Value} (h:Blk w b T cs):b < w.heap.size:=lt_of_block h
theorem Blk.cell {w:World} {b T:Nat} {cs:Array Value} (h:Blk w b T cs) {o:Nat} {v:Value} (hv:cs[o]? = some v):w.cell? ⟨b,o,none⟩=some v:=by
 unfold Blk at h
 simp [World.cell?,h,hv]
theorem Blk.new (w:World) (T:Nat) (cs:Array Value):Blk (w.alloc (.cells cs T)) w.heap.size T cs:=heap_alloc_new w _
theorem Blk.same {w w':World} {b T:Nat} {cs:Array Value} (h:Blk w b T cs) (hs:w'.heap[b]? = w.heap[b]?):Blk w' b T cs:=hs.trans h
theorem Blk.below {w w':World} {b T:Nat} {cs:Array Value} (h:Blk w b T cs) (hb:Below w.heap.size w w'):Blk w' b T cs:=h.same (hb.block b h.lt)
theorem Blk.alloc {w:World} {b T:Nat} {cs:Array Value} (h:Blk w b T cs) (o:Obj):Blk (w.alloc o) b T cs:=h.same (heap_alloc_old w _ h.lt)
theorem Blk.other {w:World} {b b' o T:Nat} {cs:Array Value} {x:Value} (h:Blk w b T cs) (hne:b ≠ b'):Blk (w.setCell ⟨b',o,none⟩ x) b T cs :=
 h.same (Below.heap_setCell _ _ _ _ hne)
theorem Blk.set {w:World} {b o T:Nat} {cs:Array Value} (h:Blk w b T cs) (x:Value):Blk (w.setCell ⟨b,o,none⟩ x) b T (cs.setIfInBounds o x):=by
 have hlt:=h.lt
 have h':w.heap[b]=.cells cs T (0,0):=by have:=h; unfold Blk at this; simpa [Array.getElem?_eq_getElem hlt] using this
 show (w.heap.modify b _)[b]? = _
 rw [Array.getElem?_eq_getElem (by simpa using hlt),Array.getElem_modify_self,h']
 rfl
theorem Blk.grown {w w':World} {b T:Nat} {cs:Array Value} {row:Option Nat} (h:Blk w b T cs) (hg:w.grownBy w' row) (hne:row ≠ some b):Blk w' b T cs :=
 h.same (hg.block b h.lt (fun e=>hne e.symm))
theorem size108:(Tryz.prog.info? 108).map (·.size)=some 2:=by kernel_rfl
theorem lies108:liesAt Tryz.prog Tryz.prog.depth 108 (2 / Tryz.prog.cellsOf 108) 0 108 1=true:=by kernel_rfl
theorem infoByte5:(Tryz.prog.info? 5).map (fun i=>(i.zero,i.size,i.bytes))=some (some (.int .u8 0),1,1):=by kernel_rfl
set_option maxRecDepth 100000 in
theorem cc_used (b:Nat) (w:World) (h0:w.cell? ⟨b,0,none⟩=some (.pointer (some ⟨b,0,none⟩))) :
  Calls Tryz.prog 92 #[.pointer (some ⟨b,0,none⟩)] w fun e w'=>e=.returned (.tuple #[]) ∧ w' = w:=by
 obtain ⟨j,hj,_⟩:=Option.map_eq_some_iff.1 size108
 go_enter Tryz.func92,Tryz.ntmps92
 go_wp2
 rw [Lib.run_neq_ptr_same w _ Tryz.underlying106 hj]
 go_wp2
 go_end0
 exact ⟨rfl,rfl⟩
set_option maxRecDepth 100000 in
theorem cc_fresh (b:Nat) (w:World) (h0:w.cell? ⟨b,0,none⟩=some (.pointer none)) (hsh:w.shape? b=some (108,2)) (hfz:w.frozen? ⟨b,0,none⟩=false) :
  Calls Tryz.prog 92 #[.pointer (some ⟨b,0,none⟩)] w fun e w'=>e=.returned (.tuple #[]) ∧ w' = w.setCell ⟨b,0,none⟩ (.pointer (some ⟨b,0,none⟩)):=by
 obtain ⟨j,hj,hjs⟩:=Option.map_eq_some_iff.1 size108
 go_enter Tryz.func92,Tryz.ntmps92
 go_wp2
 rw [Lib.run_to_unsafe w ⟨b,0,none⟩ Tryz.underlying106 Tryz.underlying198 hj (by rw [hjs]; decide) hsh (Nat.zero_lt_succ 1)]
 simp only [Result.andThen]
 rw [Oper.upon_value]
 go_wp2
 rw [run_callFunc_extern Tryz.func130 (by kernel_rfl) (by kernel_rfl) (by kernel_rfl) (e:=Extern.AbiNoEscape.same) (by kernel_rfl)]
 rw [Lib.run_noEscape]
 simp only [Result.andThen]
 rw [Oper.upon_value]
 go_wp2
 rw [Lib.run_from_unsafe w ⟨b,0,none⟩ Tryz.underlying198 Tryz.underlying106 hj hsh lies108]
 simp only [Result.andThen]
 rw [Oper.upon_value]
 go_wp2
 go_end0
 exact ⟨rfl,rfl⟩
theorem cc_any (B b:Nat) (bs:List Value) (w:World) (h:Lib.IsBuilder 108 5 B b bs w) :
  Calls Tryz.prog 92 #[.pointer (some ⟨b,0,none⟩)] w fun e w'=>e=.returned (.tuple #[]) ∧ (Lib.BuilderAt 108 5 B b (.pointer (some ⟨b,0,none⟩)) bs w' ∧ Below B w w' ∧ ∀ k T cs,k ≠ b → Blk w k T cs → Blk w' k T cs):=by
 rcases h with h | h
 ·refine (cc_fresh b w h.cell0 h.shape h.frozen0).mono ?_
  rintro e w' ⟨rfl,rfl⟩
  exact ⟨rfl,h.used _,(Below.refl B w).setCell (p:=⟨b,0,none⟩) h.1 _,fun k T cs hk hb=>hb.other hk⟩
 ·refine (cc_used b w h.cell0).mono ?_
  rintro e w' ⟨rfl,rfl⟩
  exact ⟨rfl,h,Below.refl B _,fun k T cs hk hb=>hb⟩
set_option maxRecDepth 100000 in
theorem write_any (B b:Nat) (bs:List Value) (s:ByteArray) (w:World) (h:Lib.IsBuilder 108 5 B b bs w) (hlen:bs.length + s.size ≤ 140737488355328) (hBw:B ≤ w.heap.size) :
  Calls Tryz.prog 59 #[.pointer (some ⟨b,0,none⟩),.string s] w fun e w'=>e=.returned (.tuple #[.int .i64 s.size,.nilIface]) ∧ (Lib.BuilderAt 108 5 B b (.pointer (some ⟨b,0,none⟩)) (bs ++ Lib.strCells s) w' ∧ Below B w w' ∧ ∀ k T cs,k ≠ b → T ≠ 5 → Blk w k T cs → Blk w' k T cs):=by
 obtain ⟨i0,hi,hz0,hz1,hz2⟩:=info_parts infoByte5
 go_enter Tryz.func59,Tryz.ntmps59
 go_wp2_with fail
 refine (cc_any B b bs _ h).mono ?_
 rintro e w1 ⟨rfl,h1,hb1,hk1⟩
 obtain ⟨hB,v,hbk,hown,hne⟩:=h1
 have c0:w1.cell? ⟨b,0,none⟩=some (.pointer (some ⟨b,0,none⟩)):=by rw [Lib.cell_of_heap hbk]; rfl
 have c1:w1.cell? ⟨b,1,none⟩=some v:=by rw [Lib.cell_of_heap hbk]; rfl
 go_wp2_with (at_builtin; refine Lib.wpList_append_own_string _ rfl _ _ 77 9 rfl B 5 i0 Tryz.underlying77 Tryz.underlying9 hi hz0 hz1 hz2 _ _ _ rfl hown s rfl ?c3 ?c4 ?c5 ?_)
 case c3=>unfold maxLen; omega
 case c4=>omega
 case c5=>have:=hb1.size; omega
 intro v' w2 hown' hgrow _
 have hlt:b < w1.heap.size:=by
  rcases Nat.lt_or_ge b w1.heap.size with h' | h'
  ·exact h'
  ·simp [Array.getElem?_eq_none h'] at hbk
 have hb2:w2.heap[b]? = some (.cells #[.pointer (some ⟨b,0,none⟩),v] 108 (0,0)):=by
  rw [hgrow.block b hlt (fun e=>hne e.symm)]
  exact hbk
 have d0:w2.cell? ⟨b,0,none⟩=some (.pointer (some ⟨b,0,none⟩)):=by rw [Lib.cell_of_heap hb2]; rfl
 have d1:w2.cell? ⟨b,1,none⟩=some v:=by rw [Lib.cell_of_heap hb2]; rfl
 have f1:w2.frozen? ⟨b,1,none⟩=false:=Lib.frozen_of_heap hb2 1
 obtain ⟨ao,n',cap,rfl⟩:∃ ao n' cap,v' = .slice ao n' cap:=by
  rcases hown'.2 with ⟨hv,_⟩ | ⟨g,cap,cur,hv,_⟩
  ·exact ⟨_,_,_,hv⟩
  ·exact ⟨_,_,_,hv⟩
 go_wp2
 go_ret2
 refine ⟨rfl,?_,?_,?_⟩
 ·exact Lib.BuilderAt.put (T:=108) (e:=5) hB hb2 (bs':=bs ++ Lib.strCells s) (by simpa [Lib.strCells_length] using hown') (by decide)
 ·exact (hb1.grown hgrow (by have:=hb1.size; omega) (fun k hk=>(hown.lt k hk).1)).setCell (p:=⟨b,1,none⟩) hB _
 ·intro k T cs hk hT hb
  have hb1':=hk1 k T cs hk hb
  refine Blk.other (hb1'.grown hgrow (fun e=>?_)) hk
  rcases hown.2 with ⟨hv,_⟩ | ⟨g,cap,cur,hv,_,hg,_⟩
  ·subst hv; simp [Value.ownBlock] at e
  ·subst hv
   have:g=k:=by simpa [Value.ownBlock] using e
   subst this
   have h2:=hb1'.symm.trans hg
   injection h2 with h2
   injection h2 with _ h2
   exact hT h2
end Go.Ax
noncomputable section
namespace Go.Ax
open Go.RowKit Go.Proofs
theorem Ug {w w':World} (hb:Below w.heap.size w w'):Ev (GhW w) w (GhW w') w' :=
 ⟨fun _ _ h=>(by cases h),fun b o h=>⟨Nat.lt_of_lt_of_le h.1 hb.size,by obtain ⟨v,hv⟩:=h.2; exact ⟨v,(hb.cell (p:=⟨b,o,none⟩) h.1).trans hv⟩⟩,fun b o v h hv=>(hb.cell (p:=⟨b,o,none⟩) h.1).trans hv,fun b arr T fr h=>⟨arr,fr,(hb.block b (Array.getElem?_eq_some_iff.1 h).1).trans h,rfl⟩⟩
def RdD (w:World) (B:Nat) (v:Value) (es:List PD):Prop:=∃ p c,v=.slice p es.length c ∧ ∃ a,VR (GhW w) w a v ∧ Hq 6 F4 a es
def RdE (w:World) (v:Value) (q:PQ):Prop:=∃ a,VR (GhW w) w a v ∧ Zf a q
theorem RdD.below {w w':World} {B:Nat} {v:Value} {es:List PD} (h:RdD w B v es) (hb:Below w.heap.size w w'):RdD w' B v es:=by
 obtain ⟨p,c,hv,a,h1,h2⟩:=h
 exact ⟨p,c,hv,a,h1.mono (Ug hb),h2⟩
theorem RdE.below {w w':World} {v:Value} {q:PQ} (h:RdE w v q) (hb:Below w.heap.size w w'):RdE w' v q:=by
 obtain ⟨a,h1,h2⟩:=h
 exact ⟨a,h1.mono (Ug hb),h2⟩
structure Nd where
 nm:ByteArray
 pos:Int
 ins:List PD
 outs:List PD
 vars:List PD
 eqs:List PQ
theorem sL {w w':World} {B b:Nat} {bs:List Value} (h:Lib.IsBuilder 108 5 B b bs w) (hb:Below w.heap.size w w'):Lib.IsBuilder 108 5 B b bs w':=by
 rcases h with ⟨h1,v,h2,h3,h4⟩ | ⟨h1,v,h2,h3,h4⟩
 ·exact Or.inl ⟨h1,v,(hb.block b (Array.getElem?_eq_some_iff.1 h2).1).trans h2,Yl h3 hb,h4⟩
 ·exact Or.inr ⟨h1,v,(hb.block b (Array.getElem?_eq_some_iff.1 h2).1).trans h2,Yl h3 hb,h4⟩
theorem uS (a b:ByteArray):Lib.strCells a ++ Lib.strCells b=Lib.strCells (a ++ b):=by unfold Lib.strCells; simp
def eY (w:World) (nb:Nat) (cs:Array Value) (acc:ByteArray) (wx:World):Prop :=
 Below w.heap.size w wx ∧ Blk wx nb 49 cs ∧ Lib.IsBuilder 108 5 w.heap.size w.heap.size (Lib.strCells acc) wx
theorem eY.write {w wx:World} {nb:Nat} {cs:Array Value} {acc s:ByteArray} (h:eY w nb cs acc wx) (hn:nb ≠ w.heap.size) (hz:acc.size + s.size ≤ 140737488355328) :
  Calls Tryz.prog 59 #[.pointer (some ⟨w.heap.size,0,none⟩),.string s] wx fun e w'=>e=.returned (.tuple #[.int .i64 s.size,.nilIface]) ∧ eY w nb cs (acc ++ s) w' ∧ ∀ k T cs,k ≠ w.heap.size → T ≠ 5 → Blk wx k T cs → Blk w' k T cs:=by
 refine (write_any w.heap.size w.heap.size (Lib.strCells acc) s wx h.2.2 (by rw [Lib.strCells_length]; exact hz) h.1.size).mono ?_
 rintro e w' ⟨rfl,h1,h2,h3⟩
 exact ⟨rfl,⟨h.1.trans h2,h3 _ _ _ hn (by decide) h.2.1,Or.inr (uS acc s ▸ h1)⟩,h3⟩
theorem eY.below {w wx w':World} {nb:Nat} {cs:Array Value} {acc:ByteArray} (h:eY w nb cs acc wx) (hb:Below wx.heap.size wx w'):eY w nb cs acc w' :=
 ⟨h.1.trans (hb.mono h.1.size),h.2.1.below hb,sL h.2.2 hb⟩
theorem eY.drew {w wx:World} {nb:Nat} {cs:Array Value} {acc:ByteArray} (h:eY w nb cs acc wx):eY w nb cs acc wx.drew:=h.below ((Below.refl _ _).drew)
end Go.Ax
noncomputable section
namespace Go.Ax
open Go.RowKit Go.Proofs
set_option maxRecDepth 100000
theorem NodeRows.at:∀ {es:List AV} {l:List PN},NodeRows es l → es.length=l.length ∧ ∀ i (h:i < l.length),∃ x,es[i]? = some x ∧ Jb x l[i]
 | _,_,.nil=>⟨rfl,fun i h=>absurd h (Nat.not_lt_zero i)⟩
 | _,_,.cons a q r l h h2=>⟨by simp [h2.at.1],fun i hi=>by
  cases i with
  | zero=>exact ⟨a,rfl,h⟩
  | succ i=>exact h2.at.2 i (by simpa using hi)⟩
theorem EqRows.at:∀ {es:List AV} {l:List PQ},EqRows es l → es.length=l.length ∧ ∀ i (h:i < l.length),∃ x,es[i]? = some x ∧ Zf x l[i]
 | _,_,.nil=>⟨rfl,fun i h=>absurd h (Nat.not_lt_zero i)⟩
 | _,_,.cons a q r l h h2=>⟨by simp [h2.at.1],fun i hi=>by
  cases i with
  | zero=>exact ⟨a,rfl,h⟩
  | succ i=>exact h2.at.2 i (by simpa using hi)⟩
theorem Uy {l:List (List UInt8 × Nat)} (h:pC l) {r:List UInt8} {vs:List TK} (hf:Fol r) (hr:SpT r vs):SpT (J0 l ++ r) (Iz l ++ vs):=by
 match l,h with
 | [x],h =>
  have e:J0 [x]=x.1:=by
   unfold J0
   rw [if_neg (by simp)]
   exact Lib.join_one _ _
  rw [e]
  exact Sd (h.2 x (by simp)) hf hr
 | x :: y :: q,h =>
  have e:J0 (x :: y :: q) ++ r=40 :: (Lib.join ((x :: y :: q).map (·.1)) [44,32] ++ 41 :: r):=by
   unfold J0
   rw [if_pos (by simp)]
   simp
  have e2:Iz (x :: y :: q)=Gr (H8 T5 (x :: y :: q)):=by unfold Iz; rw [if_pos (by simp)]
  rw [e,e2]
  exact Qf (T:=fun x=>x.1) (J:=T5) (x :: y :: q) (fun z hz r vs hf hr=>Sd (h.2 z hz) hf hr) hr
def Q7 {α:Type} (G:α → Prop) (k:Nat) (l:List α) (j:Nat):Prop:=(∀ x ∈ l,G x) ∧ l.length + k ≤ j
theorem Q7.snoc {α:Type} {G:α → Prop} {k i j:Nat} {l:List α} {a:α} (h:Q7 G k l i) (ha:G a) (hij:i < j):Q7 G k (l ++ [a]) j :=
 ⟨fun x hx=>by simp at hx; rcases hx with hx | rfl; exact h.1 _ hx; exact ha,by have:=h.2; simp; omega⟩
theorem Q7.one {α:Type} {G:α → Prop} {k j:Nat} {a:α} (ha:G a) (hij:k < j):Q7 G k [a] j:=⟨fun x hx=>by simp at hx; subst hx; exact ha,by simp; omega⟩
def QFit (j:Nat) (q:PQ):Prop:=q.left.length ≤ j ∧ (∀ x ∈ q.left,x.1.length ≤ 30) ∧ Fit q.e ∧ G8 q.e ≤ j
theorem QFit.mono {i j:Nat} {q:PQ} (h:QFit i q) (hij:i ≤ j):QFit j q:=⟨Nat.le_trans h.1 hij,h.2.1,h.2.2.1,Nat.le_trans h.2.2.2 hij⟩
def eZ (j:Nat) (n:PN):Prop:=(n.ins.length ≤ j ∧ ∀ x ∈ n.ins,Vq x) ∧ (n.outs.length ≤ j ∧ ∀ x ∈ n.outs,Vq x) ∧ (n.vars.length ≤ j ∧ ∀ x ∈ n.vars,Vq x) ∧ n.eqs.length ≤ j ∧ (∀ q ∈ n.eqs,QFit j q) ∧ n.name.length ≤ 30
theorem eZ.mono {i j:Nat} {n:PN} (h:eZ i n) (hij:i ≤ j):eZ j n:=⟨⟨Nat.le_trans h.1.1 hij,h.1.2⟩,⟨Nat.le_trans h.2.1.1 hij,h.2.1.2⟩,⟨Nat.le_trans h.2.2.1.1 hij,h.2.2.1.2⟩,Nat.le_trans h.2.2.2.1 hij,fun q hq=>(h.2.2.2.2.1 q hq).mono hij,h.2.2.2.2.2⟩
section
variable {ts:List Tk} (hts:NameOk ts)
include hts
omit hts in
omit hts in
omit hts in
end
end Go.Ax
noncomputable section
namespace Go.Ax
open Go.RowKit Go.Proofs
set_option maxRecDepth 100000
end Go.Ax
noncomputable section
namespace Go.Ax
open Go.RowKit Go.Proofs
set_option maxRecDepth 100000
theorem Each2.len {α β:Type} {R:α → β → Prop}:∀ {l:List α} {m:List β},Each2 R l m → l.length=m.length
 | _,_,.nil=>rfl
 | _,_,.cons a b l m h h2=>by rw [List.length_cons,List.length_cons,h2.len]
theorem Each2.mem {α β:Type} {R:α → β → Prop}:∀ {l:List α} {m:List β},Each2 R l m → ∀ b ∈ m,∃ a ∈ l,R a b
 | _,_,.cons a b l m h h2,x,hx=>by
  rcases List.mem_cons.1 hx with rfl | hx
  ·exact ⟨a,List.mem_cons_self ..,h⟩
  ·obtain ⟨y,hy,hr⟩:=h2.mem x hx
   exact ⟨y,List.mem_cons_of_mem _ hy,hr⟩
end Go.Ax
noncomputable section
namespace Go.Ax
open Go.RowKit
mutual
def clean:AV → AV
 | .sl _ _ sz es=>.sl 0 0 sz (I2 es)
 | .agg cs=>.agg (I2 cs)
 | .tup vs=>.tup (I2 vs)
 | .v x=>.v x
 | .nilp=>.nilp
 | .nils=>.nils
 | .nilm=>.nilm
 | .ptr a b=>.ptr a b
 | .ep cs=>.ep cs
 | .map id=>.map id
 | .fn f a b=>.fn f a b
 | .iface t x=>.iface t x
 | .bs a b c d=>.bs a b c d
def I2:List AV → List AV
 | []=>[]
 | a :: r=>clean a :: I2 r
end
mutual
def Lw:AV → Bool
 | .sl _ _ _ es=>Js es
 | .agg cs=>Js cs
 | .tup vs=>Js vs
 | .v _=>true
 | .nilp=>true
 | .nils=>true
 | .nilm=>true
 | .ptr _ _=>false
 | .ep _=>false
 | .map _=>false
 | .fn _ _ _=>false
 | .iface _ _=>false
 | .bs _ _ _ _=>false
def Js:List AV → Bool
 | []=>true
 | a :: r=>Lw a && Js r
end
theorem Pz:∀ es,I2 es=es.map clean
 | []=>rfl
 | a :: r=>by rw [I2,Pz r]; rfl
theorem Ue:∀ {es},Js es=true → ∀ a ∈ es,Lw a=true
 | [],_,a,h=>by cases h
 | b :: r,h,a,ha=>by
  rw [Js,Bool.and_eq_true] at h
  rcases List.mem_cons.1 ha with rfl | ha
  ·exact h.1
  ·exact Ue h.2 a ha
theorem tR (a:AV):(clean a).one=a.one:=by cases a <;> rfl
theorem gL (a:AV):(clean a).cells=a.cells.map clean:=by
 cases a <;> first | rfl | skip
 ·show I2 _=_; rw [Pz]; rfl
theorem Vi:∀ es:List AV,Ep (es.map clean)=(Ep es).map clean
 | []=>rfl
 | a :: r=>by
  unfold Ep
  rw [List.map_cons,List.flatMap_cons,List.flatMap_cons,List.map_append,gL]
  have:=Vi r
  unfold Ep at this
  rw [this]
theorem freeV_cells {a:AV} (h:Lw a=true):∀ c ∈ a.cells,Lw c=true:=by
 cases a with
 | agg cs=>exact Ue h
 | _=>intro c hc; simp only [AV.cells,List.mem_cons,List.not_mem_nil,or_false] at hc; subst hc; exact h
theorem free_flat {es:List AV} (h:Js es=true):∀ c ∈ Ep es,Lw c=true:=by
 intro c hc
 unfold Ep at hc
 rw [List.mem_flatMap] at hc
 obtain ⟨e,he,hce⟩:=hc
 exact freeV_cells (Ue h e he) c hce
theorem VR.clean {γ γ':Gh} {w:World} (him:∀ b o,γ.im b o → γ'.im b o) {a:AV} {x:Value} (h:VR γ w a x):Lw a=true → VR γ' w (Go.Ax.clean a) x:=by
 induction h with
 | v x h=>intro _; exact .v x h
 | nilp=>intro _; exact .nilp
 | ptr id off b s h=>intro hf; cases hf
 | ep cs b o c h h1 hr ih=>intro hf; cases hf
 | nils=>intro _; exact .nils
 | sl tok off sz es b o cap c hsz hes h1 h hr ht hf2 hc hb ih =>
  intro hf
  have hf:Js es=true:=hf
  show VR γ' w (.sl 0 0 sz (I2 es)) _
  rw [Pz]
  have hlen:(Ep (es.map Go.Ax.clean)).length=(Ep es).length:=by rw [Vi,List.length_map]
  have key:=VR.sl (γ:=γ') (w:=w) 0 0 sz (es.map Go.Ax.clean) b o cap c hsz (fun e he=>by
    obtain ⟨e',he',rfl⟩:=List.mem_map.1 he
    rw [gL,List.length_map]; exact hes e' he') (fun y hy=>by
    rw [Vi] at hy
    obtain ⟨y',hy',rfl⟩:=List.mem_map.1 hy
    rw [tR]; exact h1 y' hy') (fun k hk=>⟨him _ _ (h k (by rw [← hlen]; exact hk)).1,(h k (by rw [← hlen]; exact hk)).2⟩) (fun k hk=>by
    have hk':k < (Ep es).length:=by rw [← hlen]; exact hk
    have:=ih k hk' (free_flat hf _ (List.getElem_mem hk'))
    have e:(Ep (es.map Go.Ax.clean))[k]=Go.Ax.clean (Ep es)[k]:=by
     simp only [Vi,List.getElem_map]
    rw [e]; exact this) (fun h=>by omega) (fun h=>by omega) (by rw [List.length_map]; exact hc) hb
  rw [List.length_map] at key
  exact key
 | nilm=>intro _; exact .nilm
 | map id b s h=>intro hf; cases hf
 | fn f first caps x y hx hy h1 h2 ih1 ih2=>intro hf; cases hf
 | iface t a x h ih=>intro hf; cases hf
 | agg cs x hx h1 h ih =>
  intro hf
  have hf:Js cs=true:=hf
  show VR γ' w (.agg (I2 cs)) _
  rw [Pz]
  refine .agg _ x (by rw [hx,List.length_map]) (fun a ha=>?_) (fun k hk hk'=>?_)
  ·obtain ⟨a',ha',rfl⟩:=List.mem_map.1 ha
   rw [tR]; exact h1 a' ha'
  ·rw [List.getElem_map]
   have hk2:k < cs.length:=by rw [List.length_map] at hk; exact hk
   exact ih k hk2 hk' (Ue hf _ (List.getElem_mem hk2))
 | tup vs x hx h ih =>
  intro hf
  have hf:Js vs=true:=hf
  show VR γ' w (.tup (I2 vs)) _
  rw [Pz]
  refine .tup _ x (by rw [hx,List.length_map]) (fun k hk hk'=>?_)
  rw [List.getElem_map]
  have hk2:k < vs.length:=by rw [List.length_map] at hk; exact hk
  exact ih k hk2 hk' (Ue hf _ (List.getElem_mem hk2))
 | bs id off n2 sz b s cap h hc hsz hb=>intro hf; cases hf
def Gh.more (γ γ1:Gh):Gh:={ γ with im:=fun b o=>γ.im b o ∨ γ1.im b o }
theorem SR.more {base:Nat} {w0 w w':World} {γ γ1:Gh} {S:St} (h:SR base w0 γ S w) (hb:Below w.heap.size w w') (hi:∀ b o,γ1.im b o → w.heap.size ≤ b ∧ ∃ v,w'.cell? ⟨b,o,none⟩=some v):SR base w0 (γ.more γ1) S w' ∧ Ext γ S w (γ.more γ1) S w':=by
 have hc:∀ b o v,w.cell? ⟨b,o,none⟩=some v → w'.cell? ⟨b,o,none⟩=some v:=fun b o v hv=>(hb.cell (World.block_lt_of_cell? w _ hv)).trans hv
 have ev:Ev γ w (γ.more γ1) w':=⟨fun _ _ h=>h,fun _ _ h=>.inl h,fun b o v _ hv=>hc b o v hv,fun b arr T fr ha=>⟨arr,fr,(hb.block b (Array.getElem?_eq_some_iff.1 ha).1).trans ha,rfl⟩⟩
 have him:∀ b,b < w.heap.size → ∀ o,(γ.more γ1).im b o → γ.im b o:=fun b hlt o ho=>ho.elim id (fun h=>by have:=(hi b o h).1; omega)
 refine ⟨⟨h.below.trans (hb.mono h.hbase),Nat.le_trans h.hbase hb.size,fun b o ho=>?_,h.fresh,h.pos,fun id b s e=>Nat.lt_of_lt_of_le (h.inb id b s e) hb.size,fun id c e=>?_,h.inj⟩,
  ⟨ev,Nat.le_refl _,fun _ _=>rfl,hb.size,fun id c b s h l=>.inr ⟨id,c,s,h,l⟩,fun b hl _=>⟨hb.block b hl,him b hl⟩⟩⟩
 ·rcases ho with ho | ho
  ·obtain ⟨v,hv⟩:=h.imc b o ho; exact ⟨v,hc b o v hv⟩
  ·exact (hi b o ho).2
 ·obtain ⟨b,s,h1,h2,h3⟩:=h.live id c e
  exact ⟨b,s,h1,h2,h3.keep ev (hb.block b (h.inb id b s h1)) (fun o=>him b (h.inb id b s h1) o)⟩
def Mz:R → Option AV
 | .ret a _=>Bool.rec none (some (clean a)) (Lw a)
 | _=>none
end Go.Ax
noncomputable section
namespace Go.Ax
open Go.RowKit Go.Proofs
set_option maxRecDepth 100000
mutual
theorem Xo:∀ {a:AV} {e:PE},RepE a e → Lw a=true ∧ RepE (clean a) e
 | _,_,.mk kind pos n name off kv kids h=>by
  obtain ⟨h1,h2⟩:=repK_free h
  refine ⟨?_,.mk kind pos n name off (clean kv) kids h2⟩
  show Js (exC kind pos n name off kv)=true
  simp [exC,Js,Lw,Dl,Bq,h1]
theorem repK_free:∀ {a:AV} {l:List PE},RepK a l → Lw a=true ∧ RepK (clean a) l
 | _,_,.nil=>⟨rfl,.nil⟩
 | _,_,.row tok off es kids h=>by
  obtain ⟨h1,h2⟩:=rA h
  exact ⟨h1,.row 0 0 (I2 es) kids h2⟩
theorem rA:∀ {es:List AV} {l:List PE},RepF es l → Js es=true ∧ RepF (I2 es) l
 | _,_,.nil=>⟨rfl,.nil⟩
 | _,_,.cons a e r l h h2=>by
  obtain ⟨h1,h3⟩:=Xo h
  obtain ⟨h4,h5⟩:=rA h2
  exact ⟨by rw [Js,h1,h4]; rfl,.cons (clean a) e (I2 r) l h3 h5⟩
end
theorem P6 {α:Type} {sz:Nat} {A:α → AV} (hA:∀ x,Lw (A x)=true ∧ clean (A x)=A x) {a:AV} {l:List α} (h:Hq sz A a l):Lw a=true ∧ Hq sz A (clean a) l:=by
 rcases h with ⟨rfl,rfl⟩ | ⟨tok,off,rfl⟩
 ·exact ⟨rfl,.inl ⟨rfl,rfl⟩⟩
 ·have key:∀ l:List α,Js (l.map A)=true ∧ I2 (l.map A)=l.map A:=fun l=>by
   induction l with
   | nil=>exact ⟨rfl,rfl⟩
   | cons x r ih=>rw [List.map_cons]; exact ⟨by rw [Js,(hA x).1,ih.1]; rfl,by rw [I2,(hA x).2,ih.2]⟩
  refine ⟨(key l).1,.inr ⟨0,0,?_⟩⟩
  show AV.sl 0 0 sz (I2 (l.map A))=_
  rw [(key l).2]
theorem eJ (d:PD):Lw (F4 d)=true ∧ clean (F4 d)=F4 d:=⟨rfl,rfl⟩
theorem left_free (d:List UInt8 × Nat):Lw (Hg d)=true ∧ clean (Hg d)=Hg d:=⟨rfl,rfl⟩
theorem isEq_free {v:AV} {q:PQ} (h:Zf v q):Lw v=true ∧ Zf (clean v) q:=by
 obtain ⟨lv,xs,rfl,hl,hx,hr⟩:=h
 obtain ⟨h1,h2⟩:=P6 left_free hl
 obtain ⟨h3,h4⟩:=Xo hr
 have h3:Js xs=true:=h3
 have h4:RepE (.agg (I2 xs)) q.e:=h4
 refine ⟨?_,clean lv,I2 xs,rfl,h2,by rw [Pz,List.length_map]; exact hx,h4⟩
 show Js (lv :: .v (.bool q.async) :: xs)=true
 rw [Js,Js,h1,h3]; rfl
theorem gG:∀ {es:List AV} {l:List PQ},EqRows es l → Js es=true ∧ EqRows (I2 es) l
 | _,_,.nil=>⟨rfl,.nil⟩
 | _,_,.cons a q r l h h2=>by
  obtain ⟨h1,h3⟩:=isEq_free h
  obtain ⟨h4,h5⟩:=gG h2
  exact ⟨by rw [Js,h1,h4]; rfl,.cons _ _ _ _ h3 h5⟩
theorem isNode_free {v:AV} {n:PN} (h:Jb v n):Lw v=true ∧ Jb (clean v) n:=by
 obtain ⟨a,b,c,d,es,rfl,h1,h2,h3,h4,h5⟩:=h
 obtain ⟨a1,a2⟩:=P6 eJ h1
 obtain ⟨b1,b2⟩:=P6 eJ h2
 obtain ⟨c1,c2⟩:=P6 eJ h3
 obtain ⟨e1,e2⟩:=gG h5
 have hd:Lw d=true ∧ ((clean d=.nils ∧ I2 es=[]) ∨ ∃ tok,clean d=.sl tok 0 8 (I2 es)):=by
  rcases h4 with ⟨rfl,rfl⟩ | ⟨tok,rfl⟩
  ·exact ⟨rfl,.inl ⟨rfl,rfl⟩⟩
  ·exact ⟨e1,.inr ⟨0,rfl⟩⟩
 refine ⟨?_,clean a,clean b,clean c,clean d,I2 es,rfl,a2,b2,c2,hd.2,e2⟩
 show Js (Gg n.name n.pos a b c d)=true
 simp [Gg,Js,Lw,Dl,Bq,a1,b1,c1,hd.1]
theorem Yn:∀ {es:List AV} {l:List PN},NodeRows es l → Js es=true ∧ NodeRows (I2 es) l
 | _,_,.nil=>⟨rfl,.nil⟩
 | _,_,.cons a q r l h h2=>by
  obtain ⟨h1,h3⟩:=isNode_free h
  obtain ⟨h4,h5⟩:=Yn h2
  exact ⟨by rw [Js,h1,h4]; rfl,.cons _ _ _ _ h3 h5⟩
theorem fZ {v:AV} {l:List PN} (h:O1 v l):Lw v=true ∧ O1 (clean v) l:=by
 obtain ⟨tok,off,es,rfl,hn⟩:=h
 obtain ⟨h1,h2⟩:=Yn hn
 exact ⟨h1,0,0,I2 es,rfl,h2⟩
end Go.Ax
noncomputable section
namespace Go.Ax
open Go.RowKit Go.Proofs
open Classical
set_option maxRecDepth 100000
theorem CT.one {E:Env} {k:FuncId} {args:List AV} {S:St} {r r':R} (h:CT E k args S r) (h':CT E k args S r'):r=r':=by
 obtain ⟨m,hm⟩:=h
 obtain ⟨m',hm'⟩:=h'
 rw [← hm (max m m') (by omega),← hm' (max m m') (by omega)]
theorem gR_drop {γ:Gh} {w:World} (hg:GR γ w gR):GR ⟨fun _=>none,γ.im⟩ w gR:=by
 intro g cs h
 have h0:=h
 unfold gR at h
 cases hb:Nat.beq g 5 with
 | false=>rw [hb] at h; cases h
 | true =>
  have:g=5:=Nat.eq_of_beq_eq_true hb
  subst this
  injection h with h; subst h
  refine ⟨?_,fun h2=>absurd h2 (by simp)⟩
  have:=(hg 5 _ rfl).1
  cases this with
  | ep _ b o c h1 h2 hr =>
   refine .ep _ _ _ c h1 h2 (fun k hk=>?_)
   have hr:=hr k hk
   have hk0:k=0:=by simp at hk; exact hk
   subst hk0
   simp only [List.getElem_cons_zero] at hr ⊢
   generalize c 0=z at hr
   cases hr with
   | iface t a x hx =>
    cases hx with
    | ep cs b o c h1 h2 hr=>exact .iface _ _ _ (.ep [] b o c (fun k h=>absurd h (Nat.not_lt_zero k)) (fun _ h=>absurd h List.not_mem_nil) (fun k h=>absurd h (Nat.not_lt_zero k)))
theorem memoCT {k:FuncId} {args:List AV} {r:R} {a:AV} (hct:CT E1 k args St0 r) (hc:Mz r=some a) (hF:(E1.F k).isSome=true) {base:Nat} {w0:World} {γ:Gh} {S:St} {w:World} {vs:List Value}
  (hS:SR base w0 γ S w) (hg:GR γ w gR) (hv:∀ γ:Gh,VRL γ w args vs):Calls Tryz.prog k vs.toArray w (Pa base w0 γ S w (.ret a S)):=by
 cases hr:r with
 | fail=>rw [hr] at hc; cases hc
 | pan a S=>rw [hr] at hc; cases hc
 | ret a1 S1 =>
  rw [hr] at hc
  obtain ⟨m0,hm⟩:=hct
  have hm:=hm m0 (Nat.le_refl _)
  have hS0:SR w.heap.size w ⟨fun _=>none,γ.im⟩ St0 w:=⟨.refl _ _,Nat.le_refl _,fun b o h=>hS.imc b o h,fun _ _=>⟨rfl,rfl⟩,Nat.le_refl _,fun _ _ _ h=>(by cases h),fun _ _ h=>(by cases h),fun _ _ _ _ _ _ _ h=>(by cases h)⟩
  have:=N4 Sq bT (Jc Sq Td) m0 w.heap.size w k args St0 (by show ckN E1 m0 k args St0 ≠ _; rw [hm,hr]; intro e; cases e) _ w vs hS0 (gR_drop hg) (hv _) hF
  rw [show Vy E1 (Db E1) m0 k args St0=.ret a1 S1 from hm.trans hr] at this
  refine this.mono fun e w' he=>?_
  obtain ⟨γ',v,h1,h2,h3,rfl⟩:=he
  cases hf:Lw a1 with
  | false=>simp only [Mz,hf] at hc; cases hc
  | true =>
   simp only [Mz,hf] at hc
   injection hc with hc; subst hc
   have hi:∀ b o,(⟨fun _=>none,fun b o=>γ'.im b o ∧ w.heap.size ≤ b⟩:Gh).im b o → w.heap.size ≤ b ∧ ∃ v,w'.cell? ⟨b,o,none⟩=some v:=fun b o ho=>⟨ho.2,h1.imc b o ho.1⟩
   obtain ⟨q1,q2⟩:=hS.more h1.below hi
   refine ⟨_,v,q1,q2,h3.clean (fun b o ho=>?_) hf,rfl⟩
   by_cases hlt:b < w.heap.size
   ·exact .inl ((h2.frame b hlt (fun id c s hm hl=>by cases hl)).2 o ho)
   ·exact .inr ⟨ho,Nat.le_of_not_lt hlt⟩
def zM (l:List UInt8):R:=if h:∃ r,CT E1 19 [Bq l] St0 r then Classical.choose h else .fail
theorem zL {l:List UInt8} {r:R} (h:CT E1 19 [Bq l] St0 r):zM l=r:=by
 have he:∃ r,CT E1 19 [Bq l] St0 r:=⟨r,h⟩
 unfold zM
 rw [dif_pos he]
 exact (Classical.choose_spec he).one h
def L9 (args:List AV) (S:St):R:=match args with
 | [.v (.string s)]=>match Mz (zM s.data.toList) with
  | some a=>.ret a S
  | none=>.fail
 | _=>.fail
theorem prog_I7 (base:Nat) (w0:World) (args:List AV) (S:St) (hne:L9 args S ≠ .fail) (γ:Gh) (w:World) (vs:List Value) (hS:SR base w0 γ S w) (hg:GR γ w gR) (hv:VRL γ w args vs):Calls Tryz.prog 19 vs.toArray w (Pa base w0 γ S w (L9 args S)):=by
 generalize hr:L9 args S=r at hne ⊢
 unfold L9 at hr
 split at hr
 case h_2=>exact absurd hr.symm hne
 rename_i s
 split at hr
 case h_2=>exact absurd hr.symm hne
 rename_i a ha
 subst hr
 by_cases h:∃ r,CT E1 19 [Bq s.data.toList] St0 r
 ·obtain ⟨r,h⟩:=h
  rw [zL h] at ha
  refine memoCT h ha (by kernel_rfl) hS hg (fun γ'=>?_)
  refine ⟨hv.1,fun k h1 h2=>?_⟩
  match k,h1 with
  | 0,_ =>
   have:=hv.2 0 (by simp) h2
   generalize vs[0]=z at this
   cases this
   exact .v _ rfl
 ·unfold zM at ha
  rw [dif_neg h] at ha
  cases ha
theorem iE {l:List UInt8} {out:(Nat × Nat) ⊕ List Tk} (hsz:l.length ≤ 1000000) (hlx:Kd l=some out) (S:St) :
  (∃ ns v,Jz 70000 out=some (.inl ns) ∧ L9 [Bq l] S=.ret (.tup [v,.agg (Dh 0 0)]) S ∧ O1 v ns) ∨ (∃ y:Nat × Nat,Jz 70000 out=some (.inr y) ∧ L9 [Bq l] S=.ret (.tup [.nils,.agg (Dh y.1 y.2)]) S):=by
 obtain ⟨hok,_⟩:=read_s hlx
 obtain ⟨r,hct,hpost⟩:=lH l St0 (Nat.le_refl _) hsz out hlx 70000 (by omega) hok
 have hp:L9 [Bq l] S=match Mz (zM l) with | some a=>.ret a S | none=>.fail:=rfl
 rw [zL hct] at hp
 cases hx:Jz 70000 out with
 | none=>exact absurd hx hok
 | some x =>
  rw [hx] at hpost
  cases x with
  | inl ns =>
   obtain ⟨v,S',rfl,hi,hk⟩:=hpost
   obtain ⟨h1,h2⟩:=fZ hi
   refine .inl ⟨ns,clean v,rfl,?_,h2⟩
   rw [hp]
   have e:Mz (.ret (.tup [v,.agg (Dh 0 0)]) S')=some (.tup [clean v,.agg (Dh 0 0)]):=by
    have hf:Lw (.tup [v,.agg (Dh 0 0)])=true:=by
     show (Lw v && (Js (Dh 0 0) && true))=true
     rw [h1]; rfl
    simp only [Mz,hf]
    rfl
   rw [e]
  | inr y =>
   obtain ⟨S',rfl,hk⟩:=hpost
   refine .inr ⟨y,rfl,?_⟩
   rw [hp]
   have e:Mz (.ret (.tup [.nils,.agg (Dh y.1 y.2)]) S')=some (.tup [.nils,.agg (Dh y.1 y.2)]):=rfl
   rw [e]
def G7:Gl:=fun g=>Bool.rec (gR g) (some Yd) (Nat.beq g 0)
theorem G7_R {γ:Gh} {w:World} (h:GR γ w G7):GR γ w gR:=by
 intro g cs hg
 have hg':=hg
 unfold gR at hg
 cases hb:Nat.beq g 5 with
 | false=>rw [hb] at hg; cases hg
 | true =>
  have:g=5:=Nat.eq_of_beq_eq_true hb
  subst this
  exact h 5 cs hg'
end Go.Ax
noncomputable section
namespace Go.Ax
open Go.RowKit Go.Proofs
set_option maxRecDepth 100000
def fr (k:Int) (b:Bool):T AV:=(T.leaf.set 0 (some (.v (.int .i64 k)))).set 1 (some (.v (.bool b)))
theorem and_eq (F:Operand → Value) (dst:Option Tmp) (k:Tmp) (c:Int) (ty ty2:TypeId) (pos:String) (af:Array Edge) (gd:Option (Nat × Bool)):execOp F { dst:=dst,op:=.binOp .and 3 (.tmp k) (.const (.int .i64 c)) ty2,type:=ty,pos:=pos,after:=af,guard:=gd }=execOp (dM (F (.tmp k)) (F (.const (.int .i64 c)))) { dst:=none,op:=.binOp .and 3 (.tmp 0) (.tmp 1) 3,type:=ty,pos := "", after:=#[],guard:=none }:=rfl
theorem and_val (a c:Int) (ty:TypeId):Q3 Tryz.prog 4000 (execOp (dM (.int .i64 a) (.int .i64 c)) { dst:=none,op:=.binOp .and 3 (.tmp 0) (.tmp 1) 3,type:=ty,pos := "", after:=#[],guard:=none })=some (.int .i64 (bits .and .i64 a c)):=by kernel_rfl
def andO (r:OR) (S:St) (c:Int) (x:Option AV):OR:=match x with
 | some (.v (.int .i64 a))=>.val (.v (.int .i64 (bits .and .i64 a c))) S
 | _=>r
theorem Zt (r:OR) (S:St) (c a:Int):andO r S c (some (.v (.int .i64 a)))=.val (.v (.int .i64 (bits .and .i64 a c))) S:=_root_.id rfl
theorem W1 (a c:Int):Ei .and (.v (.int .i64 a)) (.v (.int .i64 c))=none:=by simp [Ei]
theorem Uh (f:T AV) (S:St) (dst:Option Tmp) (k:Tmp) (c x:Int) (ty ty2:TypeId) (pos:String) (af:Array Edge) (gd:Option (Nat × Bool)) :
  L1 Tryz.prog G7 f S { dst:=dst,op:=.binOp .and 3 (.tmp k) (.const (.int .i64 c)) ty2,type:=ty,pos:=pos,after:=af,guard:=gd } .and 3 (.v (.int .i64 x)) (.v (.int .i64 c))=andO (gH Tryz.prog G7 f S { dst:=dst,op:=.binOp .and 3 (.tmp k) (.const (.int .i64 c)) ty2,type:=ty,pos:=pos,after:=af,guard:=gd } .and 3 (.v (.int .i64 x)) (.v (.int .i64 c))) S c (f.get k):=by
 unfold andO
 split
 ·rename_i a h1
  have hg1:Dc G7 f (.tmp k)=some (.int .i64 a):=by unfold Dc; simp only [A8,h1]; rfl
  have hg2:Dc G7 f (.const (.int .i64 c))=some (.int .i64 c):=rfl
  have h0:La Tryz.prog .and 3 (.v (.int .i64 x)) (.v (.int .i64 c))=none:=rfl
  unfold L1
  rw [h0]
  simp only
  unfold ground
  have hall:((Op.binOp .and 3 (.tmp k) (.const (.int .i64 c)) ty2:Op).operands.toList.all fun x=>(Dc G7 f x).isSome)=true:=by
   show ([Operand.tmp k,Operand.const (.int .i64 c)].all fun x=>(Dc G7 f x).isSome)=true
   simp only [List.all_cons,List.all_nil,hg1,hg2,Option.isSome_some,Bool.and_self]
  refine (if_pos hall).trans ?_
  rw [and_eq]
  have e1:(Dc G7 f (.tmp k)).getD undef=.int .i64 a:=by rw [hg1]; rfl
  have e2:(Dc G7 f (.const (.int .i64 c))).getD undef=.int .i64 c:=by rw [hg2]; rfl
  simp only [e1,e2,and_val]
  rfl
 ·rfl
theorem bd33:Gn Tryz.prog 33 []=some (.agg (Dh 0 0)):=by kernel_rfl
theorem nn33 (a b:AV):Hz Tryz.prog 33 a b=false:=by
 have u33:(match Tryz.prog.underlying 33 with | some (.struct _)=>true | _=>false)=true:=by kernel_rfl
 unfold Hz
 split at u33
 ·rename_i h; rw [h]
 ·cases u33
def isIntT (P:Program) (t:TypeId):Bool:=match P.underlying t with
 | some (.int _)=>true
 | _=>false
theorem isIntT_spec {P:Program} {t:TypeId} (h:isIntT P t=true):∃ k,P.underlying t=some (.int k):=by
 unfold isIntT at h
 split at h
 ·rename_i k hk; exact ⟨k,hk⟩
 ·cases h
def okFld (P:Program) (f:Field) (o:Nat):Bool:=!decide (f.name = "_") && decide (f.offset=o) && decide (Fq P f.type=some false) && isIntT P f.type
def flds33:Bool:=match fieldsOf Tryz.prog 33 with
 | some fs=>(match fs.toList with
  | [f,g]=>okFld Tryz.prog f 0 && okFld Tryz.prog g 1 && !(Tryz.prog.stoodInHeld 33) && !(Tryz.prog.eqGuardType Tryz.prog.depth 33)
  | _=>false)
 | none=>false
theorem sW:flds33=true:=by kernel_rfl
theorem U8 {P:Program} {f:Field} {o:Nat} (h:okFld P f o=true):f.name ≠ "_" ∧ f.offset=o ∧ Fq P f.type=some false ∧ ∃ k,P.underlying f.type=some (.int k):=by
 unfold okFld at h
 simp only [Bool.and_eq_true,decide_eq_true_eq,Bool.not_eq_true',decide_eq_false_iff_not] at h
 exact ⟨h.1.1.1,h.1.1.2,h.1.2,isIntT_spec h.2⟩
theorem fe33 (a e:Int):La Tryz.prog .eql 33 (.agg [.v (.int .i64 a),.v (.int .i64 e)]) (.agg [.v (.int .i64 0),.v (.int .i64 0)])=some (.v (.bool ((a == 0) && ((e == 0) && true)))):=by
 have h:=sW
 unfold flds33 at h
 split at h
 ·rename_i fs hfs
  split at h
  ·rename_i f g hl
   simp only [Bool.and_eq_true,Bool.not_eq_true'] at h
   obtain ⟨⟨⟨h1,h2⟩,h3⟩,h4⟩:=h
   obtain ⟨f1,f2,f3,k1,f4⟩:=U8 h1
   obtain ⟨g1,g2,g3,k2,g4⟩:=U8 h2
   cases ha:(a == 0) <;> cases he:(e == 0) <;> simp [La,hfs,h3,h4,hl,dZ,f1,f2,f3,g1,g2,g3,nN,f4,g4,ha,he]
  ·cases h
 ·cases h
def Fs {α:Type} (x:PR α):Prop:=∀ a e,x=.bad a e → e ≠ 0
section
variable {α β:Type}
theorem Fs.ok {a:α} {j:Nat}:Fs (.ok a j):=fun _ _ h=>by cases h
theorem Fs.out:Fs (.out:PR α):=fun _ _ h=>by cases h
theorem Fs.bad {a e:Nat} (h:e ≠ 0):Fs (.bad a e:PR α):=fun _ _ h'=>by injection h' with h1 h2; subst h2; exact h
theorem Fs.bind {x:PR α} {f:α → Nat → PR β} (h:Fs x) (hf:∀ a j,Fs (f a j)):Fs (x.bind f):=by
 cases x with
 | ok a j=>exact hf a j
 | bad a e=>exact .bad (h a e rfl)
 | out=>exact .out
theorem Fs.ite {c:Prop} [Decidable c] {x y:PR α} (h1:Fs x) (h2:Fs y):Fs (if c then x else y):=by
 by_cases h:c
 ·rw [if_pos h]; exact h1
 ·rw [if_neg h]; exact h2
end
section
variable {ts:List Tk}
end
theorem fbe33 (x y:List AV):Ei .eql (.agg x) (.agg y)=none:=_root_.id rfl
theorem eq7e (f:T AV) (S:St) (o:Oper) (a e:Nat):L1 Tryz.prog G7 f S o .eql 33 (.agg (Dh a e)) (.agg (Dh 0 0))=.val (.v (.bool (((a:Int) == 0) && (((e:Int) == 0) && true)))) S:=by
 unfold L1
 have h:La Tryz.prog .eql 33 (.agg (Dh a e)) (.agg (Dh 0 0))=some (.v (.bool (((a:Int) == 0) && (((e:Int) == 0) && true)))):=fe33 a e
 rw [h]
theorem eq7ez (f:T AV) (S:St) (o:Oper):L1 Tryz.prog G7 f S o .eql 33 (.agg (Dh 0 0)) (.agg (Dh 0 0))=.val (.v (.bool true)) S:=eq7e f S o 0 0
theorem wB {S:St} {id:Nat} {x0 x1 a b c d:AV} (h:S.mem.get id=some (.box [x0,x1,a,b,c,d])):Ci Tryz.prog S 46 (.ptr id 2)=some a:=by simp [Ci,Dv,h,a46]
theorem ld46_3 {S:St} {id:Nat} {x0 x1 a b c d:AV} (h:S.mem.get id=some (.box [x0,x1,a,b,c,d])):Ci Tryz.prog S 46 (.ptr id 3)=some b:=by simp [Ci,Dv,h,a46]
theorem ld46_4 {S:St} {id:Nat} {x0 x1 a b c d:AV} (h:S.mem.get id=some (.box [x0,x1,a,b,c,d])):Ci Tryz.prog S 46 (.ptr id 4)=some c:=by simp [Ci,Dv,h,a46]
theorem We {v:AV} {es:List AV} (h:Se v es):v.noTup=true:=by
 rcases h with ⟨rfl,rfl⟩ | ⟨tok,off,rfl⟩ <;> rfl
theorem z46:∃ z,L3 Tryz.prog 46=some z:=Option.isSome_iff_exists.1 (by kernel_rfl)
theorem row159 {a b c:AV} {ea eb ec:List AV} (ha:Se a ea) (hb:Se b eb) (hc:Se c ec):Do Tryz.prog 159 3 [(0,a),(1,b),(2,c)]=some (.sl 1 0 1 [a,b,c]):=by
 obtain ⟨z,hz⟩:=z46
 have e:([(0,a),(1,b),(2,c)].map (·.1) == List.range 3)=true:=by rfl
 simp [Do,e159,s46',hz,We ha,We hb,We hc,Qi ha,Qi hb,Qi hc]
 decide
theorem fnOk63:∃ fn,E1.F 63=some fn:=Option.isSome_iff_exists.1 (by kernel_rfl)
theorem all_any {x0 x1 a b c d:AV} {ea eb ec:List AV} (ha:Se a ea) (hb:Se b eb) (hc:Se c ec) (hl:ea.length + eb.length + ec.length ≤ 3000) (S:St) (hS:2 ≤ S.next):WC E1 22 [.agg [x0,x1,a,b,c,d]] S (fun r=>∃ v S',r=.ret v S' ∧ rowN v (ea ++ eb ++ ec) ∧ Keeps S S'):=by
 refine Dt Tryz.f22 (by kernel_rfl) (by kernel_rfl) (by kernel_rfl) (by show (_:Nat) ≤ _;simp [Tryz.f22]) ?_
 obtain ⟨fn1,hf1⟩:=fnOk63
 have g:=Cu S [x0,x1,a,b,c,d]
 have l2:=wB g
 have l3:=ld46_3 g
 have l4:=ld46_4 g
 have hr:=row159 ha hb hc
 have hn:(AV.agg [x0,x1,a,b,c,d]).noTup=true:=rfl
 have hcl:(AV.agg [x0,x1,a,b,c,d]).cells=[x0,x1,a,b,c,d]:=rfl
 simp only [Bw,Bz,Di,Dj,Bp,A6,Cm,Bk,Bn,Bt,D0,C9,B0,A4,C0,C6,Cc,B6,C4,C5,Cv,Bf,A7,Cq,Bd,Bm,Bh,Dx,Bs,Bb,Bl,Ch,C7,C1,A5,Ba,A8,Cd,A0,A1,Bo,B5,ofOpt,ofOptS,A9,Cg,Fd,Bv,Bu,Bj,B7,By,Bg,Cn,Cy,C8,C3,Et,D1,Ey,Dd,B9,Da,Nat.reduceLT,Nat.reduceAdd,Nat.reduceEqDiff,Aa,Ab,reduceIte,Ac,Ad,Ae,Af,Ag,Ah,Ai,Aj,Ak,Al,Am,Ao,Ap,Aq,Ar,Au,Av,Aw,Option.toList,Ay,Az,Tryz.f22,hf1,l2,l3,l4,hr,hn,hcl,nC,dX,fa49_4]
 refine WC.mono (concat_w 1 0 [a,b,c] [ea,eb,ec] ⟨ha,hb,hc,trivial⟩ (by show 3 ≤ 1000; decide) (by simp [Ux]; omega) (S.newBox [x0,x1,a,b,c,d]) (Nat.le_succ_of_le hS)) ?_
 rintro _ ⟨v,S',rfl,hv,hk⟩
 simp only [Bw,Bz,Di,Dj,Bp,A6,Cm,Bk,Bn,Bt,D0,C9,B0,A4,C0,C6,Cc,B6,C4,C5,Cv,Bf,A7,Cq,Bd,Bm,Bh,Dx,Bs,Bb,Bl,Ch,C7,C1,A5,Ba,A8,Cd,A0,A1,Bo,B5,ofOpt,ofOptS,A9,Cg,Fd,Bv,Bu,Bj,B7,By,Bg,Cn,Cy,C8,C3,Et,D1,Ey,Dd,B9,Da,Nat.reduceLT,Nat.reduceAdd,Nat.reduceEqDiff,Aa,Ab,reduceIte,Ac,Ad,Ae,Af,Ag,Ah,Ai,Aj,Ak,Al,Am,Ao,Ap,Aq,Ar,Au,Av,Aw,Option.toList,Ay,Az,Tryz.f22]
 refine ⟨v,S',rfl,by simpa using hv,Nat.le_trans (Nat.le_succ _) hk.1,fun id hid=>(hk.2 id (Nat.lt_succ_of_lt hid)).trans (Fp hid)⟩
def qU:AV → Option (List AV)
 | .nils=>some []
 | .sl _ _ sz es=>Bool.rec none (some es) (Nat.beq sz 6)
 | _=>none
theorem kO {v:AV} {es:List AV} (h:qU v=some es):Se v es:=by
 unfold qU at h
 split at h
 ·injection h with h; subst h; exact .inl ⟨rfl,rfl⟩
 ·rename_i tok off sz es'
  cases hb:Nat.beq sz 6 with
  | false=>rw [hb] at h; cases h
  | true =>
   rw [hb] at h
   injection h with h; subst h
   have:sz=6:=Nat.eq_of_beq_eq_true hb
   subst this
   exact .inr ⟨tok,off,rfl⟩
 ·cases h
def AV.plainC:AV → Bool
 | .agg cs=>cs.all AV.plain
 | a=>a.plain
theorem zQ {es:List AV} (h:es.all AV.plainC=true):∀ a ∈ Ep es,a.plain=true:=by
 intro a ha
 unfold Ep at ha
 rw [List.mem_flatMap] at ha
 obtain ⟨e,he,hae⟩:=ha
 have:=List.all_eq_true.1 h e he
 cases e with
 | agg cs=>exact List.all_eq_true.1 this a hae
 | _=>simp only [AV.cells,List.mem_cons,List.not_mem_nil,or_false] at hae; subst hae; exact this
theorem VR.rowPlain2 {γ γ':Gh} {w:World} {tok off sz:Nat} {es:List AV} {x:Value} (h:VR γ w (.sl tok off sz es) x) (hp:∀ a ∈ Ep es,a.plain=true) (him:∀ b o,γ.im b o → γ'.im b o):VR γ' w (.sl 0 0 sz es) x:=by
 cases h with
 | sl _ _ _ _ b o cap c hsz hes h1 h hr ht hf hc hb =>
  exact .sl 0 0 sz es b o cap c hsz hes h1 (fun k hk=>⟨him _ _ (h k hk).1,(h k hk).2⟩) (fun k hk=>(hr k hk).plain (hp _ (List.getElem_mem hk))) (fun h=>by omega) (fun h=>by omega) hc hb
def rowW (es:List AV):AV:=match es with
 | []=>.nils
 | e :: r=>.sl 0 0 6 (e :: r)
def pU (args:List AV) (S:St):R:=match args with
 | [.agg [x0,x1,a,b,c,d]]=>match qU a,qU b,qU c with
  | some ea,some eb,some ec=>Bool.rec .fail (.ret (rowW (ea ++ eb ++ ec)) S) ((ea ++ eb ++ ec).all AV.plainC && Nat.ble (ea.length + eb.length + ec.length) 3000)
  | _,_,_=>.fail
 | _=>.fail
theorem all_I (base:Nat) (w0:World) (args:List AV) (S:St) (hne:pU args S ≠ .fail) (γ:Gh) (w:World) (vs:List Value) (hS:SR base w0 γ S w) (hg:GR γ w E1.G) (hv:VRL γ w args vs):Calls Tryz.prog 22 vs.toArray w (Pa base w0 γ S w (pU args S)):=by
 generalize hr:pU args S=r at hne ⊢
 unfold pU at hr
 split at hr
 case h_2=>exact absurd hr.symm hne
 rename_i x0 x1 a b c d
 split at hr
 case h_2=>exact absurd hr.symm hne
 rename_i ea eb ec h1 h2 h3
 cases hb:((ea ++ eb ++ ec).all AV.plainC && Nat.ble (ea.length + eb.length + ec.length) 3000) with
 | false=>rw [hb] at hr; exact absurd hr.symm hne
 | true =>
  rw [hb] at hr
  rw [Bool.and_eq_true] at hb
  have hlen:=Nat.le_of_ble_eq_true hb.2
  obtain ⟨r2,⟨m0,hm⟩,v,S',rfl,hrow,hk⟩:=all_any (x0:=x0) (x1:=x1) (d:=d) (kO h1) (kO h2) (kO h3) hlen S hS.pos
  have hc:=hm m0 (Nat.le_refl _)
  have:=N4 Sq bT (Jc Sq Td) m0 base w0 22 [.agg [x0,x1,a,b,c,d]] S (by show ckN E1 m0 22 _ S ≠ _; rw [hc]; exact fun e=>by cases e) γ w vs hS hg hv (by kernel_rfl)
  rw [show Vy E1 (Db E1) m0 22 [.agg [x0,x1,a,b,c,d]] S=_ from hc] at this
  refine this.mono fun x w' hx=>?_
  subst hr
  obtain ⟨γ',y,k1,k2,k3,rfl⟩:=hx
  obtain ⟨q1,q2⟩:=hS.forget k1 k2 hk.2
  refine ⟨_,y,q1,q2,?_,rfl⟩
  rcases hrow with ⟨rfl,he⟩ | ⟨hne2,tok,off,rfl⟩
  ·rw [he]; cases k3; exact .nils
  ·unfold rowW
   cases hes:ea ++ eb ++ ec with
   | nil=>exact absurd hes hne2
   | cons e r =>
    rw [hes] at k3 hb
    exact k3.rowPlain2 (zQ hb.1) (fun _ _ h=>h)
def knownI9 (k:Nat):Option (List AV → St → R):=Bool.rec (Bool.rec (Bool.rec none (some Za) (Nat.beq k 25)) (some L9) (Nat.beq k 19)) (some pU) (Nat.beq k 22)
def E9:Env:={ P:=Tryz.prog,G:=G7,F:=E1.F,I:=knownI9,M:=rowM }
theorem e9_ok:E9.Ok:=⟨fun k fn h=>Sq.fn k fn h⟩
theorem e9_mix:E9.P.follows .mixedOrders=true:=Td
theorem e9_intr:Le E9:=fun k g hk base w0 args S hne γ w vs hS hg hv=>by
 have hk2:(Bool.rec (Bool.rec (Bool.rec none (some Za) (Nat.beq k 25)) (some L9) (Nat.beq k 19)) (some pU) (Nat.beq k 22):Option (List AV → St → R))=some g:=hk
 cases hb:Nat.beq k 22 with
 | true =>
  rw [hb] at hk2
  injection hk2 with hk2; subst hk2
  have:k=22:=Nat.eq_of_beq_eq_true hb
  subst this
  exact all_I base w0 args S hne γ w vs hS (G7_R hg) hv
 | false =>
  rw [hb] at hk2
  cases hc:Nat.beq k 19 with
  | true =>
   rw [hc] at hk2
   injection hk2 with hk2; subst hk2
   have:k=19:=Nat.eq_of_beq_eq_true hc
   subst this
   exact prog_I7 base w0 args S hne γ w vs hS (G7_R hg) hv
  | false =>
   rw [hc] at hk2
   cases hd:Nat.beq k 25 with
   | true =>
    rw [hd] at hk2
    injection hk2 with hk2; subst hk2
    have:k=25:=Nat.eq_of_beq_eq_true hd
    subst this
    exact lex_I base w0 args S hne γ w vs hS (G7_R hg) hv
   | false=>rw [hd] at hk2; cases hk2
theorem Es:E9.P=Tryz.prog:=_root_.id rfl
theorem Lr:E9.G=G7:=_root_.id rfl
theorem i9_19 (args:List AV) (S:St) (Q:R → Prop) (h:Q (L9 args S)):WC E9 19 args S Q:=Nl (g:=L9) (by kernel_rfl) h
theorem i9_22 (args:List AV) (S:St) (Q:R → Prop) (h:Q (pU args S)):WC E9 22 args S Q:=Nl (g:=pU) (by kernel_rfl) h
def eqLn (q:PQ):List UInt8:=eqT q ++ [59,32]
theorem spelt_eqLn {q:PQ} (h:Sa q) {r:List UInt8} {vs:List TK} (hr:SpT r vs):SpT (eqLn q ++ r) (eqJ q ++ vs):=by
 have hend:SpT (59 :: 32 :: r) (sg [59] :: vs):=L5 (s:=[59]) (by decide) (.blank _ _ hr)
 have he:=(uX h.2.1).1 (59 :: 32 :: r) (sg [59] :: vs) (Ww rfl) hend
 have ej:eqJ q ++ vs=Iz q.left ++ sg [61] :: (Vz q ++ sg [59] :: vs):=by unfold eqJ; simp
 rw [ej]
 unfold eqLn eqT Vz
 by_cases ha:q.async=true
 ·rw [if_pos ha,if_pos ha]
  have e:((((J0 q.left ++ [32,61,32]) ++ [97,115,121,110,99,32]) ++ D3 q.e) ++ [59,32]) ++ r=J0 q.left ++ (32 :: ([61] ++ 32 :: (Q1 ++ 32 :: (D3 q.e ++ 59 :: 32 :: r)))):=by simp
  have goal:=Uy h.1 (Q5 _) (.blank _ _ (qM (s:=[61]) (by decide) (Kz (w:=Q1) (by decide) he)))
  rw [← e] at goal
  exact goal
 ·rw [if_neg ha,if_neg ha]
  have e:(((J0 q.left ++ [32,61,32]) ++ D3 q.e) ++ [59,32]) ++ r=J0 q.left ++ (32 :: ([61] ++ 32 :: (D3 q.e ++ 59 :: 32 :: r))):=by simp
  have goal:=Uy h.1 (Q5 _) (.blank _ _ (qM (s:=[61]) (by decide) he))
  rw [← e] at goal
  exact goal
def bN:List PQ → List UInt8
 | []=>[]
 | q :: l=>eqLn q ++ bN l
theorem fG:∀ (l:List PQ),(∀ q ∈ l,Sa q) → ∀ {r:List UInt8} {vs:List TK},SpT r vs → SpT (bN l ++ r) (W3 l ++ vs)
 | [],_,r,vs,h=>h
 | q :: l,he,r,vs,h=>by
  show SpT ((eqLn q ++ bN l) ++ r) ((eqJ q ++ W3 l) ++ vs)
  rw [List.append_assoc,List.append_assoc]
  exact spelt_eqLn (he q (List.mem_cons_self ..)) (fG l (fun x hx=>he x (List.mem_cons_of_mem _ hx)) h)
def P5:List PD → List UInt8
 | []=>[]
 | d :: l=>G6 d ++ 59 :: 32 :: P5 l
theorem Yi:∀ (l:List PD),(∀ d ∈ l,Ju d) → ∀ {r:List UInt8} {vs:List TK},SpT r vs → SpT (P5 l ++ r) (Kk l ++ vs)
 | [],_,r,vs,h=>h
 | d :: l,he,r,vs,h=>by
  have ih:=Yi l (fun x hx=>he x (List.mem_cons_of_mem _ hx)) h
  have e1:P5 (d :: l) ++ r=G6 d ++ 59 :: 32 :: (P5 l ++ r):=by
   show (G6 d ++ 59 :: 32 :: P5 l) ++ r=_
   simp
  have e2:Kk (d :: l) ++ vs=Hb d ++ sg [59] :: (Kk l ++ vs):=by
   show (Hb d ++ sg [59] :: Kk l) ++ vs=_
   simp
  rw [e1,e2]
  exact Xj (he d (List.mem_cons_self ..)) _ _ (Ww rfl) (L5 (s:=[59]) (by decide) (.blank _ _ ih))
def Yx (l:List PD):List UInt8:=match l with
 | []=>[]
 | d :: l=>[118,97,114] ++ 32 :: P5 (d :: l)
theorem uW (l:List PD) (he:∀ d ∈ l,Ju d) {r:List UInt8} {vs:List TK} (h:SpT r vs):SpT (Yx l ++ r) (Pe l ++ vs):=by
 cases l with
 | nil=>exact h
 | cons d l =>
  have e1:Yx (d :: l) ++ r=[118,97,114] ++ 32 :: (P5 (d :: l) ++ r):=by
   show ([118,97,114] ++ 32 :: P5 (d :: l)) ++ r=_
   simp
  have e2:Pe (d :: l) ++ vs=kw [118,97,114] :: (Kk (d :: l) ++ vs):=by unfold Pe; rw [if_neg (by simp)]; rfl
  rw [e1,e2]
  exact Kz (w:=[118,97,114]) (by decide) (Yi (d :: l) he h)
def Lo (n:PN):List UInt8:=[110,111,100,101,32] ++ (n.name ++ ([40] ++ (I1 n.ins [44,32] ++ ([41,32,114,101,116,117,114,110,115,32,40] ++ (I1 n.outs [44,32] ++ ([41,32] ++ (Yx n.vars ++ ([108,101,116,32] ++ (bN n.eqs ++ [116,101,108])))))))))
theorem Z6 {n:PN} (h:GoodNode n) {r:List UInt8} {vs:List TK} (hf:Fol r) (hr:SpT r vs):SpT (Lo n ++ r) (Rx n ++ vs):=by
 have h9:SpT ([116,101,108] ++ r) (kw [116,101,108] :: vs):=fH (w:=[116,101,108]) (by decide) hf hr
 have h8:=fG n.eqs h.eqs h9
 have h7:SpT ([108,101,116] ++ 32 :: (bN n.eqs ++ ([116,101,108] ++ r))) (kw [108,101,116] :: (W3 n.eqs ++ kw [116,101,108] :: vs)):=Kz (w:=[108,101,116]) (by decide) h8
 have h6:=uW n.vars h.vars h7
 have h5:=Qf (T:=G6) (J:=Hb) n.outs (fun d hd=>Xj (h.outs d hd).1) (.blank _ _ h6)
 have h4:SpT ([114,101,116,117,114,110,115] ++ 32 :: _) (kw [114,101,116,117,114,110,115] :: _):=Kz (w:=[114,101,116,117,114,110,115]) (by decide) h5
 have h3:=Qf (T:=G6) (J:=Hb) n.ins (fun d hd=>Xj (h.ins d hd).1) (.blank _ _ h4)
 have h2:SpT (n.name ++ _) (nm n.name :: _):=Sd h.name (fol_l _) h3
 have h1:SpT ([110,111,100,101] ++ 32 :: _) (kw [110,111,100,101] :: _):=Kz (w:=[110,111,100,101]) (by decide) h2
 have ej:Rx n ++ vs=kw [110,111,100,101] :: nm n.name :: (Gr (H8 Hb n.ins) ++ (kw [114,101,116,117,114,110,115] :: (Gr (H8 Hb n.outs) ++ (Pe n.vars ++ (kw [108,101,116] :: (W3 n.eqs ++ (kw [116,101,108] :: vs))))))):=by
  unfold Rx; simp
 have et:Lo n ++ r=[110,111,100,101] ++ 32 :: (n.name ++ 40 :: (Lib.join (n.ins.map G6) [44,32] ++ 41 :: 32 :: ([114,101,116,117,114,110,115] ++ 32 :: 40 :: (Lib.join (n.outs.map G6) [44,32] ++ 41 :: 32 :: (Yx n.vars ++ ([108,101,116] ++ 32 :: (bN n.eqs ++ ([116,101,108] ++ r)))))))):=by
  unfold Lo I1; simp
 rw [ej,et]
 exact h1
def Wl:List PN → List UInt8
 | []=>[]
 | [n]=>Lo n
 | n :: m :: l=>Lo n ++ 32 :: Wl (m :: l)
theorem Z5:∀ (l:List PN),(∀ x ∈ l,GoodNode x) → SpT (Wl l) (fN l)
 | [],_=>.fin
 | [n],h=>by
  have:=Z6 (h n (List.mem_cons_self ..)) (r:=[]) (vs:=[finT]) (fun c q e=>by cases e) .fin
  rw [List.append_nil] at this
  exact this
 | n :: m :: l,h=>Z6 (h n (List.mem_cons_self ..)) (Q5 _) (.blank _ _ (Z5 (m :: l) (fun x hx=>h x (List.mem_cons_of_mem _ hx))))
theorem read_spelt {X:List UInt8} {ns:List PN} (hne:ns ≠ []) (hg:∀ x ∈ ns,GoodNode x) (hs:SpT X (fN ns)) (h4:X.length ≤ 4000):∃ us ms,Kd X=some (.inr us) ∧ Jz 70000 (.inr us)=some (.inl ms) ∧ Each2 Ll ns ms:=by
 obtain ⟨us,hu,hsee⟩:=sp_lex hs h4
 obtain ⟨ms,j,hl,hk,N,hN⟩:=lC hne hg hsee
 refine ⟨us,ms,hu,?_,hl⟩
 have hok:=(read_s hu).1
 have hno:Fg us 70000 0 ≠ .out:=fun e=>hok (by unfold Jz; simp only [e])
 have h1:=Yj (Nat.le_max_right N 70000) 0 hno
 rw [hN _ (Nat.le_max_left N 70000)] at h1
 unfold Jz
 simp only [← h1]
 rw [if_pos hk]
theorem rC {ns:List PN} (hne:ns ≠ []) (hg:∀ x ∈ ns,GoodNode x) (h4:(Wl ns).length ≤ 4000):∃ us ms,Kd (Wl ns)=some (.inr us) ∧ Jz 70000 (.inr us)=some (.inl ms) ∧ Each2 Ll ns ms:=read_spelt hne hg (Z5 ns hg) h4
def Tb (n:Int):PE:=.mk 1 0 n [] false []
theorem mT (n:Int) (h:-9223372036854775808 ≤ n ∧ n ≤ 9223372036854775807):GoodT (Tb n):=.mk _ _ _ _ _ _ (.num n h) (fun e he=>by cases he)
end Go.Ax
noncomputable section
namespace Go.Ax
open Go.RowKit Go.Proofs
set_option maxRecDepth 100000
end Go.Ax
noncomputable section
namespace Go.Ax
open Go.RowKit Go.Proofs
set_option maxRecDepth 100000
end Go.Ax
noncomputable section
namespace Go.Ax
open Go.RowKit Go.Proofs
open Classical
set_option maxRecDepth 100000
def exprR (l:List UInt8):R:=if h:∃ r,CT E1 15 [Bq l] St0 r then Classical.choose h else .fail
def bM (args:List AV) (S:St):R:=match args with
 | [.v (.string s)]=>match Mz (exprR s.data.toList) with
  | some a=>.ret a S
  | none=>.fail
 | _=>.fail
def iZ (v:AV) (e:PE):Prop:=RepE v e ∧ Fit e ∧ G8 e ≤ 1000000
def yE:List AV → Option AV
 | [v]=>if h:∃ e,iZ v e then some (Bq (D3 (Classical.choose h))) else none
 | _=>none
def knownI8 (k:Nat):Option (List AV → St → R):=Bool.rec (Bool.rec none (some (Gy yE)) (Nat.beq k 17)) (some bM) (Nat.beq k 15)
def E8:Env:={ P:=Tryz.prog,G:=G7,F:=E1.F,I:=knownI8,M:=rowM }
end Go.Ax
noncomputable section
namespace Go.Ax
open Go.RowKit Go.Proofs
set_option maxRecDepth 100000
end Go.Ax
noncomputable section
namespace Go.Ax
open Go.RowKit Go.Proofs
set_option maxRecDepth 100000
theorem J1 (S:St) (a:AV) (r:List AV):Ci Tryz.prog S 3 (.ep (a :: r))=some a:=by
 have:Fq Tryz.prog 3=some false:=by kernel_rfl
 simp [Ci,Dv,this]
theorem Tt:∀ {es:List AV} {l:List PE},RepF es l → es.length=l.length
 | _,_,.nil=>rfl
 | _,_,.cons a e r l h h2=>by simp [Tt h2]
theorem Tu:∀ {es:List AV} {l:List PE},RepF es l → ∀ (i:Nat) (h:i < l.length),∃ ys,es[i]? = some (.agg ys) ∧ RepE (.agg ys) l[i]
 | _,_,.nil,i,hi=>absurd hi (Nat.not_lt_zero _)
 | _,_,.cons a e r l h h2,0,hi=>by
  obtain ⟨xs,rfl,_⟩:=h.agg
  exact ⟨xs,rfl,h⟩
 | _,_,.cons a e r l h h2,i + 1,hi=>by
  obtain ⟨ys,h3,h4⟩:=Tu h2 i (by simpa using hi)
  exact ⟨ys,by simpa using h3,by simpa using h4⟩
def RefOk (e:PE):Prop:=∀ (ys:List AV),RepE (.agg ys) e → ∀ S,2 ≤ S.next → WC E8 14 [.agg ys] S (fun r=>∃ S',r=.ret (Bq (D3 e)) S' ∧ En S S')
structure RefK (e:PE):Prop where
 ok:RefOk e
 kind:1 ≤ I0 e ∧ I0 e ≤ 14
 len:(D3 e).length ≤ 1000000000
end Go.Ax
noncomputable section
namespace Go.Ax
open Go.RowKit Go.Proofs
set_option maxRecDepth 100000
end Go.Ax
noncomputable section
namespace Go.Ax
open Go.RowKit Go.Proofs
set_option maxRecDepth 100000
end Go.Ax
noncomputable section
namespace Go.Ax
open Go.RowKit Go.Proofs
set_option maxRecDepth 100000
inductive Few:PE → Prop where
 | mk (kind pos:Nat) (n:Int) (name:List UInt8) (off:Bool) (kids:List PE) (h:kids.length ≤ 1000) (hk:∀ e ∈ kids,Few e):Few (.mk kind pos n name off kids)
theorem K6 (a b:AV):Hz Tryz.prog 4 a b=false:=by
 have h:Tryz.prog.underlying 4=some .bool:=by kernel_rfl
 unfold Hz; rw [h]
theorem Mc (op:BinOp) (a b:Bool):Ei op (.v (.bool a)) (.v (.bool b))=none:=rfl
theorem lx28 {S:St} {id kind pos:Nat} {n:Int} {name:List UInt8} {off:Bool} {kv:AV} (h:S.mem.get id=some (.box (exC kind pos n name off kv))):Ci Tryz.prog S 28 (.ptr id 5)=some kv:=by
 have:Fq Tryz.prog 28=some false:=by kernel_rfl
 simp [Ci,Dv,h,this,exC]
theorem un28:Tryz.prog.underlying 28=some (.slice 30):=by kernel_rfl
theorem len28r (S:St) {v:AV} {l:List PE} (h:RepK v l):F6 Tryz.prog S 28 v=some l.length:=by
 cases h with
 | nil=>simp [F6,un28]
 | row tok off es kids h=>simp [F6,un28,Tt h]
theorem idx28x (tok off:Nat) (es:List AV) (j:Nat) (ys:List AV) (hy:es[j]? = some (.agg ys)):Cl Tryz.prog 28 (.sl tok off 6 es) (.v (.int .i64 (j:Int)))=some (.ep ys):=by
 have e28':Ih Tryz.prog 28=some (none,30):=by kernel_rfl
 have s30':Fm Tryz.prog 30=some 6:=by kernel_rfl
 simp [Cl,e28',s30',hy,AV.cells]
theorem wC (S:St) {cs:List AV} (hl:cs.length=6):Ci Tryz.prog S 30 (.ep cs)=some (.agg cs):=by
 have a30':Fq Tryz.prog 30=some true:=by kernel_rfl
 have s30':Fm Tryz.prog 30=some 6:=by kernel_rfl
 simp [Ci,Dv,a30',s30',hl]
 rw [List.take_of_length_le (by omega)]
end Go.Ax
