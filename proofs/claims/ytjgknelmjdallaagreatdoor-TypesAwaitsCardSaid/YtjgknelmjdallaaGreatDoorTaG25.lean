/- Rn -/
import Derived.Test.YtjgknelmjdallaaGreatDoorTaG24
import Derived.Shelf.Strings.Builder1
import Derived.Shelf.Strings.Builder2
import Derived.OneCell
import Derived.Lib.Hide
import Derived.ProofKit
import Derived.Tactics
import Derived.Deep.RegionHeld3
import Derived.Deep.DeepCutAuto
import Derived.Deep.RegionWith
import Derived.WalkSpells
import Derived.WalkKit
import Derived.OwnWalk
import Derived.IntWalk
import Derived.Test.YtjgknelmjdallaaGreatDoorTaG20
import Derived.Test.YtjgknelmjdallaaGreatDoorTaG21
import Derived.Test.YtjgknelmjdallaaGreatDoorTaG12
import Derived.Test.YtjgknelmjdallaaGreatDoorTaG23
import Derived.Laws.BitsLemmas
import Derived.Laws.Unary
set_option linter.unusedVariables false
set_option linter.unusedSimpArgs false
set_option maxHeartbeats 16000000
noncomputable section
namespace Go.Ax
open Go.RowKit Go.Proofs
theorem W8 {w w':World} {base e size n:Nat} {v:Value} {xs:List Value} (h:w.ownsRow base e size v n xs) (hb:Below w.heap.size w w'):w'.ownsRow base e size v n xs:=by
 refine ⟨h.1,?_⟩
 rcases h.2 with hn | ⟨g,cap,cur,hv,hbg,hg,rest⟩
 ·exact .inl hn
 ·exact .inr ⟨g,cap,cur,hv,hbg,(hb.block g (Array.getElem?_eq_some_iff.1 hg).1).trans hg,rest⟩
def Six (w:World) (b o:Nat) (c0 c1 c2 c3 c4 c5:Value):Prop :=
 w.cell? ⟨b,o,none⟩=some c0 ∧ w.cell? ⟨b,o + 1,none⟩=some c1 ∧ w.cell? ⟨b,o + 2,none⟩=some c2 ∧ w.cell? ⟨b,o + 3,none⟩=some c3 ∧ w.cell? ⟨b,o + 4,none⟩=some c4 ∧ w.cell? ⟨b,o + 5,none⟩=some c5
theorem Six.below {w w':World} {B b o:Nat} {c0 c1 c2 c3 c4 c5:Value} (hb:Below B w w') (h:b < B) (hs:Six w b o c0 c1 c2 c3 c4 c5):Six w' b o c0 c1 c2 c3 c4 c5:=by
 obtain ⟨h0,h1,h2,h3,h4,h5⟩:=hs
 exact ⟨(hb.cell (p:=⟨b,o,none⟩) h).trans h0,(hb.cell (p:=⟨b,o + 1,none⟩) h).trans h1,(hb.cell (p:=⟨b,o + 2,none⟩) h).trans h2,(hb.cell (p:=⟨b,o + 3,none⟩) h).trans h3,(hb.cell (p:=⟨b,o + 4,none⟩) h).trans h4,(hb.cell (p:=⟨b,o + 5,none⟩) h).trans h5⟩
def Blk (w:World) (b T:Nat) (cs:Array Value):Prop:=w.heap[b]? = some (.cells cs T (0,0))
theorem Blk.lt {w:World} {b T:Nat} {cs:Array Value} (h:Blk w b T cs):b < w.heap.size:=lt_of_block h
theorem Blk.cell {w:World} {b T:Nat} {cs:Array Value} (h:Blk w b T cs) {o:Nat} {v:Value} (hv:cs[o]? = some v):w.cell? ⟨b,o,none⟩=some v:=by
 unfold Blk at h
 simp [World.cell?,h,hv]
theorem Blk.new (w:World) (T:Nat) (cs:Array Value):Blk (w.alloc (.cells cs T)) w.heap.size T cs:=heap_alloc_new w _
theorem Blk.same {w w':World} {b T:Nat} {cs:Array Value} (h:Blk w b T cs) (hs:w'.heap[b]? = w.heap[b]?):Blk w' b T cs:=hs.trans h
theorem Blk.below {w w':World} {b T:Nat} {cs:Array Value} (h:Blk w b T cs) (hb:Below w.heap.size w w'):Blk w' b T cs:=h.same (hb.block b h.lt)
theorem Blk.alloc {w:World} {b T:Nat} {cs:Array Value} (h:Blk w b T cs) (o:Obj):Blk (w.alloc o) b T cs:=h.same (heap_alloc_old w _ h.lt)
theorem Blk.other {w:World} {b b' o T:Nat} {cs:Array Value} {x:Value} (h:Blk w b T cs) (hne:b ≠ b'):Blk (w.setCell ⟨b',o,none⟩ x) b T cs :=
 h.same (Below.heap_setCell _ _ _ _ hne)
theorem Blk.set {w:World} {b o T:Nat} {cs:Array Value} (h:Blk w b T cs) (x:Value):Blk (w.setCell ⟨b,o,none⟩ x) b T (cs.setIfInBounds o x):=by
 have hlt:=h.lt
 have h':w.heap[b]=.cells cs T (0,0):=by have:=h; unfold Blk at this; simpa [Array.getElem?_eq_getElem hlt] using this
 show (w.heap.modify b _)[b]? = _
 rw [Array.getElem?_eq_getElem (by simpa using hlt),Array.getElem_modify_self,h']
 rfl
theorem Blk.grown {w w':World} {b T:Nat} {cs:Array Value} {row:Option Nat} (h:Blk w b T cs) (hg:w.grownBy w' row) (hne:row ≠ some b):Blk w' b T cs :=
 h.same (hg.block b h.lt (fun e=>hne e.symm))
theorem size108:(Tryz.prog.info? 108).map (·.size)=some 2:=by kernel_rfl
theorem lies108:liesAt Tryz.prog Tryz.prog.depth 108 (2 / Tryz.prog.cellsOf 108) 0 108 1=true:=by kernel_rfl
theorem infoByte5:(Tryz.prog.info? 5).map (fun i=>(i.zero,i.size,i.bytes))=some (some (.int .u8 0),1,1):=by kernel_rfl
set_option maxRecDepth 100000 in
theorem cc_used (b:Nat) (w:World) (h0:w.cell? ⟨b,0,none⟩=some (.pointer (some ⟨b,0,none⟩))) :
  Calls Tryz.prog 92 #[.pointer (some ⟨b,0,none⟩)] w fun e w'=>e=.returned (.tuple #[]) ∧ w' = w:=by
 obtain ⟨j,hj,_⟩:=Option.map_eq_some_iff.1 size108
 go_enter Tryz.func92,Tryz.ntmps92
 go_wp2
 rw [Lib.run_neq_ptr_same w _ Tryz.underlying106 hj]
 go_wp2
 go_end0
 exact ⟨rfl,rfl⟩
set_option maxRecDepth 100000 in
theorem cc_fresh (b:Nat) (w:World) (h0:w.cell? ⟨b,0,none⟩=some (.pointer none)) (hsh:w.shape? b=some (108,2)) (hfz:w.frozen? ⟨b,0,none⟩=false) :
  Calls Tryz.prog 92 #[.pointer (some ⟨b,0,none⟩)] w fun e w'=>e=.returned (.tuple #[]) ∧ w' = w.setCell ⟨b,0,none⟩ (.pointer (some ⟨b,0,none⟩)):=by
 obtain ⟨j,hj,hjs⟩:=Option.map_eq_some_iff.1 size108
 go_enter Tryz.func92,Tryz.ntmps92
 go_wp2
 rw [Lib.run_to_unsafe w ⟨b,0,none⟩ Tryz.underlying106 Tryz.underlying198 hj (by rw [hjs]; decide) hsh (Nat.zero_lt_succ 1)]
 simp only [Result.andThen]
 rw [Oper.upon_value]
 go_wp2
 rw [run_callFunc_extern Tryz.func130 (by kernel_rfl) (by kernel_rfl) (by kernel_rfl) (e:=Extern.AbiNoEscape.same) (by kernel_rfl)]
 rw [Lib.run_noEscape]
 simp only [Result.andThen]
 rw [Oper.upon_value]
 go_wp2
 rw [Lib.run_from_unsafe w ⟨b,0,none⟩ Tryz.underlying198 Tryz.underlying106 hj hsh lies108]
 simp only [Result.andThen]
 rw [Oper.upon_value]
 go_wp2
 go_end0
 exact ⟨rfl,rfl⟩
theorem cc_any (B b:Nat) (bs:List Value) (w:World) (h:Lib.IsBuilder 108 5 B b bs w) :
  Calls Tryz.prog 92 #[.pointer (some ⟨b,0,none⟩)] w fun e w'=>e=.returned (.tuple #[]) ∧ (Lib.BuilderAt 108 5 B b (.pointer (some ⟨b,0,none⟩)) bs w' ∧ Below B w w' ∧ ∀ k T cs,k ≠ b → Blk w k T cs → Blk w' k T cs):=by
 rcases h with h | h
 ·refine (cc_fresh b w h.cell0 h.shape h.frozen0).mono ?_
  rintro e w' ⟨rfl,rfl⟩
  exact ⟨rfl,h.used _,(Below.refl B w).setCell (p:=⟨b,0,none⟩) h.1 _,fun k T cs hk hb=>hb.other hk⟩
 ·refine (cc_used b w h.cell0).mono ?_
  rintro e w' ⟨rfl,rfl⟩
  exact ⟨rfl,h,Below.refl B _,fun k T cs hk hb=>hb⟩
set_option maxRecDepth 100000 in
theorem write_any (B b:Nat) (bs:List Value) (s:ByteArray) (w:World) (h:Lib.IsBuilder 108 5 B b bs w) (hlen:bs.length + s.size ≤ 140737488355328) (hBw:B ≤ w.heap.size) :
  Calls Tryz.prog 59 #[.pointer (some ⟨b,0,none⟩),.string s] w fun e w'=>e=.returned (.tuple #[.int .i64 s.size,.nilIface]) ∧ (Lib.BuilderAt 108 5 B b (.pointer (some ⟨b,0,none⟩)) (bs ++ Lib.strCells s) w' ∧ Below B w w' ∧ ∀ k T cs,k ≠ b → T ≠ 5 → Blk w k T cs → Blk w' k T cs):=by
 obtain ⟨i0,hi,hz0,hz1,hz2⟩:=info_parts infoByte5
 go_enter Tryz.func59,Tryz.ntmps59
 go_wp2_with fail
 refine (cc_any B b bs _ h).mono ?_
 rintro e w1 ⟨rfl,h1,hb1,hk1⟩
 obtain ⟨hB,v,hbk,hown,hne⟩:=h1
 have c0:w1.cell? ⟨b,0,none⟩=some (.pointer (some ⟨b,0,none⟩)):=by rw [Lib.cell_of_heap hbk]; rfl
 have c1:w1.cell? ⟨b,1,none⟩=some v:=by rw [Lib.cell_of_heap hbk]; rfl
 go_wp2_with (at_builtin; refine Lib.wpList_append_own_string _ rfl _ _ 77 9 rfl B 5 i0 Tryz.underlying77 Tryz.underlying9 hi hz0 hz1 hz2 _ _ _ rfl hown s rfl ?c3 ?c4 ?c5 ?_)
 case c3=>unfold maxLen; omega
 case c4=>omega
 case c5=>have:=hb1.size; omega
 intro v' w2 hown' hgrow _
 have hlt:b < w1.heap.size:=by
  rcases Nat.lt_or_ge b w1.heap.size with h' | h'
  ·exact h'
  ·simp [Array.getElem?_eq_none h'] at hbk
 have hb2:w2.heap[b]? = some (.cells #[.pointer (some ⟨b,0,none⟩),v] 108 (0,0)):=by
  rw [hgrow.block b hlt (fun e=>hne e.symm)]
  exact hbk
 have d0:w2.cell? ⟨b,0,none⟩=some (.pointer (some ⟨b,0,none⟩)):=by rw [Lib.cell_of_heap hb2]; rfl
 have d1:w2.cell? ⟨b,1,none⟩=some v:=by rw [Lib.cell_of_heap hb2]; rfl
 have f1:w2.frozen? ⟨b,1,none⟩=false:=Lib.frozen_of_heap hb2 1
 obtain ⟨ao,n',cap,rfl⟩:∃ ao n' cap,v' = .slice ao n' cap:=by
  rcases hown'.2 with ⟨hv,_⟩ | ⟨g,cap,cur,hv,_⟩
  ·exact ⟨_,_,_,hv⟩
  ·exact ⟨_,_,_,hv⟩
 go_wp2
 go_ret2
 refine ⟨rfl,?_,?_,?_⟩
 ·exact Lib.BuilderAt.put (T:=108) (e:=5) hB hb2 (bs':=bs ++ Lib.strCells s) (by simpa [Lib.strCells_length] using hown') (by decide)
 ·exact (hb1.grown hgrow (by have:=hb1.size; omega) (fun k hk=>(hown.lt k hk).1)).setCell (p:=⟨b,1,none⟩) hB _
 ·intro k T cs hk hT hb
  have hb1':=hk1 k T cs hk hb
  refine Blk.other (hb1'.grown hgrow (fun e=>?_)) hk
  rcases hown.2 with ⟨hv,_⟩ | ⟨g,cap,cur,hv,_,hg,_⟩
  ·subst hv; simp [Value.ownBlock] at e
  ·subst hv
   have:g=k:=by simpa [Value.ownBlock] using e
   subst this
   have h2:=hb1'.symm.trans hg
   injection h2 with h2
   injection h2 with _ h2
   exact hT h2
end Go.Ax
noncomputable section
namespace Go.Ax
open Go.RowKit Go.Proofs
theorem Vt {w w':World} (hb:Below w.heap.size w w'):Ev (GhW w) w (GhW w') w' :=
 ⟨fun _ _ h=>(by cases h),fun b o h=>⟨Nat.lt_of_lt_of_le h.1 hb.size,by obtain ⟨v,hv⟩:=h.2; exact ⟨v,(hb.cell (p:=⟨b,o,none⟩) h.1).trans hv⟩⟩,fun b o v h hv=>(hb.cell (p:=⟨b,o,none⟩) h.1).trans hv,fun b arr T fr h=>⟨arr,fr,(hb.block b (Array.getElem?_eq_some_iff.1 h).1).trans h,rfl⟩⟩
def RdD (w:World) (B:Nat) (v:Value) (es:List PD):Prop:=∃ p c,v=.slice p es.length c ∧ ∃ a,VR (GhW w) w a v ∧ Hl 6 F0 a es
def RdE (w:World) (v:Value) (q:PQ):Prop:=∃ a,VR (GhW w) w a v ∧ Xz a q
theorem RdD.below {w w':World} {B:Nat} {v:Value} {es:List PD} (h:RdD w B v es) (hb:Below w.heap.size w w'):RdD w' B v es:=by
 obtain ⟨p,c,hv,a,h1,h2⟩:=h
 exact ⟨p,c,hv,a,h1.mono (Vt hb),h2⟩
theorem RdE.below {w w':World} {v:Value} {q:PQ} (h:RdE w v q) (hb:Below w.heap.size w w'):RdE w' v q:=by
 obtain ⟨a,h1,h2⟩:=h
 exact ⟨a,h1.mono (Vt hb),h2⟩
structure Nd where
 nm:ByteArray
 pos:Int
 ins:List PD
 outs:List PD
 vars:List PD
 eqs:List PQ
theorem oZ {w w':World} {B b:Nat} {bs:List Value} (h:Lib.IsBuilder 108 5 B b bs w) (hb:Below w.heap.size w w'):Lib.IsBuilder 108 5 B b bs w':=by
 rcases h with ⟨h1,v,h2,h3,h4⟩ | ⟨h1,v,h2,h3,h4⟩
 ·exact Or.inl ⟨h1,v,(hb.block b (Array.getElem?_eq_some_iff.1 h2).1).trans h2,W8 h3 hb,h4⟩
 ·exact Or.inr ⟨h1,v,(hb.block b (Array.getElem?_eq_some_iff.1 h2).1).trans h2,W8 h3 hb,h4⟩
theorem rD (a b:ByteArray):Lib.strCells a ++ Lib.strCells b=Lib.strCells (a ++ b):=by unfold Lib.strCells; simp
def cF (w:World) (nb:Nat) (cs:Array Value) (acc:ByteArray) (wx:World):Prop :=
 Below w.heap.size w wx ∧ Blk wx nb 49 cs ∧ Lib.IsBuilder 108 5 w.heap.size w.heap.size (Lib.strCells acc) wx
theorem cF.write {w wx:World} {nb:Nat} {cs:Array Value} {acc s:ByteArray} (h:cF w nb cs acc wx) (hn:nb ≠ w.heap.size) (hz:acc.size + s.size ≤ 140737488355328) :
  Calls Tryz.prog 59 #[.pointer (some ⟨w.heap.size,0,none⟩),.string s] wx fun e w'=>e=.returned (.tuple #[.int .i64 s.size,.nilIface]) ∧ cF w nb cs (acc ++ s) w' ∧ ∀ k T cs,k ≠ w.heap.size → T ≠ 5 → Blk wx k T cs → Blk w' k T cs:=by
 refine (write_any w.heap.size w.heap.size (Lib.strCells acc) s wx h.2.2 (by rw [Lib.strCells_length]; exact hz) h.1.size).mono ?_
 rintro e w' ⟨rfl,h1,h2,h3⟩
 exact ⟨rfl,⟨h.1.trans h2,h3 _ _ _ hn (by decide) h.2.1,Or.inr (rD acc s ▸ h1)⟩,h3⟩
theorem cF.below {w wx w':World} {nb:Nat} {cs:Array Value} {acc:ByteArray} (h:cF w nb cs acc wx) (hb:Below wx.heap.size wx w'):cF w nb cs acc w' :=
 ⟨h.1.trans (hb.mono h.1.size),h.2.1.below hb,oZ h.2.2 hb⟩
theorem cF.drew {w wx:World} {nb:Nat} {cs:Array Value} {acc:ByteArray} (h:cF w nb cs acc wx):cF w nb cs acc wx.drew:=h.below ((Below.refl _ _).drew)
end Go.Ax
noncomputable section
namespace Go.Ax
open Go.RowKit Go.Proofs
set_option maxRecDepth 100000
theorem NodeRows.at:∀ {es:List AV} {l:List PN},NodeRows es l → es.length=l.length ∧ ∀ i (h:i < l.length),∃ x,es[i]? = some x ∧ Kg x l[i]
 | _,_,.nil=>⟨rfl,fun i h=>absurd h (Nat.not_lt_zero i)⟩
 | _,_,.cons a q r l h h2=>⟨by simp [h2.at.1],fun i hi=>by
  cases i with
  | zero=>exact ⟨a,rfl,h⟩
  | succ i=>exact h2.at.2 i (by simpa using hi)⟩
theorem EqRows.at:∀ {es:List AV} {l:List PQ},EqRows es l → es.length=l.length ∧ ∀ i (h:i < l.length),∃ x,es[i]? = some x ∧ Xz x l[i]
 | _,_,.nil=>⟨rfl,fun i h=>absurd h (Nat.not_lt_zero i)⟩
 | _,_,.cons a q r l h h2=>⟨by simp [h2.at.1],fun i hi=>by
  cases i with
  | zero=>exact ⟨a,rfl,h⟩
  | succ i=>exact h2.at.2 i (by simpa using hi)⟩
theorem To {l:List (List UInt8 × Nat)} (h:uB l) {r:List UInt8} {vs:List TK} (hf:Fol r) (hr:SpT r vs):SpT (Kd l ++ r) (Iq l ++ vs):=by
 match l,h with
 | [x],h =>
  have e:Kd [x]=x.1:=by
   unfold Kd
   rw [if_neg (by simp)]
   exact Lib.join_one _ _
  rw [e]
  exact Rb (h.2 x (by simp)) hf hr
 | x :: y :: q,h =>
  have e:Kd (x :: y :: q) ++ r=40 :: (Lib.join ((x :: y :: q).map (·.1)) [44,32] ++ 41 :: r):=by
   unfold Kd
   rw [if_pos (by simp)]
   simp
  have e2:Iq (x :: y :: q)=Gn (Hw Sn (x :: y :: q)):=by unfold Iq; rw [if_pos (by simp)]
  rw [e,e2]
  exact Pl (T:=fun x=>x.1) (J:=Sn) (x :: y :: q) (fun z hz r vs hf hr=>Rb (h.2 z hz) hf hr) hr
def P9 {α:Type} (G:α → Prop) (k:Nat) (l:List α) (j:Nat):Prop:=(∀ x ∈ l,G x) ∧ l.length + k ≤ j
theorem P9.snoc {α:Type} {G:α → Prop} {k i j:Nat} {l:List α} {a:α} (h:P9 G k l i) (ha:G a) (hij:i < j):P9 G k (l ++ [a]) j :=
 ⟨fun x hx=>by simp at hx; rcases hx with hx | rfl; exact h.1 _ hx; exact ha,by have:=h.2; simp; omega⟩
theorem P9.one {α:Type} {G:α → Prop} {k j:Nat} {a:α} (ha:G a) (hij:k < j):P9 G k [a] j:=⟨fun x hx=>by simp at hx; subst hx; exact ha,by simp; omega⟩
def zW (j:Nat) (q:PQ):Prop:=q.left.length ≤ j ∧ (∀ x ∈ q.left,x.1.length ≤ 30) ∧ Fit q.e ∧ G0 q.e ≤ j
theorem zW.mono {i j:Nat} {q:PQ} (h:zW i q) (hij:i ≤ j):zW j q:=⟨Nat.le_trans h.1 hij,h.2.1,h.2.2.1,Nat.le_trans h.2.2.2 hij⟩
def cG (j:Nat) (n:PN):Prop:=(n.ins.length ≤ j ∧ ∀ x ∈ n.ins,Uk x) ∧ (n.outs.length ≤ j ∧ ∀ x ∈ n.outs,Uk x) ∧ (n.vars.length ≤ j ∧ ∀ x ∈ n.vars,Uk x) ∧ n.eqs.length ≤ j ∧ (∀ q ∈ n.eqs,zW j q) ∧ n.name.length ≤ 30
theorem cG.mono {i j:Nat} {n:PN} (h:cG i n) (hij:i ≤ j):cG j n:=⟨⟨Nat.le_trans h.1.1 hij,h.1.2⟩,⟨Nat.le_trans h.2.1.1 hij,h.2.1.2⟩,⟨Nat.le_trans h.2.2.1.1 hij,h.2.2.1.2⟩,Nat.le_trans h.2.2.2.1 hij,fun q hq=>(h.2.2.2.2.1 q hq).mono hij,h.2.2.2.2.2⟩
section
variable {ts:List Tk} (hts:NameOk ts)
include hts
omit hts in
omit hts in
omit hts in
end
end Go.Ax
noncomputable section
namespace Go.Ax
open Go.RowKit Go.Proofs
set_option maxRecDepth 100000
end Go.Ax
noncomputable section
namespace Go.Ax
open Go.RowKit Go.Proofs
set_option maxRecDepth 100000
theorem Each2.len {α β:Type} {R:α → β → Prop}:∀ {l:List α} {m:List β},Each2 R l m → l.length=m.length
 | _,_,.nil=>rfl
 | _,_,.cons a b l m h h2=>by rw [List.length_cons,List.length_cons,h2.len]
theorem Each2.mem {α β:Type} {R:α → β → Prop}:∀ {l:List α} {m:List β},Each2 R l m → ∀ b ∈ m,∃ a ∈ l,R a b
 | _,_,.cons a b l m h h2,x,hx=>by
  rcases List.mem_cons.1 hx with rfl | hx
  ·exact ⟨a,List.mem_cons_self ..,h⟩
  ·obtain ⟨y,hy,hr⟩:=h2.mem x hx
   exact ⟨y,List.mem_cons_of_mem _ hy,hr⟩
end Go.Ax
noncomputable section
namespace Go.Ax
open Go.RowKit
mutual
def clean:AV → AV
 | .sl _ _ sz es=>.sl 0 0 sz (Iv es)
 | .agg cs=>.agg (Iv cs)
 | .tup vs=>.tup (Iv vs)
 | .v x=>.v x
 | .nilp=>.nilp
 | .nils=>.nils
 | .nilm=>.nilm
 | .ptr a b=>.ptr a b
 | .ep cs=>.ep cs
 | .map id=>.map id
 | .fn f a b=>.fn f a b
 | .iface t x=>.iface t x
 | .bs a b c d=>.bs a b c d
def Iv:List AV → List AV
 | []=>[]
 | a :: r=>clean a :: Iv r
end
mutual
def Lg:AV → Bool
 | .sl _ _ _ es=>Jk es
 | .agg cs=>Jk cs
 | .tup vs=>Jk vs
 | .v _=>true
 | .nilp=>true
 | .nils=>true
 | .nilm=>true
 | .ptr _ _=>false
 | .ep _=>false
 | .map _=>false
 | .fn _ _ _=>false
 | .iface _ _=>false
 | .bs _ _ _ _=>false
def Jk:List AV → Bool
 | []=>true
 | a :: r=>Lg a && Jk r
end
theorem O8:∀ es,Iv es=es.map clean
 | []=>rfl
 | a :: r=>by rw [Iv,O8 r]; rfl
theorem Sw:∀ {es},Jk es=true → ∀ a ∈ es,Lg a=true
 | [],_,a,h=>by cases h
 | b :: r,h,a,ha=>by
  rw [Jk,Bool.and_eq_true] at h
  rcases List.mem_cons.1 ha with rfl | ha
  ·exact h.1
  ·exact Sw h.2 a ha
theorem qC (a:AV):(clean a).one=a.one:=by cases a <;> rfl
theorem dO (a:AV):(clean a).cells=a.cells.map clean:=by
 cases a <;> first | rfl | skip
 ·show Iv _=_; rw [O8]; rfl
theorem Uc:∀ es:List AV,El (es.map clean)=(El es).map clean
 | []=>rfl
 | a :: r=>by
  unfold El
  rw [List.map_cons,List.flatMap_cons,List.flatMap_cons,List.map_append,dO]
  have:=Uc r
  unfold El at this
  rw [this]
theorem yK {a:AV} (h:Lg a=true):∀ c ∈ a.cells,Lg c=true:=by
 cases a with
 | agg cs=>exact Sw h
 | _=>intro c hc; simp only [AV.cells,List.mem_cons,List.not_mem_nil,or_false] at hc; subst hc; exact h
theorem free_flat {es:List AV} (h:Jk es=true):∀ c ∈ El es,Lg c=true:=by
 intro c hc
 unfold El at hc
 rw [List.mem_flatMap] at hc
 obtain ⟨e,he,hce⟩:=hc
 exact yK (Sw h e he) c hce
theorem VR.clean {γ γ':Gh} {w:World} (him:∀ b o,γ.im b o → γ'.im b o) {a:AV} {x:Value} (h:VR γ w a x):Lg a=true → VR γ' w (Go.Ax.clean a) x:=by
 induction h with
 | v x h=>intro _; exact .v x h
 | nilp=>intro _; exact .nilp
 | ptr id off b s h=>intro hf; cases hf
 | ep cs b o c h h1 hr ih=>intro hf; cases hf
 | nils=>intro _; exact .nils
 | sl tok off sz es b o cap c hsz hes h1 h hr ht hf2 hc hb ih =>
  intro hf
  have hf:Jk es=true:=hf
  show VR γ' w (.sl 0 0 sz (Iv es)) _
  rw [O8]
  have hlen:(El (es.map Go.Ax.clean)).length=(El es).length:=by rw [Uc,List.length_map]
  have key:=VR.sl (γ:=γ') (w:=w) 0 0 sz (es.map Go.Ax.clean) b o cap c hsz (fun e he=>by
    obtain ⟨e',he',rfl⟩:=List.mem_map.1 he
    rw [dO,List.length_map]; exact hes e' he') (fun y hy=>by
    rw [Uc] at hy
    obtain ⟨y',hy',rfl⟩:=List.mem_map.1 hy
    rw [qC]; exact h1 y' hy') (fun k hk=>⟨him _ _ (h k (by rw [← hlen]; exact hk)).1,(h k (by rw [← hlen]; exact hk)).2⟩) (fun k hk=>by
    have hk':k < (El es).length:=by rw [← hlen]; exact hk
    have:=ih k hk' (free_flat hf _ (List.getElem_mem hk'))
    have e:(El (es.map Go.Ax.clean))[k]=Go.Ax.clean (El es)[k]:=by
     simp only [Uc,List.getElem_map]
    rw [e]; exact this) (fun h=>by omega) (fun h=>by omega) (by rw [List.length_map]; exact hc) hb
  rw [List.length_map] at key
  exact key
 | nilm=>intro _; exact .nilm
 | map id b s h=>intro hf; cases hf
 | fn f first caps x y hx hy h1 h2 ih1 ih2=>intro hf; cases hf
 | iface t a x h ih=>intro hf; cases hf
 | agg cs x hx h1 h ih =>
  intro hf
  have hf:Jk cs=true:=hf
  show VR γ' w (.agg (Iv cs)) _
  rw [O8]
  refine .agg _ x (by rw [hx,List.length_map]) (fun a ha=>?_) (fun k hk hk'=>?_)
  ·obtain ⟨a',ha',rfl⟩:=List.mem_map.1 ha
   rw [qC]; exact h1 a' ha'
  ·rw [List.getElem_map]
   have hk2:k < cs.length:=by rw [List.length_map] at hk; exact hk
   exact ih k hk2 hk' (Sw hf _ (List.getElem_mem hk2))
 | tup vs x hx h ih =>
  intro hf
  have hf:Jk vs=true:=hf
  show VR γ' w (.tup (Iv vs)) _
  rw [O8]
  refine .tup _ x (by rw [hx,List.length_map]) (fun k hk hk'=>?_)
  rw [List.getElem_map]
  have hk2:k < vs.length:=by rw [List.length_map] at hk; exact hk
  exact ih k hk2 hk' (Sw hf _ (List.getElem_mem hk2))
 | bs id off n2 sz b s cap h hc hsz hb=>intro hf; cases hf
def Gh.more (γ γ1:Gh):Gh:={ γ with im:=fun b o=>γ.im b o ∨ γ1.im b o }
theorem SR.more {base:Nat} {w0 w w':World} {γ γ1:Gh} {S:St} (h:SR base w0 γ S w) (hb:Below w.heap.size w w') (hi:∀ b o,γ1.im b o → w.heap.size ≤ b ∧ ∃ v,w'.cell? ⟨b,o,none⟩=some v):SR base w0 (γ.more γ1) S w' ∧ Ext γ S w (γ.more γ1) S w':=by
 have hc:∀ b o v,w.cell? ⟨b,o,none⟩=some v → w'.cell? ⟨b,o,none⟩=some v:=fun b o v hv=>(hb.cell (World.block_lt_of_cell? w _ hv)).trans hv
 have ev:Ev γ w (γ.more γ1) w':=⟨fun _ _ h=>h,fun _ _ h=>.inl h,fun b o v _ hv=>hc b o v hv,fun b arr T fr ha=>⟨arr,fr,(hb.block b (Array.getElem?_eq_some_iff.1 ha).1).trans ha,rfl⟩⟩
 have him:∀ b,b < w.heap.size → ∀ o,(γ.more γ1).im b o → γ.im b o:=fun b hlt o ho=>ho.elim id (fun h=>by have:=(hi b o h).1; omega)
 refine ⟨⟨h.below.trans (hb.mono h.hbase),Nat.le_trans h.hbase hb.size,fun b o ho=>?_,h.fresh,h.pos,fun id b s e=>Nat.lt_of_lt_of_le (h.inb id b s e) hb.size,fun id c e=>?_,h.inj⟩,
  ⟨ev,Nat.le_refl _,fun _ _=>rfl,hb.size,fun id c b s h l=>.inr ⟨id,c,s,h,l⟩,fun b hl _=>⟨hb.block b hl,him b hl⟩⟩⟩
 ·rcases ho with ho | ho
  ·obtain ⟨v,hv⟩:=h.imc b o ho; exact ⟨v,hc b o v hv⟩
  ·exact (hi b o ho).2
 ·obtain ⟨b,s,h1,h2,h3⟩:=h.live id c e
  exact ⟨b,s,h1,h2,h3.keep ev (hb.block b (h.inb id b s h1)) (fun o=>him b (h.inb id b s h1) o)⟩
def Mf:R → Option AV
 | .ret a _=>Bool.rec none (some (clean a)) (Lg a)
 | _=>none
end Go.Ax
noncomputable section
namespace Go.Ax
open Go.RowKit Go.Proofs
set_option maxRecDepth 100000
mutual
theorem Wh:∀ {a:AV} {e:PE},RepE a e → Lg a=true ∧ RepE (clean a) e
 | _,_,.mk kind pos n name off kv kids h=>by
  obtain ⟨h1,h2⟩:=repK_free h
  refine ⟨?_,.mk kind pos n name off (clean kv) kids h2⟩
  show Jk (exC kind pos n name off kv)=true
  simp [exC,Jk,Lg,Dl,Cl,h1]
theorem repK_free:∀ {a:AV} {l:List PE},RepK a l → Lg a=true ∧ RepK (clean a) l
 | _,_,.nil=>⟨rfl,.nil⟩
 | _,_,.row tok off es kids h=>by
  obtain ⟨h1,h2⟩:=nV h
  exact ⟨h1,.row 0 0 (Iv es) kids h2⟩
theorem nV:∀ {es:List AV} {l:List PE},RepF es l → Jk es=true ∧ RepF (Iv es) l
 | _,_,.nil=>⟨rfl,.nil⟩
 | _,_,.cons a e r l h h2=>by
  obtain ⟨h1,h3⟩:=Wh h
  obtain ⟨h4,h5⟩:=nV h2
  exact ⟨by rw [Jk,h1,h4]; rfl,.cons (clean a) e (Iv r) l h3 h5⟩
end
theorem Pe {α:Type} {sz:Nat} {A:α → AV} (hA:∀ x,Lg (A x)=true ∧ clean (A x)=A x) {a:AV} {l:List α} (h:Hl sz A a l):Lg a=true ∧ Hl sz A (clean a) l:=by
 rcases h with ⟨rfl,rfl⟩ | ⟨tok,off,rfl⟩
 ·exact ⟨rfl,.inl ⟨rfl,rfl⟩⟩
 ·have key:∀ l:List α,Jk (l.map A)=true ∧ Iv (l.map A)=l.map A:=fun l=>by
   induction l with
   | nil=>exact ⟨rfl,rfl⟩
   | cons x r ih=>rw [List.map_cons]; exact ⟨by rw [Jk,(hA x).1,ih.1]; rfl,by rw [Iv,(hA x).2,ih.2]⟩
  refine ⟨(key l).1,.inr ⟨0,0,?_⟩⟩
  show AV.sl 0 0 sz (Iv (l.map A))=_
  rw [(key l).2]
theorem bY (d:PD):Lg (F0 d)=true ∧ clean (F0 d)=F0 d:=⟨rfl,rfl⟩
theorem left_free (d:List UInt8 × Nat):Lg (G6 d)=true ∧ clean (G6 d)=G6 d:=⟨rfl,rfl⟩
theorem isEq_free {v:AV} {q:PQ} (h:Xz v q):Lg v=true ∧ Xz (clean v) q:=by
 obtain ⟨lv,xs,rfl,hl,hx,hr⟩:=h
 obtain ⟨h1,h2⟩:=Pe left_free hl
 obtain ⟨h3,h4⟩:=Wh hr
 have h3:Jk xs=true:=h3
 have h4:RepE (.agg (Iv xs)) q.e:=h4
 refine ⟨?_,clean lv,Iv xs,rfl,h2,by rw [O8,List.length_map]; exact hx,h4⟩
 show Jk (lv :: .v (.bool q.async) :: xs)=true
 rw [Jk,Jk,h1,h3]; rfl
theorem dK:∀ {es:List AV} {l:List PQ},EqRows es l → Jk es=true ∧ EqRows (Iv es) l
 | _,_,.nil=>⟨rfl,.nil⟩
 | _,_,.cons a q r l h h2=>by
  obtain ⟨h1,h3⟩:=isEq_free h
  obtain ⟨h4,h5⟩:=dK h2
  exact ⟨by rw [Jk,h1,h4]; rfl,.cons _ _ _ _ h3 h5⟩
theorem xP {v:AV} {n:PN} (h:Kg v n):Lg v=true ∧ Kg (clean v) n:=by
 obtain ⟨a,b,c,d,es,rfl,h1,h2,h3,h4,h5⟩:=h
 obtain ⟨a1,a2⟩:=Pe bY h1
 obtain ⟨b1,b2⟩:=Pe bY h2
 obtain ⟨c1,c2⟩:=Pe bY h3
 obtain ⟨e1,e2⟩:=dK h5
 have hd:Lg d=true ∧ ((clean d=.nils ∧ Iv es=[]) ∨ ∃ tok,clean d=.sl tok 0 8 (Iv es)):=by
  rcases h4 with ⟨rfl,rfl⟩ | ⟨tok,rfl⟩
  ·exact ⟨rfl,.inl ⟨rfl,rfl⟩⟩
  ·exact ⟨e1,.inr ⟨0,rfl⟩⟩
 refine ⟨?_,clean a,clean b,clean c,clean d,Iv es,rfl,a2,b2,c2,hd.2,e2⟩
 show Jk (Ge n.name n.pos a b c d)=true
 simp [Ge,Jk,Lg,Dl,Cl,a1,b1,c1,hd.1]
theorem Xa:∀ {es:List AV} {l:List PN},NodeRows es l → Jk es=true ∧ NodeRows (Iv es) l
 | _,_,.nil=>⟨rfl,.nil⟩
 | _,_,.cons a q r l h h2=>by
  obtain ⟨h1,h3⟩:=xP h
  obtain ⟨h4,h5⟩:=Xa h2
  exact ⟨by rw [Jk,h1,h4]; rfl,.cons _ _ _ _ h3 h5⟩
theorem dE {v:AV} {l:List PN} (h:O0 v l):Lg v=true ∧ O0 (clean v) l:=by
 obtain ⟨tok,off,es,rfl,hn⟩:=h
 obtain ⟨h1,h2⟩:=Xa hn
 exact ⟨h1,0,0,Iv es,rfl,h2⟩
end Go.Ax
noncomputable section
namespace Go.Ax
open Go.RowKit Go.Proofs
open Classical
set_option maxRecDepth 100000
theorem CT.one {E:Env} {k:FuncId} {args:List AV} {S:St} {r r':R} (h:CT E k args S r) (h':CT E k args S r'):r=r':=by
 obtain ⟨m,hm⟩:=h
 obtain ⟨m',hm'⟩:=h'
 rw [← hm (max m m') (by omega),← hm' (max m m') (by omega)]
theorem gR_drop {γ:Gh} {w:World} (hg:GR γ w gR):GR ⟨fun _=>none,γ.im⟩ w gR:=by
 intro g cs h
 have h0:=h
 unfold gR at h
 cases hb:Nat.beq g 5 with
 | false=>rw [hb] at h; cases h
 | true =>
  have:g=5:=Nat.eq_of_beq_eq_true hb
  subst this
  injection h with h; subst h
  refine ⟨?_,fun h2=>absurd h2 (by simp)⟩
  have:=(hg 5 _ rfl).1
  cases this with
  | ep _ b o c h1 h2 hr =>
   refine .ep _ _ _ c h1 h2 (fun k hk=>?_)
   have hr:=hr k hk
   have hk0:k=0:=by simp at hk; exact hk
   subst hk0
   simp only [List.getElem_cons_zero] at hr ⊢
   generalize c 0=z at hr
   cases hr with
   | iface t a x hx =>
    cases hx with
    | ep cs b o c h1 h2 hr=>exact .iface _ _ _ (.ep [] b o c (fun k h=>absurd h (Nat.not_lt_zero k)) (fun _ h=>absurd h List.not_mem_nil) (fun k h=>absurd h (Nat.not_lt_zero k)))
theorem memoCT {k:FuncId} {args:List AV} {r:R} {a:AV} (hct:CT E1 k args St0 r) (hc:Mf r=some a) (hF:(E1.F k).isSome=true) {base:Nat} {w0:World} {γ:Gh} {S:St} {w:World} {vs:List Value}
  (hS:SR base w0 γ S w) (hg:GR γ w gR) (hv:∀ γ:Gh,VRL γ w args vs):Calls Tryz.prog k vs.toArray w (Oi base w0 γ S w (.ret a S)):=by
 cases hr:r with
 | fail=>rw [hr] at hc; cases hc
 | pan a S=>rw [hr] at hc; cases hc
 | ret a1 S1 =>
  rw [hr] at hc
  obtain ⟨m0,hm⟩:=hct
  have hm:=hm m0 (Nat.le_refl _)
  have hS0:SR w.heap.size w ⟨fun _=>none,γ.im⟩ St0 w:=⟨.refl _ _,Nat.le_refl _,fun b o h=>hS.imc b o h,fun _ _=>⟨rfl,rfl⟩,Nat.le_refl _,fun _ _ _ h=>(by cases h),fun _ _ h=>(by cases h),fun _ _ _ _ _ _ _ h=>(by cases h)⟩
  have:=Nc Rn Zw (I4 Rn R0) m0 w.heap.size w k args St0 (by show ckN E1 m0 k args St0 ≠ _; rw [hm,hr]; intro e; cases e) _ w vs hS0 (gR_drop hg) (hv _) hF
  rw [show Us E1 (Da E1) m0 k args St0=.ret a1 S1 from hm.trans hr] at this
  refine this.mono fun e w' he=>?_
  obtain ⟨γ',v,h1,h2,h3,rfl⟩:=he
  cases hf:Lg a1 with
  | false=>simp only [Mf,hf] at hc; cases hc
  | true =>
   simp only [Mf,hf] at hc
   injection hc with hc; subst hc
   have hi:∀ b o,(⟨fun _=>none,fun b o=>γ'.im b o ∧ w.heap.size ≤ b⟩:Gh).im b o → w.heap.size ≤ b ∧ ∃ v,w'.cell? ⟨b,o,none⟩=some v:=fun b o ho=>⟨ho.2,h1.imc b o ho.1⟩
   obtain ⟨q1,q2⟩:=hS.more h1.below hi
   refine ⟨_,v,q1,q2,h3.clean (fun b o ho=>?_) hf,rfl⟩
   by_cases hlt:b < w.heap.size
   ·exact .inl ((h2.frame b hlt (fun id c s hm hl=>by cases hl)).2 o ho)
   ·exact .inr ⟨ho,Nat.le_of_not_lt hlt⟩
def vX (l:List UInt8):R:=if h:∃ r,CT E1 19 [Cl l] St0 r then Classical.choose h else .fail
theorem vW {l:List UInt8} {r:R} (h:CT E1 19 [Cl l] St0 r):vX l=r:=by
 have he:∃ r,CT E1 19 [Cl l] St0 r:=⟨r,h⟩
 unfold vX
 rw [dif_pos he]
 exact (Classical.choose_spec he).one h
def Mi (args:List AV) (S:St):R:=match args with
 | [.v (.string s)]=>match Mf (vX s.data.toList) with
  | some a=>.ret a S
  | none=>.fail
 | _=>.fail
theorem prog_I7 (base:Nat) (w0:World) (args:List AV) (S:St) (hne:Mi args S ≠ .fail) (γ:Gh) (w:World) (vs:List Value) (hS:SR base w0 γ S w) (hg:GR γ w gR) (hv:VRL γ w args vs):Calls Tryz.prog 19 vs.toArray w (Oi base w0 γ S w (Mi args S)):=by
 generalize hr:Mi args S=r at hne ⊢
 unfold Mi at hr
 split at hr
 case h_2=>exact absurd hr.symm hne
 rename_i s
 split at hr
 case h_2=>exact absurd hr.symm hne
 rename_i a ha
 subst hr
 by_cases h:∃ r,CT E1 19 [Cl s.data.toList] St0 r
 ·obtain ⟨r,h⟩:=h
  rw [vW h] at ha
  refine memoCT h ha (by kernel_rfl) hS hg (fun γ'=>?_)
  refine ⟨hv.1,fun k h1 h2=>?_⟩
  match k,h1 with
  | 0,_ =>
   have:=hv.2 0 (by simp) h2
   generalize vs[0]=z at this
   cases this
   exact .v _ rfl
 ·unfold vX at ha
  rw [dif_neg h] at ha
  cases ha
theorem rU {l:List UInt8} {out:(Nat × Nat) ⊕ List Tk} (hsz:l.length ≤ 1000000) (hlx:Kc l=some out) (S:St) :
  (∃ ns v,Jv 70000 out=some (.inl ns) ∧ Mi [Cl l] S=.ret (.tup [v,.agg (Dg 0 0)]) S ∧ O0 v ns) ∨ (∃ y:Nat × Nat,Jv 70000 out=some (.inr y) ∧ Mi [Cl l] S=.ret (.tup [.nils,.agg (Dg y.1 y.2)]) S):=by
 obtain ⟨hok,_⟩:=read_s hlx
 obtain ⟨r,hct,hpost⟩:=iQ l St0 (Nat.le_refl _) hsz out hlx 70000 (by omega) hok
 have hp:Mi [Cl l] S=match Mf (vX l) with | some a=>.ret a S | none=>.fail:=rfl
 rw [vW hct] at hp
 cases hx:Jv 70000 out with
 | none=>exact absurd hx hok
 | some x =>
  rw [hx] at hpost
  cases x with
  | inl ns =>
   obtain ⟨v,S',rfl,hi,hk⟩:=hpost
   obtain ⟨h1,h2⟩:=dE hi
   refine .inl ⟨ns,clean v,rfl,?_,h2⟩
   rw [hp]
   have e:Mf (.ret (.tup [v,.agg (Dg 0 0)]) S')=some (.tup [clean v,.agg (Dg 0 0)]):=by
    have hf:Lg (.tup [v,.agg (Dg 0 0)])=true:=by
     show (Lg v && (Jk (Dg 0 0) && true))=true
     rw [h1]; rfl
    simp only [Mf,hf]
    rfl
   rw [e]
  | inr y =>
   obtain ⟨S',rfl,hk⟩:=hpost
   refine .inr ⟨y,rfl,?_⟩
   rw [hp]
   have e:Mf (.ret (.tup [.nils,.agg (Dg y.1 y.2)]) S')=some (.tup [.nils,.agg (Dg y.1 y.2)]):=rfl
   rw [e]
def G7:Gl:=fun g=>Bool.rec (gR g) (some Wz) (Nat.beq g 0)
theorem G7_R {γ:Gh} {w:World} (h:GR γ w G7):GR γ w gR:=by
 intro g cs hg
 have hg':=hg
 unfold gR at hg
 cases hb:Nat.beq g 5 with
 | false=>rw [hb] at hg; cases hg
 | true =>
  have:g=5:=Nat.eq_of_beq_eq_true hb
  subst this
  exact h 5 cs hg'
end Go.Ax
noncomputable section
namespace Go.Ax
open Go.RowKit Go.Proofs
set_option maxRecDepth 100000
def fr (k:Int) (b:Bool):T AV:=(T.leaf.set 0 (some (.v (.int .i64 k)))).set 1 (some (.v (.bool b)))
theorem bd33:Gj Tryz.prog 33 []=some (.agg (Dg 0 0)):=by kernel_rfl
theorem nn33 (a b:AV):Hu Tryz.prog 33 a b=false:=by
 have u33:(match Tryz.prog.underlying 33 with | some (.struct _)=>true | _=>false)=true:=by kernel_rfl
 unfold Hu
 split at u33
 ·rename_i h; rw [h]
 ·cases u33
theorem fb33 (x y:List AV):Ei .neq (.agg x) (.agg y)=none:=rfl
def isIntT (P:Program) (t:TypeId):Bool:=match P.underlying t with
 | some (.int _)=>true
 | _=>false
theorem xQ {P:Program} {t:TypeId} (h:isIntT P t=true):∃ k,P.underlying t=some (.int k):=by
 unfold isIntT at h
 split at h
 ·rename_i k hk; exact ⟨k,hk⟩
 ·cases h
def okFld (P:Program) (f:Field) (o:Nat):Bool:=!decide (f.name = "_") && decide (f.offset=o) && decide (Fp P f.type=some false) && isIntT P f.type
def flds33:Bool:=match fieldsOf Tryz.prog 33 with
 | some fs=>(match fs.toList with
  | [f,g]=>okFld Tryz.prog f 0 && okFld Tryz.prog g 1 && !(Tryz.prog.stoodInHeld 33) && !(Tryz.prog.eqGuardType Tryz.prog.depth 33)
  | _=>false)
 | none=>false
theorem pH:flds33=true:=by kernel_rfl
theorem Tx {P:Program} {f:Field} {o:Nat} (h:okFld P f o=true):f.name ≠ "_" ∧ f.offset=o ∧ Fp P f.type=some false ∧ ∃ k,P.underlying f.type=some (.int k):=by
 unfold okFld at h
 simp only [Bool.and_eq_true,decide_eq_true_eq,Bool.not_eq_true',decide_eq_false_iff_not] at h
 exact ⟨h.1.1.1,h.1.1.2,h.1.2,xQ h.2⟩
theorem fq33 (a e:Int):Ku Tryz.prog .neq 33 (.agg [.v (.int .i64 a),.v (.int .i64 e)]) (.agg [.v (.int .i64 0),.v (.int .i64 0)])=some (.v (.bool (!((a == 0) && ((e == 0) && true))))):=by
 have h:=pH
 unfold flds33 at h
 split at h
 ·rename_i fs hfs
  split at h
  ·rename_i f g hl
   simp only [Bool.and_eq_true,Bool.not_eq_true'] at h
   obtain ⟨⟨⟨h1,h2⟩,h3⟩,h4⟩:=h
   obtain ⟨f1,f2,f3,k1,f4⟩:=Tx h1
   obtain ⟨g1,g2,g3,k2,g4⟩:=Tx h2
   cases ha:(a == 0) <;> cases he:(e == 0) <;> simp [Ku,hfs,h3,h4,hl,bQ,f1,f2,f3,g1,g2,g3,kP,f4,g4,ha,he]
  ·cases h
 ·cases h
theorem fe33 (a e:Int):Ku Tryz.prog .eql 33 (.agg [.v (.int .i64 a),.v (.int .i64 e)]) (.agg [.v (.int .i64 0),.v (.int .i64 0)])=some (.v (.bool ((a == 0) && ((e == 0) && true)))):=by
 have h:=pH
 unfold flds33 at h
 split at h
 ·rename_i fs hfs
  split at h
  ·rename_i f g hl
   simp only [Bool.and_eq_true,Bool.not_eq_true'] at h
   obtain ⟨⟨⟨h1,h2⟩,h3⟩,h4⟩:=h
   obtain ⟨f1,f2,f3,k1,f4⟩:=Tx h1
   obtain ⟨g1,g2,g3,k2,g4⟩:=Tx h2
   cases ha:(a == 0) <;> cases he:(e == 0) <;> simp [Ku,hfs,h3,h4,hl,bQ,f1,f2,f3,g1,g2,g3,kP,f4,g4,ha,he]
  ·cases h
 ·cases h
def Fo {α:Type} (x:PR α):Prop:=∀ a e,x=.bad a e → e ≠ 0
section
variable {α β:Type}
theorem Fo.ok {a:α} {j:Nat}:Fo (.ok a j):=fun _ _ h=>by cases h
theorem Fo.out:Fo (.out:PR α):=fun _ _ h=>by cases h
theorem Fo.bad {a e:Nat} (h:e ≠ 0):Fo (.bad a e:PR α):=fun _ _ h'=>by injection h' with h1 h2; subst h2; exact h
theorem Fo.bind {x:PR α} {f:α → Nat → PR β} (h:Fo x) (hf:∀ a j,Fo (f a j)):Fo (x.bind f):=by
 cases x with
 | ok a j=>exact hf a j
 | bad a e=>exact .bad (h a e rfl)
 | out=>exact .out
theorem Fo.ite {c:Prop} [Decidable c] {x y:PR α} (h1:Fo x) (h2:Fo y):Fo (if c then x else y):=by
 by_cases h:c
 ·rw [if_pos h]; exact h1
 ·rw [if_neg h]; exact h2
end
section
variable {ts:List Tk}
end
theorem fbe33 (x y:List AV):Ei .eql (.agg x) (.agg y)=none:=_root_.id rfl
theorem eq7n (f:T AV) (S:St) (o:Oper) (a e:Nat):Lk Tryz.prog G7 f S o .neq 33 (.agg (Dg a e)) (.agg (Dg 0 0))=.val (.v (.bool (!(((a:Int) == 0) && (((e:Int) == 0) && true))))) S:=by
 unfold Lk
 have h:Ku Tryz.prog .neq 33 (.agg (Dg a e)) (.agg (Dg 0 0))=some (.v (.bool (!(((a:Int) == 0) && (((e:Int) == 0) && true))))):=fq33 a e
 rw [h]
theorem eq7e (f:T AV) (S:St) (o:Oper) (a e:Nat):Lk Tryz.prog G7 f S o .eql 33 (.agg (Dg a e)) (.agg (Dg 0 0))=.val (.v (.bool (((a:Int) == 0) && (((e:Int) == 0) && true)))) S:=by
 unfold Lk
 have h:Ku Tryz.prog .eql 33 (.agg (Dg a e)) (.agg (Dg 0 0))=some (.v (.bool (((a:Int) == 0) && (((e:Int) == 0) && true)))):=fe33 a e
 rw [h]
theorem eq7nz (f:T AV) (S:St) (o:Oper):Lk Tryz.prog G7 f S o .neq 33 (.agg (Dg 0 0)) (.agg (Dg 0 0))=.val (.v (.bool false)) S:=eq7n f S o 0 0
theorem sQ {S:St} {id:Nat} {x0 x1 a b c d:AV} (h:S.mem.get id=some (.box [x0,x1,a,b,c,d])):Ch Tryz.prog S 46 (.ptr id 2)=some a:=by simp [Ch,Dr,h,a46]
theorem ld46_3 {S:St} {id:Nat} {x0 x1 a b c d:AV} (h:S.mem.get id=some (.box [x0,x1,a,b,c,d])):Ch Tryz.prog S 46 (.ptr id 3)=some b:=by simp [Ch,Dr,h,a46]
theorem ld46_4 {S:St} {id:Nat} {x0 x1 a b c d:AV} (h:S.mem.get id=some (.box [x0,x1,a,b,c,d])):Ch Tryz.prog S 46 (.ptr id 4)=some c:=by simp [Ch,Dr,h,a46]
theorem U5 {v:AV} {es:List AV} (h:Rc v es):v.noTup=true:=by
 rcases h with ⟨rfl,rfl⟩ | ⟨tok,off,rfl⟩ <;> rfl
theorem z46:∃ z,Ll Tryz.prog 46=some z:=Option.isSome_iff_exists.1 (by kernel_rfl)
theorem row159 {a b c:AV} {ea eb ec:List AV} (ha:Rc a ea) (hb:Rc b eb) (hc:Rc c ec):Du Tryz.prog 159 3 [(0,a),(1,b),(2,c)]=some (.sl 1 0 1 [a,b,c]):=by
 obtain ⟨z,hz⟩:=z46
 have e:([(0,a),(1,b),(2,c)].map (·.1) == List.range 3)=true:=by rfl
 simp [Du,e159,s46',hz,U5 ha,U5 hb,U5 hc,Po ha,Po hb,Po hc]
 decide
theorem fnOk63:∃ fn,E1.F 63=some fn:=Option.isSome_iff_exists.1 (by kernel_rfl)
theorem all_any {x0 x1 a b c d:AV} {ea eb ec:List AV} (ha:Rc a ea) (hb:Rc b eb) (hc:Rc c ec) (hl:ea.length + eb.length + ec.length ≤ 3000) (S:St) (hS:2 ≤ S.next):WC E1 22 [.agg [x0,x1,a,b,c,d]] S (fun r=>∃ v S',r=.ret v S' ∧ rowN v (ea ++ eb ++ ec) ∧ Keeps S S'):=by
 refine Do Tryz.f22 (by kernel_rfl) (by kernel_rfl) (by kernel_rfl) (by show (_:Nat) ≤ _;simp [Tryz.f22]) ?_
 obtain ⟨fn1,hf1⟩:=fnOk63
 have g:=Cs S [x0,x1,a,b,c,d]
 have l2:=sQ g
 have l3:=ld46_3 g
 have l4:=ld46_4 g
 have hr:=row159 ha hb hc
 have hn:(AV.agg [x0,x1,a,b,c,d]).noTup=true:=rfl
 have hcl:(AV.agg [x0,x1,a,b,c,d]).cells=[x0,x1,a,b,c,d]:=rfl
 simp only [By,Bz,De,Df,Bp,A6,Cj,Bk,Bo,Bs,Dv,C9,Bw,A4,Cu,C2,Ca,B5,Cy,C1,Cq,Bh,A7,Cp,Bc,Bm,Bg,Dt,Bq,A8,Bl,Ce,C4,Cv,A5,Bb,A9,Cb,A0,A1,Bn,B4,ofOpt,ofOptS,Ba,Cd,Fc,Bv,Bt,Bj,B6,Bu,Bf,Ci,Cr,C5,C6,Er,Dz,Ew,Dh,Cc,C7,Nat.reduceLT,Nat.reduceAdd,Nat.reduceEqDiff,Aa,Ab,reduceIte,Ac,Ad,Ae,Af,Ag,Ah,Ai,Aj,Ak,Al,Am,Ao,Ap,Aq,Ar,Au,Av,Aw,Option.toList,Ay,Az,Tryz.f22,hf1,l2,l3,l4,hr,hn,hcl,kH,bO,fa49_4]
 refine WC.mono (concat_w 1 0 [a,b,c] [ea,eb,ec] ⟨ha,hb,hc,trivial⟩ (by show 3 ≤ 1000; decide) (by simp [Tn]; omega) (S.newBox [x0,x1,a,b,c,d]) (Nat.le_succ_of_le hS)) ?_
 rintro _ ⟨v,S',rfl,hv,hk⟩
 simp only [By,Bz,De,Df,Bp,A6,Cj,Bk,Bo,Bs,Dv,C9,Bw,A4,Cu,C2,Ca,B5,Cy,C1,Cq,Bh,A7,Cp,Bc,Bm,Bg,Dt,Bq,A8,Bl,Ce,C4,Cv,A5,Bb,A9,Cb,A0,A1,Bn,B4,ofOpt,ofOptS,Ba,Cd,Fc,Bv,Bt,Bj,B6,Bu,Bf,Ci,Cr,C5,C6,Er,Dz,Ew,Dh,Cc,C7,Nat.reduceLT,Nat.reduceAdd,Nat.reduceEqDiff,Aa,Ab,reduceIte,Ac,Ad,Ae,Af,Ag,Ah,Ai,Aj,Ak,Al,Am,Ao,Ap,Aq,Ar,Au,Av,Aw,Option.toList,Ay,Az,Tryz.f22]
 refine ⟨v,S',rfl,by simpa using hv,Nat.le_trans (Nat.le_succ _) hk.1,fun id hid=>(hk.2 id (Nat.lt_succ_of_lt hid)).trans (Fs hid)⟩
def nP:AV → Option (List AV)
 | .nils=>some []
 | .sl _ _ sz es=>Bool.rec none (some es) (Nat.beq sz 6)
 | _=>none
theorem hU {v:AV} {es:List AV} (h:nP v=some es):Rc v es:=by
 unfold nP at h
 split at h
 ·injection h with h; subst h; exact .inl ⟨rfl,rfl⟩
 ·rename_i tok off sz es'
  cases hb:Nat.beq sz 6 with
  | false=>rw [hb] at h; cases h
  | true =>
   rw [hb] at h
   injection h with h; subst h
   have:sz=6:=Nat.eq_of_beq_eq_true hb
   subst this
   exact .inr ⟨tok,off,rfl⟩
 ·cases h
def AV.plainC:AV → Bool
 | .agg cs=>cs.all AV.plain
 | a=>a.plain
theorem wB {es:List AV} (h:es.all AV.plainC=true):∀ a ∈ El es,a.plain=true:=by
 intro a ha
 unfold El at ha
 rw [List.mem_flatMap] at ha
 obtain ⟨e,he,hae⟩:=ha
 have:=List.all_eq_true.1 h e he
 cases e with
 | agg cs=>exact List.all_eq_true.1 this a hae
 | _=>simp only [AV.cells,List.mem_cons,List.not_mem_nil,or_false] at hae; subst hae; exact this
theorem VR.rowPlain2 {γ γ':Gh} {w:World} {tok off sz:Nat} {es:List AV} {x:Value} (h:VR γ w (.sl tok off sz es) x) (hp:∀ a ∈ El es,a.plain=true) (him:∀ b o,γ.im b o → γ'.im b o):VR γ' w (.sl 0 0 sz es) x:=by
 cases h with
 | sl _ _ _ _ b o cap c hsz hes h1 h hr ht hf hc hb =>
  exact .sl 0 0 sz es b o cap c hsz hes h1 (fun k hk=>⟨him _ _ (h k hk).1,(h k hk).2⟩) (fun k hk=>(hr k hk).plain (hp _ (List.getElem_mem hk))) (fun h=>by omega) (fun h=>by omega) hc hb
def rowW (es:List AV):AV:=match es with
 | []=>.nils
 | e :: r=>.sl 0 0 6 (e :: r)
def mQ (args:List AV) (S:St):R:=match args with
 | [.agg [x0,x1,a,b,c,d]]=>match nP a,nP b,nP c with
  | some ea,some eb,some ec=>Bool.rec .fail (.ret (rowW (ea ++ eb ++ ec)) S) ((ea ++ eb ++ ec).all AV.plainC && Nat.ble (ea.length + eb.length + ec.length) 3000)
  | _,_,_=>.fail
 | _=>.fail
theorem all_I (base:Nat) (w0:World) (args:List AV) (S:St) (hne:mQ args S ≠ .fail) (γ:Gh) (w:World) (vs:List Value) (hS:SR base w0 γ S w) (hg:GR γ w E1.G) (hv:VRL γ w args vs):Calls Tryz.prog 22 vs.toArray w (Oi base w0 γ S w (mQ args S)):=by
 generalize hr:mQ args S=r at hne ⊢
 unfold mQ at hr
 split at hr
 case h_2=>exact absurd hr.symm hne
 rename_i x0 x1 a b c d
 split at hr
 case h_2=>exact absurd hr.symm hne
 rename_i ea eb ec h1 h2 h3
 cases hb:((ea ++ eb ++ ec).all AV.plainC && Nat.ble (ea.length + eb.length + ec.length) 3000) with
 | false=>rw [hb] at hr; exact absurd hr.symm hne
 | true =>
  rw [hb] at hr
  rw [Bool.and_eq_true] at hb
  have hlen:=Nat.le_of_ble_eq_true hb.2
  obtain ⟨r2,⟨m0,hm⟩,v,S',rfl,hrow,hk⟩:=all_any (x0:=x0) (x1:=x1) (d:=d) (hU h1) (hU h2) (hU h3) hlen S hS.pos
  have hc:=hm m0 (Nat.le_refl _)
  have:=Nc Rn Zw (I4 Rn R0) m0 base w0 22 [.agg [x0,x1,a,b,c,d]] S (by show ckN E1 m0 22 _ S ≠ _; rw [hc]; exact fun e=>by cases e) γ w vs hS hg hv (by kernel_rfl)
  rw [show Us E1 (Da E1) m0 22 [.agg [x0,x1,a,b,c,d]] S=_ from hc] at this
  refine this.mono fun x w' hx=>?_
  subst hr
  obtain ⟨γ',y,k1,k2,k3,rfl⟩:=hx
  obtain ⟨q1,q2⟩:=hS.forget k1 k2 hk.2
  refine ⟨_,y,q1,q2,?_,rfl⟩
  rcases hrow with ⟨rfl,he⟩ | ⟨hne2,tok,off,rfl⟩
  ·rw [he]; cases k3; exact .nils
  ·unfold rowW
   cases hes:ea ++ eb ++ ec with
   | nil=>exact absurd hes hne2
   | cons e r =>
    rw [hes] at k3 hb
    exact k3.rowPlain2 (wB hb.1) (fun _ _ h=>h)
def knownI9 (k:Nat):Option (List AV → St → R):=Bool.rec (Bool.rec (Bool.rec none (some Xu) (Nat.beq k 25)) (some Mi) (Nat.beq k 19)) (some mQ) (Nat.beq k 22)
def E9:Env:={ P:=Tryz.prog,G:=G7,F:=E1.F,I:=knownI9,M:=rowM }
theorem e9_ok:E9.Ok:=⟨fun k fn h=>Rn.fn k fn h⟩
theorem e9_mix:E9.P.follows .mixedOrders=true:=R0
theorem e9_intr:Kx E9:=fun k g hk base w0 args S hne γ w vs hS hg hv=>by
 have hk2:(Bool.rec (Bool.rec (Bool.rec none (some Xu) (Nat.beq k 25)) (some Mi) (Nat.beq k 19)) (some mQ) (Nat.beq k 22):Option (List AV → St → R))=some g:=hk
 cases hb:Nat.beq k 22 with
 | true =>
  rw [hb] at hk2
  injection hk2 with hk2; subst hk2
  have:k=22:=Nat.eq_of_beq_eq_true hb
  subst this
  exact all_I base w0 args S hne γ w vs hS (G7_R hg) hv
 | false =>
  rw [hb] at hk2
  cases hc:Nat.beq k 19 with
  | true =>
   rw [hc] at hk2
   injection hk2 with hk2; subst hk2
   have:k=19:=Nat.eq_of_beq_eq_true hc
   subst this
   exact prog_I7 base w0 args S hne γ w vs hS (G7_R hg) hv
  | false =>
   rw [hc] at hk2
   cases hd:Nat.beq k 25 with
   | true =>
    rw [hd] at hk2
    injection hk2 with hk2; subst hk2
    have:k=25:=Nat.eq_of_beq_eq_true hd
    subst this
    exact lex_I base w0 args S hne γ w vs hS (G7_R hg) hv
   | false=>rw [hd] at hk2; cases hk2
theorem E3:E9.P=Tryz.prog:=_root_.id rfl
theorem O5:E9.G=G7:=_root_.id rfl
theorem i9_19 (args:List AV) (S:St) (Q:R → Prop) (h:Q (Mi args S)):WC E9 19 args S Q:=Mp (g:=Mi) (by kernel_rfl) h
theorem i9_22 (args:List AV) (S:St) (Q:R → Prop) (h:Q (mQ args S)):WC E9 22 args S Q:=Mp (g:=mQ) (by kernel_rfl) h
def eqLn (q:PQ):List UInt8:=eqT q ++ [59,32]
theorem spelt_eqLn {q:PQ} (h:Q9 q) {r:List UInt8} {vs:List TK} (hr:SpT r vs):SpT (eqLn q ++ r) (eqJ q ++ vs):=by
 have hend:SpT (59 :: 32 :: r) (sg [59] :: vs):=Ln (s:=[59]) (by decide) (.blank _ _ hr)
 have he:=(rI h.2.1).1 (59 :: 32 :: r) (sg [59] :: vs) (Vn rfl) hend
 have ej:eqJ q ++ vs=Iq q.left ++ sg [61] :: (Ut q ++ sg [59] :: vs):=by unfold eqJ; simp
 rw [ej]
 unfold eqLn eqT Ut
 by_cases ha:q.async=true
 ·rw [if_pos ha,if_pos ha]
  have e:((((Kd q.left ++ [32,61,32]) ++ [97,115,121,110,99,32]) ++ D3 q.e) ++ [59,32]) ++ r=Kd q.left ++ (32 :: ([61] ++ 32 :: (P4 ++ 32 :: (D3 q.e ++ 59 :: 32 :: r)))):=by simp
  have goal:=To h.1 (P7 _) (.blank _ _ (nH (s:=[61]) (by decide) (Kn (w:=P4) (by decide) he)))
  rw [← e] at goal
  exact goal
 ·rw [if_neg ha,if_neg ha]
  have e:(((Kd q.left ++ [32,61,32]) ++ D3 q.e) ++ [59,32]) ++ r=Kd q.left ++ (32 :: ([61] ++ 32 :: (D3 q.e ++ 59 :: 32 :: r))):=by simp
  have goal:=To h.1 (P7 _) (.blank _ _ (nH (s:=[61]) (by decide) he))
  rw [← e] at goal
  exact goal
def kL:List PQ → List UInt8
 | []=>[]
 | q :: l=>eqLn q ++ kL l
theorem cN:∀ (l:List PQ),(∀ q ∈ l,Q9 q) → ∀ {r:List UInt8} {vs:List TK},SpT r vs → SpT (kL l ++ r) (Vu l ++ vs)
 | [],_,r,vs,h=>h
 | q :: l,he,r,vs,h=>by
  show SpT ((eqLn q ++ kL l) ++ r) ((eqJ q ++ Vu l) ++ vs)
  rw [List.append_assoc,List.append_assoc]
  exact spelt_eqLn (he q (List.mem_cons_self ..)) (cN l (fun x hx=>he x (List.mem_cons_of_mem _ hx)) h)
def Qa:List PD → List UInt8
 | []=>[]
 | d :: l=>G8 d ++ 59 :: 32 :: Qa l
theorem W5:∀ (l:List PD),(∀ d ∈ l,Jt d) → ∀ {r:List UInt8} {vs:List TK},SpT r vs → SpT (Qa l ++ r) (J5 l ++ vs)
 | [],_,r,vs,h=>h
 | d :: l,he,r,vs,h=>by
  have ih:=W5 l (fun x hx=>he x (List.mem_cons_of_mem _ hx)) h
  have e1:Qa (d :: l) ++ r=G8 d ++ 59 :: 32 :: (Qa l ++ r):=by
   show (G8 d ++ 59 :: 32 :: Qa l) ++ r=_
   simp
  have e2:J5 (d :: l) ++ vs=G2 d ++ sg [59] :: (J5 l ++ vs):=by
   show (G2 d ++ sg [59] :: J5 l) ++ vs=_
   simp
  rw [e1,e2]
  exact Wc (he d (List.mem_cons_self ..)) _ _ (Vn rfl) (Ln (s:=[59]) (by decide) (.blank _ _ ih))
def fV (l:List PD):List UInt8:=match l with
 | []=>[]
 | d :: l=>[118,97,114] ++ 32 :: Qa (d :: l)
theorem rH (l:List PD) (he:∀ d ∈ l,Jt d) {r:List UInt8} {vs:List TK} (h:SpT r vs):SpT (fV l ++ r) (On l ++ vs):=by
 cases l with
 | nil=>exact h
 | cons d l =>
  have e1:fV (d :: l) ++ r=[118,97,114] ++ 32 :: (Qa (d :: l) ++ r):=by
   show ([118,97,114] ++ 32 :: Qa (d :: l)) ++ r=_
   simp
  have e2:On (d :: l) ++ vs=kw [118,97,114] :: (J5 (d :: l) ++ vs):=by unfold On; rw [if_neg (by simp)]; rfl
  rw [e1,e2]
  exact Kn (w:=[118,97,114]) (by decide) (W5 (d :: l) he h)
def Vh (n:PN):List UInt8:=[110,111,100,101,32] ++ (n.name ++ ([40] ++ (I3 n.ins [44,32] ++ ([41,32,114,101,116,117,114,110,115,32,40] ++ (I3 n.outs [44,32] ++ ([41,32] ++ (fV n.vars ++ ([108,101,116,32] ++ (kL n.eqs ++ [116,101,108])))))))))
theorem Yn {n:PN} (h:GoodNode n) {r:List UInt8} {vs:List TK} (hf:Fol r) (hr:SpT r vs):SpT (Vh n ++ r) (Qz n ++ vs):=by
 have h9:SpT ([116,101,108] ++ r) (kw [116,101,108] :: vs):=cO (w:=[116,101,108]) (by decide) hf hr
 have h8:=cN n.eqs h.eqs h9
 have h7:SpT ([108,101,116] ++ 32 :: (kL n.eqs ++ ([116,101,108] ++ r))) (kw [108,101,116] :: (Vu n.eqs ++ kw [116,101,108] :: vs)):=Kn (w:=[108,101,116]) (by decide) h8
 have h6:=rH n.vars h.vars h7
 have h5:=Pl (T:=G8) (J:=G2) n.outs (fun d hd=>Wc (h.outs d hd).1) (.blank _ _ h6)
 have h4:SpT ([114,101,116,117,114,110,115] ++ 32 :: _) (kw [114,101,116,117,114,110,115] :: _):=Kn (w:=[114,101,116,117,114,110,115]) (by decide) h5
 have h3:=Pl (T:=G8) (J:=G2) n.ins (fun d hd=>Wc (h.ins d hd).1) (.blank _ _ h4)
 have h2:SpT (n.name ++ _) (nm n.name :: _):=Rb h.name (fol_l _) h3
 have h1:SpT ([110,111,100,101] ++ 32 :: _) (kw [110,111,100,101] :: _):=Kn (w:=[110,111,100,101]) (by decide) h2
 have ej:Qz n ++ vs=kw [110,111,100,101] :: nm n.name :: (Gn (Hw G2 n.ins) ++ (kw [114,101,116,117,114,110,115] :: (Gn (Hw G2 n.outs) ++ (On n.vars ++ (kw [108,101,116] :: (Vu n.eqs ++ (kw [116,101,108] :: vs))))))):=by
  unfold Qz; simp
 have et:Vh n ++ r=[110,111,100,101] ++ 32 :: (n.name ++ 40 :: (Lib.join (n.ins.map G8) [44,32] ++ 41 :: 32 :: ([114,101,116,117,114,110,115] ++ 32 :: 40 :: (Lib.join (n.outs.map G8) [44,32] ++ 41 :: 32 :: (fV n.vars ++ ([108,101,116] ++ 32 :: (kL n.eqs ++ ([116,101,108] ++ r)))))))):=by
  unfold Vh I3; simp
 rw [ej,et]
 exact h1
def iL:List PN → List UInt8
 | []=>[]
 | [n]=>Vh n
 | n :: m :: l=>Vh n ++ 32 :: iL (m :: l)
theorem Ym:∀ (l:List PN),(∀ x ∈ l,GoodNode x) → SpT (iL l) (cT l)
 | [],_=>.fin
 | [n],h=>by
  have:=Yn (h n (List.mem_cons_self ..)) (r:=[]) (vs:=[finT]) (fun c q e=>by cases e) .fin
  rw [List.append_nil] at this
  exact this
 | n :: m :: l,h=>Yn (h n (List.mem_cons_self ..)) (P7 _) (.blank _ _ (Ym (m :: l) (fun x hx=>h x (List.mem_cons_of_mem _ hx))))
theorem read_spelt {X:List UInt8} {ns:List PN} (hne:ns ≠ []) (hg:∀ x ∈ ns,GoodNode x) (hs:SpT X (cT ns)) (h4:X.length ≤ 4000):∃ us ms,Kc X=some (.inr us) ∧ Jv 70000 (.inr us)=some (.inl ms) ∧ Each2 Nn ns ms:=by
 obtain ⟨us,hu,hsee⟩:=sp_lex hs h4
 obtain ⟨ms,j,hl,hk,N,hN⟩:=iK hne hg hsee
 refine ⟨us,ms,hu,?_,hl⟩
 have hok:=(read_s hu).1
 have hno:Ff us 70000 0 ≠ .out:=fun e=>hok (by unfold Jv; simp only [e])
 have h1:=W6 (Nat.le_max_right N 70000) 0 hno
 rw [hN _ (Nat.le_max_left N 70000)] at h1
 unfold Jv
 simp only [← h1]
 rw [if_pos hk]
theorem read_line {ns:List PN} (hne:ns ≠ []) (hg:∀ x ∈ ns,GoodNode x) (h4:(iL ns).length ≤ 4000):∃ us ms,Kc (iL ns)=some (.inr us) ∧ Jv 70000 (.inr us)=some (.inl ms) ∧ Each2 Nn ns ms:=read_spelt hne hg (Ym ns hg) h4
def Tz (n:Int):PE:=.mk 1 0 n [] false []
def boolE (b:Bool):PE:=.mk 2 0 (if b then 1 else 0) [] false []
def Pi (b:Bool):PE:=if b then boolE true else Tz 7
def awE (vals:List Bool):PE:=.mk 14 0 0 [117] false (vals.map Pi)
def fAw (future y:Bool) (vals:List Bool):PN:=⟨[102],0,[],[⟨[121],0,y,false,[],false⟩],[⟨[117],0,future,true,[],false⟩],[⟨[([117],0)],true,.mk 13 0 0 [103] false []⟩,⟨[([121],0)],false,awE vals⟩]⟩
def gAw (future:Bool):PN:=⟨[103],0,[],[⟨[120],0,future,false,[],false⟩],[],[⟨[([120],0)],false,.mk 6 0 0 [60] false [Tz 0,Tz 1]⟩]⟩
def Rr (b:Bool):List UInt8:=if b then [116,114,117,101] else [55]
def La:Nat → List Bool → List UInt8
 | _,[]=>[]
 | i,b :: l=>(if i=0 then [32,97,102,116,101,114,32,40] else [44,32]) ++ (Rr b ++ La (i + 1) l)
def awT (vals:List Bool):List UInt8:=if vals=[] then [] else La 0 vals ++ [41]
def Rs (future y:Bool) (vals:List Bool):List UInt8:=[110,111,100,101,32,102,40,41,32,114,101,116,117,114,110,115,32,40,121,58,32] ++ (Km y false ++ ([41,32,118,97,114,32,117,58,32,102,117,116,117,114,101,32] ++ (Km future false ++ ([59,32,108,101,116,32,117,32,61,32,97,115,121,110,99,32,103,40,41,59,32,121,32,61,32,97,119,97,105,116,32,117] ++ (awT vals ++ ([59,32,116,101,108,32,110,111,100,101,32,103,40,41,32,114,101,116,117,114,110,115,32,40,120,58,32] ++ (Km future false ++ [41,32,108,101,116,32,120,32,61,32,48,32,60,32,49,59,32,116,101,108])))))))
theorem Pg (c:UInt8) (h:c ∈ ([102,103,117,120,121]:List UInt8)):Ih [c]:=by
 simp only [List.mem_cons,List.not_mem_nil,or_false] at h
 rcases h with rfl | rfl | rfl | rfl | rfl <;> exact ⟨by decide,⟨_,[],rfl,by decide,by simp⟩,by decide⟩
theorem yA (n:Int) (h:-9223372036854775808 ≤ n ∧ n ≤ 9223372036854775807):GoodT (Tz n):=.mk _ _ _ _ _ _ (.num n h) (fun e he=>by cases he)
theorem good_val (b:Bool):GoodT (Pi b):=by
 unfold Pi
 split
 ·exact .mk _ _ _ _ _ _ (.truth _ (by simp)) (fun e he=>by cases he)
 ·exact yA 7 (by omega)
theorem const_val (b:Bool):Iy (Pi b)=true:=by cases b <;> rfl
theorem good_aw (vals:List Bool):GoodT (awE vals):=.mk _ _ _ _ _ _ (.await _ _ (Pg 117 (by decide)) (fun x hx=>by
  obtain ⟨b,_,rfl⟩:=List.mem_map.1 hx; exact const_val b)) (fun e he=>by
  obtain ⟨b,_,rfl⟩:=List.mem_map.1 he; exact good_val b)
theorem deep_val (b:Bool):Ki (Pi b)=1:=by cases b <;> (show IntKind.i64.wrap (0 + 1)=1; rw [IntKind.wrap_i64]; rfl)
theorem kW:∀ (vals:List Bool) (m:Int),0 ≤ m ∧ m ≤ 1 → 0 ≤ Pv (vals.map Pi) m ∧ Pv (vals.map Pi) m ≤ 1
 | [],m,h=>h
 | b :: l,m,h=>by
  show 0 ≤ Pv (l.map Pi) (if Ki (Pi b) > m then Ki (Pi b) else m) ∧ Pv (l.map Pi) (if Ki (Pi b) > m then Ki (Pi b) else m) ≤ 1
  refine kW l _ ?_
  rw [deep_val]; split <;> omega
theorem deep_aw (vals:List Bool):¬ Ki (awE vals) > 40:=by
 have:=kW vals 0 (by omega)
 show ¬ IntKind.i64.wrap (Pv (vals.map Pi) 0 + 1) > 40
 rw [IntKind.wrap_i64]; omega
theorem good_fAw (future y:Bool) (vals:List Bool):GoodNode (fAw future y vals):=by
 refine ⟨Pg 102 (by decide),(fun d hd=>absurd hd List.not_mem_nil),fun d hd=>?_,fun d hd=>?_,fun q hq=>?_⟩
 ·obtain rfl:=List.mem_singleton.1 hd
  exact ⟨⟨Pg 121 (by decide),fun _=>rfl,fun h=>absurd rfl h⟩,rfl⟩
 ·obtain rfl:=List.mem_singleton.1 hd
  exact ⟨Pg 117 (by decide),fun _=>rfl,fun h=>absurd rfl h⟩
 ·have hq:q ∈ [⟨[([117],0)],true,.mk 13 0 0 [103] false []⟩,⟨[([121],0)],false,awE vals⟩]:=hq
  rcases List.mem_cons.1 hq with rfl | hq
  ·exact ⟨⟨by simp,fun x hx=>by obtain rfl:=List.mem_singleton.1 hx; exact Pg 117 (by decide)⟩,.mk _ _ _ _ _ _ (.call _ _ (Pg 103 (by decide))) (fun e he=>by cases he),fun _=>rfl,by show ¬ IntKind.i64.wrap (0 + 1) > 40; rw [IntKind.wrap_i64]; omega⟩
  ·obtain rfl:=List.mem_singleton.1 hq
   exact ⟨⟨by simp,fun x hx=>by obtain rfl:=List.mem_singleton.1 hx; exact Pg 121 (by decide)⟩,good_aw vals,(fun h=>Bool.noConfusion h),deep_aw vals⟩
theorem good_gAw (future:Bool):GoodNode (gAw future):=by
 refine ⟨Pg 103 (by decide),(fun d hd=>absurd hd List.not_mem_nil),fun d hd=>?_,(fun d hd=>absurd hd List.not_mem_nil),fun q hq=>?_⟩
 ·obtain rfl:=List.mem_singleton.1 hd
  exact ⟨⟨Pg 120 (by decide),fun _=>rfl,fun h=>absurd rfl h⟩,rfl⟩
 ·obtain rfl:=List.mem_singleton.1 hq
  refine ⟨⟨by simp,fun x hx=>by obtain rfl:=List.mem_singleton.1 hx; exact Pg 120 (by decide)⟩,.mk _ _ _ _ _ _ (.bin _ _ _ (by decide)) (fun e he=>?_),(fun h=>Bool.noConfusion h),?_⟩
  ·simp only [List.mem_cons,List.not_mem_nil,or_false] at he
   rcases he with rfl | rfl <;> exact yA _ (by omega)
  ·show ¬ IntKind.i64.wrap ((if IntKind.i64.wrap (0 + 1) > (if IntKind.i64.wrap (0 + 1) > 0 then IntKind.i64.wrap (0 + 1) else 0) then IntKind.i64.wrap (0 + 1) else (if IntKind.i64.wrap (0 + 1) > 0 then IntKind.i64.wrap (0 + 1) else 0)) + 1) > 40
   have e:IntKind.i64.wrap (0 + 1)=1:=by rw [IntKind.wrap_i64]; rfl
   rw [e,IntKind.wrap_i64]
   decide
end Go.Ax
