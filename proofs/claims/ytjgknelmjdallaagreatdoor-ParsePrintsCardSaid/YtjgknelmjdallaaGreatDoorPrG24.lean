/- Rn -/
import Derived.Test.YtjgknelmjdallaaGreatDoorPrG23
import Derived.Shelf.Strings.Builder1
import Derived.Shelf.Strings.Builder2
import Derived.OneCell
import Derived.Lib.Hide
import Derived.ProofKit
import Derived.Tactics
import Derived.Deep.RegionHeld3
import Derived.Deep.DeepCutAuto
import Derived.Deep.RegionWith
import Derived.WalkSpells
import Derived.WalkKit
import Derived.OwnWalk
import Derived.IntWalk
import Derived.Test.YtjgknelmjdallaaGreatDoorPrG20
import Derived.Test.YtjgknelmjdallaaGreatDoorPrG21
set_option linter.unusedVariables false
set_option linter.unusedSimpArgs false
noncomputable section
namespace Go.Ax
open Go.RowKit Go.Proofs
theorem Tv {w w':World} {base e size n:Nat} {v:Value} {xs:List Value} (h:w.ownsRow base e size v n xs) (hb:Below w.heap.size w w'):w'.ownsRow base e size v n xs:=by
 refine ⟨h.1,?_⟩
 rcases h.2 with hn | ⟨g,cap,cur,hv,hbg,hg,rest⟩
 ·exact .inl hn
 ·exact .inr ⟨g,cap,cur,hv,hbg,(hb.block g (Array.getElem?_eq_some_iff.1 hg).1).trans hg,rest⟩
def Six (w:World) (b o:Nat) (c0 c1 c2 c3 c4 c5:Value):Prop :=
 w.cell? ⟨b,o,none⟩=some c0 ∧ w.cell? ⟨b,o + 1,none⟩=some c1 ∧ w.cell? ⟨b,o + 2,none⟩=some c2 ∧ w.cell? ⟨b,o + 3,none⟩=some c3 ∧ w.cell? ⟨b,o + 4,none⟩=some c4 ∧ w.cell? ⟨b,o + 5,none⟩=some c5
theorem Six.below {w w':World} {B b o:Nat} {c0 c1 c2 c3 c4 c5:Value} (hb:Below B w w') (h:b < B) (hs:Six w b o c0 c1 c2 c3 c4 c5):Six w' b o c0 c1 c2 c3 c4 c5:=by
 obtain ⟨h0,h1,h2,h3,h4,h5⟩:=hs
 exact ⟨(hb.cell (p:=⟨b,o,none⟩) h).trans h0,(hb.cell (p:=⟨b,o + 1,none⟩) h).trans h1,(hb.cell (p:=⟨b,o + 2,none⟩) h).trans h2,(hb.cell (p:=⟨b,o + 3,none⟩) h).trans h3,(hb.cell (p:=⟨b,o + 4,none⟩) h).trans h4,(hb.cell (p:=⟨b,o + 5,none⟩) h).trans h5⟩
theorem zX {w:World} {b o:Nat} {c0 c1 c2 c3 c4 c5:Value} (h:Six w b o c0 c1 c2 c3 c4 c5):w.cell? ⟨b,o,none⟩=some c0 ∧ w.cell? ⟨b,o + 1,none⟩=some c1 ∧ w.cell? ⟨b,o + 2,none⟩=some c2 ∧ w.cell? ⟨b,o + 3,none⟩=some c3 ∧ w.cell? ⟨b,o + 4,none⟩=some c4 ∧ w.cell? ⟨b,o + 5,none⟩=some c5:=h
def Blk (w:World) (b T:Nat) (cs:Array Value):Prop:=w.heap[b]? = some (.cells cs T (0,0))
theorem Blk.lt {w:World} {b T:Nat} {cs:Array Value} (h:Blk w b T cs):b < w.heap.size:=lt_of_block h
theorem Blk.cell {w:World} {b T:Nat} {cs:Array Value} (h:Blk w b T cs) {o:Nat} {v:Value} (hv:cs[o]? = some v):w.cell? ⟨b,o,none⟩=some v:=by
 unfold Blk at h
 simp [World.cell?,h,hv]
theorem Blk.new (w:World) (T:Nat) (cs:Array Value):Blk (w.alloc (.cells cs T)) w.heap.size T cs:=heap_alloc_new w _
theorem Blk.same {w w':World} {b T:Nat} {cs:Array Value} (h:Blk w b T cs) (hs:w'.heap[b]? = w.heap[b]?):Blk w' b T cs:=hs.trans h
theorem Blk.below {w w':World} {b T:Nat} {cs:Array Value} (h:Blk w b T cs) (hb:Below w.heap.size w w'):Blk w' b T cs:=h.same (hb.block b h.lt)
theorem Blk.alloc {w:World} {b T:Nat} {cs:Array Value} (h:Blk w b T cs) (o:Obj):Blk (w.alloc o) b T cs:=h.same (heap_alloc_old w _ h.lt)
theorem Blk.other {w:World} {b b' o T:Nat} {cs:Array Value} {x:Value} (h:Blk w b T cs) (hne:b ≠ b'):Blk (w.setCell ⟨b',o,none⟩ x) b T cs :=
 h.same (Below.heap_setCell _ _ _ _ hne)
theorem Blk.set {w:World} {b o T:Nat} {cs:Array Value} (h:Blk w b T cs) (x:Value):Blk (w.setCell ⟨b,o,none⟩ x) b T (cs.setIfInBounds o x):=by
 have hlt:=h.lt
 have h':w.heap[b]=.cells cs T (0,0):=by have:=h; unfold Blk at this; simpa [Array.getElem?_eq_getElem hlt] using this
 show (w.heap.modify b _)[b]? = _
 rw [Array.getElem?_eq_getElem (by simpa using hlt),Array.getElem_modify_self,h']
 rfl
theorem Blk.grown {w w':World} {b T:Nat} {cs:Array Value} {row:Option Nat} (h:Blk w b T cs) (hg:w.grownBy w' row) (hne:row ≠ some b):Blk w' b T cs :=
 h.same (hg.block b h.lt (fun e=>hne e.symm))
theorem Blk.six {w:World} {b T:Nat} {c0 c1 c2 c3 c4 c5:Value} (h:Blk w b T #[c0,c1,c2,c3,c4,c5]):w.cell? ⟨b,0,none⟩=some c0 ∧ w.cell? ⟨b,1,none⟩=some c1 ∧ w.cell? ⟨b,2,none⟩=some c2 ∧ w.cell? ⟨b,3,none⟩=some c3 ∧ w.cell? ⟨b,4,none⟩=some c4 ∧ w.cell? ⟨b,5,none⟩=some c5 :=
 ⟨h.cell rfl,h.cell rfl,h.cell rfl,h.cell rfl,h.cell rfl,h.cell rfl⟩
theorem wD:(Tryz.prog.info? 108).map (·.size)=some 2:=by kernel_rfl
theorem lies108:liesAt Tryz.prog Tryz.prog.depth 108 (2 / Tryz.prog.cellsOf 108) 0 108 1=true:=by kernel_rfl
theorem infoByte5:(Tryz.prog.info? 5).map (fun i=>(i.zero,i.size,i.bytes))=some (some (.int .u8 0),1,1):=by kernel_rfl
set_option maxHeartbeats 1000000 in
set_option maxRecDepth 100000 in
theorem cc_used (b:Nat) (w:World) (h0:w.cell? ⟨b,0,none⟩=some (.pointer (some ⟨b,0,none⟩))) :
  Calls Tryz.prog 92 #[.pointer (some ⟨b,0,none⟩)] w fun e w'=>e=.returned (.tuple #[]) ∧ w' = w:=by
 obtain ⟨j,hj,_⟩:=Option.map_eq_some_iff.1 wD
 go_enter Tryz.func92,Tryz.ntmps92
 go_wp2
 rw [Lib.run_neq_ptr_same w _ Tryz.underlying106 hj]
 go_wp2
 go_end0
 exact ⟨rfl,rfl⟩
set_option maxHeartbeats 1000000 in
set_option maxRecDepth 100000 in
theorem cc_fresh (b:Nat) (w:World) (h0:w.cell? ⟨b,0,none⟩=some (.pointer none)) (hsh:w.shape? b=some (108,2)) (hfz:w.frozen? ⟨b,0,none⟩=false) :
  Calls Tryz.prog 92 #[.pointer (some ⟨b,0,none⟩)] w fun e w'=>e=.returned (.tuple #[]) ∧ w' = w.setCell ⟨b,0,none⟩ (.pointer (some ⟨b,0,none⟩)):=by
 obtain ⟨j,hj,hjs⟩:=Option.map_eq_some_iff.1 wD
 go_enter Tryz.func92,Tryz.ntmps92
 go_wp2
 rw [Lib.run_to_unsafe w ⟨b,0,none⟩ Tryz.underlying106 Tryz.underlying198 hj (by rw [hjs]; decide) hsh (Nat.zero_lt_succ 1)]
 simp only [Result.andThen]
 rw [Oper.upon_value]
 go_wp2
 rw [run_callFunc_extern Tryz.func130 (by kernel_rfl) (by kernel_rfl) (by kernel_rfl) (e:=Extern.AbiNoEscape.same) (by kernel_rfl)]
 rw [Lib.run_noEscape]
 simp only [Result.andThen]
 rw [Oper.upon_value]
 go_wp2
 rw [Lib.run_from_unsafe w ⟨b,0,none⟩ Tryz.underlying198 Tryz.underlying106 hj hsh lies108]
 simp only [Result.andThen]
 rw [Oper.upon_value]
 go_wp2
 go_end0
 exact ⟨rfl,rfl⟩
theorem cc_any (B b:Nat) (bs:List Value) (w:World) (h:Lib.IsBuilder 108 5 B b bs w) :
  Calls Tryz.prog 92 #[.pointer (some ⟨b,0,none⟩)] w fun e w'=>e=.returned (.tuple #[]) ∧ (Lib.BuilderAt 108 5 B b (.pointer (some ⟨b,0,none⟩)) bs w' ∧ Below B w w' ∧ ∀ k T cs,k ≠ b → Blk w k T cs → Blk w' k T cs):=by
 rcases h with h | h
 ·refine (cc_fresh b w h.cell0 h.shape h.frozen0).mono ?_
  rintro e w' ⟨rfl,rfl⟩
  exact ⟨rfl,h.used _,(Below.refl B w).setCell (p:=⟨b,0,none⟩) h.1 _,fun k T cs hk hb=>hb.other hk⟩
 ·refine (cc_used b w h.cell0).mono ?_
  rintro e w' ⟨rfl,rfl⟩
  exact ⟨rfl,h,Below.refl B _,fun k T cs hk hb=>hb⟩
set_option maxHeartbeats 2000000 in
set_option maxRecDepth 100000 in
theorem zM (B b:Nat) (bs:List Value) (s:ByteArray) (w:World) (h:Lib.IsBuilder 108 5 B b bs w) (hlen:bs.length + s.size ≤ 140737488355328) (hBw:B ≤ w.heap.size) :
  Calls Tryz.prog 59 #[.pointer (some ⟨b,0,none⟩),.string s] w fun e w'=>e=.returned (.tuple #[.int .i64 s.size,.nilIface]) ∧ (Lib.BuilderAt 108 5 B b (.pointer (some ⟨b,0,none⟩)) (bs ++ Lib.strCells s) w' ∧ Below B w w' ∧ ∀ k T cs,k ≠ b → T ≠ 5 → Blk w k T cs → Blk w' k T cs):=by
 obtain ⟨i0,hi,hz0,hz1,hz2⟩:=info_parts infoByte5
 go_enter Tryz.func59,Tryz.ntmps59
 go_wp2_with fail
 refine (cc_any B b bs _ h).mono ?_
 rintro e w1 ⟨rfl,h1,hb1,hk1⟩
 obtain ⟨hB,v,hbk,hown,hne⟩:=h1
 have c0:w1.cell? ⟨b,0,none⟩=some (.pointer (some ⟨b,0,none⟩)):=by rw [Lib.cell_of_heap hbk]; rfl
 have c1:w1.cell? ⟨b,1,none⟩=some v:=by rw [Lib.cell_of_heap hbk]; rfl
 go_wp2_with (at_builtin; refine Lib.wpList_append_own_string _ rfl _ _ 77 9 rfl B 5 i0 Tryz.underlying77 Tryz.underlying9 hi hz0 hz1 hz2 _ _ _ rfl hown s rfl ?c3 ?c4 ?c5 ?_)
 case c3=>unfold maxLen; omega
 case c4=>omega
 case c5=>have:=hb1.size; omega
 intro v' w2 hown' hgrow _
 have hlt:b < w1.heap.size:=by
  rcases Nat.lt_or_ge b w1.heap.size with h' | h'
  ·exact h'
  ·simp [Array.getElem?_eq_none h'] at hbk
 have hb2:w2.heap[b]? = some (.cells #[.pointer (some ⟨b,0,none⟩),v] 108 (0,0)):=by
  rw [hgrow.block b hlt (fun e=>hne e.symm)]
  exact hbk
 have d0:w2.cell? ⟨b,0,none⟩=some (.pointer (some ⟨b,0,none⟩)):=by rw [Lib.cell_of_heap hb2]; rfl
 have d1:w2.cell? ⟨b,1,none⟩=some v:=by rw [Lib.cell_of_heap hb2]; rfl
 have f1:w2.frozen? ⟨b,1,none⟩=false:=Lib.frozen_of_heap hb2 1
 obtain ⟨ao,n',cap,rfl⟩:∃ ao n' cap,v' = .slice ao n' cap:=by
  rcases hown'.2 with ⟨hv,_⟩ | ⟨g,cap,cur,hv,_⟩
  ·exact ⟨_,_,_,hv⟩
  ·exact ⟨_,_,_,hv⟩
 go_wp2
 go_ret2
 refine ⟨rfl,?_,?_,?_⟩
 ·exact Lib.BuilderAt.put (T:=108) (e:=5) hB hb2 (bs':=bs ++ Lib.strCells s) (by simpa [Lib.strCells_length] using hown') (by decide)
 ·exact (hb1.grown hgrow (by have:=hb1.size; omega) (fun k hk=>(hown.lt k hk).1)).setCell (p:=⟨b,1,none⟩) hB _
 ·intro k T cs hk hT hb
  have hb1':=hk1 k T cs hk hb
  refine Blk.other (hb1'.grown hgrow (fun e=>?_)) hk
  rcases hown.2 with ⟨hv,_⟩ | ⟨g,cap,cur,hv,_,hg,_⟩
  ·subst hv; simp [Value.ownBlock] at e
  ·subst hv
   have:g=k:=by simpa [Value.ownBlock] using e
   subst this
   have h2:=hb1'.symm.trans hg
   injection h2 with h2
   injection h2 with _ h2
   exact hT h2
end Go.Ax
noncomputable section
namespace Go.Ax
open Go.RowKit Go.Proofs
theorem Sj {w w':World} (hb:Below w.heap.size w w'):Ev (GhW w) w (GhW w') w' :=
 ⟨fun _ _ h=>(by cases h),fun b o h=>⟨Nat.lt_of_lt_of_le h.1 hb.size,by obtain ⟨v,hv⟩:=h.2; exact ⟨v,(hb.cell (p:=⟨b,o,none⟩) h.1).trans hv⟩⟩,fun b o v h hv=>(hb.cell (p:=⟨b,o,none⟩) h.1).trans hv,fun b arr T fr h=>⟨arr,fr,(hb.block b (Array.getElem?_eq_some_iff.1 h).1).trans h,rfl⟩⟩
theorem V2 {w w':World} (h:GR (GhW w) w gF) (hb:Below w.heap.size w w'):GR (GhW w') w' gF:=h.mono (Sj hb)
theorem jD {k:FuncId} {args:List AV} {t:List UInt8} (h:∀ S,2 ≤ S.next → WC E6 k args S (fun r=>∃ S',r=.ret (Cj t) S' ∧ Ep S S')) (hF:(E6.F k).isSome=true) {w:World} (hg:GR (GhW w) w gF) {vs:List Value} (hv:VRL (GhW w) w args vs) :
  Calls Tryz.prog k vs.toArray w (fun e w'=>e=.returned (.string ⟨⟨t⟩⟩) ∧ Below w.heap.size w w'):=by
 obtain ⟨r,⟨m0,hm⟩,S',rfl,hk⟩:=h St0 (Nat.le_refl _)
 have hc:=hm m0 (Nat.le_refl _)
 have:=O4 e6_ok e6_intr (Ji e6_ok e6_mix) m0 w.heap.size w k args St0 (by show ckN E6 m0 k args St0 ≠ _; rw [hc]; intro e; cases e) (GhW w) w vs (SR.whole w) hg hv hF
 rw [show T6 E6 (Cf E6) m0 k args St0=.ret (Cj t) S' from hc] at this
 refine this.mono fun e w' he=>?_
 obtain ⟨γ',v,h1,h2,h3,rfl⟩:=he
 refine ⟨?_,h1.below⟩
 cases h3
 rfl
def dS (l:List PD) (sep:ByteArray):ByteArray:=⟨⟨Jb l sep.data.toList⟩⟩
def eqTB (d:Nat) (q:PQ):ByteArray:=⟨⟨eqT q⟩⟩
def RdD (w:World) (B:Nat) (v:Value) (es:List PD):Prop:=∃ p c,v=.slice p es.length c ∧ ∃ a,VR (GhW w) w a v ∧ Ik 6 Gt a es
def RdE (w:World) (v:Value) (q:PQ):Prop:=∃ a,VR (GhW w) w a v ∧ Y5 a q
theorem RdD.below {w w':World} {B:Nat} {v:Value} {es:List PD} (h:RdD w B v es) (hb:Below w.heap.size w w'):RdD w' B v es:=by
 obtain ⟨p,c,hv,a,h1,h2⟩:=h
 exact ⟨p,c,hv,a,h1.mono (Sj hb),h2⟩
theorem RdE.below {w w':World} {v:Value} {q:PQ} (h:RdE w v q) (hb:Below w.heap.size w w'):RdE w' v q:=by
 obtain ⟨a,h1,h2⟩:=h
 exact ⟨a,h1.mono (Sj hb),h2⟩
theorem Po (v:Value) (es:List PD) (sep:ByteArray) (w:World) (B:Nat) (hB:B ≤ w.heap.size) (hg:GR (GhW w) w gF) (h:RdD w B v es) (hl:es.length ≤ 1600) (hf:∀ x ∈ es,Rg x) (hs:sep.size ≤ 2) :
  Calls Tryz.prog 60 #[v,.string sep] w fun e w'=>e=.returned (.string (dS es sep)) ∧ Below w.heap.size w w':=by
 obtain ⟨p,c,hv,a,h1,h2⟩:=h
 exact jD (k:=60) (args:=[a,.v (.string ⟨⟨sep.data.toList⟩⟩)]) (t:=Jb es sep.data.toList) (fun S hS=>qO h2 (by omega) hf sep.data.toList hs S hS) (by kernel_rfl) hg (vs:=[v,.string sep]) (VRL.cons h1 (VRL.cons (.v _ rfl) (VRL.nil _ _)))
theorem uN (v:Value) (q:PQ) (w:World) (hg:GR (GhW w) w gF) (h:RdE w v q) (hf:FitQ q) (d:Nat):Calls Tryz.prog 61 #[v] w fun e w'=>e=.returned (.string (eqTB d q)) ∧ Below w.heap.size w w':=by
 obtain ⟨a,h1,h2⟩:=h
 exact jD (k:=61) (args:=[a]) (t:=eqT q) (fun S hS=>eqText_w h2 hf S hS) (by kernel_rfl) hg (vs:=[v]) (VRL.cons h1 (VRL.nil _ _))
structure Nd where
 nm:ByteArray
 pos:Int
 ins:List PD
 outs:List PD
 vars:List PD
 eqs:List PQ
def Lk (n:Nd):ByteArray:=⟨#[110,111,100,101,32]⟩ ++ n.nm ++ ⟨#[40]⟩ ++ dS n.ins ⟨#[44,32]⟩ ++ ⟨#[41,32,114,101,116,117,114,110,115,32,40]⟩ ++ dS n.outs ⟨#[44,32]⟩ ++ ⟨#[41,10]⟩
def Ru (n:Nd):ByteArray:=if 0 < n.vars.length then ⟨#[118,97,114,32]⟩ ++ dS n.vars ⟨#[59,32]⟩ ++ ⟨#[59,10]⟩ else ⟨#[]⟩
def eqL (d:Nat) (q:PQ):ByteArray:=⟨#[32,32]⟩ ++ eqTB d q ++ ⟨#[59,10]⟩
def Ld (l:List ByteArray):ByteArray:=l.foldl (· ++ ·) ⟨#[]⟩
theorem jC (l:List ByteArray) (x:ByteArray):Ld (l ++ [x])=Ld l ++ x:=by unfold Ld; rw [List.foldl_append]; rfl
theorem jB {l:List ByteArray} {j:Nat} {x:ByteArray} (h:l[j]? = some x):Ld (l.take (j + 1))=Ld (l.take j) ++ x:=by rw [List.take_add_one,h]; exact jC _ _
theorem catB_le (l m:List ByteArray):(Ld l).size ≤ (Ld (l ++ m)).size:=by
 induction m generalizing l with
 | nil=>simp
 | cons x r ih=>rw [show l ++ x :: r=(l ++ [x]) ++ r by simp]; exact Nat.le_trans (by rw [jC,ByteArray.size_append]; omega) (ih (l ++ [x]))
theorem Wj (l:List ByteArray) (j:Nat):(Ld (l.take j)).size ≤ (Ld l).size:=by
 have:=catB_le (l.take j) (l.drop j)
 rwa [List.take_append_drop] at this
def Iv (d:Nat) (n:Nd):ByteArray:=Lk n ++ Ru n ++ ⟨#[108,101,116,10]⟩ ++ Ld (n.eqs.map (eqL d)) ++ ⟨#[116,101,108,10]⟩
def Uj (d:Nat) (l:List Nd):ByteArray:=Ld (l.map (Iv d))
def RdQ (w:World) (B d:Nat) (v:Value) (qs:List PQ):Prop :=
 ∃ p c,v=.slice p qs.length c ∧ (qs=[] ∨ ∃ g o,p=some ⟨g,o,none⟩ ∧ g < B ∧
  ∀ i (h:i < qs.length),∃ pL cL k a n nm off sp sl sc,w.cell? ⟨g,o + i * 8,none⟩=some (.slice pL qs[i].left.length cL) ∧ w.cell? ⟨g,o + i * 8 + 1,none⟩=some (.bool qs[i].async) ∧
   w.cell? ⟨g,o + i * 8 + 2,none⟩=some (.int .i64 k) ∧ w.cell? ⟨g,o + i * 8 + 3,none⟩=some (.int .i64 a) ∧ w.cell? ⟨g,o + i * 8 + 4,none⟩=some (.int .i64 n) ∧ w.cell? ⟨g,o + i * 8 + 5,none⟩=some (.string nm) ∧ w.cell? ⟨g,o + i * 8 + 6,none⟩=some (.bool off) ∧ w.cell? ⟨g,o + i * 8 + 7,none⟩=some (.slice sp sl sc) ∧
   RdE w (.agg #[.slice pL qs[i].left.length cL,.bool qs[i].async,.int .i64 k,.int .i64 a,.int .i64 n,.string nm,.bool off,.slice sp sl sc]) qs[i])
def RdN (w:World) (B d:Nat) (v:Value) (ns:List Nd):Prop :=
 ∃ p c,v=.slice p ns.length c ∧ (ns=[] ∨ ∃ g o,p=some ⟨g,o,none⟩ ∧ g < B ∧
  ∀ i (h:i < ns.length),∃ v2 v3 v4 v5,Six w g (o + i * 6) (.string ns[i].nm) (.int .i64 ns[i].pos) v2 v3 v4 v5 ∧ RdD w B v2 ns[i].ins ∧ RdD w B v3 ns[i].outs ∧ RdD w B v4 ns[i].vars ∧ RdQ w B d v5 ns[i].eqs)
def FineN (d:Nat) (n:Nd):Prop:=(n.ins.length ≤ 1600 ∧ ∀ x ∈ n.ins,Rg x) ∧ (n.outs.length ≤ 1600 ∧ ∀ x ∈ n.outs,Rg x) ∧ (n.vars.length ≤ 1600 ∧ ∀ x ∈ n.vars,Rg x) ∧ n.eqs.length ≤ 1600 ∧ ∀ q ∈ n.eqs,FitQ q
theorem hU {w w':World} {B b:Nat} {bs:List Value} (h:Lib.IsBuilder 108 5 B b bs w) (hb:Below w.heap.size w w'):Lib.IsBuilder 108 5 B b bs w':=by
 rcases h with ⟨h1,v,h2,h3,h4⟩ | ⟨h1,v,h2,h3,h4⟩
 ·exact Or.inl ⟨h1,v,(hb.block b (Array.getElem?_eq_some_iff.1 h2).1).trans h2,Tv h3 hb,h4⟩
 ·exact Or.inr ⟨h1,v,(hb.block b (Array.getElem?_eq_some_iff.1 h2).1).trans h2,Tv h3 hb,h4⟩
theorem jX (a b:ByteArray):Lib.strCells a ++ Lib.strCells b=Lib.strCells (a ++ b):=by unfold Lib.strCells; simp
def X5 (w:World) (nb:Nat) (cs:Array Value) (acc:ByteArray) (wx:World):Prop :=
 Below w.heap.size w wx ∧ Blk wx nb 49 cs ∧ Lib.IsBuilder 108 5 w.heap.size w.heap.size (Lib.strCells acc) wx
theorem X5.write {w wx:World} {nb:Nat} {cs:Array Value} {acc s:ByteArray} (h:X5 w nb cs acc wx) (hn:nb ≠ w.heap.size) (hz:acc.size + s.size ≤ 140737488355328) :
  Calls Tryz.prog 59 #[.pointer (some ⟨w.heap.size,0,none⟩),.string s] wx fun e w'=>e=.returned (.tuple #[.int .i64 s.size,.nilIface]) ∧ X5 w nb cs (acc ++ s) w' ∧ ∀ k T cs,k ≠ w.heap.size → T ≠ 5 → Blk wx k T cs → Blk w' k T cs:=by
 refine (zM w.heap.size w.heap.size (Lib.strCells acc) s wx h.2.2 (by rw [Lib.strCells_length]; exact hz) h.1.size).mono ?_
 rintro e w' ⟨rfl,h1,h2,h3⟩
 exact ⟨rfl,⟨h.1.trans h2,h3 _ _ _ hn (by decide) h.2.1,Or.inr (jX acc s ▸ h1)⟩,h3⟩
theorem X5.below {w wx w':World} {nb:Nat} {cs:Array Value} {acc:ByteArray} (h:X5 w nb cs acc wx) (hb:Below wx.heap.size wx w'):X5 w nb cs acc w' :=
 ⟨h.1.trans (hb.mono h.1.size),h.2.1.below hb,hU h.2.2 hb⟩
theorem X5.drew {w wx:World} {nb:Nat} {cs:Array Value} {acc:ByteArray} (h:X5 w nb cs acc wx):X5 w nb cs acc wx.drew:=h.below ((Below.refl _ _).drew)
set_option maxHeartbeats 8000000 in
set_option maxRecDepth 100000 in
theorem print_any (v:Value) (ns:List Nd) (w:World) (B d:Nat) (hd:d ≤ 6) (hB:B ≤ w.heap.size) (hp:GR (GhW w) w gF) (hv:RdN w B d v ns) (hf:∀ x ∈ ns,FineN d x) (hl:ns.length ≤ 1600) (hz:(Uj d ns).size ≤ 100000000000000) :
  Calls Tryz.prog 20 #[v] w fun e w'=>e=.returned (.string (Uj d ns)) ∧ Below w.heap.size w w':=by
 obtain ⟨p,c,rfl,hor⟩:=hv
 have HOR:=Lib.hid hor; have HF:=Lib.hid hf; have HP:=Lib.hid hp; have HZ:=Lib.hid hz
 clear hor hf hp hz
 obtain ⟨n,hn⟩:∃ n,ns.length=n:=⟨_,rfl⟩
 have HN:=Lib.hid hn
 rw [hn] at hl ⊢
 clear hn
 go_enter Tryz.func20,Tryz.ntmps20
 go_wp2_with fail
 generalize hW:w.alloc _=W0
 have HB0:=Lib.hid (show Below w.heap.size w W0 by rw [← hW]; exact (Below.refl _ _).alloc (Nat.le_refl _) _)
 have HI0:=Lib.hid (show Lib.IsBuilder 108 5 w.heap.size w.heap.size (Lib.strCells (Ld ((ns.map (Iv d)).take 0))) W0 by rw [← hW]; exact Lib.fresh_isBuilder 108 5 w)
 clear hW
 go_loopw [10] (fun t wr=>∃ j:Nat,t=.int .i64 j ∧ j ≤ n ∧ Below w.heap.size w wr ∧ Lib.IsBuilder 108 5 w.heap.size w.heap.size (Lib.strCells (Ld ((ns.map (Iv d)).take j))) wr) (fun t _=>n - (intOf t).toNat)
 case atStart=>exact ⟨0,rfl,Nat.zero_le _,HB0.out,HI0.out⟩
 case round =>
  obtain ⟨j,rfl,hj,hbr,hib⟩:=hrel
  have HBR:=Lib.hid hbr; have HIB:=Lib.hid hib; clear hbr hib
  by_cases hl1:j < n
  ·have hlt:j < ns.length:=HN.out ▸ hl1
   obtain ⟨g,o,rfl,hg,h6⟩:∃ g o,p=some ⟨g,o,none⟩ ∧ g < B ∧ ∀ i (h:i < ns.length),∃ v2 v3 v4 v5,Six w g (o + i * 6) (.string ns[i].nm) (.int .i64 ns[i].pos) v2 v3 v4 v5 ∧ RdD w B v2 ns[i].ins ∧ RdD w B v3 ns[i].outs ∧ RdD w B v4 ns[i].vars ∧ RdQ w B d v5 ns[i].eqs:=by
    rcases HOR.out with h0 | h
    ·subst h0; cases hlt
    ·exact h
   obtain ⟨v2,v3,v4,v5,h6j,hr2,hr3,hr4,hr5⟩:=h6 j hlt
   have HFJ:=Lib.hid (HF.out _ (List.getElem_mem hlt))
   have htj:(ns.map (Iv d))[j]? = some (Iv d ns[j]):=by rw [List.getElem?_map,List.getElem?_eq_getElem hlt]; rfl
   have HTK:=Lib.hid (jB htj)
   have HZ1:=Lib.hid (show (Ld ((ns.map (Iv d)).take (j + 1))).size ≤ 100000000000000 from Nat.le_trans (Wj _ _) HZ.out)
   obtain ⟨N,hN⟩:∃ N,ns[j]=N:=⟨_,rfl⟩
   rw [hN] at h6j hr2 hr3 hr4 hr5 HFJ HTK
   generalize Ld ((ns.map (Iv d)).take j)=A at *
   rw [HTK.out] at HZ1
   have hHT:Lk N=Lk N:=rfl
   obtain ⟨e0,e1,e2,e3,e4,e5⟩:=zX (h6j.below HBR.out (Nat.lt_of_lt_of_le hg hB))
   clear h6 h6j hN hlt hg htj hHT
   obtain ⟨p2,c2,rfl,hq2⟩:=hr2
   obtain ⟨p3,c3,rfl,hq3⟩:=hr3
   obtain ⟨p4,c4,rfl,hq4⟩:=hr4
   obtain ⟨p5,c5,rfl,hq5⟩:=hr5
   have H2:=Lib.hid (show RdD w B (.slice p2 N.ins.length c2) N.ins from ⟨p2,c2,rfl,hq2⟩)
   have H3:=Lib.hid (show RdD w B (.slice p3 N.outs.length c3) N.outs from ⟨p3,c3,rfl,hq3⟩)
   have H4:=Lib.hid (show RdD w B (.slice p4 N.vars.length c4) N.vars from ⟨p4,c4,rfl,hq4⟩)
   have H5:=Lib.hid hq5
   clear hq2 hq3 hq4 hq5
   obtain ⟨n2,hn2⟩:∃ x,N.ins.length=x:=⟨_,rfl⟩
   obtain ⟨n3,hn3⟩:∃ x,N.outs.length=x:=⟨_,rfl⟩
   obtain ⟨n4,hn4⟩:∃ x,N.vars.length=x:=⟨_,rfl⟩
   obtain ⟨n5,hn5⟩:∃ x,N.eqs.length=x:=⟨_,rfl⟩
   rw [hn2] at H2 e2; rw [hn3] at H3 e3; rw [hn4] at H4 e4; rw [hn5] at e5
   have HN4:=Lib.hid hn4; have HN5:=Lib.hid hn5
   clear hn2 hn3 hn4 hn5
   obtain ⟨nm,hnm⟩:∃ x,N.nm=x:=⟨_,rfl⟩
   obtain ⟨pos,hpos⟩:∃ x,N.pos=x:=⟨_,rfl⟩
   rw [hnm] at e0; rw [hpos] at e1
   have HNM:=Lib.hid hnm
   clear hnm hpos
   go_upto_region 5 with fail
   generalize hV:wr.alloc _=V1
   have HS0:=Lib.hid (show X5 w wr.heap.size #[.string nm,.int .i64 pos,.slice p2 n2 c2,.slice p3 n3 c3,.slice p4 n4 c4,.slice p5 n5 c5] A V1 by rw [← hV]; exact ⟨HBR.out.alloc HBR.out.size _,Blk.new _ _ _,hU HIB.out ((Below.refl _ _).alloc (Nat.le_refl _) _)⟩)
   have HNB:=Lib.hid (show wr.heap.size ≠ w.heap.size from by
    have h1:w.heap.size < wr.heap.size:=by
     rcases HIB.out with ⟨_,v,h2,_⟩ | ⟨_,v,h2,_⟩ <;> exact (Array.getElem?_eq_some_iff.1 h2).1
    omega)
   clear hV e0 e1 e2 e3 e4 e5
   obtain ⟨nb,hnb⟩:∃ nb,wr.heap.size=nb:=⟨_,rfl⟩
   rw [hnb] at HS0 HNB ⊢
   clear hnb
   go_cut [] (fun wx=>X5 w nb #[.string nm,.int .i64 pos,.slice p2 n2 c2,.slice p3 n3 c3,.slice p4 n4 c4,.slice p5 n5 c5] (A ++ Lk N) wx)
   case first =>
    have hzs:A.size + (Iv d N).size ≤ 100000000000000:=by have:=HZ1.out; rwa [ByteArray.size_append] at this
    have hzh:(Lk N).size ≤ (Iv d N).size:=by unfold Iv; simp only [ByteArray.size_append]; omega
    have hzp:5 + nm.size + 1 + (dS N.ins ⟨#[44,32]⟩).size + 11 + (dS N.outs ⟨#[44,32]⟩).size + 2 ≤ (Lk N).size:=by
     rw [← HNM.out]; unfold Lk; simp only [ByteArray.size_append]; exact Nat.le_refl _
    obtain ⟨J2,hJ2⟩:∃ x,dS N.ins ⟨#[44,32]⟩=x:=⟨_,rfl⟩
    obtain ⟨J3,hJ3⟩:∃ x,dS N.outs ⟨#[44,32]⟩=x:=⟨_,rfl⟩
    have HJ2:=Lib.hid hJ2; have HJ3:=Lib.hid hJ3
    rw [hJ2,hJ3] at hzp
    clear hJ2 hJ3
    have g1:¬ 9223372036854775807 < 5 + nm.size:=by omega
    have g2:¬ 9223372036854775807 < 5 + nm.size + 1:=by omega
    have g3:¬ 9223372036854775807 < 5 + nm.size + 1 + J2.size:=by omega
    have g4:¬ 9223372036854775807 < 5 + nm.size + 1 + J2.size + 11:=by omega
    have g5:¬ 9223372036854775807 < 5 + nm.size + 1 + J2.size + 11 + J3.size:=by omega
    have g6:¬ 9223372036854775807 < 5 + nm.size + 1 + J2.size + 11 + J3.size + 2:=by omega
    have yx:=fun w' (h:Below w.heap.size w w' ∧ Blk w' nb 49 #[.string nm,.int .i64 pos,.slice p2 n2 c2,.slice p3 n3 c3,.slice p4 n4 c4,.slice p5 n5 c5])=>h.2.six
    have hS0:Below w.heap.size w V1 ∧ Blk V1 nb 49 #[.string nm,.int .i64 pos,.slice p2 n2 c2,.slice p3 n3 c3,.slice p4 n4 c4,.slice p5 n5 c5]:=⟨HS0.out.1,HS0.out.2.1⟩
    refine wp_region_held_drew (S:=fun w'=>Below w.heap.size w w' ∧ Blk w' nb 49 #[.string nm,.int .i64 pos,.slice p2 n2 c2,.slice p3 n3 c3,.slice p4 n4 c4,.slice p5 n5 c5]) (by kernel_rfl) ⟨HS0.out.drew.1,HS0.out.drew.2.1⟩ (fun hS1=>?_)
    refine wpAnyH_take (i:=0) (v:=?nv0) rfl (by kernel_rfl) (by kernel_rfl) (by kernel_rfl) (fun _ _ _ h=>h) (Or.inl ⟨by rfl,?ny0⟩) hS1 ?nr0
    case ny0=>(intro w hSw; (try dsimp only at hSw); go_simp; (try with_reducible rfl))
    try simp only [Act.put,List.getElem_toArray,List.getElem_cons_succ,List.getElem_cons_zero,List.setIfInBounds_toArray,List.set_cons_zero,List.set_cons_succ]
    refine wpAnyH_take (i:=1) (v:=?nv1) rfl (by kernel_rfl) (by kernel_rfl) (by kernel_rfl) (fun _ _ _ h=>h) (Or.inl ⟨by rfl,?ny1⟩) hS1 ?nr1
    case ny1=>(intro w hSw; (try dsimp only at hSw); go_simp; (try with_reducible rfl))
    try simp only [Act.put,List.getElem_toArray,List.getElem_cons_succ,List.getElem_cons_zero,List.setIfInBounds_toArray,List.set_cons_zero,List.set_cons_succ]
    refine wpAnyH_take (i:=2) (v:=?nv2) rfl (by kernel_rfl) (by kernel_rfl) (by kernel_rfl) (fun _ _ _ h=>h) (Or.inl ⟨by rfl,?ny2⟩) hS1 ?nr2
    case ny2=>(intro w hSw; (try dsimp only at hSw); go_simp; (try with_reducible rfl))
    try simp only [Act.put,List.getElem_toArray,List.getElem_cons_succ,List.getElem_cons_zero,List.setIfInBounds_toArray,List.set_cons_zero,List.set_cons_succ]
    refine wpAnyH_take (i:=3) (v:=?nv3) rfl (by kernel_rfl) (by kernel_rfl) (by kernel_rfl) (fun _ _ _ h=>h) (Or.inl ⟨by rfl,?ny3⟩) hS1 ?nr3
    case ny3=>(intro w hSw; (try dsimp only at hSw); go_simp; (try with_reducible rfl))
    try simp only [Act.put,List.getElem_toArray,List.getElem_cons_succ,List.getElem_cons_zero,List.setIfInBounds_toArray,List.set_cons_zero,List.set_cons_succ]
    refine wpAnyH_take (i:=4) (v:=?nv4) rfl (by kernel_rfl) (by kernel_rfl) (by kernel_rfl) (fun _ _ _ h=>h) (Or.inl ⟨by rfl,?ny4⟩) hS1 ?nr4
    case ny4=>(intro w hSw; (try dsimp only at hSw); go_simp; (try with_reducible rfl))
    try simp only [Act.put,List.getElem_toArray,List.getElem_cons_succ,List.getElem_cons_zero,List.setIfInBounds_toArray,List.set_cons_zero,List.set_cons_succ]
    refine wpAnyH_take (i:=5) (v:=?nv5) rfl (by kernel_rfl) (by kernel_rfl) (by kernel_rfl) (fun _ _ _ h=>h) (Or.inl ⟨by rfl,?ny5⟩) hS1 ?nr5
    case ny5=>(intro w hSw; (try dsimp only at hSw); go_simp; (try with_reducible rfl))
    try simp only [Act.put,List.getElem_toArray,List.getElem_cons_succ,List.getElem_cons_zero,List.setIfInBounds_toArray,List.set_cons_zero,List.set_cons_succ]
    refine wpAnyH_take (i:=9) (v:=?nv9) rfl (by kernel_rfl) (by kernel_rfl) (by kernel_rfl) (fun _ _ _ h=>h) (Or.inl ⟨by rfl,?ny9⟩) hS1 ?nr9
    case ny9=>(intro w hSw; (try dsimp only at hSw); go_simp; (try with_reducible rfl))
    try simp only [Act.put,List.getElem_toArray,List.getElem_cons_succ,List.getElem_cons_zero,List.setIfInBounds_toArray,List.set_cons_zero,List.set_cons_succ]
    refine wpAnyH_take (i:=10) (v:=?nv10) rfl (by kernel_rfl) (by kernel_rfl) (by kernel_rfl) (fun _ _ _ h=>h) (Or.inl ⟨by rfl,?ny10⟩) hS1 ?nr10
    case ny10=>(intro w hSw; (try dsimp only at hSw); go_simp; (try with_reducible rfl))
    try simp only [Act.put,List.getElem_toArray,List.getElem_cons_succ,List.getElem_cons_zero,List.setIfInBounds_toArray,List.set_cons_zero,List.set_cons_succ]
    refine wpAnyH_ready (rs:=[6]) (by kernel_rfl) (by simp) ?_
    refine AllReadyH.cons rfl (fun K hK=>?_) AllReadyH.nil
    go_simp
    refine (Po _ N.ins _ V1.drew B (Nat.le_trans hB HS0.out.drew.1.size) (V2 HP.out HS0.out.drew.1) (H2.out.below HS0.out.drew.1) HFJ.out.1.1 HFJ.out.1.2 (by decide)).mono ?_
    rintro e w2 ⟨rfl,hb2⟩
    have HS2:=Lib.hid (HS0.out.drew.below hb2)
    rw [HJ2.out]
    refine hK.out _ _ ⟨HS2.out.1,HS2.out.2.1⟩ (fun _=>?_)
    have hS2:Below w.heap.size w w2 ∧ Blk w2 nb 49 #[.string nm,.int .i64 pos,.slice p2 n2 c2,.slice p3 n3 c3,.slice p4 n4 c4,.slice p5 n5 c5]:=⟨HS2.out.1,HS2.out.2.1⟩
    clear hK K hb2
    try simp only [Act.put,List.getElem_toArray,List.getElem_cons_succ,List.getElem_cons_zero,List.setIfInBounds_toArray,List.set_cons_zero,List.set_cons_succ]
    refine wpAnyH_take (i:=7) (v:=?nv7) rfl (by kernel_rfl) (by kernel_rfl) (by kernel_rfl) (fun _ _ _ h=>h) (Or.inl ⟨by rfl,?ny7⟩) hS2 ?nr7
    case ny7=>(intro w hSw; (try dsimp only at hSw); go_simp; (try with_reducible rfl))
    try simp only [Act.put,List.getElem_toArray,List.getElem_cons_succ,List.getElem_cons_zero,List.setIfInBounds_toArray,List.set_cons_zero,List.set_cons_succ]
    refine wpAnyH_take (i:=8) (v:=?nv8) rfl (by kernel_rfl) (by kernel_rfl) (by kernel_rfl) (fun _ _ _ h=>h) (Or.inl ⟨by rfl,?ny8⟩) hS2 ?nr8
    case ny8=>(intro w hSw; (try dsimp only at hSw); go_simp; (try with_reducible rfl))
    try simp only [Act.put,List.getElem_toArray,List.getElem_cons_succ,List.getElem_cons_zero,List.setIfInBounds_toArray,List.set_cons_zero,List.set_cons_succ]
    refine wpAnyH_ready (rs:=[11]) (by kernel_rfl) (by simp) ?_
    refine AllReadyH.cons rfl (fun K hK=>?_) AllReadyH.nil
    go_simp
    refine (Po _ N.outs _ w2 B (Nat.le_trans hB HS2.out.1.size) (V2 HP.out HS2.out.1) (H3.out.below HS2.out.1) HFJ.out.2.1.1 HFJ.out.2.1.2 (by decide)).mono ?_
    rintro e w3 ⟨rfl,hb3⟩
    have HS3:=Lib.hid (HS2.out.below hb3)
    rw [HJ3.out]
    refine hK.out _ _ ⟨HS3.out.1,HS3.out.2.1⟩ (fun _=>?_)
    have hS3:Below w.heap.size w w3 ∧ Blk w3 nb 49 #[.string nm,.int .i64 pos,.slice p2 n2 c2,.slice p3 n3 c3,.slice p4 n4 c4,.slice p5 n5 c5]:=⟨HS3.out.1,HS3.out.2.1⟩
    clear hK K hb3
    try simp only [Act.put,List.getElem_toArray,List.getElem_cons_succ,List.getElem_cons_zero,List.setIfInBounds_toArray,List.set_cons_zero,List.set_cons_succ]
    refine wpAnyH_take (i:=12) (v:=?nv12) rfl (by kernel_rfl) (by kernel_rfl) (by kernel_rfl) (fun _ _ _ h=>h) (Or.inl ⟨by rfl,?ny12⟩) hS3 ?nr12
    case ny12=>(intro w hSw; (try dsimp only at hSw); go_simp; (try with_reducible rfl))
    try simp only [Act.put,List.getElem_toArray,List.getElem_cons_succ,List.getElem_cons_zero,List.setIfInBounds_toArray,List.set_cons_zero,List.set_cons_succ]
    refine wpAnyH_take (i:=13) (v:=?nv13) rfl (by kernel_rfl) (by kernel_rfl) (by kernel_rfl) (fun _ _ _ h=>h) (Or.inl ⟨by rfl,?ny13⟩) hS3 ?nr13
    case ny13=>(intro w hSw; (try dsimp only at hSw); go_simp; (try with_reducible rfl))
    try simp only [Act.put,List.getElem_toArray,List.getElem_cons_succ,List.getElem_cons_zero,List.setIfInBounds_toArray,List.set_cons_zero,List.set_cons_succ]
    have HEQ:=Lib.hid (show (⟨#[110,111,100,101,32]⟩ ++ nm ++ ⟨#[40]⟩ ++ J2 ++ ⟨#[41,32,114,101,116,117,114,110,115,32,40]⟩ ++ J3 ++ ⟨#[41,10]⟩:ByteArray)=Lk N by unfold Lk; rw [HNM.out,HJ2.out,HJ3.out])
    refine wpAnyH_ready (rs:=[14]) (by kernel_rfl) (by simp) ?_
    refine AllReadyH.cons rfl (fun K hK=>?_) AllReadyH.nil
    go_simp
    rw [HEQ.out]
    refine (HS3.out.write HNB.out (by omega)).mono ?_
    rintro e w4 ⟨rfl,hst,hkp⟩
    refine hK.out _ _ ⟨hst.1,hst.2.1⟩ (fun _=>?_)
    clear hK K hkp
    try simp only [Act.put,List.getElem_toArray,List.getElem_cons_succ,List.getElem_cons_zero,List.setIfInBounds_toArray,List.set_cons_zero,List.set_cons_succ]
    refine wpAnyH_done (by kernel_rfl) ?_ _
    go_wp2_with fail
    go_meet
    exact hst
   case rest =>
    have HS5:=Lib.hid hcut
    clear HS0 hcut
    obtain ⟨v0,v1,v2,v3,v4,v5⟩:=HS5.out.2.1.six
    have hzs:A.size + (Iv d N).size ≤ 100000000000000:=by have:=HZ1.out; rwa [ByteArray.size_append] at this
    have hzn:(Lk N).size + (Ru N).size + 4 + (Ld (N.eqs.map (eqL d))).size + 4=(Iv d N).size:=by unfold Iv; simp only [ByteArray.size_append]; rfl
    have HZS:=Lib.hid hzs; have HZN:=Lib.hid hzn
    clear hzs hzn
    go_upto_if 32 with fail
    go_cut [] (fun wx=>X5 w nb #[.string nm,.int .i64 pos,.slice p2 n2 c2,.slice p3 n3 c3,.slice p4 n4 c4,.slice p5 n5 c5] (A ++ Lk N ++ Ru N) wx)
    case first =>
     by_cases h4:0 < n4
     ·have hd4:decide (0 < n4)=true:=by simpa using h4
      have hv4:Ru N=⟨#[118,97,114,32]⟩ ++ dS N.vars ⟨#[59,32]⟩ ++ ⟨#[59,10]⟩:=by unfold Ru; rw [if_pos (HN4.out ▸ h4)]
      obtain ⟨J4,hJ4⟩:∃ x,dS N.vars ⟨#[59,32]⟩=x:=⟨_,rfl⟩
      have hzv:4 + J4.size + 2=(Ru N).size:=by rw [hv4,hJ4]; simp only [ByteArray.size_append]; rfl
      have HJ4:=Lib.hid hJ4; have HV4:=Lib.hid (hJ4 ▸ hv4)
      have g1:¬ 9223372036854775807 < 4 + J4.size:=by have:=HZS.out; have:=HZN.out; omega
      have g2:¬ 9223372036854775807 < 4 + J4.size + 2:=by have:=HZS.out; have:=HZN.out; omega
      clear hJ4 hv4
      go_wp2_with fail
      refine (Po _ N.vars ⟨#[59,32]⟩ _ B (Nat.le_trans hB HS5.out.1.size) (V2 HP.out HS5.out.1) (H4.out.below HS5.out.1) HFJ.out.2.2.1.1 HFJ.out.2.2.1.2 (by decide)).mono ?_
      rintro e w2 ⟨rfl,hb2⟩
      have HS2:=Lib.hid (HS5.out.below hb2)
      rw [HJ4.out]
      clear hb2
      go_wp2_with fail
      have hst:=HS2.out.write (s:=Ru N) HNB.out (by have:=HZS.out; have:=HZN.out; simp only [ByteArray.size_append]; omega)
      rw [HV4.out] at hst
      refine hst.mono ?_
      rintro e w4 ⟨rfl,hst,hkp⟩
      rw [← HV4.out] at hst
      have HS6:=Lib.hid hst
      clear hst hkp
      go_wp2_with fail
      go_meet
      exact HS6.out
     ·have hd4:decide (0 < n4)=false:=by simpa using h4
      have hv4:Ru N=⟨#[]⟩:=by unfold Ru; rw [if_neg (HN4.out ▸ h4)]
      have HV4:=Lib.hid hv4
      clear hv4
      go_wp2_with fail
      go_meet
      rw [HV4.out]
      have e:A ++ Lk N ++ ⟨#[]⟩=A ++ Lk N:=by apply ByteArray.ext; simp
      rw [e]
      exact HS5.out
    case rest =>
     have HS6:=Lib.hid hcut
     clear HS5 hcut v0 v1 v2 v3 v4 v5
     go_wp2_with fail
     refine (HS6.out.write (s:=⟨#[108,101,116,10]⟩) HNB.out (by have:=HZS.out; have:=HZN.out; have:(⟨#[108,101,116,10]⟩:ByteArray).size=4:=rfl; simp only [ByteArray.size_append]; omega)).mono ?_
     rintro e w4 ⟨rfl,hst,hkp⟩
     have HS7:=Lib.hid hst
     clear hst hkp
     obtain ⟨v0,v1,v2,v3,v4,v5⟩:=HS7.out.2.1.six
     obtain ⟨A2,hA2⟩:∃ x,A ++ Lk N ++ Ru N ++ ⟨#[108,101,116,10]⟩=x:=⟨_,rfl⟩
     have HA2:=Lib.hid hA2
     have hz2:A2.size + (Ld (N.eqs.map (eqL d))).size + 4 ≤ 100000000000000:=by
      have:=HZS.out; have:=HZN.out; have:(⟨#[108,101,116,10]⟩:ByteArray).size=4:=rfl
      rw [← hA2]; simp only [ByteArray.size_append]; omega
     rw [hA2] at HS7
     have HZ2:=Lib.hid hz2
     clear hA2 hz2
     have hn5:n5 ≤ 1600:=HN5.out ▸ HFJ.out.2.2.2.1
     go_wp2_with fail
     go_loopw [43] (fun t wr=>∃ i:Nat,t=.int .i64 i ∧ i ≤ n5 ∧ X5 w nb #[.string nm,.int .i64 pos,.slice p2 n2 c2,.slice p3 n3 c3,.slice p4 n4 c4,.slice p5 n5 c5] (A2 ++ Ld ((N.eqs.map (eqL d)).take i)) wr) (fun t _=>n5 - (intOf t).toNat)
     case atStart=>exact ⟨0,rfl,Nat.zero_le _,by
      have e:A2 ++ Ld ((N.eqs.map (eqL d)).take 0)=A2:=by apply ByteArray.ext; simp [Ld]
      rw [e]; exact HS7.out⟩
     case round =>
      obtain ⟨i,rfl,hi,hst⟩:=hrel
      have HS8:=Lib.hid hst
      clear hst v0 v1 v2 v3 v4 v5 HS7 HS6
      by_cases hl2:i < n5
      ·have hlt2:i < N.eqs.length:=HN5.out ▸ hl2
       obtain ⟨g5,o5,rfl,hg5,hq⟩:∃ g o,p5=some ⟨g,o,none⟩ ∧ g < B ∧ ∀ i (h:i < N.eqs.length),∃ pL cL k a n nm off sp sl sc,w.cell? ⟨g,o + i * 8,none⟩=some (.slice pL N.eqs[i].left.length cL) ∧ w.cell? ⟨g,o + i * 8 + 1,none⟩=some (.bool N.eqs[i].async) ∧
         w.cell? ⟨g,o + i * 8 + 2,none⟩=some (.int .i64 k) ∧ w.cell? ⟨g,o + i * 8 + 3,none⟩=some (.int .i64 a) ∧ w.cell? ⟨g,o + i * 8 + 4,none⟩=some (.int .i64 n) ∧ w.cell? ⟨g,o + i * 8 + 5,none⟩=some (.string nm) ∧ w.cell? ⟨g,o + i * 8 + 6,none⟩=some (.bool off) ∧ w.cell? ⟨g,o + i * 8 + 7,none⟩=some (.slice sp sl sc) ∧
         RdE w (.agg #[.slice pL N.eqs[i].left.length cL,.bool N.eqs[i].async,.int .i64 k,.int .i64 a,.int .i64 n,.string nm,.bool off,.slice sp sl sc]) N.eqs[i]:=by
        rcases H5.out with h0 | h
        ·rw [h0] at hlt2; cases hlt2
        ·exact h
       obtain ⟨pL,cL,k,a,m,nme,off,sp,sl,sc,q0,q1,q2,q3,q4,q5,q6,q7,hE⟩:=hq i hlt2
       have HFQ:=Lib.hid (HFJ.out.2.2.2.2 _ (List.getElem_mem hlt2))
       have hti:(N.eqs.map (eqL d))[i]? = some (eqL d N.eqs[i]):=by rw [List.getElem?_map,List.getElem?_eq_getElem hlt2]; rfl
       have HTI:=Lib.hid (jB hti)
       have hzi:(Ld ((N.eqs.map (eqL d)).take (i + 1))).size ≤ (Ld (N.eqs.map (eqL d))).size:=Wj _ _
       rw [HTI.out,ByteArray.size_append] at hzi
       obtain ⟨Q,hQ⟩:∃ Q,N.eqs[i]=Q:=⟨_,rfl⟩
       rw [hQ] at q0 q1 hE HFQ HTI hzi
       generalize Ld ((N.eqs.map (eqL d)).take i)=A3 at *
       have hb8:=HS8.out.1
       have hlw:g5 < w.heap.size:=Nat.lt_of_lt_of_le hg5 hB
       have c0:=(hb8.cell (p:=⟨g5,o5 + i * 8,none⟩) hlw).trans q0
       have c1:=(hb8.cell (p:=⟨g5,o5 + i * 8 + 1,none⟩) hlw).trans q1
       have c2':=(hb8.cell (p:=⟨g5,o5 + i * 8 + 2,none⟩) hlw).trans q2
       have c3':=(hb8.cell (p:=⟨g5,o5 + i * 8 + 3,none⟩) hlw).trans q3
       have c4':=(hb8.cell (p:=⟨g5,o5 + i * 8 + 4,none⟩) hlw).trans q4
       have c5':=(hb8.cell (p:=⟨g5,o5 + i * 8 + 5,none⟩) hlw).trans q5
       have c6:=(hb8.cell (p:=⟨g5,o5 + i * 8 + 6,none⟩) hlw).trans q6
       have c7:=(hb8.cell (p:=⟨g5,o5 + i * 8 + 7,none⟩) hlw).trans q7
       have HE:=Lib.hid hE
       obtain ⟨eT,heT⟩:∃ x,eqTB d Q=x:=⟨_,rfl⟩
       have hze:2 + eT.size + 2=(eqL d Q).size:=by unfold eqL; rw [heT]; simp only [ByteArray.size_append]; rfl
       have HEL:=Lib.hid (show ⟨#[32,32]⟩ ++ eT ++ ⟨#[59,10]⟩=eqL d Q by unfold eqL; rw [heT])
       have HET:=Lib.hid heT
       have f1:¬ 9223372036854775807 < 2 + eT.size:=by have:=HZ2.out; omega
       have f2:¬ 9223372036854775807 < 2 + eT.size + 2:=by have:=HZ2.out; omega
       have HZI:=Lib.hid hzi
       clear q0 q1 q2 q3 q4 q5 q6 q7 hq hQ hE hti hb8 heT hze hzi hlt2 hlw
       go_upto_region 12 with fail
       generalize hX:wr.alloc _=X1
       have HB9:=Lib.hid (show Below wr.heap.size wr X1 by rw [← hX]; exact (Below.refl _ _).alloc (Nat.le_refl _) _)
       have HX1:=Lib.hid (show Blk X1 wr.heap.size 57 #[.slice pL Q.left.length cL,.bool Q.async,.int .i64 k,.int .i64 a,.int .i64 m,.string nme,.bool off,.slice sp sl sc] by rw [← hX]; exact Blk.new _ _ _)
       clear hX c0 c1 c2' c3' c4' c5' c6 c7
       have HS9:=Lib.hid (HS8.out.below HB9.out)
       have x0:=HX1.out.cell (o:=0) (v:=.slice pL Q.left.length cL) rfl
       have x1:=HX1.out.cell (o:=1) (v:=.bool Q.async) rfl
       have x2:=HX1.out.cell (o:=2) (v:=.int .i64 k) rfl
       have x3:=HX1.out.cell (o:=3) (v:=.int .i64 a) rfl
       have x4:=HX1.out.cell (o:=4) (v:=.int .i64 m) rfl
       have x5:=HX1.out.cell (o:=5) (v:=.string nme) rfl
       have x6:=HX1.out.cell (o:=6) (v:=.bool off) rfl
       have x7:=HX1.out.cell (o:=7) (v:=.slice sp sl sc) rfl
       go_wp2_with fail
       refine (uN _ Q _ (V2 HP.out HS9.out.1) (HE.out.below HS9.out.1) HFQ.out d).mono ?_
       rintro e w10 ⟨rfl,hb10⟩
       have HS10:=Lib.hid (HS9.out.below hb10)
       rw [HET.out]
       clear hb10
       go_wp2_with fail
       have hst:=HS10.out.write (s:=eqL d Q) HNB.out (by have:=HZ2.out; have:=HZI.out; simp only [ByteArray.size_append]; omega)
       rw [← HEL.out] at hst
       refine hst.mono ?_
       rintro e w11 ⟨rfl,hst,hkp⟩
       rw [HEL.out] at hst
       have HS11:=Lib.hid hst
       clear hst hkp
       go_wp2_with fail
       go_roundw
       case rel=>exact ⟨i + 1,by go_num,by omega,by
        have e:A2 ++ Ld ((N.eqs.map (eqL d)).take (i + 1))=A2 ++ A3 ++ eqL d Q:=by rw [HTI.out,ByteArray.append_assoc]
        rw [e]; exact HS11.out⟩
       case measure=>simp [intOf]; omega
      ·have hie:i=n5:=by omega
       subst hie
       have ht:(N.eqs.map (eqL d)).take i=N.eqs.map (eqL d):=by rw [← HN5.out,← List.length_map (f:=eqL d)]; exact List.take_length
       rw [ht] at HS8
       clear ht
       go_wp2_with fail
       refine (HS8.out.write (s:=⟨#[116,101,108,10]⟩) HNB.out (by have:=HZ2.out; have:(⟨#[116,101,108,10]⟩:ByteArray).size=4:=rfl; simp only [ByteArray.size_append]; omega)).mono ?_
       rintro e w9 ⟨rfl,hst,hkp⟩
       have HS9:=Lib.hid hst
       clear hst hkp
       go_wp2_with fail
       go_roundw
       case rel=>exact ⟨j + 1,by go_num,by omega,HS9.out.1,by
        have e:A2 ++ Ld (N.eqs.map (eqL d)) ++ ⟨#[116,101,108,10]⟩=A ++ Iv d N:=by rw [← HA2.out]; unfold Iv; simp only [ByteArray.append_assoc]
        rw [HTK.out,← e]; exact HS9.out.2.2⟩
       case measure=>simp [intOf]; omega
  ·have hje:j=n:=by omega
   subst hje
   have ht:(ns.map (Iv d)).take j=ns.map (Iv d):=by rw [← HN.out,← List.length_map (f:=Iv d)]; exact List.take_length
   rw [ht] at HIB
   clear ht
   go_wp2_with fail
   rw [Lib.strCells_eq] at HIB
   refine (Tryz.Builder_String_any w.heap.size w.heap.size _ _ HIB.out HBR.out.size).mono ?_
   rintro e w2 ⟨rfl,hb2⟩
   have HB2:=Lib.hid (HBR.out.trans hb2)
   clear hb2
   go_wp2_with fail
   go_ret
   exact ⟨rfl,HB2.out⟩
end Go.Ax
noncomputable section
namespace Go.Ax
open Go.RowKit Go.Proofs
set_option maxRecDepth 100000
theorem cellAt {γ:Gh} {w:World} {es:List AV} {sz b o:Nat} {c:Nat → Value} (hes:∀ e ∈ es,e.cells.length=sz) (h:∀ k,k < (Dx es).length → γ.im b (o + k) ∧ w.cell? ⟨b,o + k,none⟩=some (c k))
  (hr:∀ k (h:k < (Dx es).length),VR γ w (Dx es)[k] (c k)) {i:Nat} {x:AV} (hx:es[i]? = some x) {k:Nat} (hk:k < sz) {a:AV} (ha:x.cells[k]? = some a):∃ v,w.cell? ⟨b,o + i * sz + k,none⟩=some v ∧ VR γ w a v:=by
 obtain ⟨h1,h2⟩:=lU hes hx
 have hlt:i * sz + k < (Dx es).length:=by omega
 have e:=h2 k hk
 rw [ha,List.getElem?_eq_getElem hlt] at e
 injection e with e
 have:=hr _ hlt
 rw [e] at this
 exact ⟨_,by rw [Nat.add_assoc]; exact (h _ hlt).2,this⟩
theorem vr_str {γ:Gh} {w:World} {l:List UInt8} {v:Value} (h:VR γ w (Cj l) v):v=.string ⟨⟨l⟩⟩:=by cases h; rfl
theorem jS {γ:Gh} {w:World} {n:Int} {v:Value} (h:VR γ w (.v (.int .i64 n)) v):v=.int .i64 n:=by cases h; rfl
theorem vS {γ:Gh} {w:World} {b:Bool} {v:Value} (h:VR γ w (.v (.bool b)) v):v=.bool b:=by cases h; rfl
theorem vr_row {γ:Gh} {w:World} {α:Type} {sz:Nat} {A:α → AV} {a:AV} {l:List α} (hr:Ik sz A a l) {v:Value} (h:VR γ w a v):∃ p c,v=.slice p l.length c:=by
 rcases hr with ⟨rfl,rfl⟩ | ⟨tok,off,rfl⟩
 ·cases h; exact ⟨_,_,rfl⟩
 ·cases h; exact ⟨_,_,by rw [List.length_map]⟩
theorem vr_kids {γ:Gh} {w:World} {kv:AV} {kids:List PE} (hr:RepK kv kids) {v:Value} (h:VR γ w kv v):∃ p n c,v=.slice p n c:=by
 cases hr with
 | nil=>cases h; exact ⟨_,_,_,rfl⟩
 | row tok o es _ hf=>cases h; exact ⟨_,_,_,rfl⟩
def Mk (n:PN):Nd:=⟨⟨⟨n.name⟩⟩,n.pos,n.ins,n.outs,n.vars,n.eqs⟩
def Mi (l:List PN):ByteArray:=Uj 0 (l.map Mk)
theorem NodeRows.at:∀ {es:List AV} {l:List PN},NodeRows es l → es.length=l.length ∧ ∀ i (h:i < l.length),∃ x,es[i]? = some x ∧ Sb x l[i]
 | _,_,.nil=>⟨rfl,fun i h=>absurd h (Nat.not_lt_zero i)⟩
 | _,_,.cons a q r l h h2=>⟨by simp [h2.at.1],fun i hi=>by
  cases i with
  | zero=>exact ⟨a,rfl,h⟩
  | succ i=>exact h2.at.2 i (by simpa using hi)⟩
theorem EqRows.at:∀ {es:List AV} {l:List PQ},EqRows es l → es.length=l.length ∧ ∀ i (h:i < l.length),∃ x,es[i]? = some x ∧ Y5 x l[i]
 | _,_,.nil=>⟨rfl,fun i h=>absurd h (Nat.not_lt_zero i)⟩
 | _,_,.cons a q r l h h2=>⟨by simp [h2.at.1],fun i hi=>by
  cases i with
  | zero=>exact ⟨a,rfl,h⟩
  | succ i=>exact h2.at.2 i (by simpa using hi)⟩
theorem vr_agg {γ:Gh} {w:World} {cs:List AV} {x:List Value} (h1:∀ a ∈ cs,a.one=true) (h:VRL γ w cs x):VR γ w (.agg cs) (.agg x.toArray):=.agg cs x h.1 h1 h.2
theorem rdQ_of {w:World} {d:AV} {es:List AV} {qs:List PQ} (hd:(d=.nils ∧ es=[]) ∨ ∃ tok,d=.sl tok 0 8 es) (he:EqRows es qs) {v:Value} (h:VR (GhW w) w d v):RdQ w w.heap.size 0 v qs:=by
 obtain ⟨hlen,hat⟩:=he.at
 rcases hd with ⟨rfl,rfl⟩ | ⟨tok,rfl⟩
 ·cases h
  have:qs=[]:=by simpa using hlen.symm
  subst this
  exact ⟨_,_,rfl,.inl rfl⟩
 ·cases h with
  | sl _ _ _ _ b o cap c hsz hes h1 hc hr ht hf hcap hb =>
   obtain ⟨arr,T,fr,ha,_⟩:=hb
   have hbk:b < w.heap.size:=(Array.getElem?_eq_some_iff.1 ha).1
   refine ⟨_,cap,by rw [hlen],.inr ⟨b,o,rfl,hbk,fun i hi=>?_⟩⟩
   obtain ⟨x,hx,hq⟩:=hat i hi
   generalize qs[i]=Q at hq
   obtain ⟨left,async,e⟩:=Q
   have hq':=hq
   obtain ⟨lv,xs,rfl,hl,hxs,hrep⟩:=hq
   simp only at hl hrep hx ⊢
   cases hrep with
   | mk kind pos n name off kv kids hk =>
   have at_:∀ k a,(AV.agg (eqC lv async (exC kind pos n name off kv))).cells[k]? = some a → k < 8 → ∃ v,w.cell? ⟨b,o + i * 8 + k,none⟩=some v ∧ VR (GhW w) w a v:=fun k a hka hk8=>cellAt hes hc hr hx hk8 hka
   obtain ⟨v0,c0,r0⟩:=at_ 0 lv rfl (by omega)
   obtain ⟨v1,c1,r1⟩:=at_ 1 (.v (.bool async)) rfl (by omega)
   obtain ⟨v2,c2,r2⟩:=at_ 2 (Du kind) rfl (by omega)
   obtain ⟨v3,c3,r3⟩:=at_ 3 (Du pos) rfl (by omega)
   obtain ⟨v4,c4,r4⟩:=at_ 4 (.v (.int .i64 n)) rfl (by omega)
   obtain ⟨v5,c5,r5⟩:=at_ 5 (Cj name) rfl (by omega)
   obtain ⟨v6,c6,r6⟩:=at_ 6 (.v (.bool off)) rfl (by omega)
   obtain ⟨v7,c7,r7⟩:=at_ 7 kv rfl (by omega)
   obtain ⟨pL,cL,rfl⟩:=vr_row hl r0
   have e1:=vS r1; subst e1
   have e2:=jS r2; subst e2
   have e3:=jS r3; subst e3
   have e4:=jS r4; subst e4
   have e5:=vr_str r5; subst e5
   have e6:=vS r6; subst e6
   obtain ⟨sp,sl,sc,rfl⟩:=vr_kids hk r7
   refine ⟨pL,cL,kind,pos,n,⟨⟨name⟩⟩,off,sp,sl,sc,c0,c1,c2,c3,c4,c5,c6,c7,_,vr_agg (cs:=eqC lv async (exC kind pos n name off kv)) (fun a ha=>?_) (VRL.cons r0 (VRL.cons r1 (VRL.cons r2 (VRL.cons r3 (VRL.cons r4 (VRL.cons r5 (VRL.cons r6 (VRL.cons r7 (VRL.nil _ _))))))))),hq'⟩
   have hall:=h1
   exact hall a (by
    have hm:(AV.agg (eqC lv async (exC kind pos n name off kv))) ∈ es:=List.mem_of_getElem? hx
    unfold Dx
    exact List.mem_flatMap.2 ⟨_,hm,ha⟩)
end Go.Ax
noncomputable section
namespace Go.Ax
open Go.RowKit Go.Proofs
set_option maxRecDepth 100000
def Px:List (List UInt8):=[[32],[10],[9],[32,45,45,32,40,120,10]]
theorem Zt {p:UInt8 → Bool} {b:UInt8} {r:List UInt8} (h:p b=true):cnt p (b :: r)=cnt p r + 1:=by
 show (if p b then cnt p r + 1 else 0)=_
 rw [if_pos h]
theorem So (p:UInt8 → Bool):∀ (l:List UInt8),(∀ b ∈ l.take (cnt p l),p b=true) ∧ (l.take (cnt p l)).length=cnt p l
 | []=>⟨by intro b hb; simp [cnt] at hb,by simp [cnt]⟩
 | b :: r=>by
  have ih:=So p r
  unfold cnt
  cases hb:p b with
  | false=>simp
  | true =>
   simp only [Aa,List.take_succ_cons,List.length_cons,List.mem_cons,forall_eq_or_imp]
   exact ⟨⟨hb,ih.1⟩,by rw [ih.2]⟩
theorem fK {s0:List UInt8} (h:s0 ∈ Fb) {c:UInt8} (hc:c=32 ∨ c=10 ∨ c=9) (X:List UInt8):Fb.find? (fun s=>D5 s (s0 ++ c :: X))=some s0 ∧ D5 [45,45] (s0 ++ c :: X)=false ∧ (∃ b r,s0=b :: r ∧ F0 b=false ∧ Da b=false ∧ Dw b=false):=by
 simp only [Fb,List.mem_cons,List.not_mem_nil,or_false] at h
 rcases h with rfl | rfl | rfl | rfl | rfl | rfl | rfl | rfl | rfl | rfl | rfl | rfl | rfl | rfl | rfl | rfl <;> rcases hc with rfl | rfl | rfl <;> exact ⟨rfl,rfl,_,_,rfl,rfl,rfl,rfl⟩
theorem Un {b:UInt8} (h:F0 b=true):Dw b=false ∧ b ≠ 45:=by
 have h':∀ x:Fin 256,F0 ⟨⟨x⟩⟩=true → Dw ⟨⟨x⟩⟩=false ∧ (⟨⟨x⟩⟩:UInt8) ≠ 45:=by decide
 exact h' ⟨b.toNat,b.toNat_lt⟩ h
theorem Tl {b:UInt8} (h:Da b=true):Dw b=false ∧ b ≠ 45 ∧ F0 b=false:=by
 have h':∀ x:Fin 256,Da ⟨⟨x⟩⟩=true → Dw ⟨⟨x⟩⟩=false ∧ (⟨⟨x⟩⟩:UInt8) ≠ 45 ∧ F0 ⟨⟨x⟩⟩=false:=by decide
 exact h' ⟨b.toNat,b.toNat_lt⟩ h
theorem jG {c:UInt8} (hc:c=32 ∨ c=10 ∨ c=9):Ds c=false ∧ Da c=false ∧ Dw c=true:=by
 rcases hc with rfl | rfl | rfl <;> exact ⟨rfl,rfl,rfl⟩
theorem Pu {b:UInt8} {r:List UInt8} (h:b ≠ 45):D5 [45,45] (b :: r)=false:=by
 unfold D5
 rw [decide_eq_false_iff_not]
 intro e
 cases r with
 | nil=>simp at e
 | cons x r=>simp at e; exact h e.1
theorem Ms {b:UInt8} {r:List UInt8} (h:Dw b=false):cnt Dw (b :: r)=0:=by unfold cnt; rw [h]; rfl
theorem K7 {c:UInt8} (hc:c=32 ∨ c=10 ∨ c=9) (N:Nat) (R:List UInt8):Gw (N + 1) (c :: R)=1 + Gw (N + 1) R:=by
 obtain ⟨_,_,c3⟩:=jG hc
 have e:cnt Dw (c :: R)=cnt Dw R + 1:=Zt c3
 rw [Qq,Qq,e]
 simp only [List.drop_succ_cons,Nat.add_right_comm _ 1]
 split <;> omega
theorem Mh {R:List UInt8} (h1:cnt Dw R=0) (h2:D5 [45,45] R=false) (N:Nat):Gw N R=0:=by
 cases N with
 | zero=>rfl
 | succ N=>rw [Qq,h1]; simp only [List.drop_zero]; rw [h2]; rfl
def laid (f:Nat → List UInt8):Nat → List Tk → List UInt8
 | _,[]=>[]
 | k,t :: r=>t.text ++ (f k ++ laid f (k + 1) r)
inductive FromLex:List Tk → Prop where
 | last (t:Tk) (h:t.kind=5 ∧ t.text=[] ∧ t.num=0):FromLex [t]
 | cons (t:Tk) (r:List Tk) (l:List UInt8) (a:Nat) (h:Hf l a=some (t,0)) (hr:FromLex r):FromLex (t :: r)
theorem jL (l:List UInt8):∀ (n i:Nat) (ts:List Tk),Mx l n i=some (.inr ts) → FromLex ts
 | 0,i,ts,h=>by cases h
 | n + 1,i,ts,h=>by
  unfold Mx at h
  by_cases hi:i < l.length
  ·rw [if_pos hi] at h
   split at h
   ·cases h
   ·rename_i p hp
    by_cases h0:p.2=0
    ·rw [if_pos h0] at h
     split at h
     ·cases h
     ·injection h with h; cases h
     ·rename_i us hu
      injection h with h; injection h with h; subst h
      obtain ⟨t,x⟩:=p
      simp only at h0; subst h0
      exact .cons t us _ _ hp (jL l n _ us hu)
    ·rw [if_neg h0] at h; injection h with h; cases h
  ·rw [if_neg hi] at h
   injection h with h; injection h with h; subst h
   exact .last _ ⟨rfl,rfl,rfl⟩
theorem Xh {l:List UInt8} {ts:List Tk} (h:Jz l=some (.inr ts)):FromLex ts:=by
 unfold Jz at h
 split at h
 ·injection h with h; cases h
 ·exact jL _ _ _ _ h
inductive LikeTs:List Tk → List Tk → Prop where
 | nil:LikeTs [] []
 | cons (t u:Tk) (r s:List Tk) (h:rG t u) (h2:LikeTs r s):LikeTs (t :: r) (u :: s)
theorem LikeTs.s:∀ {ts us:List Tk},LikeTs ts us → LikeS ts us
 | _,_,.nil=>⟨rfl,fun i=>⟨rfl,rfl,rfl⟩⟩
 | _,_,.cons t u r s h h2=>⟨by simp [h2.s.len],fun i=>by
  cases i with
  | zero=>exact h
  | succ i=>exact h2.s.at_ i⟩
section
variable {f:Nat → List UInt8} (hf:∀ k,f k ∈ Px) (T:List UInt8)
include hf
end
end Go.Ax
