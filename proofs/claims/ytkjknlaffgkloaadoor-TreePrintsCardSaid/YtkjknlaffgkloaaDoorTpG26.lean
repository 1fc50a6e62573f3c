/- TvB -/
import Derived.Test.YtkjknlaffgkloaaDoorTpG24
import Derived.Deep.Slices
import Derived.Deep.Fields
import Derived.ChangeSame
import Derived.OpenShut
import Derived.Test.YtkjknlaffgkloaaDoorTpG25
import Derived.Lib.LaidTab
set_option linter.unusedVariables false
set_option linter.unusedSimpArgs false
noncomputable section
namespace Go.Ax
open Go.RowKit Go.Proofs Go.WideShapes Go.ChangeShapes Go.Deep
set_option maxRecDepth 100000
def fsOf(P:Program)(t:TypeId):Array Field:=match P.underlying t with
 |some (.struct fs)=>fs
 |_=>#[]
theorem cz3:Tryd.prog.cellsOf 3=1:=by kernel_rfl
theorem cz2:Tryd.prog.cellsOf 2=1:=by kernel_rfl
theorem cz9:Tryd.prog.cellsOf 9=1:=by kernel_rfl
theorem cz4:Tryd.prog.cellsOf 4=1:=by kernel_rfl
theorem uz3:Tryd.prog.underlying 3=some (.int .i64):=by kernel_rfl
theorem uz2:Tryd.prog.underlying 2=some (.int .i64):=by kernel_rfl
theorem uz9:Tryd.prog.underlying 9=some .string:=by kernel_rfl
theorem uz4:Tryd.prog.underlying 4=some .bool:=by kernel_rfl
theorem cz24:Tryd.prog.cellsOf 24=1:=by kernel_rfl
theorem cz25:Tryd.prog.cellsOf 25=1:=by kernel_rfl
theorem cz60:Tryd.prog.cellsOf 60=1:=by kernel_rfl
theorem cz61:Tryd.prog.cellsOf 61=1:=by kernel_rfl
theorem isStr63:(match Tryd.prog.underlying 63 with |some (.struct _)=>true |_=>false)=true:=by kernel_rfl
theorem us63:Tryd.prog.underlying 63=some (.struct (fsOf Tryd.prog 63)):=by
 have h:=isStr63
 unfold fsOf
 split at h
 ·rename_i fs hu;rw[hu]
 ·cases h
theorem fs63_size:(fsOf Tryd.prog 63).size=6:=by kernel_rfl
theorem fs63:(fsOf Tryd.prog 63).toList.map (fun f=>(f.type,f.offset))=[(3,0),(3,1),(2,2),(9,3),(4,4),(61,5)]:=by kernel_rfl
theorem fs63_get(i:Nat)(t o:Nat)(h:([(3,0),(3,1),(2,2),(9,3),(4,4),(61,5)]:List (Nat × Nat))[i]? = some (t,o)):∃f:Field,(fsOf Tryd.prog 63)[i]? = some f∧f.type=t∧f.offset=o:=by
 rw[← fs63,List.getElem?_map]at h
 cases hf:(fsOf Tryd.prog 63).toList[i]? with
 |none=>rw[hf]at h;cases h
 |some f =>
  rw[hf]at h
  injection h with h
  injection h with h1 h2
  exact⟨f,by simpa using hf,h1,h2⟩
theorem cz63:Tryd.prog.cellsOf 63=6:=by kernel_rfl
theorem isStr44:(match Tryd.prog.underlying 44 with |some (.struct _)=>true |_=>false)=true:=by kernel_rfl
theorem us44:Tryd.prog.underlying 44=some (.struct (fsOf Tryd.prog 44)):=by
 have h:=isStr44
 unfold fsOf
 split at h
 ·rename_i fs hu;rw[hu]
 ·cases h
theorem fs44_size:(fsOf Tryd.prog 44).size=6:=by kernel_rfl
theorem fs44:(fsOf Tryd.prog 44).toList.map (fun f=>(f.type,f.offset))=[(9,0),(3,1),(4,2),(4,3),(9,4),(4,5)]:=by kernel_rfl
theorem fs44_get(i:Nat)(t o:Nat)(h:([(9,0),(3,1),(4,2),(4,3),(9,4),(4,5)]:List (Nat × Nat))[i]? = some (t,o)):∃f:Field,(fsOf Tryd.prog 44)[i]? = some f∧f.type=t∧f.offset=o:=by
 rw[← fs44,List.getElem?_map]at h
 cases hf:(fsOf Tryd.prog 44).toList[i]? with
 |none=>rw[hf]at h;cases h
 |some f =>
  rw[hf]at h
  injection h with h
  injection h with h1 h2
  exact⟨f,by simpa using hf,h1,h2⟩
theorem cz44:Tryd.prog.cellsOf 44=6:=by kernel_rfl
theorem isStr68:(match Tryd.prog.underlying 68 with |some (.struct _)=>true |_=>false)=true:=by kernel_rfl
theorem us68:Tryd.prog.underlying 68=some (.struct (fsOf Tryd.prog 68)):=by
 have h:=isStr68
 unfold fsOf
 split at h
 ·rename_i fs hu;rw[hu]
 ·cases h
theorem fs68_size:(fsOf Tryd.prog 68).size=2:=by kernel_rfl
theorem fs68:(fsOf Tryd.prog 68).toList.map (fun f=>(f.type,f.offset))=[(9,0),(3,1)]:=by kernel_rfl
theorem fs68_get(i:Nat)(t o:Nat)(h:([(9,0),(3,1)]:List (Nat × Nat))[i]? = some (t,o)):∃f:Field,(fsOf Tryd.prog 68)[i]? = some f∧f.type=t∧f.offset=o:=by
 rw[← fs68,List.getElem?_map]at h
 cases hf:(fsOf Tryd.prog 68).toList[i]? with
 |none=>rw[hf]at h;cases h
 |some f =>
  rw[hf]at h
  injection h with h
  injection h with h1 h2
  exact⟨f,by simpa using hf,h1,h2⟩
theorem cz68:Tryd.prog.cellsOf 68=2:=by kernel_rfl
theorem isStr65:(match Tryd.prog.underlying 65 with |some (.struct _)=>true |_=>false)=true:=by kernel_rfl
theorem us65:Tryd.prog.underlying 65=some (.struct (fsOf Tryd.prog 65)):=by
 have h:=isStr65
 unfold fsOf
 split at h
 ·rename_i fs hu;rw[hu]
 ·cases h
theorem fs65_size:(fsOf Tryd.prog 65).size=3:=by kernel_rfl
theorem fs65:(fsOf Tryd.prog 65).toList.map (fun f=>(f.type,f.offset))=[(60,0),(4,1),(63,2)]:=by kernel_rfl
theorem fs65_get(i:Nat)(t o:Nat)(h:([(60,0),(4,1),(63,2)]:List (Nat × Nat))[i]? = some (t,o)):∃f:Field,(fsOf Tryd.prog 65)[i]? = some f∧f.type=t∧f.offset=o:=by
 rw[← fs65,List.getElem?_map]at h
 cases hf:(fsOf Tryd.prog 65).toList[i]? with
 |none=>rw[hf]at h;cases h
 |some f =>
  rw[hf]at h
  injection h with h
  injection h with h1 h2
  exact⟨f,by simpa using hf,h1,h2⟩
theorem cz65:Tryd.prog.cellsOf 65=8:=by kernel_rfl
theorem isStr27:(match Tryd.prog.underlying 27 with |some (.struct _)=>true |_=>false)=true:=by kernel_rfl
theorem us27:Tryd.prog.underlying 27=some (.struct (fsOf Tryd.prog 27)):=by
 have h:=isStr27
 unfold fsOf
 split at h
 ·rename_i fs hu;rw[hu]
 ·cases h
theorem fs27_size:(fsOf Tryd.prog 27).size=6:=by kernel_rfl
theorem fs27:(fsOf Tryd.prog 27).toList.map (fun f=>(f.type,f.offset))=[(9,0),(3,1),(24,2),(24,3),(24,4),(25,5)]:=by kernel_rfl
theorem fs27_get(i:Nat)(t o:Nat)(h:([(9,0),(3,1),(24,2),(24,3),(24,4),(25,5)]:List (Nat × Nat))[i]? = some (t,o)):∃f:Field,(fsOf Tryd.prog 27)[i]? = some f∧f.type=t∧f.offset=o:=by
 rw[← fs27,List.getElem?_map]at h
 cases hf:(fsOf Tryd.prog 27).toList[i]? with
 |none=>rw[hf]at h;cases h
 |some f =>
  rw[hf]at h
  injection h with h
  injection h with h1 h2
  exact⟨f,by simpa using hf,h1,h2⟩
theorem cz27:Tryd.prog.cellsOf 27=6:=by kernel_rfl
section
variable {H:Type} {enc:TypeId × Value → H} {w:World}
theorem trod_s63{fuel:Nat}{cs:List Value}{x:DataW H × List MemPlace}(h:DataW.trod enc Tryd.prog w 0 (fun _=>true) true fuel 63 cs=some x):
  ∃(m:Nat) (v0:Int) (v1:Int) (v2:Int) (v3:ByteArray) (v4:Bool) (v5:Value),cs=[.int .i64 v0,.int .i64 v1,.int .i64 v2,.string v3,.bool v4,v5]∧fuel=m+1∧(-9223372036854775808≤v2∧v2≤9223372036854775807)∧(∃y,DataW.trod enc Tryd.prog w 0 (fun _=>true) true m 61 [v5]=some y):=by
 obtain⟨xs,n,hfu,_,hlen,hx,hg⟩:=DataW.trod_struct us63 h
 rw[cz63]at hlen
 have hx6:xs.length=6:=hx.trans fs63_size
 obtain⟨c0,c1,c2,c3,c4,c5,rfl⟩:∃c0 c1 c2 c3 c4 c5,cs=[c0,c1,c2,c3,c4,c5]:=by
  match cs,hlen with
  | [c0,c1,c2,c3,c4,c5],_=>exact⟨_,_,_,_,_,_,rfl⟩
 have key:∀(i t o:Nat),([(3,0),(3,1),(2,2),(9,3),(4,4),(61,5)]:List (Nat × Nat))[i]? = some (t,o)→DataW.trod enc Tryd.prog w 0 (fun _=>true) true n t (([c0,c1,c2,c3,c4,c5].drop o).take (Tryd.prog.cellsOf t))=xs[i]?:=fun i t o hi=>by
  obtain⟨f,h1,h2,h3⟩:=fs63_get i t o hi
  rw[← h2,← h3];exact hg i f h1
 have g0:=key 0 3 0 rfl
 rw[List.getElem?_eq_getElem (by omega),cz3]at g0
 have g1:=key 1 3 1 rfl
 rw[List.getElem?_eq_getElem (by omega),cz3]at g1
 have g2:=key 2 2 2 rfl
 rw[List.getElem?_eq_getElem (by omega),cz2]at g2
 have g3:=key 3 9 3 rfl
 rw[List.getElem?_eq_getElem (by omega),cz9]at g3
 have g4:=key 4 4 4 rfl
 rw[List.getElem?_eq_getElem (by omega),cz4]at g4
 have g5:=key 5 61 5 rfl
 rw[List.getElem?_eq_getElem (by omega),cz61]at g5
 obtain⟨v0,h0,_,hz0⟩:=DataW.trod_int uz3 g0
 obtain⟨v1,h1,_,hz1⟩:=DataW.trod_int uz3 g1
 obtain⟨v2,h2,_,hz2⟩:=DataW.trod_int uz2 g2
 obtain⟨v3,h3,_⟩:=DataW.trod_string uz9 g3
 obtain⟨v4,h4,_⟩:=DataW.trod_bool uz4 g4
 simp at h0 h1 h2 h3 h4
 subst h0 h1 h2 h3 h4
 exact⟨n,v0,v1,v2,v3,v4,c5,rfl,hfu,by
  have e1:IntKind.i64.min=-9223372036854775808:=by decide
  have e2:IntKind.i64.max=9223372036854775807:=by decide
  simp[Lit.wf,e1,e2]at hz2
  omega,⟨_,g5⟩⟩
theorem trod_s44{fuel:Nat}{cs:List Value}{x:DataW H × List MemPlace}(h:DataW.trod enc Tryd.prog w 0 (fun _=>true) true fuel 44 cs=some x):
  ∃(m:Nat) (v0:ByteArray) (v1:Int) (v2:Bool) (v3:Bool) (v4:ByteArray) (v5:Bool),cs=[.string v0,.int .i64 v1,.bool v2,.bool v3,.string v4,.bool v5]∧fuel=m+1:=by
 obtain⟨xs,n,hfu,_,hlen,hx,hg⟩:=DataW.trod_struct us44 h
 rw[cz44]at hlen
 have hx6:xs.length=6:=hx.trans fs44_size
 obtain⟨c0,c1,c2,c3,c4,c5,rfl⟩:∃c0 c1 c2 c3 c4 c5,cs=[c0,c1,c2,c3,c4,c5]:=by
  match cs,hlen with
  | [c0,c1,c2,c3,c4,c5],_=>exact⟨_,_,_,_,_,_,rfl⟩
 have key:∀(i t o:Nat),([(9,0),(3,1),(4,2),(4,3),(9,4),(4,5)]:List (Nat × Nat))[i]? = some (t,o)→DataW.trod enc Tryd.prog w 0 (fun _=>true) true n t (([c0,c1,c2,c3,c4,c5].drop o).take (Tryd.prog.cellsOf t))=xs[i]?:=fun i t o hi=>by
  obtain⟨f,h1,h2,h3⟩:=fs44_get i t o hi
  rw[← h2,← h3];exact hg i f h1
 have g0:=key 0 9 0 rfl
 rw[List.getElem?_eq_getElem (by omega),cz9]at g0
 have g1:=key 1 3 1 rfl
 rw[List.getElem?_eq_getElem (by omega),cz3]at g1
 have g2:=key 2 4 2 rfl
 rw[List.getElem?_eq_getElem (by omega),cz4]at g2
 have g3:=key 3 4 3 rfl
 rw[List.getElem?_eq_getElem (by omega),cz4]at g3
 have g4:=key 4 9 4 rfl
 rw[List.getElem?_eq_getElem (by omega),cz9]at g4
 have g5:=key 5 4 5 rfl
 rw[List.getElem?_eq_getElem (by omega),cz4]at g5
 obtain⟨v0,h0,_⟩:=DataW.trod_string uz9 g0
 obtain⟨v1,h1,_,hz1⟩:=DataW.trod_int uz3 g1
 obtain⟨v2,h2,_⟩:=DataW.trod_bool uz4 g2
 obtain⟨v3,h3,_⟩:=DataW.trod_bool uz4 g3
 obtain⟨v4,h4,_⟩:=DataW.trod_string uz9 g4
 obtain⟨v5,h5,_⟩:=DataW.trod_bool uz4 g5
 simp at h0 h1 h2 h3 h4 h5
 subst h0 h1 h2 h3 h4 h5
 exact⟨n,v0,v1,v2,v3,v4,v5,rfl,hfu⟩
theorem trod_s68{fuel:Nat}{cs:List Value}{x:DataW H × List MemPlace}(h:DataW.trod enc Tryd.prog w 0 (fun _=>true) true fuel 68 cs=some x):
  ∃(m:Nat) (v0:ByteArray) (v1:Int),cs=[.string v0,.int .i64 v1]∧fuel=m+1:=by
 obtain⟨xs,n,hfu,_,hlen,hx,hg⟩:=DataW.trod_struct us68 h
 rw[cz68]at hlen
 have hx6:xs.length=2:=hx.trans fs68_size
 obtain⟨c0,c1,rfl⟩:∃c0 c1,cs=[c0,c1]:=by
  match cs,hlen with
  | [c0,c1],_=>exact⟨_,_,rfl⟩
 have key:∀(i t o:Nat),([(9,0),(3,1)]:List (Nat × Nat))[i]? = some (t,o)→DataW.trod enc Tryd.prog w 0 (fun _=>true) true n t (([c0,c1].drop o).take (Tryd.prog.cellsOf t))=xs[i]?:=fun i t o hi=>by
  obtain⟨f,h1,h2,h3⟩:=fs68_get i t o hi
  rw[← h2,← h3];exact hg i f h1
 have g0:=key 0 9 0 rfl
 rw[List.getElem?_eq_getElem (by omega),cz9]at g0
 have g1:=key 1 3 1 rfl
 rw[List.getElem?_eq_getElem (by omega),cz3]at g1
 obtain⟨v0,h0,_⟩:=DataW.trod_string uz9 g0
 obtain⟨v1,h1,_,hz1⟩:=DataW.trod_int uz3 g1
 simp at h0 h1
 subst h0 h1
 exact⟨n,v0,v1,rfl,hfu⟩
theorem trod_s65{fuel:Nat}{cs:List Value}{x:DataW H × List MemPlace}(h:DataW.trod enc Tryd.prog w 0 (fun _=>true) true fuel 65 cs=some x):
  ∃(m:Nat) (v0:Value) (v1:Bool) (v2:Value) (v3:Value) (v4:Value) (v5:Value) (v6:Value) (v7:Value),cs=[v0,.bool v1,v2,v3,v4,v5,v6,v7]∧fuel=m+1∧(∃y,DataW.trod enc Tryd.prog w 0 (fun _=>true) true m 60 [v0]=some y)∧(∃y,DataW.trod enc Tryd.prog w 0 (fun _=>true) true m 63 [v2,v3,v4,v5,v6,v7]=some y):=by
 obtain⟨xs,n,hfu,_,hlen,hx,hg⟩:=DataW.trod_struct us65 h
 rw[cz65]at hlen
 have hx6:xs.length=3:=hx.trans fs65_size
 obtain⟨c0,c1,c2,c3,c4,c5,c6,c7,rfl⟩:∃c0 c1 c2 c3 c4 c5 c6 c7,cs=[c0,c1,c2,c3,c4,c5,c6,c7]:=by
  match cs,hlen with
  | [c0,c1,c2,c3,c4,c5,c6,c7],_=>exact⟨_,_,_,_,_,_,_,_,rfl⟩
 have key:∀(i t o:Nat),([(60,0),(4,1),(63,2)]:List (Nat × Nat))[i]? = some (t,o)→DataW.trod enc Tryd.prog w 0 (fun _=>true) true n t (([c0,c1,c2,c3,c4,c5,c6,c7].drop o).take (Tryd.prog.cellsOf t))=xs[i]?:=fun i t o hi=>by
  obtain⟨f,h1,h2,h3⟩:=fs65_get i t o hi
  rw[← h2,← h3];exact hg i f h1
 have g0:=key 0 60 0 rfl
 rw[List.getElem?_eq_getElem (by omega),cz60]at g0
 have g1:=key 1 4 1 rfl
 rw[List.getElem?_eq_getElem (by omega),cz4]at g1
 have g2:=key 2 63 2 rfl
 rw[List.getElem?_eq_getElem (by omega),cz63]at g2
 obtain⟨v1,h1,_⟩:=DataW.trod_bool uz4 g1
 simp at h1
 subst h1
 exact⟨n,c0,v1,c2,c3,c4,c5,c6,c7,rfl,hfu,⟨_,g0⟩,⟨_,g2⟩⟩
theorem trod_s27{fuel:Nat}{cs:List Value}{x:DataW H × List MemPlace}(h:DataW.trod enc Tryd.prog w 0 (fun _=>true) true fuel 27 cs=some x):
  ∃(m:Nat) (v0:ByteArray) (v1:Int) (v2:Value) (v3:Value) (v4:Value) (v5:Value),cs=[.string v0,.int .i64 v1,v2,v3,v4,v5]∧fuel=m+1∧(∃y,DataW.trod enc Tryd.prog w 0 (fun _=>true) true m 24 [v2]=some y)∧(∃y,DataW.trod enc Tryd.prog w 0 (fun _=>true) true m 24 [v3]=some y)∧(∃y,DataW.trod enc Tryd.prog w 0 (fun _=>true) true m 24 [v4]=some y)∧(∃y,DataW.trod enc Tryd.prog w 0 (fun _=>true) true m 25 [v5]=some y):=by
 obtain⟨xs,n,hfu,_,hlen,hx,hg⟩:=DataW.trod_struct us27 h
 rw[cz27]at hlen
 have hx6:xs.length=6:=hx.trans fs27_size
 obtain⟨c0,c1,c2,c3,c4,c5,rfl⟩:∃c0 c1 c2 c3 c4 c5,cs=[c0,c1,c2,c3,c4,c5]:=by
  match cs,hlen with
  | [c0,c1,c2,c3,c4,c5],_=>exact⟨_,_,_,_,_,_,rfl⟩
 have key:∀(i t o:Nat),([(9,0),(3,1),(24,2),(24,3),(24,4),(25,5)]:List (Nat × Nat))[i]? = some (t,o)→DataW.trod enc Tryd.prog w 0 (fun _=>true) true n t (([c0,c1,c2,c3,c4,c5].drop o).take (Tryd.prog.cellsOf t))=xs[i]?:=fun i t o hi=>by
  obtain⟨f,h1,h2,h3⟩:=fs27_get i t o hi
  rw[← h2,← h3];exact hg i f h1
 have g0:=key 0 9 0 rfl
 rw[List.getElem?_eq_getElem (by omega),cz9]at g0
 have g1:=key 1 3 1 rfl
 rw[List.getElem?_eq_getElem (by omega),cz3]at g1
 have g2:=key 2 24 2 rfl
 rw[List.getElem?_eq_getElem (by omega),cz24]at g2
 have g3:=key 3 24 3 rfl
 rw[List.getElem?_eq_getElem (by omega),cz24]at g3
 have g4:=key 4 24 4 rfl
 rw[List.getElem?_eq_getElem (by omega),cz24]at g4
 have g5:=key 5 25 5 rfl
 rw[List.getElem?_eq_getElem (by omega),cz25]at g5
 obtain⟨v0,h0,_⟩:=DataW.trod_string uz9 g0
 obtain⟨v1,h1,_,hz1⟩:=DataW.trod_int uz3 g1
 simp at h0 h1
 subst h0 h1
 exact⟨n,v0,v1,c2,c3,c4,c5,rfl,hfu,⟨_,g2⟩,⟨_,g3⟩,⟨_,g4⟩,⟨_,g5⟩⟩
theorem trod_r61{fuel:Nat}{c:Value}{x:DataW H × List MemPlace}(h:DataW.trod enc Tryd.prog w 0 (fun _=>true) true fuel 61 [c]=some x):
  c=.slice none 0 0∨∃(a:Addr) (len cap m:Nat),fuel=m+1∧c=.slice (some a) len cap∧len≤cap∧∀i,i<cap→∃cs' y,w.cells? 0 (a.add (i*6)) 6=some cs'∧DataW.trod enc Tryd.prog w 0 (fun _=>true) true m 63 cs' = some y:=by
 rcases DataW.trod_slice yuR h with⟨h0,_⟩ | ⟨a,len,cap,elems,rest,n,hfu,hc,_,_,hl,_,hlen,hel,hsp,_⟩
 ·injection h0 with h0
  exact .inl h0
 ·injection hc with hc
  obtain⟨hrl,hrest⟩:=hsp rfl
  rw[cz63]at hel hrest
  refine .inr ⟨a,len,cap,n,hfu,hc,hl,fun i hi=>?_⟩
  by_cases hil:i<len
  ·have:=hel i hil
   rw[List.getElem?_eq_getElem (by omega)]at this
   obtain⟨cs',h1,h2⟩:=Option.bind_eq_some_iff.1 this
   exact⟨cs',_,h1,h2⟩
  ·have:=hrest (i - len) (by omega)
   rw[show len+(i - len)=i by omega,List.getElem?_eq_getElem (by omega)]at this
   obtain⟨cs',h1,h2⟩:=Option.bind_eq_some_iff.1 this
   exact⟨cs',_,h1,h2⟩
theorem trod_r24{fuel:Nat}{c:Value}{x:DataW H × List MemPlace}(h:DataW.trod enc Tryd.prog w 0 (fun _=>true) true fuel 24 [c]=some x):
  c=.slice none 0 0∨∃(a:Addr) (len cap m:Nat),fuel=m+1∧c=.slice (some a) len cap∧len≤cap∧∀i,i<cap→∃cs' y,w.cells? 0 (a.add (i*6)) 6=some cs'∧DataW.trod enc Tryd.prog w 0 (fun _=>true) true m 44 cs' = some y:=by
 rcases DataW.trod_slice yuE h with⟨h0,_⟩ | ⟨a,len,cap,elems,rest,n,hfu,hc,_,_,hl,_,hlen,hel,hsp,_⟩
 ·injection h0 with h0
  exact .inl h0
 ·injection hc with hc
  obtain⟨hrl,hrest⟩:=hsp rfl
  rw[cz44]at hel hrest
  refine .inr ⟨a,len,cap,n,hfu,hc,hl,fun i hi=>?_⟩
  by_cases hil:i<len
  ·have:=hel i hil
   rw[List.getElem?_eq_getElem (by omega)]at this
   obtain⟨cs',h1,h2⟩:=Option.bind_eq_some_iff.1 this
   exact⟨cs',_,h1,h2⟩
  ·have:=hrest (i - len) (by omega)
   rw[show len+(i - len)=i by omega,List.getElem?_eq_getElem (by omega)]at this
   obtain⟨cs',h1,h2⟩:=Option.bind_eq_some_iff.1 this
   exact⟨cs',_,h1,h2⟩
theorem trod_r60{fuel:Nat}{c:Value}{x:DataW H × List MemPlace}(h:DataW.trod enc Tryd.prog w 0 (fun _=>true) true fuel 60 [c]=some x):
  c=.slice none 0 0∨∃(a:Addr) (len cap m:Nat),fuel=m+1∧c=.slice (some a) len cap∧len≤cap∧∀i,i<cap→∃cs' y,w.cells? 0 (a.add (i*2)) 2=some cs'∧DataW.trod enc Tryd.prog w 0 (fun _=>true) true m 68 cs' = some y:=by
 rcases DataW.trod_slice yuGr h with⟨h0,_⟩ | ⟨a,len,cap,elems,rest,n,hfu,hc,_,_,hl,_,hlen,hel,hsp,_⟩
 ·injection h0 with h0
  exact .inl h0
 ·injection hc with hc
  obtain⟨hrl,hrest⟩:=hsp rfl
  rw[cz68]at hel hrest
  refine .inr ⟨a,len,cap,n,hfu,hc,hl,fun i hi=>?_⟩
  by_cases hil:i<len
  ·have:=hel i hil
   rw[List.getElem?_eq_getElem (by omega)]at this
   obtain⟨cs',h1,h2⟩:=Option.bind_eq_some_iff.1 this
   exact⟨cs',_,h1,h2⟩
  ·have:=hrest (i - len) (by omega)
   rw[show len+(i - len)=i by omega,List.getElem?_eq_getElem (by omega)]at this
   obtain⟨cs',h1,h2⟩:=Option.bind_eq_some_iff.1 this
   exact⟨cs',_,h1,h2⟩
theorem trod_r25{fuel:Nat}{c:Value}{x:DataW H × List MemPlace}(h:DataW.trod enc Tryd.prog w 0 (fun _=>true) true fuel 25 [c]=some x):
  c=.slice none 0 0∨∃(a:Addr) (len cap m:Nat),fuel=m+1∧c=.slice (some a) len cap∧len≤cap∧∀i,i<cap→∃cs' y,w.cells? 0 (a.add (i*8)) 8=some cs'∧DataW.trod enc Tryd.prog w 0 (fun _=>true) true m 65 cs' = some y:=by
 rcases DataW.trod_slice yuFr h with⟨h0,_⟩ | ⟨a,len,cap,elems,rest,n,hfu,hc,_,_,hl,_,hlen,hel,hsp,_⟩
 ·injection h0 with h0
  exact .inl h0
 ·injection hc with hc
  obtain⟨hrl,hrest⟩:=hsp rfl
  rw[cz65]at hel hrest
  refine .inr ⟨a,len,cap,n,hfu,hc,hl,fun i hi=>?_⟩
  by_cases hil:i<len
  ·have:=hel i hil
   rw[List.getElem?_eq_getElem (by omega)]at this
   obtain⟨cs',h1,h2⟩:=Option.bind_eq_some_iff.1 this
   exact⟨cs',_,h1,h2⟩
  ·have:=hrest (i - len) (by omega)
   rw[show len+(i - len)=i by omega,List.getElem?_eq_getElem (by omega)]at this
   obtain⟨cs',h1,h2⟩:=Option.bind_eq_some_iff.1 this
   exact⟨cs',_,h1,h2⟩
theorem trod_r22{fuel:Nat}{c:Value}{x:DataW H × List MemPlace}(h:DataW.trod enc Tryd.prog w 0 (fun _=>true) true fuel 22 [c]=some x):
  c=.slice none 0 0∨∃(a:Addr) (len cap m:Nat),fuel=m+1∧c=.slice (some a) len cap∧len≤cap∧∀i,i<cap→∃cs' y,w.cells? 0 (a.add (i*6)) 6=some cs'∧DataW.trod enc Tryd.prog w 0 (fun _=>true) true m 27 cs' = some y:=by
 rcases DataW.trod_slice yuNr h with⟨h0,_⟩ | ⟨a,len,cap,elems,rest,n,hfu,hc,_,_,hl,_,hlen,hel,hsp,_⟩
 ·injection h0 with h0
  exact .inl h0
 ·injection hc with hc
  obtain⟨hrl,hrest⟩:=hsp rfl
  rw[cz27]at hel hrest
  refine .inr ⟨a,len,cap,n,hfu,hc,hl,fun i hi=>?_⟩
  by_cases hil:i<len
  ·have:=hel i hil
   rw[List.getElem?_eq_getElem (by omega)]at this
   obtain⟨cs',h1,h2⟩:=Option.bind_eq_some_iff.1 this
   exact⟨cs',_,h1,h2⟩
  ·have:=hrest (i - len) (by omega)
   rw[show len+(i - len)=i by omega,List.getElem?_eq_getElem (by omega)]at this
   obtain⟨cs',h1,h2⟩:=Option.bind_eq_some_iff.1 this
   exact⟨cs',_,h1,h2⟩
end
def CIn(P:AV→Prop)(W:World)(cs:List Value):Prop:=∃ys,P (.agg ys)∧(∀x∈ys,x.one=true)∧∀w1,Below W.heap.size W w1→VRL (GhW w1) w1 ys cs
def RIn(sz:Nat)(P:AV→Prop)(W:World)(c:Value):Prop:=∃kv,RawR sz P kv∧kv.one=true∧∀w1,Below W.heap.size W w1→VR (GhW w1) w1 kv c
theorem addZ(b o j:Nat):(⟨b,o,none⟩:Addr).add j=⟨b,o+j,none⟩:=by unfold Addr.add;split <;> simp_all
theorem cell_arrY{W:World}{b o:Nat}{v:Value}(h:W.cell? ⟨b,o,none⟩=some v):∃arr T fr,W.heap[b]? = some (Obj.cells arr T fr)∧o<arr.size:=by
 unfold World.cell? at h
 simp only at h
 split at h
 ·rename_i arr T fr ha
  simp only[Option.isSome_none,Bool.false_eq_true,if_false]at h
  exact⟨arr,T,fr,ha,(Array.getElem?_eq_some_iff.1 h).1⟩
 ·cases h
theorem flat_raw6(Y:Nat→List AV)(hY:∀i,(Y i).length=6):∀(n:Nat),(flat ((List.range n).map fun i=>AV.agg (Y i))).length=n*6∧∀k,k<n*6→(flat ((List.range n).map fun i=>AV.agg (Y i)))[k]? = (Y (k / 6))[k % 6]?
 |0=>⟨rfl,fun k h=>absurd h (by omega)⟩
 |n+1=>by
  obtain⟨h1,h2⟩:=flat_raw6 Y hY n
  have e:flat ((List.range (n+1)).map fun i=>AV.agg (Y i))=flat ((List.range n).map fun i=>AV.agg (Y i)) ++ Y n:=by
   rw[List.range_succ,List.map_append]
   unfold flat
   rw[List.flatMap_append]
   simp[AV.cells]
  rw[e]
  refine⟨by rw[List.length_append,h1,hY];omega,fun k hk=>?_⟩
  by_cases hkn:k<n*6
  ·rw[List.getElem?_append_left (by omega)];exact h2 k hkn
  ·rw[List.getElem?_append_right (by omega),h1]
   rw[show k / 6=n by omega,show k - n*6=k % 6 by omega]
theorem flat_raw8(Y:Nat→List AV)(hY:∀i,(Y i).length=8):∀(n:Nat),(flat ((List.range n).map fun i=>AV.agg (Y i))).length=n*8∧∀k,k<n*8→(flat ((List.range n).map fun i=>AV.agg (Y i)))[k]? = (Y (k / 8))[k % 8]?
 |0=>⟨rfl,fun k h=>absurd h (by omega)⟩
 |n+1=>by
  obtain⟨h1,h2⟩:=flat_raw8 Y hY n
  have e:flat ((List.range (n+1)).map fun i=>AV.agg (Y i))=flat ((List.range n).map fun i=>AV.agg (Y i)) ++ Y n:=by
   rw[List.range_succ,List.map_append]
   unfold flat
   rw[List.flatMap_append]
   simp[AV.cells]
  rw[e]
  refine⟨by rw[List.length_append,h1,hY];omega,fun k hk=>?_⟩
  by_cases hkn:k<n*8
  ·rw[List.getElem?_append_left (by omega)];exact h2 k hkn
  ·rw[List.getElem?_append_right (by omega),h1]
   rw[show k / 8=n by omega,show k - n*8=k % 8 by omega]
theorem flat_raw2(Y:Nat→List AV)(hY:∀i,(Y i).length=2):∀(n:Nat),(flat ((List.range n).map fun i=>AV.agg (Y i))).length=n*2∧∀k,k<n*2→(flat ((List.range n).map fun i=>AV.agg (Y i)))[k]? = (Y (k / 2))[k % 2]?
 |0=>⟨rfl,fun k h=>absurd h (by omega)⟩
 |n+1=>by
  obtain⟨h1,h2⟩:=flat_raw2 Y hY n
  have e:flat ((List.range (n+1)).map fun i=>AV.agg (Y i))=flat ((List.range n).map fun i=>AV.agg (Y i)) ++ Y n:=by
   rw[List.range_succ,List.map_append]
   unfold flat
   rw[List.flatMap_append]
   simp[AV.cells]
  rw[e]
  refine⟨by rw[List.length_append,h1,hY];omega,fun k hk=>?_⟩
  by_cases hkn:k<n*2
  ·rw[List.getElem?_append_left (by omega)];exact h2 k hkn
  ·rw[List.getElem?_append_right (by omega),h1]
   rw[show k / 2=n by omega,show k - n*2=k % 2 by omega]
theorem row_in6{P:AV→Prop}(hP:∀ys,P (.agg ys)→ys.length=6){dz:List AV}(hdz:dz.length=6){W:World}{c:Value}(h:c=.slice none 0 0∨∃(a:Addr) (len cap:Nat),c=.slice (some a) len cap∧len≤cap∧∀i,i<cap→∃cs',W.cells? 0 (a.add (i*6)) 6=some cs'∧CIn P W cs'):RIn 6 P W c:=by
 rcases h with rfl | ⟨ad,len,cap,rfl,hl,hi⟩
 ·exact⟨.nils,.inl rfl,rfl,fun _ _=>.nils⟩
 ·by_cases hc0:cap=0
  ·subst hc0
   obtain rfl:len=0:=by omega
   exact⟨.v (.slice (some ad) 0 0),.inr (.inr ⟨ad,rfl⟩),rfl,fun _ _=>.v _ rfl⟩
  ·obtain⟨cs0,hcs0,ht0⟩:=hi 0 (by omega)
   obtain⟨_,hl0,hat0⟩:=World.cells?_some hcs0
   obtain⟨b,o,sp⟩:=ad
   have p0:=hat0 0 (by omega)
   rw[List.getElem?_eq_getElem (by omega)]at p0
   have hspot:sp=none:=by simpa[Addr.add]using World.cell?_spot p0
   subst hspot
   have kid:∀i,i<cap→∃Y:List AV,P (.agg Y)∧(∀x∈Y,x.one=true)∧∃cs',cs'.length=6∧(∀j,j<6→W.cell? ⟨b,o+(i*6+j),none⟩=cs'[j]?)∧∀w1,Below W.heap.size W w1→VRL (GhW w1) w1 Y cs':=fun i hic=>by
    obtain⟨cs',hcs,Y,h1,h1o,h2⟩:=hi i hic
    obtain⟨_,hcl,hat⟩:=World.cells?_some hcs
    refine⟨Y,h1,h1o,cs',hcl,fun j hj=>?_,h2⟩
    rw[← hat j hj,addZ,addZ,Nat.add_assoc]
   obtain⟨Y,hY⟩:=choose_lt kid
   have hY6:∀i,((fun i=>if i<cap then Y i else dz) i).length=6:=fun i=>by
    simp only
    split
    ·rename_i h;exact hP _ (hY i h).1
    ·exact hdz
   generalize hZ:(fun i=>if i<cap then Y i else dz)=Z at hY6
   have hZi:∀i,i<cap→Z i=Y i:=fun i h=>by rw[← hZ];simp only;rw[if_pos h]
   obtain⟨f1,f2⟩:=flat_raw6 Z hY6 len
   refine⟨.sl 0 0 6 ((List.range len).map fun i=>.agg (Z i)),.inr (.inl ⟨_,rfl,fun e he=>?_⟩),rfl,fun w1 hb=>?_⟩
   ·obtain⟨i,hir,rfl⟩:=List.mem_map.1 he
    have hic:i<cap:=by have:=List.mem_range.1 hir;omega
    rw[hZi i hic];exact(hY i hic).1
   ·have hcell:∀i j,i<cap→j<6→∃v,W.cell? ⟨b,o+(i*6+j),none⟩=some v∧∃h:j<(Z i).length,VR (GhW w1) w1 (Z i)[j] v:=fun i j hic hj=>by
     obtain⟨h1,_,cs',h2,h3,h4⟩:=hY i hic
     obtain⟨h5,h6⟩:=h4 w1 hb
     refine⟨cs'[j]'(by omega),by rw[h3 j hj];exact List.getElem?_eq_getElem _,by rw[hY6];exact hj,?_⟩
     have:=h6 j (by rw[hP _ h1];exact hj) (by omega)
     simp only[hZi i hic]
     exact this
    obtain⟨vl,hvl,_⟩:=hcell (cap - 1) (6 - 1) (by omega) (by omega)
    obtain⟨arr,T,fr,ha,hlt⟩:=cell_arrY hvl
    have hbl:b<W.heap.size:=(Array.getElem?_eq_some_iff.1 ha).1
    have hk1:w1.heap[b]? = W.heap[b]?:=hb.block b hbl
    have hmain:VR (GhW w1) w1 (.sl 0 0 6 ((List.range len).map fun i=>.agg (Z i))) (.slice (some ⟨b,o,none⟩) ((List.range len).map fun i=>AV.agg (Z i)).length cap):=by
     refine .sl 0 0 6 _ b o cap (fun k=>((w1.cell? ⟨b,o+k,none⟩).getD undef)) (by omega) (fun e he=>?_) (fun x hx=>?_) (fun k hk=>?_) (fun k hk=>?_) (fun h=>absurd h (by omega)) (fun h=>absurd h (by omega)) (by simpa using hl) ⟨arr,T,fr,by rw[hk1];exact ha,by omega⟩
     ·obtain⟨i,_,rfl⟩:=List.mem_map.1 he;exact hY6 i
     ·unfold flat at hx
      obtain⟨e,he,hx⟩:=List.mem_flatMap.1 hx
      obtain⟨i,hir,rfl⟩:=List.mem_map.1 he
      have hic:i<cap:=by have:=List.mem_range.1 hir;omega
      have hx:x∈Z i:=hx
      rw[hZi i hic]at hx
      exact(hY i hic).2.1 x hx
     ·rw[f1]at hk
      obtain⟨v,hv,_⟩:=hcell (k / 6) (k % 6) (by omega) (by omega)
      rw[show o+(k / 6*6+k % 6)=o+k by omega]at hv
      have hv1:w1.cell? ⟨b,o+k,none⟩=some v:=(hb.cell (p:=⟨b,o+k,none⟩) hbl).trans hv
      simp only[hv1,Option.getD_some]
      exact⟨⟨Nat.lt_of_lt_of_le hbl hb.size,v,hv1⟩,trivial⟩
     ·have hk':=hk
      rw[f1]at hk
      obtain⟨v,hv,hlen,hvr⟩:=hcell (k / 6) (k % 6) (by omega) (by omega)
      rw[show o+(k / 6*6+k % 6)=o+k by omega]at hv
      have hv1:w1.cell? ⟨b,o+k,none⟩=some v:=(hb.cell (p:=⟨b,o+k,none⟩) hbl).trans hv
      have e1:=f2 k hk
      rw[List.getElem?_eq_getElem hk',List.getElem?_eq_getElem hlen]at e1
      injection e1 with e1
      simp only[hv1,Option.getD_some]
      rw[e1];exact hvr
    simpa using hmain
theorem row_in8{P:AV→Prop}(hP:∀ys,P (.agg ys)→ys.length=8){dz:List AV}(hdz:dz.length=8){W:World}{c:Value}(h:c=.slice none 0 0∨∃(a:Addr) (len cap:Nat),c=.slice (some a) len cap∧len≤cap∧∀i,i<cap→∃cs',W.cells? 0 (a.add (i*8)) 8=some cs'∧CIn P W cs'):RIn 8 P W c:=by
 rcases h with rfl | ⟨ad,len,cap,rfl,hl,hi⟩
 ·exact⟨.nils,.inl rfl,rfl,fun _ _=>.nils⟩
 ·by_cases hc0:cap=0
  ·subst hc0
   obtain rfl:len=0:=by omega
   exact⟨.v (.slice (some ad) 0 0),.inr (.inr ⟨ad,rfl⟩),rfl,fun _ _=>.v _ rfl⟩
  ·obtain⟨cs0,hcs0,ht0⟩:=hi 0 (by omega)
   obtain⟨_,hl0,hat0⟩:=World.cells?_some hcs0
   obtain⟨b,o,sp⟩:=ad
   have p0:=hat0 0 (by omega)
   rw[List.getElem?_eq_getElem (by omega)]at p0
   have hspot:sp=none:=by simpa[Addr.add]using World.cell?_spot p0
   subst hspot
   have kid:∀i,i<cap→∃Y:List AV,P (.agg Y)∧(∀x∈Y,x.one=true)∧∃cs',cs'.length=8∧(∀j,j<8→W.cell? ⟨b,o+(i*8+j),none⟩=cs'[j]?)∧∀w1,Below W.heap.size W w1→VRL (GhW w1) w1 Y cs':=fun i hic=>by
    obtain⟨cs',hcs,Y,h1,h1o,h2⟩:=hi i hic
    obtain⟨_,hcl,hat⟩:=World.cells?_some hcs
    refine⟨Y,h1,h1o,cs',hcl,fun j hj=>?_,h2⟩
    rw[← hat j hj,addZ,addZ,Nat.add_assoc]
   obtain⟨Y,hY⟩:=choose_lt kid
   have hY6:∀i,((fun i=>if i<cap then Y i else dz) i).length=8:=fun i=>by
    simp only
    split
    ·rename_i h;exact hP _ (hY i h).1
    ·exact hdz
   generalize hZ:(fun i=>if i<cap then Y i else dz)=Z at hY6
   have hZi:∀i,i<cap→Z i=Y i:=fun i h=>by rw[← hZ];simp only;rw[if_pos h]
   obtain⟨f1,f2⟩:=flat_raw8 Z hY6 len
   refine⟨.sl 0 0 8 ((List.range len).map fun i=>.agg (Z i)),.inr (.inl ⟨_,rfl,fun e he=>?_⟩),rfl,fun w1 hb=>?_⟩
   ·obtain⟨i,hir,rfl⟩:=List.mem_map.1 he
    have hic:i<cap:=by have:=List.mem_range.1 hir;omega
    rw[hZi i hic];exact(hY i hic).1
   ·have hcell:∀i j,i<cap→j<8→∃v,W.cell? ⟨b,o+(i*8+j),none⟩=some v∧∃h:j<(Z i).length,VR (GhW w1) w1 (Z i)[j] v:=fun i j hic hj=>by
     obtain⟨h1,_,cs',h2,h3,h4⟩:=hY i hic
     obtain⟨h5,h6⟩:=h4 w1 hb
     refine⟨cs'[j]'(by omega),by rw[h3 j hj];exact List.getElem?_eq_getElem _,by rw[hY6];exact hj,?_⟩
     have:=h6 j (by rw[hP _ h1];exact hj) (by omega)
     simp only[hZi i hic]
     exact this
    obtain⟨vl,hvl,_⟩:=hcell (cap - 1) (8 - 1) (by omega) (by omega)
    obtain⟨arr,T,fr,ha,hlt⟩:=cell_arrY hvl
    have hbl:b<W.heap.size:=(Array.getElem?_eq_some_iff.1 ha).1
    have hk1:w1.heap[b]? = W.heap[b]?:=hb.block b hbl
    have hmain:VR (GhW w1) w1 (.sl 0 0 8 ((List.range len).map fun i=>.agg (Z i))) (.slice (some ⟨b,o,none⟩) ((List.range len).map fun i=>AV.agg (Z i)).length cap):=by
     refine .sl 0 0 8 _ b o cap (fun k=>((w1.cell? ⟨b,o+k,none⟩).getD undef)) (by omega) (fun e he=>?_) (fun x hx=>?_) (fun k hk=>?_) (fun k hk=>?_) (fun h=>absurd h (by omega)) (fun h=>absurd h (by omega)) (by simpa using hl) ⟨arr,T,fr,by rw[hk1];exact ha,by omega⟩
     ·obtain⟨i,_,rfl⟩:=List.mem_map.1 he;exact hY6 i
     ·unfold flat at hx
      obtain⟨e,he,hx⟩:=List.mem_flatMap.1 hx
      obtain⟨i,hir,rfl⟩:=List.mem_map.1 he
      have hic:i<cap:=by have:=List.mem_range.1 hir;omega
      have hx:x∈Z i:=hx
      rw[hZi i hic]at hx
      exact(hY i hic).2.1 x hx
     ·rw[f1]at hk
      obtain⟨v,hv,_⟩:=hcell (k / 8) (k % 8) (by omega) (by omega)
      rw[show o+(k / 8*8+k % 8)=o+k by omega]at hv
      have hv1:w1.cell? ⟨b,o+k,none⟩=some v:=(hb.cell (p:=⟨b,o+k,none⟩) hbl).trans hv
      simp only[hv1,Option.getD_some]
      exact⟨⟨Nat.lt_of_lt_of_le hbl hb.size,v,hv1⟩,trivial⟩
     ·have hk':=hk
      rw[f1]at hk
      obtain⟨v,hv,hlen,hvr⟩:=hcell (k / 8) (k % 8) (by omega) (by omega)
      rw[show o+(k / 8*8+k % 8)=o+k by omega]at hv
      have hv1:w1.cell? ⟨b,o+k,none⟩=some v:=(hb.cell (p:=⟨b,o+k,none⟩) hbl).trans hv
      have e1:=f2 k hk
      rw[List.getElem?_eq_getElem hk',List.getElem?_eq_getElem hlen]at e1
      injection e1 with e1
      simp only[hv1,Option.getD_some]
      rw[e1];exact hvr
    simpa using hmain
theorem row_in2{P:AV→Prop}(hP:∀ys,P (.agg ys)→ys.length=2){dz:List AV}(hdz:dz.length=2){W:World}{c:Value}(h:c=.slice none 0 0∨∃(a:Addr) (len cap:Nat),c=.slice (some a) len cap∧len≤cap∧∀i,i<cap→∃cs',W.cells? 0 (a.add (i*2)) 2=some cs'∧CIn P W cs'):RIn 2 P W c:=by
 rcases h with rfl | ⟨ad,len,cap,rfl,hl,hi⟩
 ·exact⟨.nils,.inl rfl,rfl,fun _ _=>.nils⟩
 ·by_cases hc0:cap=0
  ·subst hc0
   obtain rfl:len=0:=by omega
   exact⟨.v (.slice (some ad) 0 0),.inr (.inr ⟨ad,rfl⟩),rfl,fun _ _=>.v _ rfl⟩
  ·obtain⟨cs0,hcs0,ht0⟩:=hi 0 (by omega)
   obtain⟨_,hl0,hat0⟩:=World.cells?_some hcs0
   obtain⟨b,o,sp⟩:=ad
   have p0:=hat0 0 (by omega)
   rw[List.getElem?_eq_getElem (by omega)]at p0
   have hspot:sp=none:=by simpa[Addr.add]using World.cell?_spot p0
   subst hspot
   have kid:∀i,i<cap→∃Y:List AV,P (.agg Y)∧(∀x∈Y,x.one=true)∧∃cs',cs'.length=2∧(∀j,j<2→W.cell? ⟨b,o+(i*2+j),none⟩=cs'[j]?)∧∀w1,Below W.heap.size W w1→VRL (GhW w1) w1 Y cs':=fun i hic=>by
    obtain⟨cs',hcs,Y,h1,h1o,h2⟩:=hi i hic
    obtain⟨_,hcl,hat⟩:=World.cells?_some hcs
    refine⟨Y,h1,h1o,cs',hcl,fun j hj=>?_,h2⟩
    rw[← hat j hj,addZ,addZ,Nat.add_assoc]
   obtain⟨Y,hY⟩:=choose_lt kid
   have hY6:∀i,((fun i=>if i<cap then Y i else dz) i).length=2:=fun i=>by
    simp only
    split
    ·rename_i h;exact hP _ (hY i h).1
    ·exact hdz
   generalize hZ:(fun i=>if i<cap then Y i else dz)=Z at hY6
   have hZi:∀i,i<cap→Z i=Y i:=fun i h=>by rw[← hZ];simp only;rw[if_pos h]
   obtain⟨f1,f2⟩:=flat_raw2 Z hY6 len
   refine⟨.sl 0 0 2 ((List.range len).map fun i=>.agg (Z i)),.inr (.inl ⟨_,rfl,fun e he=>?_⟩),rfl,fun w1 hb=>?_⟩
   ·obtain⟨i,hir,rfl⟩:=List.mem_map.1 he
    have hic:i<cap:=by have:=List.mem_range.1 hir;omega
    rw[hZi i hic];exact(hY i hic).1
   ·have hcell:∀i j,i<cap→j<2→∃v,W.cell? ⟨b,o+(i*2+j),none⟩=some v∧∃h:j<(Z i).length,VR (GhW w1) w1 (Z i)[j] v:=fun i j hic hj=>by
     obtain⟨h1,_,cs',h2,h3,h4⟩:=hY i hic
     obtain⟨h5,h6⟩:=h4 w1 hb
     refine⟨cs'[j]'(by omega),by rw[h3 j hj];exact List.getElem?_eq_getElem _,by rw[hY6];exact hj,?_⟩
     have:=h6 j (by rw[hP _ h1];exact hj) (by omega)
     simp only[hZi i hic]
     exact this
    obtain⟨vl,hvl,_⟩:=hcell (cap - 1) (2 - 1) (by omega) (by omega)
    obtain⟨arr,T,fr,ha,hlt⟩:=cell_arrY hvl
    have hbl:b<W.heap.size:=(Array.getElem?_eq_some_iff.1 ha).1
    have hk1:w1.heap[b]? = W.heap[b]?:=hb.block b hbl
    have hmain:VR (GhW w1) w1 (.sl 0 0 2 ((List.range len).map fun i=>.agg (Z i))) (.slice (some ⟨b,o,none⟩) ((List.range len).map fun i=>AV.agg (Z i)).length cap):=by
     refine .sl 0 0 2 _ b o cap (fun k=>((w1.cell? ⟨b,o+k,none⟩).getD undef)) (by omega) (fun e he=>?_) (fun x hx=>?_) (fun k hk=>?_) (fun k hk=>?_) (fun h=>absurd h (by omega)) (fun h=>absurd h (by omega)) (by simpa using hl) ⟨arr,T,fr,by rw[hk1];exact ha,by omega⟩
     ·obtain⟨i,_,rfl⟩:=List.mem_map.1 he;exact hY6 i
     ·unfold flat at hx
      obtain⟨e,he,hx⟩:=List.mem_flatMap.1 hx
      obtain⟨i,hir,rfl⟩:=List.mem_map.1 he
      have hic:i<cap:=by have:=List.mem_range.1 hir;omega
      have hx:x∈Z i:=hx
      rw[hZi i hic]at hx
      exact(hY i hic).2.1 x hx
     ·rw[f1]at hk
      obtain⟨v,hv,_⟩:=hcell (k / 2) (k % 2) (by omega) (by omega)
      rw[show o+(k / 2*2+k % 2)=o+k by omega]at hv
      have hv1:w1.cell? ⟨b,o+k,none⟩=some v:=(hb.cell (p:=⟨b,o+k,none⟩) hbl).trans hv
      simp only[hv1,Option.getD_some]
      exact⟨⟨Nat.lt_of_lt_of_le hbl hb.size,v,hv1⟩,trivial⟩
     ·have hk':=hk
      rw[f1]at hk
      obtain⟨v,hv,hlen,hvr⟩:=hcell (k / 2) (k % 2) (by omega) (by omega)
      rw[show o+(k / 2*2+k % 2)=o+k by omega]at hv
      have hv1:w1.cell? ⟨b,o+k,none⟩=some v:=(hb.cell (p:=⟨b,o+k,none⟩) hbl).trans hv
      have e1:=f2 k hk
      rw[List.getElem?_eq_getElem hk',List.getElem?_eq_getElem hlen]at e1
      injection e1 with e1
      simp only[hv1,Option.getD_some]
      rw[e1];exact hvr
    simpa using hmain
theorem str_v(s:ByteArray):(.v (.string s):AV)=strS s.data.toList:=by
 obtain⟨⟨l⟩⟩:=s
 rfl
theorem rawX_len(ys:List AV)(h:RawX (.agg ys)):ys.length=6:=by
 obtain⟨k,a,n,s,o,kv,e,_⟩:=rawX_cases h
 injection e with e
 subst e
 rfl
theorem rawD_len(ys:List AV)(h:RawD (.agg ys)):ys.length=6:=by
 obtain⟨s,a,b,f,c,o,e⟩:=h
 injection e with e
 subst e
 rfl
theorem rawL_len(ys:List AV)(h:RawL (.agg ys)):ys.length=2:=by
 obtain⟨s,a,e⟩:=h
 injection e with e
 subst e
 rfl
theorem rawQ_len(ys:List AV)(h:RawQ (.agg ys)):ys.length=8:=by
 obtain⟨lv,bb,x,e,_,hx⟩:=h
 injection e with e
 subst e
 have:=rawX_len x hx
 simp only[List.length_cons];omega
theorem rawN_len(ys:List AV)(h:RawN (.agg ys)):ys.length=6:=by
 obtain⟨s,a,v1,v2,v3,qv,e,_⟩:=h
 injection e with e
 subst e
 rfl
theorem rawR_rawXs{kv:AV}(h:RawR 6 RawX kv):RawXs kv:=by
 rcases h with rfl | ⟨es,rfl,h⟩ | ⟨a,rfl⟩
 ·exact .nil
 ·exact .row es h
 ·exact .emp a
section
variable {H:Type} {enc:TypeId × Value → H} {w:World}
theorem x_in:∀(N fuel:Nat),fuel<N→∀{cs:List Value} {x:DataW H × List MemPlace},DataW.trod enc Tryd.prog w 0 (fun _=>true) true fuel 63 cs=some x→CIn RawX w cs
 |0,_,h,_,_,_=>absurd h (Nat.not_lt_zero _)
 |N+1,fuel,hf,cs,x,h=>by
  obtain⟨m,v0,v1,v2,v3,v4,v5,rfl,hm,hn,y,h5⟩:=trod_s63 h
  obtain⟨kv,hk,ho,hv⟩:RIn 6 RawX w v5:=by
   refine row_in6 rawX_len (dz:=[.nils,.nils,.nils,.nils,.nils,.nils]) rfl ?_
   rcases trod_r61 h5 with h | ⟨ad,len,cap,m2,hm2,h,hl,hi⟩
   ·exact .inl h
   ·refine .inr ⟨ad,len,cap,h,hl,fun i hic=>?_⟩
    obtain⟨cs',y',h1,h2⟩:=hi i hic
    exact⟨cs',h1,x_in N m2 (by omega) h2⟩
  refine⟨[i64A v0,i64A v1,i64A v2,strS v3.data.toList,.v (.bool v4),kv],.mk _ _ _ _ _ _ hn (rawR_rawXs hk),fun z hz=>?_,fun w1 hb=>VRL.cons (.v _ rfl) (VRL.cons (.v _ rfl) (VRL.cons (.v _ rfl) (VRL.cons (by rw[← str_v];exact .v _ rfl) (VRL.cons (.v _ rfl) (VRL.cons (hv w1 hb) (VRL.nil _ _))))))⟩
  simp only[List.mem_cons,List.not_mem_nil,or_false]at hz
  rcases hz with rfl |rfl |rfl |rfl |rfl |rfl
  iterate 5 rfl
  exact ho
theorem d_in{fuel:Nat}{cs:List Value}{x:DataW H × List MemPlace}(h:DataW.trod enc Tryd.prog w 0 (fun _=>true) true fuel 44 cs=some x):CIn RawD w cs:=by
 obtain⟨m,v0,v1,v2,v3,v4,v5,rfl,hm⟩:=trod_s44 h
 refine⟨[strS v0.data.toList,i64A v1,.v (.bool v2),.v (.bool v3),strS v4.data.toList,.v (.bool v5)],⟨_,_,_,_,_,_,rfl⟩,fun z hz=>?_,fun w1 hb=>VRL.cons (by rw[← str_v];exact .v _ rfl) (VRL.cons (.v _ rfl) (VRL.cons (.v _ rfl) (VRL.cons (.v _ rfl) (VRL.cons (by rw[← str_v];exact .v _ rfl) (VRL.cons (.v _ rfl) (VRL.nil _ _))))))⟩
 simp only[List.mem_cons,List.not_mem_nil,or_false]at hz
 rcases hz with rfl |rfl |rfl |rfl |rfl |rfl <;> rfl
theorem l_in{fuel:Nat}{cs:List Value}{x:DataW H × List MemPlace}(h:DataW.trod enc Tryd.prog w 0 (fun _=>true) true fuel 68 cs=some x):CIn RawL w cs:=by
 obtain⟨m,v0,v1,rfl,hm⟩:=trod_s68 h
 refine⟨[strS v0.data.toList,i64A v1],⟨_,_,rfl⟩,fun z hz=>?_,fun w1 hb=>VRL.cons (by rw[← str_v];exact .v _ rfl) (VRL.cons (.v _ rfl) (VRL.nil _ _))⟩
 simp only[List.mem_cons,List.not_mem_nil,or_false]at hz
 rcases hz with rfl |rfl <;> rfl
theorem dr_in{fuel:Nat}{c:Value}{x:DataW H × List MemPlace}(h:DataW.trod enc Tryd.prog w 0 (fun _=>true) true fuel 24 [c]=some x):RIn 6 RawD w c:=by
 refine row_in6 rawD_len (dz:=[.nils,.nils,.nils,.nils,.nils,.nils]) rfl ?_
 rcases trod_r24 h with h | ⟨ad,len,cap,m2,hm2,h,hl,hi⟩
 ·exact .inl h
 ·exact .inr ⟨ad,len,cap,h,hl,fun i hic=>by obtain⟨cs',y',h1,h2⟩:=hi i hic;exact⟨cs',h1,d_in h2⟩⟩
theorem lr_in{fuel:Nat}{c:Value}{x:DataW H × List MemPlace}(h:DataW.trod enc Tryd.prog w 0 (fun _=>true) true fuel 60 [c]=some x):RIn 2 RawL w c:=by
 refine row_in2 rawL_len (dz:=[.nils,.nils]) rfl ?_
 rcases trod_r60 h with h | ⟨ad,len,cap,m2,hm2,h,hl,hi⟩
 ·exact .inl h
 ·exact .inr ⟨ad,len,cap,h,hl,fun i hic=>by obtain⟨cs',y',h1,h2⟩:=hi i hic;exact⟨cs',h1,l_in h2⟩⟩
theorem q_in{fuel:Nat}{cs:List Value}{x:DataW H × List MemPlace}(h:DataW.trod enc Tryd.prog w 0 (fun _=>true) true fuel 65 cs=some x):CIn RawQ w cs:=by
 obtain⟨m,v0,v1,v2,v3,v4,v5,v6,v7,rfl,hm,⟨y0,h0⟩,y2,h2⟩:=trod_s65 h
 obtain⟨lv,hl,hlo,hlv⟩:=lr_in h0
 obtain⟨ys,hx,hxo,hxv⟩:=x_in (m+1) m (Nat.lt_succ_self _) h2
 refine⟨lv :: .v (.bool v1) :: ys,⟨lv,v1,ys,rfl,hl,hx⟩,fun z hz=>?_,fun w1 hb=>VRL.cons (hlv w1 hb) (VRL.cons (.v _ rfl) (hxv w1 hb))⟩
 rcases List.mem_cons.1 hz with rfl |hz
 ·exact hlo
 ·rcases List.mem_cons.1 hz with rfl |hz
  ·rfl
  ·exact hxo z hz
theorem qr_in{fuel:Nat}{c:Value}{x:DataW H × List MemPlace}(h:DataW.trod enc Tryd.prog w 0 (fun _=>true) true fuel 25 [c]=some x):RIn 8 RawQ w c:=by
 refine row_in8 rawQ_len (dz:=[.nils,.nils,.nils,.nils,.nils,.nils,.nils,.nils]) rfl ?_
 rcases trod_r25 h with h | ⟨ad,len,cap,m2,hm2,h,hl,hi⟩
 ·exact .inl h
 ·exact .inr ⟨ad,len,cap,h,hl,fun i hic=>by obtain⟨cs',y',h1,h2⟩:=hi i hic;exact⟨cs',h1,q_in h2⟩⟩
theorem n_in{fuel:Nat}{cs:List Value}{x:DataW H × List MemPlace}(h:DataW.trod enc Tryd.prog w 0 (fun _=>true) true fuel 27 cs=some x):CIn RawN w cs:=by
 obtain⟨m,v0,v1,v2,v3,v4,v5,rfl,hm,⟨y2,h2⟩,⟨y3,h3⟩,⟨y4,h4⟩,y5,h5⟩:=trod_s27 h
 obtain⟨k2,a2,o2,b2⟩:=dr_in h2
 obtain⟨k3,a3,o3,b3⟩:=dr_in h3
 obtain⟨k4,a4,o4,b4⟩:=dr_in h4
 obtain⟨k5,a5,o5,b5⟩:=qr_in h5
 refine⟨[strS v0.data.toList,i64A v1,k2,k3,k4,k5],⟨_,_,k2,k3,k4,k5,rfl,a2,a3,a4,a5⟩,fun z hz=>?_,fun w1 hb=>VRL.cons (by rw[← str_v];exact .v _ rfl) (VRL.cons (.v _ rfl) (VRL.cons (b2 w1 hb) (VRL.cons (b3 w1 hb) (VRL.cons (b4 w1 hb) (VRL.cons (b5 w1 hb) (VRL.nil _ _))))))⟩
 simp only[List.mem_cons,List.not_mem_nil,or_false]at hz
 rcases hz with rfl |rfl |rfl |rfl |rfl |rfl
 ·rfl
 ·rfl
 ·exact o2
 ·exact o3
 ·exact o4
 ·exact o5
theorem nr_in{fuel:Nat}{c:Value}{x:DataW H × List MemPlace}(h:DataW.trod enc Tryd.prog w 0 (fun _=>true) true fuel 22 [c]=some x):RIn 6 RawN w c:=by
 refine row_in6 rawN_len (dz:=[.nils,.nils,.nils,.nils,.nils,.nils]) rfl ?_
 rcases trod_r22 h with h | ⟨ad,len,cap,m2,hm2,h,hl,hi⟩
 ·exact .inl h
 ·exact .inr ⟨ad,len,cap,h,hl,fun i hic=>by obtain⟨cs',y',h1,h2⟩:=hi i hic;exact⟨cs',h1,n_in h2⟩⟩
end
end Go.Ax
noncomputable section
namespace Go.Ax
open Go.RowKit Go.Proofs
set_option maxRecDepth 100000
theorem SR.whole(w:World):SR w.heap.size w (GhW w) St0 w :=
 ⟨.refl _ _,Nat.le_refl _,fun _ _ h=>h.2,fun _ _=>⟨rfl,rfl⟩,Nat.le_refl _,fun _ _ _ h=>(by cases h),fun _ _ h=>(by cases h),fun _ _ _ _ _ _ _ h=>(by cases h)⟩
def PowIn(w:World):Prop:=Lib.TabIs Tryd.prog w "internal/strconv.uint64pow10" .u64 Lib.pow10Tab
theorem gz_of{w:World}(hp:PowIn w):GR (GhW w) w gZ:=by
 intro g cs hg
 unfold gZ at hg
 cases hb3:Nat.beq g 0 with
 |false=>rw[hb3]at hg;cases hg
 |true =>
   have:g=0:=Nat.eq_of_beq_eq_true hb3
   subst this
   rw[hb3]at hg
   injection hg with hg;subst hg
   unfold PowIn Lib.TabIs World.var? at hp
   rw[gPowZ]at hp
   simp only[Option.bind_some]at hp
   split at hp
   ·rename_i arr T fr ha
    injection hp with h
    have hsz:arr.size=20:=by rw[h];simp[Lib.pow10Tab_length]
    have hcell:∀k,k<powG.length→w.cell? ⟨0,0+k,none⟩=some (arr.getD k undef):=fun k hk=>by
     rw[powG_len]at hk
     rw[Nat.zero_add,cells_at ha,Array.getElem?_eq_getElem (by omega)]
     simp[Array.getD,show k<arr.size by omega]
    refine⟨.ep powG 0 0 (fun k=>arr.getD k undef) (fun k hk=>⟨⟨World.block_lt_of_cell? w _ (hcell k hk),_,hcell k hk⟩,hcell k hk⟩) (fun x hx=>?_) (fun k hk=>?_),fun _=>⟨arr,T,fr,ha,by rw[hsz,powG_len]⟩⟩
    ·unfold powG at hx
     obtain⟨z,_,rfl⟩:=List.mem_map.1 hx
     rfl
    ·have hk2:=hk
     rw[powG_len]at hk2
     have e:arr.getD k undef=.int .u64 (Lib.pow10Tab[k]'(by rw[Lib.pow10Tab_length];omega)):=by
      rw[h]
      simp[Array.getD,Lib.pow10Tab_length,hk2]
     have e3:powG[k]=.v (.int .u64 (Lib.pow10Tab[k]'(by rw[Lib.pow10Tab_length];omega))):=by simp[powG]
     rw[e]
     have key:∀a:AV,a=.v (.int .u64 (Lib.pow10Tab[k]'(by rw[Lib.pow10Tab_length];omega)))→VR (GhW w) w a (.int .u64 (Lib.pow10Tab[k]'(by rw[Lib.pow10Tab_length];omega))):=fun a h=>h ▸ .v _ rfl
     exact key _ e3
   ·cases hp
theorem callsW_true{k:FuncId}{args:List AV}(h:WC EZ k args St0 (fun r=>∃S',r=.ret (.v (.bool true)) S'))(hF:(EZ.F k).isSome=true){w:World}{vs:List Value}(hg:GR (GhW w) w gZ)(hv:VRL (GhW w) w args vs):
  Calls Tryd.prog k vs.toArray w fun e w'=>e=.returned (.bool true)∧Below w.heap.size w w':=by
 obtain⟨r,⟨m0,hm⟩,S',rfl⟩:=h
 have hr:=hm m0 (Nat.le_refl _)
 have hne:callN EZ (drawnNew EZ) m0 k args St0≠.fail:=by
  show ckN EZ m0 k args St0≠.fail
  rw[hr];exact fun e=>by cases e
 have:=call_sound ez_ok ez_intr (drawnNew_ok ez_ok ez_mix) m0 w.heap.size w k args St0 hne (GhW w) w vs (SR.whole w) hg hv hF
 have hr':callN EZ (drawnNew EZ) m0 k args St0=_:=hr
 rw[hr']at this
 refine this.mono fun e w' he=>?_
 obtain⟨γ',v,h1,h2,h3,rfl⟩:=he
 cases h3
 exact⟨rfl,h1.below⟩
def NodesIn(W:World)(v:Value):Prop:=RIn 6 RawN W v
theorem nodes_in{H:Type}{enc:TypeId × Value→H}{W:World}{fuel:Nat}{a0:Option Addr}{len cap:Nat}{x:DataW H × List MemPlace}(h:DataW.trod enc Tryd.prog W 0 (fun _=>true) true fuel 22 (Value.slice a0 len cap).cells.toList=some x):NodesIn W (.slice a0 len cap) :=
 nr_in (by
  have e:(Value.slice a0 len cap).cells.toList=[.slice a0 len cap]:=by simp[Value.cells]
  rw[e]at h;exact h)
theorem tp_any(v:Value)(wh:Int)(w:World)(hn:NodesIn w v)(hp:PowIn w):Calls Tryd.prog 3 #[v,.int .i64 wh] w fun x w'=>x=.returned (.bool true)∧Below w.heap.size w w':=by
 obtain⟨kv,hk,_,hv⟩:=hn
 exact callsW_true (args:=[kv,i64A wh]) (vs:=[v,.int .i64 wh]) (tp_w hk wh) (by kernel_rfl) (gz_of hp) (VRL.cons (hv w (Below.refl _ _)) (VRL.cons (.v _ rfl) (VRL.nil _ _)))
end Go.Ax
