import Derived.Test.YtjmepebbcnhalaaGreatProg
import Derived.WalkKit
import Derived.WalkSpells
import Derived.WalkLawsBesides
import Derived.Deep.RegionHeld3
import Derived.BigQuiet
import Derived.Laws.BitsAllLaws
import Derived.Lib.Strings
import Derived.OwnWalk
namespace Go.Proofs.YtjmepebbcnhalaaGreat
open Tryz
open Go.RowKit
variable {w w':World} {v:Value} {i b c fuel:Nat} {P:Program} {ops:Array Oper} {Q:Exit→Act→World→Prop} {cs:Array Value} {a d:Int} {md:Region.Mode}
theorem Qe {α:Sort _} (a:α):∃ x,x=a:=⟨a,rfl⟩
theorem QG {o:Obj}:w.grownBy (w.alloc o) none:=World.grownBy_alloc _ _ none
theorem QS {α:Type} {a b:Option α} (h:a=b) (v:α) (e:b=some v):a=some v:=h.trans e
theorem QF {v k:Int} (h:¬v=k):(v == k)=false:=by simpa using h
theorem QK {p:Addr} (g:w.grownBy w' none) (h:w.cell? p=some v):w'.cell? p=some v:=g.cell h (by simp)
theorem Qg {α:Type _} {l:List α} (h:i<l.length):l[i]?=some l[i]:=List.getElem?_eq_getElem h
theorem Qh {α:Type _} {l:List α} {a:α} (h:l[i]?=some a):∃ h:i<l.length,l[i]=a:=List.getElem?_eq_some_iff.1 h
theorem Qx {p:Prop} [Decidable p] (h:¬p):decide p=false:=decide_eq_false h
theorem Qy {p:Prop} [Decidable p] (h:p):decide p=true:=decide_eq_true h
theorem Ql {a:Nat} (h:a≤b) (g:b≤c):a≤c:=Nat.le_trans h g
theorem Q0 (n:Nat):0≤n:=Nat.zero_le n
theorem Qj (n:Nat):n≤n:=Nat.le_refl n
theorem Qa {α:Type _} {l k:List α}:(l++k).length=l.length+k.length:=List.length_append
theorem Qm {α:Type _} {l:List α} {a:α} (h:l[i]?=some a):a∈l:=List.mem_of_getElem? h
def QH (p:Prop):Prop:=p
theorem QH.o {p:Prop} (h:QH p):p:=h
abbrev Qa0:=@World.grownBy_alloc
abbrev Qa1:=@Option.some.inj
abbrev Qa2:=@List.getD_eq_getElem?_getD
abbrev Qa3:=@World.size_alloc
abbrev Qa4:=@Calls.quiet_of_same
abbrev Qa5:=@World.ownsRow.lt
abbrev Qa6:=@List.setIfInBounds_toArray
abbrev Qa7:=@World.grownBy.cell
abbrev Qa8:=@Nat.zero_add
abbrev Qa9:=@List.length_map
abbrev Qaa:=@DataW.trod_int
abbrev Qab:=@List.getElem_mem
abbrev Qac:=@Nat.le_of_not_lt
abbrev Qad:=@List.cons.injEq
abbrev Qae:=@Bool.and_eq_true
abbrev Qaf:=@Nat.le_of_lt
abbrev Qag:=@Nat.le_antisymm
abbrev Qah:=@Bool.true_and
abbrev Qai:=@Bool.false_and
abbrev Qaj:=@List.getElem?_cons_succ
abbrev Qak:=@List.getElem?_map
abbrev Qal:=@Nat.lt_of_lt_of_le
abbrev Qam:=@List.length_take
abbrev Qan:=@List.getElem?_eq_none
abbrev Qao:=@Array.getElem?_setIfInBounds_ne
abbrev Qap:=@List.getElem?_append_right
abbrev Qaq:=@World.ownsRow.alloc
abbrev Qar:=@List.mem_cons_of_mem
abbrev Qas:=@List.take_length
abbrev Qat:=@List.take_add_one
abbrev Qau:=@List.length_cons
abbrev Qav:=@World.ownsRow.kept
abbrev Qaw:=@List.mem_cons_self
abbrev Qax:=@List.length_singleton
abbrev Qay:=@List.eq_nil_of_length_eq_zero
abbrev Qaz:=@List.nil_append
abbrev Qb0:=@List.set_cons_succ
abbrev Qb1:=@List.getElem?_append_left
abbrev Qb2:=@List.filter_cons
abbrev Qb3:=@Int.lt_irrefl
abbrev Qb4:=@List.append_nil
abbrev Qb5:=@List.set_cons_zero
abbrev Qb6:=@List.set_append_right
abbrev Qb7:=@List.drop_eq_getElem_cons
abbrev Qb8:=@List.append_assoc
abbrev Qb9:=@DataW.trod_struct
abbrev Qba:=@List.take_of_length_le
abbrev Qbb:=@List.map_append
abbrev Qbc:=@List.getElem?_toArray
abbrev Qbd:=@Bool.or_eq_true
abbrev Qbe:=@List.not_mem_nil
abbrev Qbf:=@List.drop_length
abbrev Qbg:=@Nat.lt_of_le_of_lt
abbrev Qbh:=@Nat.not_lt_zero
abbrev Qbi:=@List.getElem_of_mem
abbrev Qbj:=@World.block_lt_of_cell?
abbrev Qbk:=@List.getElem_map
abbrev Qbl:=@List.drop_eq_nil_of_le
abbrev Qbm:=@List.pairwise_map
abbrev Qbn:=@Array.length_toList
abbrev Qbo:=@List.mem_cons
abbrev Qbp:=@Array.getElem?_toList
abbrev Qbq:=@List.pairwise_cons
abbrev Qbr:=@Int.eq_ofNat_of_zero_le
abbrev Qbs:=@List.map_cons
abbrev Qbt:=@Nat.succ_mul
abbrev Qbu:=@List.range_succ
abbrev Qbv:=@Nat.min_eq_left
abbrev Qbw:=@World.ownsRow.frozenAt
abbrev Qbx:=@List.length_drop
abbrev Qby:=@List.mem_singleton
abbrev Qbz:=@Array.getElem?_eq_getElem
abbrev Qc0:=@List.length_range
abbrev Qc1:=@Option.map_some
abbrev Qc2:=@List.ext_getElem?
abbrev Qc3:=@Int.toNat_natCast
abbrev Qc4:=@List.drop_append_of_le_length
abbrev Qc5:=@Nat.pos_of_ne_zero
abbrev Qc6:=@Bool.and_eq_false_iff
abbrev Qc7:=@List.length_nil
abbrev Qc8:=@List.length_set
abbrev Qc9:=@DataW.trod_bool
abbrev Qca:=@Nat.le_succ_of_le
abbrev Qcb:=@Option.some.injEq
abbrev Qcc:=@List.getElem?_set_ne
abbrev Qcd:=@World.ownsRow.cellAt
abbrev Qce:=@Nat.mul_le_mul_right
abbrev Qcf:=@List.mem_or_eq_of_mem_set
abbrev Qcg:=@List.pairwise_iff_getElem
abbrev Qch:=@List.all_eq_true
abbrev Qci:=@List.ext_getElem
abbrev Qcj:=@List.getElem?_take_of_lt
abbrev Qck:=@List.Pairwise.imp_of_mem
abbrev Qcl:=@List.length_zip
abbrev Qcm:=@List.getElem?_cons_zero
abbrev Qcn:=@Option.isSome_none
abbrev Qco:=@Option.isSome_some
abbrev Qcp:=@Int.cast_ofNat_Int
abbrev Qcq:=@List.findIdx?_eq_some_iff_getElem
abbrev Qcr:=@List.getElem?_set_self
abbrev Qcs:=@DataW.trod_string
abbrev Qct:=@World.cells?_some
abbrev Qcu:=@Bool.and_false
abbrev Qcv:=@List.filterMap_append
abbrev Qcw:=@List.take_append_drop
abbrev Qcx:=@List.singleton_append
abbrev Qcy:=@List.getElem?_of_mem
abbrev Qcz:=@Nat.add_assoc
abbrev Qd0:=@List.filterMap_cons
abbrev Qd1:=@List.mergeSort_perm
abbrev Qd2:=@List.mem_append
abbrev Qd3:=@Bool.eq_iff_iff
abbrev Qd4:=@List.map_congr_left
abbrev Qd5:=@List.getElem?_range
abbrev Qd6:=@List.mem_map_of_mem
abbrev Qd7:=@Nat.zero_mul
abbrev Qd8:=@List.getElem_range
abbrev Qd9:=@List.getElem?_take
abbrev Qda:=@List.Perm.refl
abbrev Qdb:=@List.mem_range
abbrev Qdc:=@List.find?_append
abbrev Qdd:=@List.foldl_append
abbrev Qde:=@Nat.lt_trichotomy
abbrev Qdf:=@Nat.lt_irrefl
abbrev Qdg:=@DataW.trod_lt
abbrev Qdh:=@Bool.true_or
abbrev Qdi:=@Nat.lt_trans
abbrev Qdj:=@Int.mul_zero
abbrev Qdk:=@Int.add_zero
abbrev Qdl:=@Nat.mul_comm
theorem lu {w1:World} {rest:List Oper} {o:Oper} {a:Act} (hgd:o.guard=none) (t:TypeId) (parts:Array (Nat×Operand))
  (ho:o.op=.build t parts) (vs:Array (Nat×Value)) (hv:(parts.map fun (i,x)=>(i,a.eval x))=vs) (v:Value) (hrun:(Instr.build t vs).run P w=.ok v w1) (h:wpList P ops Q rest (a.put o.dst v) w1):wpList P ops Q (o :: rest) a w:=by
 refine wpList_plain hgd fun K hK=>?_;unfold Oper.wp;simp only[execOp,ho,Sem.run_bind,hv,hrun,Result.andThen_ok];exact hK _ _ h
theorem yS {w1:World} {rest:List Oper} {o:Oper} {a:Act} (hgd:o.guard=none) (t:TypeId) (x:Operand)
  (ho:o.op=.box t x) (y:Value) (hy:a.eval x=y) (v:Value) (hrun:(Instr.box t y).run P w=.ok v w1) (h:wpList P ops Q rest (a.put o.dst v) w1):wpList P ops Q (o :: rest) a w:=by
 refine wpList_plain hgd fun K hK=>?_;unfold Oper.wp;simp only[execOp,ho,Sem.run_bind,hy,hrun,Result.andThen_ok];exact hK _ _ h

def dt (l:List Int):List Value:=l.map fun z=>Value.int .i64 z
theorem tP (l:List Int):(dt l).length=l.length:=by simp[dt]
theorem Ed (l:List Int) (i:Nat) (h:i<l.length):(dt l)[i]?=some (.int .i64 (l.getD i 0)):=by
 simp[dt,List.getD,Qg h]
theorem ae {t:TypeId} (h:w.heap[b]?=some (.cells cs t (0,0))) (i:Nat):w.cell? ⟨b,i,none⟩=cs[i]?:=by simp[World.cell?,h]
theorem aq {t:TypeId} (h:w.heap[b]?=some (.cells cs t (0,0))) (i:Nat):w.frozen? ⟨b,i,none⟩=false:=by simp[World.frozen?,h]
theorem au {t:TypeId} (h:w.heap[b]?=some (.cells cs t (0,0))) (i:Nat) (v:Value):(w.setCell ⟨b,i,none⟩ v).heap[b]?=some (.cells (cs.setIfInBounds i v) t (0,0)):=by
 simp[World.setCell,Array.getElem?_modify,h]
theorem aY {o:Obj} (h:w.heap[b]?=some o):b<w.heap.size:=(Array.getElem?_eq_some_iff.1 h).1
theorem aw (w:World) (r:Option Nat):w.grownBy w r:=⟨rfl,rfl,rfl,Qj _,fun _ _ _=>rfl⟩
theorem al (w:World) (b i:Nat) (v:Value):w.grownBy (w.setCell ⟨b,i,none⟩ v) (some b) :=
 ⟨rfl,rfl,rfl,by simp[World.setCell],fun k _ hk=>Below.heap_setCell _ _ _ _ (by simpa using hk)⟩
theorem aa {a b c:World} {r:Option Nat} (h:a.grownBy b r) (k:b.grownBy c r):a.grownBy c r :=
 ⟨k.os.trans h.os,k.tape.trans h.tape,k.output.trans h.output,Ql h.size k.size,fun i hi hr=>(k.block i (Qal hi h.size) hr).trans (h.block i hi hr)⟩
theorem ag {a b:World} {r:Option Nat} (h:a.grownBy b r) {k:Nat} {o:Obj} (hk:a.heap[k]?=some o) (hr:some k≠r):b.heap[k]?=some o:=by
 rw[h.block k (aY hk) hr];exact hk
theorem aA (w:World) (n:Nat) (r:Option Nat):w.grownBy (w.drewN n) r:=⟨rfl,rfl,rfl,Qj _,fun _ _ _=>rfl⟩

theorem ak {a b c:World} {r:Option Nat} (h:a.grownBy b none) (k:b.grownBy c r) (hr:∀ x,r=some x→a.heap.size≤x):a.grownBy c none :=
 ⟨k.os.trans h.os,k.tape.trans h.tape,k.output.trans h.output,Ql h.size k.size,fun i hi _=>(k.block i (Qal hi h.size) (fun e=>by have:=hr i e.symm;omega)).trans (h.block i hi (by simp))⟩
theorem aO {k:IntKind} {b:Int} (h:a=b):Ending.returned (.int k a)=.returned (.int k b):=by rw[h]
theorem jp (h:w.grownBy w' none):Below w.heap.size w w':=⟨h.os,h.tape,h.output,h.size,fun k hk=>h.block k hk (by simp)⟩
theorem am {a b:World} (h:a.grownBy b none) (o:Obj):a.grownBy (b.alloc o) none:=ak (r:=none) h (Qa0 _ _ _) (by simp)
theorem aj (w:World) (cs:Array Value) (t:TypeId):(w.alloc (.cells cs t)).heap[w.heap.size]?=some (.cells cs t (0,0)):=by
 show (w.heap.push _)[w.heap.size]?=_;rw[Array.getElem?_push_size]
theorem QA {α:Type} {xs:List α} (h:i<xs.toArray.size):xs.toArray[i]=xs[i]'(by simpa using h):=List.getElem_toArray h
theorem QB {α:Type} {a:α} {xs:List α} (h:0<(a :: xs).length):(a :: xs)[0]=a:=rfl
theorem QC {α:Type} {a:α} {xs:List α} (h:i+1<(a :: xs).length):(a :: xs)[i+1]=xs[i]'(Nat.lt_of_succ_lt_succ h):=rfl
theorem QT {S:World→Prop} (i:Nat) {oi:Oper} {v:Value} {fuel:Nat} {listed:Array Bool} {a:Act} {w:World} (hi:ops.toList[i]?=some oi) (hy:∀ w0,S w0→(execOp a.eval oi).run P w0=.ok (.value v) w0) (h:wpAnyH P md ops Q S fuel (listed.setIfInBounds i true) (a.put oi.dst v) w) (hs:Region.noSelect ops=true:=by kernel_rfl) (hf:Region.free md ops listed i=true:=by kernel_rfl) (hr:(Region.ready md ops listed).contains i=true:=by kernel_rfl) (hQ:∀ c a w,Q (.panic c) (a.put oi.dst v) w→Q (.panic c) a w:=by exact fun _ _ _ h=>h) (hw:Region.wanted oi (yielded ops a.tmps)=true:=by rfl) (hS:S w:=by assumption):wpAnyH P md ops Q S (fuel+1) listed a w:=wpAnyH_take (by rw[←Qbp];exact hi) hs hf hr hQ (Or.inl ⟨hw,hy⟩) hS h
theorem QZ {S:World→Prop} (i:Nat) {oi:Oper} {v:Value} {fuel:Nat} {listed:Array Bool} {a:Act} {w:World} (hi:ops.toList[i]?=some oi) (h:wpAnyH P md ops Q S fuel (listed.setIfInBounds i true) (a.put oi.dst v) w) (hy:∀ w0,S w0→(execOp a.eval oi).run P w0=.ok (.value v) w0:=by intro w0 hSw;go_simp;try with_reducible rfl) (hs:Region.noSelect ops=true:=by kernel_rfl) (hf:Region.free md ops listed i=true:=by kernel_rfl) (hr:(Region.ready md ops listed).contains i=true:=by kernel_rfl) (hQ:∀ c a w,Q (.panic c) (a.put oi.dst v) w→Q (.panic c) a w:=by exact fun _ _ _ h=>h) (hw:Region.wanted oi (yielded ops a.tmps)=true:=by rfl) (hS:S w:=by assumption):wpAnyH P md ops Q S (fuel+1) listed a w:=wpAnyH_take (by rw[←Qbp];exact hi) hs hf hr hQ (Or.inl ⟨hw,hy⟩) hS h
theorem QN {S:World→Prop} (i:Nat) {oi:Oper} {fuel:Nat} {listed:Array Bool} {a:Act} {w:World} (hi:ops.toList[i]?=some oi) (h:wpAnyH P md ops Q S fuel (listed.setIfInBounds i true) (a.put oi.dst undef) w) (hs:Region.noSelect ops=true:=by kernel_rfl) (hf:Region.free md ops listed i=true:=by kernel_rfl) (hr:(Region.ready md ops listed).contains i=true:=by kernel_rfl) (hQ:∀ c a w,Q (.panic c) (a.put oi.dst undef) w→Q (.panic c) a w:=by exact fun _ _ _ h=>h) (hw:Region.wanted oi (yielded ops a.tmps)=false:=by rfl) (hS:S w:=by assumption):wpAnyH P md ops Q S (fuel+1) listed a w:=wpAnyH_take (by rw[←Qbp];exact hi) hs hf hr hQ (Or.inr ⟨hw,rfl⟩) hS h
theorem QR {S:World→Prop} (i:Nat) {o:Oper} {fuel:Nat} {listed:Array Bool} {a:Act} {w:World} (ho:ops.toList[i]?=some o) (h:∀ K':Act→World→Prop,Shut (∀ a w,S w→(S w→wpAnyH P md ops Q S fuel (listed.setIfInBounds i true) a w)→K' a w)→if Region.wanted o (yielded ops a.tmps)=true then Oper.wp P o a w K' Q else K' (a.put o.dst undef) w) (hr:Region.ready md ops listed=[i]:=by kernel_rfl):wpAnyH P md ops Q S (fuel+1) listed a w:=wpAnyH_ready hr (by simp) (AllReadyH.cons (by rw[←Qbp];exact ho) h AllReadyH.nil)
theorem QD {S:World→Prop} {listed:Array Bool} {a:Act} (h:Q .normal a w) (hr:Region.ready md ops listed=[]:=by kernel_rfl):wpAnyH P md ops Q S fuel listed a w:=wpAnyH_done hr h fuel
end Go.Proofs.YtjmepebbcnhalaaGreat
namespace Go.Proofs.YtjmepebbcnhalaaGreat
open Tryz
variable {w w':World} {v:Value} {i b c fuel:Nat} {P:Program} {ops:Array Oper} {Q:Exit→Act→World→Prop} {cs:Array Value} {a d:Int} {md:Region.Mode}
structure Pt where
 wn:Int
 vb:Int
 wm:Int
 ct:Int
 su:Int
 tr:Int
 mr:Int
 nm:ByteArray
def Pt.none:Pt:=⟨0,0,0,0,0,0,0,⟨#[]⟩⟩
structure Pt.wf (p:Pt):Prop where
 wn:0≤p.wn∧p.wn≤255
 vb:0≤p.vb∧p.vb≤255
 wm:0≤p.wm∧p.wm≤255
 ct:-9223372036854775808≤p.ct∧p.ct≤9223372036854775807
 su:0≤p.su∧p.su≤255
 tr:0≤p.tr∧p.tr≤255
 mr:0≤p.mr∧p.mr≤255

def cls (v:Int):Int:=if 1≤v∧v≤9 then 1 else if 10≤v∧v≤15 then 2 else if 16≤v∧v≤19 then 3 else 0
def wnt (w:Int):Int:=if 1≤w∧w≤4 then 1 else if w=5 then 2 else if w=6 then 3 else 0
def isW (w:Int):Bool:=decide (1≤w) && decide (w≤10)
def uC (v:Int):Bool:=decide (v=1∨v=2∨v=3∨v=4∨v=5∨v=7∨v=9∨v=14∨v=15∨v=16∨v=19)
def uS (v w:Int):Bool:=decide (v=11) || decide (w=9)
def uT (v w:Int):Bool:=decide (v=12) || decide (v=13) || decide (w=10)
def uM (v:Int):Bool:=decide (v=9)
def uN (v:Int):Bool:=decide (v=7)
def lo (v:Int):Int:=if v=1∨v=2∨v=3∨v=4∨v=7∨v=16∨v=19 then 1 else if v=9∨v=15 then -99 else if v=5 then -9 else 0
def hi (v:Int):Int:=if v=1∨v=2∨v=3∨v=4∨v=7∨v=16∨v=19 then 99 else if v=9∨v=15 then 99 else if v=5 then 9 else if v=14 then 99 else 0
def lay (v:Int):Int:=if v=10 then 1 else if v=11 then 2 else if v=12∨v=13 then 3 else if v=14 then 4 else if v=15 then 5 else 0
def abP (v:Int):Bool:=!decide (v=6∨v=8∨v=9) && !decide (cls v=2)
def abt (wn vb wm:Int):Bool:=if wm=3 then decide (wn=1) else if wm=1∨wm=2 then abP vb else true
def eI (v c:Int):Bool:=if c=0 then decide (lo v=0) else decide (lo v≤c) && decide (c≤hi v)
def bH (u:Bool) (x m:Int):Bool:=if u then decide (1≤x) && decide (x≤m) else decide (x=0)
def rR (p:Pt):Bool:=bH (uS p.vb p.wm) p.su 6 && (bH (uT p.vb p.wm) p.tr 8 && bH (uM p.vb) p.mr 4)
def bU (c:UInt8):Bool:=decide (97≤c.toNat) && decide (c.toNat≤122)
def aS (l:List UInt8):Bool:=match l with
 | []=>false
 | c :: r=>decide (r.length≤19) && (bU c && r.all fun x=>bU x || decide (x=45))
def qg (p:Pt):Bool:=if uN p.vb then aS p.nm.data.toList else decide (p.nm.data.toList=[])
def chk (p:Pt):Int :=
 if wnt p.wn=0∨cls p.vb=0∨isW p.wm=false then 2
 else if ¬cls p.vb=wnt p.wn∨(p.vb=11∧p.wm=9) then 8
 else if abt p.wn p.vb p.wm=false then 13
 else if eI p.vb p.ct=false∨rR p=false then 2
 else if qg p=false then 4
 else 0
structure May (p:Pt):Prop where
 wn:1≤p.wn∧p.wn≤6
 vb:1≤p.vb∧p.vb≤19
 wm:1≤p.wm∧p.wm≤10
 ct:if uC p.vb then -99≤p.ct∧p.ct≤99 else p.ct=0
 su:if uS p.vb p.wm then 1≤p.su∧p.su≤6 else p.su=0
 tr:if uT p.vb p.wm then 1≤p.tr∧p.tr≤8 else p.tr=0
 mr:if uM p.vb then 1≤p.mr∧p.mr≤4 else p.mr=0
 nm:if uN p.vb then aS p.nm.data.toList=true else p.nm=⟨#[]⟩

theorem fh {v:Int} (h:1≤v∧v≤19):v=1∨v=2∨v=3∨v=4∨v=5∨v=6∨v=7∨v=8∨v=9∨v=10∨v=11∨v=12∨v=13∨v=14∨v=15∨v=16∨v=17∨v=18∨v=19:=by omega
theorem qN {v:Int} (h:1≤v∧v≤6):v=1∨v=2∨v=3∨v=4∨v=5∨v=6:=by omega
theorem rH:bU 32=false:=by decide
theorem iW {l:List UInt8} (h:aS l=true):(32:UInt8) ∉ l∧l.length≤20:=by
 cases l with
 | nil=>simp[aS] at h
 | cons c r =>
  simp only[aS,Bool.and_eq_true,decide_eq_true_eq] at h;obtain⟨h1,h2,h3⟩:=h;refine⟨fun hm=>?_,by simp only[List.length_cons];omega⟩
  rcases Qbo.1 hm with h' | h'
  ·rw[←h',rH] at h2;cases h2
  ·have:=Qch.1 h3 _ h';revert this;decide
def nI (k:Int):Int:=if k=1 then 1 else if k=2 then 2 else if k=3 then 4 else if k=4 then 8 else if k=5 then 16 else if k=6 then 32 else if k=7 then 64 else if k=8 then 128 else 0
def cM (s:Int):Bool:=bits .andNot .u16 s 255 == 0
structure Cd where
 nm:ByteArray
 su:Int
 kd:Int
 co:Int
 po:Int
 he:Int
 tr:Int
 tk:Bool
 ps:List Pt
def Cd.none:Cd:=⟨⟨#[]⟩,0,0,0,0,0,0,false,[]⟩
structure Cd.wf (c:Cd):Prop where
 su:0≤c.su∧c.su≤255
 kd:0≤c.kd∧c.kd≤255
 co:-9223372036854775808≤c.co∧c.co≤9223372036854775807
 po:-9223372036854775808≤c.po∧c.po≤9223372036854775807
 he:-9223372036854775808≤c.he∧c.he≤9223372036854775807
 tr:0≤c.tr∧c.tr≤65535
 ps:∀ p∈c.ps,p.wf
def gz (kd wn:Int):Bool:=if kd=2 then decide (wn=1) else if kd=3 then !decide (wn=4) else true
def eK (c:Cd):Bool:=if c.kd=1 then !decide (c.he=0) else decide (c.po=0) && decide (c.he=0)
def eH (kd:Int):List Pt→Int
 | []=>0
 | p :: r=>if ¬chk p=0 then chk p else if gz kd p.wn=false then 8 else eH kd r
def gi (c:Cd):Int :=
 if aS c.nm.data.toList=false then 4
 else if ¬(1≤c.su∧c.su≤6)∨¬(1≤c.kd∧c.kd≤3) then 8
 else if ¬(0≤c.co∧c.co≤10)∨¬(0≤c.po∧c.po≤99)∨¬(0≤c.he∧c.he≤99) then 2
 else if eK c=false∨cM c.tr=false∨(c.kd=2∧c.tk=true) then 8
 else if 4<c.ps.length then 3
 else eH c.kd c.ps
set_option maxRecDepth 100000
set_option maxHeartbeats 2000000
open Go.RowKit
theorem iY (v:Int):(1≤v∧v≤19)∨(v<1∨19<v):=by omega
theorem yO (v:Int):(1≤v∧v≤6)∨(v<1∨6<v):=by omega
theorem fS {v:Int} (h:v<1∨19<v):cls v=0∧uC v=false∧uM v=false∧uN v=false∧lo v=0∧hi v=0∧lay v=0∧abP v=true∧(∀ w,uS v w=decide (w=9))∧∀ w,uT v w=decide (w=10):=by
 have hc:cls v=0:=by
  unfold cls;rw[if_neg (by omega),if_neg (by omega),if_neg (by omega)]
 have h1:¬v=1:=by omega
 have h2:¬v=2:=by omega
 have h3:¬v=3:=by omega
 have h4:¬v=4:=by omega
 have h5:¬v=5:=by omega
 have h6:¬v=6:=by omega
 have h7:¬v=7:=by omega
 have h8:¬v=8:=by omega
 have h9:¬v=9:=by omega
 have h10:¬v=10:=by omega
 have h11:¬v=11:=by omega
 have h12:¬v=12:=by omega
 have h13:¬v=13:=by omega
 have h14:¬v=14:=by omega
 have h15:¬v=15:=by omega
 have h16:¬v=16:=by omega
 have h19:¬v=19:=by omega
 simp[hc,uC,uM,uN,lo,hi,lay,abP,uS,uT,h1,h2,h3,h4,h5,h6,h7,h8,h9,h10,h11,h12,h13,h14,h15,h16,h19]
theorem yy {v:Int} (h:v<1∨6<v):wnt v=0:=by
 unfold wnt;rw[if_neg (by omega),if_neg (by omega),if_neg (by omega)]
theorem Bd {b:Int} (h:a=b):Ending.returned (.int .u8 a)=.returned (.int .u8 b):=by rw[h]
theorem jF {b:Int} (h:a=b):Ending.returned (.int .i64 a)=.returned (.int .i64 b):=by rw[h]
theorem aL {a b:Bool} (h:a=b):Ending.returned (.bool a)=.returned (.bool b):=by rw[h]
theorem yD {b c:Int} (h:a=b) (h':c=d):Ending.returned (.tuple #[.int .i64 a,.int .i64 c])=.returned (.tuple #[.int .i64 b,.int .i64 d]):=by rw[h,h']
theorem cG (v:Int) (w:World):Calls prog 274 #[.int .u8 v] w fun e w'=>e=.returned (.int .u8 (cls v))∧w'=w:=by
 rcases iY v with h | h
 ·rcases fh h with rfl | rfl | rfl | rfl | rfl | rfl | rfl | rfl | rfl | rfl | rfl | rfl | rfl | rfl | rfl | rfl | rfl | rfl | rfl
  all_goals
   go_enter func274,ntmps274;go_wp2;go_ret;exact⟨Bd (by decide),rfl⟩
 ·rw[(fS h).1];have g1:(v == 1)=false:=QF (by omega);have g2:(v == 2)=false:=QF (by omega);have g3:(v == 3)=false:=QF (by omega);have g4:(v == 4)=false:=QF (by omega);have g5:(v == 5)=false:=QF (by omega);have g6:(v == 6)=false:=QF (by omega);have g7:(v == 7)=false:=QF (by omega);have g8:(v == 8)=false:=QF (by omega);have g9:(v == 9)=false:=QF (by omega);have g10:(v == 10)=false:=QF (by omega);have g11:(v == 11)=false:=QF (by omega);have g12:(v == 12)=false:=QF (by omega);have g13:(v == 13)=false:=QF (by omega);have g14:(v == 14)=false:=QF (by omega);have g15:(v == 15)=false:=QF (by omega);have g16:(v == 16)=false:=QF (by omega);have g17:(v == 17)=false:=QF (by omega);have g18:(v == 18)=false:=QF (by omega);have g19:(v == 19)=false:=QF (by omega)

  go_enter func274,ntmps274;go_wp2;go_ret;exact⟨rfl,rfl⟩
theorem cU (v:Int) (w:World):Calls prog 273 #[.int .u8 v] w fun e w'=>e=.returned (.int .u8 (wnt v))∧w'=w:=by
 rcases yO v with h | h
 ·rcases qN h with rfl | rfl | rfl | rfl | rfl | rfl
  all_goals
   go_enter func273,ntmps273;go_wp2;go_ret;exact⟨Bd (by decide),rfl⟩
 ·rw[yy h];have g1:(v == 1)=false:=QF (by omega);have g2:(v == 2)=false:=QF (by omega);have g3:(v == 3)=false:=QF (by omega);have g4:(v == 4)=false:=QF (by omega);have g5:(v == 5)=false:=QF (by omega);have g6:(v == 6)=false:=QF (by omega)

  go_enter func273,ntmps273;go_wp2;go_ret;exact⟨rfl,rfl⟩
theorem eE (v:Int) (w:World):Calls prog 275 #[.int .u8 v] w fun e w'=>e=.returned (.bool (isW v))∧w'=w:=by
 by_cases h:1≤v
 ·by_cases h':v≤10
  ·go_enter func275,ntmps275;go_wp2;go_ret;exact⟨aL (by simp[isW,h,h']),rfl⟩
  ·go_enter func275,ntmps275;go_wp2;go_ret;exact⟨aL (by simp[isW,h,h']),rfl⟩
 ·go_enter func275,ntmps275;go_wp2;go_ret;exact⟨aL (by simp[isW];omega),rfl⟩
theorem aN (v:Int) (w:World):Calls prog 244 #[.int .u8 v] w fun e w'=>e=.returned (.int .i64 (cls v))∧w'=w:=by
 rcases iY v with h | h
 ·rcases fh h with rfl | rfl | rfl | rfl | rfl | rfl | rfl | rfl | rfl | rfl | rfl | rfl | rfl | rfl | rfl | rfl | rfl | rfl | rfl
  all_goals
   go_enter func244,ntmps244;go_wp2;go_ret;exact⟨jF (by decide),rfl⟩
 ·rw[(fS h).1]
  rcases h with h | h

  ·have a1:¬1≤v:=(by omega);have a2:¬10≤v:=(by omega);have a3:¬16≤v:=(by omega);go_enter func244,ntmps244;go_wp2;go_ret;exact⟨rfl,rfl⟩
  ·have a1:1≤v:=(by omega);have a2:10≤v:=(by omega);have a3:16≤v:=(by omega);have b1:¬v≤9:=(by omega);have b2:¬v≤15:=(by omega);have b3:¬v≤19:=(by omega);go_enter func244,ntmps244;go_wp2;go_ret;exact⟨rfl,rfl⟩
theorem bN (v:Int) (w:World):Calls prog 245 #[.int .u8 v] w fun e w'=>e=.returned (.int .i64 (wnt v))∧w'=w:=by
 rcases yO v with h | h
 ·rcases qN h with rfl | rfl | rfl | rfl | rfl | rfl
  all_goals
   go_enter func245,ntmps245;go_wp2;go_ret;exact⟨jF (by decide),rfl⟩
 ·rw[yy h]
  rcases h with h | h

  ·have a1:¬1≤v:=(by omega);have a2:(v == 5)=false:=QF (by omega);have a3:(v == 6)=false:=QF (by omega);go_enter func245,ntmps245;go_wp2;go_ret;exact⟨rfl,rfl⟩
  ·have a1:1≤v:=(by omega);have b1:¬v≤4:=(by omega);have a2:(v == 5)=false:=QF (by omega);have a3:(v == 6)=false:=QF (by omega);go_enter func245,ntmps245;go_wp2;go_ret;exact⟨rfl,rfl⟩
theorem jT (v:Int) (w:World):Calls prog 297 #[.int .u8 v] w fun e w'=>e=.returned (.tuple #[.int .i64 (lo v),.int .i64 (hi v)])∧w'=w:=by
 rcases iY v with h | h
 ·rcases fh h with rfl | rfl | rfl | rfl | rfl | rfl | rfl | rfl | rfl | rfl | rfl | rfl | rfl | rfl | rfl | rfl | rfl | rfl | rfl
  all_goals
   go_enter func297,ntmps297;go_wp2;go_ret2;exact⟨yD (by decide) (by decide),rfl⟩
 ·rw[(fS h).2.2.2.2.1,(fS h).2.2.2.2.2.1];have g1:(v == 1)=false:=QF (by omega);have g2:(v == 2)=false:=QF (by omega);have g3:(v == 3)=false:=QF (by omega);have g4:(v == 4)=false:=QF (by omega);have g5:(v == 5)=false:=QF (by omega);have g6:(v == 6)=false:=QF (by omega);have g7:(v == 7)=false:=QF (by omega);have g8:(v == 8)=false:=QF (by omega);have g9:(v == 9)=false:=QF (by omega);have g10:(v == 10)=false:=QF (by omega);have g11:(v == 11)=false:=QF (by omega);have g12:(v == 12)=false:=QF (by omega);have g13:(v == 13)=false:=QF (by omega);have g14:(v == 14)=false:=QF (by omega);have g15:(v == 15)=false:=QF (by omega);have g16:(v == 16)=false:=QF (by omega);have g17:(v == 17)=false:=QF (by omega);have g18:(v == 18)=false:=QF (by omega);have g19:(v == 19)=false:=QF (by omega);go_enter func297,ntmps297;go_wp2;go_ret2;exact⟨rfl,rfl⟩
theorem dC (v:Int) (w:World):Calls prog 283 #[.int .u8 v] w fun e w'=>e=.returned (.tuple #[.int .i64 (lo v),.int .i64 (hi v)])∧w'=w:=by
 rcases iY v with h | h
 ·rcases fh h with rfl | rfl | rfl | rfl | rfl | rfl | rfl | rfl | rfl | rfl | rfl | rfl | rfl | rfl | rfl | rfl | rfl | rfl | rfl
  all_goals
   go_enter func283,ntmps283;go_wp2;go_ret2;exact⟨yD (by decide) (by decide),rfl⟩
 ·rw[(fS h).2.2.2.2.1,(fS h).2.2.2.2.2.1];have g1:(v == 1)=false:=QF (by omega);have g2:(v == 2)=false:=QF (by omega);have g3:(v == 3)=false:=QF (by omega);have g4:(v == 4)=false:=QF (by omega);have g5:(v == 5)=false:=QF (by omega);have g6:(v == 6)=false:=QF (by omega);have g7:(v == 7)=false:=QF (by omega);have g8:(v == 8)=false:=QF (by omega);have g9:(v == 9)=false:=QF (by omega);have g10:(v == 10)=false:=QF (by omega);have g11:(v == 11)=false:=QF (by omega);have g12:(v == 12)=false:=QF (by omega);have g13:(v == 13)=false:=QF (by omega);have g14:(v == 14)=false:=QF (by omega);have g15:(v == 15)=false:=QF (by omega);have g16:(v == 16)=false:=QF (by omega);have g17:(v == 17)=false:=QF (by omega);have g18:(v == 18)=false:=QF (by omega);have g19:(v == 19)=false:=QF (by omega);go_enter func283,ntmps283;go_wp2;go_ret2;exact⟨rfl,rfl⟩
theorem yI (v:Int) (w:World):Calls prog 296 #[.int .u8 v] w fun e w'=>e=.returned (.bool (abP v))∧w'=w:=by
 rcases iY v with h | h
 ·rcases fh h with rfl | rfl | rfl | rfl | rfl | rfl | rfl | rfl | rfl | rfl | rfl | rfl | rfl | rfl | rfl | rfl | rfl | rfl | rfl
  all_goals
   go_enter func296,ntmps296;go_wp2_with (go_at_call 274;refine(cG _ _).mono ?_;rintro e w1 ⟨rfl,rfl⟩;simp only[cls])
   go_ret;exact⟨aL (by decide),rfl⟩
 ·rw[(fS h).2.2.2.2.2.2.2.1];have hc:=(fS h).1;have g1:(v == 1)=false:=QF (by omega);have g2:(v == 2)=false:=QF (by omega);have g3:(v == 3)=false:=QF (by omega);have g4:(v == 4)=false:=QF (by omega);have g5:(v == 5)=false:=QF (by omega);have g6:(v == 6)=false:=QF (by omega);have g7:(v == 7)=false:=QF (by omega);have g8:(v == 8)=false:=QF (by omega);have g9:(v == 9)=false:=QF (by omega);have g10:(v == 10)=false:=QF (by omega);have g11:(v == 11)=false:=QF (by omega);have g12:(v == 12)=false:=QF (by omega);have g13:(v == 13)=false:=QF (by omega);have g14:(v == 14)=false:=QF (by omega);have g15:(v == 15)=false:=QF (by omega);have g16:(v == 16)=false:=QF (by omega);have g17:(v == 17)=false:=QF (by omega);have g18:(v == 18)=false:=QF (by omega);have g19:(v == 19)=false:=QF (by omega);go_enter func296,ntmps296;go_wp2_with (go_at_call 274;refine(cG _ _).mono ?_;rintro e w1 ⟨rfl,rfl⟩;rw[hc])
  go_ret;exact⟨rfl,rfl⟩
