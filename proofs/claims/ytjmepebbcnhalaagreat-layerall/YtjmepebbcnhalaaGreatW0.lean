import Derived.Test.YtjmepebbcnhalaaGreatProg
import Derived.WalkKit
import Derived.WalkSpells
import Derived.WalkLawsBesides
import Derived.Deep.RegionHeld3
import Derived.BigQuiet
import Derived.Laws.BitsAllLaws
import Derived.Lib.Strings
import Derived.OwnWalk
namespace Go.Proofs.YtjmepebbcnhalaaGreat
open Go.RowKit
theorem ji {P:Program} {w w1:World} {ops:Array Oper} {rest:List Oper} {o:Oper} {a:Act} {Q:Exit→Act→World→Prop} (hgd:o.guard=none) (t:TypeId) (parts:Array (Nat×Operand))
  (ho:o.op=.build t parts) (vs:Array (Nat×Value)) (hv:(parts.map fun (i,x)=>(i,a.eval x))=vs) (v:Value) (hrun:(Instr.build t vs).run P w=.ok v w1) (h:wpList P ops Q rest (a.put o.dst v) w1):wpList P ops Q (o :: rest) a w:=by
 refine wpList_plain hgd fun K hK=>?_
 unfold Oper.wp
 simp only[execOp,ho,Sem.run_bind,hv,hrun,Result.andThen_ok]
 exact hK _ _ h
theorem qz {P:Program} {w w1:World} {ops:Array Oper} {rest:List Oper} {o:Oper} {a:Act} {Q:Exit→Act→World→Prop} (hgd:o.guard=none) (t:TypeId) (x:Operand)
  (ho:o.op=.box t x) (y:Value) (hy:a.eval x=y) (v:Value) (hrun:(Instr.box t y).run P w=.ok v w1) (h:wpList P ops Q rest (a.put o.dst v) w1):wpList P ops Q (o :: rest) a w:=by
 refine wpList_plain hgd fun K hK=>?_
 unfold Oper.wp
 simp only[execOp,ho,Sem.run_bind,hy,hrun,Result.andThen_ok]
 exact hK _ _ h

def ints (l:List Int):List Value:=l.map fun z=>Value.int .i64 z
theorem qE (l:List Int) (i:Nat) (h:i<l.length):(ints l)[i]?=some (.int .i64 (l.getD i 0)):=by
 simp[ints,List.getD,List.getElem?_eq_getElem h]
theorem ae {w:World} {b:Nat} {cs:Array Value} {t:TypeId} (h:w.heap[b]?=some (.cells cs t (0,0))) (i:Nat):w.cell? ⟨b,i,none⟩=cs[i]?:=by simp[World.cell?,h]
theorem aA {w:World} {b:Nat} {cs:Array Value} {t:TypeId} (h:w.heap[b]?=some (.cells cs t (0,0))) (i:Nat):w.frozen? ⟨b,i,none⟩=false:=by simp[World.frozen?,h]
theorem aF {w:World} {b:Nat} {cs:Array Value} {t:TypeId} (h:w.heap[b]?=some (.cells cs t (0,0))) (i:Nat) (v:Value):(w.setCell ⟨b,i,none⟩ v).heap[b]?=some (.cells (cs.setIfInBounds i v) t (0,0)):=by
 simp[World.setCell,Array.getElem?_modify,h]
theorem bn {w:World} {b:Nat} {o:Obj} (h:w.heap[b]?=some o):b<w.heap.size:=(Array.getElem?_eq_some_iff.1 h).1
theorem ay (w:World) (r:Option Nat):w.grownBy w r:=⟨rfl,rfl,rfl,Nat.le_refl _,fun _ _ _=>rfl⟩
theorem aw (w:World) (b i:Nat) (v:Value):w.grownBy (w.setCell ⟨b,i,none⟩ v) (some b) :=
 ⟨rfl,rfl,rfl,by simp[World.setCell],fun k _ hk=>Below.heap_setCell _ _ _ _ (by simpa using hk)⟩
theorem aa {a b c:World} {r:Option Nat} (h:a.grownBy b r) (k:b.grownBy c r):a.grownBy c r :=
 ⟨k.os.trans h.os,k.tape.trans h.tape,k.output.trans h.output,Nat.le_trans h.size k.size,fun i hi hr=>(k.block i (Nat.lt_of_lt_of_le hi h.size) hr).trans (h.block i hi hr)⟩
theorem ai {a b:World} {r:Option Nat} (h:a.grownBy b r) {k:Nat} {o:Obj} (hk:a.heap[k]?=some o) (hr:some k≠r):b.heap[k]?=some o:=by
 rw[h.block k (bn hk) hr];exact hk
theorem aD (w:World) (n:Nat) (r:Option Nat):w.grownBy (w.drewN n) r:=⟨rfl,rfl,rfl,Nat.le_refl _,fun _ _ _=>rfl⟩

theorem az {a b c:World} {r:Option Nat} (h:a.grownBy b none) (k:b.grownBy c r) (hr:∀ x,r=some x→a.heap.size≤x):a.grownBy c none :=
 ⟨k.os.trans h.os,k.tape.trans h.tape,k.output.trans h.output,Nat.le_trans h.size k.size,fun i hi _=>(k.block i (Nat.lt_of_lt_of_le hi h.size) (fun e=>by have:=hr i e.symm;omega)).trans (h.block i hi (by simp))⟩
theorem qw (l:List Int) (k:Nat) (h:k<l.length):l.getD k 0=l[k]:=by simp[List.getD,h]
theorem aK {k:IntKind} {a b:Int} (h:a=b):Ending.returned (.int k a)=.returned (.int k b):=by rw[h]
theorem iy {w w':World} (h:w.grownBy w' none):Below w.heap.size w w':=⟨h.os,h.tape,h.output,h.size,fun k hk=>h.block k hk (by simp)⟩
theorem am {a b:World} (h:a.grownBy b none) (o:Obj):a.grownBy (b.alloc o) none:=az (r:=none) h (World.grownBy_alloc _ _ _) (by simp)
theorem ak (w:World) (cs:Array Value) (t:TypeId):(w.alloc (.cells cs t)).heap[w.heap.size]?=some (.cells cs t (0,0)):=by
 show (w.heap.push _)[w.heap.size]?=_
 rw[Array.getElem?_push_size]
theorem QA {α:Type} {xs:List α} {i:Nat} (h:i<xs.toArray.size):xs.toArray[i]=xs[i]'(by simpa using h):=List.getElem_toArray h
theorem QB {α:Type} {a:α} {xs:List α} (h:0<(a :: xs).length):(a :: xs)[0]=a:=rfl
theorem QC {α:Type} {a:α} {xs:List α} {i:Nat} (h:i+1<(a :: xs).length):(a :: xs)[i+1]=xs[i]'(Nat.lt_of_succ_lt_succ h):=rfl
theorem QT {P:Program} {ops:Array Oper} {Q:Exit→Act→World→Prop} {md:Region.Mode} {S:World→Prop} (i:Nat) {oi:Oper} {v:Value} {fuel:Nat} {listed:Array Bool} {a:Act} {w:World} (hi:ops.toList[i]?=some oi) (hy:∀ w0,S w0→(execOp a.eval oi).run P w0=.ok (.value v) w0) (h:wpAnyH P md ops Q S fuel (listed.setIfInBounds i true) (a.put oi.dst v) w) (hs:Region.noSelect ops=true:=by kernel_rfl) (hf:Region.free md ops listed i=true:=by kernel_rfl) (hr:(Region.ready md ops listed).contains i=true:=by kernel_rfl) (hQ:∀ c a w,Q (.panic c) (a.put oi.dst v) w→Q (.panic c) a w:=by exact fun _ _ _ h=>h) (hw:Region.wanted oi (yielded ops a.tmps)=true:=by rfl) (hS:S w:=by assumption):wpAnyH P md ops Q S (fuel+1) listed a w:=wpAnyH_take (by rw[←Array.getElem?_toList];exact hi) hs hf hr hQ (Or.inl ⟨hw,hy⟩) hS h
theorem QZ {P:Program} {ops:Array Oper} {Q:Exit→Act→World→Prop} {md:Region.Mode} {S:World→Prop} (i:Nat) {oi:Oper} {v:Value} {fuel:Nat} {listed:Array Bool} {a:Act} {w:World} (hi:ops.toList[i]?=some oi) (h:wpAnyH P md ops Q S fuel (listed.setIfInBounds i true) (a.put oi.dst v) w) (hy:∀ w0,S w0→(execOp a.eval oi).run P w0=.ok (.value v) w0:=by intro w0 hSw;go_simp;try with_reducible rfl) (hs:Region.noSelect ops=true:=by kernel_rfl) (hf:Region.free md ops listed i=true:=by kernel_rfl) (hr:(Region.ready md ops listed).contains i=true:=by kernel_rfl) (hQ:∀ c a w,Q (.panic c) (a.put oi.dst v) w→Q (.panic c) a w:=by exact fun _ _ _ h=>h) (hw:Region.wanted oi (yielded ops a.tmps)=true:=by rfl) (hS:S w:=by assumption):wpAnyH P md ops Q S (fuel+1) listed a w:=wpAnyH_take (by rw[←Array.getElem?_toList];exact hi) hs hf hr hQ (Or.inl ⟨hw,hy⟩) hS h
theorem QN {P:Program} {ops:Array Oper} {Q:Exit→Act→World→Prop} {md:Region.Mode} {S:World→Prop} (i:Nat) {oi:Oper} {fuel:Nat} {listed:Array Bool} {a:Act} {w:World} (hi:ops.toList[i]?=some oi) (h:wpAnyH P md ops Q S fuel (listed.setIfInBounds i true) (a.put oi.dst undef) w) (hs:Region.noSelect ops=true:=by kernel_rfl) (hf:Region.free md ops listed i=true:=by kernel_rfl) (hr:(Region.ready md ops listed).contains i=true:=by kernel_rfl) (hQ:∀ c a w,Q (.panic c) (a.put oi.dst undef) w→Q (.panic c) a w:=by exact fun _ _ _ h=>h) (hw:Region.wanted oi (yielded ops a.tmps)=false:=by rfl) (hS:S w:=by assumption):wpAnyH P md ops Q S (fuel+1) listed a w:=wpAnyH_take (by rw[←Array.getElem?_toList];exact hi) hs hf hr hQ (Or.inr ⟨hw,rfl⟩) hS h
theorem QR {P:Program} {ops:Array Oper} {Q:Exit→Act→World→Prop} {md:Region.Mode} {S:World→Prop} (i:Nat) {o:Oper} {fuel:Nat} {listed:Array Bool} {a:Act} {w:World} (ho:ops.toList[i]?=some o) (h:∀ K':Act→World→Prop,Shut (∀ a w,S w→(S w→wpAnyH P md ops Q S fuel (listed.setIfInBounds i true) a w)→K' a w)→if Region.wanted o (yielded ops a.tmps)=true then Oper.wp P o a w K' Q else K' (a.put o.dst undef) w) (hr:Region.ready md ops listed=[i]:=by kernel_rfl):wpAnyH P md ops Q S (fuel+1) listed a w:=wpAnyH_ready hr (by simp) (AllReadyH.cons (by rw[←Array.getElem?_toList];exact ho) h AllReadyH.nil)
theorem QD {P:Program} {ops:Array Oper} {Q:Exit→Act→World→Prop} {md:Region.Mode} {S:World→Prop} {fuel:Nat} {listed:Array Bool} {a:Act} {w:World} (h:Q .normal a w) (hr:Region.ready md ops listed=[]:=by kernel_rfl):wpAnyH P md ops Q S fuel listed a w:=wpAnyH_done hr h fuel
end Go.Proofs.YtjmepebbcnhalaaGreat
namespace Go.Proofs.YtjmepebbcnhalaaGreat
structure Pt where
 wn:Int
 vb:Int
 wm:Int
 ct:Int
 su:Int
 tr:Int
 mr:Int
 nm:ByteArray
def Pt.none:Pt:=⟨0,0,0,0,0,0,0,⟨#[]⟩⟩
structure Pt.wf (p:Pt):Prop where
 wn:0≤p.wn∧p.wn≤255
 vb:0≤p.vb∧p.vb≤255
 wm:0≤p.wm∧p.wm≤255
 ct:-9223372036854775808≤p.ct∧p.ct≤9223372036854775807
 su:0≤p.su∧p.su≤255
 tr:0≤p.tr∧p.tr≤255
 mr:0≤p.mr∧p.mr≤255

def cls (v:Int):Int:=if 1≤v∧v≤9 then 1 else if 10≤v∧v≤15 then 2 else if 16≤v∧v≤19 then 3 else 0
def wnt (w:Int):Int:=if 1≤w∧w≤4 then 1 else if w=5 then 2 else if w=6 then 3 else 0
def isW (w:Int):Bool:=decide (1≤w) && decide (w≤10)
def uC (v:Int):Bool:=decide (v=1∨v=2∨v=3∨v=4∨v=5∨v=7∨v=9∨v=14∨v=15∨v=16∨v=19)
def uS (v w:Int):Bool:=decide (v=11) || decide (w=9)
def uT (v w:Int):Bool:=decide (v=12) || decide (v=13) || decide (w=10)
def uM (v:Int):Bool:=decide (v=9)
def uN (v:Int):Bool:=decide (v=7)
def lo (v:Int):Int:=if v=1∨v=2∨v=3∨v=4∨v=7∨v=16∨v=19 then 1 else if v=9∨v=15 then -99 else if v=5 then -9 else 0
def hi (v:Int):Int:=if v=1∨v=2∨v=3∨v=4∨v=7∨v=16∨v=19 then 99 else if v=9∨v=15 then 99 else if v=5 then 9 else if v=14 then 99 else 0
def lay (v:Int):Int:=if v=10 then 1 else if v=11 then 2 else if v=12∨v=13 then 3 else if v=14 then 4 else if v=15 then 5 else 0
def abP (v:Int):Bool:=!decide (v=6∨v=8∨v=9) && !decide (cls v=2)
def abt (wn vb wm:Int):Bool:=if wm=3 then decide (wn=1) else if wm=1∨wm=2 then abP vb else true
def ee (v c:Int):Bool:=if c=0 then decide (lo v=0) else decide (lo v≤c) && decide (c≤hi v)
def br (u:Bool) (x m:Int):Bool:=if u then decide (1≤x) && decide (x≤m) else decide (x=0)
def ph (p:Pt):Bool:=br (uS p.vb p.wm) p.su 6 && (br (uT p.vb p.wm) p.tr 8 && br (uM p.vb) p.mr 4)
def bB (c:UInt8):Bool:=decide (97≤c.toNat) && decide (c.toNat≤122)
def aR (l:List UInt8):Bool:=match l with
 | []=>false
 | c :: r=>decide (r.length≤19) && (bB c && r.all fun x=>bB x || decide (x=45))
def nC (p:Pt):Bool:=if uN p.vb then aR p.nm.data.toList else decide (p.nm.data.toList=[])
def chk (p:Pt):Int :=
 if wnt p.wn=0∨cls p.vb=0∨isW p.wm=false then 2
 else if ¬cls p.vb=wnt p.wn∨(p.vb=11∧p.wm=9) then 8
 else if abt p.wn p.vb p.wm=false then 13
 else if ee p.vb p.ct=false∨ph p=false then 2
 else if nC p=false then 4
 else 0
structure May (p:Pt):Prop where
 wn:1≤p.wn∧p.wn≤6
 vb:1≤p.vb∧p.vb≤19
 wm:1≤p.wm∧p.wm≤10
 ct:if uC p.vb then -99≤p.ct∧p.ct≤99 else p.ct=0
 su:if uS p.vb p.wm then 1≤p.su∧p.su≤6 else p.su=0
 tr:if uT p.vb p.wm then 1≤p.tr∧p.tr≤8 else p.tr=0
 mr:if uM p.vb then 1≤p.mr∧p.mr≤4 else p.mr=0
 nm:if uN p.vb then aR p.nm.data.toList=true else p.nm=⟨#[]⟩

theorem ed {v:Int} (h:1≤v∧v≤19):v=1∨v=2∨v=3∨v=4∨v=5∨v=6∨v=7∨v=8∨v=9∨v=10∨v=11∨v=12∨v=13∨v=14∨v=15∨v=16∨v=17∨v=18∨v=19:=by omega
theorem ov {v:Int} (h:1≤v∧v≤6):v=1∨v=2∨v=3∨v=4∨v=5∨v=6:=by omega
theorem qp:bB 32=false:=by decide
theorem iu {l:List UInt8} (h:aR l=true):(32:UInt8) ∉ l∧l.length≤20:=by
 cases l with
 | nil=>simp[aR] at h
 | cons c r =>
  simp only[aR,Bool.and_eq_true,decide_eq_true_eq] at h
  obtain⟨h1,h2,h3⟩:=h
  refine⟨fun hm=>?_,by simp only[List.length_cons];omega⟩
  rcases List.mem_cons.1 hm with h' | h'
  ·rw[←h',qp] at h2
   cases h2
  ·have:=List.all_eq_true.1 h3 _ h'
   revert this
   decide
def lP (k:Int):Int:=if k=1 then 1 else if k=2 then 2 else if k=3 then 4 else if k=4 then 8 else if k=5 then 16 else if k=6 then 32 else if k=7 then 64 else if k=8 then 128 else 0
def bR (s:Int):Bool:=bits .andNot .u16 s 255 == 0
structure Cd where
 nm:ByteArray
 su:Int
 kd:Int
 co:Int
 po:Int
 he:Int
 tr:Int
 tk:Bool
 ps:List Pt
def Cd.none:Cd:=⟨⟨#[]⟩,0,0,0,0,0,0,false,[]⟩
structure Cd.wf (c:Cd):Prop where
 su:0≤c.su∧c.su≤255
 kd:0≤c.kd∧c.kd≤255
 co:-9223372036854775808≤c.co∧c.co≤9223372036854775807
 po:-9223372036854775808≤c.po∧c.po≤9223372036854775807
 he:-9223372036854775808≤c.he∧c.he≤9223372036854775807
 tr:0≤c.tr∧c.tr≤65535
 ps:∀ p∈c.ps,p.wf
def fx (kd wn:Int):Bool:=if kd=2 then decide (wn=1) else if kd=3 then !decide (wn=4) else true
def dN (c:Cd):Bool:=if c.kd=1 then !decide (c.he=0) else decide (c.po=0) && decide (c.he=0)
def dQ (kd:Int):List Pt→Int
 | []=>0
 | p :: r=>if ¬chk p=0 then chk p else if fx kd p.wn=false then 8 else dQ kd r
def fH (c:Cd):Int :=
 if aR c.nm.data.toList=false then 4
 else if ¬(1≤c.su∧c.su≤6)∨¬(1≤c.kd∧c.kd≤3) then 8
 else if ¬(0≤c.co∧c.co≤10)∨¬(0≤c.po∧c.po≤99)∨¬(0≤c.he∧c.he≤99) then 2
 else if dN c=false∨bR c.tr=false∨(c.kd=2∧c.tk=true) then 8
 else if 4<c.ps.length then 3
 else dQ c.kd c.ps
set_option maxRecDepth 100000
set_option maxHeartbeats 2000000
open Go.RowKit
theorem iv (v:Int):(1≤v∧v≤19)∨(v<1∨19<v):=by omega
theorem vD (v:Int):(1≤v∧v≤6)∨(v<1∨6<v):=by omega
theorem fh {v:Int} (h:v<1∨19<v):cls v=0∧uC v=false∧uM v=false∧uN v=false∧lo v=0∧hi v=0∧lay v=0∧abP v=true∧(∀ w,uS v w=decide (w=9))∧∀ w,uT v w=decide (w=10):=by
 have hc:cls v=0:=by
  unfold cls
  rw[if_neg (by omega),if_neg (by omega),if_neg (by omega)]
 have h1:¬v=1:=by omega
 have h2:¬v=2:=by omega
 have h3:¬v=3:=by omega
 have h4:¬v=4:=by omega
 have h5:¬v=5:=by omega
 have h6:¬v=6:=by omega
 have h7:¬v=7:=by omega
 have h8:¬v=8:=by omega
 have h9:¬v=9:=by omega
 have h10:¬v=10:=by omega
 have h11:¬v=11:=by omega
 have h12:¬v=12:=by omega
 have h13:¬v=13:=by omega
 have h14:¬v=14:=by omega
 have h15:¬v=15:=by omega
 have h16:¬v=16:=by omega
 have h19:¬v=19:=by omega
 simp[hc,uC,uM,uN,lo,hi,lay,abP,uS,uT,h1,h2,h3,h4,h5,h6,h7,h8,h9,h10,h11,h12,h13,h14,h15,h16,h19]
theorem uK {v:Int} (h:v<1∨6<v):wnt v=0:=by
 unfold wnt
 rw[if_neg (by omega),if_neg (by omega),if_neg (by omega)]
theorem yQ {a b:Int} (h:a=b):Ending.returned (.int .u8 a)=.returned (.int .u8 b):=by rw[h]
theorem j5 {a b:Int} (h:a=b):Ending.returned (.int .i64 a)=.returned (.int .i64 b):=by rw[h]
theorem aH {a b:Bool} (h:a=b):Ending.returned (.bool a)=.returned (.bool b):=by rw[h]
theorem ve {a b c d:Int} (h:a=b) (h':c=d):Ending.returned (.tuple #[.int .i64 a,.int .i64 c])=.returned (.tuple #[.int .i64 b,.int .i64 d]):=by rw[h,h']
theorem bM (v:Int) (w:World):Calls Tryz.prog 274 #[.int .u8 v] w fun e w'=>e=.returned (.int .u8 (cls v))∧w'=w:=by
 rcases iv v with h | h
 ·rcases ed h with rfl | rfl | rfl | rfl | rfl | rfl | rfl | rfl | rfl | rfl | rfl | rfl | rfl | rfl | rfl | rfl | rfl | rfl | rfl
  all_goals
   go_enter Tryz.func274,Tryz.ntmps274
   go_wp2
   go_ret
   exact⟨yQ (by decide),rfl⟩
 ·rw[(fh h).1]
  have g1:(v == 1)=false:=by simpa using (show ¬v=1 by omega)
  have g2:(v == 2)=false:=by simpa using (show ¬v=2 by omega)
  have g3:(v == 3)=false:=by simpa using (show ¬v=3 by omega)
  have g4:(v == 4)=false:=by simpa using (show ¬v=4 by omega)
  have g5:(v == 5)=false:=by simpa using (show ¬v=5 by omega)
  have g6:(v == 6)=false:=by simpa using (show ¬v=6 by omega)
  have g7:(v == 7)=false:=by simpa using (show ¬v=7 by omega)
  have g8:(v == 8)=false:=by simpa using (show ¬v=8 by omega)
  have g9:(v == 9)=false:=by simpa using (show ¬v=9 by omega)
  have g10:(v == 10)=false:=by simpa using (show ¬v=10 by omega)
  have g11:(v == 11)=false:=by simpa using (show ¬v=11 by omega)
  have g12:(v == 12)=false:=by simpa using (show ¬v=12 by omega)
  have g13:(v == 13)=false:=by simpa using (show ¬v=13 by omega)
  have g14:(v == 14)=false:=by simpa using (show ¬v=14 by omega)
  have g15:(v == 15)=false:=by simpa using (show ¬v=15 by omega)
  have g16:(v == 16)=false:=by simpa using (show ¬v=16 by omega)
  have g17:(v == 17)=false:=by simpa using (show ¬v=17 by omega)
  have g18:(v == 18)=false:=by simpa using (show ¬v=18 by omega)
  have g19:(v == 19)=false:=by simpa using (show ¬v=19 by omega)

  go_enter Tryz.func274,Tryz.ntmps274
  go_wp2
  go_ret
  exact⟨rfl,rfl⟩
theorem bV (v:Int) (w:World):Calls Tryz.prog 273 #[.int .u8 v] w fun e w'=>e=.returned (.int .u8 (wnt v))∧w'=w:=by
 rcases vD v with h | h
 ·rcases ov h with rfl | rfl | rfl | rfl | rfl | rfl
  all_goals
   go_enter Tryz.func273,Tryz.ntmps273
   go_wp2
   go_ret
   exact⟨yQ (by decide),rfl⟩
 ·rw[uK h]
  have g1:(v == 1)=false:=by simpa using (show ¬v=1 by omega)
  have g2:(v == 2)=false:=by simpa using (show ¬v=2 by omega)
  have g3:(v == 3)=false:=by simpa using (show ¬v=3 by omega)
  have g4:(v == 4)=false:=by simpa using (show ¬v=4 by omega)
  have g5:(v == 5)=false:=by simpa using (show ¬v=5 by omega)
  have g6:(v == 6)=false:=by simpa using (show ¬v=6 by omega)

  go_enter Tryz.func273,Tryz.ntmps273
  go_wp2
  go_ret
  exact⟨rfl,rfl⟩
theorem dK (v:Int) (w:World):Calls Tryz.prog 275 #[.int .u8 v] w fun e w'=>e=.returned (.bool (isW v))∧w'=w:=by
 by_cases h:1≤v
 ·by_cases h':v≤10
  ·go_enter Tryz.func275,Tryz.ntmps275
   go_wp2
   go_ret
   exact⟨aH (by simp[isW,h,h']),rfl⟩
  ·go_enter Tryz.func275,Tryz.ntmps275
   go_wp2
   go_ret
   exact⟨aH (by simp[isW,h,h']),rfl⟩
 ·go_enter Tryz.func275,Tryz.ntmps275
  go_wp2
  go_ret
  exact⟨aH (by simp[isW];omega),rfl⟩
theorem aJ (v:Int) (w:World):Calls Tryz.prog 244 #[.int .u8 v] w fun e w'=>e=.returned (.int .i64 (cls v))∧w'=w:=by
 rcases iv v with h | h
 ·rcases ed h with rfl | rfl | rfl | rfl | rfl | rfl | rfl | rfl | rfl | rfl | rfl | rfl | rfl | rfl | rfl | rfl | rfl | rfl | rfl
  all_goals
   go_enter Tryz.func244,Tryz.ntmps244
   go_wp2
   go_ret
   exact⟨j5 (by decide),rfl⟩
 ·rw[(fh h).1]
  rcases h with h | h

  ·have a1:¬1≤v:=by omega
   have a2:¬10≤v:=by omega
   have a3:¬16≤v:=by omega
   go_enter Tryz.func244,Tryz.ntmps244
   go_wp2
   go_ret
   exact⟨rfl,rfl⟩
  ·have a1:1≤v:=by omega
   have a2:10≤v:=by omega
   have a3:16≤v:=by omega
   have b1:¬v≤9:=by omega
   have b2:¬v≤15:=by omega
   have b3:¬v≤19:=by omega
   go_enter Tryz.func244,Tryz.ntmps244
   go_wp2
   go_ret
   exact⟨rfl,rfl⟩
theorem bu (v:Int) (w:World):Calls Tryz.prog 245 #[.int .u8 v] w fun e w'=>e=.returned (.int .i64 (wnt v))∧w'=w:=by
 rcases vD v with h | h
 ·rcases ov h with rfl | rfl | rfl | rfl | rfl | rfl
  all_goals
   go_enter Tryz.func245,Tryz.ntmps245
   go_wp2
   go_ret
   exact⟨j5 (by decide),rfl⟩
 ·rw[uK h]
  rcases h with h | h

  ·have a1:¬1≤v:=by omega
   have a2:(v == 5)=false:=by simpa using (show ¬v=5 by omega)
   have a3:(v == 6)=false:=by simpa using (show ¬v=6 by omega)
   go_enter Tryz.func245,Tryz.ntmps245
   go_wp2
   go_ret
   exact⟨rfl,rfl⟩
  ·have a1:1≤v:=by omega
   have b1:¬v≤4:=by omega
   have a2:(v == 5)=false:=by simpa using (show ¬v=5 by omega)
   have a3:(v == 6)=false:=by simpa using (show ¬v=6 by omega)
   go_enter Tryz.func245,Tryz.ntmps245
   go_wp2
   go_ret
   exact⟨rfl,rfl⟩
theorem jy (v:Int) (w:World):Calls Tryz.prog 297 #[.int .u8 v] w fun e w'=>e=.returned (.tuple #[.int .i64 (lo v),.int .i64 (hi v)])∧w'=w:=by
 rcases iv v with h | h
 ·rcases ed h with rfl | rfl | rfl | rfl | rfl | rfl | rfl | rfl | rfl | rfl | rfl | rfl | rfl | rfl | rfl | rfl | rfl | rfl | rfl
  all_goals
   go_enter Tryz.func297,Tryz.ntmps297
   go_wp2
   go_ret2
   exact⟨ve (by decide) (by decide),rfl⟩
 ·rw[(fh h).2.2.2.2.1,(fh h).2.2.2.2.2.1]
  have g1:(v == 1)=false:=by simpa using (show ¬v=1 by omega)
  have g2:(v == 2)=false:=by simpa using (show ¬v=2 by omega)
  have g3:(v == 3)=false:=by simpa using (show ¬v=3 by omega)
  have g4:(v == 4)=false:=by simpa using (show ¬v=4 by omega)
  have g5:(v == 5)=false:=by simpa using (show ¬v=5 by omega)
  have g6:(v == 6)=false:=by simpa using (show ¬v=6 by omega)
  have g7:(v == 7)=false:=by simpa using (show ¬v=7 by omega)
  have g8:(v == 8)=false:=by simpa using (show ¬v=8 by omega)
  have g9:(v == 9)=false:=by simpa using (show ¬v=9 by omega)
  have g10:(v == 10)=false:=by simpa using (show ¬v=10 by omega)
  have g11:(v == 11)=false:=by simpa using (show ¬v=11 by omega)
  have g12:(v == 12)=false:=by simpa using (show ¬v=12 by omega)
  have g13:(v == 13)=false:=by simpa using (show ¬v=13 by omega)
  have g14:(v == 14)=false:=by simpa using (show ¬v=14 by omega)
  have g15:(v == 15)=false:=by simpa using (show ¬v=15 by omega)
  have g16:(v == 16)=false:=by simpa using (show ¬v=16 by omega)
  have g17:(v == 17)=false:=by simpa using (show ¬v=17 by omega)
  have g18:(v == 18)=false:=by simpa using (show ¬v=18 by omega)
  have g19:(v == 19)=false:=by simpa using (show ¬v=19 by omega)
  go_enter Tryz.func297,Tryz.ntmps297
  go_wp2
  go_ret2
  exact⟨rfl,rfl⟩
theorem cY (v:Int) (w:World):Calls Tryz.prog 283 #[.int .u8 v] w fun e w'=>e=.returned (.tuple #[.int .i64 (lo v),.int .i64 (hi v)])∧w'=w:=by
 rcases iv v with h | h
 ·rcases ed h with rfl | rfl | rfl | rfl | rfl | rfl | rfl | rfl | rfl | rfl | rfl | rfl | rfl | rfl | rfl | rfl | rfl | rfl | rfl
  all_goals
   go_enter Tryz.func283,Tryz.ntmps283
   go_wp2
   go_ret2
   exact⟨ve (by decide) (by decide),rfl⟩
 ·rw[(fh h).2.2.2.2.1,(fh h).2.2.2.2.2.1]
  have g1:(v == 1)=false:=by simpa using (show ¬v=1 by omega)
  have g2:(v == 2)=false:=by simpa using (show ¬v=2 by omega)
  have g3:(v == 3)=false:=by simpa using (show ¬v=3 by omega)
  have g4:(v == 4)=false:=by simpa using (show ¬v=4 by omega)
  have g5:(v == 5)=false:=by simpa using (show ¬v=5 by omega)
  have g6:(v == 6)=false:=by simpa using (show ¬v=6 by omega)
  have g7:(v == 7)=false:=by simpa using (show ¬v=7 by omega)
  have g8:(v == 8)=false:=by simpa using (show ¬v=8 by omega)
  have g9:(v == 9)=false:=by simpa using (show ¬v=9 by omega)
  have g10:(v == 10)=false:=by simpa using (show ¬v=10 by omega)
  have g11:(v == 11)=false:=by simpa using (show ¬v=11 by omega)
  have g12:(v == 12)=false:=by simpa using (show ¬v=12 by omega)
  have g13:(v == 13)=false:=by simpa using (show ¬v=13 by omega)
  have g14:(v == 14)=false:=by simpa using (show ¬v=14 by omega)
  have g15:(v == 15)=false:=by simpa using (show ¬v=15 by omega)
  have g16:(v == 16)=false:=by simpa using (show ¬v=16 by omega)
  have g17:(v == 17)=false:=by simpa using (show ¬v=17 by omega)
  have g18:(v == 18)=false:=by simpa using (show ¬v=18 by omega)
  have g19:(v == 19)=false:=by simpa using (show ¬v=19 by omega)
  go_enter Tryz.func283,Tryz.ntmps283
  go_wp2
  go_ret2
  exact⟨rfl,rfl⟩
theorem vo (v:Int) (w:World):Calls Tryz.prog 296 #[.int .u8 v] w fun e w'=>e=.returned (.bool (abP v))∧w'=w:=by
 rcases iv v with h | h
 ·rcases ed h with rfl | rfl | rfl | rfl | rfl | rfl | rfl | rfl | rfl | rfl | rfl | rfl | rfl | rfl | rfl | rfl | rfl | rfl | rfl
  all_goals
   go_enter Tryz.func296,Tryz.ntmps296
   go_wp2_with (go_at_call 274;refine(bM _ _).mono ?_;rintro e w1 ⟨rfl,rfl⟩;simp only[cls])
   go_ret
   exact⟨aH (by decide),rfl⟩
 ·rw[(fh h).2.2.2.2.2.2.2.1]
  have hc:=(fh h).1
  have g1:(v == 1)=false:=by simpa using (show ¬v=1 by omega)
  have g2:(v == 2)=false:=by simpa using (show ¬v=2 by omega)
  have g3:(v == 3)=false:=by simpa using (show ¬v=3 by omega)
  have g4:(v == 4)=false:=by simpa using (show ¬v=4 by omega)
  have g5:(v == 5)=false:=by simpa using (show ¬v=5 by omega)
  have g6:(v == 6)=false:=by simpa using (show ¬v=6 by omega)
  have g7:(v == 7)=false:=by simpa using (show ¬v=7 by omega)
  have g8:(v == 8)=false:=by simpa using (show ¬v=8 by omega)
  have g9:(v == 9)=false:=by simpa using (show ¬v=9 by omega)
  have g10:(v == 10)=false:=by simpa using (show ¬v=10 by omega)
  have g11:(v == 11)=false:=by simpa using (show ¬v=11 by omega)
  have g12:(v == 12)=false:=by simpa using (show ¬v=12 by omega)
  have g13:(v == 13)=false:=by simpa using (show ¬v=13 by omega)
  have g14:(v == 14)=false:=by simpa using (show ¬v=14 by omega)
  have g15:(v == 15)=false:=by simpa using (show ¬v=15 by omega)
  have g16:(v == 16)=false:=by simpa using (show ¬v=16 by omega)
  have g17:(v == 17)=false:=by simpa using (show ¬v=17 by omega)
  have g18:(v == 18)=false:=by simpa using (show ¬v=18 by omega)
  have g19:(v == 19)=false:=by simpa using (show ¬v=19 by omega)
  go_enter Tryz.func296,Tryz.ntmps296
  go_wp2_with (go_at_call 274;refine(bM _ _).mono ?_;rintro e w1 ⟨rfl,rfl⟩;rw[hc])
  go_ret
  exact⟨rfl,rfl⟩
end Go.Proofs.YtjmepebbcnhalaaGreat
