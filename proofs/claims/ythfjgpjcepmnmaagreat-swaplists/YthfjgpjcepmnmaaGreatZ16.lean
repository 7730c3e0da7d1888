/-
  Layers in memory: things,features,standing effects,rows;the table.
  Whom a part is about,plainly: its own thing;a unit.
  Layers: whom an effect is about.
  Layers: what a part that stands makes of features.
  Layers: the things that an effect is about: the program's about,numbers.
  Layers: the numbers of the rows that are picked out.
  append of what may be nil or not;slices.Clone of features.
  Layers: an effect applied: the program's apply.
  Layers: which effect depends on which.
  Layers: which effect comes next.
  Layers: the features of all things,with those of the table among them.
-/
import Derived.Test.YthfjgpjcepmnmaaGreatZ13
import Derived.Test.YthfjgpjcepmnmaaGreatZ14
import Derived.Test.YthfjgpjcepmnmaaGreatZ15
import Derived.Maps.AppendAt
import Derived.Laws.Tables
import Derived.Laws.StructEq
import Derived.WalkMore
namespace Go.Proofs.YthfjgpjcepmnmaaGreat
open Go.RowKit
structure Rv where
 r:Rw
 pa:Option Addr
 ca:Nat
def Rv.u (x:Rv):Value:=.slice x.pa x.r.ps.length x.ca
def rws (X:List Rv):List Rw:=X.map Rv.r
theorem rws_len (X:List Rv):(rws X).length=X.length:=List.length_map _
theorem rws_get {X:List Rv} {i:Nat} (h:i<X.length):(rws X).getD i Rw.none=X[i].r:=by
 unfold rws
 rw[List.getD_eq_getElem?_getD,List.getElem?_map,List.getElem?_eq_getElem h]
 rfl
def thc (t:Th):List Value:=[.int .i64 t.card,.int .i64 t.owner,.int .u8 t.place,.int .i64 t.stamp,.int .i64 t.hurt,.int .i64 t.m0,.int .i64 t.m1,.int .i64 t.m2,.int .i64 t.m3,.int .i64 t.done,.bool t.fresh]
theorem thc_ones (t:Th):∀ v∈thc t,v.oneCell'=true:=fun v h=>by
 simp only[thc,List.mem_cons,List.not_mem_nil,or_false] at h
 rcases h with h | h | h | h | h | h | h | h | h | h | h <;> (subst h;rfl)
def thR:RecT Th:=⟨11,thc,fun _=>rfl,thc_ones,by decide⟩
theorem th_cells {w:World} {g o:Nat} {t:Th} (h:w.rangeAt g o (thc t)):w.cell? ⟨g,o,none⟩=some (.int .i64 t.card)∧w.cell? ⟨g,o+1,none⟩=some (.int .i64 t.owner)∧w.cell? ⟨g,o+2,none⟩=some (.int .u8 t.place)∧w.cell? ⟨g,o+3,none⟩=some (.int .i64 t.stamp)∧w.cell? ⟨g,o+4,none⟩=some (.int .i64 t.hurt)∧w.cell? ⟨g,o+5,none⟩=some (.int .i64 t.m0)∧w.cell? ⟨g,o+6,none⟩=some (.int .i64 t.m1)∧w.cell? ⟨g,o+7,none⟩=some (.int .i64 t.m2)∧w.cell? ⟨g,o+8,none⟩=some (.int .i64 t.m3)∧w.cell? ⟨g,o+9,none⟩=some (.int .i64 t.done)∧w.cell? ⟨g,o+10,none⟩=some (.bool t.fresh) :=
 ⟨h 0 _ rfl,h 1 _ rfl,h 2 _ rfl,h 3 _ rfl,h 4 _ rfl,h 5 _ rfl,h 6 _ rfl,h 7 _ rfl,h 8 _ rfl,h 9 _ rfl,h 10 _ rfl⟩
def ThB (w:World) (g:Nat) (t:Th):Prop:=w.heap[g]?=some (.cells #[.int .i64 t.card,.int .i64 t.owner,.int .u8 t.place,.int .i64 t.stamp,.int .i64 t.hurt,.int .i64 t.m0,.int .i64 t.m1,.int .i64 t.m2,.int .i64 t.m3,.int .i64 t.done,.bool t.fresh] 100 (0,0))
theorem th_box {w:World} {g:Nat} {t:Th} (h:ThB w g t):w.cell? ⟨g,0,none⟩=some (.int .i64 t.card)∧w.cell? ⟨g,1,none⟩=some (.int .i64 t.owner)∧w.cell? ⟨g,2,none⟩=some (.int .u8 t.place)∧w.cell? ⟨g,3,none⟩=some (.int .i64 t.stamp)∧w.cell? ⟨g,4,none⟩=some (.int .i64 t.hurt)∧w.cell? ⟨g,5,none⟩=some (.int .i64 t.m0)∧w.cell? ⟨g,6,none⟩=some (.int .i64 t.m1)∧w.cell? ⟨g,7,none⟩=some (.int .i64 t.m2)∧w.cell? ⟨g,8,none⟩=some (.int .i64 t.m3)∧w.cell? ⟨g,9,none⟩=some (.int .i64 t.done)∧w.cell? ⟨g,10,none⟩=some (.bool t.fresh) :=
 ⟨(block_cell h 0).trans rfl,(block_cell h 1).trans rfl,(block_cell h 2).trans rfl,(block_cell h 3).trans rfl,(block_cell h 4).trans rfl,(block_cell h 5).trans rfl,(block_cell h 6).trans rfl,(block_cell h 7).trans rfl,(block_cell h 8).trans rfl,(block_cell h 9).trans rfl,(block_cell h 10).trans rfl⟩
def fec (f:Fe):List Value:=[.int .i64 f.ho,.int .u8 f.su,.int .u16 f.tr,.int .i64 f.po,.int .i64 f.he]
theorem fec_ones (f:Fe):∀ v∈fec f,v.oneCell'=true:=fun v h=>by
 simp only[fec,List.mem_cons,List.not_mem_nil,or_false] at h
 rcases h with h | h | h | h | h <;> (subst h;rfl)
def feR:RecT Fe:=⟨5,fec,fun _=>rfl,fec_ones,by decide⟩
theorem fe_cells {w:World} {g o:Nat} {f:Fe} (h:w.rangeAt g o (fec f)):w.cell? ⟨g,o,none⟩=some (.int .i64 f.ho)∧w.cell? ⟨g,o+1,none⟩=some (.int .u8 f.su)∧w.cell? ⟨g,o+2,none⟩=some (.int .u16 f.tr)∧w.cell? ⟨g,o+3,none⟩=some (.int .i64 f.po)∧w.cell? ⟨g,o+4,none⟩=some (.int .i64 f.he) :=
 ⟨h 0 _ rfl,h 1 _ rfl,h 2 _ rfl,h 3 _ rfl,h 4 _ rfl⟩
def FeB (w:World) (g:Nat) (f:Fe):Prop:=w.heap[g]?=some (.cells #[.int .i64 f.ho,.int .u8 f.su,.int .u16 f.tr,.int .i64 f.po,.int .i64 f.he] 65 (0,0))
theorem fe_box {w:World} {g:Nat} {f:Fe} (h:FeB w g f):w.cell? ⟨g,0,none⟩=some (.int .i64 f.ho)∧w.cell? ⟨g,1,none⟩=some (.int .u8 f.su)∧w.cell? ⟨g,2,none⟩=some (.int .u16 f.tr)∧w.cell? ⟨g,3,none⟩=some (.int .i64 f.po)∧w.cell? ⟨g,4,none⟩=some (.int .i64 f.he) :=
 ⟨(block_cell h 0).trans rfl,(block_cell h 1).trans rfl,(block_cell h 2).trans rfl,(block_cell h 3).trans rfl,(block_cell h 4).trans rfl⟩
def sdc (s:Sd):List Value:=[.int .i64 s.th,.int .i64 s.pl,.int .u8 s.wh.wn,.int .u8 s.wh.vb,.int .u8 s.wh.wm,.int .i64 s.wh.ct,.int .u8 s.wh.su,.int .u8 s.wh.tr,.int .u8 s.wh.mr,.string s.wh.nm]
def sdv (s:Sd):Value:=.agg #[.int .i64 s.th,.int .i64 s.pl,.int .u8 s.wh.wn,.int .u8 s.wh.vb,.int .u8 s.wh.wm,.int .i64 s.wh.ct,.int .u8 s.wh.su,.int .u8 s.wh.tr,.int .u8 s.wh.mr,.string s.wh.nm]
theorem sdc_ones (s:Sd):∀ v∈sdc s,v.oneCell'=true:=fun v h=>by
 simp only[sdc,List.mem_cons,List.not_mem_nil,or_false] at h
 rcases h with h | h | h | h | h | h | h | h | h | h <;> (subst h;rfl)
def sdR:RecT Sd:=⟨10,sdc,fun _=>rfl,sdc_ones,by decide⟩
theorem sd_cells {w:World} {g o:Nat} {s:Sd} (h:w.rangeAt g o (sdc s)):w.cell? ⟨g,o,none⟩=some (.int .i64 s.th)∧w.cell? ⟨g,o+1,none⟩=some (.int .i64 s.pl)∧w.cell? ⟨g,o+2,none⟩=some (.int .u8 s.wh.wn)∧w.cell? ⟨g,o+3,none⟩=some (.int .u8 s.wh.vb)∧w.cell? ⟨g,o+4,none⟩=some (.int .u8 s.wh.wm)∧w.cell? ⟨g,o+5,none⟩=some (.int .i64 s.wh.ct)∧w.cell? ⟨g,o+6,none⟩=some (.int .u8 s.wh.su)∧w.cell? ⟨g,o+7,none⟩=some (.int .u8 s.wh.tr)∧w.cell? ⟨g,o+8,none⟩=some (.int .u8 s.wh.mr)∧w.cell? ⟨g,o+9,none⟩=some (.string s.wh.nm) :=
 ⟨h 0 _ rfl,h 1 _ rfl,h 2 _ rfl,h 3 _ rfl,h 4 _ rfl,h 5 _ rfl,h 6 _ rfl,h 7 _ rfl,h 8 _ rfl,h 9 _ rfl⟩
def SdB (w:World) (g:Nat) (s:Sd):Prop:=w.heap[g]?=some (.cells #[.int .i64 s.th,.int .i64 s.pl,.int .u8 s.wh.wn,.int .u8 s.wh.vb,.int .u8 s.wh.wm,.int .i64 s.wh.ct,.int .u8 s.wh.su,.int .u8 s.wh.tr,.int .u8 s.wh.mr,.string s.wh.nm] 40 (0,0))
theorem sd_box {w:World} {g:Nat} {s:Sd} (h:SdB w g s):w.cell? ⟨g,0,none⟩=some (.int .i64 s.th)∧w.cell? ⟨g,1,none⟩=some (.int .i64 s.pl)∧w.cell? ⟨g,2,none⟩=some (.int .u8 s.wh.wn)∧w.cell? ⟨g,3,none⟩=some (.int .u8 s.wh.vb)∧w.cell? ⟨g,4,none⟩=some (.int .u8 s.wh.wm)∧w.cell? ⟨g,5,none⟩=some (.int .i64 s.wh.ct)∧w.cell? ⟨g,6,none⟩=some (.int .u8 s.wh.su)∧w.cell? ⟨g,7,none⟩=some (.int .u8 s.wh.tr)∧w.cell? ⟨g,8,none⟩=some (.int .u8 s.wh.mr)∧w.cell? ⟨g,9,none⟩=some (.string s.wh.nm) :=
 ⟨(block_cell h 0).trans rfl,(block_cell h 1).trans rfl,(block_cell h 2).trans rfl,(block_cell h 3).trans rfl,(block_cell h 4).trans rfl,(block_cell h 5).trans rfl,(block_cell h 6).trans rfl,(block_cell h 7).trans rfl,(block_cell h 8).trans rfl,(block_cell h 9).trans rfl⟩
def sec (e:Se):List Value:=[.int .i64 e.s.th,.int .i64 e.s.pl,.int .u8 e.s.wh.wn,.int .u8 e.s.wh.vb,.int .u8 e.s.wh.wm,.int .i64 e.s.wh.ct,.int .u8 e.s.wh.su,.int .u8 e.s.wh.tr,.int .u8 e.s.wh.mr,.string e.s.wh.nm,.int .i64 (e.ro:Int)]
def sev (e:Se):Value:=.agg #[.int .i64 e.s.th,.int .i64 e.s.pl,.int .u8 e.s.wh.wn,.int .u8 e.s.wh.vb,.int .u8 e.s.wh.wm,.int .i64 e.s.wh.ct,.int .u8 e.s.wh.su,.int .u8 e.s.wh.tr,.int .u8 e.s.wh.mr,.string e.s.wh.nm,.int .i64 (e.ro:Int)]
theorem sec_ones (e:Se):∀ v∈sec e,v.oneCell'=true:=fun v h=>by
 simp only[sec,List.mem_cons,List.not_mem_nil,or_false] at h
 rcases h with h | h | h | h | h | h | h | h | h | h | h <;> (subst h;rfl)
def seR:RecT Se:=⟨11,sec,fun _=>rfl,sec_ones,by decide⟩
theorem se_cells {w:World} {g o:Nat} {e:Se} (h:w.rangeAt g o (sec e)):w.cell? ⟨g,o,none⟩=some (.int .i64 e.s.th)∧w.cell? ⟨g,o+1,none⟩=some (.int .i64 e.s.pl)∧w.cell? ⟨g,o+2,none⟩=some (.int .u8 e.s.wh.wn)∧w.cell? ⟨g,o+3,none⟩=some (.int .u8 e.s.wh.vb)∧w.cell? ⟨g,o+4,none⟩=some (.int .u8 e.s.wh.wm)∧w.cell? ⟨g,o+5,none⟩=some (.int .i64 e.s.wh.ct)∧w.cell? ⟨g,o+6,none⟩=some (.int .u8 e.s.wh.su)∧w.cell? ⟨g,o+7,none⟩=some (.int .u8 e.s.wh.tr)∧w.cell? ⟨g,o+8,none⟩=some (.int .u8 e.s.wh.mr)∧w.cell? ⟨g,o+9,none⟩=some (.string e.s.wh.nm)∧w.cell? ⟨g,o+10,none⟩=some (.int .i64 (e.ro:Int)) :=
 ⟨h 0 _ rfl,h 1 _ rfl,h 2 _ rfl,h 3 _ rfl,h 4 _ rfl,h 5 _ rfl,h 6 _ rfl,h 7 _ rfl,h 8 _ rfl,h 9 _ rfl,h 10 _ rfl⟩
def SeB (w:World) (g:Nat) (e:Se):Prop:=w.heap[g]?=some (.cells #[.int .i64 e.s.th,.int .i64 e.s.pl,.int .u8 e.s.wh.wn,.int .u8 e.s.wh.vb,.int .u8 e.s.wh.wm,.int .i64 e.s.wh.ct,.int .u8 e.s.wh.su,.int .u8 e.s.wh.tr,.int .u8 e.s.wh.mr,.string e.s.wh.nm,.int .i64 (e.ro:Int)] 167 (0,0))
theorem se_box {w:World} {g:Nat} {e:Se} (h:SeB w g e):w.cell? ⟨g,0,none⟩=some (.int .i64 e.s.th)∧w.cell? ⟨g,1,none⟩=some (.int .i64 e.s.pl)∧w.cell? ⟨g,2,none⟩=some (.int .u8 e.s.wh.wn)∧w.cell? ⟨g,3,none⟩=some (.int .u8 e.s.wh.vb)∧w.cell? ⟨g,4,none⟩=some (.int .u8 e.s.wh.wm)∧w.cell? ⟨g,5,none⟩=some (.int .i64 e.s.wh.ct)∧w.cell? ⟨g,6,none⟩=some (.int .u8 e.s.wh.su)∧w.cell? ⟨g,7,none⟩=some (.int .u8 e.s.wh.tr)∧w.cell? ⟨g,8,none⟩=some (.int .u8 e.s.wh.mr)∧w.cell? ⟨g,9,none⟩=some (.string e.s.wh.nm)∧w.cell? ⟨g,10,none⟩=some (.int .i64 (e.ro:Int)) :=
 ⟨(block_cell h 0).trans rfl,(block_cell h 1).trans rfl,(block_cell h 2).trans rfl,(block_cell h 3).trans rfl,(block_cell h 4).trans rfl,(block_cell h 5).trans rfl,(block_cell h 6).trans rfl,(block_cell h 7).trans rfl,(block_cell h 8).trans rfl,(block_cell h 9).trans rfl,(block_cell h 10).trans rfl⟩
def rvc (x:Rv):List Value:=[.int .i64 x.r.nu,.int .i64 x.r.st,.string x.r.h.nm,.int .u8 x.r.h.su,.int .u8 x.r.h.kd,.int .i64 x.r.h.co,.int .i64 x.r.h.po,.int .i64 x.r.h.he,.int .u16 x.r.h.tr,.bool x.r.h.tk,x.u]
theorem rvc_ones (x:Rv):∀ v∈rvc x,v.oneCell'=true:=fun v h=>by
 simp only[rvc,List.mem_cons,List.not_mem_nil,or_false] at h
 rcases h with h | h | h | h | h | h | h | h | h | h | h <;> (subst h;rfl)
def rvR:RecT Rv:=⟨11,rvc,fun _=>rfl,rvc_ones,by decide⟩
theorem rv_cells {w:World} {g o:Nat} {x:Rv} (h:w.rangeAt g o (rvc x)):w.cell? ⟨g,o,none⟩=some (.int .i64 x.r.nu)∧w.cell? ⟨g,o+1,none⟩=some (.int .i64 x.r.st)∧w.cell? ⟨g,o+2,none⟩=some (.string x.r.h.nm)∧w.cell? ⟨g,o+3,none⟩=some (.int .u8 x.r.h.su)∧w.cell? ⟨g,o+4,none⟩=some (.int .u8 x.r.h.kd)∧w.cell? ⟨g,o+5,none⟩=some (.int .i64 x.r.h.co)∧w.cell? ⟨g,o+6,none⟩=some (.int .i64 x.r.h.po)∧w.cell? ⟨g,o+7,none⟩=some (.int .i64 x.r.h.he)∧w.cell? ⟨g,o+8,none⟩=some (.int .u16 x.r.h.tr)∧w.cell? ⟨g,o+9,none⟩=some (.bool x.r.h.tk)∧w.cell? ⟨g,o+10,none⟩=some (x.u) :=
 ⟨h 0 _ rfl,h 1 _ rfl,h 2 _ rfl,h 3 _ rfl,h 4 _ rfl,h 5 _ rfl,h 6 _ rfl,h 7 _ rfl,h 8 _ rfl,h 9 _ rfl,h 10 _ rfl⟩
def tbv (vr vf:Value):Value:=.agg #[vr,vf]
def TbB (w:World) (g:Nat) (vr vf:Value):Prop:=w.heap[g]?=some (.cells #[vr,vf] 161 (0,0))
theorem tb_box {w:World} {g:Nat} {vr vf:Value} (h:TbB w g vr vf):w.cell? ⟨g,0,none⟩=some vr∧w.cell? ⟨g,1,none⟩=some vf:=⟨(block_cell h 0).trans rfl,(block_cell h 1).trans rfl⟩
structure TbAt (w:World) (vr vf:Value) (X:List Rv) (F:List Fe):Prop where
 rows:rvR.At w vr X
 parts:∀ x∈X,PsAt w x.u x.r.ps∧x.r.ps.length≤4
 fs:feR.At w vf F
 len:F.length=X.length
 few:X.length≤16
theorem TbAt.keep {w w':World} {vr vf:Value} {X:List Rv} {F:List Fe} (h:TbAt w vr vf X F) (g:w.grownBy w' none):TbAt w' vr vf X F:=⟨h.rows.keep g,fun x hx=>⟨(h.parts x hx).1.keep g,(h.parts x hx).2⟩,h.fs.keep g,h.len,h.few⟩
theorem TbAt.row {w:World} {vr vf:Value} {X:List Rv} {F:List Fe} (h:TbAt w vr vf X F) {i:Nat} (hi:i<X.length):∃ g off cap,vr=.slice (some ⟨g,off,none⟩) X.length cap∧w.rangeAt g (off+i*11) (rvc X[i]):=h.rows.there hi
theorem TbAt.fe {w:World} {vr vf:Value} {X:List Rv} {F:List Fe} (h:TbAt w vr vf X F) {i:Nat} (hi:i<X.length):∃ g off cap,vf=.slice (some ⟨g,off,none⟩) F.length cap∧w.rangeAt g (off+i*5) (fec (F.getD i Fe.none)):=by
 have hi':i<F.length:=by rw[h.len];exact hi
 have:=h.fs.there hi'
 rw[show F.getD i Fe.none=F[i] from by rw[List.getD_eq_getElem?_getD,List.getElem?_eq_getElem hi'];rfl]
 exact this

theorem ret_bb {a b:Bool} (h:a=b):Ending.returned (.bool a)=Ending.returned (.bool b):=by rw[h]
theorem beq_dec (a b:Int):(a == b)=decide (a=b):=by rw[Bool.eq_iff_iff];simp
theorem alloc3_b (w:World) (o p:Obj) (cs:Array Value) (t:TypeId):(((w.alloc o).alloc p).alloc (.cells cs t)).heap[w.heap.size+1+1]?=some (.cells cs t (0,0)):=by have:=alloc_at ((w.alloc o).alloc p) cs t;rwa [World.size_alloc,World.size_alloc] at this
theorem grown_set2 {a b:World} {c:Nat} (h:a.grownBy b none) (hc:a.heap.size≤c) (i:Nat) (v:Value):a.grownBy (b.setCell ⟨c,i,none⟩ v) none:=grown_own h (grown_set _ _ _ _) (fun y e=>by cases e;exact hc)
theorem sixteen {α:Type}:∀ l:List α,l.length=16→∃ b0 b1 b2 b3 b4 b5 b6 b7 b8 b9 b10 b11 b12 b13 b14 b15,l=[b0,b1,b2,b3,b4,b5,b6,b7,b8,b9,b10,b11,b12,b13,b14,b15]
 | [b0,b1,b2,b3,b4,b5,b6,b7,b8,b9,b10,b11,b12,b13,b14,b15],_=>⟨b0,b1,b2,b3,b4,b5,b6,b7,b8,b9,b10,b11,b12,b13,b14,b15,rfl⟩
theorem meas_k {n k:Nat} (h:k<n):n - (intOf (.int .i64 ((k:Int)+1))).toNat<n - (intOf (.int .i64 (k:Int))).toNat:=by
 show n - ((k:Int)+1).toNat<n - (k:Int).toNat
 omega
def numU (R:List Rw) (l:List Bool) (k:Nat):List Int:=(List.range k).filterMap fun i=>if l.getD i false then some (R.getD i Rw.none).nu else none
def numL (R:List Rw) (l:List Bool):List Int:=numU R l R.length
theorem numU_yes {R:List Rw} {l:List Bool} {k:Nat} (h:l.getD k false=true):numU R l (k+1)=numU R l k++[(R.getD k Rw.none).nu]:=by
 unfold numU
 rw[List.range_succ,List.filterMap_append,List.filterMap_cons,h]
 rfl
theorem numU_no {R:List Rw} {l:List Bool} {k:Nat} (h:l.getD k false=false):numU R l (k+1)=numU R l k:=by
 unfold numU
 rw[List.range_succ,List.filterMap_append,List.filterMap_cons,h]
 simp
theorem numU_len (R:List Rw) (l:List Bool) (k:Nat):(numU R l k).length≤k:=by
 have:=List.length_filterMap_le (fun i=>if l.getD i false then some (R.getD i Rw.none).nu else none) (List.range k)
 rwa [List.length_range] at this
theorem lints_one (l:List Int):∀ u∈ints l,u.oneCell'=true:=fun u h=>by
 unfold ints at h
 obtain⟨z,_,rfl⟩:=List.mem_map.1 h
 rfl
def LOwnI (w:World) (base:Nat) (v:Value) (l:List Int):Prop:=w.ownsRow base 3 1 v l.length (ints l)
theorem LOwnI.form {w:World} {base:Nat} {v:Value} {l:List Int} (h:LOwnI w base v l):∃ p c,v=.slice p l.length c:=by
 obtain⟨p,c,e,_⟩:=own_slice h
 exact⟨p,c,e⟩
theorem lone_new (U:World) (x:Int):∀ j u,(ints [x])[j]?=some u→(U.alloc (.cells #[.int .i64 x] 3)).cell? ((⟨U.heap.size,0,none⟩:Addr).add j)=some u:=fun j u hu=>by
 rw[add_plain',Nat.zero_add,block_cell (alloc_at _ _ _)]
 simpa [ints] using hu
theorem lown_more {w':World} {base n:Nat} {v:Value} {l:List Int} {x:Int} (h:w'.ownsRow base 3 1 v (n+1) (ints l++ints [x])) (hn:n=l.length):LOwnI w' base v (l++[x]):=by
 unfold LOwnI
 rw[List.length_append,List.length_singleton,show ints (l++[x])=ints l++ints [x] from by simp[ints],←hn]
 exact h
theorem Tryz.linfo3:(Tryz.prog.info? 3).map (fun i=>(i.zero,i.size,i.bytes))=some (some (.int .i64 0),1,8):=by kernel_rfl
theorem lwp_append_at {P:Program} {w:World} {o:Oper} {a:Act} {K:Act→World→Prop} {Q:Exit→Act→World→Prop} (s x:Operand) (t:TypeId)
  (ho:o.op=.call { callee:=.builtin .append,args:=#[s,x],argTypes:=#[t,t] })
  (base:Nat) (e:TypeId) (i:TypeInfo) (z:Value) (size bytes:Nat) (ht:P.underlying t=some (.slice e)) (hi:P.info? e=some i) (hz:i.zero=some z)
  (hsize:i.size=size) (hby:i.bytes=bytes) (hzs:z.cells.size=size) (hsz:0<size)
  (v:Value) (n:Nat) (xs:List Value) (hs:a.eval s=v) (hown:w.ownsRow base e size v n xs)
  (ad:Addr) (m c:Nat) (news:List Value) (hx:a.eval x=.slice (some ad) m c) (hl:news.length=m*size) (hnews:∀ j u,news[j]?=some u→w.cell? (ad.add j)=some u) (h1:∀ u∈news,u.oneCell'=true)
  (h63:n+m≤maxLen) (hbytes:(n+m)*bytes≤140737488355328) (hbase:base≤w.heap.size)
  (h:∀ v' w',w'.ownsRow base e size v' (n+m) (xs++news)→w.grownBy w' v.ownBlock→(v'.ownBlock=v.ownBlock∨v'.ownBlock=some w.heap.size)→K (a.put o.dst v') w'):Oper.wp P o a w K Q:=by
 obtain⟨v',w',hr,h2,h3,_,h5⟩:=run_append_own_at (P:=P) w base t o.type e i z size bytes ht hi hz hsize hby hzs hsz v n xs hown ad m c news hl hnews h1 h63 hbytes hbase
 unfold Oper.wp execOp
 simp only[ho,resolve,invoke,builtin,Sem.run_bind,Sem.run_pure,Result.andThen_ok,List.map_toArray,List.map_cons,List.map_nil,hs,hx,hr]
 exact h v' w' h2 h3 h5
theorem lwpl_app {P:Program} {w:World} {ops:Array Oper} {rest:List Oper} {o:Oper} {a:Act} {Q:Exit→Act→World→Prop} (hw:Region.wanted o (yielded ops a.tmps)=true) (s x:Operand) (t:TypeId)
  (ho:o.op=.call { callee:=.builtin .append,args:=#[s,x],argTypes:=#[t,t] })
  (base:Nat) (e:TypeId) (i:TypeInfo) (z:Value) (size bytes:Nat) (ht:P.underlying t=some (.slice e)) (hi:P.info? e=some i) (hz:i.zero=some z)
  (hsize:i.size=size) (hby:i.bytes=bytes) (hzs:z.cells.size=size) (hsz:0<size)
  (v:Value) (n:Nat) (xs:List Value) (hs:a.eval s=v) (hown:w.ownsRow base e size v n xs)
  (vx:Value) (m:Nat) (ys:List Value) (hx:a.eval x=vx) (hsrc:Src w vx m size ys) (h1:∀ u∈ys,u.oneCell'=true)
  (h63:n+m≤maxLen) (hbytes:(n+m)*bytes≤140737488355328) (hbase:base≤w.heap.size)
  (h:∀ v' w',w'.ownsRow base e size v' (n+m) (xs++ys)→w.grownBy w' v.ownBlock→(v'.ownBlock=v.ownBlock∨v'.ownBlock=some w.heap.size)→wpList P ops Q rest (a.put o.dst v') w'):wpList P ops Q (o :: rest) a w:=by
 refine wpList_step fun K hK=>?_
 rw[if_pos hw]
 obtain⟨p,c,e1,hl,hc⟩:=hsrc
 subst e1
 by_cases h0:m=0
 ·subst h0
  have hy:ys=[]:=List.length_eq_zero_iff.1 (by omega)
  subst hy
  cases p with
  | none =>
   have hx2:a.eval x=.slice none 0 c:=hx
   have hrun:(Builtin.append_ #[t,t] o.type #[v,.slice none 0 c]).run P w=.ok v w:=by
    have:=run_append_owned_none (P:=P) (w:=w) base t o.type e i size ht hi v n xs hown
    exact this
   unfold Oper.wp
   simp[execOp,ho,resolve,invoke,builtin,hs,hx2,hrun,Result.andThen]
   exact hK _ _ (h v w (by rw[List.append_nil];exact hown) (grown_refl _ _) (Or.inl rfl))
  | some ad =>
   exact lwp_append_at s x t ho base e i z size bytes ht hi hz hsize hby hzs hsz v n xs hs hown ad 0 c [] hx (by simp) (fun j u hu=>by simp at hu) h1 h63 hbytes hbase (fun v' w' h2 h3 h4=>hK _ _ (h v' w' h2 h3 h4))
 ·obtain⟨ad,e2,hcell⟩:=hc (by omega)
  subst e2
  exact lwp_append_at s x t ho base e i z size bytes ht hi hz hsize hby hzs hsz v n xs hs hown ad m c ys hx hl hcell h1 h63 hbytes hbase (fun v' w' h2 h3 h4=>hK _ _ (h v' w' h2 h3 h4))
theorem Tryz.linfoF:(Tryz.prog.info? 65).map (fun i=>(i.zero,i.size,i.bytes))=some (some (.agg #[.int .i64 0,.int .u8 0,.int .u16 0,.int .i64 0,.int .i64 0]),5,32):=by kernel_rfl
def FOwn (w:World) (base:Nat) (v:Value) (fs:List Fe):Prop:=feR.Own 65 w base v fs
theorem grown_drewR (w:World) (r:Option Nat):w.grownBy w.drew r:=⟨rfl,rfl,rfl,Nat.le_refl _,fun _ _ _=>rfl⟩
theorem grown_some {a b:World} (h:a.grownBy b none) (r:Option Nat):a.grownBy b r:=⟨h.os,h.tape,h.output,h.size,fun i hi _=>h.block i hi (by simp)⟩
theorem applyL_len (R:List Rw) (F:List Fe) (s:Se):(applyL R F s).length=F.length:=by simp[applyL]
theorem TbAt.applied {w w':World} {vr vf vf':Value} {X:List Rv} {F:List Fe} {base:Nat} (T:TbAt w vr vf X F) (g:w.grownBy w' none) (s:Se) (o:FOwn w' base vf' (applyL (rws X) F s)):TbAt w' vr vf' X (applyL (rws X) F s) :=
 ⟨T.rows.keep g,fun x hx=>⟨(T.parts x hx).1.keep g,(T.parts x hx).2⟩,o.at,by rw[applyL_len];exact T.len,T.few⟩
theorem find_range {p:Nat→Bool}:∀ (n k:Nat),k<n→(∀ i,i<k→p i=false)→p k=true→(List.range n).find? p=some k
 | n+1,k,hk,hn,hp=>by
  rw[List.range_succ,List.find?_append]
  by_cases h:k<n
  ·rw[find_range n k h hn hp]
   rfl
  ·have:k=n:=by omega
   subst this
   rw[List.find?_eq_none.2 (fun x hx=>by rw[hn x (List.mem_range.1 hx)];simp)]
   simp[hp]
theorem nextN_at {R:List Rw} {F:List Fe} {L:List Se} {k:Nat} (hk:k<L.length) (hn:∀ i,i<k→freeB R F L i=false) (hp:freeB R F L k=true):nextN R F L=k:=by
 unfold nextN
 rw[find_range _ k hk hn hp]
 rfl
theorem nextN_none {R:List Rw} {F:List Fe} {L:List Se} (hn:∀ i,i<L.length→freeB R F L i=false):nextN R F L=0:=by
 unfold nextN
 rw[List.find?_eq_none.2 (fun x hx=>by rw[hn x (List.mem_range.1 hx)];simp)]
 rfl
theorem nextN_lt {R:List Rw} {F:List Fe} {L:List Se} (h:L≠[]):nextN R F L<L.length:=by
 have h0:0<L.length:=List.length_pos_iff.2 h
 unfold nextN
 cases hf:(List.range L.length).find? (freeB R F L) with
 | none=>exact h0
 | some k=>exact List.mem_range.1 (List.mem_of_find?_eq_some hf)
theorem getD_in {α:Type} {l:List α} {i:Nat} {d:α} (h:i<l.length):l.getD i d=l[i]:=by rw[List.getD_eq_getElem?_getD,List.getElem?_eq_getElem h];rfl
theorem SeAt.there {w:World} {v:Value} {L:List Se} (h:seR.At w v L) {i:Nat} (hi:i<L.length):∃ g off cap,v=.slice (some ⟨g,off,none⟩) L.length cap∧w.rangeAt g (off+i*11) (sec (L.getD i Se.none)):=by
 rw[getD_in hi]
 exact RecT.At.there h hi
theorem wrap_smallI {j:Nat} (h:j≤4096):IntKind.i64.wrap (j:Int)=(j:Int):=IntWalk.i64_in _ (by omega)
theorem wrap_small {j:Nat} (h:j≤4096):wrap64 (j:Int)=(j:Int):=by unfold wrap64;omega
theorem wrap_next {k:Nat} (h:k≤4096):wrap64 ((k:Int)+1)=(k:Int)+1:=by unfold wrap64;omega
theorem amgU_next (fs:List Fe) (R:List Rw) (F:List Fe) (k:Nat):amgU fs R F (k+1)=(amgU fs R F k).set ((R.getD k Rw.none).nu - 1).toNat (F.getD k Fe.none):=by
 unfold amgU
 rw[List.range_succ,List.foldl_append]
 rfl
theorem amgU_len (fs:List Fe) (R:List Rw) (F:List Fe):∀ k,(amgU fs R F k).length=fs.length
 | 0=>rfl
 | k+1=>by rw[amgU_next,List.length_set,amgU_len fs R F k]
end Go.Proofs.YthfjgpjcepmnmaaGreat
