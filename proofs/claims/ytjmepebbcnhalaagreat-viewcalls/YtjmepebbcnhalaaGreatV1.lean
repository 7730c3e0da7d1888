import Derived.Test.YtjmepebbcnhalaaGreatV0
namespace Go.Proofs.YtjmepebbcnhalaaGreat
set_option maxRecDepth 100000
set_option maxHeartbeats 4000000
open Go.RowKit
variable {m a x:Int} {w w':World} {b i:Nat}
theorem bM {fn:Func} {a b c d e:Tmp} (h:fn.results=#[.tmp a,.tmp b,.tmp c,.tmp d,.tmp e]) (tmps:Array Value) (P:Program) (w:World) :
  (results fn tmps).run P w=.ok (.tuple #[tmps.getD a undef,tmps.getD b undef,tmps.getD c undef,tmps.getD d undef,tmps.getD e undef]) w:=by
 simp[results,h]
def bW (v m:Int):Value:=.tuple #[.bool (uC v),.bool (uS v m),.bool (uT v m),.bool (uM v),.bool (uN v)]
theorem dy {a b c d e:Bool} {v:Int} (h0:a=uC v) (h1:b=uS v m) (h2:c=uT v m) (h3:d=uM v) (h4:e=uN v):Ending.returned (.tuple #[.bool a,.bool b,.bool c,.bool d,.bool e])=.returned (bW v m):=by
 rw[h0,h1,h2,h3,h4];rfl
theorem ii (m:Int):m=9∨m=10∨(¬m=9∧¬m=10):=by omega
theorem Ax (v:Int) {m:Int} (h:¬m=9):uS v m=decide (v=11):=by simp[uS,h]
theorem Cm (v:Int) {m:Int} (h:¬m=10):uT v m=(decide (v=12) || decide (v=13)):=by simp[uT,h]
theorem cV (v m:Int) (w:World):Calls Tryz.prog 298 #[.int .u8 v,.int .u8 m] w fun e w'=>e=.returned (bW v m)∧w'=w:=by
 rcases iq v with h | h
 ·rcases ed h with rfl | rfl | rfl | rfl | rfl | rfl | rfl | rfl | rfl | rfl | rfl | rfl | rfl | rfl | rfl | rfl | rfl | rfl | rfl
  all_goals
   rcases ii m with rfl | rfl | ⟨h9,h10⟩
   ·go_enter Tryz.func298,Tryz.ntmps298
    go_wp2
    refine bodyPost_ret (bM rfl _ _ _) rfl ?_
    exact⟨dy (by decide) (by decide) (by decide) (by decide) (by decide),rfl⟩
   ·go_enter Tryz.func298,Tryz.ntmps298
    go_wp2
    refine bodyPost_ret (bM rfl _ _ _) rfl ?_
    exact⟨dy (by decide) (by decide) (by decide) (by decide) (by decide),rfl⟩
   ·have g9:(m == 9)=false:=by simpa using h9
    have g10:(m == 10)=false:=by simpa using h10
    have H9:Hid (¬m=9):=h9
    have H10:Hid (¬m=10):=h10
    clear h9 h10
    go_enter Tryz.func298,Tryz.ntmps298
    go_wp2
    refine bodyPost_ret (bM rfl _ _ _) rfl ?_
    exact⟨dy (by decide) (by rw[Ax _ H9.out];decide) (by rw[Cm _ H10.out];decide) (by decide) (by decide),rfl⟩
 ·obtain⟨_,n0,n3,n4,_,hh,_,_,n1,n2⟩:=fq h
  have N0:Hid (uC v=false):=n0
  have N1:Hid (∀ w,uS v w=decide (w=9)):=n1
  have N2:Hid (∀ w,uT v w=decide (w=10)):=n2
  have N3:Hid (uM v=false):=n3
  have N4:Hid (uN v=false):=n4
  have g1:(v == 1)=false:=QF (by omega)
  have g2:(v == 2)=false:=QF (by omega)
  have g3:(v == 3)=false:=QF (by omega)
  have g4:(v == 4)=false:=QF (by omega)
  have g5:(v == 5)=false:=QF (by omega)
  have g6:(v == 6)=false:=QF (by omega)
  have g7:(v == 7)=false:=QF (by omega)
  have g8:(v == 8)=false:=QF (by omega)
  have g9:(v == 9)=false:=QF (by omega)
  have g10:(v == 10)=false:=QF (by omega)
  have g11:(v == 11)=false:=QF (by omega)
  have g12:(v == 12)=false:=QF (by omega)
  have g13:(v == 13)=false:=QF (by omega)
  have g14:(v == 14)=false:=QF (by omega)
  have g15:(v == 15)=false:=QF (by omega)
  have g16:(v == 16)=false:=QF (by omega)
  have g17:(v == 17)=false:=QF (by omega)
  have g18:(v == 18)=false:=QF (by omega)
  have g19:(v == 19)=false:=QF (by omega)
  clear h n0 n1 n2 n3 n4 hh
  rcases ii m with rfl | rfl | ⟨h9,h10⟩
  ·go_enter Tryz.func298,Tryz.ntmps298
   go_wp2
   refine bodyPost_ret (bM rfl _ _ _) rfl ?_
   exact⟨dy N0.out.symm (N1.out 9).symm (N2.out 9).symm N3.out.symm N4.out.symm,rfl⟩
  ·go_enter Tryz.func298,Tryz.ntmps298
   go_wp2
   refine bodyPost_ret (bM rfl _ _ _) rfl ?_
   exact⟨dy N0.out.symm (N1.out 10).symm (N2.out 10).symm N3.out.symm N4.out.symm,rfl⟩
  ·have g9':(m == 9)=false:=by simpa using h9
   have g10':(m == 10)=false:=by simpa using h10
   have H9:Hid (¬m=9):=h9
   have H10:Hid (¬m=10):=h10
   clear h9 h10
   go_enter Tryz.func298,Tryz.ntmps298
   go_wp2
   refine bodyPost_ret (bM rfl _ _ _) rfl ?_
   exact⟨dy N0.out.symm ((N1.out m).trans (Qx H9.out)).symm ((N2.out m).trans (Qx H10.out)).symm N3.out.symm N4.out.symm,rfl⟩
theorem bC (v m:Int) (w:World):Calls Tryz.prog 243 #[.int .u8 v,.int .u8 m] w fun e w'=>e=.returned (bW v m)∧w'=w:=by
 rcases iq v with h | h
 ·rcases ed h with rfl | rfl | rfl | rfl | rfl | rfl | rfl | rfl | rfl | rfl | rfl | rfl | rfl | rfl | rfl | rfl | rfl | rfl | rfl
  all_goals
   rcases ii m with rfl | rfl | ⟨h9,h10⟩
   ·go_enter Tryz.func243,Tryz.ntmps243
    go_wp2_with (go_at_call 283;refine(dm _ _).mono ?_;rintro e w1 ⟨rfl,rfl⟩;simp only[hi])
    refine bodyPost_ret (bM rfl _ _ _) rfl ?_
    exact⟨dy (by decide) (by decide) (by decide) (by decide) (by decide),rfl⟩
   ·go_enter Tryz.func243,Tryz.ntmps243
    go_wp2_with (go_at_call 283;refine(dm _ _).mono ?_;rintro e w1 ⟨rfl,rfl⟩;simp only[hi])
    refine bodyPost_ret (bM rfl _ _ _) rfl ?_
    exact⟨dy (by decide) (by decide) (by decide) (by decide) (by decide),rfl⟩
   ·have g9:(m == 9)=false:=by simpa using h9
    have g10:(m == 10)=false:=by simpa using h10
    have H9:Hid (¬m=9):=h9
    have H10:Hid (¬m=10):=h10
    clear h9 h10
    go_enter Tryz.func243,Tryz.ntmps243
    go_wp2_with (go_at_call 283;refine(dm _ _).mono ?_;rintro e w1 ⟨rfl,rfl⟩;simp only[hi])
    refine bodyPost_ret (bM rfl _ _ _) rfl ?_
    exact⟨dy (by decide) (by rw[Ax _ H9.out];decide) (by rw[Cm _ H10.out];decide) (by decide) (by decide),rfl⟩
 ·obtain⟨_,n0,n3,n4,_,hh,_,_,n1,n2⟩:=fq h
  have N0:Hid (uC v=false):=n0
  have N1:Hid (∀ w,uS v w=decide (w=9)):=n1
  have N2:Hid (∀ w,uT v w=decide (w=10)):=n2
  have N3:Hid (uM v=false):=n3
  have N4:Hid (uN v=false):=n4
  have g1:(v == 1)=false:=QF (by omega)
  have g2:(v == 2)=false:=QF (by omega)
  have g3:(v == 3)=false:=QF (by omega)
  have g4:(v == 4)=false:=QF (by omega)
  have g5:(v == 5)=false:=QF (by omega)
  have g6:(v == 6)=false:=QF (by omega)
  have g7:(v == 7)=false:=QF (by omega)
  have g8:(v == 8)=false:=QF (by omega)
  have g9:(v == 9)=false:=QF (by omega)
  have g10:(v == 10)=false:=QF (by omega)
  have g11:(v == 11)=false:=QF (by omega)
  have g12:(v == 12)=false:=QF (by omega)
  have g13:(v == 13)=false:=QF (by omega)
  have g14:(v == 14)=false:=QF (by omega)
  have g15:(v == 15)=false:=QF (by omega)
  have g16:(v == 16)=false:=QF (by omega)
  have g17:(v == 17)=false:=QF (by omega)
  have g18:(v == 18)=false:=QF (by omega)
  have g19:(v == 19)=false:=QF (by omega)
  clear h n0 n1 n2 n3 n4
  rcases ii m with rfl | rfl | ⟨h9,h10⟩
  ·go_enter Tryz.func243,Tryz.ntmps243
   go_wp2_with (go_at_call 283;refine(dm _ _).mono ?_;rintro e w1 ⟨rfl,rfl⟩;rw[hh])
   refine bodyPost_ret (bM rfl _ _ _) rfl ?_
   exact⟨dy N0.out.symm (N1.out 9).symm (N2.out 9).symm N3.out.symm N4.out.symm,rfl⟩
  ·go_enter Tryz.func243,Tryz.ntmps243
   go_wp2_with (go_at_call 283;refine(dm _ _).mono ?_;rintro e w1 ⟨rfl,rfl⟩;rw[hh])
   refine bodyPost_ret (bM rfl _ _ _) rfl ?_
   exact⟨dy N0.out.symm (N1.out 10).symm (N2.out 10).symm N3.out.symm N4.out.symm,rfl⟩
  ·have g9':(m == 9)=false:=by simpa using h9
   have g10':(m == 10)=false:=by simpa using h10
   have H9:Hid (¬m=9):=h9
   have H10:Hid (¬m=10):=h10
   clear h9 h10
   go_enter Tryz.func243,Tryz.ntmps243
   go_wp2_with (go_at_call 283;refine(dm _ _).mono ?_;rintro e w1 ⟨rfl,rfl⟩;rw[hh])
   refine bodyPost_ret (bM rfl _ _ _) rfl ?_
   exact⟨dy N0.out.symm ((N1.out m).trans (Qx H9.out)).symm ((N2.out m).trans (Qx H10.out)).symm N3.out.symm N4.out.symm,rfl⟩
set_option maxHeartbeats 2000000
def pv (p:Pt):Value:=.agg #[.int .u8 p.wn,.int .u8 p.vb,.int .u8 p.wm,.int .i64 p.ct,.int .u8 p.su,.int .u8 p.tr,.int .u8 p.mr,.string p.nm]
def PAt (w:World) (b:Nat) (p:Pt):Prop:=w.heap[b]?=some (.cells #[.int .u8 p.wn,.int .u8 p.vb,.int .u8 p.wm,.int .i64 p.ct,.int .u8 p.su,.int .u8 p.tr,.int .u8 p.mr,.string p.nm] 62 (0,0))
theorem PAt.keep {p:Pt} (h:PAt w b p) (g:w.grownBy w' none):PAt w' b p:=ag g h (by simp)
theorem PAt.new (w:World) (p:Pt):PAt (w.alloc (.cells #[.int .u8 p.wn,.int .u8 p.vb,.int .u8 p.wm,.int .i64 p.ct,.int .u8 p.su,.int .u8 p.tr,.int .u8 p.mr,.string p.nm] 62)) w.heap.size p:=ak _ _ _
theorem aU {b:Int} (h:¬a=b):(a == b)=false:=by simpa using h
theorem cY {b:Int} (h:a=b):(a == b)=true:=by simpa using h

theorem ia (p:Pt) (w:World):Calls Tryz.prog 276 #[pv p] w fun e w'=>e=.returned (.bool (decide (p.vb=11∧p.wm=9)))∧w.grownBy w' none:=by
 unfold pv
 by_cases h:p.vb=11
 ·have hb:=cY h
  by_cases h':p.wm=9
  ·have hb':=cY h'
   rw[Qy (show p.vb=11∧p.wm=9 from ⟨h,h'⟩)]
   clear h h'
   go_enter Tryz.func276,Tryz.ntmps276
   go_wp2
   go_ret
   exact⟨rfl,World.grownBy_alloc _ _ _⟩
  ·have hb':=aU h'
   rw[Qx (show ¬(p.vb=11∧p.wm=9) from fun e=>h' e.2)]
   clear h h'
   go_enter Tryz.func276,Tryz.ntmps276
   go_wp2
   go_ret
   exact⟨rfl,World.grownBy_alloc _ _ _⟩
 ·have hb:=aU h
  rw[Qx (show ¬(p.vb=11∧p.wm=9) from fun e=>h e.1)]
  clear h
  go_enter Tryz.func276,Tryz.ntmps276
  go_wp2
  go_ret
  exact⟨rfl,World.grownBy_alloc _ _ _⟩
theorem jW (p:Pt) (w:World):Calls Tryz.prog 277 #[pv p] w fun e w'=>e=.returned (.bool (abt p.wn p.vb p.wm))∧w.grownBy w' none:=by
 unfold pv
 by_cases h:p.wm=3
 ·have hb:=cY h
  rw[show abt p.wn p.vb p.wm=decide (p.wn=1) from if_pos h]
  clear h
  by_cases h':p.wn=1
  ·have hb':=cY h'
   rw[Qy h']
   clear h'
   go_enter Tryz.func277,Tryz.ntmps277
   go_wp2
   go_ret
   exact⟨rfl,World.grownBy_alloc _ _ _⟩
  ·have hb':=aU h'
   rw[Qx h']
   clear h'
   go_enter Tryz.func277,Tryz.ntmps277
   go_wp2
   go_ret
   exact⟨rfl,World.grownBy_alloc _ _ _⟩
 ·have hb:=aU h
  by_cases h1:p.wm=1∨p.wm=2
  ·rw[show abt p.wn p.vb p.wm=abP p.vb from (if_neg h).trans (if_pos h1)]
   rcases h1 with h1 | h1
   ·have hb1:=cY h1
    clear h h1
    go_enter Tryz.func277,Tryz.ntmps277
    go_wp2_with (go_at_call 296;refine(wO _ _).mono ?_;rintro e w1 ⟨rfl,rfl⟩)
    go_ret
    exact⟨rfl,World.grownBy_alloc _ _ _⟩
   ·have hb1:=cY h1
    have hb2:(p.wm == 1)=false:=aU (by omega)
    clear h h1
    go_enter Tryz.func277,Tryz.ntmps277
    go_wp2_with (go_at_call 296;refine(wO _ _).mono ?_;rintro e w1 ⟨rfl,rfl⟩)
    go_ret
    exact⟨rfl,World.grownBy_alloc _ _ _⟩
  ·rw[show abt p.wn p.vb p.wm=true from (if_neg h).trans (if_neg h1)]
   have hb1:(p.wm == 1)=false:=aU (fun e=>h1 (Or.inl e))
   have hb2:(p.wm == 2)=false:=aU (fun e=>h1 (Or.inr e))
   clear h h1
   go_enter Tryz.func277,Tryz.ntmps277
   go_wp2
   go_ret
   exact⟨rfl,World.grownBy_alloc _ _ _⟩
theorem kx (p:Pt) (w:World):Calls Tryz.prog 278 #[pv p] w fun e w'=>e=.returned (.bool (ei p.vb p.ct))∧w.grownBy w' none:=by
 unfold pv
 by_cases h:p.ct=0
 ·have hb:=cY h
  rw[show ei p.vb p.ct=decide (lo p.vb=0) from if_pos h]
  clear h
  go_enter Tryz.func278,Tryz.ntmps278
  go_wp2_with (go_at_call 297;refine(jQ _ _).mono ?_;rintro e w1 ⟨rfl,rfl⟩)
  go_ret
  exact⟨aI (by first | rfl | simp),World.grownBy_alloc _ _ _⟩
 ·have hb:=aU h
  rw[show ei p.vb p.ct=(decide (lo p.vb≤p.ct) && decide (p.ct≤hi p.vb)) from if_neg h]
  clear h
  by_cases h1:lo p.vb≤p.ct
  ·go_enter Tryz.func278,Tryz.ntmps278
   go_wp2_with (go_at_call 297;refine(jQ _ _).mono ?_;rintro e w1 ⟨rfl,rfl⟩)
   go_ret
   exact⟨aI (by first | rfl | simp[h1]),World.grownBy_alloc _ _ _⟩
  ·go_enter Tryz.func278,Tryz.ntmps278
   go_wp2_with (go_at_call 297;refine(jQ _ _).mono ?_;rintro e w1 ⟨rfl,rfl⟩)
   go_ret
   exact⟨aI (by simp;omega),World.grownBy_alloc _ _ _⟩
theorem bQ (u:Bool) (x:Int) (g:Bool) (m:Int) (hg:g=(decide (1≤x) && decide (x≤m))) (w:World):Calls Tryz.prog 299 #[.bool u,.int .u8 x,.bool g] w fun e w'=>e=.returned (.bool (bB u x m))∧w'=w:=by
 cases u with
 | true =>
  rw[show bB true x m=g from hg.symm]
  clear hg
  go_enter Tryz.func299,Tryz.ntmps299
  go_wp2
  go_ret
  exact⟨rfl,rfl⟩
 | false =>
  rw[show bB false x m=decide (x=0) from rfl]
  clear hg
  by_cases h:x=0
  ·subst h
   go_enter Tryz.func299,Tryz.ntmps299
   go_wp2
   go_ret
   exact⟨rfl,rfl⟩
  ·have hb:=aU h
   rw[Qx h]
   clear h
   go_enter Tryz.func299,Tryz.ntmps299
   go_wp2
   go_ret
   exact⟨rfl,rfl⟩
theorem cy (u:Bool) (x:Int) (g:Bool) (m:Int) (hg:g=(decide (1≤x) && decide (x≤m))) (w:World):Calls Tryz.prog 300 #[.bool u,.int .u8 x,.bool g] w fun e w'=>e=.returned (.bool (bB u x m))∧w'=w:=by
 cases u with
 | true =>
  rw[show bB true x m=g from hg.symm]
  clear hg
  go_enter Tryz.func300,Tryz.ntmps300
  go_wp2
  go_ret
  exact⟨rfl,rfl⟩
 | false =>
  rw[show bB false x m=decide (x=0) from rfl]
  clear hg
  by_cases h:x=0
  ·subst h
   go_enter Tryz.func300,Tryz.ntmps300
   go_wp2
   go_ret
   exact⟨rfl,rfl⟩
  ·have hb:=aU h
   rw[Qx h]
   clear h
   go_enter Tryz.func300,Tryz.ntmps300
   go_wp2
   go_ret
   exact⟨rfl,rfl⟩
theorem dO (u:Bool) (x:Int) (g:Bool) (m:Int) (hg:g=(decide (1≤x) && decide (x≤m))) (w:World):Calls Tryz.prog 301 #[.bool u,.int .u8 x,.bool g] w fun e w'=>e=.returned (.bool (bB u x m))∧w'=w:=by
 cases u with
 | true =>
  rw[show bB true x m=g from hg.symm]
  clear hg
  go_enter Tryz.func301,Tryz.ntmps301
  go_wp2
  go_ret
  exact⟨rfl,rfl⟩
 | false =>
  rw[show bB false x m=decide (x=0) from rfl]
  clear hg
  by_cases h:x=0
  ·subst h
   go_enter Tryz.func301,Tryz.ntmps301
   go_wp2
   go_ret
   exact⟨rfl,rfl⟩
  ·have hb:=aU h
   rw[Qx h]
   clear h
   go_enter Tryz.func301,Tryz.ntmps301
   go_wp2
   go_ret
   exact⟨rfl,rfl⟩
def Eo (u g:Bool) (s:ByteArray):Bool:=if u then g else decide (s.data.toList=[])
theorem uf (u:Bool) (s:ByteArray) (g:Bool) (w:World):Calls Tryz.prog 302 #[.bool u,.string s,.bool g] w fun e w'=>e=.returned (.bool (Eo u g s))∧w'=w:=by
 cases u with
 | true =>
  rw[show Eo true g s=g from rfl]
  go_enter Tryz.func302,Tryz.ntmps302
  go_wp2
  go_ret
  exact⟨rfl,rfl⟩
 | false =>
  rw[show Eo false g s=decide (s.data.toList=[]) from rfl]
  by_cases h:s.data.toList=[]
  ·have hs:s=⟨#[]⟩:=by
    rcases s with ⟨⟨l⟩⟩
    simp at h
    rw[h]
   subst hs
   go_enter Tryz.func302,Tryz.ntmps302
   go_wp2
   go_ret
   exact⟨rfl,rfl⟩
  ·have hb:(s.toList == [])=false:=by
    rw[Lib.toList_data]
    simpa using h
   have hb2:s.toList.isEmpty=false:=by
    rw[Lib.toList_data]
    simpa using h
   rw[Qx h]
   clear h
   go_enter Tryz.func302,Tryz.ntmps302
   go_wp2
   go_ret
   exact⟨rfl,rfl⟩
theorem eH (b:UInt8) (w:World):Calls Tryz.prog 185 #[.int .u8 (b.toNat:Int)] w fun e w'=>e=.returned (.bool (bI b))∧w'=w:=by
 by_cases h:97≤b.toNat
 ·have h0:(97:Int)≤(b.toNat:Int):=by omega
  rw[show bI b=decide (b.toNat≤122) by simp[bI,h]]
  by_cases h':b.toNat≤122
  ·have h1:(b.toNat:Int)≤122:=by omega
   rw[Qy h']
   clear h h'
   go_enter Tryz.func185,Tryz.ntmps185
   go_wp2
   go_ret
   exact⟨rfl,rfl⟩
  ·have h1:¬(b.toNat:Int)≤122:=by omega
   rw[Qx h']
   clear h h'
   go_enter Tryz.func185,Tryz.ntmps185
   go_wp2
   go_ret
   exact⟨rfl,rfl⟩
 ·have h0:¬(97:Int)≤(b.toNat:Int):=by omega
  rw[show bI b=false by simp[bI];omega]
  clear h
  go_enter Tryz.func185,Tryz.ntmps185
  go_wp2
  go_ret
  exact⟨rfl,rfl⟩
set_option maxHeartbeats 4000000
def okb (x:UInt8):Bool:=bI x || decide (x=45)
theorem gu (s:ByteArray) (i:Nat) (h:i<s.size):s.data.toList[i]?=some s[i]:=by
 simp[ByteArray.getElem_eq_getElem_data]
theorem gx {l:List UInt8} (h:20<l.length):aT l=false:=by
 cases l with
 | nil=>rfl
 | cons c r =>
  simp only[List.length_cons] at h
  simp[aT,show ¬r.length≤19 by omega]
theorem dW {l:List UInt8} {c:UInt8} (h:l[0]?=some c) (hc:bI c=false):aT l=false:=by
 cases l with
 | nil=>rfl
 | cons d r =>
  simp at h
  subst h
  simp[aT,hc]
theorem er {l:List UInt8} {x:UInt8} (h:l[i]?=some x) (hx:okb x=false):aT l=false:=by
 cases l with
 | nil=>rfl
 | cons d r =>
  have hm:x∈d :: r:=Qm h
  rcases List.mem_cons.1 hm with rfl | h'
  ·have:bI x=false:=by
    simp only[okb,Bool.or_eq_false_iff] at hx
    exact hx.1
   simp[aT,this]
  ·have:(r.all fun x=>bI x || decide (x=45))=false:=by
    rw[List.all_eq_false]
    exact⟨x,h',by simpa [okb] using hx⟩
   simp[aT,this]
theorem jU {l:List UInt8} {c:UInt8} (h0:l[0]?=some c) (hc:bI c=true) (hl:l.length≤20) (ha:∀ (j:Nat) x,l[j]?=some x→okb x=true):aT l=true:=by
 cases l with
 | nil=>simp at h0
 | cons d r =>
  simp at h0
  subst h0
  simp only[List.length_cons] at hl
  have:(r.all fun x=>bI x || decide (x=45))=true:=by
   rw[List.all_eq_true]
   intro x hx
   obtain⟨j,hj,rfl⟩:=List.getElem_of_mem hx
   exact ha (j+1) _ (by simp[hj])
  simp only[aT,hc,this,Bool.and_true]
  exact Qy (by omega)
theorem vk (s:ByteArray) (w:World):Calls Tryz.prog 122 #[.string s] w fun e w'=>e=.returned (.bool (aT s.data.toList))∧w'=w:=by
 have HL:Hid (s.data.toList.length=s.size):=(Lib.size_eq s).symm
 by_cases h0:s.size=0
 ·have hb:((s.size:Int) == 0)=true:=by simp[h0]
  rw[show s.data.toList=[] from List.eq_nil_of_length_eq_zero (by rw[HL.out];exact h0)]
  clear h0
  go_enter Tryz.func122,Tryz.ntmps122
  go_wp2
  go_ret
  exact⟨rfl,rfl⟩
 ·have hb:((s.size:Int) == 0)=false:=by simp[h0]
  by_cases h1:20<s.size
  ·have hb1:(20:Int)<(s.size:Int):=by omega
   rw[gx (by rw[HL.out];exact h1)]
   clear h0 h1
   go_enter Tryz.func122,Tryz.ntmps122
   go_wp2
   go_ret
   exact⟨rfl,rfl⟩
  ·have hb1:¬(20:Int)<(s.size:Int):=by omega
   have hp:0<s.size:=by omega
   have B0:Hid (s.data.toList[0]?=some s[0]):=gu s 0 hp
   have H1:Hid (s.data.toList.length≤20):=by rw[Hid,HL.out];omega
   clear h0 h1
   cases hc:bI s[0] with
   | false =>
    rw[dW B0.out hc]
    go_enter Tryz.func122,Tryz.ntmps122
    go_wp2_with (go_at_call 185;refine(eH _ _).mono ?_;rintro e w1 ⟨rfl,rfl⟩;rw[hc])
    go_ret
    exact⟨rfl,rfl⟩
   | true =>
    have HC:Hid (bI s[0]=true):=hc
    go_enter Tryz.func122,Tryz.ntmps122
    go_wp2_with (go_at_call 185;refine(eH _ _).mono ?_;rintro e w1 ⟨rfl,hw⟩;obtain rfl:w=w1:=hw.symm;rw[hc])
    clear hc
    go_loopw [20] (fun t wr=>wr=w∧∃ i:Nat,i≤s.size∧t=.int .i64 i∧∀ j x,j<i→s.data.toList[j]?=some x→okb x=true) (fun t _=>s.size - (intOf t).toNat)
    case atStart=>exact⟨rfl,0,Q0 _,rfl,fun j x hj=>absurd hj (by omega)⟩
    case round =>
     obtain⟨rfl,i,hi,rfl,ha⟩:=hrel
     have HA:Hid (∀ j x,j<i→s.data.toList[j]?=some x→okb x=true):=ha
     clear ha
     by_cases hl:i<s.size
     ·have hl':(i:Int)<(s.size:Int):=by omega
      have BI:Hid (s.data.toList[i]?=some s[i]):=gu s i hl
      cases hc:bI s[i] with
      | true =>
       have HN:Hid (okb s[i]=true):=by simp[Hid,okb,hc]
       go_wp2_with (go_at_call 185;refine(eH _ _).mono ?_;rintro e w1 ⟨rfl,rfl⟩;rw[hc])
       go_roundw
       case rel=>exact⟨trivial,i+1,by omega,by go_num,fun j x hj hx=>by
        rcases (show j<i∨j=i from by omega) with h' | rfl
        ·exact HA.out j x h' hx
        ·rw[BI.out] at hx;cases hx;exact HN.out⟩
       case measure=>simp[intOf];omega
      | false =>
       by_cases hd:s[i]=45
       ·have hq:((s[i].toNat:Int) == 45)=true:=by simp[hd]
        have HN:Hid (okb s[i]=true):=by simp[Hid,okb,hd]
        clear hd
        go_wp2_with (go_at_call 185;refine(eH _ _).mono ?_;rintro e w1 ⟨rfl,rfl⟩;rw[hc])
        go_roundw
        case rel=>exact⟨trivial,i+1,by omega,by go_num,fun j x hj hx=>by
         rcases (show j<i∨j=i from by omega) with h' | rfl
         ·exact HA.out j x h' hx
         ·rw[BI.out] at hx;cases hx;exact HN.out⟩
        case measure=>simp[intOf];omega
       ·have hq:((s[i].toNat:Int) == 45)=false:=by
         have:¬(s[i].toNat:Int)=45:=fun e=>hd (UInt8.toNat_inj.1 (by simpa using (by omega:s[i].toNat=45)))
         simpa using this
        have HN:Hid (okb s[i]=false):=by simp[Hid,okb,hc,hd]
        clear hd
        go_wp2_with (go_at_call 185;refine(eH _ _).mono ?_;rintro e w1 ⟨rfl,rfl⟩;rw[hc])
        go_ret
        exact⟨aI (er BI.out HN.out).symm,rfl⟩
     ·have hl':¬(i:Int)<(s.size:Int):=by omega
      have HY:Hid (aT s.data.toList=true):=jU B0.out HC.out H1.out (fun j x hx=>HA.out j x (by
       have:=(Qh hx).1
       rw[HL.out] at this
       omega) hx)
      go_wp2
      go_ret
      exact⟨aI HY.out.symm,rfl⟩

theorem dh (h:¬1≤x):false=(decide (1≤x) && decide (x≤m)):=by rw[Qx h];rfl
theorem dg (h:1≤x):decide (x≤m)=(decide (1≤x) && decide (x≤m)):=by rw[Qy h];rfl
theorem mZ (p:Pt) (w:World):Calls Tryz.prog 279 #[pv p] w fun e w'=>e=.returned (.bool (rJ p))∧w.grownBy w' none:=by
 unfold pv
 rw[show rJ p=(bB (uS p.vb p.wm) p.su 6 && (bB (uT p.vb p.wm) p.tr 8 && bB (uM p.vb) p.mr 4)) from rfl]
 by_cases a1:1≤p.su
 ·cases F1:bB (uS p.vb p.wm) p.su 6 with
  | false =>
   rw[Bool.false_and]
   go_enter Tryz.func279,Tryz.ntmps279
   go_wp2_with (first | (go_at_call 298;refine(cV _ _ _).mono ?_;rintro e w1 ⟨rfl,rfl⟩;simp only[bW]) | (go_at_call 299;refine(bQ _ _ _ 6 (dg (by omega)) _).mono ?_;rintro e w1 ⟨rfl,rfl⟩;rw[F1]))
   go_ret
   exact⟨rfl,World.grownBy_alloc _ _ _⟩
  | true =>
   rw[Bool.true_and]
   by_cases a2:1≤p.tr
   ·cases F2:bB (uT p.vb p.wm) p.tr 8 with
    | false =>
     rw[Bool.false_and]
     go_enter Tryz.func279,Tryz.ntmps279
     go_wp2_with (first | (go_at_call 298;refine(cV _ _ _).mono ?_;rintro e w1 ⟨rfl,rfl⟩;simp only[bW]) | (go_at_call 299;refine(bQ _ _ _ 6 (dg (by omega)) _).mono ?_;rintro e w1 ⟨rfl,rfl⟩;rw[F1]) | (go_at_call 300;refine(cy _ _ _ 8 (dg (by omega)) _).mono ?_;rintro e w1 ⟨rfl,rfl⟩;rw[F2]))
     go_ret
     exact⟨rfl,World.grownBy_alloc _ _ _⟩
    | true =>
     rw[Bool.true_and]
     by_cases a3:1≤p.mr
     ·go_enter Tryz.func279,Tryz.ntmps279
      go_wp2_with (first | (go_at_call 298;refine(cV _ _ _).mono ?_;rintro e w1 ⟨rfl,rfl⟩;simp only[bW]) | (go_at_call 299;refine(bQ _ _ _ 6 (dg (by omega)) _).mono ?_;rintro e w1 ⟨rfl,rfl⟩;rw[F1]) | (go_at_call 300;refine(cy _ _ _ 8 (dg (by omega)) _).mono ?_;rintro e w1 ⟨rfl,rfl⟩;rw[F2]) | (go_at_call 301;refine(dO _ _ _ 4 (dg (by omega)) _).mono ?_;rintro e w1 ⟨rfl,rfl⟩))
      go_ret
      exact⟨rfl,World.grownBy_alloc _ _ _⟩
     ·go_enter Tryz.func279,Tryz.ntmps279
      go_wp2_with (first | (go_at_call 298;refine(cV _ _ _).mono ?_;rintro e w1 ⟨rfl,rfl⟩;simp only[bW]) | (go_at_call 299;refine(bQ _ _ _ 6 (dg (by omega)) _).mono ?_;rintro e w1 ⟨rfl,rfl⟩;rw[F1]) | (go_at_call 300;refine(cy _ _ _ 8 (dg (by omega)) _).mono ?_;rintro e w1 ⟨rfl,rfl⟩;rw[F2]) | (go_at_call 301;refine(dO _ _ _ 4 (dh (by omega)) _).mono ?_;rintro e w1 ⟨rfl,rfl⟩))
      go_ret
      exact⟨rfl,World.grownBy_alloc _ _ _⟩
   ·cases F2:bB (uT p.vb p.wm) p.tr 8 with
    | false =>
     rw[Bool.false_and]
     go_enter Tryz.func279,Tryz.ntmps279
     go_wp2_with (first | (go_at_call 298;refine(cV _ _ _).mono ?_;rintro e w1 ⟨rfl,rfl⟩;simp only[bW]) | (go_at_call 299;refine(bQ _ _ _ 6 (dg (by omega)) _).mono ?_;rintro e w1 ⟨rfl,rfl⟩;rw[F1]) | (go_at_call 300;refine(cy _ _ _ 8 (dh (by omega)) _).mono ?_;rintro e w1 ⟨rfl,rfl⟩;rw[F2]))
     go_ret
     exact⟨rfl,World.grownBy_alloc _ _ _⟩
    | true =>
     rw[Bool.true_and]
     by_cases a3:1≤p.mr
     ·go_enter Tryz.func279,Tryz.ntmps279
      go_wp2_with (first | (go_at_call 298;refine(cV _ _ _).mono ?_;rintro e w1 ⟨rfl,rfl⟩;simp only[bW]) | (go_at_call 299;refine(bQ _ _ _ 6 (dg (by omega)) _).mono ?_;rintro e w1 ⟨rfl,rfl⟩;rw[F1]) | (go_at_call 300;refine(cy _ _ _ 8 (dh (by omega)) _).mono ?_;rintro e w1 ⟨rfl,rfl⟩;rw[F2]) | (go_at_call 301;refine(dO _ _ _ 4 (dg (by omega)) _).mono ?_;rintro e w1 ⟨rfl,rfl⟩))
      go_ret
      exact⟨rfl,World.grownBy_alloc _ _ _⟩
     ·go_enter Tryz.func279,Tryz.ntmps279
      go_wp2_with (first | (go_at_call 298;refine(cV _ _ _).mono ?_;rintro e w1 ⟨rfl,rfl⟩;simp only[bW]) | (go_at_call 299;refine(bQ _ _ _ 6 (dg (by omega)) _).mono ?_;rintro e w1 ⟨rfl,rfl⟩;rw[F1]) | (go_at_call 300;refine(cy _ _ _ 8 (dh (by omega)) _).mono ?_;rintro e w1 ⟨rfl,rfl⟩;rw[F2]) | (go_at_call 301;refine(dO _ _ _ 4 (dh (by omega)) _).mono ?_;rintro e w1 ⟨rfl,rfl⟩))
      go_ret
      exact⟨rfl,World.grownBy_alloc _ _ _⟩
 ·cases F1:bB (uS p.vb p.wm) p.su 6 with
  | false =>
   rw[Bool.false_and]
   go_enter Tryz.func279,Tryz.ntmps279
   go_wp2_with (first | (go_at_call 298;refine(cV _ _ _).mono ?_;rintro e w1 ⟨rfl,rfl⟩;simp only[bW]) | (go_at_call 299;refine(bQ _ _ _ 6 (dh (by omega)) _).mono ?_;rintro e w1 ⟨rfl,rfl⟩;rw[F1]))
   go_ret
   exact⟨rfl,World.grownBy_alloc _ _ _⟩
  | true =>
   rw[Bool.true_and]
   by_cases a2:1≤p.tr
   ·cases F2:bB (uT p.vb p.wm) p.tr 8 with
    | false =>
     rw[Bool.false_and]
     go_enter Tryz.func279,Tryz.ntmps279
     go_wp2_with (first | (go_at_call 298;refine(cV _ _ _).mono ?_;rintro e w1 ⟨rfl,rfl⟩;simp only[bW]) | (go_at_call 299;refine(bQ _ _ _ 6 (dh (by omega)) _).mono ?_;rintro e w1 ⟨rfl,rfl⟩;rw[F1]) | (go_at_call 300;refine(cy _ _ _ 8 (dg (by omega)) _).mono ?_;rintro e w1 ⟨rfl,rfl⟩;rw[F2]))
     go_ret
     exact⟨rfl,World.grownBy_alloc _ _ _⟩
    | true =>
     rw[Bool.true_and]
     by_cases a3:1≤p.mr
     ·go_enter Tryz.func279,Tryz.ntmps279
      go_wp2_with (first | (go_at_call 298;refine(cV _ _ _).mono ?_;rintro e w1 ⟨rfl,rfl⟩;simp only[bW]) | (go_at_call 299;refine(bQ _ _ _ 6 (dh (by omega)) _).mono ?_;rintro e w1 ⟨rfl,rfl⟩;rw[F1]) | (go_at_call 300;refine(cy _ _ _ 8 (dg (by omega)) _).mono ?_;rintro e w1 ⟨rfl,rfl⟩;rw[F2]) | (go_at_call 301;refine(dO _ _ _ 4 (dg (by omega)) _).mono ?_;rintro e w1 ⟨rfl,rfl⟩))
      go_ret
      exact⟨rfl,World.grownBy_alloc _ _ _⟩
     ·go_enter Tryz.func279,Tryz.ntmps279
      go_wp2_with (first | (go_at_call 298;refine(cV _ _ _).mono ?_;rintro e w1 ⟨rfl,rfl⟩;simp only[bW]) | (go_at_call 299;refine(bQ _ _ _ 6 (dh (by omega)) _).mono ?_;rintro e w1 ⟨rfl,rfl⟩;rw[F1]) | (go_at_call 300;refine(cy _ _ _ 8 (dg (by omega)) _).mono ?_;rintro e w1 ⟨rfl,rfl⟩;rw[F2]) | (go_at_call 301;refine(dO _ _ _ 4 (dh (by omega)) _).mono ?_;rintro e w1 ⟨rfl,rfl⟩))
      go_ret
      exact⟨rfl,World.grownBy_alloc _ _ _⟩
   ·cases F2:bB (uT p.vb p.wm) p.tr 8 with
    | false =>
     rw[Bool.false_and]
     go_enter Tryz.func279,Tryz.ntmps279
     go_wp2_with (first | (go_at_call 298;refine(cV _ _ _).mono ?_;rintro e w1 ⟨rfl,rfl⟩;simp only[bW]) | (go_at_call 299;refine(bQ _ _ _ 6 (dh (by omega)) _).mono ?_;rintro e w1 ⟨rfl,rfl⟩;rw[F1]) | (go_at_call 300;refine(cy _ _ _ 8 (dh (by omega)) _).mono ?_;rintro e w1 ⟨rfl,rfl⟩;rw[F2]))
     go_ret
     exact⟨rfl,World.grownBy_alloc _ _ _⟩
    | true =>
     rw[Bool.true_and]
     by_cases a3:1≤p.mr
     ·go_enter Tryz.func279,Tryz.ntmps279
      go_wp2_with (first | (go_at_call 298;refine(cV _ _ _).mono ?_;rintro e w1 ⟨rfl,rfl⟩;simp only[bW]) | (go_at_call 299;refine(bQ _ _ _ 6 (dh (by omega)) _).mono ?_;rintro e w1 ⟨rfl,rfl⟩;rw[F1]) | (go_at_call 300;refine(cy _ _ _ 8 (dh (by omega)) _).mono ?_;rintro e w1 ⟨rfl,rfl⟩;rw[F2]) | (go_at_call 301;refine(dO _ _ _ 4 (dg (by omega)) _).mono ?_;rintro e w1 ⟨rfl,rfl⟩))
      go_ret
      exact⟨rfl,World.grownBy_alloc _ _ _⟩
     ·go_enter Tryz.func279,Tryz.ntmps279
      go_wp2_with (first | (go_at_call 298;refine(cV _ _ _).mono ?_;rintro e w1 ⟨rfl,rfl⟩;simp only[bW]) | (go_at_call 299;refine(bQ _ _ _ 6 (dh (by omega)) _).mono ?_;rintro e w1 ⟨rfl,rfl⟩;rw[F1]) | (go_at_call 300;refine(cy _ _ _ 8 (dh (by omega)) _).mono ?_;rintro e w1 ⟨rfl,rfl⟩;rw[F2]) | (go_at_call 301;refine(dO _ _ _ 4 (dh (by omega)) _).mono ?_;rintro e w1 ⟨rfl,rfl⟩))
      go_ret
      exact⟨rfl,World.grownBy_alloc _ _ _⟩
theorem sy (p:Pt) (w:World):Calls Tryz.prog 280 #[pv p] w fun e w'=>e=.returned (.bool (pN p))∧w.grownBy w' none:=by
 unfold pv
 go_enter Tryz.func280,Tryz.ntmps280
 go_wp2_with (go_at_call 298;refine(cV _ _ _).mono ?_;rintro e w1 ⟨rfl,rfl⟩;simp only[bW])
 go_region_held3 (fun w'=>w'.cell? ⟨w.heap.size,7,none⟩=some (.string p.nm)) (first | exact aa (ak _ _ _) 7 | go_keep) (first | (go_at_call 122;refine(vk _ _).mono ?_;rintro e w3 ⟨rfl,rfl⟩) | (go_at_call 302;refine(uf _ _ _ _).mono ?_;rintro e w3 ⟨rfl,rfl⟩))
 go_wp2
 go_ret
 exact⟨rfl,ae (World.grownBy_alloc _ _ _) (aF _ _ _)⟩
end Go.Proofs.YtjmepebbcnhalaaGreat
