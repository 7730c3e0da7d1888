import Derived.Test.YtjmepebbcnhalaaGreatW0
namespace Go.Proofs.YtjmepebbcnhalaaGreat
set_option maxRecDepth 100000
set_option maxHeartbeats 4000000
open Go.RowKit
theorem bE {fn:Func} {a b c d e:Tmp} (h:fn.results=#[.tmp a,.tmp b,.tmp c,.tmp d,.tmp e]) (tmps:Array Value) (P:Program) (w:World) :
  (results fn tmps).run P w=.ok (.tuple #[tmps.getD a undef,tmps.getD b undef,tmps.getD c undef,tmps.getD d undef,tmps.getD e undef]) w:=by
 simp[results,h]
def bO (v m:Int):Value:=.tuple #[.bool (uC v),.bool (uS v m),.bool (uT v m),.bool (uM v),.bool (uN v)]
theorem dx {a b c d e:Bool} {v m:Int} (h0:a=uC v) (h1:b=uS v m) (h2:c=uT v m) (h3:d=uM v) (h4:e=uN v):Ending.returned (.tuple #[.bool a,.bool b,.bool c,.bool d,.bool e])=.returned (bO v m):=by
 rw[h0,h1,h2,h3,h4];rfl
theorem ig (m:Int):m=9∨m=10∨(¬m=9∧¬m=10):=by omega
theorem zh (v:Int) {m:Int} (h:¬m=9):uS v m=decide (v=11):=by simp[uS,h]
theorem zy (v:Int) {m:Int} (h:¬m=10):uT v m=(decide (v=12) || decide (v=13)):=by simp[uT,h]
theorem cM (v m:Int) (w:World):Calls Tryz.prog 298 #[.int .u8 v,.int .u8 m] w fun e w'=>e=.returned (bO v m)∧w'=w:=by
 rcases iv v with h | h
 ·rcases ed h with rfl | rfl | rfl | rfl | rfl | rfl | rfl | rfl | rfl | rfl | rfl | rfl | rfl | rfl | rfl | rfl | rfl | rfl | rfl
  all_goals
   rcases ig m with rfl | rfl | ⟨h9,h10⟩
   ·go_enter Tryz.func298,Tryz.ntmps298
    go_wp2
    refine bodyPost_ret (bE rfl _ _ _) rfl ?_
    exact⟨dx (by decide) (by decide) (by decide) (by decide) (by decide),rfl⟩
   ·go_enter Tryz.func298,Tryz.ntmps298
    go_wp2
    refine bodyPost_ret (bE rfl _ _ _) rfl ?_
    exact⟨dx (by decide) (by decide) (by decide) (by decide) (by decide),rfl⟩
   ·have g9:(m == 9)=false:=by simpa using h9
    have g10:(m == 10)=false:=by simpa using h10
    have H9:Hid (¬m=9):=h9
    have H10:Hid (¬m=10):=h10
    clear h9 h10
    go_enter Tryz.func298,Tryz.ntmps298
    go_wp2
    refine bodyPost_ret (bE rfl _ _ _) rfl ?_
    exact⟨dx (by decide) (by rw[zh _ H9.out];decide) (by rw[zy _ H10.out];decide) (by decide) (by decide),rfl⟩
 ·obtain⟨_,n0,n3,n4,_,hh,_,_,n1,n2⟩:=fh h
  have N0:Hid (uC v=false):=n0
  have N1:Hid (∀ w,uS v w=decide (w=9)):=n1
  have N2:Hid (∀ w,uT v w=decide (w=10)):=n2
  have N3:Hid (uM v=false):=n3
  have N4:Hid (uN v=false):=n4
  have g1:(v == 1)=false:=by simpa using (show ¬v=1 by omega)
  have g2:(v == 2)=false:=by simpa using (show ¬v=2 by omega)
  have g3:(v == 3)=false:=by simpa using (show ¬v=3 by omega)
  have g4:(v == 4)=false:=by simpa using (show ¬v=4 by omega)
  have g5:(v == 5)=false:=by simpa using (show ¬v=5 by omega)
  have g6:(v == 6)=false:=by simpa using (show ¬v=6 by omega)
  have g7:(v == 7)=false:=by simpa using (show ¬v=7 by omega)
  have g8:(v == 8)=false:=by simpa using (show ¬v=8 by omega)
  have g9:(v == 9)=false:=by simpa using (show ¬v=9 by omega)
  have g10:(v == 10)=false:=by simpa using (show ¬v=10 by omega)
  have g11:(v == 11)=false:=by simpa using (show ¬v=11 by omega)
  have g12:(v == 12)=false:=by simpa using (show ¬v=12 by omega)
  have g13:(v == 13)=false:=by simpa using (show ¬v=13 by omega)
  have g14:(v == 14)=false:=by simpa using (show ¬v=14 by omega)
  have g15:(v == 15)=false:=by simpa using (show ¬v=15 by omega)
  have g16:(v == 16)=false:=by simpa using (show ¬v=16 by omega)
  have g17:(v == 17)=false:=by simpa using (show ¬v=17 by omega)
  have g18:(v == 18)=false:=by simpa using (show ¬v=18 by omega)
  have g19:(v == 19)=false:=by simpa using (show ¬v=19 by omega)
  clear h n0 n1 n2 n3 n4 hh
  rcases ig m with rfl | rfl | ⟨h9,h10⟩
  ·go_enter Tryz.func298,Tryz.ntmps298
   go_wp2
   refine bodyPost_ret (bE rfl _ _ _) rfl ?_
   exact⟨dx N0.out.symm (N1.out 9).symm (N2.out 9).symm N3.out.symm N4.out.symm,rfl⟩
  ·go_enter Tryz.func298,Tryz.ntmps298
   go_wp2
   refine bodyPost_ret (bE rfl _ _ _) rfl ?_
   exact⟨dx N0.out.symm (N1.out 10).symm (N2.out 10).symm N3.out.symm N4.out.symm,rfl⟩
  ·have g9':(m == 9)=false:=by simpa using h9
   have g10':(m == 10)=false:=by simpa using h10
   have H9:Hid (¬m=9):=h9
   have H10:Hid (¬m=10):=h10
   clear h9 h10
   go_enter Tryz.func298,Tryz.ntmps298
   go_wp2
   refine bodyPost_ret (bE rfl _ _ _) rfl ?_
   exact⟨dx N0.out.symm ((N1.out m).trans (decide_eq_false H9.out)).symm ((N2.out m).trans (decide_eq_false H10.out)).symm N3.out.symm N4.out.symm,rfl⟩
theorem bt (v m:Int) (w:World):Calls Tryz.prog 243 #[.int .u8 v,.int .u8 m] w fun e w'=>e=.returned (bO v m)∧w'=w:=by
 rcases iv v with h | h
 ·rcases ed h with rfl | rfl | rfl | rfl | rfl | rfl | rfl | rfl | rfl | rfl | rfl | rfl | rfl | rfl | rfl | rfl | rfl | rfl | rfl
  all_goals
   rcases ig m with rfl | rfl | ⟨h9,h10⟩
   ·go_enter Tryz.func243,Tryz.ntmps243
    go_wp2_with (go_at_call 283;refine(cY _ _).mono ?_;rintro e w1 ⟨rfl,rfl⟩;simp only[hi])
    refine bodyPost_ret (bE rfl _ _ _) rfl ?_
    exact⟨dx (by decide) (by decide) (by decide) (by decide) (by decide),rfl⟩
   ·go_enter Tryz.func243,Tryz.ntmps243
    go_wp2_with (go_at_call 283;refine(cY _ _).mono ?_;rintro e w1 ⟨rfl,rfl⟩;simp only[hi])
    refine bodyPost_ret (bE rfl _ _ _) rfl ?_
    exact⟨dx (by decide) (by decide) (by decide) (by decide) (by decide),rfl⟩
   ·have g9:(m == 9)=false:=by simpa using h9
    have g10:(m == 10)=false:=by simpa using h10
    have H9:Hid (¬m=9):=h9
    have H10:Hid (¬m=10):=h10
    clear h9 h10
    go_enter Tryz.func243,Tryz.ntmps243
    go_wp2_with (go_at_call 283;refine(cY _ _).mono ?_;rintro e w1 ⟨rfl,rfl⟩;simp only[hi])
    refine bodyPost_ret (bE rfl _ _ _) rfl ?_
    exact⟨dx (by decide) (by rw[zh _ H9.out];decide) (by rw[zy _ H10.out];decide) (by decide) (by decide),rfl⟩
 ·obtain⟨_,n0,n3,n4,_,hh,_,_,n1,n2⟩:=fh h
  have N0:Hid (uC v=false):=n0
  have N1:Hid (∀ w,uS v w=decide (w=9)):=n1
  have N2:Hid (∀ w,uT v w=decide (w=10)):=n2
  have N3:Hid (uM v=false):=n3
  have N4:Hid (uN v=false):=n4
  have g1:(v == 1)=false:=by simpa using (show ¬v=1 by omega)
  have g2:(v == 2)=false:=by simpa using (show ¬v=2 by omega)
  have g3:(v == 3)=false:=by simpa using (show ¬v=3 by omega)
  have g4:(v == 4)=false:=by simpa using (show ¬v=4 by omega)
  have g5:(v == 5)=false:=by simpa using (show ¬v=5 by omega)
  have g6:(v == 6)=false:=by simpa using (show ¬v=6 by omega)
  have g7:(v == 7)=false:=by simpa using (show ¬v=7 by omega)
  have g8:(v == 8)=false:=by simpa using (show ¬v=8 by omega)
  have g9:(v == 9)=false:=by simpa using (show ¬v=9 by omega)
  have g10:(v == 10)=false:=by simpa using (show ¬v=10 by omega)
  have g11:(v == 11)=false:=by simpa using (show ¬v=11 by omega)
  have g12:(v == 12)=false:=by simpa using (show ¬v=12 by omega)
  have g13:(v == 13)=false:=by simpa using (show ¬v=13 by omega)
  have g14:(v == 14)=false:=by simpa using (show ¬v=14 by omega)
  have g15:(v == 15)=false:=by simpa using (show ¬v=15 by omega)
  have g16:(v == 16)=false:=by simpa using (show ¬v=16 by omega)
  have g17:(v == 17)=false:=by simpa using (show ¬v=17 by omega)
  have g18:(v == 18)=false:=by simpa using (show ¬v=18 by omega)
  have g19:(v == 19)=false:=by simpa using (show ¬v=19 by omega)
  clear h n0 n1 n2 n3 n4
  rcases ig m with rfl | rfl | ⟨h9,h10⟩
  ·go_enter Tryz.func243,Tryz.ntmps243
   go_wp2_with (go_at_call 283;refine(cY _ _).mono ?_;rintro e w1 ⟨rfl,rfl⟩;rw[hh])
   refine bodyPost_ret (bE rfl _ _ _) rfl ?_
   exact⟨dx N0.out.symm (N1.out 9).symm (N2.out 9).symm N3.out.symm N4.out.symm,rfl⟩
  ·go_enter Tryz.func243,Tryz.ntmps243
   go_wp2_with (go_at_call 283;refine(cY _ _).mono ?_;rintro e w1 ⟨rfl,rfl⟩;rw[hh])
   refine bodyPost_ret (bE rfl _ _ _) rfl ?_
   exact⟨dx N0.out.symm (N1.out 10).symm (N2.out 10).symm N3.out.symm N4.out.symm,rfl⟩
  ·have g9':(m == 9)=false:=by simpa using h9
   have g10':(m == 10)=false:=by simpa using h10
   have H9:Hid (¬m=9):=h9
   have H10:Hid (¬m=10):=h10
   clear h9 h10
   go_enter Tryz.func243,Tryz.ntmps243
   go_wp2_with (go_at_call 283;refine(cY _ _).mono ?_;rintro e w1 ⟨rfl,rfl⟩;rw[hh])
   refine bodyPost_ret (bE rfl _ _ _) rfl ?_
   exact⟨dx N0.out.symm ((N1.out m).trans (decide_eq_false H9.out)).symm ((N2.out m).trans (decide_eq_false H10.out)).symm N3.out.symm N4.out.symm,rfl⟩
set_option maxHeartbeats 2000000
def pv (p:Pt):Value:=.agg #[.int .u8 p.wn,.int .u8 p.vb,.int .u8 p.wm,.int .i64 p.ct,.int .u8 p.su,.int .u8 p.tr,.int .u8 p.mr,.string p.nm]
def PAt (w:World) (b:Nat) (p:Pt):Prop:=w.heap[b]?=some (.cells #[.int .u8 p.wn,.int .u8 p.vb,.int .u8 p.wm,.int .i64 p.ct,.int .u8 p.su,.int .u8 p.tr,.int .u8 p.mr,.string p.nm] 62 (0,0))
theorem PAt.keep {w w':World} {b:Nat} {p:Pt} (h:PAt w b p) (g:w.grownBy w' none):PAt w' b p:=ai g h (by simp)
theorem PAt.new (w:World) (p:Pt):PAt (w.alloc (.cells #[.int .u8 p.wn,.int .u8 p.vb,.int .u8 p.wm,.int .i64 p.ct,.int .u8 p.su,.int .u8 p.tr,.int .u8 p.mr,.string p.nm] 62)) w.heap.size p:=ak _ _ _
theorem aS {a b:Int} (h:¬a=b):(a == b)=false:=by simpa using h
theorem cP {a b:Int} (h:a=b):(a == b)=true:=by simpa using h

theorem gH (p:Pt) (w:World):Calls Tryz.prog 276 #[pv p] w fun e w'=>e=.returned (.bool (decide (p.vb=11∧p.wm=9)))∧w.grownBy w' none:=by
 unfold pv
 by_cases h:p.vb=11
 ·have hb:=cP h
  by_cases h':p.wm=9
  ·have hb':=cP h'
   rw[decide_eq_true (show p.vb=11∧p.wm=9 from ⟨h,h'⟩)]
   clear h h'
   go_enter Tryz.func276,Tryz.ntmps276
   go_wp2
   go_ret
   exact⟨rfl,World.grownBy_alloc _ _ _⟩
  ·have hb':=aS h'
   rw[decide_eq_false (show ¬(p.vb=11∧p.wm=9) from fun e=>h' e.2)]
   clear h h'
   go_enter Tryz.func276,Tryz.ntmps276
   go_wp2
   go_ret
   exact⟨rfl,World.grownBy_alloc _ _ _⟩
 ·have hb:=aS h
  rw[decide_eq_false (show ¬(p.vb=11∧p.wm=9) from fun e=>h e.1)]
  clear h
  go_enter Tryz.func276,Tryz.ntmps276
  go_wp2
  go_ret
  exact⟨rfl,World.grownBy_alloc _ _ _⟩
theorem ko (p:Pt) (w:World):Calls Tryz.prog 277 #[pv p] w fun e w'=>e=.returned (.bool (abt p.wn p.vb p.wm))∧w.grownBy w' none:=by
 unfold pv
 by_cases h:p.wm=3
 ·have hb:=cP h
  rw[show abt p.wn p.vb p.wm=decide (p.wn=1) from if_pos h]
  clear h
  by_cases h':p.wn=1
  ·have hb':=cP h'
   rw[decide_eq_true h']
   clear h'
   go_enter Tryz.func277,Tryz.ntmps277
   go_wp2
   go_ret
   exact⟨rfl,World.grownBy_alloc _ _ _⟩
  ·have hb':=aS h'
   rw[decide_eq_false h']
   clear h'
   go_enter Tryz.func277,Tryz.ntmps277
   go_wp2
   go_ret
   exact⟨rfl,World.grownBy_alloc _ _ _⟩
 ·have hb:=aS h
  by_cases h1:p.wm=1∨p.wm=2
  ·rw[show abt p.wn p.vb p.wm=abP p.vb from (if_neg h).trans (if_pos h1)]
   rcases h1 with h1 | h1
   ·have hb1:=cP h1
    clear h h1
    go_enter Tryz.func277,Tryz.ntmps277
    go_wp2_with (go_at_call 296;refine(vo _ _).mono ?_;rintro e w1 ⟨rfl,rfl⟩)
    go_ret
    exact⟨rfl,World.grownBy_alloc _ _ _⟩
   ·have hb1:=cP h1
    have hb2:(p.wm == 1)=false:=aS (by omega)
    clear h h1
    go_enter Tryz.func277,Tryz.ntmps277
    go_wp2_with (go_at_call 296;refine(vo _ _).mono ?_;rintro e w1 ⟨rfl,rfl⟩)
    go_ret
    exact⟨rfl,World.grownBy_alloc _ _ _⟩
  ·rw[show abt p.wn p.vb p.wm=true from (if_neg h).trans (if_neg h1)]
   have hb1:(p.wm == 1)=false:=aS (fun e=>h1 (Or.inl e))
   have hb2:(p.wm == 2)=false:=aS (fun e=>h1 (Or.inr e))
   clear h h1
   go_enter Tryz.func277,Tryz.ntmps277
   go_wp2
   go_ret
   exact⟨rfl,World.grownBy_alloc _ _ _⟩
theorem jP (p:Pt) (w:World):Calls Tryz.prog 278 #[pv p] w fun e w'=>e=.returned (.bool (ee p.vb p.ct))∧w.grownBy w' none:=by
 unfold pv
 by_cases h:p.ct=0
 ·have hb:=cP h
  rw[show ee p.vb p.ct=decide (lo p.vb=0) from if_pos h]
  clear h
  go_enter Tryz.func278,Tryz.ntmps278
  go_wp2_with (go_at_call 297;refine(jy _ _).mono ?_;rintro e w1 ⟨rfl,rfl⟩)
  go_ret
  exact⟨aH (by first | rfl | simp),World.grownBy_alloc _ _ _⟩
 ·have hb:=aS h
  rw[show ee p.vb p.ct=(decide (lo p.vb≤p.ct) && decide (p.ct≤hi p.vb)) from if_neg h]
  clear h
  by_cases h1:lo p.vb≤p.ct
  ·go_enter Tryz.func278,Tryz.ntmps278
   go_wp2_with (go_at_call 297;refine(jy _ _).mono ?_;rintro e w1 ⟨rfl,rfl⟩)
   go_ret
   exact⟨aH (by first | rfl | simp[h1]),World.grownBy_alloc _ _ _⟩
  ·go_enter Tryz.func278,Tryz.ntmps278
   go_wp2_with (go_at_call 297;refine(jy _ _).mono ?_;rintro e w1 ⟨rfl,rfl⟩)
   go_ret
   exact⟨aH (by simp;omega),World.grownBy_alloc _ _ _⟩
theorem bL (u:Bool) (x:Int) (g:Bool) (m:Int) (hg:g=(decide (1≤x) && decide (x≤m))) (w:World):Calls Tryz.prog 299 #[.bool u,.int .u8 x,.bool g] w fun e w'=>e=.returned (.bool (br u x m))∧w'=w:=by
 cases u with
 | true =>
  rw[show br true x m=g from hg.symm]
  clear hg
  go_enter Tryz.func299,Tryz.ntmps299
  go_wp2
  go_ret
  exact⟨rfl,rfl⟩
 | false =>
  rw[show br false x m=decide (x=0) from rfl]
  clear hg
  by_cases h:x=0
  ·subst h
   go_enter Tryz.func299,Tryz.ntmps299
   go_wp2
   go_ret
   exact⟨rfl,rfl⟩
  ·have hb:=aS h
   rw[decide_eq_false h]
   clear h
   go_enter Tryz.func299,Tryz.ntmps299
   go_wp2
   go_ret
   exact⟨rfl,rfl⟩
theorem bZ (u:Bool) (x:Int) (g:Bool) (m:Int) (hg:g=(decide (1≤x) && decide (x≤m))) (w:World):Calls Tryz.prog 300 #[.bool u,.int .u8 x,.bool g] w fun e w'=>e=.returned (.bool (br u x m))∧w'=w:=by
 cases u with
 | true =>
  rw[show br true x m=g from hg.symm]
  clear hg
  go_enter Tryz.func300,Tryz.ntmps300
  go_wp2
  go_ret
  exact⟨rfl,rfl⟩
 | false =>
  rw[show br false x m=decide (x=0) from rfl]
  clear hg
  by_cases h:x=0
  ·subst h
   go_enter Tryz.func300,Tryz.ntmps300
   go_wp2
   go_ret
   exact⟨rfl,rfl⟩
  ·have hb:=aS h
   rw[decide_eq_false h]
   clear h
   go_enter Tryz.func300,Tryz.ntmps300
   go_wp2
   go_ret
   exact⟨rfl,rfl⟩
theorem dM (u:Bool) (x:Int) (g:Bool) (m:Int) (hg:g=(decide (1≤x) && decide (x≤m))) (w:World):Calls Tryz.prog 301 #[.bool u,.int .u8 x,.bool g] w fun e w'=>e=.returned (.bool (br u x m))∧w'=w:=by
 cases u with
 | true =>
  rw[show br true x m=g from hg.symm]
  clear hg
  go_enter Tryz.func301,Tryz.ntmps301
  go_wp2
  go_ret
  exact⟨rfl,rfl⟩
 | false =>
  rw[show br false x m=decide (x=0) from rfl]
  clear hg
  by_cases h:x=0
  ·subst h
   go_enter Tryz.func301,Tryz.ntmps301
   go_wp2
   go_ret
   exact⟨rfl,rfl⟩
  ·have hb:=aS h
   rw[decide_eq_false h]
   clear h
   go_enter Tryz.func301,Tryz.ntmps301
   go_wp2
   go_ret
   exact⟨rfl,rfl⟩
def BU (u g:Bool) (s:ByteArray):Bool:=if u then g else decide (s.data.toList=[])
theorem tZ (u:Bool) (s:ByteArray) (g:Bool) (w:World):Calls Tryz.prog 302 #[.bool u,.string s,.bool g] w fun e w'=>e=.returned (.bool (BU u g s))∧w'=w:=by
 cases u with
 | true =>
  rw[show BU true g s=g from rfl]
  go_enter Tryz.func302,Tryz.ntmps302
  go_wp2
  go_ret
  exact⟨rfl,rfl⟩
 | false =>
  rw[show BU false g s=decide (s.data.toList=[]) from rfl]
  by_cases h:s.data.toList=[]
  ·have hs:s=⟨#[]⟩:=by
    rcases s with ⟨⟨l⟩⟩
    simp at h
    rw[h]
   subst hs
   go_enter Tryz.func302,Tryz.ntmps302
   go_wp2
   go_ret
   exact⟨rfl,rfl⟩
  ·have hb:(s.toList == [])=false:=by
    rw[Lib.toList_data]
    simpa using h
   have hb2:s.toList.isEmpty=false:=by
    rw[Lib.toList_data]
    simpa using h
   rw[decide_eq_false h]
   clear h
   go_enter Tryz.func302,Tryz.ntmps302
   go_wp2
   go_ret
   exact⟨rfl,rfl⟩
theorem eA (b:UInt8) (w:World):Calls Tryz.prog 185 #[.int .u8 (b.toNat:Int)] w fun e w'=>e=.returned (.bool (bB b))∧w'=w:=by
 by_cases h:97≤b.toNat
 ·have h0:(97:Int)≤(b.toNat:Int):=by omega
  rw[show bB b=decide (b.toNat≤122) by simp[bB,h]]
  by_cases h':b.toNat≤122
  ·have h1:(b.toNat:Int)≤122:=by omega
   rw[decide_eq_true h']
   clear h h'
   go_enter Tryz.func185,Tryz.ntmps185
   go_wp2
   go_ret
   exact⟨rfl,rfl⟩
  ·have h1:¬(b.toNat:Int)≤122:=by omega
   rw[decide_eq_false h']
   clear h h'
   go_enter Tryz.func185,Tryz.ntmps185
   go_wp2
   go_ret
   exact⟨rfl,rfl⟩
 ·have h0:¬(97:Int)≤(b.toNat:Int):=by omega
  rw[show bB b=false by simp[bB];omega]
  clear h
  go_enter Tryz.func185,Tryz.ntmps185
  go_wp2
  go_ret
  exact⟨rfl,rfl⟩
set_option maxHeartbeats 4000000
def okb (x:UInt8):Bool:=bB x || decide (x=45)
theorem gd (s:ByteArray) (i:Nat) (h:i<s.size):s.data.toList[i]?=some s[i]:=by
 simp[ByteArray.getElem_eq_getElem_data]
theorem gg {l:List UInt8} (h:20<l.length):aR l=false:=by
 cases l with
 | nil=>rfl
 | cons c r =>
  simp only[List.length_cons] at h
  simp[aR,show ¬r.length≤19 by omega]
theorem dX {l:List UInt8} {c:UInt8} (h:l[0]?=some c) (hc:bB c=false):aR l=false:=by
 cases l with
 | nil=>rfl
 | cons d r =>
  simp at h
  subst h
  simp[aR,hc]
theorem dZ {l:List UInt8} {i:Nat} {x:UInt8} (h:l[i]?=some x) (hx:okb x=false):aR l=false:=by
 cases l with
 | nil=>rfl
 | cons d r =>
  have hm:x∈d :: r:=List.mem_of_getElem? h
  rcases List.mem_cons.1 hm with rfl | h'
  ·have:bB x=false:=by
    simp only[okb,Bool.or_eq_false_iff] at hx
    exact hx.1
   simp[aR,this]
  ·have:(r.all fun x=>bB x || decide (x=45))=false:=by
    rw[List.all_eq_false]
    exact⟨x,h',by simpa [okb] using hx⟩
   simp[aR,this]
theorem jO {l:List UInt8} {c:UInt8} (h0:l[0]?=some c) (hc:bB c=true) (hl:l.length≤20) (ha:∀ (j:Nat) x,l[j]?=some x→okb x=true):aR l=true:=by
 cases l with
 | nil=>simp at h0
 | cons d r =>
  simp at h0
  subst h0
  simp only[List.length_cons] at hl
  have:(r.all fun x=>bB x || decide (x=45))=true:=by
   rw[List.all_eq_true]
   intro x hx
   obtain⟨j,hj,rfl⟩:=List.getElem_of_mem hx
   exact ha (j+1) _ (by simp[hj])
  simp only[aR,hc,this,Bool.and_true]
  exact decide_eq_true (by omega)
theorem tH (s:ByteArray) (w:World):Calls Tryz.prog 122 #[.string s] w fun e w'=>e=.returned (.bool (aR s.data.toList))∧w'=w:=by
 have HL:Hid (s.data.toList.length=s.size):=(Lib.size_eq s).symm
 by_cases h0:s.size=0
 ·have hb:((s.size:Int) == 0)=true:=by simp[h0]
  rw[show s.data.toList=[] from List.eq_nil_of_length_eq_zero (by rw[HL.out];exact h0)]
  clear h0
  go_enter Tryz.func122,Tryz.ntmps122
  go_wp2
  go_ret
  exact⟨rfl,rfl⟩
 ·have hb:((s.size:Int) == 0)=false:=by simp[h0]
  by_cases h1:20<s.size
  ·have hb1:(20:Int)<(s.size:Int):=by omega
   rw[gg (by rw[HL.out];exact h1)]
   clear h0 h1
   go_enter Tryz.func122,Tryz.ntmps122
   go_wp2
   go_ret
   exact⟨rfl,rfl⟩
  ·have hb1:¬(20:Int)<(s.size:Int):=by omega
   have hp:0<s.size:=by omega
   have B0:Hid (s.data.toList[0]?=some s[0]):=gd s 0 hp
   have H1:Hid (s.data.toList.length≤20):=by rw[Hid,HL.out];omega
   clear h0 h1
   cases hc:bB s[0] with
   | false =>
    rw[dX B0.out hc]
    go_enter Tryz.func122,Tryz.ntmps122
    go_wp2_with (go_at_call 185;refine(eA _ _).mono ?_;rintro e w1 ⟨rfl,rfl⟩;rw[hc])
    go_ret
    exact⟨rfl,rfl⟩
   | true =>
    have HC:Hid (bB s[0]=true):=hc
    go_enter Tryz.func122,Tryz.ntmps122
    go_wp2_with (go_at_call 185;refine(eA _ _).mono ?_;rintro e w1 ⟨rfl,hw⟩;obtain rfl:w=w1:=hw.symm;rw[hc])
    clear hc
    go_loopw [20] (fun t wr=>wr=w∧∃ i:Nat,i≤s.size∧t=.int .i64 i∧∀ j x,j<i→s.data.toList[j]?=some x→okb x=true) (fun t _=>s.size - (intOf t).toNat)
    case atStart=>exact⟨rfl,0,Nat.zero_le _,rfl,fun j x hj=>absurd hj (by omega)⟩
    case round =>
     obtain⟨rfl,i,hi,rfl,ha⟩:=hrel
     have HA:Hid (∀ j x,j<i→s.data.toList[j]?=some x→okb x=true):=ha
     clear ha
     by_cases hl:i<s.size
     ·have hl':(i:Int)<(s.size:Int):=by omega
      have BI:Hid (s.data.toList[i]?=some s[i]):=gd s i hl
      cases hc:bB s[i] with
      | true =>
       have HN:Hid (okb s[i]=true):=by simp[Hid,okb,hc]
       go_wp2_with (go_at_call 185;refine(eA _ _).mono ?_;rintro e w1 ⟨rfl,rfl⟩;rw[hc])
       go_roundw
       case rel=>exact⟨trivial,i+1,by omega,by go_num,fun j x hj hx=>by
        rcases (show j<i∨j=i from by omega) with h' | rfl
        ·exact HA.out j x h' hx
        ·rw[BI.out] at hx;cases hx;exact HN.out⟩
       case measure=>simp[intOf];omega
      | false =>
       by_cases hd:s[i]=45
       ·have hq:((s[i].toNat:Int) == 45)=true:=by simp[hd]
        have HN:Hid (okb s[i]=true):=by simp[Hid,okb,hd]
        clear hd
        go_wp2_with (go_at_call 185;refine(eA _ _).mono ?_;rintro e w1 ⟨rfl,rfl⟩;rw[hc])
        go_roundw
        case rel=>exact⟨trivial,i+1,by omega,by go_num,fun j x hj hx=>by
         rcases (show j<i∨j=i from by omega) with h' | rfl
         ·exact HA.out j x h' hx
         ·rw[BI.out] at hx;cases hx;exact HN.out⟩
        case measure=>simp[intOf];omega
       ·have hq:((s[i].toNat:Int) == 45)=false:=by
         have:¬(s[i].toNat:Int)=45:=fun e=>hd (UInt8.toNat_inj.1 (by simpa using (by omega:s[i].toNat=45)))
         simpa using this
        have HN:Hid (okb s[i]=false):=by simp[Hid,okb,hc,hd]
        clear hd
        go_wp2_with (go_at_call 185;refine(eA _ _).mono ?_;rintro e w1 ⟨rfl,rfl⟩;rw[hc])
        go_ret
        exact⟨aH (dZ BI.out HN.out).symm,rfl⟩
     ·have hl':¬(i:Int)<(s.size:Int):=by omega
      have HY:Hid (aR s.data.toList=true):=jO B0.out HC.out H1.out (fun j x hx=>HA.out j x (by
       have:=(List.getElem?_eq_some_iff.1 hx).1
       rw[HL.out] at this
       omega) hx)
      go_wp2
      go_ret
      exact⟨aH HY.out.symm,rfl⟩

theorem cW {x m:Int} (h:¬1≤x):false=(decide (1≤x) && decide (x≤m)):=by rw[decide_eq_false h];rfl
theorem cV {x m:Int} (h:1≤x):decide (x≤m)=(decide (1≤x) && decide (x≤m)):=by rw[decide_eq_true h];rfl
theorem nt (p:Pt) (w:World):Calls Tryz.prog 279 #[pv p] w fun e w'=>e=.returned (.bool (ph p))∧w.grownBy w' none:=by
 unfold pv
 rw[show ph p=(br (uS p.vb p.wm) p.su 6 && (br (uT p.vb p.wm) p.tr 8 && br (uM p.vb) p.mr 4)) from rfl]
 by_cases a1:1≤p.su
 ·cases F1:br (uS p.vb p.wm) p.su 6 with
  | false =>
   rw[Bool.false_and]
   go_enter Tryz.func279,Tryz.ntmps279
   go_wp2_with (first | (go_at_call 298;refine(cM _ _ _).mono ?_;rintro e w1 ⟨rfl,rfl⟩;simp only[bO]) | (go_at_call 299;refine(bL _ _ _ 6 (cV (by omega)) _).mono ?_;rintro e w1 ⟨rfl,rfl⟩;rw[F1]))
   go_ret
   exact⟨rfl,World.grownBy_alloc _ _ _⟩
  | true =>
   rw[Bool.true_and]
   by_cases a2:1≤p.tr
   ·cases F2:br (uT p.vb p.wm) p.tr 8 with
    | false =>
     rw[Bool.false_and]
     go_enter Tryz.func279,Tryz.ntmps279
     go_wp2_with (first | (go_at_call 298;refine(cM _ _ _).mono ?_;rintro e w1 ⟨rfl,rfl⟩;simp only[bO]) | (go_at_call 299;refine(bL _ _ _ 6 (cV (by omega)) _).mono ?_;rintro e w1 ⟨rfl,rfl⟩;rw[F1]) | (go_at_call 300;refine(bZ _ _ _ 8 (cV (by omega)) _).mono ?_;rintro e w1 ⟨rfl,rfl⟩;rw[F2]))
     go_ret
     exact⟨rfl,World.grownBy_alloc _ _ _⟩
    | true =>
     rw[Bool.true_and]
     by_cases a3:1≤p.mr
     ·go_enter Tryz.func279,Tryz.ntmps279
      go_wp2_with (first | (go_at_call 298;refine(cM _ _ _).mono ?_;rintro e w1 ⟨rfl,rfl⟩;simp only[bO]) | (go_at_call 299;refine(bL _ _ _ 6 (cV (by omega)) _).mono ?_;rintro e w1 ⟨rfl,rfl⟩;rw[F1]) | (go_at_call 300;refine(bZ _ _ _ 8 (cV (by omega)) _).mono ?_;rintro e w1 ⟨rfl,rfl⟩;rw[F2]) | (go_at_call 301;refine(dM _ _ _ 4 (cV (by omega)) _).mono ?_;rintro e w1 ⟨rfl,rfl⟩))
      go_ret
      exact⟨rfl,World.grownBy_alloc _ _ _⟩
     ·go_enter Tryz.func279,Tryz.ntmps279
      go_wp2_with (first | (go_at_call 298;refine(cM _ _ _).mono ?_;rintro e w1 ⟨rfl,rfl⟩;simp only[bO]) | (go_at_call 299;refine(bL _ _ _ 6 (cV (by omega)) _).mono ?_;rintro e w1 ⟨rfl,rfl⟩;rw[F1]) | (go_at_call 300;refine(bZ _ _ _ 8 (cV (by omega)) _).mono ?_;rintro e w1 ⟨rfl,rfl⟩;rw[F2]) | (go_at_call 301;refine(dM _ _ _ 4 (cW (by omega)) _).mono ?_;rintro e w1 ⟨rfl,rfl⟩))
      go_ret
      exact⟨rfl,World.grownBy_alloc _ _ _⟩
   ·cases F2:br (uT p.vb p.wm) p.tr 8 with
    | false =>
     rw[Bool.false_and]
     go_enter Tryz.func279,Tryz.ntmps279
     go_wp2_with (first | (go_at_call 298;refine(cM _ _ _).mono ?_;rintro e w1 ⟨rfl,rfl⟩;simp only[bO]) | (go_at_call 299;refine(bL _ _ _ 6 (cV (by omega)) _).mono ?_;rintro e w1 ⟨rfl,rfl⟩;rw[F1]) | (go_at_call 300;refine(bZ _ _ _ 8 (cW (by omega)) _).mono ?_;rintro e w1 ⟨rfl,rfl⟩;rw[F2]))
     go_ret
     exact⟨rfl,World.grownBy_alloc _ _ _⟩
    | true =>
     rw[Bool.true_and]
     by_cases a3:1≤p.mr
     ·go_enter Tryz.func279,Tryz.ntmps279
      go_wp2_with (first | (go_at_call 298;refine(cM _ _ _).mono ?_;rintro e w1 ⟨rfl,rfl⟩;simp only[bO]) | (go_at_call 299;refine(bL _ _ _ 6 (cV (by omega)) _).mono ?_;rintro e w1 ⟨rfl,rfl⟩;rw[F1]) | (go_at_call 300;refine(bZ _ _ _ 8 (cW (by omega)) _).mono ?_;rintro e w1 ⟨rfl,rfl⟩;rw[F2]) | (go_at_call 301;refine(dM _ _ _ 4 (cV (by omega)) _).mono ?_;rintro e w1 ⟨rfl,rfl⟩))
      go_ret
      exact⟨rfl,World.grownBy_alloc _ _ _⟩
     ·go_enter Tryz.func279,Tryz.ntmps279
      go_wp2_with (first | (go_at_call 298;refine(cM _ _ _).mono ?_;rintro e w1 ⟨rfl,rfl⟩;simp only[bO]) | (go_at_call 299;refine(bL _ _ _ 6 (cV (by omega)) _).mono ?_;rintro e w1 ⟨rfl,rfl⟩;rw[F1]) | (go_at_call 300;refine(bZ _ _ _ 8 (cW (by omega)) _).mono ?_;rintro e w1 ⟨rfl,rfl⟩;rw[F2]) | (go_at_call 301;refine(dM _ _ _ 4 (cW (by omega)) _).mono ?_;rintro e w1 ⟨rfl,rfl⟩))
      go_ret
      exact⟨rfl,World.grownBy_alloc _ _ _⟩
 ·cases F1:br (uS p.vb p.wm) p.su 6 with
  | false =>
   rw[Bool.false_and]
   go_enter Tryz.func279,Tryz.ntmps279
   go_wp2_with (first | (go_at_call 298;refine(cM _ _ _).mono ?_;rintro e w1 ⟨rfl,rfl⟩;simp only[bO]) | (go_at_call 299;refine(bL _ _ _ 6 (cW (by omega)) _).mono ?_;rintro e w1 ⟨rfl,rfl⟩;rw[F1]))
   go_ret
   exact⟨rfl,World.grownBy_alloc _ _ _⟩
  | true =>
   rw[Bool.true_and]
   by_cases a2:1≤p.tr
   ·cases F2:br (uT p.vb p.wm) p.tr 8 with
    | false =>
     rw[Bool.false_and]
     go_enter Tryz.func279,Tryz.ntmps279
     go_wp2_with (first | (go_at_call 298;refine(cM _ _ _).mono ?_;rintro e w1 ⟨rfl,rfl⟩;simp only[bO]) | (go_at_call 299;refine(bL _ _ _ 6 (cW (by omega)) _).mono ?_;rintro e w1 ⟨rfl,rfl⟩;rw[F1]) | (go_at_call 300;refine(bZ _ _ _ 8 (cV (by omega)) _).mono ?_;rintro e w1 ⟨rfl,rfl⟩;rw[F2]))
     go_ret
     exact⟨rfl,World.grownBy_alloc _ _ _⟩
    | true =>
     rw[Bool.true_and]
     by_cases a3:1≤p.mr
     ·go_enter Tryz.func279,Tryz.ntmps279
      go_wp2_with (first | (go_at_call 298;refine(cM _ _ _).mono ?_;rintro e w1 ⟨rfl,rfl⟩;simp only[bO]) | (go_at_call 299;refine(bL _ _ _ 6 (cW (by omega)) _).mono ?_;rintro e w1 ⟨rfl,rfl⟩;rw[F1]) | (go_at_call 300;refine(bZ _ _ _ 8 (cV (by omega)) _).mono ?_;rintro e w1 ⟨rfl,rfl⟩;rw[F2]) | (go_at_call 301;refine(dM _ _ _ 4 (cV (by omega)) _).mono ?_;rintro e w1 ⟨rfl,rfl⟩))
      go_ret
      exact⟨rfl,World.grownBy_alloc _ _ _⟩
     ·go_enter Tryz.func279,Tryz.ntmps279
      go_wp2_with (first | (go_at_call 298;refine(cM _ _ _).mono ?_;rintro e w1 ⟨rfl,rfl⟩;simp only[bO]) | (go_at_call 299;refine(bL _ _ _ 6 (cW (by omega)) _).mono ?_;rintro e w1 ⟨rfl,rfl⟩;rw[F1]) | (go_at_call 300;refine(bZ _ _ _ 8 (cV (by omega)) _).mono ?_;rintro e w1 ⟨rfl,rfl⟩;rw[F2]) | (go_at_call 301;refine(dM _ _ _ 4 (cW (by omega)) _).mono ?_;rintro e w1 ⟨rfl,rfl⟩))
      go_ret
      exact⟨rfl,World.grownBy_alloc _ _ _⟩
   ·cases F2:br (uT p.vb p.wm) p.tr 8 with
    | false =>
     rw[Bool.false_and]
     go_enter Tryz.func279,Tryz.ntmps279
     go_wp2_with (first | (go_at_call 298;refine(cM _ _ _).mono ?_;rintro e w1 ⟨rfl,rfl⟩;simp only[bO]) | (go_at_call 299;refine(bL _ _ _ 6 (cW (by omega)) _).mono ?_;rintro e w1 ⟨rfl,rfl⟩;rw[F1]) | (go_at_call 300;refine(bZ _ _ _ 8 (cW (by omega)) _).mono ?_;rintro e w1 ⟨rfl,rfl⟩;rw[F2]))
     go_ret
     exact⟨rfl,World.grownBy_alloc _ _ _⟩
    | true =>
     rw[Bool.true_and]
     by_cases a3:1≤p.mr
     ·go_enter Tryz.func279,Tryz.ntmps279
      go_wp2_with (first | (go_at_call 298;refine(cM _ _ _).mono ?_;rintro e w1 ⟨rfl,rfl⟩;simp only[bO]) | (go_at_call 299;refine(bL _ _ _ 6 (cW (by omega)) _).mono ?_;rintro e w1 ⟨rfl,rfl⟩;rw[F1]) | (go_at_call 300;refine(bZ _ _ _ 8 (cW (by omega)) _).mono ?_;rintro e w1 ⟨rfl,rfl⟩;rw[F2]) | (go_at_call 301;refine(dM _ _ _ 4 (cV (by omega)) _).mono ?_;rintro e w1 ⟨rfl,rfl⟩))
      go_ret
      exact⟨rfl,World.grownBy_alloc _ _ _⟩
     ·go_enter Tryz.func279,Tryz.ntmps279
      go_wp2_with (first | (go_at_call 298;refine(cM _ _ _).mono ?_;rintro e w1 ⟨rfl,rfl⟩;simp only[bO]) | (go_at_call 299;refine(bL _ _ _ 6 (cW (by omega)) _).mono ?_;rintro e w1 ⟨rfl,rfl⟩;rw[F1]) | (go_at_call 300;refine(bZ _ _ _ 8 (cW (by omega)) _).mono ?_;rintro e w1 ⟨rfl,rfl⟩;rw[F2]) | (go_at_call 301;refine(dM _ _ _ 4 (cW (by omega)) _).mono ?_;rintro e w1 ⟨rfl,rfl⟩))
      go_ret
      exact⟨rfl,World.grownBy_alloc _ _ _⟩
theorem rJ (p:Pt) (w:World):Calls Tryz.prog 280 #[pv p] w fun e w'=>e=.returned (.bool (nC p))∧w.grownBy w' none:=by
 unfold pv
 go_enter Tryz.func280,Tryz.ntmps280
 go_wp2_with (go_at_call 298;refine(cM _ _ _).mono ?_;rintro e w1 ⟨rfl,rfl⟩;simp only[bO])
 go_region_held3 (fun w'=>w'.cell? ⟨w.heap.size,7,none⟩=some (.string p.nm)) (first | exact ae (ak _ _ _) 7 | go_keep) (first | (go_at_call 122;refine(tH _ _).mono ?_;rintro e w3 ⟨rfl,rfl⟩) | (go_at_call 302;refine(tZ _ _ _ _).mono ?_;rintro e w3 ⟨rfl,rfl⟩))
 go_wp2
 go_ret
 exact⟨rfl,aa (World.grownBy_alloc _ _ _) (aD _ _ _)⟩
end Go.Proofs.YtjmepebbcnhalaaGreat
