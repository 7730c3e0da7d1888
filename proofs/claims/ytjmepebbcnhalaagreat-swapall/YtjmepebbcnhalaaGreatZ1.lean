import Derived.Test.YtjmepebbcnhalaaGreatZ0
namespace Go.Proofs.YtjmepebbcnhalaaGreat
open Tryz
set_option maxRecDepth 100000
set_option maxHeartbeats 4000000
open Go.RowKit
variable {w w':World} {b i:Nat} {a:Int}
theorem ch {fn:Func} {a b c d e:Tmp} (h:fn.results=#[.tmp a,.tmp b,.tmp c,.tmp d,.tmp e]) (tmps:Array Value) (P:Program) (w:World) :
  (results fn tmps).run P w=.ok (.tuple #[tmps.getD a undef,tmps.getD b undef,tmps.getD c undef,tmps.getD d undef,tmps.getD e undef]) w:=by
 simp[results,h]
def cE (v m:Int):Value:=.tuple #[.bool (uC v),.bool (uS v m),.bool (uT v m),.bool (uM v),.bool (uN v)]
theorem dP {a b c d e:Bool} {v m:Int} (h0:a=uC v) (h1:b=uS v m) (h2:c=uT v m) (h3:d=uM v) (h4:e=uN v):Ending.returned (.tuple #[.bool a,.bool b,.bool c,.bool d,.bool e])=.returned (cE v m):=by
 rw[h0,h1,h2,h3,h4];rfl
theorem j9 (m:Int):m=9∨m=10∨(¬m=9∧¬m=10):=by omega
theorem Bq (v:Int) {m:Int} (h:¬m=9):uS v m=decide (v=11):=by simp[uS,h]
theorem Dp (v:Int) {m:Int} (h:¬m=10):uT v m=(decide (v=12) || decide (v=13)):=by simp[uT,h]
theorem du (v m:Int) (w:World):Calls prog 298 #[.int .u8 v,.int .u8 m] w fun e w'=>e=.returned (cE v m)∧w'=w:=by
 rcases iY v with h | h
 ·rcases fh h with rfl | rfl | rfl | rfl | rfl | rfl | rfl | rfl | rfl | rfl | rfl | rfl | rfl | rfl | rfl | rfl | rfl | rfl | rfl
  all_goals
   rcases j9 m with rfl | rfl | ⟨h9,h10⟩
   ·go_enter func298,ntmps298;go_wp2;refine bodyPost_ret (ch rfl _ _ _) rfl ?_;exact⟨dP (by decide) (by decide) (by decide) (by decide) (by decide),rfl⟩
   ·go_enter func298,ntmps298;go_wp2;refine bodyPost_ret (ch rfl _ _ _) rfl ?_;exact⟨dP (by decide) (by decide) (by decide) (by decide) (by decide),rfl⟩
   ·have g9:(m == 9)=false:=(by simpa using h9);have g10:(m == 10)=false:=(by simpa using h10);have H9:QH (¬m=9):=h9;have H10:QH (¬m=10):=h10;clear h9 h10;go_enter func298,ntmps298;go_wp2;refine bodyPost_ret (ch rfl _ _ _) rfl ?_;exact⟨dP (by decide) (by rw[Bq _ H9.o];decide) (by rw[Dp _ H10.o];decide) (by decide) (by decide),rfl⟩
 ·obtain⟨_,n0,n3,n4,_,hh,_,_,n1,n2⟩:=fS h;have N0:QH (uC v=false):=n0;have N1:QH (∀ w,uS v w=decide (w=9)):=n1;have N2:QH (∀ w,uT v w=decide (w=10)):=n2;have N3:QH (uM v=false):=n3;have N4:QH (uN v=false):=n4;have g1:(v == 1)=false:=QF (by omega);have g2:(v == 2)=false:=QF (by omega);have g3:(v == 3)=false:=QF (by omega);have g4:(v == 4)=false:=QF (by omega);have g5:(v == 5)=false:=QF (by omega);have g6:(v == 6)=false:=QF (by omega);have g7:(v == 7)=false:=QF (by omega);have g8:(v == 8)=false:=QF (by omega);have g9:(v == 9)=false:=QF (by omega);have g10:(v == 10)=false:=QF (by omega);have g11:(v == 11)=false:=QF (by omega);have g12:(v == 12)=false:=QF (by omega);have g13:(v == 13)=false:=QF (by omega);have g14:(v == 14)=false:=QF (by omega);have g15:(v == 15)=false:=QF (by omega);have g16:(v == 16)=false:=QF (by omega);have g17:(v == 17)=false:=QF (by omega);have g18:(v == 18)=false:=QF (by omega);have g19:(v == 19)=false:=QF (by omega);clear h n0 n1 n2 n3 n4 hh
  rcases j9 m with rfl | rfl | ⟨h9,h10⟩
  ·go_enter func298,ntmps298;go_wp2;refine bodyPost_ret (ch rfl _ _ _) rfl ?_;exact⟨dP N0.o.symm (N1.o 9).symm (N2.o 9).symm N3.o.symm N4.o.symm,rfl⟩
  ·go_enter func298,ntmps298;go_wp2;refine bodyPost_ret (ch rfl _ _ _) rfl ?_;exact⟨dP N0.o.symm (N1.o 10).symm (N2.o 10).symm N3.o.symm N4.o.symm,rfl⟩
  ·have g9':(m == 9)=false:=(by simpa using h9);have g10':(m == 10)=false:=(by simpa using h10);have H9:QH (¬m=9):=h9;have H10:QH (¬m=10):=h10;clear h9 h10;go_enter func298,ntmps298;go_wp2;refine bodyPost_ret (ch rfl _ _ _) rfl ?_;exact⟨dP N0.o.symm ((N1.o m).trans (Qx H9.o)).symm ((N2.o m).trans (Qx H10.o)).symm N3.o.symm N4.o.symm,rfl⟩
theorem bM (v m:Int) (w:World):Calls prog 243 #[.int .u8 v,.int .u8 m] w fun e w'=>e=.returned (cE v m)∧w'=w:=by
 rcases iY v with h | h
 ·rcases fh h with rfl | rfl | rfl | rfl | rfl | rfl | rfl | rfl | rfl | rfl | rfl | rfl | rfl | rfl | rfl | rfl | rfl | rfl | rfl
  all_goals
   rcases j9 m with rfl | rfl | ⟨h9,h10⟩
   ·go_enter func243,ntmps243;go_wp2_with (go_at_call 283;refine(dC _ _).mono ?_;rintro e w1 ⟨rfl,rfl⟩;simp only[hi])
    refine bodyPost_ret (ch rfl _ _ _) rfl ?_;exact⟨dP (by decide) (by decide) (by decide) (by decide) (by decide),rfl⟩
   ·go_enter func243,ntmps243;go_wp2_with (go_at_call 283;refine(dC _ _).mono ?_;rintro e w1 ⟨rfl,rfl⟩;simp only[hi])
    refine bodyPost_ret (ch rfl _ _ _) rfl ?_;exact⟨dP (by decide) (by decide) (by decide) (by decide) (by decide),rfl⟩
   ·have g9:(m == 9)=false:=(by simpa using h9);have g10:(m == 10)=false:=(by simpa using h10);have H9:QH (¬m=9):=h9;have H10:QH (¬m=10):=h10;clear h9 h10;go_enter func243,ntmps243;go_wp2_with (go_at_call 283;refine(dC _ _).mono ?_;rintro e w1 ⟨rfl,rfl⟩;simp only[hi])
    refine bodyPost_ret (ch rfl _ _ _) rfl ?_;exact⟨dP (by decide) (by rw[Bq _ H9.o];decide) (by rw[Dp _ H10.o];decide) (by decide) (by decide),rfl⟩
 ·obtain⟨_,n0,n3,n4,_,hh,_,_,n1,n2⟩:=fS h;have N0:QH (uC v=false):=n0;have N1:QH (∀ w,uS v w=decide (w=9)):=n1;have N2:QH (∀ w,uT v w=decide (w=10)):=n2;have N3:QH (uM v=false):=n3;have N4:QH (uN v=false):=n4;have g1:(v == 1)=false:=QF (by omega);have g2:(v == 2)=false:=QF (by omega);have g3:(v == 3)=false:=QF (by omega);have g4:(v == 4)=false:=QF (by omega);have g5:(v == 5)=false:=QF (by omega);have g6:(v == 6)=false:=QF (by omega);have g7:(v == 7)=false:=QF (by omega);have g8:(v == 8)=false:=QF (by omega);have g9:(v == 9)=false:=QF (by omega);have g10:(v == 10)=false:=QF (by omega);have g11:(v == 11)=false:=QF (by omega);have g12:(v == 12)=false:=QF (by omega);have g13:(v == 13)=false:=QF (by omega);have g14:(v == 14)=false:=QF (by omega);have g15:(v == 15)=false:=QF (by omega);have g16:(v == 16)=false:=QF (by omega);have g17:(v == 17)=false:=QF (by omega);have g18:(v == 18)=false:=QF (by omega);have g19:(v == 19)=false:=QF (by omega);clear h n0 n1 n2 n3 n4
  rcases j9 m with rfl | rfl | ⟨h9,h10⟩
  ·go_enter func243,ntmps243;go_wp2_with (go_at_call 283;refine(dC _ _).mono ?_;rintro e w1 ⟨rfl,rfl⟩;rw[hh])
   refine bodyPost_ret (ch rfl _ _ _) rfl ?_;exact⟨dP N0.o.symm (N1.o 9).symm (N2.o 9).symm N3.o.symm N4.o.symm,rfl⟩
  ·go_enter func243,ntmps243;go_wp2_with (go_at_call 283;refine(dC _ _).mono ?_;rintro e w1 ⟨rfl,rfl⟩;rw[hh])
   refine bodyPost_ret (ch rfl _ _ _) rfl ?_;exact⟨dP N0.o.symm (N1.o 10).symm (N2.o 10).symm N3.o.symm N4.o.symm,rfl⟩
  ·have g9':(m == 9)=false:=(by simpa using h9);have g10':(m == 10)=false:=(by simpa using h10);have H9:QH (¬m=9):=h9;have H10:QH (¬m=10):=h10;clear h9 h10;go_enter func243,ntmps243;go_wp2_with (go_at_call 283;refine(dC _ _).mono ?_;rintro e w1 ⟨rfl,rfl⟩;rw[hh])
   refine bodyPost_ret (ch rfl _ _ _) rfl ?_;exact⟨dP N0.o.symm ((N1.o m).trans (Qx H9.o)).symm ((N2.o m).trans (Qx H10.o)).symm N3.o.symm N4.o.symm,rfl⟩
set_option maxHeartbeats 2000000
def pv (p:Pt):Value:=.agg #[.int .u8 p.wn,.int .u8 p.vb,.int .u8 p.wm,.int .i64 p.ct,.int .u8 p.su,.int .u8 p.tr,.int .u8 p.mr,.string p.nm]
def PAt (w:World) (b:Nat) (p:Pt):Prop:=w.heap[b]?=some (.cells #[.int .u8 p.wn,.int .u8 p.vb,.int .u8 p.wm,.int .i64 p.ct,.int .u8 p.su,.int .u8 p.tr,.int .u8 p.mr,.string p.nm] 62 (0,0))
theorem PAt.keep {p:Pt} (h:PAt w b p) (g:w.grownBy w' none):PAt w' b p:=ag g h (by simp)
theorem PAt.new (w:World) (p:Pt):PAt (w.alloc (.cells #[.int .u8 p.wn,.int .u8 p.vb,.int .u8 p.wm,.int .i64 p.ct,.int .u8 p.su,.int .u8 p.tr,.int .u8 p.mr,.string p.nm] 62)) w.heap.size p:=aj _ _ _
theorem aW {b:Int} (h:¬a=b):(a == b)=false:=by simpa using h
theorem dv {b:Int} (h:a=b):(a == b)=true:=by simpa using h

theorem iu (p:Pt) (w:World):Calls prog 276 #[pv p] w fun e w'=>e=.returned (.bool (decide (p.vb=11∧p.wm=9)))∧w.grownBy w' none:=by
 unfold pv;by_cases h:p.vb=11
 ·have hb:=dv h;by_cases h':p.wm=9
  ·have hb':=dv h';rw[Qy (show p.vb=11∧p.wm=9 from ⟨h,h'⟩)];clear h h';go_enter func276,ntmps276;go_wp2;go_ret;exact⟨rfl,Qa0 _ _ _⟩
  ·have hb':=aW h';rw[Qx (show ¬(p.vb=11∧p.wm=9) from fun e=>h' e.2)];clear h h';go_enter func276,ntmps276;go_wp2;go_ret;exact⟨rfl,Qa0 _ _ _⟩
 ·have hb:=aW h;rw[Qx (show ¬(p.vb=11∧p.wm=9) from fun e=>h e.1)];clear h;go_enter func276,ntmps276;go_wp2;go_ret;exact⟨rfl,Qa0 _ _ _⟩
theorem kz (p:Pt) (w:World):Calls prog 277 #[pv p] w fun e w'=>e=.returned (.bool (abt p.wn p.vb p.wm))∧w.grownBy w' none:=by
 unfold pv;by_cases h:p.wm=3
 ·have hb:=dv h;rw[show abt p.wn p.vb p.wm=decide (p.wn=1) from if_pos h];clear h;by_cases h':p.wn=1
  ·have hb':=dv h';rw[Qy h'];clear h';go_enter func277,ntmps277;go_wp2;go_ret;exact⟨rfl,Qa0 _ _ _⟩
  ·have hb':=aW h';rw[Qx h'];clear h';go_enter func277,ntmps277;go_wp2;go_ret;exact⟨rfl,Qa0 _ _ _⟩
 ·have hb:=aW h;by_cases h1:p.wm=1∨p.wm=2
  ·rw[show abt p.wn p.vb p.wm=abP p.vb from (if_neg h).trans (if_pos h1)]
   rcases h1 with h1 | h1
   ·have hb1:=dv h1;clear h h1;go_enter func277,ntmps277;go_wp2_with (go_at_call 296;refine(yI _ _).mono ?_;rintro e w1 ⟨rfl,rfl⟩)
    go_ret;exact⟨rfl,Qa0 _ _ _⟩
   ·have hb1:=dv h1;have hb2:(p.wm == 1)=false:=aW (by omega);clear h h1;go_enter func277,ntmps277;go_wp2_with (go_at_call 296;refine(yI _ _).mono ?_;rintro e w1 ⟨rfl,rfl⟩)
    go_ret;exact⟨rfl,Qa0 _ _ _⟩
  ·rw[show abt p.wn p.vb p.wm=true from (if_neg h).trans (if_neg h1)];have hb1:(p.wm == 1)=false:=aW (fun e=>h1 (Or.inl e));have hb2:(p.wm == 2)=false:=aW (fun e=>h1 (Or.inr e));clear h h1;go_enter func277,ntmps277;go_wp2;go_ret;exact⟨rfl,Qa0 _ _ _⟩
theorem kU (p:Pt) (w:World):Calls prog 278 #[pv p] w fun e w'=>e=.returned (.bool (eI p.vb p.ct))∧w.grownBy w' none:=by
 unfold pv;by_cases h:p.ct=0
 ·have hb:=dv h;rw[show eI p.vb p.ct=decide (lo p.vb=0) from if_pos h];clear h;go_enter func278,ntmps278;go_wp2_with (go_at_call 297;refine(jT _ _).mono ?_;rintro e w1 ⟨rfl,rfl⟩)
  go_ret;exact⟨aL (by first | rfl | simp),Qa0 _ _ _⟩
 ·have hb:=aW h;rw[show eI p.vb p.ct=(decide (lo p.vb≤p.ct) && decide (p.ct≤hi p.vb)) from if_neg h];clear h;by_cases h1:lo p.vb≤p.ct
  ·go_enter func278,ntmps278;go_wp2_with (go_at_call 297;refine(jT _ _).mono ?_;rintro e w1 ⟨rfl,rfl⟩)
   go_ret;exact⟨aL (by first | rfl | simp[h1]),Qa0 _ _ _⟩
  ·go_enter func278,ntmps278;go_wp2_with (go_at_call 297;refine(jT _ _).mono ?_;rintro e w1 ⟨rfl,rfl⟩)
   go_ret;exact⟨aL (by simp;omega),Qa0 _ _ _⟩
theorem cm (u:Bool) (x:Int) (g:Bool) (m:Int) (hg:g=(decide (1≤x) && decide (x≤m))) (w:World):Calls prog 299 #[.bool u,.int .u8 x,.bool g] w fun e w'=>e=.returned (.bool (bH u x m))∧w'=w:=by
 cases u with
 | true =>
  rw[show bH true x m=g from hg.symm];clear hg;go_enter func299,ntmps299;go_wp2;go_ret;exact⟨rfl,rfl⟩
 | false =>
  rw[show bH false x m=decide (x=0) from rfl];clear hg;by_cases h:x=0
  ·subst h;go_enter func299,ntmps299;go_wp2;go_ret;exact⟨rfl,rfl⟩
  ·have hb:=aW h;rw[Qx h];clear h;go_enter func299,ntmps299;go_wp2;go_ret;exact⟨rfl,rfl⟩
theorem de (u:Bool) (x:Int) (g:Bool) (m:Int) (hg:g=(decide (1≤x) && decide (x≤m))) (w:World):Calls prog 300 #[.bool u,.int .u8 x,.bool g] w fun e w'=>e=.returned (.bool (bH u x m))∧w'=w:=by
 cases u with
 | true =>
  rw[show bH true x m=g from hg.symm];clear hg;go_enter func300,ntmps300;go_wp2;go_ret;exact⟨rfl,rfl⟩
 | false =>
  rw[show bH false x m=decide (x=0) from rfl];clear hg;by_cases h:x=0
  ·subst h;go_enter func300,ntmps300;go_wp2;go_ret;exact⟨rfl,rfl⟩
  ·have hb:=aW h;rw[Qx h];clear h;go_enter func300,ntmps300;go_wp2;go_ret;exact⟨rfl,rfl⟩
theorem eo (u:Bool) (x:Int) (g:Bool) (m:Int) (hg:g=(decide (1≤x) && decide (x≤m))) (w:World):Calls prog 301 #[.bool u,.int .u8 x,.bool g] w fun e w'=>e=.returned (.bool (bH u x m))∧w'=w:=by
 cases u with
 | true =>
  rw[show bH true x m=g from hg.symm];clear hg;go_enter func301,ntmps301;go_wp2;go_ret;exact⟨rfl,rfl⟩
 | false =>
  rw[show bH false x m=decide (x=0) from rfl];clear hg;by_cases h:x=0
  ·subst h;go_enter func301,ntmps301;go_wp2;go_ret;exact⟨rfl,rfl⟩
  ·have hb:=aW h;rw[Qx h];clear h;go_enter func301,ntmps301;go_wp2;go_ret;exact⟨rfl,rfl⟩
def I1 (u g:Bool) (s:ByteArray):Bool:=if u then g else decide (s.data.toList=[])
theorem xJ (u:Bool) (s:ByteArray) (g:Bool) (w:World):Calls prog 302 #[.bool u,.string s,.bool g] w fun e w'=>e=.returned (.bool (I1 u g s))∧w'=w:=by
 cases u with
 | true =>
  rw[show I1 true g s=g from rfl];go_enter func302,ntmps302;go_wp2;go_ret;exact⟨rfl,rfl⟩
 | false =>
  rw[show I1 false g s=decide (s.data.toList=[]) from rfl];by_cases h:s.data.toList=[]
  ·have hs:s=⟨#[]⟩:=by
    rcases s with ⟨⟨l⟩⟩
    simp at h;rw[h]
   subst hs;go_enter func302,ntmps302;go_wp2;go_ret;exact⟨rfl,rfl⟩
  ·have hb:(s.toList == [])=false:=by
    rw[Lib.toList_data];simpa using h
   have hb2:s.toList.isEmpty=false:=by
    rw[Lib.toList_data];simpa using h
   rw[Qx h];clear h;go_enter func302,ntmps302;go_wp2;go_ret;exact⟨rfl,rfl⟩
theorem fB (b:UInt8) (w:World):Calls prog 185 #[.int .u8 (b.toNat:Int)] w fun e w'=>e=.returned (.bool (bU b))∧w'=w:=by
 by_cases h:97≤b.toNat
 ·have h0:(97:Int)≤(b.toNat:Int):=by omega
  rw[show bU b=decide (b.toNat≤122) by simp[bU,h]];by_cases h':b.toNat≤122
  ·have h1:(b.toNat:Int)≤122:=(by omega);rw[Qy h'];clear h h';go_enter func185,ntmps185;go_wp2;go_ret;exact⟨rfl,rfl⟩
  ·have h1:¬(b.toNat:Int)≤122:=(by omega);rw[Qx h'];clear h h';go_enter func185,ntmps185;go_wp2;go_ret;exact⟨rfl,rfl⟩
 ·have h0:¬(97:Int)≤(b.toNat:Int):=by omega
  rw[show bU b=false by simp[bU];omega];clear h;go_enter func185,ntmps185;go_wp2;go_ret;exact⟨rfl,rfl⟩
set_option maxHeartbeats 4000000
def okb (x:UInt8):Bool:=bU x || decide (x=45)
theorem ig (s:ByteArray) (i:Nat) (h:i<s.size):s.data.toList[i]?=some s[i]:=by
 simp[ByteArray.getElem_eq_getElem_data]
theorem ij {l:List UInt8} (h:20<l.length):aS l=false:=by
 cases l with
 | nil=>rfl
 | cons c r =>
  simp only[List.length_cons] at h;simp[aS,show ¬r.length≤19 by omega]
theorem eX {l:List UInt8} {c:UInt8} (h:l[0]?=some c) (hc:bU c=false):aS l=false:=by
 cases l with
 | nil=>rfl
 | cons d r =>
  simp at h;subst h;simp[aS,hc]
theorem fj {l:List UInt8} {x:UInt8} (h:l[i]?=some x) (hx:okb x=false):aS l=false:=by
 cases l with
 | nil=>rfl
 | cons d r =>
  have hm:x∈d :: r:=Qm h
  rcases Qbo.1 hm with rfl | h'
  ·have:bU x=false:=by
    simp only[okb,Bool.or_eq_false_iff] at hx;exact hx.1
   simp[aS,this]
  ·have:(r.all fun x=>bU x || decide (x=45))=false:=by
    rw[List.all_eq_false];exact⟨x,h',by simpa [okb] using hx⟩
   simp[aS,this]
theorem l4 {l:List UInt8} {c:UInt8} (h0:l[0]?=some c) (hc:bU c=true) (hl:l.length≤20) (ha:∀ (j:Nat) x,l[j]?=some x→okb x=true):aS l=true:=by
 cases l with
 | nil=>simp at h0
 | cons d r =>
  simp at h0;subst h0;simp only[List.length_cons] at hl
  have:(r.all fun x=>bU x || decide (x=45))=true:=by
   rw[Qch];intro x hx;obtain⟨j,hj,rfl⟩:=Qbi hx;exact ha (j+1) _ (by simp[hj])
  simp only[aS,hc,this,Bool.and_true];exact Qy (by omega)
theorem wD (s:ByteArray) (w:World):Calls prog 122 #[.string s] w fun e w'=>e=.returned (.bool (aS s.data.toList))∧w'=w:=by
 have HL:QH (s.data.toList.length=s.size):=(Lib.size_eq s).symm;by_cases h0:s.size=0
 ·have hb:((s.size:Int) == 0)=true:=by simp[h0]
  rw[show s.data.toList=[] from Qay (by rw[HL.o];exact h0)];clear h0;go_enter func122,ntmps122;go_wp2;go_ret;exact⟨rfl,rfl⟩
 ·have hb:((s.size:Int) == 0)=false:=by simp[h0]
  by_cases h1:20<s.size
  ·have hb1:(20:Int)<(s.size:Int):=(by omega);rw[ij (by rw[HL.o];exact h1)];clear h0 h1;go_enter func122,ntmps122;go_wp2;go_ret;exact⟨rfl,rfl⟩
  ·have hb1:¬(20:Int)<(s.size:Int):=(by omega);have hp:0<s.size:=(by omega);have B0:QH (s.data.toList[0]?=some s[0]):=ig s 0 hp;have H1:QH (s.data.toList.length≤20):=(by rw[QH,HL.o];omega);clear h0 h1;cases hc:bU s[0] with
   | false =>
    rw[eX B0.o hc];go_enter func122,ntmps122;go_wp2_with (go_at_call 185;refine(fB _ _).mono ?_;rintro e w1 ⟨rfl,rfl⟩;rw[hc])
    go_ret;exact⟨rfl,rfl⟩
   | true =>
    have HC:QH (bU s[0]=true):=hc;go_enter func122,ntmps122;go_wp2_with (go_at_call 185;refine(fB _ _).mono ?_;rintro e w1 ⟨rfl,hw⟩;obtain rfl:w=w1:=hw.symm;rw[hc])
    clear hc;go_loopw [20] (fun t wr=>wr=w∧∃ i:Nat,i≤s.size∧t=.int .i64 i∧∀ j x,j<i→s.data.toList[j]?=some x→okb x=true) (fun t _=>s.size - (intOf t).toNat)
    case atStart=>exact⟨rfl,0,Q0 _,rfl,fun j x hj=>absurd hj (by omega)⟩
    case round =>
     obtain⟨rfl,i,hi,rfl,ha⟩:=hrel;have HA:QH (∀ j x,j<i→s.data.toList[j]?=some x→okb x=true):=ha;clear ha;by_cases hl:i<s.size
     ·have hl':(i:Int)<(s.size:Int):=(by omega);have BI:QH (s.data.toList[i]?=some s[i]):=ig s i hl;cases hc:bU s[i] with
      | true =>
       have HN:QH (okb s[i]=true):=(by simp[QH,okb,hc]);go_wp2_with (go_at_call 185;refine(fB _ _).mono ?_;rintro e w1 ⟨rfl,rfl⟩;rw[hc])
       go_roundw
       case rel=>exact⟨trivial,i+1,by omega,by go_num,fun j x hj hx=>by
        rcases (show j<i∨j=i from by omega) with h' | rfl
        ·exact HA.o j x h' hx
        ·rw[BI.o] at hx;cases hx;exact HN.o⟩
       case measure=>simp[intOf];omega
      | false =>
       by_cases hd:s[i]=45
       ·have hq:((s[i].toNat:Int) == 45)=true:=(by simp[hd]);have HN:QH (okb s[i]=true):=(by simp[QH,okb,hd]);clear hd;go_wp2_with (go_at_call 185;refine(fB _ _).mono ?_;rintro e w1 ⟨rfl,rfl⟩;rw[hc])
        go_roundw
        case rel=>exact⟨trivial,i+1,by omega,by go_num,fun j x hj hx=>by
         rcases (show j<i∨j=i from by omega) with h' | rfl
         ·exact HA.o j x h' hx
         ·rw[BI.o] at hx;cases hx;exact HN.o⟩
        case measure=>simp[intOf];omega
       ·have hq:((s[i].toNat:Int) == 45)=false:=by
         have:¬(s[i].toNat:Int)=45:=fun e=>hd (UInt8.toNat_inj.1 (by simpa using (by omega:s[i].toNat=45)));simpa using this
        have HN:QH (okb s[i]=false):=(by simp[QH,okb,hc,hd]);clear hd;go_wp2_with (go_at_call 185;refine(fB _ _).mono ?_;rintro e w1 ⟨rfl,rfl⟩;rw[hc])
        go_ret;exact⟨aL (fj BI.o HN.o).symm,rfl⟩
     ·have hl':¬(i:Int)<(s.size:Int):=by omega
      have HY:QH (aS s.data.toList=true):=l4 B0.o HC.o H1.o (fun j x hx=>HA.o j x (by
       have:=(Qh hx).1;rw[HL.o] at this
       omega) hx)
      go_wp2;go_ret;exact⟨aL HY.o.symm,rfl⟩

theorem dx {x m:Int} (h:¬1≤x):false=(decide (1≤x) && decide (x≤m)):=by rw[Qx h];rfl
theorem dz {x m:Int} (h:1≤x):decide (x≤m)=(decide (1≤x) && decide (x≤m)):=by rw[Qy h];rfl
theorem oH (p:Pt) (w:World):Calls prog 279 #[pv p] w fun e w'=>e=.returned (.bool (rR p))∧w.grownBy w' none:=by
 unfold pv;rw[show rR p=(bH (uS p.vb p.wm) p.su 6 && (bH (uT p.vb p.wm) p.tr 8 && bH (uM p.vb) p.mr 4)) from rfl];by_cases a1:1≤p.su
 ·cases F1:bH (uS p.vb p.wm) p.su 6 with
  | false =>
   rw[Qai];go_enter func279,ntmps279;go_wp2_with (first | (go_at_call 298;refine(du _ _ _).mono ?_;rintro e w1 ⟨rfl,rfl⟩;simp only[cE]) | (go_at_call 299;refine(cm _ _ _ 6 (dz (by omega)) _).mono ?_;rintro e w1 ⟨rfl,rfl⟩;rw[F1]))
   go_ret;exact⟨rfl,Qa0 _ _ _⟩
  | true =>
   rw[Qah];by_cases a2:1≤p.tr
   ·cases F2:bH (uT p.vb p.wm) p.tr 8 with
    | false =>
     rw[Qai];go_enter func279,ntmps279;go_wp2_with (first | (go_at_call 298;refine(du _ _ _).mono ?_;rintro e w1 ⟨rfl,rfl⟩;simp only[cE]) | (go_at_call 299;refine(cm _ _ _ 6 (dz (by omega)) _).mono ?_;rintro e w1 ⟨rfl,rfl⟩;rw[F1]) | (go_at_call 300;refine(de _ _ _ 8 (dz (by omega)) _).mono ?_;rintro e w1 ⟨rfl,rfl⟩;rw[F2]))
     go_ret;exact⟨rfl,Qa0 _ _ _⟩
    | true =>
     rw[Qah];by_cases a3:1≤p.mr
     ·go_enter func279,ntmps279;go_wp2_with (first | (go_at_call 298;refine(du _ _ _).mono ?_;rintro e w1 ⟨rfl,rfl⟩;simp only[cE]) | (go_at_call 299;refine(cm _ _ _ 6 (dz (by omega)) _).mono ?_;rintro e w1 ⟨rfl,rfl⟩;rw[F1]) | (go_at_call 300;refine(de _ _ _ 8 (dz (by omega)) _).mono ?_;rintro e w1 ⟨rfl,rfl⟩;rw[F2]) | (go_at_call 301;refine(eo _ _ _ 4 (dz (by omega)) _).mono ?_;rintro e w1 ⟨rfl,rfl⟩))
      go_ret;exact⟨rfl,Qa0 _ _ _⟩
     ·go_enter func279,ntmps279;go_wp2_with (first | (go_at_call 298;refine(du _ _ _).mono ?_;rintro e w1 ⟨rfl,rfl⟩;simp only[cE]) | (go_at_call 299;refine(cm _ _ _ 6 (dz (by omega)) _).mono ?_;rintro e w1 ⟨rfl,rfl⟩;rw[F1]) | (go_at_call 300;refine(de _ _ _ 8 (dz (by omega)) _).mono ?_;rintro e w1 ⟨rfl,rfl⟩;rw[F2]) | (go_at_call 301;refine(eo _ _ _ 4 (dx (by omega)) _).mono ?_;rintro e w1 ⟨rfl,rfl⟩))
      go_ret;exact⟨rfl,Qa0 _ _ _⟩
   ·cases F2:bH (uT p.vb p.wm) p.tr 8 with
    | false =>
     rw[Qai];go_enter func279,ntmps279;go_wp2_with (first | (go_at_call 298;refine(du _ _ _).mono ?_;rintro e w1 ⟨rfl,rfl⟩;simp only[cE]) | (go_at_call 299;refine(cm _ _ _ 6 (dz (by omega)) _).mono ?_;rintro e w1 ⟨rfl,rfl⟩;rw[F1]) | (go_at_call 300;refine(de _ _ _ 8 (dx (by omega)) _).mono ?_;rintro e w1 ⟨rfl,rfl⟩;rw[F2]))
     go_ret;exact⟨rfl,Qa0 _ _ _⟩
    | true =>
     rw[Qah];by_cases a3:1≤p.mr
     ·go_enter func279,ntmps279;go_wp2_with (first | (go_at_call 298;refine(du _ _ _).mono ?_;rintro e w1 ⟨rfl,rfl⟩;simp only[cE]) | (go_at_call 299;refine(cm _ _ _ 6 (dz (by omega)) _).mono ?_;rintro e w1 ⟨rfl,rfl⟩;rw[F1]) | (go_at_call 300;refine(de _ _ _ 8 (dx (by omega)) _).mono ?_;rintro e w1 ⟨rfl,rfl⟩;rw[F2]) | (go_at_call 301;refine(eo _ _ _ 4 (dz (by omega)) _).mono ?_;rintro e w1 ⟨rfl,rfl⟩))
      go_ret;exact⟨rfl,Qa0 _ _ _⟩
     ·go_enter func279,ntmps279;go_wp2_with (first | (go_at_call 298;refine(du _ _ _).mono ?_;rintro e w1 ⟨rfl,rfl⟩;simp only[cE]) | (go_at_call 299;refine(cm _ _ _ 6 (dz (by omega)) _).mono ?_;rintro e w1 ⟨rfl,rfl⟩;rw[F1]) | (go_at_call 300;refine(de _ _ _ 8 (dx (by omega)) _).mono ?_;rintro e w1 ⟨rfl,rfl⟩;rw[F2]) | (go_at_call 301;refine(eo _ _ _ 4 (dx (by omega)) _).mono ?_;rintro e w1 ⟨rfl,rfl⟩))
      go_ret;exact⟨rfl,Qa0 _ _ _⟩
 ·cases F1:bH (uS p.vb p.wm) p.su 6 with
  | false =>
   rw[Qai];go_enter func279,ntmps279;go_wp2_with (first | (go_at_call 298;refine(du _ _ _).mono ?_;rintro e w1 ⟨rfl,rfl⟩;simp only[cE]) | (go_at_call 299;refine(cm _ _ _ 6 (dx (by omega)) _).mono ?_;rintro e w1 ⟨rfl,rfl⟩;rw[F1]))
   go_ret;exact⟨rfl,Qa0 _ _ _⟩
  | true =>
   rw[Qah];by_cases a2:1≤p.tr
   ·cases F2:bH (uT p.vb p.wm) p.tr 8 with
    | false =>
     rw[Qai];go_enter func279,ntmps279;go_wp2_with (first | (go_at_call 298;refine(du _ _ _).mono ?_;rintro e w1 ⟨rfl,rfl⟩;simp only[cE]) | (go_at_call 299;refine(cm _ _ _ 6 (dx (by omega)) _).mono ?_;rintro e w1 ⟨rfl,rfl⟩;rw[F1]) | (go_at_call 300;refine(de _ _ _ 8 (dz (by omega)) _).mono ?_;rintro e w1 ⟨rfl,rfl⟩;rw[F2]))
     go_ret;exact⟨rfl,Qa0 _ _ _⟩
    | true =>
     rw[Qah];by_cases a3:1≤p.mr
     ·go_enter func279,ntmps279;go_wp2_with (first | (go_at_call 298;refine(du _ _ _).mono ?_;rintro e w1 ⟨rfl,rfl⟩;simp only[cE]) | (go_at_call 299;refine(cm _ _ _ 6 (dx (by omega)) _).mono ?_;rintro e w1 ⟨rfl,rfl⟩;rw[F1]) | (go_at_call 300;refine(de _ _ _ 8 (dz (by omega)) _).mono ?_;rintro e w1 ⟨rfl,rfl⟩;rw[F2]) | (go_at_call 301;refine(eo _ _ _ 4 (dz (by omega)) _).mono ?_;rintro e w1 ⟨rfl,rfl⟩))
      go_ret;exact⟨rfl,Qa0 _ _ _⟩
     ·go_enter func279,ntmps279;go_wp2_with (first | (go_at_call 298;refine(du _ _ _).mono ?_;rintro e w1 ⟨rfl,rfl⟩;simp only[cE]) | (go_at_call 299;refine(cm _ _ _ 6 (dx (by omega)) _).mono ?_;rintro e w1 ⟨rfl,rfl⟩;rw[F1]) | (go_at_call 300;refine(de _ _ _ 8 (dz (by omega)) _).mono ?_;rintro e w1 ⟨rfl,rfl⟩;rw[F2]) | (go_at_call 301;refine(eo _ _ _ 4 (dx (by omega)) _).mono ?_;rintro e w1 ⟨rfl,rfl⟩))
      go_ret;exact⟨rfl,Qa0 _ _ _⟩
   ·cases F2:bH (uT p.vb p.wm) p.tr 8 with
    | false =>
     rw[Qai];go_enter func279,ntmps279;go_wp2_with (first | (go_at_call 298;refine(du _ _ _).mono ?_;rintro e w1 ⟨rfl,rfl⟩;simp only[cE]) | (go_at_call 299;refine(cm _ _ _ 6 (dx (by omega)) _).mono ?_;rintro e w1 ⟨rfl,rfl⟩;rw[F1]) | (go_at_call 300;refine(de _ _ _ 8 (dx (by omega)) _).mono ?_;rintro e w1 ⟨rfl,rfl⟩;rw[F2]))
     go_ret;exact⟨rfl,Qa0 _ _ _⟩
    | true =>
     rw[Qah];by_cases a3:1≤p.mr
     ·go_enter func279,ntmps279;go_wp2_with (first | (go_at_call 298;refine(du _ _ _).mono ?_;rintro e w1 ⟨rfl,rfl⟩;simp only[cE]) | (go_at_call 299;refine(cm _ _ _ 6 (dx (by omega)) _).mono ?_;rintro e w1 ⟨rfl,rfl⟩;rw[F1]) | (go_at_call 300;refine(de _ _ _ 8 (dx (by omega)) _).mono ?_;rintro e w1 ⟨rfl,rfl⟩;rw[F2]) | (go_at_call 301;refine(eo _ _ _ 4 (dz (by omega)) _).mono ?_;rintro e w1 ⟨rfl,rfl⟩))
      go_ret;exact⟨rfl,Qa0 _ _ _⟩
     ·go_enter func279,ntmps279;go_wp2_with (first | (go_at_call 298;refine(du _ _ _).mono ?_;rintro e w1 ⟨rfl,rfl⟩;simp only[cE]) | (go_at_call 299;refine(cm _ _ _ 6 (dx (by omega)) _).mono ?_;rintro e w1 ⟨rfl,rfl⟩;rw[F1]) | (go_at_call 300;refine(de _ _ _ 8 (dx (by omega)) _).mono ?_;rintro e w1 ⟨rfl,rfl⟩;rw[F2]) | (go_at_call 301;refine(eo _ _ _ 4 (dx (by omega)) _).mono ?_;rintro e w1 ⟨rfl,rfl⟩))
      go_ret;exact⟨rfl,Qa0 _ _ _⟩
theorem uz (p:Pt) (w:World):Calls prog 280 #[pv p] w fun e w'=>e=.returned (.bool (qg p))∧w.grownBy w' none:=by
 unfold pv;go_enter func280,ntmps280;go_wp2_with (go_at_call 298;refine(du _ _ _).mono ?_;rintro e w1 ⟨rfl,rfl⟩;simp only[cE])
 go_region_held3 (fun w'=>w'.cell? ⟨w.heap.size,7,none⟩=some (.string p.nm)) (first | exact ae (aj _ _ _) 7 | go_keep) (first | (go_at_call 122;refine(wD _ _).mono ?_;rintro e w3 ⟨rfl,rfl⟩) | (go_at_call 302;refine(xJ _ _ _ _).mono ?_;rintro e w3 ⟨rfl,rfl⟩));go_wp2;go_ret;exact⟨rfl,aa (Qa0 _ _ _) (aA _ _ _)⟩
