import Derived.Test.YtjmepebbcnhalaaGreatW12
import Derived.Test.YtjmepebbcnhalaaGreatW9
import Derived.WalkKit
import Derived.Test.YtjmepebbcnhalaaGreatW3
import Derived.Test.YtjmepebbcnhalaaGreatW0
import Derived.Deep.MidRow
namespace Go.Proofs.YtjmepebbcnhalaaGreat
open Go.RowKit
theorem sX:aR (ByteArray.mk #[]).data.toList=false:=rfl
def MkD (p:Pl):Prop:=p.mks[0]?=some Mk.none∧∀ m∈p.mks,m=Mk.none∨(¬m.mi=0∧¬m.nm=⟨#[]⟩)
structure Fe where
 ho:Int
 su:Int
 tr:Int
 po:Int
 he:Int
def Fe.none:Fe:=⟨0,0,0,0,0⟩
def fev (f:Fe):Value:=.agg #[.int .i64 f.ho,.int .u8 f.su,.int .u16 f.tr,.int .i64 f.po,.int .i64 f.he]
def InI (a:Int):Prop:=-9223372036854775808≤a∧a≤9223372036854775807
def zs (p:Pl) (c0 c1 c2 c3:Int):List (Int×Mk):=[(c0,moM p 1),(c1,moM p 2),(c2,moM p 3),(c3,moM p 4)]
def atC (p:Pl) (es:List Ent) (n:Int):Hd×List Pt:=if p.shut=true∧1≤n then (match es[(n - 1).toNat]? with | some e=>(e.h,e.ps) | none=>(Hd.none,[])) else (Hd.none,[])
def atX (p:Pl) (es:List Ent) (n:Int):Int:=if p.shut=true∧1≤n∧n≤(es.length:Int) then 0 else 6
end Go.Proofs.YtjmepebbcnhalaaGreat
namespace Go.Proofs.YtjmepebbcnhalaaGreat
structure Th where
 card:Int
 owner:Int
 place:Int
 stamp:Int
 hurt:Int
 m0:Int
 m1:Int
 m2:Int
 m3:Int
 done:Int
 fresh:Bool

def Th.home (t:Th) (tp:Int):Th:=⟨t.card,t.owner,tp,0,0,0,0,0,0,0,false⟩
def Th.off (t:Th):Prop:=t=t.home t.place
def Th.marked (t:Th):Prop:=(0≤t.m0∧t.m0≤99)∧(0≤t.m1∧t.m1≤99)∧(0≤t.m2∧t.m2≤99)∧(0≤t.m3∧t.m3≤99)
def Th.alone (t:Th) (nx:Int):Prop:=1≤t.card∧(t.owner=0∨t.owner=1)∧(1≤t.place∧t.place≤5)∧(t.place≠4→t.off)∧(t.place=4→1≤t.stamp∧t.stamp<nx∧0≤t.hurt∧0≤t.done∧t.marked)
def Th.none:Th:=⟨0,0,0,0,0,0,0,0,0,0,false⟩
def CG (ts:List Th) (n:Int):Th:=ts.getD (n - 1).toNat Th.none
def there (ts:List Th) (n:Int):Prop:=1≤n∧n≤(ts.length:Int)
def inn (ts:List Th) (p pl n:Int):Prop:=there ts n∧(CG ts n).owner=p∧(CG ts n).place=pl
set_option maxHeartbeats 1000000
open Go.RowKit
def jZ (s k:Int):Bool:=bits .and .u16 s (lP k) != 0
def ki (s k:Int):Int:=bits .or .u16 s (lP k)
def eM (s k:Int):Int:=bits .andNot .u16 s (lP k)
theorem lH (k:Int):(k=1∨k=2∨k=3∨k=4∨k=5∨k=6∨k=7∨k=8)∨(k<1∨8<k):=by omega
theorem pD {k:Int} (h:k<1∨8<k):lP k=0:=by
 unfold lP
 rw[if_neg (by omega),if_neg (by omega),if_neg (by omega),if_neg (by omega),if_neg (by omega),if_neg (by omega),if_neg (by omega),if_neg (by omega)]
theorem sq (k:Int) (h1:1≤k) (h2:k≤8) (w:World):Calls Tryz.prog 294 #[.int .u8 k] w fun e w'=>e=.returned (.bool true)∧w'=w:=by
 go_enter Tryz.func294,Tryz.ntmps294
 go_wp2
 go_ret
 exact⟨rfl,rfl⟩
theorem tq (k:Int) (h:k<1∨8<k) (w:World):Calls Tryz.prog 294 #[.int .u8 k] w fun e w'=>e=.returned (.bool false)∧w'=w:=by
 rcases h with h | h
 ·go_enter Tryz.func294,Tryz.ntmps294
  go_wp2
  go_ret
  exact⟨rfl,rfl⟩
 ·have h1:(1:Int)≤k:=by omega
  have h2:decide (k≤8)=false:=decide_eq_false (by omega)
  clear h
  go_enter Tryz.func294,Tryz.ntmps294
  go_wp2
  go_ret
  exact⟨rfl,rfl⟩
theorem ql (k:Int) (w:World):Calls Tryz.prog 262 #[.int .u8 k] w fun e w'=>e=.returned (.int .u16 (lP k))∧w'=w:=by
 rcases lH k with h | h
 ·rcases h with rfl | rfl | rfl | rfl | rfl | rfl | rfl | rfl
  all_goals
   go_enter Tryz.func262,Tryz.ntmps262
   go_wp2_with fail
   refine(sq _ (by omega) (by omega) _).mono ?_
   rintro e w1 ⟨rfl,rfl⟩
   go_wp2
   go_ret
   exact⟨rfl,rfl⟩
 ·rw[pD h]
  go_enter Tryz.func262,Tryz.ntmps262
  go_wp2_with fail
  refine(tq _ h _).mono ?_
  rintro e w1 ⟨rfl,rfl⟩
  go_wp2
  go_ret
  exact⟨rfl,rfl⟩
theorem vz (s k:Int) (w:World):Calls Tryz.prog 212 #[.int .u16 s,.int .u8 k] w fun e w'=>e=.returned (.bool (jZ s k))∧w'=w:=by
 go_enter Tryz.func212,Tryz.ntmps212
 go_wp2_with fail
 refine(ql _ _).mono ?_
 rintro e w1 ⟨rfl,rfl⟩
 go_wp2
 go_ret
 exact⟨rfl,rfl⟩
theorem yt (s k:Int) (w:World):Calls Tryz.prog 215 #[.int .u16 s,.int .u8 k] w fun e w'=>e=.returned (.int .u16 (ki s k))∧w'=w:=by
 go_enter Tryz.func215,Tryz.ntmps215
 go_wp2_with fail
 refine(ql _ _).mono ?_
 rintro e w1 ⟨rfl,rfl⟩
 go_wp2
 go_ret
 exact⟨rfl,rfl⟩
theorem sn (s k:Int) (w:World):Calls Tryz.prog 216 #[.int .u16 s,.int .u8 k] w fun e w'=>e=.returned (.int .u16 (eM s k))∧w'=w:=by
 go_enter Tryz.func216,Tryz.ntmps216
 go_wp2_with fail
 refine(ql _ _).mono ?_
 rintro e w1 ⟨rfl,rfl⟩
 go_wp2
 go_ret
 exact⟨rfl,rfl⟩
theorem yY {v:Int} (h:¬(10≤v∧v≤15)):lay v=0:=by
 unfold lay
 rw[if_neg (by omega),if_neg (by omega),if_neg (by omega),if_neg (by omega),if_neg (by omega)]
theorem ks (v:Int) (w:World):Calls Tryz.prog 213 #[.int .u8 v] w fun e w'=>e=.returned (.int .i64 (lay v))∧w'=w:=by
 by_cases h:10≤v∧v≤15
 ·have:v=10∨v=11∨v=12∨v=13∨v=14∨v=15:=by omega
  rcases this with rfl | rfl | rfl | rfl | rfl | rfl
  all_goals
   go_enter Tryz.func213,Tryz.ntmps213
   go_wp2
   go_ret
   exact⟨rfl,rfl⟩
 ·rw[yY h]
  have e1:(v == 10)=false:=by simp;omega
  have e2:(v == 11)=false:=by simp;omega
  have e3:(v == 12)=false:=by simp;omega
  have e4:(v == 13)=false:=by simp;omega
  have e5:(v == 14)=false:=by simp;omega
  have e6:(v == 15)=false:=by simp;omega
  clear h
  go_enter Tryz.func213,Tryz.ntmps213
  go_wp2
  go_ret
  exact⟨rfl,rfl⟩
structure Sd where
 th:Int
 pl:Int
 wh:Pt
structure Se where
 s:Sd
 ro:Nat
structure Rw where
 nu:Int
 st:Int
 h:Hd
 ps:List Pt
def Sd.none:Sd:=⟨0,0,Pt.none⟩
def Se.none:Se:=⟨Sd.none,0⟩
def Rw.none:Rw:=⟨0,0,Hd.none,[]⟩
def fG (x:Int):Bool:=decide (x=0) || decide (x=1)
def cj (n:Int) (t:Th):Bool:=decide (1≤t.card) && decide (t.card≤n) && fG t.owner && decide (1≤t.place) && decide (t.place≤5)
def aY (t:Th) (f:Fe):Bool:=decide (0<t.stamp) && fG f.ho && bR f.tr
def dE (n:Int) (cd:Int→Hd×List Pt):List (Th×Fe)→Nat→List Rw→Option (List Rw)
 | [],_,acc=>some acc
 | (t,f) :: r,i,acc =>
  if cj n t=false then none
  else if t.place≠4 then dE n cd r (i+1) acc
  else if acc.length=16∨aY t f=false then none
  else if (cd t.card).1.kd=2 then none
  else dE n cd r (i+1) (acc++[⟨(i:Int)+1,t.stamp,(cd t.card).1,(cd t.card).2⟩])
def dif:List Int→Bool
 | []=>true
 | a :: l=>(match l with | []=>true | b :: _=>decide (a≠b)) && dif l
def bm (R:List Rw):List Int:=R.map Rw.st
def sortR (R:List Rw):List Rw:=R.mergeSort fun a b=>decide (a.st≤b.st)
def bi (n:Int) (cd:Int→Hd×List Pt) (ts:List Th) (fs:List Fe):Option (List Rw) :=
 if ts.length=fs.length then
  match dE n cd (ts.zip fs) 0 [] with
  | some acc=>if dif (bm (sortR acc)) then some (sortR acc) else none
  | none=>none
 else none
def aq (R:List Rw) (fs:List Fe):List Fe:=R.map fun r=>fs.getD (r.nu - 1).toNat Fe.none
def cR (wh:Pt) (own:Bool) (kd:Int) (f:Fe) (ho:Int):Bool :=
 if wh.wm=4 then own
 else if kd≠1 then false
 else if wh.wm=5 then decide (f.ho=ho)
 else if wh.wm=8 then decide (f.ho=ho) && !own
 else if wh.wm=6 then !decide (f.ho=ho)
 else if wh.wm=7 then true
 else if wh.wm=9 then decide (f.su=wh.su)
 else if wh.wm=10 then jZ f.tr wh.tr
 else false
def di (R:List Rw) (F:List Fe) (s:Se) (i:Nat):Bool:=cR s.s.wh (decide (i=s.ro)) (R.getD i Rw.none).h.kd (F.getD i Fe.none) (F.getD s.ro Fe.none).ho
def dD (R:List Rw) (F:List Fe) (s:Se) (k:Nat):List Bool:=(List.range k).map (di R F s)
def aM (R:List Rw) (F:List Fe) (s:Se):List Bool:=dD R F s R.length
def gw (f:Fe) (wh:Pt) (ho:Int):Fe :=
 if wh.vb=10 then { f with ho:=ho }
 else if wh.vb=11 then { f with su:=wh.su }
 else if wh.vb=12 then { f with tr:=ki f.tr wh.tr }
 else if wh.vb=13 then { f with tr:=eM f.tr wh.tr }
 else if wh.vb=14 then { f with po:=wh.ct,he:=wh.ct }
 else if wh.vb=15 then { f with po:=wrap64 (f.po+wh.ct),he:=wrap64 (f.he+wh.ct) }
 else f
def fB (R:List Rw) (F:List Fe) (s:Se) (i:Nat):Fe:=if di R F s i then gw (F.getD i Fe.none) s.s.wh (F.getD s.ro Fe.none).ho else F.getD i Fe.none
def aP (R:List Rw) (F:List Fe) (s:Se):List Fe:=(List.range F.length).map (fB R F s)
def eX (R:List Rw) (F:List Fe) (s o:Se):Bool:=!decide (aM R F s=aM R (aP R F o) s)
def bI (R:List Rw) (F:List Fe) (L:List Se) (i:Nat):Bool:=(List.range L.length).all fun j=>decide (i=j) || !eX R F (L.getD i Se.none) (L.getD j Se.none)
def bX (R:List Rw) (F:List Fe) (L:List Se):Nat:=((List.range L.length).find? (bI R F L)).getD 0
def eN (k:Int) (nu:Int) (ro:Nat) (ps:List Pt) (m:Nat):List Se:=(List.range m).filterMap fun i=>if (ps.getD i Pt.none).wn=5∧lay (ps.getD i Pt.none).vb=k then some ⟨⟨nu,(i:Int),ps.getD i Pt.none⟩,ro⟩ else none
def iG (R:List Rw) (F:List Fe) (k:Int) (i:Nat):List Se:=if jZ (F.getD i Fe.none).tr 6 then [] else eN k (R.getD i Rw.none).nu i (R.getD i Rw.none).ps (R.getD i Rw.none).ps.length
def hJ (R:List Rw) (F:List Fe) (k:Int) (m:Nat):List Se:=(List.range m).flatMap (iG R F k)
def cU (R:List Rw) (F:List Fe) (k:Int):List Se:=hJ R F k R.length
def np (R:List Rw):Nat→List Fe→List Se→List Se→List Fe×List Se
 | 0,F,_,acc=>(F,acc)
 | n+1,F,L,acc=>if L=[] then (F,acc) else np R n (aP R F (L.getD (bX R F L) Se.none)) (L.eraseIdx (bX R F L)) (acc++[L.getD (bX R F L) Se.none])
def jm (fs:List Fe) (R:List Rw) (F:List Fe) (m:Nat):List Fe:=(List.range m).foldl (fun a i=>a.set ((R.getD i Rw.none).nu - 1).toNat (F.getD i Fe.none)) fs
def cJ (fs:List Fe) (R:List Rw) (F:List Fe):List Fe:=jm fs R F R.length
def cQ (ps:List Pt) (s:Sd):Bool:=decide (0≤s.pl) && decide (s.pl<(ps.length:Int)) && (decide (s.wh.wn=5) && bN (ps.getD s.pl.toNat Pt.none) s.wh)
def eO (R:List Rw) (n:Int):Option Nat:=R.findIdx? fun r=>decide (r.nu=n)
def bj (R:List Rw) (s:Sd):Option Se:=match eO R s.th with
 | some i=>if cQ (R.getD i Rw.none).ps s then some ⟨s,i⟩ else none
 | none=>none
def dn (s o:Se):Bool:=(decide (s.s.th=o.s.th) && decide (s.s.pl=o.s.pl)) || !decide (lay s.s.wh.vb=lay o.s.wh.vb)
def dz (s:Se) (L:List Se):Bool:=L.all fun o=>!dn s o
def aN (R:List Rw):List Sd→List Se→Option (List Se)
 | [],acc=>some acc
 | s :: l,acc=>match bj R s with
  | some e=>if dz e acc then aN R l (acc++[e]) else none
  | none=>none
theorem aL (w:World) (o:Obj) (cs:Array Value) (t:TypeId):((w.alloc o).alloc (.cells cs t)).heap[w.heap.size+1]?=some (.cells cs t (0,0)):=by have:=ak (w.alloc o) cs t;rwa [World.size_alloc] at this
structure aB (α:Type) where
 k:Nat
 enc:α→List Value
 hk:∀ x,(enc x).length=k
 h1:∀ x,∀ v∈enc x,v.oneCell'=true
 hp:0<k
def aB.cs {α:Type} (R:aB α):List α→List Value
 | []=>[]
 | x :: l=>R.enc x++R.cs l
theorem aB.len {α:Type} (R:aB α):∀ l:List α,(R.cs l).length=l.length*R.k
 | []=>by simp[aB.cs]
 | x :: l=>by
  show (R.enc x++R.cs l).length=_
  rw[List.length_append,R.hk,R.len l,List.length_cons,Nat.succ_mul]
  omega
theorem aB.app {α:Type} (R:aB α):∀ a b:List α,R.cs (a++b)=R.cs a++R.cs b
 | [],b=>rfl
 | x :: a,b=>by
  show R.enc x++R.cs (a++b)=(R.enc x++R.cs a)++R.cs b
  rw[R.app a b,List.append_assoc]
theorem aB.one {α:Type} (R:aB α) (x:α):R.cs [x]=R.enc x:=List.append_nil _
theorem aB.at' {α:Type} (R:aB α):∀ {l:List α} {j:Nat} {x:α},l[j]?=some x→∀ i,i<R.k→(R.cs l)[j*R.k+i]?=(R.enc x)[i]?
 | [],j,x,h,i,hi=>by simp at h
 | y :: l,0,x,h,i,hi=>by
  simp at h
  subst h
  show (R.enc y++R.cs l)[0*R.k+i]?=_
  rw[Nat.zero_mul,Nat.zero_add,List.getElem?_append_left (by rw[R.hk];exact hi)]
 | y :: l,j+1,x,h,i,hi=>by
  show (R.enc y++R.cs l)[(j+1)*R.k+i]?=_
  rw[List.getElem?_append_right (by rw[R.hk,Nat.succ_mul];omega),R.hk,show (j+1)*R.k+i - R.k=j*R.k+i from by rw[Nat.succ_mul];omega]
  exact R.at' (by simpa using h) i hi
theorem aB.ones {α:Type} (R:aB α):∀ l:List α,∀ u∈R.cs l,u.oneCell'=true
 | [],u,h=>by cases h
 | x :: l,u,h=>by
  rcases List.mem_append.1 h with h | h
  ·exact R.h1 x u h
  ·exact R.ones l u h
theorem aB.take {α:Type} (R:aB α):∀ (l:List α) (j:Nat),(R.cs l).take (j*R.k)=R.cs (l.take j)
 | [],j=>by simp[aB.cs]
 | x :: l,0=>by simp[aB.cs]
 | x :: l,j+1=>by
  show (R.enc x++R.cs l).take ((j+1)*R.k)=R.enc x++R.cs (l.take j)
  rw[List.take_append,R.hk,List.take_of_length_le (by rw[R.hk,Nat.succ_mul];omega),show (j+1)*R.k - R.k=j*R.k from by rw[Nat.succ_mul];omega,R.take l j]
theorem aB.drop {α:Type} (R:aB α):∀ (l:List α) (j:Nat),(R.cs l).drop (j*R.k)=R.cs (l.drop j)
 | [],j=>by simp[aB.cs]
 | x :: l,0=>by simp[aB.cs]
 | x :: l,j+1=>by
  show (R.enc x++R.cs l).drop ((j+1)*R.k)=R.cs (l.drop j)
  rw[List.drop_append,R.hk,List.drop_eq_nil_of_le (by rw[R.hk,Nat.succ_mul];omega),show (j+1)*R.k - R.k=j*R.k from by rw[Nat.succ_mul];omega,R.drop l j,List.nil_append]
def dF:List Value→Nat→List Value→List Value
 | xs,_,[]=>xs
 | xs,o,v :: vs=>dF (xs.set o v) (o+1) vs
theorem f9:∀ (vs xs:List Value) (o:Nat),o+vs.length≤xs.length→dF xs o vs=xs.take o++(vs++xs.drop (o+vs.length))
 | [],xs,o,h=>by simp[dF]
 | v :: vs,xs,o,h=>by
  rw[List.length_cons] at h
  show dF (xs.set o v) (o+1) vs=_
  rw[f9 vs (xs.set o v) (o+1) (by rw[List.length_set];omega),List.take_add_one,List.getElem?_set_self (by omega),List.take_set_of_le (by omega),List.drop_set_of_lt (by omega),List.length_cons]
  simp[Nat.add_assoc,Nat.add_comm 1]
theorem rc {xs vs:List Value} (h:vs.length=xs.length):dF xs 0 vs=vs:=by
 rw[f9 vs xs 0 (by omega),List.take_zero,List.nil_append,List.drop_eq_nil_of_le (by omega),List.append_nil]
theorem dP {base e size g n cap:Nat}:∀ (vs xs:List Value) (o:Nat) (w:World),w.ownsRow base e size (.slice (some ⟨g,0,none⟩) n cap) n xs→(w.setCells g o vs).ownsRow base e size (.slice (some ⟨g,0,none⟩) n cap) n (dF xs o vs)∧w.grownBy (w.setCells g o vs) (some g)
 | [],xs,o,w,h=>⟨h,ay _ _⟩
 | v :: vs,xs,o,w,h=>by
  obtain⟨h1,h2⟩:=World.ownsRow.stored h o v
  obtain⟨h3,h4⟩:=dP vs (xs.set o v) (o+1) _ h1
  exact⟨h3,aa h2 h4⟩
theorem aB.set {α:Type} (R:aB α) {l:List α} {j:Nat} (x:α) (h:j<l.length):dF (R.cs l) (j*R.k) (R.enc x)=R.cs (l.set j x):=by
 have h2:(j+1)*R.k≤l.length*R.k:=Nat.mul_le_mul_right _ h
 rw[f9 _ _ _ (by rw[R.len,R.hk];rw[Nat.succ_mul] at h2;exact h2),R.take,R.hk,show j*R.k+R.k=(j+1)*R.k from by rw[Nat.succ_mul],R.drop,List.set_eq_take_append_cons_drop,if_pos h,R.app]
 rfl
def aB.At {α:Type} (R:aB α) (w:World) (v:Value) (l:List α):Prop:=∃ p cap,v=.slice p l.length cap∧l.length≤maxLen∧(0<l.length→∃ g off,p=some ⟨g,off,none⟩∧∀ (j:Nat) x,l[j]?=some x→w.rangeAt g (off+j*R.k) (R.enc x))
theorem ba {w w':World} {g off:Nat} {cs:List Value} (h:w.rangeAt g off cs) (k:w.grownBy w' none):w'.rangeAt g off cs:=fun i u hu=>k.cell (h i u hu) (by simp)
theorem aB.At.keep {α:Type} {R:aB α} {w w':World} {v:Value} {l:List α} (h:R.At w v l) (k:w.grownBy w' none):R.At w' v l:=by
 obtain⟨p,cap,e,hm,h⟩:=h
 refine⟨p,cap,e,hm,fun h0=>?_⟩
 obtain⟨g,off,e2,h2⟩:=h h0
 exact⟨g,off,e2,fun j t ht=>ba (h2 j t ht) k⟩
theorem aB.At.nil {α:Type} (R:aB α) (w:World):R.At w (.slice none 0 0) []:=⟨none,0,rfl,Nat.zero_le _,fun h=>absurd h (Nat.lt_irrefl _)⟩
theorem aB.At.form {α:Type} {R:aB α} {w:World} {v:Value} {l:List α} (h:R.At w v l):∃ p cap,v=.slice p l.length cap:=by
 obtain⟨p,cap,e,_⟩:=h
 exact⟨p,cap,e⟩
theorem aB.At.there {α:Type} {R:aB α} {w:World} {v:Value} {l:List α} (h:R.At w v l) {j:Nat} (hj:j<l.length):∃ g off cap,v=.slice (some ⟨g,off,none⟩) l.length cap∧w.rangeAt g (off+j*R.k) (R.enc l[j]):=by
 obtain⟨p,cap,e,_,h⟩:=h
 obtain⟨g,off,e2,h2⟩:=h (by omega)
 subst e2
 exact⟨g,off,cap,e,h2 j _ (List.getElem?_eq_getElem hj)⟩
def aB.Own {α:Type} (R:aB α) (T:TypeId) (w:World) (base:Nat) (v:Value) (l:List α):Prop:=w.ownsRow base T R.k v l.length (R.cs l)
theorem cc {w:World} {base e size n:Nat} {v:Value} {xs:List Value} (h:w.ownsRow base e size v n xs) (h0:0<n):∃ g cap,v=.slice (some ⟨g,0,none⟩) n cap∧base≤g∧g<w.heap.size∧n≤cap∧cap≤maxLen∧∀ (j:Nat),j<n*size→w.cell? ⟨g,j,none⟩=xs[j]?∧w.frozen? ⟨g,j,none⟩=false:=by
 rcases h.2 with ⟨_,h1⟩ | ⟨g,cap,cur,e,hb,hh,hc,hm,hs,ht⟩
 ·omega
 ·refine⟨g,cap,e,hb,bn hh,hc,hm,fun j hj=>⟨?_,aA hh j⟩⟩
  rw[ae hh,←ht,List.getElem?_take,if_pos hj]
  simp
theorem bz {w:World} {base e size n:Nat} {v:Value} {xs:List Value} (h:w.ownsRow base e size v n xs):∃ p cap,v=.slice p n cap∧n≤maxLen:=by
 rcases h.2 with ⟨e1,h1⟩ | ⟨g,cap,cur,e1,hb,hh,hc,hm,hs,ht⟩
 ·exact⟨none,0,by rw[e1,h1],by rw[h1];exact Nat.zero_le _⟩
 ·exact⟨_,_,e1,Nat.le_trans hc hm⟩
theorem ar {w w':World} {base e size n:Nat} {v:Value} {xs:List Value} (h:w.ownsRow base e size v n xs) (g:w.grownBy w' none):w'.ownsRow base e size v n xs:=by
 refine World.ownsRow.kept h g ?_
 cases hv:v.ownBlock with
 | none=>exact Or.inl rfl
 | some x=>exact Or.inr (by simp)
theorem aT {w:World} {base base' e size n:Nat} {v:Value} {xs:List Value} (h:w.ownsRow base e size v n xs) (hb:base'≤base):w.ownsRow base' e size v n xs:=by
 refine⟨h.1,?_⟩
 rcases h.2 with h1 | ⟨g,cap,cur,e1,hg,rest⟩
 ·exact Or.inl h1
 ·exact Or.inr ⟨g,cap,cur,e1,Nat.le_trans hb hg,rest⟩
theorem aB.Own.nil {α:Type} (R:aB α) (T:TypeId) (w:World) (base:Nat):R.Own T w base (.slice none 0 0) []:=⟨by simp[aB.cs],Or.inl ⟨rfl,rfl⟩⟩
theorem aB.Own.grow {α:Type} {R:aB α} {T:TypeId} {w w':World} {base:Nat} {v:Value} {l:List α} (h:R.Own T w base v l) (g:w.grownBy w' none):R.Own T w' base v l:=ar h g
theorem aB.Own.big {α:Type} {R:aB α} {T:TypeId} {w:World} {base base':Nat} {v:Value} {l:List α} (h:R.Own T w base v l) (hb:base'≤base):R.Own T w base' v l:=aT h hb
theorem aB.Own.form {α:Type} {R:aB α} {T:TypeId} {w:World} {base:Nat} {v:Value} {l:List α} (h:R.Own T w base v l):∃ p c,v=.slice p l.length c:=by
 obtain⟨p,c,e,_⟩:=bz h
 exact⟨p,c,e⟩
theorem aB.Own.at {α:Type} {R:aB α} {T:TypeId} {w:World} {base:Nat} {v:Value} {l:List α} (h:R.Own T w base v l):R.At w v l:=by
 obtain⟨p,cap,e,hm⟩:=bz h
 refine⟨p,cap,e,hm,fun h0=>?_⟩
 obtain⟨g,cap',e',_,_,_,_,hc⟩:=cc h h0
 rw[e] at e'
 cases e'
 refine⟨g,0,rfl,fun j t ht i u hu=>?_⟩
 have hi:i<R.k:=by have:=(List.getElem?_eq_some_iff.1 hu).1;rwa [R.hk] at this
 have hj:=(List.getElem?_eq_some_iff.1 ht).1
 have h2:(j+1)*R.k≤l.length*R.k:=Nat.mul_le_mul_right _ hj
 rw[Nat.succ_mul] at h2
 rw[Nat.zero_add,(hc (j*R.k+i) (by omega)).1,R.at' ht i hi]
 exact hu
theorem ii (g o j:Nat):(⟨g,o,none⟩:Addr).add j=⟨g,o+j,none⟩:=Addr.add_mid g o j
def Src (w:World) (vx:Value) (m size:Nat) (ys:List Value):Prop:=∃ p c,vx=.slice p m c∧ys.length=m*size∧(0<m→∃ ad,p=some ad∧∀ j u,ys[j]?=some u→w.cell? (Addr.add ad j)=some u)
theorem Src.keep {w w':World} {vx:Value} {m size:Nat} {ys:List Value} (h:Src w vx m size ys) (k:w.grownBy w' none):Src w' vx m size ys:=by
 obtain⟨p,c,e,hl,h⟩:=h
 refine⟨p,c,e,hl,fun h0=>?_⟩
 obtain⟨ad,e2,h2⟩:=h h0
 exact⟨ad,e2,fun j u hu=>k.cell (h2 j u hu) (by simp)⟩
theorem aB.At.src {α:Type} {R:aB α} {w:World} {v:Value} {l:List α} (h:R.At w v l):Src w v l.length R.k (R.cs l):=by
 obtain⟨p,c,e,_,h⟩:=h
 refine⟨p,c,e,R.len l,fun h0=>?_⟩
 obtain⟨g,off,e2,h2⟩:=h h0
 refine⟨_,e2,fun j u hu=>?_⟩
 have hj:j<l.length*R.k:=by have:=(List.getElem?_eq_some_iff.1 hu).1;rwa [R.len] at this
 have hq:j / R.k<l.length:=Nat.div_lt_of_lt_mul (by rw[Nat.mul_comm];exact hj)
 have hr:j % R.k<R.k:=Nat.mod_lt _ R.hp
 have e3:j=j / R.k*R.k+j % R.k:=by rw[Nat.mul_comm];exact(Nat.div_add_mod _ _).symm
 have h4:=h2 (j / R.k) l[j / R.k] (List.getElem?_eq_getElem hq) (j % R.k) u (by
  rw[←R.at' (List.getElem?_eq_getElem hq) (j % R.k) hr,←e3]
  exact hu)
 rw[ii,show off+j=off+j / R.k*R.k+j % R.k from by omega]
 exact h4
theorem ij {w:World} {g e m size:Nat} {cs:Array Value} (h:w.heap[g]?=some (.cells cs e (0,0))) (hs:cs.size=m*size) (c:Nat):Src w (.slice (some ⟨g,0,none⟩) m c) m size cs.toList :=
 ⟨_,c,rfl,by simp[hs],fun _=>⟨_,rfl,fun j u hu=>by rw[ii,Nat.zero_add,ae h];simpa using hu⟩⟩
theorem aB.more {α:Type} {R:aB α} {T:TypeId} {w:World} {base n:Nat} {v:Value} {l:List α} {x:α} (h:w.ownsRow base T R.k v (n+1) (R.cs l++R.enc x)) (hn:n=l.length):R.Own T w base v (l++[x]):=by
 unfold aB.Own
 rw[List.length_append,List.length_singleton,R.app,R.one,←hn]
 exact h
theorem aB.Own.set {α:Type} {R:aB α} {T:TypeId} {w:World} {base g n cap j:Nat} {l:List α} (h:R.Own T w base (.slice (some ⟨g,0,none⟩) n cap) l) (hn:l.length=n) (hj:j<n) (x:α):R.Own T (w.setCells g (j*R.k) (R.enc x)) base (.slice (some ⟨g,0,none⟩) n cap) (l.set j x)∧w.grownBy (w.setCells g (j*R.k) (R.enc x)) (some g):=by
 unfold aB.Own at h ⊢
 rw[hn] at h
 obtain⟨h1,h2⟩:=dP (R.enc x) (R.cs l) (j*R.k) w h
 rw[R.set x (by omega)] at h1
 rw[List.length_set,hn]
 exact⟨h1,h2⟩
theorem aB.Own.there {α:Type} {R:aB α} {T:TypeId} {w:World} {base g n cap j:Nat} {l:List α} (h:R.Own T w base (.slice (some ⟨g,0,none⟩) n cap) l) (hn:l.length=n) (hj:j<n):w.there g (j*R.k) R.k:=by
 unfold aB.Own at h
 rw[hn] at h
 have h2:(j+1)*R.k≤n*R.k:=Nat.mul_le_mul_right _ hj
 rw[Nat.succ_mul] at h2
 intro i hi
 refine⟨?_,World.ownsRow.frozenAt h _⟩
 rw[World.ownsRow.cellAt h (j*R.k+i) (by omega),List.getElem?_eq_getElem (by rw[R.len,hn];omega)]
 rfl
theorem aB.Own.lt {α:Type} {R:aB α} {T:TypeId} {w:World} {base:Nat} {v:Value} {l:List α} (h:R.Own T w base v l):∀ x,v.ownBlock=some x→base≤x∧x<w.heap.size:=fun x hx=>World.ownsRow.lt h x hx
end Go.Proofs.YtjmepebbcnhalaaGreat
