/-
  The document's own book: Trait,TraitName.
  The document's own book: MarkOf,Mark.
  Things,plainly: features,what marks add,the places of a card's parts of a moment.
  Zones,plainly: things,decks,hands,the next stamp;when they are sound;a thing comes to a place;each call keeps them sound.
  Traits: what Has,With,Without tell of a set and a number;the layer of a verb.
  Layers,plainly: what lies on the table,whom an effect is about,what it makes of features,which depends on which,which comes next.
-/
import Derived.Test.YthfjgpjcepmnmaaGreatZ12
import Derived.Test.YthfjgpjcepmnmaaGreatZ9
import Derived.WalkKit
import Derived.Test.YthfjgpjcepmnmaaGreatZ3
namespace Go.Proofs.YthfjgpjcepmnmaaGreat
open Go.RowKit
theorem empty_name:nameOk (ByteArray.mk #[]).data.toList=false:=rfl
set_option maxRecDepth 100000
set_option maxHeartbeats 2000000
def MkD (p:Pl):Prop:=p.mks[0]?=some Mk.none∧∀ m∈p.mks,m=Mk.none∨(¬m.mi=0∧¬m.nm=⟨#[]⟩)
theorem rmarkOf_any (b:Nat) (v:Value) (p:Pl) (t:Nat) (w:World) (R:RJ w b v p) (ht:t≤255) (hD:MkD p):Calls Tryz.prog 250 #[.pointer (some ⟨b,0,none⟩),.int .u8 (t:Int)] w fun e w'=>e=.returned (.tuple #[mv (moM p (t:Int)),.bool (moB p (t:Int))])∧w.grownBy w' none:=by
 obtain⟨W1,hW1⟩:∃ W1,W1=w.alloc (.cells #[.int .u8 0,.string ⟨#[]⟩,.int .i64 0,.int .i64 0] 58):=⟨_,rfl⟩
 have HG1:Hid (w.grownBy W1 none):=by rw[hW1];exact World.grownBy_alloc _ _ none
 have A:W1.heap[w.heap.size]?=some (.cells #[.int .u8 0,.string ⟨#[]⟩,.int .i64 0,.int .i64 0] 58 (0,0)):=by rw[hW1];exact alloc_at w #[.int .u8 0,.string ⟨#[]⟩,.int .i64 0,.int .i64 0] 58
 have HR:Hid (RJ W1 b v p):=R.keep HG1.out
 have c0:=block_cell A 0
 have c1:=block_cell A 1
 have c2:=block_cell A 2
 have c3:=block_cell A 3
 have cf:=fun i=>block_free A i
 clear A R
 by_cases hr:t<1∨4<t
 ·have e1:moM p (t:Int)=Mk.none:=by
   unfold moM
   by_cases h9:(t:Int)<5
   ·rw[if_pos h9,show (t:Int).toNat=0 by omega,List.getD_eq_getElem?_getD,hD.1]
    rfl
   ·rw[if_neg h9]
  have e2:moB p (t:Int)=false:=by unfold moB;rw[e1];rfl
  rw[e1,e2]
  clear e1 e2 hD
  rcases (show (t:Int)<1∨(¬(t:Int)<1∧(4:Int)<(t:Int)) by omega) with h | ⟨h,h'⟩
  all_goals
   clear hr
   go_enter Tryz.func250,Tryz.ntmps250
   go_upto_region 1 with fail
   rw[←hW1]
   clear hW1
   go_wp2_with (first | (go_at_call 136;refine(rnone_any b _ p _ HR.out).mono ?_;rintro e w1 ⟨rfl,h1⟩;obtain rfl:W1=w1:=h1.symm) | fail)
   refine bodyPost_ret (v:=.tuple #[mv Mk.none,.bool false]) (by simp[results,Tryz.results250,go_sem,mv,Mk.none,c0,c1,c2,c3]) rfl ⟨rfl,?_⟩
   exact grown_own HG1.out ((((grown_set _ _ _ _).trans (grown_set _ _ _ _)).trans (grown_set _ _ _ _)).trans (grown_set _ _ _ _)) (fun x e=>by cases e;exact Nat.le_refl _)
 ·have t1:¬(t:Int)<1:=by omega
  have t4:¬(4:Int)<(t:Int):=by omega
  have t0:(0:Int)≤(t:Int):=by omega
  have t5:(t:Int)<5:=by omega
  obtain⟨m,hm⟩:∃ m,p.mks[t]?=some m:=⟨_,List.getElem?_eq_getElem (by rw[HR.out.five];omega)⟩
  have e1:moM p (t:Int)=m:=by unfold moM;rw[if_pos t5,Int.toNat_natCast,List.getD_eq_getElem?_getD,hm];rfl
  have e2:moB p (t:Int)=!decide (m.nm=⟨#[]⟩):=by unfold moB;rw[e1]
  have hd:=hD.2 m (List.mem_of_getElem? hm)
  obtain⟨d0,d1,d2,d3⟩:=HR.out.mark hm
  rw[e1,e2]
  clear e1 e2 hm hD hr ht
  obtain⟨mi,nm,po,he⟩:=m
  simp only at d0 d1 d2 d3 hd ⊢
  by_cases hq:nm=⟨#[]⟩
  ·have hN:(⟨mi,nm,po,he⟩:Mk)=Mk.none:=by
    rcases hd with h | h
    ·exact h
    ·exact absurd hq h.2
   rw[decide_eq_true hq,hN]
   unfold Mk.none at hN
   injection hN with h1 h2 h3 h4
   subst h1 h2 h3 h4
   clear hd hq
   go_enter Tryz.func250,Tryz.ntmps250
   go_upto_region 1 with fail
   rw[←hW1]
   clear hW1
   go_wp2_with (first | (go_at_call 136;refine(rnone_any b _ p _ HR.out).mono ?_;rintro e w1 ⟨rfl,h1⟩;obtain rfl:W1=w1:=h1.symm) | fail)
   refine bodyPost_ret (v:=.tuple #[mv Mk.none,.bool false]) (by simp[results,Tryz.results250,go_sem,mv,Mk.none,c0,c1,c2,c3]) rfl ⟨rfl,?_⟩
   exact grown_own HG1.out ((((grown_set _ _ _ _).trans (grown_set _ _ _ _)).trans (grown_set _ _ _ _)).trans (grown_set _ _ _ _)) (fun x e=>by cases e;exact Nat.le_refl _)
  ·have hN:¬mi=0:=by
    rcases hd with h | h
    ·unfold Mk.none at h
     injection h with h1 h2 h3 h4
     exact absurd h2 hq
    ·exact h.1
   have q0:(mi == 0)=false:=by simpa using hN
   rw[decide_eq_false hq]
   clear hd hq hN
   go_enter Tryz.func250,Tryz.ntmps250
   go_upto_region 1 with fail
   rw[←hW1]
   clear hW1
   go_wp2_with (first | (go_at_call 136;refine(rnone_any b _ p _ HR.out).mono ?_;rintro e w1 ⟨rfl,h1⟩;obtain rfl:W1=w1:=h1.symm) | fail)
   refine bodyPost_ret (v:=.tuple #[mv ⟨mi,nm,po,he⟩,.bool true]) (by simp[results,Tryz.results250,go_sem,mv,c0,c1,c2,c3]) rfl ⟨rfl,?_⟩
   exact grown_own HG1.out ((((grown_set _ _ _ _).trans (grown_set _ _ _ _)).trans (grown_set _ _ _ _)).trans (grown_set _ _ _ _)) (fun x e=>by cases e;exact Nat.le_refl _)
structure Fe where
 ho:Int
 su:Int
 tr:Int
 po:Int
 he:Int
def Fe.none:Fe:=⟨0,0,0,0,0⟩
def fev (f:Fe):Value:=.agg #[.int .i64 f.ho,.int .u8 f.su,.int .u16 f.tr,.int .i64 f.po,.int .i64 f.he]
def fcs (f:Fe):Array Value:=#[.int .i64 f.ho,.int .u8 f.su,.int .u16 f.tr,.int .i64 f.po,.int .i64 f.he]
def InI (a:Int):Prop:=-9223372036854775808≤a∧a≤9223372036854775807
theorem inI_wrap (a:Int):InI (wrap64 a):=by unfold InI wrap64;omega
theorem wrap_in {a:Int} (h:InI a):wrap64 a=a:=by unfold InI at h;unfold wrap64;omega
def adw (a c m:Int):Int:=wrap64 (a+wrap64 (c*m))
def addP (a:Int) (l:List (Int×Mk)):Int:=l.foldl (fun a x=>adw a x.1 x.2.po) a
def addH (a:Int) (l:List (Int×Mk)):Int:=l.foldl (fun a x=>adw a x.1 x.2.he) a
theorem addP_snoc (a:Int) (l:List (Int×Mk)) (x:Int×Mk):addP a (l++[x])=adw (addP a l) x.1 x.2.po:=by unfold addP;rw[List.foldl_append];rfl
theorem addH_snoc (a:Int) (l:List (Int×Mk)) (x:Int×Mk):addH a (l++[x])=adw (addH a l) x.1 x.2.he:=by unfold addH;rw[List.foldl_append];rfl
theorem addP_in {a:Int} (h:InI a):∀ l:List (Int×Mk),InI (addP a l)
 | []=>h
 | x :: l=>addP_in (a:=adw a x.1 x.2.po) (inI_wrap _) l
theorem addH_in {a:Int} (h:InI a):∀ l:List (Int×Mk),InI (addH a l)
 | []=>h
 | x :: l=>addH_in (a:=adw a x.1 x.2.he) (inI_wrap _) l
def zs (p:Pl) (c0 c1 c2 c3:Int):List (Int×Mk):=[(c0,moM p 1),(c1,moM p 2),(c2,moM p 3),(c3,moM p 4)]
def low0 (a:Int):Int:=if a<0 then 0 else a
def mkdF (p:Pl) (f:Fe) (c0 c1 c2 c3:Int):Fe:=⟨f.ho,f.su,f.tr,low0 (addP f.po (zs p c0 c1 c2 c3)),addH f.he (zs p c0 c1 c2 c3)⟩
theorem moM_no {p:Pl} (hD:MkD p) {t:Int} (h:moB p t=false):(moM p t).po=0∧(moM p t).he=0:=by
 have hn:(moM p t).nm=⟨#[]⟩:=by unfold moB at h;simpa using h
 have hm:moM p t=Mk.none∨moM p t∈p.mks:=by
  unfold moM
  split
  ·rw[List.getD_eq_getElem?_getD]
   cases hk:p.mks[t.toNat]? with
   | none=>exact Or.inl rfl
   | some m=>exact Or.inr (List.mem_of_getElem? hk)
  ·exact Or.inl rfl
 rcases hm with hm | hm
 ·rw[hm];exact⟨rfl,rfl⟩
 ·rcases hD.2 _ hm with h1 | h1
  ·rw[h1];exact⟨rfl,rfl⟩
  ·exact absurd hn h1.2
def atC (p:Pl) (es:List Ent) (n:Int):Hd×List Pt:=if p.shut=true∧1≤n then (match es[(n - 1).toNat]? with | some e=>(e.h,e.ps) | none=>(Hd.none,[])) else (Hd.none,[])
def atX (p:Pl) (es:List Ent) (n:Int):Int:=if p.shut=true∧1≤n∧n≤(es.length:Int) then 0 else 6
def plF:List Pt→Nat→Int→List Int
 | [],_,_=>[]
 | q :: r,k,w=>if q.wn=w then (k:Int) :: plF r (k+1) w else plF r (k+1) w
end Go.Proofs.YthfjgpjcepmnmaaGreat
namespace Go.Proofs.YthfjgpjcepmnmaaGreat
structure Th where
 card:Int
 owner:Int
 place:Int
 stamp:Int
 hurt:Int
 m0:Int
 m1:Int
 m2:Int
 m3:Int
 done:Int
 fresh:Bool

def Th.home (t:Th) (tp:Int):Th:=⟨t.card,t.owner,tp,0,0,0,0,0,0,0,false⟩
def Th.off (t:Th):Prop:=t=t.home t.place
def Th.marked (t:Th):Prop:=(0≤t.m0∧t.m0≤99)∧(0≤t.m1∧t.m1≤99)∧(0≤t.m2∧t.m2≤99)∧(0≤t.m3∧t.m3≤99)
def Th.alone (t:Th) (nx:Int):Prop:=1≤t.card∧(t.owner=0∨t.owner=1)∧(1≤t.place∧t.place≤5)∧(t.place≠4→t.off)∧(t.place=4→1≤t.stamp∧t.stamp<nx∧0≤t.hurt∧0≤t.done∧t.marked)
def Th.none:Th:=⟨0,0,0,0,0,0,0,0,0,0,false⟩
def thAt (ts:List Th) (n:Int):Th:=ts.getD (n - 1).toNat Th.none
def there (ts:List Th) (n:Int):Prop:=1≤n∧n≤(ts.length:Int)
def inn (ts:List Th) (p pl n:Int):Prop:=there ts n∧(thAt ts n).owner=p∧(thAt ts n).place=pl
def Holds (ts:List Th) (l:List Int) (p pl:Int):Prop:=l.Nodup∧∀ n,n∈l↔inn ts p pl n
set_option maxHeartbeats 1000000
open Go.RowKit
def tHas (s k:Int):Bool:=bits .and .u16 s (tBit k) != 0
def tWith (s k:Int):Int:=bits .or .u16 s (tBit k)
def tWithout (s k:Int):Int:=bits .andNot .u16 s (tBit k)
theorem eight_or (k:Int):(k=1∨k=2∨k=3∨k=4∨k=5∨k=6∨k=7∨k=8)∨(k<1∨8<k):=by omega
theorem tBit_no {k:Int} (h:k<1∨8<k):tBit k=0:=by
 unfold tBit
 rw[if_neg (by omega),if_neg (by omega),if_neg (by omega),if_neg (by omega),if_neg (by omega),if_neg (by omega),if_neg (by omega),if_neg (by omega)]
theorem isTrait_yes (k:Int) (h1:1≤k) (h2:k≤8) (w:World):Calls Tryz.prog 258 #[.int .u8 k] w fun e w'=>e=.returned (.bool true)∧w'=w:=by
 go_enter Tryz.func258,Tryz.ntmps258
 go_wp2
 go_ret
 exact⟨rfl,rfl⟩
theorem isTrait_no (k:Int) (h:k<1∨8<k) (w:World):Calls Tryz.prog 258 #[.int .u8 k] w fun e w'=>e=.returned (.bool false)∧w'=w:=by
 rcases h with h | h
 ·go_enter Tryz.func258,Tryz.ntmps258
  go_wp2
  go_ret
  exact⟨rfl,rfl⟩
 ·have h1:(1:Int)≤k:=by omega
  have h2:decide (k≤8)=false:=decide_eq_false (by omega)
  clear h
  go_enter Tryz.func258,Tryz.ntmps258
  go_wp2
  go_ret
  exact⟨rfl,rfl⟩
theorem bit_any (k:Int) (w:World):Calls Tryz.prog 196 #[.int .u8 k] w fun e w'=>e=.returned (.int .u16 (tBit k))∧w'=w:=by
 rcases eight_or k with h | h
 ·rcases h with rfl | rfl | rfl | rfl | rfl | rfl | rfl | rfl
  all_goals
   go_enter Tryz.func196,Tryz.ntmps196
   go_wp2_with fail
   refine(isTrait_yes _ (by omega) (by omega) _).mono ?_
   rintro e w1 ⟨rfl,rfl⟩
   go_wp2
   go_ret
   exact⟨rfl,rfl⟩
 ·rw[tBit_no h]
  go_enter Tryz.func196,Tryz.ntmps196
  go_wp2_with fail
  refine(isTrait_no _ h _).mono ?_
  rintro e w1 ⟨rfl,rfl⟩
  go_wp2
  go_ret
  exact⟨rfl,rfl⟩
theorem has_any (s k:Int) (w:World):Calls Tryz.prog 129 #[.int .u16 s,.int .u8 k] w fun e w'=>e=.returned (.bool (tHas s k))∧w'=w:=by
 go_enter Tryz.func129,Tryz.ntmps129
 go_wp2_with fail
 refine(bit_any _ _).mono ?_
 rintro e w1 ⟨rfl,rfl⟩
 go_wp2
 go_ret
 exact⟨rfl,rfl⟩
theorem lay_no {v:Int} (h:¬(10≤v∧v≤15)):lay v=0:=by
 unfold lay
 rw[if_neg (by omega),if_neg (by omega),if_neg (by omega),if_neg (by omega),if_neg (by omega)]
theorem layer_any (v:Int) (w:World):Calls Tryz.prog 237 #[.int .u8 v] w fun e w'=>e=.returned (.int .i64 (lay v))∧w'=w:=by
 by_cases h:10≤v∧v≤15
 ·have:v=10∨v=11∨v=12∨v=13∨v=14∨v=15:=by omega
  rcases this with rfl | rfl | rfl | rfl | rfl | rfl
  all_goals
   go_enter Tryz.func237,Tryz.ntmps237
   go_wp2
   go_ret
   exact⟨rfl,rfl⟩
 ·rw[lay_no h]
  have e1:(v == 10)=false:=by simp;omega
  have e2:(v == 11)=false:=by simp;omega
  have e3:(v == 12)=false:=by simp;omega
  have e4:(v == 13)=false:=by simp;omega
  have e5:(v == 14)=false:=by simp;omega
  have e6:(v == 15)=false:=by simp;omega
  clear h
  go_enter Tryz.func237,Tryz.ntmps237
  go_wp2
  go_ret
  exact⟨rfl,rfl⟩
structure Sd where
 th:Int
 pl:Int
 wh:Pt
structure Se where
 s:Sd
 ro:Nat
structure Rw where
 nu:Int
 st:Int
 h:Hd
 ps:List Pt
def Sd.none:Sd:=⟨0,0,Pt.none⟩
def Se.none:Se:=⟨Sd.none,0⟩
def Rw.none:Rw:=⟨0,0,Hd.none,[]⟩
def isPl (x:Int):Bool:=decide (x=0) || decide (x=1)
def mayBeB (n:Int) (t:Th):Bool:=decide (1≤t.card) && decide (t.card≤n) && isPl t.owner && decide (1≤t.place) && decide (t.place≤5)
def mayLieB (t:Th) (f:Fe):Bool:=decide (0<t.stamp) && isPl f.ho && tCheck f.tr
def layF (n:Int) (cd:Int→Hd×List Pt):List (Th×Fe)→Nat→List Rw→Option (List Rw)
 | [],_,acc=>some acc
 | (t,f) :: r,i,acc =>
  if mayBeB n t=false then none
  else if t.place≠4 then layF n cd r (i+1) acc
  else if acc.length=16∨mayLieB t f=false then none
  else if (cd t.card).1.kd=2 then none
  else layF n cd r (i+1) (acc++[⟨(i:Int)+1,t.stamp,(cd t.card).1,(cd t.card).2⟩])
def dif:List Int→Bool
 | []=>true
 | a :: l=>(match l with | []=>true | b :: _=>decide (a≠b)) && dif l
def stampsR (R:List Rw):List Int:=R.map Rw.st
def sortR (R:List Rw):List Rw:=R.mergeSort fun a b=>decide (a.st≤b.st)
def tabR (n:Int) (cd:Int→Hd×List Pt) (ts:List Th) (fs:List Fe):Option (List Rw) :=
 if ts.length=fs.length then
  match layF n cd (ts.zip fs) 0 [] with
  | some acc=>if dif (stampsR (sortR acc)) then some (sortR acc) else none
  | none=>none
 else none
def pickF (R:List Rw) (fs:List Fe):List Fe:=R.map fun r=>fs.getD (r.nu - 1).toNat Fe.none
def meantB (wh:Pt) (own:Bool) (kd:Int) (f:Fe) (ho:Int):Bool :=
 if wh.wm=4 then own
 else if kd≠1 then false
 else if wh.wm=5 then decide (f.ho=ho)
 else if wh.wm=8 then decide (f.ho=ho) && !own
 else if wh.wm=6 then !decide (f.ho=ho)
 else if wh.wm=7 then true
 else if wh.wm=9 then decide (f.su=wh.su)
 else if wh.wm=10 then tHas f.tr wh.tr
 else false
def isAbB (R:List Rw) (F:List Fe) (s:Se) (i:Nat):Bool:=meantB s.s.wh (decide (i=s.ro)) (R.getD i Rw.none).h.kd (F.getD i Fe.none) (F.getD s.ro Fe.none).ho
def aboutU (R:List Rw) (F:List Fe) (s:Se) (k:Nat):List Bool:=(List.range k).map (isAbB R F s)
def aboutL (R:List Rw) (F:List Fe) (s:Se):List Bool:=aboutU R F s R.length
def doneF (f:Fe) (wh:Pt) (ho:Int):Fe :=
 if wh.vb=10 then { f with ho:=ho }
 else if wh.vb=11 then { f with su:=wh.su }
 else if wh.vb=12 then { f with tr:=tWith f.tr wh.tr }
 else if wh.vb=13 then { f with tr:=tWithout f.tr wh.tr }
 else if wh.vb=14 then { f with po:=wh.ct,he:=wh.ct }
 else if wh.vb=15 then { f with po:=wrap64 (f.po+wh.ct),he:=wrap64 (f.he+wh.ct) }
 else f
def applyAt (R:List Rw) (F:List Fe) (s:Se) (i:Nat):Fe:=if isAbB R F s i then doneF (F.getD i Fe.none) s.s.wh (F.getD s.ro Fe.none).ho else F.getD i Fe.none
def applyL (R:List Rw) (F:List Fe) (s:Se):List Fe:=(List.range F.length).map (applyAt R F s)
def depB (R:List Rw) (F:List Fe) (s o:Se):Bool:=!decide (aboutL R F s=aboutL R (applyL R F o) s)
def freeB (R:List Rw) (F:List Fe) (L:List Se) (i:Nat):Bool:=(List.range L.length).all fun j=>decide (i=j) || !depB R F (L.getD i Se.none) (L.getD j Se.none)
def nextN (R:List Rw) (F:List Fe) (L:List Se):Nat:=((List.range L.length).find? (freeB R F L)).getD 0
def effP (k:Int) (nu:Int) (ro:Nat) (ps:List Pt) (m:Nat):List Se:=(List.range m).filterMap fun i=>if (ps.getD i Pt.none).wn=5∧lay (ps.getD i Pt.none).vb=k then some ⟨⟨nu,(i:Int),ps.getD i Pt.none⟩,ro⟩ else none
def effR (R:List Rw) (F:List Fe) (k:Int) (i:Nat):List Se:=if tHas (F.getD i Fe.none).tr 6 then [] else effP k (R.getD i Rw.none).nu i (R.getD i Rw.none).ps (R.getD i Rw.none).ps.length
def effU (R:List Rw) (F:List Fe) (k:Int) (m:Nat):List Se:=(List.range m).flatMap (effR R F k)
def effL (R:List Rw) (F:List Fe) (k:Int):List Se:=effU R F k R.length
def allL (R:List Rw):Nat→List Fe→List Se→List Se→List Fe×List Se
 | 0,F,_,acc=>(F,acc)
 | n+1,F,L,acc=>if L=[] then (F,acc) else allL R n (applyL R F (L.getD (nextN R F L) Se.none)) (L.eraseIdx (nextN R F L)) (acc++[L.getD (nextN R F L) Se.none])
def amgU (fs:List Fe) (R:List Rw) (F:List Fe) (m:Nat):List Fe:=(List.range m).foldl (fun a i=>a.set ((R.getD i Rw.none).nu - 1).toNat (F.getD i Fe.none)) fs
def amgL (fs:List Fe) (R:List Rw) (F:List Fe):List Fe:=amgU fs R F R.length
def hasSt (ps:List Pt) (s:Sd):Bool:=decide (0≤s.pl) && decide (s.pl<(ps.length:Int)) && (decide (s.wh.wn=5) && samep (ps.getD s.pl.toNat Pt.none) s.wh)
def rowOf (R:List Rw) (n:Int):Option Nat:=R.findIdx? fun r=>decide (r.nu=n)
def findF (R:List Rw) (s:Sd):Option Se:=match rowOf R s.th with
 | some i=>if hasSt (R.getD i Rw.none).ps s then some ⟨s,i⟩ else none
 | none=>none
def clashB (s o:Se):Bool:=(decide (s.s.th=o.s.th) && decide (s.s.pl=o.s.pl)) || !decide (lay s.s.wh.vb=lay o.s.wh.vb)
def joinsB (s:Se) (L:List Se):Bool:=L.all fun o=>!clashB s o
def listF (R:List Rw):List Sd→List Se→Option (List Se)
 | [],acc=>some acc
 | s :: l,acc=>match findF R s with
  | some e=>if joinsB e acc then listF R l (acc++[e]) else none
  | none=>none
end Go.Proofs.YthfjgpjcepmnmaaGreat
