/-
  
  
  
  
  
  
  
  
  
  
  
  
  
  
  
  
  
  
  
  
  
  
  
  
  
  
  
  
  
  
  
  
  
  
  
  
  
-/
import Derived.Test.YtjmepebbcnhalaaGreatWKtF
import Derived.Test.YtjmepebbcnhalaaGreatW15
import Derived.Test.YtjmepebbcnhalaaGreatW33
import Derived.Test.YtjmepebbcnhalaaGreatWLyK
import Derived.Test.YtjmepebbcnhalaaGreatWRyA
import Derived.Test.YtjmepebbcnhalaaGreatW37
import Derived.Test.YtjmepebbcnhalaaGreatW24
import Derived.Test.YtjmepebbcnhalaaGreatW14
import Derived.Test.YtjmepebbcnhalaaGreatW34
import Derived.Test.YtjmepebbcnhalaaGreatW26
import Derived.Test.YtjmepebbcnhalaaGreatWLyF
import Derived.Test.YtjmepebbcnhalaaGreatW32
import Derived.Test.YtjmepebbcnhalaaGreatW39
import Derived.Test.YtjmepebbcnhalaaGreatW41
import Derived.Shelf.SlSortCmp.NoneTotal
import Derived.Lib.RowBridge
import Derived.Lib.SortBridge
import Derived.BigQuiet
import Derived.Test.YtjmepebbcnhalaaGreatW13
import Derived.OwnWalk
import Derived.Maps.AppendAt
import Derived.Test.YtjmepebbcnhalaaGreatW44
import Derived.Maps.OwnSet
import Derived.Laws.EntriesVeiled
import Derived.Deep.LoopGhost
import Derived.Test.YtjmepebbcnhalaaGreatW46
import Derived.Test.YtjmepebbcnhalaaGreatW43
import Derived.Test.YtjmepebbcnhalaaGreatW42
import Derived.Test.YtjmepebbcnhalaaGreatRows
import Derived.WalkKit
import Derived.WalkSpells
import Derived.WalkLawsBesides
import Derived.Deep.RegionHeld3
import Derived.Laws.CopyOwn
import Derived.Deep.RegionLaw
import Derived.Deep.QuietTactic
import Derived.Test.YtjmepebbcnhalaaGreatW48
import Derived.Laws.MakeOwn
import Derived.Laws.AppendOwnNone
import Derived.Laws.OwnMore
import Derived.Deep.AppendLies
import Derived.Maps.RangeWalk
namespace Go.Proofs.YtjmepebbcnhalaaGreat
set_option maxRecDepth 100000
open Go.RowKit Go.Shelf

def jA:Value→Lst
 | .slice p n c=>⟨p.map (·.block),n,c⟩
 | _=>⟨none,0,0⟩
theorem aB.Own.past {α:Type} {R:aB α} {T:TypeId} {w w':World} {base:Nat} {v:Value} {l:List α} {q:Option Nat} (h:R.Own T w base v l) (g:w.grownBy w' q) (hq:∀ y,q=some y→y<base):R.Own T w' base v l:=by
 unfold aB.Own at h ⊢
 refine World.ownsRow.kept h g ?_
 cases hv:v.ownBlock with
 | none=>exact Or.inl rfl
 | some x =>
  refine Or.inr fun e=>?_
  have z:=(World.ownsRow.lt h x hv).1
  have y:=hq x e.symm
  omega
structure Rws {α:Type} (R:aB α) (T:TypeId) (w:World) (Q:List (Nat×Value×List α)):Prop where
 all:∀ a∈Q,R.Own T w a.1 a.2.1 a.2.2
 ap:Q.Pairwise fun a b=>∀ x,b.2.1.ownBlock=some x→x<a.1
theorem Rws.nil {α:Type} (R:aB α) (T:TypeId) (w:World):Rws R T w []:=⟨fun a h=>(by cases h),List.Pairwise.nil⟩
theorem Rws.past {α:Type} {R:aB α} {T:TypeId} {w w':World} {Q:List (Nat×Value×List α)} {q:Option Nat} (h:Rws R T w Q) (g:w.grownBy w' q) (hq:∀ y,q=some y→∀ a∈Q,y<a.1):Rws R T w' Q:=⟨fun a ha=>(h.all a ha).past g (fun y e=>hq y e a ha),h.ap⟩
theorem Rws.keep {α:Type} {R:aB α} {T:TypeId} {w w':World} {Q:List (Nat×Value×List α)} (h:Rws R T w Q) (g:w.grownBy w' none):Rws R T w' Q:=h.past g (fun y e=>by cases e)
theorem Rws.cons {α:Type} {R:aB α} {T:TypeId} {w w':World} {Q:List (Nat×Value×List α)} {v:Value} {l:List α} (h:Rws R T w Q) (g:w.grownBy w' none) (o:R.Own T w' w.heap.size v l):Rws R T w' ((w.heap.size,v,l) :: Q):=by
 refine⟨fun a ha=>?_,List.Pairwise.cons (fun a ha x hx=>((h.all a ha).lt x hx).2) h.ap⟩
 rcases List.mem_cons.1 ha with e | e
 ·rw[e];exact o
 ·exact(h.keep g).all a e
theorem pG {S:List Nat} {w w':World} {T:TypeId} (k:Kpt S w w') (hS:∀ t∈S,∃ cs,w.heap[t]?=some (.cells cs T (0,0))) {base e size n:Nat} {v:Value} {xs:List Value} (hne:T≠e) (h:w.ownsRow base e size v n xs):w'.ownsRow base e size v n xs:=by
 refine⟨h.1,?_⟩
 rcases h.2 with h1 | ⟨g,cap,cur,e1,hb,hh,rest⟩
 ·exact Or.inl h1
 ·refine Or.inr ⟨g,cap,cur,e1,hb,?_,rest⟩
  rw[k.block g (bn hh) (fun hg=>by
   obtain⟨cs,hc⟩:=hS g hg
   rw[hh] at hc
   cases hc
   exact hne rfl)]
  exact hh
theorem kG {w:World} {base:Nat} {v:Value} {l:List Fe} (h:feR.Own 122 w base v l):(jA v).v=v∧(jA v).okF w∧(jA v).a=v.ownBlock:=by
 unfold aB.Own at h
 rcases h.2 with ⟨e,h0⟩ | ⟨g,cap,cur,e,hb,hh,hn,hm,hs,ht⟩
 ·rw[e]
  exact⟨rfl,Or.inl ⟨rfl,rfl,rfl⟩,rfl⟩
 ·rw[e]
  exact⟨rfl,Or.inr ⟨g,rfl,hn,hm,cur,hh,hs⟩,rfl⟩
theorem uv {w0 w:World} {g c n:Nat} {Q:List (Nat×Value×List Fe)} (g0:w0.grownBy w none) (h:Rws feR 122 w Q) (hb:∀ a∈Q,w0.heap.size≤a.1) (hn:Q.length=n) (h0:0<n) (h3:n≤40) (hA:∀ (j:Nat) a,Q.reverse[j]?=some a→w.cell? ⟨g,j,none⟩=some a.2.1):Calls Tryz.prog 25 #[.slice (some ⟨g,0,none⟩) n c] w fun e w'=>e=.returned (.bool true)∧w0.grownBy w' none∧∀ {base e size n:Nat} {v:Value} {xs:List Value},122≠e→w.ownsRow base e size v n xs→w'.ownsRow base e size v n xs:=by
 subst hn
 obtain⟨P,hP⟩:∃ P,P=Q.reverse:=⟨_,rfl⟩
 have hm:∀ a,a∈P↔a∈Q:=fun a=>by rw[hP,List.mem_reverse]
 have hp:P.Pairwise fun a b=>∀ x,a.2.1.ownBlock=some x→x<b.1:=by rw[hP,List.pairwise_reverse];exact h.ap
 obtain⟨T,hT⟩:∃ T,T=P.map fun a=>jA a.2.1:=⟨_,rfl⟩
 have hl:Q.length=T.length:=by rw[hT,List.length_map,hP,List.length_reverse]
 rw[←hP] at hA
 rw[hl] at h0 h3 ⊢
 have key:∀ (j:Nat) x,T[j]?=some x→∃ a,P[j]?=some a∧a∈Q∧x=jA a.2.1:=fun j x hx=>by
  rw[hT,List.getElem?_map] at hx
  cases e:P[j]? with
  | none=>rw[e] at hx;cases hx
  | some a=>rw[e] at hx;exact⟨a,rfl,(hm a).1 (List.mem_of_getElem? e),(Option.some.inj hx).symm⟩
 clear hT hl hP
 have dif:∀ (i j:Nat) (x y:Lst) (t:Nat),i<j→T[i]?=some x→T[j]?=some y→x.a=some t→y.a=some t→False:=fun i j x y t hij hi hj hx hy=>by
  obtain⟨a,ea,ma,rfl⟩:=key i x hi
  obtain⟨b,eb,mb,rfl⟩:=key j y hj
  have q1:=(List.getElem?_eq_some_iff.1 ea)
  have q2:=(List.getElem?_eq_some_iff.1 eb)
  have z:=List.pairwise_iff_getElem.1 hp i j q1.1 q2.1 hij t (by rw[q1.2,←(kG (h.all a ma)).2.2];exact hx)
  rw[q2.2] at z
  have u:=((h.all b mb).lt t (by rw[←(kG (h.all b mb)).2.2];exact hy)).1
  omega
 have C:=tS g c T w h0 h3 (fun j x hx=>by
  obtain⟨a,ea,ma,rfl⟩:=key j x hx
  rw[hA j a ea,(kG (h.all a ma)).1]) (fun x hx=>by
  obtain⟨j,hj⟩:=List.getElem?_of_mem hx
  obtain⟨a,ea,ma,rfl⟩:=key j x hj
  exact(kG (h.all a ma)).2.1) (fun i j x y t hi hj hx hy=>by
  rcases Nat.lt_trichotomy i j with z | z | z
  ·exact(dif i j x y t z hi hj hx hy).elim
  ·exact z
  ·exact(dif j i y x t z hj hi hy hx).elim)
 refine C.mono fun e w' q=>⟨q.1,Kpt.new g0 q.2 (fun t ht=>?_),fun hne ho=>pG q.2 (fun t ht=>?_) hne ho⟩
 ·unfold aU at ht
  obtain⟨x,hx,e⟩:=List.mem_filterMap.1 ht
  obtain⟨j,hj⟩:=List.getElem?_of_mem hx
  obtain⟨a,ea,ma,rfl⟩:=key j x hj
  have u:=((h.all a ma).lt t (by rw[←(kG (h.all a ma)).2.2];exact e)).1
  have y:=hb a ma
  omega
 ·unfold aU at ht
  obtain⟨x,hx,e⟩:=List.mem_filterMap.1 ht
  obtain⟨j,hj⟩:=List.getElem?_of_mem hx
  obtain⟨a,ea,ma,rfl⟩:=key j x hj
  rcases (kG (h.all a ma)).2.1 with ⟨q1,_⟩ | ⟨g',q1,_,_,cs,q2,_⟩
  ·rw[q1] at e;cases e
  ·rw[q1] at e
   cases e
   exact⟨cs,q2⟩
theorem kA {w:World} {base:Nat} {v:Value} {l:List Sd} (h:sdR.Own 64 w base v l):(jA v).v=v∧(jA v).okD w∧(jA v).a=v.ownBlock:=by
 unfold aB.Own at h
 rcases h.2 with ⟨e,h0⟩ | ⟨g,cap,cur,e,hb,hh,hn,hm,hs,ht⟩
 ·rw[e]
  exact⟨rfl,Or.inl ⟨rfl,rfl,rfl⟩,rfl⟩
 ·rw[e]
  exact⟨rfl,Or.inr ⟨g,rfl,hn,hm,cur,hh,hs⟩,rfl⟩
theorem tJ {w0 w:World} {g c n:Nat} {Q:List (Nat×Value×List Sd)} (g0:w0.grownBy w none) (h:Rws sdR 64 w Q) (hb:∀ a∈Q,w0.heap.size≤a.1) (hn:Q.length=n) (h0:0<n) (h3:n≤40) (hA:∀ (j:Nat) a,Q.reverse[j]?=some a→w.cell? ⟨g,j,none⟩=some a.2.1):Calls Tryz.prog 26 #[.slice (some ⟨g,0,none⟩) n c] w fun e w'=>e=.returned (.bool true)∧w0.grownBy w' none∧∀ {base e size n:Nat} {v:Value} {xs:List Value},64≠e→w.ownsRow base e size v n xs→w'.ownsRow base e size v n xs:=by
 subst hn
 obtain⟨P,hP⟩:∃ P,P=Q.reverse:=⟨_,rfl⟩
 have hm:∀ a,a∈P↔a∈Q:=fun a=>by rw[hP,List.mem_reverse]
 have hp:P.Pairwise fun a b=>∀ x,a.2.1.ownBlock=some x→x<b.1:=by rw[hP,List.pairwise_reverse];exact h.ap
 obtain⟨T,hT⟩:∃ T,T=P.map fun a=>jA a.2.1:=⟨_,rfl⟩
 have hl:Q.length=T.length:=by rw[hT,List.length_map,hP,List.length_reverse]
 rw[←hP] at hA
 rw[hl] at h0 h3 ⊢
 have key:∀ (j:Nat) x,T[j]?=some x→∃ a,P[j]?=some a∧a∈Q∧x=jA a.2.1:=fun j x hx=>by
  rw[hT,List.getElem?_map] at hx
  cases e:P[j]? with
  | none=>rw[e] at hx;cases hx
  | some a=>rw[e] at hx;exact⟨a,rfl,(hm a).1 (List.mem_of_getElem? e),(Option.some.inj hx).symm⟩
 clear hT hl hP
 have dif:∀ (i j:Nat) (x y:Lst) (t:Nat),i<j→T[i]?=some x→T[j]?=some y→x.a=some t→y.a=some t→False:=fun i j x y t hij hi hj hx hy=>by
  obtain⟨a,ea,ma,rfl⟩:=key i x hi
  obtain⟨b,eb,mb,rfl⟩:=key j y hj
  have q1:=(List.getElem?_eq_some_iff.1 ea)
  have q2:=(List.getElem?_eq_some_iff.1 eb)
  have z:=List.pairwise_iff_getElem.1 hp i j q1.1 q2.1 hij t (by rw[q1.2,←(kA (h.all a ma)).2.2];exact hx)
  rw[q2.2] at z
  have u:=((h.all b mb).lt t (by rw[←(kA (h.all b mb)).2.2];exact hy)).1
  omega
 have C:=tL g c T w h0 h3 (fun j x hx=>by
  obtain⟨a,ea,ma,rfl⟩:=key j x hx
  rw[hA j a ea,(kA (h.all a ma)).1]) (fun x hx=>by
  obtain⟨j,hj⟩:=List.getElem?_of_mem hx
  obtain⟨a,ea,ma,rfl⟩:=key j x hj
  exact(kA (h.all a ma)).2.1) (fun i j x y t hi hj hx hy=>by
  rcases Nat.lt_trichotomy i j with z | z | z
  ·exact(dif i j x y t z hi hj hx hy).elim
  ·exact z
  ·exact(dif j i y x t z hj hi hy hx).elim)
 refine C.mono fun e w' q=>⟨q.1,Kpt.new g0 q.2 (fun t ht=>?_),fun hne ho=>pG q.2 (fun t ht=>?_) hne ho⟩
 ·unfold aU at ht
  obtain⟨x,hx,e⟩:=List.mem_filterMap.1 ht
  obtain⟨j,hj⟩:=List.getElem?_of_mem hx
  obtain⟨a,ea,ma,rfl⟩:=key j x hj
  have u:=((h.all a ma).lt t (by rw[←(kA (h.all a ma)).2.2];exact e)).1
  have y:=hb a ma
  omega
 ·unfold aU at ht
  obtain⟨x,hx,e⟩:=List.mem_filterMap.1 ht
  obtain⟨j,hj⟩:=List.getElem?_of_mem hx
  obtain⟨a,ea,ma,rfl⟩:=key j x hj
  rcases (kA (h.all a ma)).2.1 with ⟨q1,_⟩ | ⟨g',q1,_,_,cs,q2,_⟩
  ·rw[q1] at e;cases e
  ·rw[q1] at e
   cases e
   exact⟨cs,q2⟩
end Go.Proofs.YtjmepebbcnhalaaGreat
namespace Go.Proofs.YtjmepebbcnhalaaGreat
open Go.RowKit

structure Hp where
 vb:Int
 on:Int
 ct:Int
 ho:Int
 vn:Bool
 dr:Bool
 deriving DecidableEq
def Hp.none:Hp:=⟨0,0,0,0,false,false⟩
end Go.Proofs.YtjmepebbcnhalaaGreat
namespace Go.Proofs.YtjmepebbcnhalaaGreat
open Go.RowKit

end Go.Proofs.YtjmepebbcnhalaaGreat
namespace Go.Proofs.YtjmepebbcnhalaaGreat
open Go.RowKit

end Go.Proofs.YtjmepebbcnhalaaGreat
namespace Go.Proofs.YtjmepebbcnhalaaGreat
open Go.RowKit Go.Shelf

theorem aB.At.take {α:Type} {R:aB α} {w:World} {p:Option Addr} {n c:Nat} {l:List α} (h:R.At w (.slice p n c) l) (m:Nat) (hm:m≤n):R.At w (.slice p m c) (l.take m):=by
 obtain⟨p',c',e,hl,h1⟩:=h
 injection e with e1 e2 e3
 subst e1
 subst e3
 have hlm:(l.take m).length=m:=by rw[List.length_take];omega
 refine⟨p,c,by rw[hlm],by rw[hlm];omega,fun h0=>?_⟩
 rw[hlm] at h0
 obtain⟨g,off,e,hc⟩:=h1 (by omega)
 exact⟨g,off,e,fun j x hj=>hc j x (by
  rw[List.getElem?_take] at hj
  split at hj
  ·exact hj
  ·cases hj)⟩
end Go.Proofs.YtjmepebbcnhalaaGreat
namespace Go.Proofs.YtjmepebbcnhalaaGreat
open Go.RowKit Go.Shelf

end Go.Proofs.YtjmepebbcnhalaaGreat
namespace Go.Proofs.YtjmepebbcnhalaaGreat
open Go.RowKit Go.Shelf

end Go.Proofs.YtjmepebbcnhalaaGreat
namespace Go.Proofs.YtjmepebbcnhalaaGreat
open Go.RowKit Go.Shelf

end Go.Proofs.YtjmepebbcnhalaaGreat
namespace Go.Proofs.YtjmepebbcnhalaaGreat
open Go.RowKit Go.Shelf

end Go.Proofs.YtjmepebbcnhalaaGreat
namespace Go.Proofs.YtjmepebbcnhalaaGreat
open Go.RowKit Go.Shelf

end Go.Proofs.YtjmepebbcnhalaaGreat
namespace Go.Proofs.YtjmepebbcnhalaaGreat
open Go.RowKit Go.Shelf

end Go.Proofs.YtjmepebbcnhalaaGreat
namespace Go.Proofs.YtjmepebbcnhalaaGreat
open Go.RowKit Go.Shelf

end Go.Proofs.YtjmepebbcnhalaaGreat
namespace Go.Proofs.YtjmepebbcnhalaaGreat
open Go.RowKit

end Go.Proofs.YtjmepebbcnhalaaGreat
namespace Go.Proofs.YtjmepebbcnhalaaGreat
open Go.RowKit

end Go.Proofs.YtjmepebbcnhalaaGreat
namespace Go.Proofs.YtjmepebbcnhalaaGreat
open Go.RowKit

end Go.Proofs.YtjmepebbcnhalaaGreat
namespace Go.Proofs.YtjmepebbcnhalaaGreat
open Go.RowKit

end Go.Proofs.YtjmepebbcnhalaaGreat
namespace Go.Proofs.YtjmepebbcnhalaaGreat
open Go.RowKit

end Go.Proofs.YtjmepebbcnhalaaGreat
namespace Go.Proofs.YtjmepebbcnhalaaGreat
open Go.RowKit

end Go.Proofs.YtjmepebbcnhalaaGreat
namespace Go.Proofs.YtjmepebbcnhalaaGreat
open Go.RowKit

end Go.Proofs.YtjmepebbcnhalaaGreat
namespace Go.Proofs.YtjmepebbcnhalaaGreat
open Go.RowKit

end Go.Proofs.YtjmepebbcnhalaaGreat
namespace Go.Proofs.YtjmepebbcnhalaaGreat
open Go.RowKit Go.MapKept Go.ChangeMaps

end Go.Proofs.YtjmepebbcnhalaaGreat
namespace Go.Proofs.YtjmepebbcnhalaaGreat
open Go.RowKit

end Go.Proofs.YtjmepebbcnhalaaGreat
namespace Go.Proofs.YtjmepebbcnhalaaGreat
open Go.RowKit

end Go.Proofs.YtjmepebbcnhalaaGreat
namespace Go.Proofs.YtjmepebbcnhalaaGreat
open Go.RowKit Go.Shelf

end Go.Proofs.YtjmepebbcnhalaaGreat
namespace Go.Proofs.YtjmepebbcnhalaaGreat
open Go.RowKit

end Go.Proofs.YtjmepebbcnhalaaGreat
namespace Go.Proofs.YtjmepebbcnhalaaGreat
open Go.RowKit Go.Shelf

end Go.Proofs.YtjmepebbcnhalaaGreat
namespace Go.Proofs.YtjmepebbcnhalaaGreat
open Go.RowKit

end Go.Proofs.YtjmepebbcnhalaaGreat
namespace Go.Proofs.YtjmepebbcnhalaaGreat
open Go.RowKit

end Go.Proofs.YtjmepebbcnhalaaGreat
namespace Go.Proofs.YtjmepebbcnhalaaGreat
open Go.RowKit

end Go.Proofs.YtjmepebbcnhalaaGreat
namespace Go.Proofs.YtjmepebbcnhalaaGreat
open Go.RowKit Go.Shelf

end Go.Proofs.YtjmepebbcnhalaaGreat
namespace Go.Proofs.YtjmepebbcnhalaaGreat
open Go.RowKit Go.Shelf

theorem vw {r n:Int} {cd:Int→Hd×List Pt} {ts:List Th} {fs:List Fe} {S:List Sd} (h:lkE r n cd ts fs S=0):r=0∧∃ R L,bi n cd ts fs=some R∧aN R S []=some L:=by
 by_cases hr:r=0
 ·subst hr
  cases hT:bi n cd ts fs with
  | none=>rw[jG hT] at h;exact absurd h (by decide)
  | some R =>
   cases hL:aN R S [] with
   | none=>rw[gD hT hL] at h;exact absurd h (by decide)
   | some L=>exact⟨rfl,R,L,rfl,hL⟩
 ·rw[mg hr] at h;exact absurd h hr
def abF (r n:Int) (cd:Int→Hd×List Pt) (ts:List Th) (fs:List Fe) (s:Sd):List Int:=if lkE r n cd ts fs [s]=0 then (match bi n cd ts fs with | some R=>(match aN R [s] [] with | some (d :: _)=>dA R (aM R (aq R fs) d) | _=>[]) | none=>[]) else []
def apF (r n:Int) (cd:Int→Hd×List Pt) (ts:List Th) (fs:List Fe) (s:Sd):List Fe:=if lkE r n cd ts fs [s]=0 then (match bi n cd ts fs with | some R=>(match aN R [s] [] with | some (d :: _)=>cJ fs R (aP R (aq R fs) d) | _=>[]) | none=>[]) else []
def dpF (r n:Int) (cd:Int→Hd×List Pt) (ts:List Th) (fs:List Fe) (s o:Sd):Bool:=if lkE r n cd ts fs [s,o]=0 then (match bi n cd ts fs with | some R=>(match aN R [s,o] [] with | some (d :: e :: _)=>eX R (aq R fs) d e | _=>false) | none=>false) else false
def efF (r n:Int) (cd:Int→Hd×List Pt) (ts:List Th) (fs:List Fe) (k:Int):List Sd:=if bgE r n cd ts fs k=0 then (match bi n cd ts fs with | some R=>(cU R (aq R fs) k).map Se.s | none=>[]) else []
def alX (r n:Int) (cd:Int→Hd×List Pt) (ts:List Th) (fs:List Fe) (k:Int):List Fe:=if bgE r n cd ts fs k=0 then (match bi n cd ts fs with | some R=>cJ fs R (ix R fs k).1 | none=>[]) else []
def alY (r n:Int) (cd:Int→Hd×List Pt) (ts:List Th) (fs:List Fe) (k:Int):List Sd:=if bgE r n cd ts fs k=0 then (match bi n cd ts fs with | some R=>(ix R fs k).2.map Se.s | none=>[]) else []
def AbP (q:Int) (I:List Int) (Y:World) (e:Ending) (w':World):Prop:=∃ v,e=.returned (.tuple #[v,.int .i64 q])∧Y.grownBy w' none∧aQ w' Y.heap.size v I
def FPl (q:Int) (L:List Fe) (Y:World) (e:Ending) (w':World):Prop:=∃ v,e=.returned (.tuple #[v,.int .i64 q])∧Y.grownBy w' none∧feR.Own 122 w' Y.heap.size v L
def DPl (q:Int) (L:List Sd) (Y:World) (e:Ending) (w':World):Prop:=∃ v,e=.returned (.tuple #[v,.int .i64 q])∧Y.grownBy w' none∧sdR.Own 64 w' Y.heap.size v L
def FDP (q:Int) (L:List Fe) (S:List Sd) (Y:World) (e:Ending) (w':World):Prop:=∃ v u,e=.returned (.tuple #[v,u,.int .i64 q])∧Y.grownBy w' none∧feR.Own 122 w' Y.heap.size v L∧sdR.Own 64 w' Y.heap.size u S
def DpP (q:Int) (b:Bool) (Y:World) (e:Ending) (w':World):Prop:=e=.returned (.tuple #[.bool b,.int .i64 q])∧Y.grownBy w' none
section
variable {w w':World} {r n k:Int} {cd:Int→Hd×List Pt} {ts:List Th} {fs:List Fe} {s o:Sd} {S:List Sd} {e:Ending}
theorem gJ.ab (h:gJ w r n cd ts fs s e w'):AbP (lkE r n cd ts fs [s]) (abF r n cd ts fs s) w e w':=by
 obtain⟨p,m,c,e1,g,h0,h1⟩:=h
 refine⟨_,e1,g,?_⟩
 by_cases q:lkE r n cd ts fs [s]=0
 ·obtain⟨hr,R,L,hT,hL⟩:=vw q
  obtain⟨d,rfl⟩:=qt hL
  unfold abF
  rw[if_pos q,hT]
  simp only
  rw[hL]
  exact h1 R d hr hT hL
 ·obtain⟨rfl,rfl,rfl⟩:=h0 q
  unfold abF
  rw[if_neg q]
  exact World.ownsRow_nil _ _ _ _
theorem gK.ap (h:gK w r n cd ts fs s e w'):FPl (lkE r n cd ts fs [s]) (apF r n cd ts fs s) w e w':=by
 obtain⟨p,m,c,e1,g,h0,h1⟩:=h
 refine⟨_,e1,g,?_⟩
 by_cases q:lkE r n cd ts fs [s]=0
 ·obtain⟨hr,R,L,hT,hL⟩:=vw q
  obtain⟨d,rfl⟩:=qt hL
  unfold apF
  rw[if_pos q,hT]
  simp only
  rw[hL]
  exact h1 R d hr hT hL
 ·obtain⟨rfl,rfl,rfl⟩:=h0 q
  unfold apF
  rw[if_neg q]
  exact aB.Own.nil _ _ _ _
theorem gi.dp (h:gi w r n cd ts fs s o e w'):DpP (lkE r n cd ts fs [s,o]) (dpF r n cd ts fs s o) w e w':=by
 obtain⟨b,e1,g,h0,h1⟩:=h
 refine⟨?_,g⟩
 rw[e1]
 have z:b=dpF r n cd ts fs s o:=by
  by_cases q:lkE r n cd ts fs [s,o]=0
  ·obtain⟨hr,R,L,hT,hL⟩:=vw q
   obtain⟨d,f,rfl⟩:=tx hL
   unfold dpF
   rw[if_pos q,hT]
   simp only
   rw[hL]
   exact h1 R d f hr hT hL
  ·unfold dpF
   rw[if_neg q]
   exact h0 q
 rw[z]
theorem BB (h:bgE r n cd ts fs k=0):r=0∧(1≤k∧k≤5)∧∃ R,bi n cd ts fs=some R:=jw h
theorem ft.ef (h:ft w r n cd ts fs k e w'):DPl (bgE r n cd ts fs k) (efF r n cd ts fs k) w e w':=by
 obtain⟨p,m,c,e1,g,h0,h1⟩:=h
 refine⟨_,e1,g,?_⟩
 by_cases q:bgE r n cd ts fs k=0
 ·obtain⟨hr,hk,R,hT⟩:=BB q
  unfold efF
  rw[if_pos q,hT]
  exact h1 R hr hk hT
 ·obtain⟨rfl,rfl,rfl⟩:=h0 q
  unfold efF
  rw[if_neg q]
  exact aB.Own.nil _ _ _ _
theorem jc.al (h:jc w r n cd ts fs k e w'):FDP (bgE r n cd ts fs k) (alX r n cd ts fs k) (alY r n cd ts fs k) w e w':=by
 obtain⟨p,m,c,p',m',c',e1,g,h0,h1⟩:=h
 refine⟨_,_,e1,g,?_⟩
 by_cases q:bgE r n cd ts fs k=0
 ·obtain⟨hr,hk,R,hT⟩:=BB q
  unfold alX alY
  rw[if_pos q,if_pos q,hT]
  exact h1 R hr hk hT
 ·obtain⟨rfl,rfl,rfl,rfl,rfl,rfl⟩:=h0 q
  unfold alX alY
  rw[if_neg q,if_neg q]
  exact⟨aB.Own.nil _ _ _ _,aB.Own.nil _ _ _ _⟩
end
end Go.Proofs.YtjmepebbcnhalaaGreat
namespace Go.Proofs.YtjmepebbcnhalaaGreat.L
open Go.RowKit

theorem ji {P:Program} {w w1:World} {ops:Array Oper} {rest:List Oper} {o:Oper} {a:Act} {Q:Exit→Act→World→Prop} (hgd:o.guard=none) (t:TypeId) (parts:Array (Nat×Operand))
  (ho:o.op=.build t parts) (vs:Array (Nat×Value)) (hv:(parts.map fun (i,x)=>(i,a.eval x))=vs) (v:Value) (hrun:(Instr.build t vs).run P w=.ok v w1) (h:wpList P ops Q rest (a.put o.dst v) w1):wpList P ops Q (o :: rest) a w:=by
 refine wpList_plain hgd fun K hK=>?_
 unfold Oper.wp
 simp only[execOp,ho,Sem.run_bind,hv,hrun,Result.andThen_ok]
 exact hK _ _ h
theorem qz {P:Program} {w w1:World} {ops:Array Oper} {rest:List Oper} {o:Oper} {a:Act} {Q:Exit→Act→World→Prop} (hgd:o.guard=none) (t:TypeId) (x:Operand)
  (ho:o.op=.box t x) (y:Value) (hy:a.eval x=y) (v:Value) (hrun:(Instr.box t y).run P w=.ok v w1) (h:wpList P ops Q rest (a.put o.dst v) w1):wpList P ops Q (o :: rest) a w:=by
 refine wpList_plain hgd fun K hK=>?_
 unfold Oper.wp
 simp only[execOp,ho,Sem.run_bind,hy,hrun,Result.andThen_ok]
 exact hK _ _ h

def ints (l:List Int):List Value:=l.map fun z=>Value.int .i64 z
theorem qE (l:List Int) (i:Nat) (h:i<l.length):(ints l)[i]?=some (.int .i64 (l.getD i 0)):=by
 simp[ints,List.getD,List.getElem?_eq_getElem h]
theorem ae {w:World} {b:Nat} {cs:Array Value} {t:TypeId} (h:w.heap[b]?=some (.cells cs t (0,0))) (i:Nat):w.cell? ⟨b,i,none⟩=cs[i]?:=by simp[World.cell?,h]
theorem aA {w:World} {b:Nat} {cs:Array Value} {t:TypeId} (h:w.heap[b]?=some (.cells cs t (0,0))) (i:Nat):w.frozen? ⟨b,i,none⟩=false:=by simp[World.frozen?,h]
theorem aF {w:World} {b:Nat} {cs:Array Value} {t:TypeId} (h:w.heap[b]?=some (.cells cs t (0,0))) (i:Nat) (v:Value):(w.setCell ⟨b,i,none⟩ v).heap[b]?=some (.cells (cs.setIfInBounds i v) t (0,0)):=by
 simp[World.setCell,Array.getElem?_modify,h]
theorem bn {w:World} {b:Nat} {o:Obj} (h:w.heap[b]?=some o):b<w.heap.size:=(Array.getElem?_eq_some_iff.1 h).1
theorem ay (w:World) (r:Option Nat):w.grownBy w r:=⟨rfl,rfl,rfl,Nat.le_refl _,fun _ _ _=>rfl⟩
theorem aw (w:World) (b i:Nat) (v:Value):w.grownBy (w.setCell ⟨b,i,none⟩ v) (some b) :=
 ⟨rfl,rfl,rfl,by simp[World.setCell],fun k _ hk=>Below.heap_setCell _ _ _ _ (by simpa using hk)⟩
theorem aa {a b c:World} {r:Option Nat} (h:a.grownBy b r) (k:b.grownBy c r):a.grownBy c r :=
 ⟨k.os.trans h.os,k.tape.trans h.tape,k.output.trans h.output,Nat.le_trans h.size k.size,fun i hi hr=>(k.block i (Nat.lt_of_lt_of_le hi h.size) hr).trans (h.block i hi hr)⟩
theorem ai {a b:World} {r:Option Nat} (h:a.grownBy b r) {k:Nat} {o:Obj} (hk:a.heap[k]?=some o) (hr:some k≠r):b.heap[k]?=some o:=by
 rw[h.block k (bn hk) hr];exact hk
theorem aD (w:World) (n:Nat) (r:Option Nat):w.grownBy (w.drewN n) r:=⟨rfl,rfl,rfl,Nat.le_refl _,fun _ _ _=>rfl⟩

theorem az {a b c:World} {r:Option Nat} (h:a.grownBy b none) (k:b.grownBy c r) (hr:∀ x,r=some x→a.heap.size≤x):a.grownBy c none :=
 ⟨k.os.trans h.os,k.tape.trans h.tape,k.output.trans h.output,Nat.le_trans h.size k.size,fun i hi _=>(k.block i (Nat.lt_of_lt_of_le hi h.size) (fun e=>by have:=hr i e.symm;omega)).trans (h.block i hi (by simp))⟩
theorem qw (l:List Int) (k:Nat) (h:k<l.length):l.getD k 0=l[k]:=by simp[List.getD,h]
theorem aK {k:IntKind} {a b:Int} (h:a=b):Ending.returned (.int k a)=.returned (.int k b):=by rw[h]
theorem iy {w w':World} (h:w.grownBy w' none):Below w.heap.size w w':=⟨h.os,h.tape,h.output,h.size,fun k hk=>h.block k hk (by simp)⟩
theorem am {a b:World} (h:a.grownBy b none) (o:Obj):a.grownBy (b.alloc o) none:=az (r:=none) h (World.grownBy_alloc _ _ _) (by simp)
theorem ak (w:World) (cs:Array Value) (t:TypeId):(w.alloc (.cells cs t)).heap[w.heap.size]?=some (.cells cs t (0,0)):=by
 show (w.heap.push _)[w.heap.size]?=_
 rw[Array.getElem?_push_size]

end Go.Proofs.YtjmepebbcnhalaaGreat.L
namespace Go.Proofs.YtjmepebbcnhalaaGreat.L
open Go.RowKit
end Go.Proofs.YtjmepebbcnhalaaGreat.L
namespace Go.Proofs.YtjmepebbcnhalaaGreat.L
open Go.RowKit

end Go.Proofs.YtjmepebbcnhalaaGreat.L
namespace Go.Proofs.YtjmepebbcnhalaaGreat.L
set_option maxHeartbeats 400000
open Go.RowKit

def fP (w:World) (v:Value) (l:List Int):Prop:=∃ p cap,v=.slice p l.length cap∧l.length≤maxLen∧(0<l.length→∃ g off,p=some ⟨g,off,none⟩∧∀ j,j<l.length→w.cell? ⟨g,off+j,none⟩=some (.int .i64 (l.getD j 0)))
theorem oJ {p:Prop} [Decidable p] (h:¬p):Ending.returned (.bool false)=.returned (.bool (decide p)):=by simp[h]
theorem yp {p:Prop} [Decidable p] (h:p):Ending.returned (.bool true)=.returned (.bool (decide p)):=by simp[h]
theorem yn (l r:List Int) (hl:l.length=r.length) (h:∀ j,j<l.length→l.getD j 0=r.getD j 0):l=r:=by
 apply List.ext_getElem hl
 intro j h1 h2
 have:=h j h1
 rwa [qw _ _ h1,qw _ _ h2] at this
theorem yN (p q:Option Addr) (n m c d:Nat) (w:World) (h:n≠m):Calls Tryz.prog 79 #[.slice p n c,.slice q m d] w fun e w'=>e=.returned (.bool false)∧w'=w:=by
 have hb:((n:Int) == (m:Int))=false:=by simpa using (show ¬((n:Int)=m) by omega)
 go_enter Tryz.func79,Tryz.ntmps79
 go_wp2
 go_ret
 exact⟨rfl,rfl⟩
theorem yu (p q:Option Addr) (c d:Nat) (w:World):Calls Tryz.prog 79 #[.slice p 0 c,.slice q 0 d] w fun e w'=>e=.returned (.bool true)∧w'=w:=by
 go_enter Tryz.func79,Tryz.ntmps79
 go_wp2
 go_loop [5] (fun i=>i=.int .i64 0) (fun _=>0)
 case atStart=>rfl
 case round =>
  subst hrel
  go_wp2
  go_ret
  exact⟨rfl,rfl⟩
theorem ym (l r:List Int) (g off c g' off' c':Nat) (w:World) (hl:l.length=r.length) (hm:l.length≤maxLen)
  (ha:∀ j,j<l.length→w.cell? ⟨g,off+j,none⟩=some (.int .i64 (l.getD j 0))) (hb:∀ j,j<l.length→w.cell? ⟨g',off'+j,none⟩=some (.int .i64 (r.getD j 0))) :
  Calls Tryz.prog 79 #[.slice (some ⟨g,off,none⟩) l.length c,.slice (some ⟨g',off',none⟩) l.length c'] w fun e w'=>e=.returned (.bool (decide (l=r)))∧∃ n,w'=w.drewN n:=by
 unfold maxLen at hm
 have HL:Hid (l.length=r.length):=hl
 clear hl
 go_enter Tryz.func79,Tryz.ntmps79
 go_wp2
 go_loopw [5] (fun i wr=>∃ k n:Nat,k≤l.length∧i=.int .i64 k∧wr=w.drewN n∧∀ j,j<k→l.getD j 0=r.getD j 0) (fun i _=>l.length - (intOf i).toNat)
 case atStart=>exact⟨0,0,Nat.zero_le _,rfl,rfl,fun j hj=>absurd hj (Nat.not_lt_zero _)⟩
 case round =>
  obtain⟨k,n,hk,rfl,rfl,hall⟩:=hrel
  have HA:Hid (∀ j,j<k→l.getD j 0=r.getD j 0):=hall
  clear hall
  by_cases hlt:k<l.length
  ·have ck:=ha k hlt
   have dk:=hb k hlt
   clear ha hb
   generalize hv:l.getD k 0=v at *
   generalize hu:r.getD k 0=u at *
   have HV:Hid (l.getD k 0=v):=hv
   have HU:Hid (r.getD k 0=u):=hu
   clear hv hu
   by_cases he:v=u
   ·have hb:(v == u)=true:=by simpa using he
    have HE:Hid (v=u):=he
    clear he
    go_wp2
    go_quiet (fail)
    go_wp2
    go_roundw
    case rel =>
     refine⟨k+1,n+nq,by omega,by go_num,rfl,fun j hj=>?_⟩
     by_cases ej:j=k
     ·subst ej;rw[HV.out,HU.out];exact HE.out
     ·exact HA.out j (by omega)
    case measure=>simp[intOf];omega
   ·have hb:(v == u)=false:=by simpa using he
    have HE:Hid (¬v=u):=he
    clear he
    go_wp2
    go_quiet (fail)
    go_wp2
    go_ret
    exact⟨oJ (fun e=>HE.out (by rw[←HV.out,←HU.out,e])),n+nq,by simp[World.drewN,Nat.add_assoc]⟩
  ·clear ha hb
   go_wp2
   go_ret
   exact⟨yp (yn l r HL.out (fun j hj=>HA.out j (by omega))),_,rfl⟩

theorem same_ints (a b:Value) (l r:List Int) (w:World) (ha:fP w a l) (hb:fP w b r):Calls Tryz.prog 79 #[a,b] w fun e w'=>e=.returned (.bool (decide (l=r)))∧∃ n,w'=w.drewN n:=by
 obtain⟨p,c,rfl,hm,hp⟩:=ha
 obtain⟨q,d,rfl,hm',hq⟩:=hb
 by_cases hl:l.length=r.length
 ·by_cases h0:l.length=0
  ·have e1:l=[]:=List.eq_nil_of_length_eq_zero h0
   have e2:r=[]:=List.eq_nil_of_length_eq_zero (by omega)
   subst e1;subst e2
   refine(yu p q c d w).mono ?_
   rintro e w' ⟨rfl,rfl⟩
   exact⟨rfl,0,rfl⟩
  ·obtain⟨g,off,rfl,ca⟩:=hp (by omega)
   obtain⟨g',off',rfl,cb⟩:=hq (by omega)
   rw[←hl]
   exact ym l r g off c g' off' d w hl hm ca (fun j hj=>cb j (by omega))
 ·refine(yN p q _ _ c d w hl).mono ?_
  rintro e w' ⟨rfl,rfl⟩
  exact⟨oJ (fun e=>hl (by rw[e])),0,rfl⟩
theorem fP.block {w:World} {g cap:Nat} {cs:Array Value} {t:TypeId} {l:List Int} (h:w.heap[g]?=some (.cells cs t (0,0))) (hl:l.length≤maxLen) (hc:∀ j,j<l.length→cs[j]?=some (.int .i64 (l.getD j 0))):fP w (.slice (some ⟨g,0,none⟩) l.length cap) l :=
 ⟨_,cap,rfl,hl,fun _=>⟨g,0,rfl,fun j hj=>by rw[Nat.zero_add,ae h];exact hc j hj⟩⟩
theorem fP.whole {w:World} {g cap:Nat} {t:TypeId} {l:List Int} (h:w.heap[g]?=some (.cells (ints l).toArray t (0,0))) (hl:l.length≤maxLen):fP w (.slice (some ⟨g,0,none⟩) l.length cap) l :=
 fP.block h hl (fun j hj=>by simpa using qE l j hj)
theorem fP.keep {w w':World} {v:Value} {l:List Int} {r:Option Nat} (h:fP w v l) (hg:w.grownBy w' r) (hr:∀ x,r=some x→v.ownBlock≠some x):fP w' v l:=by
 obtain⟨p,cap,rfl,hm,hp⟩:=h
 refine⟨p,cap,rfl,hm,fun h0=>?_⟩
 obtain⟨g,off,rfl,hc⟩:=hp h0
 exact⟨g,off,rfl,fun j hj=>hg.cell (hc j hj) (fun e=>hr g e.symm rfl)⟩
end Go.Proofs.YtjmepebbcnhalaaGreat.L
namespace Go.Proofs.YtjmepebbcnhalaaGreat.L
open Go.RowKit

def Own (w:World) (base:Nat) (v:Value) (l:List Int):Prop:=w.ownsRow base 3 1 v l.length (ints l)
theorem Own.nil (w:World) (base:Nat):Own w base (.slice none 0 0) []:=⟨rfl,Or.inl ⟨rfl,rfl⟩⟩
theorem Own.keep {w w':World} {base:Nat} {v:Value} {l:List Int} {r:Option Nat} (h:Own w base v l) (hg:w.grownBy w' r) (hr:∀ x,r=some x→x<base):Own w' base v l:=by
 obtain⟨h1,h2⟩:=h
 refine⟨h1,?_⟩
 rcases h2 with h2 | ⟨g,cap,cur,hv,hg0,hh,rest⟩
 ·exact Or.inl h2
 ·exact Or.inr ⟨g,cap,cur,hv,hg0,ai hg hh (fun e=>by have:=hr g e.symm;omega),rest⟩
theorem Own.ints {w:World} {base:Nat} {v:Value} {l:List Int} (h:Own w base v l):fP w v l:=by
 obtain⟨h1,h2⟩:=h
 rcases h2 with ⟨rfl,h0⟩ | ⟨g,cap,cur,rfl,hg0,hh,hn,hm,hs,ht⟩
 ·have:l=[]:=List.eq_nil_of_length_eq_zero h0
  subst this
  exact⟨none,0,rfl,Nat.zero_le _,fun h=>absurd h (by simp)⟩
 ·refine⟨_,cap,rfl,Nat.le_trans hn hm,fun h=>⟨g,0,rfl,fun j hj=>?_⟩⟩
  rw[Nat.zero_add,ae hh,←qE l j hj,←ht,List.getElem?_take,if_pos (by omega)]
  simp
theorem Own.form {w:World} {base:Nat} {v:Value} {l:List Int} (h:Own w base v l):∃ p cap,v=.slice p l.length cap:=by
 obtain⟨p,cap,e,_⟩:=h.ints
 exact⟨p,cap,e⟩
theorem Own.block {w:World} {base:Nat} {v:Value} {l:List Int} (h:Own w base v l):∀ k,v.ownBlock=some k→base≤k:=by
 intro k hk
 obtain⟨h1,h2⟩:=h
 rcases h2 with ⟨rfl,h0⟩ | ⟨g,cap,cur,rfl,hg0,_⟩
 ·simp[Value.ownBlock] at hk
 ·simp[Value.ownBlock] at hk;omega
end Go.Proofs.YtjmepebbcnhalaaGreat.L
namespace Go.Proofs.YtjmepebbcnhalaaGreat
open Go.RowKit

end Go.Proofs.YtjmepebbcnhalaaGreat
