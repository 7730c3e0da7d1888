import Derived.Test.YtjmepebbcnhalaaGreatKtF
import Derived.Maps.OwnSet
import Derived.Laws.EntriesVeiled
import Derived.Deep.LoopGhost
namespace Go.Proofs.YtjmepebbcnhalaaGreat
set_option maxRecDepth 100000
open Go.RowKit Go.Shelf
variable {w w' wr:World} {base g c b:Nat} {v:Value} {mf:Fe→Th→Fe} {ts:List Th} {F:List Fe} {es:List Ent} {p:Pl}
def oQ:Value→Lst
 | .slice p n c=>⟨p.map (·.block),n,c⟩
 | _=>⟨none,0,0⟩
theorem az.Own.past {α:Type} {R:az α} {T:TypeId} {l:List α} {q:Option Nat} (h:R.Own T w base v l) (g:w.grownBy w' q) (hq:∀ y,q=some y→y<base):R.Own T w' base v l:=by
 unfold az.Own at h ⊢
 refine World.ownsRow.kept h g ?_
 cases hv:v.ownBlock with
 | none=>exact Or.inl rfl
 | some x =>
  refine Or.inr fun e=>?_
  have z:=(World.ownsRow.lt h x hv).1
  have y:=hq x e.symm
  omega
structure Rws {α:Type} (R:az α) (T:TypeId) (w:World) (Q:List (Nat×Value×List α)):Prop where
 all:∀ a∈Q,R.Own T w a.1 a.2.1 a.2.2
 ap:Q.Pairwise fun a b=>∀ x,b.2.1.ownBlock=some x→x<a.1
theorem Rws.nil {α:Type} (R:az α) (T:TypeId) (w:World):Rws R T w []:=⟨fun a h=>(by cases h),List.Pairwise.nil⟩
theorem Rws.past {α:Type} {R:az α} {T:TypeId} {Q:List (Nat×Value×List α)} {q:Option Nat} (h:Rws R T w Q) (g:w.grownBy w' q) (hq:∀ y,q=some y→∀ a∈Q,y<a.1):Rws R T w' Q:=⟨fun a ha=>(h.all a ha).past g (fun y e=>hq y e a ha),h.ap⟩
theorem Rws.keep {α:Type} {R:az α} {T:TypeId} {Q:List (Nat×Value×List α)} (h:Rws R T w Q) (g:w.grownBy w' none):Rws R T w' Q:=h.past g (fun y e=>by cases e)
theorem Rws.cons {α:Type} {R:az α} {T:TypeId} {Q:List (Nat×Value×List α)} {l:List α} (h:Rws R T w Q) (g:w.grownBy w' none) (o:R.Own T w' w.heap.size v l):Rws R T w' ((w.heap.size,v,l) :: Q):=by
 refine⟨fun a ha=>?_,List.Pairwise.cons (fun a ha x hx=>((h.all a ha).lt x hx).2) h.ap⟩
 rcases List.mem_cons.1 ha with e | e
 ·rw[e];exact o
 ·exact(h.keep g).all a e
theorem xG {S:List Nat} {T:TypeId} (k:Kpt S w w') (hS:∀ t∈S,∃ cs,w.heap[t]?=some (.cells cs T (0,0))) {base e size n:Nat} {v:Value} {xs:List Value} (hne:T≠e) (h:w.ownsRow base e size v n xs):w'.ownsRow base e size v n xs:=by
 refine⟨h.1,?_⟩
 rcases h.2 with h1 | ⟨g,cap,cur,e1,hb,hh,rest⟩
 ·exact Or.inl h1
 ·refine Or.inr ⟨g,cap,cur,e1,hb,?_,rest⟩
  rw[k.block g (aZ hh) (fun hg=>by
   obtain⟨cs,hc⟩:=hS g hg
   rw[hh] at hc
   cases hc
   exact hne rfl)]
  exact hh
theorem ls {l:List Fe} (h:feR.Own 122 w base v l):(oQ v).v=v∧(oQ v).okF w∧(oQ v).a=v.ownBlock:=by
 unfold az.Own at h
 rcases h.2 with ⟨e,h0⟩ | ⟨g,cap,cur,e,hb,hh,hn,hm,hs,ht⟩
 ·rw[e]
  exact⟨rfl,Or.inl ⟨rfl,rfl,rfl⟩,rfl⟩
 ·rw[e]
  exact⟨rfl,Or.inr ⟨g,rfl,hn,hm,cur,hh,hs⟩,rfl⟩
theorem uH {w0:World} {n:Nat} {Q:List (Nat×Value×List Fe)} (g0:w0.grownBy w none) (h:Rws feR 122 w Q) (hb:∀ a∈Q,w0.heap.size≤a.1) (hn:Q.length=n) (h0:0<n) (h3:n≤40) (hA:∀ (j:Nat) a,Q.reverse[j]?=some a→w.cell? ⟨g,j,none⟩=some a.2.1):Calls Tryz.prog 25 #[.slice (some ⟨g,0,none⟩) n c] w fun e w'=>e=.returned (.bool true)∧w0.grownBy w' none∧∀ {base e size n:Nat} {v:Value} {xs:List Value},122≠e→w.ownsRow base e size v n xs→w'.ownsRow base e size v n xs:=by
 subst hn
 obtain⟨P,hP⟩:=Qe (Q.reverse)
 have hm:∀ a,a∈P↔a∈Q:=fun a=>by rw[hP,List.mem_reverse]
 have hp:P.Pairwise fun a b=>∀ x,a.2.1.ownBlock=some x→x<b.1:=by rw[hP,List.pairwise_reverse];exact h.ap
 obtain⟨T,hT⟩:=Qe (P.map fun a=>oQ a.2.1)
 have hl:Q.length=T.length:=by rw[hT,List.length_map,hP,List.length_reverse]
 rw[←hP] at hA
 rw[hl] at h0 h3 ⊢
 have key:∀ (j:Nat) x,T[j]?=some x→∃ a,P[j]?=some a∧a∈Q∧x=oQ a.2.1:=fun j x hx=>by
  rw[hT,List.getElem?_map] at hx
  cases e:P[j]? with
  | none=>rw[e] at hx;cases hx
  | some a=>rw[e] at hx;exact⟨a,rfl,(hm a).1 (Qm e),(Option.some.inj hx).symm⟩
 clear hT hl hP
 have dif:∀ (i j:Nat) (x y:Lst) (t:Nat),i<j→T[i]?=some x→T[j]?=some y→x.a=some t→y.a=some t→False:=fun i j x y t hij hi hj hx hy=>by
  obtain⟨a,ea,ma,rfl⟩:=key i x hi
  obtain⟨b,eb,mb,rfl⟩:=key j y hj
  have q1:=(Qh ea)
  have q2:=(Qh eb)
  have z:=List.pairwise_iff_getElem.1 hp i j q1.1 q2.1 hij t (by rw[q1.2,←(ls (h.all a ma)).2.2];exact hx)
  rw[q2.2] at z
  have u:=((h.all b mb).lt t (by rw[←(ls (h.all b mb)).2.2];exact hy)).1
  omega
 have C:=uJ g c T w h0 h3 (fun j x hx=>by
  obtain⟨a,ea,ma,rfl⟩:=key j x hx
  rw[hA j a ea,(ls (h.all a ma)).1]) (fun x hx=>by
  obtain⟨j,hj⟩:=List.getElem?_of_mem hx
  obtain⟨a,ea,ma,rfl⟩:=key j x hj
  exact(ls (h.all a ma)).2.1) (fun i j x y t hi hj hx hy=>by
  rcases Nat.lt_trichotomy i j with z | z | z
  ·exact(dif i j x y t z hi hj hx hy).elim
  ·exact z
  ·exact(dif j i y x t z hj hi hy hx).elim)
 refine C.mono fun e w' q=>⟨q.1,Kpt.new g0 q.2 (fun t ht=>?_),fun hne ho=>xG q.2 (fun t ht=>?_) hne ho⟩
 ·unfold bL at ht
  obtain⟨x,hx,e⟩:=List.mem_filterMap.1 ht
  obtain⟨j,hj⟩:=List.getElem?_of_mem hx
  obtain⟨a,ea,ma,rfl⟩:=key j x hj
  have u:=((h.all a ma).lt t (by rw[←(ls (h.all a ma)).2.2];exact e)).1
  have y:=hb a ma
  omega
 ·unfold bL at ht
  obtain⟨x,hx,e⟩:=List.mem_filterMap.1 ht
  obtain⟨j,hj⟩:=List.getElem?_of_mem hx
  obtain⟨a,ea,ma,rfl⟩:=key j x hj
  rcases (ls (h.all a ma)).2.1 with ⟨q1,_⟩ | ⟨g',q1,_,_,cs,q2,_⟩
  ·rw[q1] at e;cases e
  ·rw[q1] at e
   cases e
   exact⟨cs,q2⟩
theorem lm {l:List Sd} (h:sdR.Own 64 w base v l):(oQ v).v=v∧(oQ v).okD w∧(oQ v).a=v.ownBlock:=by
 unfold az.Own at h
 rcases h.2 with ⟨e,h0⟩ | ⟨g,cap,cur,e,hb,hh,hn,hm,hs,ht⟩
 ·rw[e]
  exact⟨rfl,Or.inl ⟨rfl,rfl,rfl⟩,rfl⟩
 ·rw[e]
  exact⟨rfl,Or.inr ⟨g,rfl,hn,hm,cur,hh,hs⟩,rfl⟩
theorem ub {w0:World} {n:Nat} {Q:List (Nat×Value×List Sd)} (g0:w0.grownBy w none) (h:Rws sdR 64 w Q) (hb:∀ a∈Q,w0.heap.size≤a.1) (hn:Q.length=n) (h0:0<n) (h3:n≤40) (hA:∀ (j:Nat) a,Q.reverse[j]?=some a→w.cell? ⟨g,j,none⟩=some a.2.1):Calls Tryz.prog 26 #[.slice (some ⟨g,0,none⟩) n c] w fun e w'=>e=.returned (.bool true)∧w0.grownBy w' none∧∀ {base e size n:Nat} {v:Value} {xs:List Value},64≠e→w.ownsRow base e size v n xs→w'.ownsRow base e size v n xs:=by
 subst hn
 obtain⟨P,hP⟩:=Qe (Q.reverse)
 have hm:∀ a,a∈P↔a∈Q:=fun a=>by rw[hP,List.mem_reverse]
 have hp:P.Pairwise fun a b=>∀ x,a.2.1.ownBlock=some x→x<b.1:=by rw[hP,List.pairwise_reverse];exact h.ap
 obtain⟨T,hT⟩:=Qe (P.map fun a=>oQ a.2.1)
 have hl:Q.length=T.length:=by rw[hT,List.length_map,hP,List.length_reverse]
 rw[←hP] at hA
 rw[hl] at h0 h3 ⊢
 have key:∀ (j:Nat) x,T[j]?=some x→∃ a,P[j]?=some a∧a∈Q∧x=oQ a.2.1:=fun j x hx=>by
  rw[hT,List.getElem?_map] at hx
  cases e:P[j]? with
  | none=>rw[e] at hx;cases hx
  | some a=>rw[e] at hx;exact⟨a,rfl,(hm a).1 (Qm e),(Option.some.inj hx).symm⟩
 clear hT hl hP
 have dif:∀ (i j:Nat) (x y:Lst) (t:Nat),i<j→T[i]?=some x→T[j]?=some y→x.a=some t→y.a=some t→False:=fun i j x y t hij hi hj hx hy=>by
  obtain⟨a,ea,ma,rfl⟩:=key i x hi
  obtain⟨b,eb,mb,rfl⟩:=key j y hj
  have q1:=(Qh ea)
  have q2:=(Qh eb)
  have z:=List.pairwise_iff_getElem.1 hp i j q1.1 q2.1 hij t (by rw[q1.2,←(lm (h.all a ma)).2.2];exact hx)
  rw[q2.2] at z
  have u:=((h.all b mb).lt t (by rw[←(lm (h.all b mb)).2.2];exact hy)).1
  omega
 have C:=uU g c T w h0 h3 (fun j x hx=>by
  obtain⟨a,ea,ma,rfl⟩:=key j x hx
  rw[hA j a ea,(lm (h.all a ma)).1]) (fun x hx=>by
  obtain⟨j,hj⟩:=List.getElem?_of_mem hx
  obtain⟨a,ea,ma,rfl⟩:=key j x hj
  exact(lm (h.all a ma)).2.1) (fun i j x y t hi hj hx hy=>by
  rcases Nat.lt_trichotomy i j with z | z | z
  ·exact(dif i j x y t z hi hj hx hy).elim
  ·exact z
  ·exact(dif j i y x t z hj hi hy hx).elim)
 refine C.mono fun e w' q=>⟨q.1,Kpt.new g0 q.2 (fun t ht=>?_),fun hne ho=>xG q.2 (fun t ht=>?_) hne ho⟩
 ·unfold bL at ht
  obtain⟨x,hx,e⟩:=List.mem_filterMap.1 ht
  obtain⟨j,hj⟩:=List.getElem?_of_mem hx
  obtain⟨a,ea,ma,rfl⟩:=key j x hj
  have u:=((h.all a ma).lt t (by rw[←(lm (h.all a ma)).2.2];exact e)).1
  have y:=hb a ma
  omega
 ·unfold bL at ht
  obtain⟨x,hx,e⟩:=List.mem_filterMap.1 ht
  obtain⟨j,hj⟩:=List.getElem?_of_mem hx
  obtain⟨a,ea,ma,rfl⟩:=key j x hj
  rcases (lm (h.all a ma)).2.1 with ⟨q1,_⟩ | ⟨g',q1,_,_,cs,q2,_⟩
  ·rw[q1] at e;cases e
  ·rw[q1] at e
   cases e
   exact⟨cs,q2⟩
end Go.Proofs.YtjmepebbcnhalaaGreat
namespace Go.Proofs.YtjmepebbcnhalaaGreat
open Go.RowKit
variable {w w' wr:World} {base g c b:Nat} {v:Value} {mf:Fe→Th→Fe} {ts:List Th} {F:List Fe} {es:List Ent} {p:Pl}
structure Hp where
 vb:Int
 on:Int
 ct:Int
 ho:Int
 vn:Bool
 dr:Bool
 deriving DecidableEq
def Hp.none:Hp:=⟨0,0,0,0,false,false⟩









open Go.MapKept Go.ChangeMaps

end Go.Proofs.YtjmepebbcnhalaaGreat
namespace Go.Proofs.YtjmepebbcnhalaaGreat
open Go.RowKit
variable {w w' wr:World} {base g c b:Nat} {v:Value} {mf:Fe→Th→Fe} {ts:List Th} {F:List Fe} {es:List Ent} {p:Pl}


open Go.Shelf

end Go.Proofs.YtjmepebbcnhalaaGreat
namespace Go.Proofs.YtjmepebbcnhalaaGreat
open Go.RowKit
variable {w w' wr:World} {base g c b:Nat} {v:Value} {mf:Fe→Th→Fe} {ts:List Th} {F:List Fe} {es:List Ent} {p:Pl}

open Go.Shelf

end Go.Proofs.YtjmepebbcnhalaaGreat
namespace Go.Proofs.YtjmepebbcnhalaaGreat
open Go.RowKit
variable {w w' wr:World} {base g c b:Nat} {v:Value} {mf:Fe→Th→Fe} {ts:List Th} {F:List Fe} {es:List Ent} {p:Pl}



open Go.Shelf






end Go.Proofs.YtjmepebbcnhalaaGreat
namespace Go.Proofs.YtjmepebbcnhalaaGreat
open Go.RowKit
variable {w w' wr:World} {base g c b:Nat} {v:Value} {mf:Fe→Th→Fe} {ts:List Th} {F:List Fe} {es:List Ent} {p:Pl}

open Go.Shelf







set_option maxRecDepth 100000
set_option maxHeartbeats 4000000
theorem Ev:(kM mf ts F).length≤ts.length:=by
 unfold kM
 rw[List.length_zipWith]
 omega
theorem jx (va vb:Value) (l:List Sd) (w:World) (A:sdR.At w va l) (B:sdR.At w vb l) (hsm:lim l.length):Calls Tryz.prog 17 #[va,vb] w fun e w'=>e=.returned (.bool true)∧w.grownBy w' none:=by
 obtain⟨pa,ca,rfl⟩:=A.form
 obtain⟨pb,cb,rfl⟩:=B.form
 have HA:Hid (sdR.At w (.slice pa l.length ca) l):=A
 have HB:Hid (sdR.At w (.slice pb l.length cb) l):=B
 have hnq:=wX
 have hgq:=wV
 clear A B
 go_enter Tryz.func17,Tryz.ntmps17
 go_wp2_with fail
 go_loopw [5] (fun x5 wr=>∃ k:Nat,k≤l.length∧x5=.int .i64 (k:Int)∧w.grownBy wr none) (fun x5 _=>l.length - (intOf x5).toNat)
 case atStart=>exact⟨0,Q0 _,rfl,ay _ _⟩
 case round =>
  obtain⟨k,hk,rfl,G⟩:=hrel
  obtain⟨U,hU⟩:=Qe (wr)
  subst hU
  have HG:Hid (w.grownBy U none):=G
  clear G
  rcases (show k<l.length∨k=l.length from by omega) with hkl | hke
  ·have k0:(0:Int)≤(k:Int):=by omega
   have k1:(k:Int)<(l.length:Int):=by omega
   obtain⟨ga,oa,xa,ea,Ra⟩:=gP (HA.out.keep HG.out) hkl
   cases ea
   obtain⟨gb,ob,xb,eb,Rb⟩:=gP (HB.out.keep HG.out) hkl
   cases eb
   obtain⟨x,hx⟩:=Qe (l[k])
   rw[←hx] at Ra Rb
   obtain⟨a0,a1,a2,a3,a4,a5,a6,a7,a8,a9⟩:=bN Ra
   obtain⟨b0,b1,b2,b3,b4,b5,b6,b7,b8,b9⟩:=bN Rb
   clear hx Ra Rb
   go_upto_region 6 with fail
   go_quiet (fail)
   go_wp2_with fail
   go_roundw
   case rel=>exact⟨k+1,hkl,by first | rfl | (rw[hsm.wrap hkl];rfl),ae HG.out (aF _ _ _)⟩
   case measure=>first | exact aA hkl | (rw[hsm.wrap hkl];exact aA hkl)
  ·have k1:¬(k:Int)<(l.length:Int):=by omega
   clear hke
   go_wp2_with fail
   go_ret
   exact⟨rfl,HG.out⟩
theorem rL {l:List Sd} (h:bF w base v l):lim l.length:=by
 unfold bF az.Own at h
 obtain⟨_,_,_,hm⟩:=br h
 exact hm

def qo:Th:=⟨-99,0,0,0,0,0,0,0,0,0,false⟩
theorem wi (base g n c:Nat) (l:List Th) (w:World) (hO:thR.Own 120 w base (.slice (some ⟨g,0,none⟩) n c) l) (hn:l.length=n) (hsm:ba n):Calls Tryz.prog 33 #[.slice (some ⟨g,0,none⟩) n c] w fun e w'=>e=.returned (.tuple #[])∧w.grownBy w' (some g):=by
 have HO:Hid (thR.Own 120 w base (.slice (some ⟨g,0,none⟩) n c) l∧l.length=n):=⟨hO,hn⟩
 clear hO hn
 go_enter Tryz.func33,Tryz.ntmps33
 go_wp2_with fail
 go_loopw [2] (fun i wr=>∃ (k:Nat) (y:List Th),k≤n∧i=.int .i64 (k:Int)∧Hid (y.length=n∧thR.Own 120 wr base (.slice (some ⟨g,0,none⟩) n c) y∧w.grownBy wr (some g))) (fun i _=>n - (intOf i).toNat)
 case atStart=>exact⟨0,l,Q0 _,rfl,HO.out.2,HO.out.1,World.grownBy.refl _ _⟩
 case round =>
  obtain⟨k,y,hk,rfl,HY⟩:=hrel
  obtain⟨U,hU⟩:=Qe (wr)
  subst hU
  rcases (show k<n∨k=n from by omega) with hkl | hke
  ·have k0:(0:Int)≤(k:Int):=by omega
   have k1:(k:Int)<(n:Int):=by omega
   have HT:Hid (U.there g (k*11) 11):=az.Own.there HY.out.2.1 HY.out.1 hkl
   have HS:=az.Own.set HY.out.2.1 HY.out.1 hkl qo
   have HS2:Hid (thR.Own 120 (U.setCells g (k*11) (thR.enc qo)) base (.slice (some ⟨g,0,none⟩) n c) (y.set k qo)∧w.grownBy (U.setCells g (k*11) (thR.enc qo)) (some g)):=⟨HS.1,ae HY.out.2.2 HS.2⟩
   clear HS
   go_upto_region 2 with (refine wpList_store_mid rfl 120 (.tmp 12) (.tmp 11) rfl g (k*11) #[.int .i64 (-99),.int .i64 0,.int .u8 0,.int .i64 0,.int .i64 0,.int .i64 0,.int .i64 0,.int .i64 0,.int .i64 0,.int .i64 0,.bool false] rfl rfl HT.out (by kernel_rfl) (by kernel_rfl) ?_)
   obtain⟨Z,hZ⟩:=Qe (U.setCells g (k*11) (thR.enc qo))
   rw[←hZ] at HS2
   rw[show U.setCells g (k*11) (#[.int .i64 (-99),.int .i64 0,.int .u8 0,.int .i64 0,.int .i64 0,.int .i64 0,.int .i64 0,.int .i64 0,.int .i64 0,.int .i64 0,.bool false]:Array Value).toList=Z from by rw[hZ];rfl]
   clear hZ
   go_wp2_with fail
   go_roundw
   case rel=>exact⟨k+1,y.set k qo,hkl,by first | rfl | (rw[hsm.wrap hkl];rfl),by rw[List.length_set];exact HY.out.1,HS2.out.1,HS2.out.2⟩
   case measure=>first | exact aA hkl | (rw[hsm.wrap hkl];exact aA hkl)
  ·have k1:¬(k:Int)<(n:Int):=by omega
   clear hke
   go_wp2_with fail
   go_end0
   exact⟨rfl,HY.out.2.2⟩
def vxB:Hd:=⟨⟨#[98,114,117,115,104]⟩,5,3,0,0,0,0,false⟩
theorem EY:caE ch [] (exC.with [fW])=0:=by
 show (if ch.shut=true then (7:Int) else if ¬eI (exC.with [fW])=0 then eI (exC.with [fW]) else if 0≤pos [] exC.nm then 5 else if (0:Nat)=64 then 14 else 0)=0
 decide +kernel
theorem EM (vC:Value):ins [] ⟨exC,vC,[fW]⟩=[⟨exC,vC,[fW]⟩]:=by
 rfl
theorem Fb (vC:Value):caE ch [⟨exC,vC,[fW]⟩] (vxB.with [iZ])=0:=by
 show (if ch.shut=true then (7:Int) else if ¬eI (vxB.with [iZ])=0 then eI (vxB.with [iZ]) else if 0≤pos [exC.nm] vxB.nm then 5 else if (1:Nat)=64 then 14 else 0)=0
 decide +kernel
theorem EK (vB vC:Value):ins [⟨exC,vC,[fW]⟩] ⟨vxB,vB,[iZ]⟩=[⟨vxB,vB,[iZ]⟩,⟨exC,vC,[fW]⟩]:=by
 rw[iL,if_neg (by show ¬ord exC vxB<0;decide +kernel)]
theorem Ey (vB vC:Value):caE ch [⟨vxB,vB,[iZ]⟩,⟨exC,vC,[fW]⟩] (exE.with [])=0:=by
 show (if ch.shut=true then (7:Int) else if ¬eI (exE.with [])=0 then eI (exE.with []) else if 0≤pos [vxB.nm,exC.nm] exE.nm then 5 else if (2:Nat)=64 then 14 else 0)=0
 decide +kernel
theorem Er (vE vB vC:Value):ins [⟨vxB,vB,[iZ]⟩,⟨exC,vC,[fW]⟩] ⟨exE,vE,[]⟩=[⟨exE,vE,[]⟩,⟨vxB,vB,[iZ]⟩,⟨exC,vC,[fW]⟩]:=by
 rw[iL,if_neg (by show ¬ord vxB exE<0;decide +kernel)]
def dU (vE vB vC:Value):List Ent:=[⟨exE,vE,[]⟩,⟨vxB,vB,[iZ]⟩,⟨exC,vC,[fW]⟩]
def vxP:Pl:={ yR with shut:=true }
theorem xq (vE vB vC:Value):fC yR (dU vE vB vC)=0:=by
 unfold fC
 rw[if_neg (by decide)]
 simp[dU,gH,dx,eX,iZ,fW]
theorem Cy (vE vB vC:Value):dB yR (dU vE vB vC)=vxP:=if_pos (xq vE vB vC)
def vxT:List Th:=[⟨3,0,4,1,0,0,0,0,0,0,false⟩,⟨2,0,4,2,0,0,0,0,0,0,false⟩,⟨1,0,4,3,0,0,0,0,0,0,false⟩,⟨1,1,4,4,0,0,0,0,0,0,false⟩]
theorem xM (vE vB vC:Value):(ll vxP.shut (pos (aY (dU vE vB vC)) exC.nm)=3∧ll vxP.shut (pos (aY (dU vE vB vC)) vxB.nm)=2)∧ll vxP.shut (pos (aY (dU vE vB vC)) exE.nm)=1:=by
 show (ll true (pos [exE.nm,vxB.nm,exC.nm] exC.nm)=3∧ll true (pos [exE.nm,vxB.nm,exC.nm] vxB.nm)=2)∧ll true (pos [exE.nm,vxB.nm,exC.nm] exE.nm)=1
 decide +kernel
def BpB (w:World) (n b:Nat):Prop:=w.heap[n]?=some (.cells #[.pointer (some ⟨b,0,none⟩)] 32 (0,0))
def CxB (w:World) (n a b:Nat):Prop:=w.heap[n]?=some (.cells #[.string ⟨#[99,114,111,119,110]⟩,.int .u8 6,.int .u8 3,.int .i64 0,.int .i64 0,.int .i64 0,.int .u16 0,.bool false,.slice (some ⟨a,0,none⟩) 1 1,.string ⟨#[98,114,117,115,104]⟩,.int .u8 5,.int .u8 3,.int .i64 0,.int .i64 0,.int .i64 0,.int .u16 0,.bool false,.slice (some ⟨b,0,none⟩) 1 1,.string ⟨#[98,101,97,114]⟩,.int .u8 2,.int .u8 1,.int .i64 0,.int .i64 2,.int .i64 2,.int .u16 0,.bool false,.slice none 0 0] 111 (0,0))
def PtB (w:World) (n:Nat) (p:Pt):Prop:=w.heap[n]?=some (.cells #[.int .u8 p.wn,.int .u8 p.vb,.int .u8 p.wm,.int .i64 p.ct,.int .u8 p.su,.int .u8 p.tr,.int .u8 p.mr,.string p.nm] 62 (0,0))
structure VxS (w wr:World) (b n3 a1 a2 nc:Nat) (es:List Ent) (p:Pl):Prop where
 bk:cG (jE b) wr b es p
 bx:BpB wr n3 b
 q1:PtB wr a1 fW
 q2:PtB wr a2 iZ
 cd:CxB wr nc a1 a2
 gr:w.grownBy wr none
 lie:w.heap.size≤b∧b<n3∧b<a1∧b<a2∧b<nc
theorem VxS.keep {n3 a1 a2 nc:Nat} (h:VxS w wr b n3 a1 a2 nc es p) (g:wr.grownBy w' none):VxS w w' b n3 a1 a2 nc es p:=⟨h.bk.keep g,ag g h.bx (by simp),ag g h.q1 (by simp),ag g h.q2 (by simp),ag g h.cd (by simp),ae h.gr g,h.lie⟩
theorem VxS.turn {n3 a1 a2 nc:Nat} {es':List Ent} {p':Pl} (h:VxS w wr b n3 a1 a2 nc es p) (g:wr.grownBy w' (some b)) (B:cG (jE b) w' b es' p'):VxS w w' b n3 a1 a2 nc es' p':=by
 obtain⟨l0,l1,l2,l3,l4⟩:=h.lie
 exact⟨B,ag g h.bx (fun q=>by cases q;omega),ag g h.q1 (fun q=>by cases q;omega),ag g h.q2 (fun q=>by cases q;omega),ag g h.cd (fun q=>by cases q;omega),ar h.gr g (fun x e=>by cases e;exact l0),h.lie⟩
structure VxR (w wr:World) (b S g:Nat) (vE vB vC:Value):Prop where
 bk:cG (fun k=>jE b k∧k<S) wr b (dU vE vB vC) vxP
 th:thR.Own 120 wr S (.slice (some ⟨g,0,none⟩) 4 4) vxT
 gr:w.grownBy wr none
 lie:w.heap.size≤b∧b<S
theorem VxR.keep {S:Nat} {vE vB vC:Value} (h:VxR w wr b S g vE vB vC) (k:wr.grownBy w' none):VxR w w' b S g vE vB vC:=⟨h.bk.keep k,aw h.th k,ae h.gr k,h.lie⟩
theorem sq (b n3:Nat) (es:List Ent) (p:Pl) (ok:Nat→Prop) (s:ByteArray) (w:World) (B:cG ok w b es p) (hx:BpB w n3 b):Calls Tryz.prog 151 #[.string s,.pointer (some ⟨n3,0,none⟩)] w fun e w'=>e=.returned (.int .i64 (ll p.shut (pos (aY es) s)))∧w.grownBy w' none:=by
 have C1:=BS b es p s w B.lies B.good.slc
 have c0:w.cell? ⟨n3,0,none⟩=some (.pointer (some ⟨b,0,none⟩)):=(aa hx 0).trans rfl
 obtain⟨x,hxe⟩:=Qe (ll p.shut (pos (aY es) s))
 obtain⟨y,hye⟩:=Qe (DY p.shut (pos (aY es) s))
 rw[←hxe,←hye] at C1
 rw[←hxe]
 clear B hx hxe hye
 go_enter Tryz.func151,Tryz.ntmps151
 go_wp2_with fail
 refine C1.mono ?_
 rintro e1 w1 ⟨rfl,g1⟩
 have HG:Hid (w.grownBy w1 none):=g1
 clear C1 g1 c0
 go_wp2_with fail
 go_ret
 exact⟨rfl,HG.out⟩
def FnB (w:World) (n6 n3:Nat):Prop:=w.heap[n6]?=some (.cells #[.func (.func 151) #[] #[.pointer (some ⟨n3,0,none⟩)]] 202 (0,0))
theorem CV (b n3 n6:Nat) (es:List Ent) (p:Pl) (ok:Nat→Prop) (s:ByteArray) (ow st x:Int) (w:World) (B:cG ok w b es p) (hx:BpB w n3 b) (hf:FnB w n6 n3) (hn:ll p.shut (pos (aY es) s)=x):Calls Tryz.prog 153 #[.string s,.int .i64 ow,.int .i64 st,.pointer (some ⟨n6,0,none⟩)] w fun e w'=>e=.returned (thv ⟨x,ow,4,st,0,0,0,0,0,0,false⟩)∧w.grownBy w' none:=by
 obtain⟨W1,hW1⟩:=Qe (w.alloc (.cells #[.int .i64 0,.int .i64 0,.int .u8 0,.int .i64 0,.int .i64 0,.int .i64 0,.int .i64 0,.int .i64 0,.int .i64 0,.int .i64 0,.bool false] 120))
 have HG1:Hid (w.grownBy W1 none):=by rw[hW1];exact QG
 have HR1:Hid (ThB W1 w.heap.size ⟨0,0,0,0,0,0,0,0,0,0,false⟩):=by rw[hW1];exact ak _ _ _
 have C1:=sq b n3 es p ok s W1 (B.keep HG1.out) (ag HG1.out hx (by simp))
 rw[hn] at C1
 have f0:W1.cell? ⟨n6,0,none⟩=some (.func (.func 151) #[] #[.pointer (some ⟨n3,0,none⟩)]):=(aa (ag HG1.out hf (by simp)) 0).trans rfl
 unfold thv
 clear B hx hf hn
 go_enter Tryz.func153,Tryz.ntmps153
 go_upto_region 1 with fail
 rw[←hW1]
 clear hW1
 obtain⟨n0,hn0⟩:=Qe (w.heap.size)
 have Hn0:Hid (w.heap.size≤n0):=by show _≤_;omega
 simp only[←hn0] at HR1 ⊢
 clear hn0
 go_wp2_with (go_at_call 151;refine C1.mono ?_;rintro e1 w1 ⟨rfl,g1⟩;have HG2:Hid (W1.grownBy w1 none):=g1;have HR2:Hid (ThB w1 n0 ⟨0,0,0,0,0,0,0,0,0,0,false⟩):=ag g1 HR1.out (by simp);obtain⟨r0,r1,r2,r3,r4,r5,r6,r7,r8,r9,r10⟩:=cW HR2.out;have rf:=fun i=>au HR2.out i;clear C1 g1)
 refine bodyPost_ret (v:=.agg #[.int .i64 x,.int .i64 ow,.int .u8 4,.int .i64 st,.int .i64 0,.int .i64 0,.int .i64 0,.int .i64 0,.int .i64 0,.int .i64 0,.bool false]) (by simp[results,Tryz.results153,go_sem,r0,r1,r2,r3,r4,r5,r6,r7,r8,r9,r10]) rfl ⟨rfl,?_⟩
 have k:∀ {v:World} (i:Nat) (u:Value),w.grownBy v none→w.grownBy (v.setCell ⟨n0,i,none⟩ u) none:=fun i u q=>ar q (aj _ _ _ _) (fun y e=>by cases e;exact Hn0.out)
 exact k _ _ (k _ _ (k _ _ (k _ _ (k _ _ (k _ _ (k _ _ (k _ _ (k _ _ (k _ _ (k _ _ (ae HG1.out HG2.out)))))))))))
end Go.Proofs.YtjmepebbcnhalaaGreat
