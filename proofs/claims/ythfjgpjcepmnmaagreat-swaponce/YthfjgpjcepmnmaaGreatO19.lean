import Derived.Test.YthfjgpjcepmnmaaGreatO8
import Derived.OwnWalk
import Derived.Test.YthfjgpjcepmnmaaGreatRCa
import Derived.Test.YthfjgpjcepmnmaaGreatO13
import Derived.Test.YthfjgpjcepmnmaaGreatO11
import Derived.Test.YthfjgpjcepmnmaaGreatO16
import Derived.Deep.MidRow
namespace Go.Proofs.YthfjgpjcepmnmaaGreat
open Go.RowKit

structure Pr (ok:Nat→Prop) (w:World) (b r:Nat) (v:Value) (es fs:List Ent) (p:Pl):Prop where
 book:cR ok w b es p
 rj:RJ w r v p
 rl:RL w v fs
 own:∀ k,v.ownBlock=some k→ok k∧k<w.heap.size
 good:cj ok w fs
 same:es.map hp=fs.map hp
 mkd:MkD p
 zero:p.nms[0]?=some ⟨#[]⟩
theorem mF {es fs:List Ent} (h:es.map hp=fs.map hp):es.length=fs.length:=by have:=congrArg List.length h;simpa using this
theorem rB {es fs:List Ent} (h:es.map hp=fs.map hp):bs es=bs fs:=by
 have:=congrArg (List.map fun x:Hd×List Pt=>x.1.nm) h
 rw[List.map_map,List.map_map] at this
 exact this
theorem Ec {es fs:List Ent} (h:es.map hp=fs.map hp) (p:Pl) (c:Cd):caE p es c=caE p fs c:=by
 unfold caE
 rw[rB h,mF h]
theorem DY:∀ {es fs:List Ent} (_:es.map hp=fs.map hp) (h:Hd),rk es h=rk fs h
 | [],[],_,_=>rfl
 | [],_ :: _,e,_=>by simp at e
 | _ :: _,[],e,_=>by simp at e
 | x :: r,y :: t,e,h=>by
  rw[List.map_cons,List.map_cons] at e
  injection e with e1 e2
  injection e1 with e1 _
  simp only[rk]
  rw[e1,DY e2 h]
theorem EG {es fs:List Ent} (h:es.map hp=fs.map hp) (hd:Hd) (u u':Value) (ps:List Pt):(ins es ⟨hd,u,ps⟩).map hp=(ins fs ⟨hd,u',ps⟩).map hp:=by
 unfold ins
 simp only[List.map_append,List.map_cons,List.map_take,List.map_drop]
 rw[h,DY h]
 rfl
theorem zn {p:Pl} {es:List Ent} {m:Nat} {e:Ent} (hs:p.shut=true) (he:es[m]?=some e):atC p es ((m:Int)+1)=(e.h,e.ps):=by
 unfold atC
 rw[if_pos ⟨hs,by omega⟩,show ((m:Int)+1 - 1).toNat=m by omega,he]
theorem pK {p:Pl} {es:List Ent} {n:Int} (h:¬lU p es n):atC p es n=(Hd.none,[]):=by
 unfold atC
 split
 ·rename_i h1
  have:es[(n - 1).toNat]?=none:=List.getElem?_eq_none (by
   have:¬n≤(es.length:Int):=fun h2=>h ⟨h1.1,h1.2,h2⟩
   omega)
  rw[this]
 ·rfl
theorem tx {p:Pl} {es:List Ent} {n:Int} (h:lU p es n):atX p es n=0:=by unfold atX;exact if_pos h
theorem lk {p:Pl} {es:List Ent} {n:Int} (h:¬lU p es n):atX p es n=6:=by unfold atX;exact if_neg h
def gu (p:Pl) (es:List Ent) (n:Int) (w:World) (e:Ending) (w':World):Prop:=∃ u,e=.returned (.tuple #[cv (atC p es n).1 u,.int .i64 (atX p es n)])∧bx w' w.heap.size u (atC p es n).2∧w.grownBy w' none
theorem Ba (ok:Nat→Prop) (b:Nat) (es:List Ent) (p:Pl) (n:Int) (w:World) (B:cR ok w b es p):Calls Tryz.prog 215 #[.pointer (some ⟨b,0,none⟩),.int .i64 n] w (gu p es n w):=by
 by_cases h:lU p es n
 ·obtain⟨m,rfl⟩:∃ m:Nat,n=(m:Int)+1:=⟨(n - 1).toNat,by have:=h.2.1;omega⟩
  have hm:m<es.length:=by have:=h.2.2;omega
  refine(FT ok b es p m es[m] w B.lies B.good h.1 (List.getElem?_eq_getElem hm) (B.parts _ (List.getElem_mem _))).mono ?_
  rintro e w' ⟨u,rfl,o,g⟩
  unfold gu
  rw[tx h,zn h.1 (List.getElem?_eq_getElem hm)]
  exact⟨u,rfl,o,g⟩
 ·refine(Fl b es p n w B.lies h).mono ?_
  rintro e w' ⟨rfl,g⟩
  unfold gu
  rw[lk h,pK h]
  exact⟨_,rfl,bx.nil _ _,g⟩
structure RD (ok:Nat→Prop) (w:World) (r:Nat) (v:Value) (p:Pl) (fs:List Ent):Prop where
 rj:RJ w r v p
 rl:RL w v fs
 good:cj ok w fs
 len:fs.length≤64
 par:∀ e∈fs,e.ps.length≤4
 mkd:MkD p
theorem RD.keep {ok:Nat→Prop} {w w':World} {r:Nat} {v:Value} {p:Pl} {fs:List Ent} (h:RD ok w r v p fs) (g:w.grownBy w' none):RD ok w' r v p fs:=⟨h.rj.keep g,h.rl.keep g,h.good.keep g,h.len,h.par,h.mkd⟩
theorem BV {es fs:List Ent} (h:es.map hp=fs.map hp) {e:Ent} (he:e∈fs):∃ d∈es,d.h=e.h∧d.ps=e.ps:=by
 have:hp e∈es.map hp:=by rw[h];exact List.mem_map_of_mem he
 obtain⟨d,hd,e1⟩:=List.mem_map.1 this
 exact⟨d,hd,congrArg Prod.fst e1,congrArg Prod.snd e1⟩
theorem Pr.rd {ok:Nat→Prop} {w:World} {b r:Nat} {v:Value} {es fs:List Ent} {p:Pl} (P:Pr ok w b r v es fs p):RD ok w r v p fs:=⟨P.rj,P.rl,P.good,by rw[←mF P.same];exact P.book.lies.len,fun e he=>by
 obtain⟨d,hd,_,h2⟩:=BV P.same he
 rw[←h2]
 exact P.book.parts d hd,P.mkd⟩
theorem lc (ok:Nat→Prop) (r:Nat) (v:Value) (p:Pl) (fs:List Ent) (n:Int) (w:World) (B:RD ok w r v p fs):Calls Tryz.prog 148 #[.pointer (some ⟨r,0,none⟩),.int .i64 n] w (gu p fs n w):=by
 by_cases h:lU p fs n
 ·obtain⟨m,rfl⟩:∃ m:Nat,n=(m:Int)+1:=⟨(n - 1).toNat,by have:=h.2.1;omega⟩
  have hm:m<fs.length:=by have:=h.2.2;omega
  refine(Ea ok r v p fs m fs[m] w B.rj B.rl B.len B.good h.1 (List.getElem?_eq_getElem hm) (B.par _ (List.getElem_mem _))).mono ?_
  rintro e w' ⟨u,rfl,o,g⟩
  unfold gu
  rw[tx h,zn h.1 (List.getElem?_eq_getElem hm)]
  exact⟨u,rfl,o,g⟩
 ·refine(BZ r v p fs n w B.rj B.rl h).mono ?_
  rintro e w' ⟨rfl,g⟩
  unfold gu
  rw[lk h,pK h]
  exact⟨_,rfl,bx.nil _ _,g⟩
def okc (c:Int):Bool:=decide (0≤c) && decide (c≤99)
def iw (c0 c1 c2 c3:Int):Bool:=okc c0 && (okc c1 && (okc c2 && okc c3))
theorem gi {c:Int} (h:okc c=true):0≤c∧c≤99:=by unfold okc at h;simpa using h
theorem pB {c:Int} (h:okc c=false):c<0∨99<c:=by
 unfold okc at h
 have:¬(0≤c∧c≤99):=fun q=>by simp[q.1,q.2] at h
 omega
def MlR (c0 c1 c2 c3:Int) (k:Nat):Prop:=(k ≥ 1→okc c0=true)∧(k ≥ 2→okc c1=true)∧(k ≥ 3→okc c2=true)∧(k ≥ 4→okc c3=true)
structure MkS (w wr:World) (F R:Nat) (a b c d e:Int):Prop where
 g:w.grownBy wr none
 f:wr.heap[F]?=some (.cells #[.int .i64 a,.int .u8 b,.int .u16 c,.int .i64 d,.int .i64 e] 65 (0,0))
 r:wr.heap[R]?=some (.cells #[.int .i64 0,.int .u8 0,.int .u16 0,.int .i64 0,.int .i64 0] 65 (0,0))
 hF:w.heap.size≤F
 hR:w.heap.size≤R
 ne:¬F=R
theorem MkS.grow {w wr w2:World} {F R:Nat} {a b c d e:Int} (h:MkS w wr F R a b c d e) (g:wr.grownBy w2 none):MkS w w2 F R a b c d e:=⟨aa h.g g,ae g h.f (by simp),ae g h.r (by simp),h.hF,h.hR,h.ne⟩
theorem MkS.set3 {w wr:World} {F R:Nat} {a b c d e:Int} (h:MkS w wr F R a b c d e) (x:Int):MkS w (wr.setCell ⟨F,3,none⟩ (.int .i64 x)) F R a b c x e:=⟨am h.g (aj _ _ _ _) (fun y e=>by cases e;exact h.hF),ar h.f _ _,ae (aj wr F 3 (.int .i64 x)) h.r (fun e=>by injection e with e;exact h.ne e.symm),h.hF,h.hR,h.ne⟩
theorem MkS.set4 {w wr:World} {F R:Nat} {a b c d e:Int} (h:MkS w wr F R a b c d e) (x:Int):MkS w (wr.setCell ⟨F,4,none⟩ (.int .i64 x)) F R a b c d x:=⟨am h.g (aj _ _ _ _) (fun y e=>by cases e;exact h.hF),ar h.f _ _,ae (aj wr F 4 (.int .i64 x)) h.r (fun e=>by injection e with e;exact h.ne e.symm),h.hF,h.hR,h.ne⟩
theorem oP (w:World) (o:Obj) (cs:Array Value) (t:TypeId):((w.alloc o).alloc (.cells cs t)).heap[w.heap.size+1]?=some (.cells cs t (0,0)):=by have:=ai (w.alloc o) cs t;rwa [World.size_alloc] at this
theorem yt (w:World) (o o2:Obj) (cs:Array Value) (t:TypeId):(((w.alloc o).alloc o2).alloc (.cells cs t)).heap[w.heap.size+1+1]?=some (.cells cs t (0,0)):=by have:=ai ((w.alloc o).alloc o2) cs t;rwa [World.size_alloc,World.size_alloc] at this
def zk (p:Pl) (c0 c1 c2 c3:Int) (k:Nat):List (Int×Mk):=(zs p c0 c1 c2 c3).take k
set_option maxRecDepth 100000
set_option maxHeartbeats 4000000
def dj (h:Hd) (ps:List Pt) (x:Int) (w:World) (e:Ending) (w':World):Prop:=∃ u,e=.returned (.tuple #[cv h u,.int .i64 x])∧bx w' w.heap.size u ps∧w.grownBy w' none
def oo (t:Th):Bool:=decide (t.owner=0) || decide (t.owner=1)
def ptF (h:Hd) (x:Int) (t:Th):Fe:=if x=0∧oo t=true then ⟨t.owner,h.su,h.tr,h.po,h.he⟩ else Fe.none
def ptE (x:Int) (t:Th):Int:=if x=0 then (if oo t=true then 0 else 2) else x
def unB (h:Hd) (x:Int) (t:Th):Bool:=decide (x=0) && (decide (t.place=4) && decide (h.kd=1))
theorem Az (bv:Value) (t:Th) (h:Hd) (ps:List Pt) (x:Int) (w:World) (HAt:∀ X,w.grownBy X none→Calls Tryz.prog 215 #[bv,.int .i64 t.card] X (dj h ps x X)):Calls Tryz.prog 197 #[bv,thv t] w (dj h ps x w):=by
 obtain⟨W0,hW0⟩:∃ W0,W0=w.alloc (.cells #[.int .i64 t.card,.int .i64 t.owner,.int .u8 t.place,.int .i64 t.stamp,.int .i64 t.hurt,.int .i64 t.m0,.int .i64 t.m1,.int .i64 t.m2,.int .i64 t.m3,.int .i64 t.done,.bool t.fresh] 100):=⟨_,rfl⟩
 obtain⟨W1,hW1⟩:∃ W1,W1=W0.alloc (.cells (ccs Hd.none (.slice none 0 0)) 54):=⟨_,rfl⟩
 have HG0:Hid (w.grownBy W0 none):=by rw[hW0];exact World.grownBy_alloc _ _ none
 have HG1:Hid (w.grownBy W1 none):=by rw[hW1];exact ak HG0.out _
 have HC1:Hid (CAt W1 W0.heap.size Hd.none (.slice none 0 0)):=by rw[hW1];exact ai W0 _ _
 have HS:Hid (W0.heap.size=w.heap.size+1∧W1.heap.size=W0.heap.size+1):=⟨by rw[hW0,World.size_alloc],by rw[hW1,World.size_alloc]⟩
 have HT:Hid (W1.heap[w.heap.size]?=some (.cells #[.int .i64 t.card,.int .i64 t.owner,.int .u8 t.place,.int .i64 t.stamp,.int .i64 t.hurt,.int .i64 t.m0,.int .i64 t.m1,.int .i64 t.m2,.int .i64 t.m3,.int .i64 t.done,.bool t.fresh] 100 (0,0))):=by rw[hW1];exact ae (World.grownBy_alloc _ _ none) (by rw[hW0];exact ai w _ _) (by simp)
 have HA:=HAt W1 HG1.out
 unfold dj at HA
 obtain⟨K,hK⟩:∃ K,K=W0.heap.size:=⟨_,rfl⟩
 have HK:Hid (K=W0.heap.size):=hK
 rw[←hK] at HC1
 have hK2:K=w.heap.size+1:=by rw[hK,HS.out.1]
 unfold cv at HA
 unfold thv
 unfold ccs Hd.none at hW1
 rw[hW0] at hW1
 clear hW0 HAt hK
 go_enter Tryz.func197,Tryz.ntmps197
 go_upto_region 1 with fail
 rw[←hW1]
 clear hW1
 rw[←hK2]
 clear hK2
 have x0:=ac HT.out 0
 go_wp2_with (first | (go_at_call 215;refine HA.mono ?_;rintro e w2 ⟨u,rfl,o2,g2⟩;obtain⟨a2,k2,rfl⟩:=o2.at.form;have HO2:Hid (bx w2 W1.heap.size (.slice a2 ps.length k2) ps):=o2;have HG2:Hid (w.grownBy w2 none):=aa HG1.out g2;have C2:=HC1.out.keep g2;obtain⟨z0,z1,z2,z3,z4,z5,z6,z7,z8⟩:=C2.cells;have zf:=fun i=>C2.free i;simp only[Hd.none] at z0 z1 z2 z3 z4 z5 z6 z7 z8;clear o2 C2) | fail)
 refine bodyPost_ret (v:=.tuple #[cv h (.slice a2 ps.length k2),.int .i64 x]) (by simp[results,Tryz.results197,go_sem,z0,z1,z2,z3,z4,z5,z6,z7,z8,cv]) rfl ⟨.slice a2 ps.length k2,rfl,?_,?_⟩
 ·have:=(HO2.out.keep (bV w2 K 0 h (.slice a2 ps.length k2)) (fun x e=>by cases e;have:=HS.out;have:=HK.out;omega)).big (show w.heap.size≤W1.heap.size by have:=HS.out;omega)
  unfold fy at this
  simp only[Nat.zero_add] at this
  exact this
 ·have:=am HG2.out (bV w2 K 0 h (.slice a2 ps.length k2)) (fun x e=>by cases e;have:=HS.out;have:=HK.out;omega)
  unfold fy at this
  simp only[Nat.zero_add] at this
  exact this
theorem B6 (bv:Value) (t:Th) (h:Hd) (ps:List Pt) (x:Int) (w:World) (HN:∀ X,w.grownBy X none→Calls Tryz.prog 136 #[bv] X fun e w'=>e=.returned (.bool false)∧w'=X) (HAt:∀ X,w.grownBy X none→Calls Tryz.prog 148 #[bv,.int .i64 t.card] X (dj h ps x X)):Calls Tryz.prog 76 #[bv,thv t] w (dj h ps x w):=by
 obtain⟨W0,hW0⟩:∃ W0,W0=w.alloc (.cells #[.int .i64 t.card,.int .i64 t.owner,.int .u8 t.place,.int .i64 t.stamp,.int .i64 t.hurt,.int .i64 t.m0,.int .i64 t.m1,.int .i64 t.m2,.int .i64 t.m3,.int .i64 t.done,.bool t.fresh] 100):=⟨_,rfl⟩
 obtain⟨W1,hW1⟩:∃ W1,W1=W0.alloc (.cells (ccs Hd.none (.slice none 0 0)) 54):=⟨_,rfl⟩
 have HG0:Hid (w.grownBy W0 none):=by rw[hW0];exact World.grownBy_alloc _ _ none
 have HG1:Hid (w.grownBy W1 none):=by rw[hW1];exact ak HG0.out _
 have HC1:Hid (CAt W1 W0.heap.size Hd.none (.slice none 0 0)):=by rw[hW1];exact ai W0 _ _
 have HS:Hid (W0.heap.size=w.heap.size+1∧W1.heap.size=W0.heap.size+1):=⟨by rw[hW0,World.size_alloc],by rw[hW1,World.size_alloc]⟩
 have HT:Hid (W1.heap[w.heap.size]?=some (.cells #[.int .i64 t.card,.int .i64 t.owner,.int .u8 t.place,.int .i64 t.stamp,.int .i64 t.hurt,.int .i64 t.m0,.int .i64 t.m1,.int .i64 t.m2,.int .i64 t.m3,.int .i64 t.done,.bool t.fresh] 100 (0,0))):=by rw[hW1];exact ae (World.grownBy_alloc _ _ none) (by rw[hW0];exact ai w _ _) (by simp)
 have HA:=HAt W1 HG1.out
 unfold dj at HA
 have HNN:=HN W1 HG1.out
 clear HN
 obtain⟨K,hK⟩:∃ K,K=W0.heap.size:=⟨_,rfl⟩
 have HK:Hid (K=W0.heap.size):=hK
 rw[←hK] at HC1
 have hK2:K=w.heap.size+1:=by rw[hK,HS.out.1]
 unfold cv at HA
 unfold thv
 unfold ccs Hd.none at hW1
 rw[hW0] at hW1
 clear hW0 HAt hK
 go_enter Tryz.func76,Tryz.ntmps76
 go_upto_region 1 with fail
 rw[←hW1]
 clear hW1
 rw[←hK2]
 clear hK2
 have x0:=ac HT.out 0
 go_wp2_with (first | (go_at_call 136;refine HNN.mono ?_;rintro e w1 ⟨rfl,h1⟩;obtain rfl:W1=w1:=h1.symm;clear HNN) | (go_at_call 148;refine HA.mono ?_;rintro e w2 ⟨u,rfl,o2,g2⟩;obtain⟨a2,k2,rfl⟩:=o2.at.form;have HO2:Hid (bx w2 W1.heap.size (.slice a2 ps.length k2) ps):=o2;have HG2:Hid (w.grownBy w2 none):=aa HG1.out g2;have C2:=HC1.out.keep g2;obtain⟨z0,z1,z2,z3,z4,z5,z6,z7,z8⟩:=C2.cells;have zf:=fun i=>C2.free i;simp only[Hd.none] at z0 z1 z2 z3 z4 z5 z6 z7 z8;clear o2 C2) | fail)
 refine bodyPost_ret (v:=.tuple #[cv h (.slice a2 ps.length k2),.int .i64 x]) (by simp[results,Tryz.results76,go_sem,z0,z1,z2,z3,z4,z5,z6,z7,z8,cv]) rfl ⟨.slice a2 ps.length k2,rfl,?_,?_⟩
 ·have:=(HO2.out.keep (bV w2 K 0 h (.slice a2 ps.length k2)) (fun x e=>by cases e;have:=HS.out;have:=HK.out;omega)).big (show w.heap.size≤W1.heap.size by have:=HS.out;omega)
  unfold fy at this
  simp only[Nat.zero_add] at this
  exact this
 ·have:=am HG2.out (bV w2 K 0 h (.slice a2 ps.length k2)) (fun x e=>by cases e;have:=HS.out;have:=HK.out;omega)
  unfold fy at this
  simp only[Nat.zero_add] at this
  exact this
theorem sU (bv:Value) (t:Th) (h:Hd) (ps:List Pt) (x:Int) (w:World) (HC:∀ X,w.grownBy X none→Calls Tryz.prog 76 #[bv,thv t] X (dj h ps x X)):Calls Tryz.prog 249 #[bv,thv t] w fun e w'=>e=.returned (.tuple #[fev (ptF h x t),.int .i64 (ptE x t)])∧w.grownBy w' none:=by
 obtain⟨W1,hW1⟩:∃ W1,W1=(w.alloc (.cells #[.int .i64 t.card,.int .i64 t.owner,.int .u8 t.place,.int .i64 t.stamp,.int .i64 t.hurt,.int .i64 t.m0,.int .i64 t.m1,.int .i64 t.m2,.int .i64 t.m3,.int .i64 t.done,.bool t.fresh] 100)).alloc (.cells #[.int .i64 0,.int .u8 0,.int .u16 0,.int .i64 0,.int .i64 0] 65):=⟨_,rfl⟩
 have HG1:Hid (w.grownBy W1 none):=by rw[hW1];exact ak (World.grownBy_alloc _ _ none) _
 have HT:Hid (W1.heap[w.heap.size]?=some (.cells #[.int .i64 t.card,.int .i64 t.owner,.int .u8 t.place,.int .i64 t.stamp,.int .i64 t.hurt,.int .i64 t.m0,.int .i64 t.m1,.int .i64 t.m2,.int .i64 t.m3,.int .i64 t.done,.bool t.fresh] 100 (0,0))):=by rw[hW1];exact ae (World.grownBy_alloc _ _ none) (ai w _ _) (by simp)
 have HR:Hid (W1.heap[w.heap.size+1]?=some (.cells #[.int .i64 0,.int .u8 0,.int .u16 0,.int .i64 0,.int .i64 0] 65 (0,0))):=by rw[hW1];exact oP _ _ _ _
 have HC1:=HC W1 HG1.out
 unfold dj cv thv at HC1
 unfold fev thv
 clear HC
 go_enter Tryz.func249,Tryz.ntmps249
 go_upto_region 1 with fail
 rw[←hW1]
 clear hW1
 obtain⟨n0,h0⟩:∃ n0,n0=w.heap.size:=⟨_,rfl⟩
 have HN:Hid (w.heap.size≤n0+1):=by show _≤_;omega
 simp only[←h0] at HT HR ⊢
 obtain⟨R,h1⟩:∃ R,R=n0+1:=⟨_,rfl⟩
 simp only[←h1] at HR HN ⊢
 clear h0 h1
 have x0:=ac HT.out 0
 have x1:=ac HT.out 1
 have x2:=ac HT.out 2
 have x3:=ac HT.out 3
 have x4:=ac HT.out 4
 have x5:=ac HT.out 5
 have x6:=ac HT.out 6
 have x7:=ac HT.out 7
 have x8:=ac HT.out 8
 have x9:=ac HT.out 9
 have x10:=ac HT.out 10
 go_wp2_with fail
 refine HC1.mono ?_
 rintro e w2 ⟨u,rfl,o2,g2⟩
 obtain⟨a2,k2,rfl⟩:=o2.at.form
 obtain⟨W3,hW3⟩:∃ W3,W3=w2.alloc (.cells (ccs h (.slice a2 ps.length k2)) 54):=⟨_,rfl⟩
 have HG3:Hid (W1.grownBy W3 none):=by rw[hW3];exact ak g2 _
 have HG4:Hid (w.grownBy W3 none):=aa HG1.out HG3.out
 have HK:Hid (W3.heap[w2.heap.size]?=some (.cells (ccs h (.slice a2 ps.length k2)) 54 (0,0))):=by rw[hW3];exact ai _ _ _
 have HT3:Hid (W3.heap[n0]?=some (.cells #[.int .i64 t.card,.int .i64 t.owner,.int .u8 t.place,.int .i64 t.stamp,.int .i64 t.hurt,.int .i64 t.m0,.int .i64 t.m1,.int .i64 t.m2,.int .i64 t.m3,.int .i64 t.done,.bool t.fresh] 100 (0,0))):=ae HG3.out HT.out (by simp)
 have HR3:Hid (W3.heap[R]?=some (.cells #[.int .i64 0,.int .u8 0,.int .u16 0,.int .i64 0,.int .i64 0] 65 (0,0))):=ae HG3.out HR.out (by simp)
 unfold ccs at hW3
 clear HC1 o2 g2 HG3 HT HR HG1 x0 x1 x2 x3 x4 x5 x6 x7 x8 x9 x10
 go_upto_region 2 with fail
 rw[←hW3]
 clear hW3
 obtain⟨k,hk⟩:∃ k,k=w2.heap.size:=⟨_,rfl⟩
 rw[←hk] at HK ⊢
 clear hk
 have y1:=ac HT3.out 1
 have q1:=ac HK.out 1
 have q4:=ac HK.out 4
 have q5:=ac HK.out 5
 have q6:=ac HK.out 6
 simp only[ccs] at q1 q4 q5 q6
 have r0:=ac HR3.out 0
 have r1:=ac HR3.out 1
 have r2:=ac HR3.out 2
 have r3:=ac HR3.out 3
 have r4:=ac HR3.out 4
 have rf:=fun i=>ao HR3.out i
 by_cases hx:x=0
 ·subst hx
  cases ho:oo t with
  | true =>
   have HE:Hid (ptF h 0 t=⟨t.owner,h.su,h.tr,h.po,h.he⟩∧ptE 0 t=0):=by unfold ptF ptE;rw[ho];exact⟨rfl,rfl⟩
   rcases (show t.owner=0∨t.owner=1 from by unfold oo at ho;simpa using ho) with e | e
   ·clear ho
    rw[e] at y1
    have HEo:Hid (t.owner=0):=e
    clear e
    go_wp2
    refine bodyPost_ret (v:=.tuple #[fev ⟨0,h.su,h.tr,h.po,h.he⟩,.int .i64 0]) (by simp[results,Tryz.results249,go_sem,fev,r0,r1,r2,r3,r4]) rfl ⟨by rw[HE.out.1,HE.out.2,HEo.out];rfl,?_⟩
    exact am HG4.out (((((aj _ _ _ _).trans (aj _ _ _ _)).trans (aj _ _ _ _)).trans (aj _ _ _ _)).trans (aj _ _ _ _)) (fun y e=>by cases e;exact HN.out)
   ·clear ho
    rw[e] at y1
    have HEo:Hid (t.owner=1):=e
    clear e
    go_wp2
    refine bodyPost_ret (v:=.tuple #[fev ⟨1,h.su,h.tr,h.po,h.he⟩,.int .i64 0]) (by simp[results,Tryz.results249,go_sem,fev,r0,r1,r2,r3,r4]) rfl ⟨by rw[HE.out.1,HE.out.2,HEo.out];rfl,?_⟩
    exact am HG4.out (((((aj _ _ _ _).trans (aj _ _ _ _)).trans (aj _ _ _ _)).trans (aj _ _ _ _)).trans (aj _ _ _ _)) (fun y e=>by cases e;exact HN.out)
  | false =>
   have HE:Hid (ptF h 0 t=Fe.none∧ptE 0 t=2):=by unfold ptF ptE;rw[ho];exact⟨rfl,rfl⟩
   have hne:¬(t.owner=0∨t.owner=1):=by unfold oo at ho;simpa using ho
   have e1:(t.owner != 0)=true:=by simp;omega
   have e2:(t.owner != 1)=true:=by simp;omega
   clear ho hne
   go_wp2
   refine bodyPost_ret (v:=.tuple #[fev Fe.none,.int .i64 2]) (by simp[results,Tryz.results249,go_sem,fev,Fe.none,r0,r1,r2,r3,r4]) rfl ⟨by rw[HE.out.1,HE.out.2];rfl,?_⟩
   exact am HG4.out (((((aj _ _ _ _).trans (aj _ _ _ _)).trans (aj _ _ _ _)).trans (aj _ _ _ _)).trans (aj _ _ _ _)) (fun y e=>by cases e;exact HN.out)
 ·have HE:Hid (ptF h x t=Fe.none∧ptE x t=x):=by unfold ptF ptE;rw[if_neg (fun q=>hx q.1),if_neg hx];exact⟨rfl,rfl⟩
  have e1:(x != 0)=true:=by simpa using hx
  clear hx
  go_wp2
  refine bodyPost_ret (v:=.tuple #[fev Fe.none,.int .i64 x]) (by simp[results,Tryz.results249,go_sem,fev,Fe.none,r0,r1,r2,r3,r4]) rfl ⟨by rw[HE.out.1,HE.out.2];rfl,?_⟩
  exact am HG4.out (((((aj _ _ _ _).trans (aj _ _ _ _)).trans (aj _ _ _ _)).trans (aj _ _ _ _)).trans (aj _ _ _ _)) (fun y e=>by cases e;exact HN.out)
theorem wa {a b:Bool} (h:a=b):Ending.returned (.bool a)=Ending.returned (.bool b):=by rw[h]
theorem BL (bv:Value) (t:Th) (h:Hd) (ps:List Pt) (x:Int) (w:World) (HC:∀ X,w.grownBy X none→Calls Tryz.prog 197 #[bv,thv t] X (dj h ps x X)):Calls Tryz.prog 133 #[bv,thv t] w fun e w'=>e=.returned (.bool (unB h x t))∧w.grownBy w' none:=by
 obtain⟨W1,hW1⟩:∃ W1,W1=w.alloc (.cells #[.int .i64 t.card,.int .i64 t.owner,.int .u8 t.place,.int .i64 t.stamp,.int .i64 t.hurt,.int .i64 t.m0,.int .i64 t.m1,.int .i64 t.m2,.int .i64 t.m3,.int .i64 t.done,.bool t.fresh] 100):=⟨_,rfl⟩
 have HG1:Hid (w.grownBy W1 none):=by rw[hW1];exact World.grownBy_alloc _ _ none
 have HT:Hid (W1.heap[w.heap.size]?=some (.cells #[.int .i64 t.card,.int .i64 t.owner,.int .u8 t.place,.int .i64 t.stamp,.int .i64 t.hurt,.int .i64 t.m0,.int .i64 t.m1,.int .i64 t.m2,.int .i64 t.m3,.int .i64 t.done,.bool t.fresh] 100 (0,0))):=by rw[hW1];exact ai w _ _
 have HC1:=HC W1 HG1.out
 unfold dj cv thv at HC1
 unfold thv
 clear HC
 go_enter Tryz.func133,Tryz.ntmps133
 go_upto_region 1 with fail
 rw[←hW1]
 clear hW1
 obtain⟨n0,h0⟩:∃ n0,n0=w.heap.size:=⟨_,rfl⟩
 simp only[←h0] at HT ⊢
 clear h0
 have x0:=ac HT.out 0
 have x1:=ac HT.out 1
 have x2:=ac HT.out 2
 have x3:=ac HT.out 3
 have x4:=ac HT.out 4
 have x5:=ac HT.out 5
 have x6:=ac HT.out 6
 have x7:=ac HT.out 7
 have x8:=ac HT.out 8
 have x9:=ac HT.out 9
 have x10:=ac HT.out 10
 go_wp2_with fail
 refine HC1.mono ?_
 rintro e w2 ⟨u,rfl,o2,g2⟩
 obtain⟨a2,k2,rfl⟩:=o2.at.form
 obtain⟨W3,hW3⟩:∃ W3,W3=w2.alloc (.cells (ccs h (.slice a2 ps.length k2)) 54):=⟨_,rfl⟩
 have HG3:Hid (W1.grownBy W3 none):=by rw[hW3];exact ak g2 _
 have HG4:Hid (w.grownBy W3 none):=aa HG1.out HG3.out
 have HK:Hid (W3.heap[w2.heap.size]?=some (.cells (ccs h (.slice a2 ps.length k2)) 54 (0,0))):=by rw[hW3];exact ai _ _ _
 have HT3:Hid (W3.heap[n0]?=some (.cells #[.int .i64 t.card,.int .i64 t.owner,.int .u8 t.place,.int .i64 t.stamp,.int .i64 t.hurt,.int .i64 t.m0,.int .i64 t.m1,.int .i64 t.m2,.int .i64 t.m3,.int .i64 t.done,.bool t.fresh] 100 (0,0))):=ae HG3.out HT.out (by simp)
 unfold ccs at hW3
 clear HC1 o2 g2 HG3 HT HG1 x0 x1 x2 x3 x4 x5 x6 x7 x8 x9 x10
 go_upto_region 2 with fail
 rw[←hW3]
 clear hW3
 obtain⟨k,hk⟩:∃ k,k=w2.heap.size:=⟨_,rfl⟩
 rw[←hk] at HK ⊢
 clear hk
 have y2:=ac HT3.out 2
 have q2:=ac HK.out 2
 simp only[ccs] at q2
 by_cases hx:x=0
 ·subst hx
  by_cases hp:t.place=4
  ·have e2:(t.place == 4)=true:=by simpa using hp
   by_cases hd:h.kd=1
   ·have e3:(h.kd == 1)=true:=by simpa using hd
    have HE:Hid (unB h 0 t=true):=by show unB h 0 t=true;unfold unB;simp[hp,hd]
    clear hp hd
    go_wp2
    go_ret
    exact⟨wa HE.out.symm,HG4.out⟩
   ·have e3:(h.kd == 1)=false:=by simpa using hd
    have HE:Hid (unB h 0 t=false):=by show unB h 0 t=false;unfold unB;simp[hd]
    clear hp hd
    go_wp2
    go_ret
    exact⟨wa HE.out.symm,HG4.out⟩
  ·have e2:(t.place == 4)=false:=by simpa using hp
   have HE:Hid (unB h 0 t=false):=by show unB h 0 t=false;unfold unB;simp[hp]
   clear hp
   go_wp2
   go_ret
   exact⟨wa HE.out.symm,HG4.out⟩
 ·have e1:(x == 0)=false:=by simpa using hx
  have HE:Hid (unB h x t=false):=by show unB h x t=false;unfold unB;simp[hx]
  clear hx
  go_wp2
  go_ret
  exact⟨wa HE.out.symm,HG4.out⟩
theorem lr (ok:Nat→Prop) (b:Nat) (es:List Ent) (p:Pl) (t:Th) (w:World) (B:cR ok w b es p):Calls Tryz.prog 197 #[.pointer (some ⟨b,0,none⟩),thv t] w (dj (atC p es t.card).1 (atC p es t.card).2 (atX p es t.card) w):=Az _ t _ _ _ w (fun X g=>Ba ok b es p t.card X (B.keep g))
theorem ug (ok:Nat→Prop) (r:Nat) (v:Value) (p:Pl) (fs:List Ent) (t:Th) (w:World) (B:RD ok w r v p fs):Calls Tryz.prog 76 #[.pointer (some ⟨r,0,none⟩),thv t] w (dj (atC p fs t.card).1 (atC p fs t.card).2 (atX p fs t.card) w):=B6 _ t _ _ _ w (fun X g=>bj r v p X (B.rj.keep g)) (fun X g=>lc ok r v p fs t.card X (B.keep g))
end Go.Proofs.YthfjgpjcepmnmaaGreat
