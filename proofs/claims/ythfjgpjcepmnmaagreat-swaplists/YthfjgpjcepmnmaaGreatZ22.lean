/-
  Lists of parts that are written over: OverParts;markParts.
  BookScript: a pair of books;a card is added to both.
  thing.Card,and the document's: of every book made and every number the card in memory of its own,or the fault.
  thing's isBook,mayLie and Marked,of every book made,features and marks.
  thing.Marked,of every book made,features and marks.
  thing's Card,Printed and Unit,and the document's: of whatever answers a card.
-/
import Derived.Test.YthfjgpjcepmnmaaGreatZ9
import Derived.OwnWalk
import Derived.Test.YthfjgpjcepmnmaaGreatZRCa
import Derived.Test.YthfjgpjcepmnmaaGreatZ15
import Derived.Test.YthfjgpjcepmnmaaGreatZ13
import Derived.Test.YthfjgpjcepmnmaaGreatZ19
import Derived.Deep.MidRow
namespace Go.Proofs.YthfjgpjcepmnmaaGreat
open Go.RowKit
def RoomAt (w:World) (g cap:Nat):Prop:=∃ cs,w.heap[g]?=some (.cells cs 38 (0,0))∧cs.size=cap*8
theorem RoomAt.keep {w w':World} {g cap:Nat} {r:Option Nat} (h:RoomAt w g cap) (k:w.grownBy w' r) (hr:some g≠r):RoomAt w' g cap:=by
 obtain⟨cs,h1,h2⟩:=h
 exact⟨cs,grown_keep k h1 hr,h2⟩
theorem RoomAt.cell {w:World} {g cap:Nat} (h:RoomAt w g cap) {i:Nat} (hi:i<cap*8):∃ u,w.cell? ⟨g,i,none⟩=some u:=by
 obtain⟨cs,h1,h2⟩:=h
 exact⟨cs[i]'(by omega),by rw[block_cell h1];exact Array.getElem?_eq_getElem (by omega)⟩
theorem RoomAt.free {w:World} {g cap:Nat} (h:RoomAt w g cap) (i:Nat):w.frozen? ⟨g,i,none⟩=false:=by
 obtain⟨cs,h1,_⟩:=h
 exact block_free h1 i
theorem RoomAt.set {w:World} {g cap:Nat} (h:RoomAt w g cap) (i:Nat) (v:Value):RoomAt (w.setCell ⟨g,i,none⟩ v) g cap:=by
 obtain⟨cs,h1,h2⟩:=h
 exact⟨cs.setIfInBounds i v,block_set h1 i v,by simpa using h2⟩
def lim (n:Nat):Prop:=n≤maxLen
theorem lim.wrap {n k:Nat} (h:lim n) (hk:k<n):wrap64 ((k:Int)+1)=(k:Int)+1:=by unfold lim maxLen at h;unfold wrap64;omega
structure Pr (ok:Nat→Prop) (w:World) (b r:Nat) (v:Value) (es fs:List Ent) (p:Pl):Prop where
 book:Book ok w b es p
 rj:RJ w r v p
 rl:RL w v fs
 own:∀ k,v.ownBlock=some k→ok k∧k<w.heap.size
 good:Good ok w fs
 same:es.map hp=fs.map hp
 mkd:MkD p
 zero:p.nms[0]?=some ⟨#[]⟩
theorem hp_len {es fs:List Ent} (h:es.map hp=fs.map hp):es.length=fs.length:=by have:=congrArg List.length h;simpa using this
theorem hp_names {es fs:List Ent} (h:es.map hp=fs.map hp):names es=names fs:=by
 have:=congrArg (List.map fun x:Hd×List Pt=>x.1.nm) h
 rw[List.map_map,List.map_map] at this
 exact this
theorem hp_caE {es fs:List Ent} (h:es.map hp=fs.map hp) (p:Pl) (c:Cd):caE p es c=caE p fs c:=by
 unfold caE
 rw[hp_names h,hp_len h]
theorem hp_rk:∀ {es fs:List Ent} (_:es.map hp=fs.map hp) (h:Hd),rk es h=rk fs h
 | [],[],_,_=>rfl
 | [],_ :: _,e,_=>by simp at e
 | _ :: _,[],e,_=>by simp at e
 | x :: r,y :: t,e,h=>by
  rw[List.map_cons,List.map_cons] at e
  injection e with e1 e2
  injection e1 with e1 _
  simp only[rk]
  rw[e1,hp_rk e2 h]
theorem hp_ins {es fs:List Ent} (h:es.map hp=fs.map hp) (hd:Hd) (u u':Value) (ps:List Pt):(ins es ⟨hd,u,ps⟩).map hp=(ins fs ⟨hd,u',ps⟩).map hp:=by
 unfold ins
 simp only[List.map_append,List.map_cons,List.map_take,List.map_drop]
 rw[h,hp_rk h]
 rfl
theorem hp_atC {es fs:List Ent} (h:es.map hp=fs.map hp) (p:Pl) (n:Int):atC p es n=atC p fs n:=by
 unfold atC
 have e:(es.map hp)[(n - 1).toNat]?=(fs.map hp)[(n - 1).toNat]?:=by rw[h]
 rw[List.getElem?_map,List.getElem?_map] at e
 split
 ·cases h1:es[(n - 1).toNat]? with
  | none =>
   cases h2:fs[(n - 1).toNat]? with
   | none=>rfl
   | some y=>rw[h1,h2] at e;cases e
  | some x =>
   cases h2:fs[(n - 1).toNat]? with
   | none=>rw[h1,h2] at e;cases e
   | some y =>
    rw[h1,h2] at e
    simp only[Option.map_some,Option.some.injEq] at e
    exact e
 ·rfl
theorem atC_in {p:Pl} {es:List Ent} {m:Nat} {e:Ent} (hs:p.shut=true) (he:es[m]?=some e):atC p es ((m:Int)+1)=(e.h,e.ps):=by
 unfold atC
 rw[if_pos ⟨hs,by omega⟩,show ((m:Int)+1 - 1).toNat=m by omega,he]
theorem atC_out {p:Pl} {es:List Ent} {n:Int} (h:¬atIn p es n):atC p es n=(Hd.none,[]):=by
 unfold atC
 split
 ·rename_i h1
  have:es[(n - 1).toNat]?=none:=List.getElem?_eq_none (by
   have:¬n≤(es.length:Int):=fun h2=>h ⟨h1.1,h1.2,h2⟩
   omega)
  rw[this]
 ·rfl
theorem atX_in {p:Pl} {es:List Ent} {n:Int} (h:atIn p es n):atX p es n=0:=by unfold atX;exact if_pos h
theorem atX_out {p:Pl} {es:List Ent} {n:Int} (h:¬atIn p es n):atX p es n=6:=by unfold atX;exact if_neg h
def CaPost (p:Pl) (es:List Ent) (n:Int) (w:World) (e:Ending) (w':World):Prop:=∃ u,e=.returned (.tuple #[cv (atC p es n).1 u,.int .i64 (atX p es n)])∧POwn w' w.heap.size u (atC p es n).2∧w.grownBy w' none
theorem at_own (ok:Nat→Prop) (b:Nat) (es:List Ent) (p:Pl) (n:Int) (w:World) (B:Book ok w b es p):Calls Tryz.prog 215 #[.pointer (some ⟨b,0,none⟩),.int .i64 n] w (CaPost p es n w):=by
 by_cases h:atIn p es n
 ·obtain⟨m,rfl⟩:∃ m:Nat,n=(m:Int)+1:=⟨(n - 1).toNat,by have:=h.2.1;omega⟩
  have hm:m<es.length:=by have:=h.2.2;omega
  refine(at_in ok b es p m es[m] w B.lies B.good h.1 (List.getElem?_eq_getElem hm) (B.parts _ (List.getElem_mem _))).mono ?_
  rintro e w' ⟨u,rfl,o,g⟩
  unfold CaPost
  rw[atX_in h,atC_in h.1 (List.getElem?_eq_getElem hm)]
  exact⟨u,rfl,o,g⟩
 ·refine(at_out b es p n w B.lies h).mono ?_
  rintro e w' ⟨rfl,g⟩
  unfold CaPost
  rw[atX_out h,atC_out h]
  exact⟨_,rfl,POwn.nil _ _,g⟩
structure RD (ok:Nat→Prop) (w:World) (r:Nat) (v:Value) (p:Pl) (fs:List Ent):Prop where
 rj:RJ w r v p
 rl:RL w v fs
 good:Good ok w fs
 len:fs.length≤64
 par:∀ e∈fs,e.ps.length≤4
 mkd:MkD p
theorem RD.keep {ok:Nat→Prop} {w w':World} {r:Nat} {v:Value} {p:Pl} {fs:List Ent} (h:RD ok w r v p fs) (g:w.grownBy w' none):RD ok w' r v p fs:=⟨h.rj.keep g,h.rl.keep g,h.good.keep g,h.len,h.par,h.mkd⟩
theorem hp_memD {es fs:List Ent} (h:es.map hp=fs.map hp) {e:Ent} (he:e∈fs):∃ d∈es,d.h=e.h∧d.ps=e.ps:=by
 have:hp e∈es.map hp:=by rw[h];exact List.mem_map_of_mem he
 obtain⟨d,hd,e1⟩:=List.mem_map.1 this
 exact⟨d,hd,congrArg Prod.fst e1,congrArg Prod.snd e1⟩
theorem Pr.rd {ok:Nat→Prop} {w:World} {b r:Nat} {v:Value} {es fs:List Ent} {p:Pl} (P:Pr ok w b r v es fs p):RD ok w r v p fs:=⟨P.rj,P.rl,P.good,by rw[←hp_len P.same];exact P.book.lies.len,fun e he=>by
 obtain⟨d,hd,_,h2⟩:=hp_memD P.same he
 rw[←h2]
 exact P.book.parts d hd,P.mkd⟩
theorem rat_own (ok:Nat→Prop) (r:Nat) (v:Value) (p:Pl) (fs:List Ent) (n:Int) (w:World) (B:RD ok w r v p fs):Calls Tryz.prog 148 #[.pointer (some ⟨r,0,none⟩),.int .i64 n] w (CaPost p fs n w):=by
 by_cases h:atIn p fs n
 ·obtain⟨m,rfl⟩:∃ m:Nat,n=(m:Int)+1:=⟨(n - 1).toNat,by have:=h.2.1;omega⟩
  have hm:m<fs.length:=by have:=h.2.2;omega
  refine(rat_in ok r v p fs m fs[m] w B.rj B.rl B.len B.good h.1 (List.getElem?_eq_getElem hm) (B.par _ (List.getElem_mem _))).mono ?_
  rintro e w' ⟨u,rfl,o,g⟩
  unfold CaPost
  rw[atX_in h,atC_in h.1 (List.getElem?_eq_getElem hm)]
  exact⟨u,rfl,o,g⟩
 ·refine(rat_out r v p fs n w B.rj B.rl h).mono ?_
  rintro e w' ⟨rfl,g⟩
  unfold CaPost
  rw[atX_out h,atC_out h]
  exact⟨_,rfl,POwn.nil _ _,g⟩
def okc (c:Int):Bool:=decide (0≤c) && decide (c≤99)
def okcs (c0 c1 c2 c3:Int):Bool:=okc c0 && (okc c1 && (okc c2 && okc c3))
theorem okc_yes {c:Int} (h:okc c=true):0≤c∧c≤99:=by unfold okc at h;simpa using h
theorem okc_no {c:Int} (h:okc c=false):c<0∨99<c:=by
 unfold okc at h
 have:¬(0≤c∧c≤99):=fun q=>by simp[q.1,q.2] at h
 omega
def MlR (c0 c1 c2 c3:Int) (k:Nat):Prop:=(k ≥ 1→okc c0=true)∧(k ≥ 2→okc c1=true)∧(k ≥ 3→okc c2=true)∧(k ≥ 4→okc c3=true)
structure MkS (w wr:World) (F R:Nat) (a b c d e:Int):Prop where
 g:w.grownBy wr none
 f:wr.heap[F]?=some (.cells #[.int .i64 a,.int .u8 b,.int .u16 c,.int .i64 d,.int .i64 e] 65 (0,0))
 r:wr.heap[R]?=some (.cells #[.int .i64 0,.int .u8 0,.int .u16 0,.int .i64 0,.int .i64 0] 65 (0,0))
 hF:w.heap.size≤F
 hR:w.heap.size≤R
 ne:¬F=R
theorem MkS.grow {w wr w2:World} {F R:Nat} {a b c d e:Int} (h:MkS w wr F R a b c d e) (g:wr.grownBy w2 none):MkS w w2 F R a b c d e:=⟨grown_trans h.g g,grown_keep g h.f (by simp),grown_keep g h.r (by simp),h.hF,h.hR,h.ne⟩
theorem MkS.set3 {w wr:World} {F R:Nat} {a b c d e:Int} (h:MkS w wr F R a b c d e) (x:Int):MkS w (wr.setCell ⟨F,3,none⟩ (.int .i64 x)) F R a b c x e:=⟨grown_own h.g (grown_set _ _ _ _) (fun y e=>by cases e;exact h.hF),block_set h.f _ _,grown_keep (grown_set wr F 3 (.int .i64 x)) h.r (fun e=>by injection e with e;exact h.ne e.symm),h.hF,h.hR,h.ne⟩
theorem MkS.set4 {w wr:World} {F R:Nat} {a b c d e:Int} (h:MkS w wr F R a b c d e) (x:Int):MkS w (wr.setCell ⟨F,4,none⟩ (.int .i64 x)) F R a b c d x:=⟨grown_own h.g (grown_set _ _ _ _) (fun y e=>by cases e;exact h.hF),block_set h.f _ _,grown_keep (grown_set wr F 4 (.int .i64 x)) h.r (fun e=>by injection e with e;exact h.ne e.symm),h.hF,h.hR,h.ne⟩
theorem alloc2_at (w:World) (o:Obj) (cs:Array Value) (t:TypeId):((w.alloc o).alloc (.cells cs t)).heap[w.heap.size+1]?=some (.cells cs t (0,0)):=by have:=alloc_at (w.alloc o) cs t;rwa [World.size_alloc] at this
theorem alloc3_at (w:World) (o o2:Obj) (cs:Array Value) (t:TypeId):(((w.alloc o).alloc o2).alloc (.cells cs t)).heap[w.heap.size+1+1]?=some (.cells cs t (0,0)):=by have:=alloc_at ((w.alloc o).alloc o2) cs t;rwa [World.size_alloc,World.size_alloc] at this
def zk (p:Pl) (c0 c1 c2 c3:Int) (k:Nat):List (Int×Mk):=(zs p c0 c1 c2 c3).take k
set_option maxRecDepth 100000
set_option maxHeartbeats 4000000
def CrPost (h:Hd) (ps:List Pt) (x:Int) (w:World) (e:Ending) (w':World):Prop:=∃ u,e=.returned (.tuple #[cv h u,.int .i64 x])∧POwn w' w.heap.size u ps∧w.grownBy w' none
def own01 (t:Th):Bool:=decide (t.owner=0) || decide (t.owner=1)
def ptF (h:Hd) (x:Int) (t:Th):Fe:=if x=0∧own01 t=true then ⟨t.owner,h.su,h.tr,h.po,h.he⟩ else Fe.none
def ptE (x:Int) (t:Th):Int:=if x=0 then (if own01 t=true then 0 else 2) else x
theorem tcard_of (bv:Value) (t:Th) (h:Hd) (ps:List Pt) (x:Int) (w:World) (HAt:∀ X,w.grownBy X none→Calls Tryz.prog 215 #[bv,.int .i64 t.card] X (CrPost h ps x X)):Calls Tryz.prog 197 #[bv,thv t] w (CrPost h ps x w):=by
 obtain⟨W0,hW0⟩:∃ W0,W0=w.alloc (.cells #[.int .i64 t.card,.int .i64 t.owner,.int .u8 t.place,.int .i64 t.stamp,.int .i64 t.hurt,.int .i64 t.m0,.int .i64 t.m1,.int .i64 t.m2,.int .i64 t.m3,.int .i64 t.done,.bool t.fresh] 100):=⟨_,rfl⟩
 obtain⟨W1,hW1⟩:∃ W1,W1=W0.alloc (.cells (ccs Hd.none (.slice none 0 0)) 54):=⟨_,rfl⟩
 have HG0:Hid (w.grownBy W0 none):=by rw[hW0];exact World.grownBy_alloc _ _ none
 have HG1:Hid (w.grownBy W1 none):=by rw[hW1];exact grown_push HG0.out _
 have HC1:Hid (CAt W1 W0.heap.size Hd.none (.slice none 0 0)):=by rw[hW1];exact alloc_at W0 _ _
 have HS:Hid (W0.heap.size=w.heap.size+1∧W1.heap.size=W0.heap.size+1):=⟨by rw[hW0,World.size_alloc],by rw[hW1,World.size_alloc]⟩
 have HT:Hid (W1.heap[w.heap.size]?=some (.cells #[.int .i64 t.card,.int .i64 t.owner,.int .u8 t.place,.int .i64 t.stamp,.int .i64 t.hurt,.int .i64 t.m0,.int .i64 t.m1,.int .i64 t.m2,.int .i64 t.m3,.int .i64 t.done,.bool t.fresh] 100 (0,0))):=by rw[hW1];exact grown_keep (World.grownBy_alloc _ _ none) (by rw[hW0];exact alloc_at w _ _) (by simp)
 have HA:=HAt W1 HG1.out
 unfold CrPost at HA
 obtain⟨K,hK⟩:∃ K,K=W0.heap.size:=⟨_,rfl⟩
 have HK:Hid (K=W0.heap.size):=hK
 rw[←hK] at HC1
 have hK2:K=w.heap.size+1:=by rw[hK,HS.out.1]
 unfold cv at HA
 unfold thv
 unfold ccs Hd.none at hW1
 rw[hW0] at hW1
 clear hW0 HAt hK
 go_enter Tryz.func197,Tryz.ntmps197
 go_upto_region 1 with fail
 rw[←hW1]
 clear hW1
 rw[←hK2]
 clear hK2
 have x0:=block_cell HT.out 0
 go_wp2_with (first | (go_at_call 215;refine HA.mono ?_;rintro e w2 ⟨u,rfl,o2,g2⟩;obtain⟨a2,k2,rfl⟩:=o2.at.form;have HO2:Hid (POwn w2 W1.heap.size (.slice a2 ps.length k2) ps):=o2;have HG2:Hid (w.grownBy w2 none):=grown_trans HG1.out g2;have C2:=HC1.out.keep g2;obtain⟨z0,z1,z2,z3,z4,z5,z6,z7,z8⟩:=C2.cells;have zf:=fun i=>C2.free i;simp only[Hd.none] at z0 z1 z2 z3 z4 z5 z6 z7 z8;clear o2 C2) | fail)
 refine bodyPost_ret (v:=.tuple #[cv h (.slice a2 ps.length k2),.int .i64 x]) (by simp[results,Tryz.results197,go_sem,z0,z1,z2,z3,z4,z5,z6,z7,z8,cv]) rfl ⟨.slice a2 ps.length k2,rfl,?_,?_⟩
 ·have:=(HO2.out.keep (grown_s9 w2 K 0 h (.slice a2 ps.length k2)) (fun x e=>by cases e;have:=HS.out;have:=HK.out;omega)).big (show w.heap.size≤W1.heap.size by have:=HS.out;omega)
  unfold set9 at this
  simp only[Nat.zero_add] at this
  exact this
 ·have:=grown_own HG2.out (grown_s9 w2 K 0 h (.slice a2 ps.length k2)) (fun x e=>by cases e;have:=HS.out;have:=HK.out;omega)
  unfold set9 at this
  simp only[Nat.zero_add] at this
  exact this
theorem rcard_of (bv:Value) (t:Th) (h:Hd) (ps:List Pt) (x:Int) (w:World) (HN:∀ X,w.grownBy X none→Calls Tryz.prog 136 #[bv] X fun e w'=>e=.returned (.bool false)∧w'=X) (HAt:∀ X,w.grownBy X none→Calls Tryz.prog 148 #[bv,.int .i64 t.card] X (CrPost h ps x X)):Calls Tryz.prog 76 #[bv,thv t] w (CrPost h ps x w):=by
 obtain⟨W0,hW0⟩:∃ W0,W0=w.alloc (.cells #[.int .i64 t.card,.int .i64 t.owner,.int .u8 t.place,.int .i64 t.stamp,.int .i64 t.hurt,.int .i64 t.m0,.int .i64 t.m1,.int .i64 t.m2,.int .i64 t.m3,.int .i64 t.done,.bool t.fresh] 100):=⟨_,rfl⟩
 obtain⟨W1,hW1⟩:∃ W1,W1=W0.alloc (.cells (ccs Hd.none (.slice none 0 0)) 54):=⟨_,rfl⟩
 have HG0:Hid (w.grownBy W0 none):=by rw[hW0];exact World.grownBy_alloc _ _ none
 have HG1:Hid (w.grownBy W1 none):=by rw[hW1];exact grown_push HG0.out _
 have HC1:Hid (CAt W1 W0.heap.size Hd.none (.slice none 0 0)):=by rw[hW1];exact alloc_at W0 _ _
 have HS:Hid (W0.heap.size=w.heap.size+1∧W1.heap.size=W0.heap.size+1):=⟨by rw[hW0,World.size_alloc],by rw[hW1,World.size_alloc]⟩
 have HT:Hid (W1.heap[w.heap.size]?=some (.cells #[.int .i64 t.card,.int .i64 t.owner,.int .u8 t.place,.int .i64 t.stamp,.int .i64 t.hurt,.int .i64 t.m0,.int .i64 t.m1,.int .i64 t.m2,.int .i64 t.m3,.int .i64 t.done,.bool t.fresh] 100 (0,0))):=by rw[hW1];exact grown_keep (World.grownBy_alloc _ _ none) (by rw[hW0];exact alloc_at w _ _) (by simp)
 have HA:=HAt W1 HG1.out
 unfold CrPost at HA
 have HNN:=HN W1 HG1.out
 clear HN
 obtain⟨K,hK⟩:∃ K,K=W0.heap.size:=⟨_,rfl⟩
 have HK:Hid (K=W0.heap.size):=hK
 rw[←hK] at HC1
 have hK2:K=w.heap.size+1:=by rw[hK,HS.out.1]
 unfold cv at HA
 unfold thv
 unfold ccs Hd.none at hW1
 rw[hW0] at hW1
 clear hW0 HAt hK
 go_enter Tryz.func76,Tryz.ntmps76
 go_upto_region 1 with fail
 rw[←hW1]
 clear hW1
 rw[←hK2]
 clear hK2
 have x0:=block_cell HT.out 0
 go_wp2_with (first | (go_at_call 136;refine HNN.mono ?_;rintro e w1 ⟨rfl,h1⟩;obtain rfl:W1=w1:=h1.symm;clear HNN) | (go_at_call 148;refine HA.mono ?_;rintro e w2 ⟨u,rfl,o2,g2⟩;obtain⟨a2,k2,rfl⟩:=o2.at.form;have HO2:Hid (POwn w2 W1.heap.size (.slice a2 ps.length k2) ps):=o2;have HG2:Hid (w.grownBy w2 none):=grown_trans HG1.out g2;have C2:=HC1.out.keep g2;obtain⟨z0,z1,z2,z3,z4,z5,z6,z7,z8⟩:=C2.cells;have zf:=fun i=>C2.free i;simp only[Hd.none] at z0 z1 z2 z3 z4 z5 z6 z7 z8;clear o2 C2) | fail)
 refine bodyPost_ret (v:=.tuple #[cv h (.slice a2 ps.length k2),.int .i64 x]) (by simp[results,Tryz.results76,go_sem,z0,z1,z2,z3,z4,z5,z6,z7,z8,cv]) rfl ⟨.slice a2 ps.length k2,rfl,?_,?_⟩
 ·have:=(HO2.out.keep (grown_s9 w2 K 0 h (.slice a2 ps.length k2)) (fun x e=>by cases e;have:=HS.out;have:=HK.out;omega)).big (show w.heap.size≤W1.heap.size by have:=HS.out;omega)
  unfold set9 at this
  simp only[Nat.zero_add] at this
  exact this
 ·have:=grown_own HG2.out (grown_s9 w2 K 0 h (.slice a2 ps.length k2)) (fun x e=>by cases e;have:=HS.out;have:=HK.out;omega)
  unfold set9 at this
  simp only[Nat.zero_add] at this
  exact this
theorem rprinted_of (bv:Value) (t:Th) (h:Hd) (ps:List Pt) (x:Int) (w:World) (HC:∀ X,w.grownBy X none→Calls Tryz.prog 76 #[bv,thv t] X (CrPost h ps x X)):Calls Tryz.prog 249 #[bv,thv t] w fun e w'=>e=.returned (.tuple #[fev (ptF h x t),.int .i64 (ptE x t)])∧w.grownBy w' none:=by
 obtain⟨W1,hW1⟩:∃ W1,W1=(w.alloc (.cells #[.int .i64 t.card,.int .i64 t.owner,.int .u8 t.place,.int .i64 t.stamp,.int .i64 t.hurt,.int .i64 t.m0,.int .i64 t.m1,.int .i64 t.m2,.int .i64 t.m3,.int .i64 t.done,.bool t.fresh] 100)).alloc (.cells #[.int .i64 0,.int .u8 0,.int .u16 0,.int .i64 0,.int .i64 0] 65):=⟨_,rfl⟩
 have HG1:Hid (w.grownBy W1 none):=by rw[hW1];exact grown_push (World.grownBy_alloc _ _ none) _
 have HT:Hid (W1.heap[w.heap.size]?=some (.cells #[.int .i64 t.card,.int .i64 t.owner,.int .u8 t.place,.int .i64 t.stamp,.int .i64 t.hurt,.int .i64 t.m0,.int .i64 t.m1,.int .i64 t.m2,.int .i64 t.m3,.int .i64 t.done,.bool t.fresh] 100 (0,0))):=by rw[hW1];exact grown_keep (World.grownBy_alloc _ _ none) (alloc_at w _ _) (by simp)
 have HR:Hid (W1.heap[w.heap.size+1]?=some (.cells #[.int .i64 0,.int .u8 0,.int .u16 0,.int .i64 0,.int .i64 0] 65 (0,0))):=by rw[hW1];exact alloc2_at _ _ _ _
 have HC1:=HC W1 HG1.out
 unfold CrPost cv thv at HC1
 unfold fev thv
 clear HC
 go_enter Tryz.func249,Tryz.ntmps249
 go_upto_region 1 with fail
 rw[←hW1]
 clear hW1
 obtain⟨n0,h0⟩:∃ n0,n0=w.heap.size:=⟨_,rfl⟩
 have HN:Hid (w.heap.size≤n0+1):=by show _≤_;omega
 simp only[←h0] at HT HR ⊢
 obtain⟨R,h1⟩:∃ R,R=n0+1:=⟨_,rfl⟩
 simp only[←h1] at HR HN ⊢
 clear h0 h1
 have x0:=block_cell HT.out 0
 have x1:=block_cell HT.out 1
 have x2:=block_cell HT.out 2
 have x3:=block_cell HT.out 3
 have x4:=block_cell HT.out 4
 have x5:=block_cell HT.out 5
 have x6:=block_cell HT.out 6
 have x7:=block_cell HT.out 7
 have x8:=block_cell HT.out 8
 have x9:=block_cell HT.out 9
 have x10:=block_cell HT.out 10
 go_wp2_with fail
 refine HC1.mono ?_
 rintro e w2 ⟨u,rfl,o2,g2⟩
 obtain⟨a2,k2,rfl⟩:=o2.at.form
 obtain⟨W3,hW3⟩:∃ W3,W3=w2.alloc (.cells (ccs h (.slice a2 ps.length k2)) 54):=⟨_,rfl⟩
 have HG3:Hid (W1.grownBy W3 none):=by rw[hW3];exact grown_push g2 _
 have HG4:Hid (w.grownBy W3 none):=grown_trans HG1.out HG3.out
 have HK:Hid (W3.heap[w2.heap.size]?=some (.cells (ccs h (.slice a2 ps.length k2)) 54 (0,0))):=by rw[hW3];exact alloc_at _ _ _
 have HT3:Hid (W3.heap[n0]?=some (.cells #[.int .i64 t.card,.int .i64 t.owner,.int .u8 t.place,.int .i64 t.stamp,.int .i64 t.hurt,.int .i64 t.m0,.int .i64 t.m1,.int .i64 t.m2,.int .i64 t.m3,.int .i64 t.done,.bool t.fresh] 100 (0,0))):=grown_keep HG3.out HT.out (by simp)
 have HR3:Hid (W3.heap[R]?=some (.cells #[.int .i64 0,.int .u8 0,.int .u16 0,.int .i64 0,.int .i64 0] 65 (0,0))):=grown_keep HG3.out HR.out (by simp)
 unfold ccs at hW3
 clear HC1 o2 g2 HG3 HT HR HG1 x0 x1 x2 x3 x4 x5 x6 x7 x8 x9 x10
 go_upto_region 2 with fail
 rw[←hW3]
 clear hW3
 obtain⟨k,hk⟩:∃ k,k=w2.heap.size:=⟨_,rfl⟩
 rw[←hk] at HK ⊢
 clear hk
 have y1:=block_cell HT3.out 1
 have q1:=block_cell HK.out 1
 have q4:=block_cell HK.out 4
 have q5:=block_cell HK.out 5
 have q6:=block_cell HK.out 6
 simp only[ccs] at q1 q4 q5 q6
 have r0:=block_cell HR3.out 0
 have r1:=block_cell HR3.out 1
 have r2:=block_cell HR3.out 2
 have r3:=block_cell HR3.out 3
 have r4:=block_cell HR3.out 4
 have rf:=fun i=>block_free HR3.out i
 by_cases hx:x=0
 ·subst hx
  cases ho:own01 t with
  | true =>
   have HE:Hid (ptF h 0 t=⟨t.owner,h.su,h.tr,h.po,h.he⟩∧ptE 0 t=0):=by unfold ptF ptE;rw[ho];exact⟨rfl,rfl⟩
   rcases (show t.owner=0∨t.owner=1 from by unfold own01 at ho;simpa using ho) with e | e
   ·clear ho
    rw[e] at y1
    have HEo:Hid (t.owner=0):=e
    clear e
    go_wp2
    refine bodyPost_ret (v:=.tuple #[fev ⟨0,h.su,h.tr,h.po,h.he⟩,.int .i64 0]) (by simp[results,Tryz.results249,go_sem,fev,r0,r1,r2,r3,r4]) rfl ⟨by rw[HE.out.1,HE.out.2,HEo.out];rfl,?_⟩
    exact grown_own HG4.out (((((grown_set _ _ _ _).trans (grown_set _ _ _ _)).trans (grown_set _ _ _ _)).trans (grown_set _ _ _ _)).trans (grown_set _ _ _ _)) (fun y e=>by cases e;exact HN.out)
   ·clear ho
    rw[e] at y1
    have HEo:Hid (t.owner=1):=e
    clear e
    go_wp2
    refine bodyPost_ret (v:=.tuple #[fev ⟨1,h.su,h.tr,h.po,h.he⟩,.int .i64 0]) (by simp[results,Tryz.results249,go_sem,fev,r0,r1,r2,r3,r4]) rfl ⟨by rw[HE.out.1,HE.out.2,HEo.out];rfl,?_⟩
    exact grown_own HG4.out (((((grown_set _ _ _ _).trans (grown_set _ _ _ _)).trans (grown_set _ _ _ _)).trans (grown_set _ _ _ _)).trans (grown_set _ _ _ _)) (fun y e=>by cases e;exact HN.out)
  | false =>
   have HE:Hid (ptF h 0 t=Fe.none∧ptE 0 t=2):=by unfold ptF ptE;rw[ho];exact⟨rfl,rfl⟩
   have hne:¬(t.owner=0∨t.owner=1):=by unfold own01 at ho;simpa using ho
   have e1:(t.owner != 0)=true:=by simp;omega
   have e2:(t.owner != 1)=true:=by simp;omega
   clear ho hne
   go_wp2
   refine bodyPost_ret (v:=.tuple #[fev Fe.none,.int .i64 2]) (by simp[results,Tryz.results249,go_sem,fev,Fe.none,r0,r1,r2,r3,r4]) rfl ⟨by rw[HE.out.1,HE.out.2];rfl,?_⟩
   exact grown_own HG4.out (((((grown_set _ _ _ _).trans (grown_set _ _ _ _)).trans (grown_set _ _ _ _)).trans (grown_set _ _ _ _)).trans (grown_set _ _ _ _)) (fun y e=>by cases e;exact HN.out)
 ·have HE:Hid (ptF h x t=Fe.none∧ptE x t=x):=by unfold ptF ptE;rw[if_neg (fun q=>hx q.1),if_neg hx];exact⟨rfl,rfl⟩
  have e1:(x != 0)=true:=by simpa using hx
  clear hx
  go_wp2
  refine bodyPost_ret (v:=.tuple #[fev Fe.none,.int .i64 x]) (by simp[results,Tryz.results249,go_sem,fev,Fe.none,r0,r1,r2,r3,r4]) rfl ⟨by rw[HE.out.1,HE.out.2];rfl,?_⟩
  exact grown_own HG4.out (((((grown_set _ _ _ _).trans (grown_set _ _ _ _)).trans (grown_set _ _ _ _)).trans (grown_set _ _ _ _)).trans (grown_set _ _ _ _)) (fun y e=>by cases e;exact HN.out)
theorem tcard_book (ok:Nat→Prop) (b:Nat) (es:List Ent) (p:Pl) (t:Th) (w:World) (B:Book ok w b es p):Calls Tryz.prog 197 #[.pointer (some ⟨b,0,none⟩),thv t] w (CrPost (atC p es t.card).1 (atC p es t.card).2 (atX p es t.card) w):=tcard_of _ t _ _ _ w (fun X g=>at_own ok b es p t.card X (B.keep g))
theorem rcard_book (ok:Nat→Prop) (r:Nat) (v:Value) (p:Pl) (fs:List Ent) (t:Th) (w:World) (B:RD ok w r v p fs):Calls Tryz.prog 76 #[.pointer (some ⟨r,0,none⟩),thv t] w (CrPost (atC p fs t.card).1 (atC p fs t.card).2 (atX p fs t.card) w):=rcard_of _ t _ _ _ w (fun X g=>rnone_any r v p X (B.rj.keep g)) (fun X g=>rat_own ok r v p fs t.card X (B.keep g))
end Go.Proofs.YthfjgpjcepmnmaaGreat
