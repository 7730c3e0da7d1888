import Derived.Test.YtjmepebbcnhalaaGreatZRCa
namespace Go.Proofs.YtjmepebbcnhalaaGreat
open Tryz
open Go.RowKit
variable {w w' wr:World} {g cap b:Nat} {es:List Ent} {p:Pl} {n a d:Int} {ok:Nat→Prop} {v:Value}
def fL (w:World) (g cap:Nat):Prop:=∃ cs,w.heap[g]?=some (.cells cs 62 (0,0))∧cs.size=cap*8
theorem fL.keep {r:Option Nat} (h:fL w g cap) (k:w.grownBy w' r) (hr:some g≠r):fL w' g cap:=by
 obtain⟨cs,h1,h2⟩:=h;exact⟨cs,ag k h1 hr,h2⟩
theorem fL.cell (h:fL w g cap) {i:Nat} (hi:i<cap*8):∃ u,w.cell? ⟨g,i,none⟩=some u:=by
 obtain⟨cs,h1,h2⟩:=h;exact⟨cs[i]'(by omega),by rw[ae h1];exact Qbz (by omega)⟩
theorem fL.free (h:fL w g cap) (i:Nat):w.frozen? ⟨g,i,none⟩=false:=by
 obtain⟨cs,h1,_⟩:=h;exact aq h1 i
theorem fL.set (h:fL w g cap) (i:Nat) (v:Value):fL (w.setCell ⟨g,i,none⟩ v) g cap:=by
 obtain⟨cs,h1,h2⟩:=h;exact⟨cs.setIfInBounds i v,au h1 i v,by simpa using h2⟩
def lim (n:Nat):Prop:=n≤maxLen
theorem lim.wrap {n k:Nat} (h:lim n) (hk:k<n):wrap64 ((k:Int)+1)=(k:Int)+1:=by unfold lim maxLen at h;unfold wrap64;omega
structure Pr (ok:Nat→Prop) (w:World) (b r:Nat) (v:Value) (es fs:List Ent) (p:Pl):Prop where
 book:eD ok w b es p
 rj:RJ w r v p
 rl:RL w v fs
 own:∀ k,v.ownBlock=some k→ok k∧k<w.heap.size
 good:dA ok w fs
 same:es.map hp=fs.map hp
 mkd:MkD p
 zero:p.nms[0]?=some ⟨#[]⟩
theorem lq {fs:List Ent} (h:es.map hp=fs.map hp):es.length=fs.length:=by have:=congrArg List.length h;simpa using this
theorem uF {fs:List Ent} (h:es.map hp=fs.map hp):bL es=bL fs:=by
 have:=congrArg (List.map fun x:Hd×List Pt=>x.1.nm) h;rw[List.map_map,List.map_map] at this;exact this
theorem Gx {fs:List Ent} (h:es.map hp=fs.map hp) (p:Pl) (c:Cd):caE p es c=caE p fs c:=by
 unfold caE;rw[uF h,lq h]
theorem FV:∀ {es fs:List Ent} (_:es.map hp=fs.map hp) (h:Hd),rk es h=rk fs h
 | [],[],_,_=>rfl
 | [],_ :: _,e,_=>by simp at e
 | _ :: _,[],e,_=>by simp at e
 | x :: r,y :: t,e,h=>by
  rw[Qbs,Qbs] at e;injection e with e1 e2;injection e1 with e1 _;simp only[rk];rw[e1,FV e2 h]
theorem Gv {fs:List Ent} (h:es.map hp=fs.map hp) (hd:Hd) (u u':Value) (ps:List Pt):(ins es ⟨hd,u,ps⟩).map hp=(ins fs ⟨hd,u',ps⟩).map hp:=by
 unfold ins;simp only[List.map_append,List.map_cons,List.map_take,List.map_drop];rw[h,FV h];rfl
theorem Cw {fs:List Ent} (h:es.map hp=fs.map hp) (p:Pl) (n:Int):atC p es n=atC p fs n:=by
 unfold atC;have e:(es.map hp)[(n - 1).toNat]?=(fs.map hp)[(n - 1).toNat]?:=by rw[h]
 rw[Qak,Qak] at e;split
 ·cases h1:es[(n - 1).toNat]? with
  | none =>
   cases h2:fs[(n - 1).toNat]? with
   | none=>rfl
   | some y=>rw[h1,h2] at e;cases e
  | some x =>
   cases h2:fs[(n - 1).toNat]? with
   | none=>rw[h1,h2] at e;cases e
   | some y =>
    rw[h1,h2] at e;simp only[Option.map_some,Option.some.injEq] at e;exact e
 ·rfl
theorem Cc {m:Nat} {e:Ent} (hs:p.shut=true) (he:es[m]?=some e):atC p es ((m:Int)+1)=(e.h,e.ps):=by
 unfold atC;rw[if_pos ⟨hs,by omega⟩,show ((m:Int)+1 - 1).toNat=m by omega,he]
theorem sK (h:¬nw p es n):atC p es n=(Hd.none,[]):=by
 unfold atC;split
 ·rename_i h1
  have:es[(n - 1).toNat]?=none:=Qan (by
   have:¬n≤(es.length:Int):=fun h2=>h ⟨h1.1,h1.2,h2⟩
   omega)
  rw[this]
 ·rfl
theorem wN (h:nw p es n):atX p es n=0:=by unfold atX;exact if_pos h
theorem mM (h:¬nw p es n):atX p es n=6:=by unfold atX;exact if_neg h
def iq (p:Pl) (es:List Ent) (n:Int) (w:World) (e:Ending) (w':World):Prop:=∃ u,e=.returned (.tuple #[cv (atC p es n).1 u,.int .i64 (atX p es n)])∧bJ w' w.heap.size u (atC p es n).2∧w.grownBy w' none
theorem Dz (ok:Nat→Prop) (b:Nat) (es:List Ent) (p:Pl) (n:Int) (w:World) (B:eD ok w b es p):Calls prog 189 #[.pointer (some ⟨b,0,none⟩),.int .i64 n] w (iq p es n w):=by
 by_cases h:nw p es n
 ·obtain⟨m,rfl⟩:∃ m:Nat,n=(m:Int)+1:=⟨(n - 1).toNat,by have:=h.2.1;omega⟩
  have hm:m<es.length:=by have:=h.2.2;omega
  refine(Ip ok b es p m es[m] w B.lies B.good h.1 (Qg hm) (B.parts _ (Qab _))).mono ?_;rintro e w' ⟨u,rfl,o,g⟩;unfold iq;rw[wN h,Cc h.1 (Qg hm)];exact⟨u,rfl,o,g⟩
 ·refine(GY b es p n w B.lies h).mono ?_;rintro e w' ⟨rfl,g⟩;unfold iq;rw[mM h,sK h];exact⟨_,rfl,bJ.nil _ _,g⟩
structure RD (ok:Nat→Prop) (w:World) (r:Nat) (v:Value) (p:Pl) (fs:List Ent):Prop where
 rj:RJ w r v p
 rl:RL w v fs
 good:dA ok w fs
 len:fs.length≤64
 par:∀ e∈fs,e.ps.length≤4
 mkd:MkD p
theorem RD.keep {r:Nat} {fs:List Ent} (h:RD ok w r v p fs) (g:w.grownBy w' none):RD ok w' r v p fs:=⟨h.rj.keep g,h.rl.keep g,h.good.keep g,h.len,h.par,h.mkd⟩
theorem Fv {fs:List Ent} (h:es.map hp=fs.map hp) {e:Ent} (he:e∈fs):∃ d∈es,d.h=e.h∧d.ps=e.ps:=by
 have:hp e∈es.map hp:=by rw[h];exact Qd6 he
 obtain⟨d,hd,e1⟩:=List.mem_map.1 this;exact⟨d,hd,congrArg Prod.fst e1,congrArg Prod.snd e1⟩
theorem Pr.rd {r:Nat} {fs:List Ent} (P:Pr ok w b r v es fs p):RD ok w r v p fs:=⟨P.rj,P.rl,P.good,by rw[←lq P.same];exact P.book.lies.len,fun e he=>by
 obtain⟨d,hd,_,h2⟩:=Fv P.same he;rw[←h2]
 exact P.book.parts d hd,P.mkd⟩
theorem nh (ok:Nat→Prop) (r:Nat) (v:Value) (p:Pl) (fs:List Ent) (n:Int) (w:World) (B:RD ok w r v p fs):Calls prog 144 #[.pointer (some ⟨r,0,none⟩),.int .i64 n] w (iq p fs n w):=by
 by_cases h:nw p fs n
 ·obtain⟨m,rfl⟩:∃ m:Nat,n=(m:Int)+1:=⟨(n - 1).toNat,by have:=h.2.1;omega⟩
  have hm:m<fs.length:=by have:=h.2.2;omega
  refine(Ge ok r v p fs m fs[m] w B.rj B.rl B.len B.good h.1 (Qg hm) (B.par _ (Qab _))).mono ?_;rintro e w' ⟨u,rfl,o,g⟩;unfold iq;rw[wN h,Cc h.1 (Qg hm)];exact⟨u,rfl,o,g⟩
 ·refine(Fm r v p fs n w B.rj B.rl h).mono ?_;rintro e w' ⟨rfl,g⟩;unfold iq;rw[mM h,sK h];exact⟨_,rfl,bJ.nil _ _,g⟩
def okc (c:Int):Bool:=decide (0≤c) && decide (c≤99)
def ji (c0 c1 c2 c3:Int):Bool:=okc c0 && (okc c1 && (okc c2 && okc c3))
theorem ik {c:Int} (h:okc c=true):0≤c∧c≤99:=by unfold okc at h;simpa using h
theorem sm {c:Int} (h:okc c=false):c<0∨99<c:=by
 unfold okc at h;have:¬(0≤c∧c≤99):=fun q=>by simp[q.1,q.2] at h
 omega
def MlR (c0 c1 c2 c3:Int) (k:Nat):Prop:=(k ≥ 1→okc c0=true)∧(k ≥ 2→okc c1=true)∧(k ≥ 3→okc c2=true)∧(k ≥ 4→okc c3=true)
structure MkS (w wr:World) (F R:Nat) (a b c d e:Int):Prop where
 g:w.grownBy wr none
 f:wr.heap[F]?=some (.cells #[.int .i64 a,.int .u8 b,.int .u16 c,.int .i64 d,.int .i64 e] 122 (0,0))
 r:wr.heap[R]?=some (.cells #[.int .i64 0,.int .u8 0,.int .u16 0,.int .i64 0,.int .i64 0] 122 (0,0))
 hF:w.heap.size≤F
 hR:w.heap.size≤R
 ne:¬F=R
theorem MkS.grow {w2:World} {F R:Nat} {b c e:Int} (h:MkS w wr F R a b c d e) (g:wr.grownBy w2 none):MkS w w2 F R a b c d e:=⟨aa h.g g,ag g h.f (by simp),ag g h.r (by simp),h.hF,h.hR,h.ne⟩
theorem MkS.set3 {F R:Nat} {b c e:Int} (h:MkS w wr F R a b c d e) (x:Int):MkS w (wr.setCell ⟨F,3,none⟩ (.int .i64 x)) F R a b c x e:=⟨ak h.g (al _ _ _ _) (fun y e=>by cases e;exact h.hF),au h.f _ _,ag (al wr F 3 (.int .i64 x)) h.r (fun e=>by injection e with e;exact h.ne e.symm),h.hF,h.hR,h.ne⟩
theorem MkS.set4 {F R:Nat} {b c e:Int} (h:MkS w wr F R a b c d e) (x:Int):MkS w (wr.setCell ⟨F,4,none⟩ (.int .i64 x)) F R a b c d x:=⟨ak h.g (al _ _ _ _) (fun y e=>by cases e;exact h.hF),au h.f _ _,ag (al wr F 4 (.int .i64 x)) h.r (fun e=>by injection e with e;exact h.ne e.symm),h.hF,h.hR,h.ne⟩
theorem qu (w:World) (o:Obj) (cs:Array Value) (t:TypeId):((w.alloc o).alloc (.cells cs t)).heap[w.heap.size+1]?=some (.cells cs t (0,0)):=by have:=aj (w.alloc o) cs t;rwa [Qa3] at this
theorem Ac (w:World) (o o2:Obj) (cs:Array Value) (t:TypeId):(((w.alloc o).alloc o2).alloc (.cells cs t)).heap[w.heap.size+1+1]?=some (.cells cs t (0,0)):=by have:=aj ((w.alloc o).alloc o2) cs t;rwa [Qa3,Qa3] at this
def zk (p:Pl) (c0 c1 c2 c3:Int) (k:Nat):List (Int×Mk):=(zs p c0 c1 c2 c3).take k
set_option maxRecDepth 100000
set_option maxHeartbeats 4000000
def dw (h:Hd) (ps:List Pt) (x:Int) (w:World) (e:Ending) (w':World):Prop:=∃ u,e=.returned (.tuple #[cv h u,.int .i64 x])∧bJ w' w.heap.size u ps∧w.grownBy w' none
def qK (t:Th):Bool:=decide (t.owner=0) || decide (t.owner=1)
def ptF (h:Hd) (x:Int) (t:Th):Fe:=if x=0∧qK t=true then ⟨t.owner,h.su,h.tr,h.po,h.he⟩ else Fe.none
def ptE (x:Int) (t:Th):Int:=if x=0 then (if qK t=true then 0 else 2) else x
def unB (h:Hd) (x:Int) (t:Th):Bool:=decide (x=0) && (decide (t.place=4) && decide (h.kd=1))
theorem Cg (bv:Value) (t:Th) (h:Hd) (ps:List Pt) (x:Int) (w:World) (HAt:∀ X,w.grownBy X none→Calls prog 189 #[bv,.int .i64 t.card] X (dw h ps x X)):Calls prog 192 #[bv,thv t] w (dw h ps x w):=by
 obtain⟨W0,hW0⟩:=Qe (w.alloc (.cells #[.int .i64 t.card,.int .i64 t.owner,.int .u8 t.place,.int .i64 t.stamp,.int .i64 t.hurt,.int .i64 t.m0,.int .i64 t.m1,.int .i64 t.m2,.int .i64 t.m3,.int .i64 t.done,.bool t.fresh] 120));obtain⟨W1,hW1⟩:=Qe (W0.alloc (.cells (ccs Hd.none (.slice none 0 0)) 111));have HG0:QH (w.grownBy W0 none):=by rw[hW0];exact QG
 have HG1:QH (w.grownBy W1 none):=by rw[hW1];exact am HG0.o _
 have HC1:QH (CAt W1 W0.heap.size Hd.none (.slice none 0 0)):=by rw[hW1];exact aj W0 _ _
 have HS:QH (W0.heap.size=w.heap.size+1∧W1.heap.size=W0.heap.size+1):=⟨by rw[hW0,Qa3],by rw[hW1,Qa3]⟩
 have HT:QH (W1.heap[w.heap.size]?=some (.cells #[.int .i64 t.card,.int .i64 t.owner,.int .u8 t.place,.int .i64 t.stamp,.int .i64 t.hurt,.int .i64 t.m0,.int .i64 t.m1,.int .i64 t.m2,.int .i64 t.m3,.int .i64 t.done,.bool t.fresh] 120 (0,0))):=by rw[hW1];exact ag QG (by rw[hW0];exact aj w _ _) (by simp)
 have HA:=HAt W1 HG1.o;unfold dw at HA;obtain⟨K,hK⟩:=Qe (W0.heap.size);have HK:QH (K=W0.heap.size):=hK;rw[←hK] at HC1;have hK2:K=w.heap.size+1:=by rw[hK,HS.o.1]
 unfold cv at HA;unfold thv;unfold ccs Hd.none at hW1;rw[hW0] at hW1;clear hW0 HAt hK;go_enter func192,ntmps192;go_upto_region 1 with fail;rw[←hW1];clear hW1;rw[←hK2];clear hK2;have x0:=ae HT.o 0;go_wp2_with (first | (go_at_call 189;refine HA.mono ?_;rintro e w2 ⟨u,rfl,o2,g2⟩;obtain⟨a2,k2,rfl⟩:=o2.at.form;have HO2:QH (bJ w2 W1.heap.size (.slice a2 ps.length k2) ps):=o2;have HG2:QH (w.grownBy w2 none):=aa HG1.o g2;have C2:=HC1.o.keep g2;obtain⟨z0,z1,z2,z3,z4,z5,z6,z7,z8⟩:=C2.cells;have zf:=fun i=>C2.free i;simp only[Hd.none] at z0 z1 z2 z3 z4 z5 z6 z7 z8;clear o2 C2) | fail)
 refine bodyPost_ret (v:=.tuple #[cv h (.slice a2 ps.length k2),.int .i64 x]) (by simp[results,results192,go_sem,z0,z1,z2,z3,z4,z5,z6,z7,z8,cv]) rfl ⟨.slice a2 ps.length k2,rfl,?_,?_⟩
 ·have:=(HO2.o.keep (dc w2 K 0 h (.slice a2 ps.length k2)) (fun x e=>by cases e;have:=HS.o;have:=HK.o;omega)).big (show w.heap.size≤W1.heap.size by have:=HS.o;omega);unfold gy at this;simp only[Nat.zero_add] at this;exact this
 ·have:=ak HG2.o (dc w2 K 0 h (.slice a2 ps.length k2)) (fun x e=>by cases e;have:=HS.o;have:=HK.o;omega);unfold gy at this;simp only[Nat.zero_add] at this;exact this
theorem D7 (bv:Value) (t:Th) (h:Hd) (ps:List Pt) (x:Int) (w:World) (HN:∀ X,w.grownBy X none→Calls prog 116 #[bv] X fun e w'=>e=.returned (.bool false)∧w'=X) (HAt:∀ X,w.grownBy X none→Calls prog 144 #[bv,.int .i64 t.card] X (dw h ps x X)):Calls prog 108 #[bv,thv t] w (dw h ps x w):=by
 obtain⟨W0,hW0⟩:=Qe (w.alloc (.cells #[.int .i64 t.card,.int .i64 t.owner,.int .u8 t.place,.int .i64 t.stamp,.int .i64 t.hurt,.int .i64 t.m0,.int .i64 t.m1,.int .i64 t.m2,.int .i64 t.m3,.int .i64 t.done,.bool t.fresh] 120));obtain⟨W1,hW1⟩:=Qe (W0.alloc (.cells (ccs Hd.none (.slice none 0 0)) 111));have HG0:QH (w.grownBy W0 none):=by rw[hW0];exact QG
 have HG1:QH (w.grownBy W1 none):=by rw[hW1];exact am HG0.o _
 have HC1:QH (CAt W1 W0.heap.size Hd.none (.slice none 0 0)):=by rw[hW1];exact aj W0 _ _
 have HS:QH (W0.heap.size=w.heap.size+1∧W1.heap.size=W0.heap.size+1):=⟨by rw[hW0,Qa3],by rw[hW1,Qa3]⟩
 have HT:QH (W1.heap[w.heap.size]?=some (.cells #[.int .i64 t.card,.int .i64 t.owner,.int .u8 t.place,.int .i64 t.stamp,.int .i64 t.hurt,.int .i64 t.m0,.int .i64 t.m1,.int .i64 t.m2,.int .i64 t.m3,.int .i64 t.done,.bool t.fresh] 120 (0,0))):=by rw[hW1];exact ag QG (by rw[hW0];exact aj w _ _) (by simp)
 have HA:=HAt W1 HG1.o;unfold dw at HA;have HNN:=HN W1 HG1.o;clear HN;obtain⟨K,hK⟩:=Qe (W0.heap.size);have HK:QH (K=W0.heap.size):=hK;rw[←hK] at HC1;have hK2:K=w.heap.size+1:=by rw[hK,HS.o.1]
 unfold cv at HA;unfold thv;unfold ccs Hd.none at hW1;rw[hW0] at hW1;clear hW0 HAt hK;go_enter func108,ntmps108;go_upto_region 1 with fail;rw[←hW1];clear hW1;rw[←hK2];clear hK2;have x0:=ae HT.o 0;go_wp2_with (first | (go_at_call 116;refine HNN.mono ?_;rintro e w1 ⟨rfl,h1⟩;obtain rfl:W1=w1:=h1.symm;clear HNN) | (go_at_call 144;refine HA.mono ?_;rintro e w2 ⟨u,rfl,o2,g2⟩;obtain⟨a2,k2,rfl⟩:=o2.at.form;have HO2:QH (bJ w2 W1.heap.size (.slice a2 ps.length k2) ps):=o2;have HG2:QH (w.grownBy w2 none):=aa HG1.o g2;have C2:=HC1.o.keep g2;obtain⟨z0,z1,z2,z3,z4,z5,z6,z7,z8⟩:=C2.cells;have zf:=fun i=>C2.free i;simp only[Hd.none] at z0 z1 z2 z3 z4 z5 z6 z7 z8;clear o2 C2) | fail)
 refine bodyPost_ret (v:=.tuple #[cv h (.slice a2 ps.length k2),.int .i64 x]) (by simp[results,results108,go_sem,z0,z1,z2,z3,z4,z5,z6,z7,z8,cv]) rfl ⟨.slice a2 ps.length k2,rfl,?_,?_⟩
 ·have:=(HO2.o.keep (dc w2 K 0 h (.slice a2 ps.length k2)) (fun x e=>by cases e;have:=HS.o;have:=HK.o;omega)).big (show w.heap.size≤W1.heap.size by have:=HS.o;omega);unfold gy at this;simp only[Nat.zero_add] at this;exact this
 ·have:=ak HG2.o (dc w2 K 0 h (.slice a2 ps.length k2)) (fun x e=>by cases e;have:=HS.o;have:=HK.o;omega);unfold gy at this;simp only[Nat.zero_add] at this;exact this
theorem ve (bv:Value) (t:Th) (h:Hd) (ps:List Pt) (x:Int) (w:World) (HC:∀ X,w.grownBy X none→Calls prog 108 #[bv,thv t] X (dw h ps x X)):Calls prog 225 #[bv,thv t] w fun e w'=>e=.returned (.tuple #[fev (ptF h x t),.int .i64 (ptE x t)])∧w.grownBy w' none:=by
 obtain⟨W1,hW1⟩:=Qe ((w.alloc (.cells #[.int .i64 t.card,.int .i64 t.owner,.int .u8 t.place,.int .i64 t.stamp,.int .i64 t.hurt,.int .i64 t.m0,.int .i64 t.m1,.int .i64 t.m2,.int .i64 t.m3,.int .i64 t.done,.bool t.fresh] 120)).alloc (.cells #[.int .i64 0,.int .u8 0,.int .u16 0,.int .i64 0,.int .i64 0] 122));have HG1:QH (w.grownBy W1 none):=by rw[hW1];exact am QG _
 have HT:QH (W1.heap[w.heap.size]?=some (.cells #[.int .i64 t.card,.int .i64 t.owner,.int .u8 t.place,.int .i64 t.stamp,.int .i64 t.hurt,.int .i64 t.m0,.int .i64 t.m1,.int .i64 t.m2,.int .i64 t.m3,.int .i64 t.done,.bool t.fresh] 120 (0,0))):=by rw[hW1];exact ag QG (aj w _ _) (by simp)
 have HR:QH (W1.heap[w.heap.size+1]?=some (.cells #[.int .i64 0,.int .u8 0,.int .u16 0,.int .i64 0,.int .i64 0] 122 (0,0))):=by rw[hW1];exact qu _ _ _ _
 have HC1:=HC W1 HG1.o;unfold dw cv thv at HC1;unfold fev thv;clear HC;go_enter func225,ntmps225;go_upto_region 1 with fail;rw[←hW1];clear hW1;obtain⟨n0,h0⟩:=Qe (w.heap.size);have HN:QH (w.heap.size≤n0+1):=by show _≤_;omega
 simp only[←h0] at HT HR ⊢;obtain⟨R,h1⟩:=Qe (n0+1);simp only[←h1] at HR HN ⊢;clear h0 h1;have x0:=ae HT.o 0;have x1:=ae HT.o 1;have x2:=ae HT.o 2;have x3:=ae HT.o 3;have x4:=ae HT.o 4;have x5:=ae HT.o 5;have x6:=ae HT.o 6;have x7:=ae HT.o 7;have x8:=ae HT.o 8;have x9:=ae HT.o 9;have x10:=ae HT.o 10;go_wp2_with fail;refine HC1.mono ?_;rintro e w2 ⟨u,rfl,o2,g2⟩;obtain⟨a2,k2,rfl⟩:=o2.at.form;obtain⟨W3,hW3⟩:=Qe (w2.alloc (.cells (ccs h (.slice a2 ps.length k2)) 111));have HG3:QH (W1.grownBy W3 none):=by rw[hW3];exact am g2 _
 have HG4:QH (w.grownBy W3 none):=aa HG1.o HG3.o;have HK:QH (W3.heap[w2.heap.size]?=some (.cells (ccs h (.slice a2 ps.length k2)) 111 (0,0))):=by rw[hW3];exact aj _ _ _
 have HT3:QH (W3.heap[n0]?=some (.cells #[.int .i64 t.card,.int .i64 t.owner,.int .u8 t.place,.int .i64 t.stamp,.int .i64 t.hurt,.int .i64 t.m0,.int .i64 t.m1,.int .i64 t.m2,.int .i64 t.m3,.int .i64 t.done,.bool t.fresh] 120 (0,0))):=ag HG3.o HT.o (by simp);have HR3:QH (W3.heap[R]?=some (.cells #[.int .i64 0,.int .u8 0,.int .u16 0,.int .i64 0,.int .i64 0] 122 (0,0))):=ag HG3.o HR.o (by simp);unfold ccs at hW3;clear HC1 o2 g2 HG3 HT HR HG1 x0 x1 x2 x3 x4 x5 x6 x7 x8 x9 x10;go_upto_region 2 with fail;rw[←hW3];clear hW3;obtain⟨k,hk⟩:=Qe (w2.heap.size);rw[←hk] at HK ⊢;clear hk;have y1:=ae HT3.o 1;have q1:=ae HK.o 1;have q4:=ae HK.o 4;have q5:=ae HK.o 5;have q6:=ae HK.o 6;simp only[ccs] at q1 q4 q5 q6;have r0:=ae HR3.o 0;have r1:=ae HR3.o 1;have r2:=ae HR3.o 2;have r3:=ae HR3.o 3;have r4:=ae HR3.o 4;have rf:=fun i=>aq HR3.o i;by_cases hx:x=0
 ·subst hx;cases ho:qK t with
  | true =>
   have HE:QH (ptF h 0 t=⟨t.owner,h.su,h.tr,h.po,h.he⟩∧ptE 0 t=0):=by unfold ptF ptE;rw[ho];exact⟨rfl,rfl⟩
   rcases (show t.owner=0∨t.owner=1 from by unfold qK at ho;simpa using ho) with e | e
   ·clear ho;rw[e] at y1;have HEo:QH (t.owner=0):=e;clear e;go_wp2;refine bodyPost_ret (v:=.tuple #[fev ⟨0,h.su,h.tr,h.po,h.he⟩,.int .i64 0]) (by simp[results,results225,go_sem,fev,r0,r1,r2,r3,r4]) rfl ⟨by rw[HE.o.1,HE.o.2,HEo.o];rfl,?_⟩;exact ak HG4.o (((((al _ _ _ _).trans (al _ _ _ _)).trans (al _ _ _ _)).trans (al _ _ _ _)).trans (al _ _ _ _)) (fun y e=>by cases e;exact HN.o)
   ·clear ho;rw[e] at y1;have HEo:QH (t.owner=1):=e;clear e;go_wp2;refine bodyPost_ret (v:=.tuple #[fev ⟨1,h.su,h.tr,h.po,h.he⟩,.int .i64 0]) (by simp[results,results225,go_sem,fev,r0,r1,r2,r3,r4]) rfl ⟨by rw[HE.o.1,HE.o.2,HEo.o];rfl,?_⟩;exact ak HG4.o (((((al _ _ _ _).trans (al _ _ _ _)).trans (al _ _ _ _)).trans (al _ _ _ _)).trans (al _ _ _ _)) (fun y e=>by cases e;exact HN.o)
  | false =>
   have HE:QH (ptF h 0 t=Fe.none∧ptE 0 t=2):=(by unfold ptF ptE;rw[ho];exact⟨rfl,rfl⟩);have hne:¬(t.owner=0∨t.owner=1):=(by unfold qK at ho;simpa using ho);have e1:(t.owner != 0)=true:=(by simp;omega);have e2:(t.owner != 1)=true:=(by simp;omega);clear ho hne;go_wp2;refine bodyPost_ret (v:=.tuple #[fev Fe.none,.int .i64 2]) (by simp[results,results225,go_sem,fev,Fe.none,r0,r1,r2,r3,r4]) rfl ⟨by rw[HE.o.1,HE.o.2];rfl,?_⟩;exact ak HG4.o (((((al _ _ _ _).trans (al _ _ _ _)).trans (al _ _ _ _)).trans (al _ _ _ _)).trans (al _ _ _ _)) (fun y e=>by cases e;exact HN.o)
 ·have HE:QH (ptF h x t=Fe.none∧ptE x t=x):=by unfold ptF ptE;rw[if_neg (fun q=>hx q.1),if_neg hx];exact⟨rfl,rfl⟩
  have e1:(x != 0)=true:=by simpa using hx
  clear hx;go_wp2;refine bodyPost_ret (v:=.tuple #[fev Fe.none,.int .i64 x]) (by simp[results,results225,go_sem,fev,Fe.none,r0,r1,r2,r3,r4]) rfl ⟨by rw[HE.o.1,HE.o.2];rfl,?_⟩;exact ak HG4.o (((((al _ _ _ _).trans (al _ _ _ _)).trans (al _ _ _ _)).trans (al _ _ _ _)).trans (al _ _ _ _)) (fun y e=>by cases e;exact HN.o)
theorem lW {a b:Bool} (h:a=b):Ending.returned (.bool a)=Ending.returned (.bool b):=by rw[h]
theorem Ct (bv:Value) (t:Th) (h:Hd) (ps:List Pt) (x:Int) (w:World) (HC:∀ X,w.grownBy X none→Calls prog 192 #[bv,thv t] X (dw h ps x X)):Calls prog 163 #[bv,thv t] w fun e w'=>e=.returned (.bool (unB h x t))∧w.grownBy w' none:=by
 obtain⟨W1,hW1⟩:=Qe (w.alloc (.cells #[.int .i64 t.card,.int .i64 t.owner,.int .u8 t.place,.int .i64 t.stamp,.int .i64 t.hurt,.int .i64 t.m0,.int .i64 t.m1,.int .i64 t.m2,.int .i64 t.m3,.int .i64 t.done,.bool t.fresh] 120));have HG1:QH (w.grownBy W1 none):=by rw[hW1];exact QG
 have HT:QH (W1.heap[w.heap.size]?=some (.cells #[.int .i64 t.card,.int .i64 t.owner,.int .u8 t.place,.int .i64 t.stamp,.int .i64 t.hurt,.int .i64 t.m0,.int .i64 t.m1,.int .i64 t.m2,.int .i64 t.m3,.int .i64 t.done,.bool t.fresh] 120 (0,0))):=by rw[hW1];exact aj w _ _
 have HC1:=HC W1 HG1.o;unfold dw cv thv at HC1;unfold thv;clear HC;go_enter func163,ntmps163;go_upto_region 1 with fail;rw[←hW1];clear hW1;obtain⟨n0,h0⟩:=Qe (w.heap.size);simp only[←h0] at HT ⊢;clear h0;have x0:=ae HT.o 0;have x1:=ae HT.o 1;have x2:=ae HT.o 2;have x3:=ae HT.o 3;have x4:=ae HT.o 4;have x5:=ae HT.o 5;have x6:=ae HT.o 6;have x7:=ae HT.o 7;have x8:=ae HT.o 8;have x9:=ae HT.o 9;have x10:=ae HT.o 10;go_wp2_with fail;refine HC1.mono ?_;rintro e w2 ⟨u,rfl,o2,g2⟩;obtain⟨a2,k2,rfl⟩:=o2.at.form;obtain⟨W3,hW3⟩:=Qe (w2.alloc (.cells (ccs h (.slice a2 ps.length k2)) 111));have HG3:QH (W1.grownBy W3 none):=by rw[hW3];exact am g2 _
 have HG4:QH (w.grownBy W3 none):=aa HG1.o HG3.o;have HK:QH (W3.heap[w2.heap.size]?=some (.cells (ccs h (.slice a2 ps.length k2)) 111 (0,0))):=by rw[hW3];exact aj _ _ _
 have HT3:QH (W3.heap[n0]?=some (.cells #[.int .i64 t.card,.int .i64 t.owner,.int .u8 t.place,.int .i64 t.stamp,.int .i64 t.hurt,.int .i64 t.m0,.int .i64 t.m1,.int .i64 t.m2,.int .i64 t.m3,.int .i64 t.done,.bool t.fresh] 120 (0,0))):=ag HG3.o HT.o (by simp);unfold ccs at hW3;clear HC1 o2 g2 HG3 HT HG1 x0 x1 x2 x3 x4 x5 x6 x7 x8 x9 x10;go_upto_region 2 with fail;rw[←hW3];clear hW3;obtain⟨k,hk⟩:=Qe (w2.heap.size);rw[←hk] at HK ⊢;clear hk;have y2:=ae HT3.o 2;have q2:=ae HK.o 2;simp only[ccs] at q2;by_cases hx:x=0
 ·subst hx;by_cases hp:t.place=4
  ·have e2:(t.place == 4)=true:=(by simpa using hp);by_cases hd:h.kd=1
   ·have e3:(h.kd == 1)=true:=(by simpa using hd);have HE:QH (unB h 0 t=true):=(by show unB h 0 t=true;unfold unB;simp[hp,hd]);clear hp hd;go_wp2;go_ret;exact⟨lW HE.o.symm,HG4.o⟩
   ·have e3:(h.kd == 1)=false:=(by simpa using hd);have HE:QH (unB h 0 t=false):=(by show unB h 0 t=false;unfold unB;simp[hd]);clear hp hd;go_wp2;go_ret;exact⟨lW HE.o.symm,HG4.o⟩
  ·have e2:(t.place == 4)=false:=(by simpa using hp);have HE:QH (unB h 0 t=false):=(by show unB h 0 t=false;unfold unB;simp[hp]);clear hp;go_wp2;go_ret;exact⟨lW HE.o.symm,HG4.o⟩
 ·have e1:(x == 0)=false:=by simpa using hx
  have HE:QH (unB h x t=false):=by show unB h x t=false;unfold unB;simp[hx]
  clear hx;go_wp2;go_ret;exact⟨lW HE.o.symm,HG4.o⟩
theorem Dm (bv:Value) (t:Th) (h:Hd) (ps:List Pt) (x:Int) (w:World) (HC:∀ X,w.grownBy X none→Calls prog 108 #[bv,thv t] X (dw h ps x X)):Calls prog 102 #[bv,thv t] w fun e w'=>e=.returned (.bool (unB h x t))∧w.grownBy w' none:=by
 obtain⟨W1,hW1⟩:=Qe (w.alloc (.cells #[.int .i64 t.card,.int .i64 t.owner,.int .u8 t.place,.int .i64 t.stamp,.int .i64 t.hurt,.int .i64 t.m0,.int .i64 t.m1,.int .i64 t.m2,.int .i64 t.m3,.int .i64 t.done,.bool t.fresh] 120));have HG1:QH (w.grownBy W1 none):=by rw[hW1];exact QG
 have HT:QH (W1.heap[w.heap.size]?=some (.cells #[.int .i64 t.card,.int .i64 t.owner,.int .u8 t.place,.int .i64 t.stamp,.int .i64 t.hurt,.int .i64 t.m0,.int .i64 t.m1,.int .i64 t.m2,.int .i64 t.m3,.int .i64 t.done,.bool t.fresh] 120 (0,0))):=by rw[hW1];exact aj w _ _
 have HC1:=HC W1 HG1.o;unfold dw cv thv at HC1;unfold thv;clear HC;go_enter func102,ntmps102;go_upto_region 1 with fail;rw[←hW1];clear hW1;obtain⟨n0,h0⟩:=Qe (w.heap.size);simp only[←h0] at HT ⊢;clear h0;have x0:=ae HT.o 0;have x1:=ae HT.o 1;have x2:=ae HT.o 2;have x3:=ae HT.o 3;have x4:=ae HT.o 4;have x5:=ae HT.o 5;have x6:=ae HT.o 6;have x7:=ae HT.o 7;have x8:=ae HT.o 8;have x9:=ae HT.o 9;have x10:=ae HT.o 10;go_wp2_with fail;refine HC1.mono ?_;rintro e w2 ⟨u,rfl,o2,g2⟩;obtain⟨a2,k2,rfl⟩:=o2.at.form;obtain⟨W3,hW3⟩:=Qe (w2.alloc (.cells (ccs h (.slice a2 ps.length k2)) 111));have HG3:QH (W1.grownBy W3 none):=by rw[hW3];exact am g2 _
 have HG4:QH (w.grownBy W3 none):=aa HG1.o HG3.o;have HK:QH (W3.heap[w2.heap.size]?=some (.cells (ccs h (.slice a2 ps.length k2)) 111 (0,0))):=by rw[hW3];exact aj _ _ _
 have HT3:QH (W3.heap[n0]?=some (.cells #[.int .i64 t.card,.int .i64 t.owner,.int .u8 t.place,.int .i64 t.stamp,.int .i64 t.hurt,.int .i64 t.m0,.int .i64 t.m1,.int .i64 t.m2,.int .i64 t.m3,.int .i64 t.done,.bool t.fresh] 120 (0,0))):=ag HG3.o HT.o (by simp);unfold ccs at hW3;clear HC1 o2 g2 HG3 HT HG1 x0 x1 x2 x3 x4 x5 x6 x7 x8 x9 x10;go_upto_region 2 with fail;rw[←hW3];clear hW3;obtain⟨k,hk⟩:=Qe (w2.heap.size);rw[←hk] at HK ⊢;clear hk;have y2:=ae HT3.o 2;have q2:=ae HK.o 2;simp only[ccs] at q2;by_cases hx:x=0
 ·subst hx;by_cases hp:t.place=4
  ·have e2:(t.place == 4)=true:=(by simpa using hp);by_cases hd:h.kd=1
   ·have e3:(h.kd == 1)=true:=(by simpa using hd);have HE:QH (unB h 0 t=true):=(by show unB h 0 t=true;unfold unB;simp[hp,hd]);clear hp hd;go_wp2;go_ret;exact⟨lW HE.o.symm,HG4.o⟩
   ·have e3:(h.kd == 1)=false:=(by simpa using hd);have HE:QH (unB h 0 t=false):=(by show unB h 0 t=false;unfold unB;simp[hd]);clear hp hd;go_wp2;go_ret;exact⟨lW HE.o.symm,HG4.o⟩
  ·have e2:(t.place == 4)=false:=(by simpa using hp);have HE:QH (unB h 0 t=false):=(by show unB h 0 t=false;unfold unB;simp[hp]);clear hp;go_wp2;go_ret;exact⟨lW HE.o.symm,HG4.o⟩
 ·have e1:(x == 0)=false:=by simpa using hx
  have HE:QH (unB h x t=false):=by show unB h x t=false;unfold unB;simp[hx]
  clear hx;go_wp2;go_ret;exact⟨lW HE.o.symm,HG4.o⟩
theorem oj (ok:Nat→Prop) (b:Nat) (es:List Ent) (p:Pl) (t:Th) (w:World) (B:eD ok w b es p):Calls prog 192 #[.pointer (some ⟨b,0,none⟩),thv t] w (dw (atC p es t.card).1 (atC p es t.card).2 (atX p es t.card) w):=Cg _ t _ _ _ w (fun X g=>Dz ok b es p t.card X (B.keep g))
theorem jV (ok:Nat→Prop) (r:Nat) (v:Value) (p:Pl) (fs:List Ent) (t:Th) (w:World) (B:RD ok w r v p fs):Calls prog 108 #[.pointer (some ⟨r,0,none⟩),thv t] w (dw (atC p fs t.card).1 (atC p fs t.card).2 (atX p fs t.card) w):=D7 _ t _ _ _ w (fun X g=>bA r v p X (B.rj.keep g)) (fun X g=>nh ok r v p fs t.card X (B.keep g))
