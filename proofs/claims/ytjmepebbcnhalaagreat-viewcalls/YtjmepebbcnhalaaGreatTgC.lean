/-

-/
import Derived.Test.YtjmepebbcnhalaaGreatV22
namespace Go.Proofs.YtjmepebbcnhalaaGreat
set_option maxRecDepth 100000
set_option maxHeartbeats 4000000
open Go.RowKit

def et (h:Hd) (ps:List Pt) (x:Int) (w:World) (e:Ending) (w':World):Prop:=∃ u,e=.returned (.tuple #[cv h u,.int .i64 x])∧bG w' w.heap.size u ps∧w.grownBy w' none
def kK (t:Th):Bool:=decide (t.owner=0) || decide (t.owner=1)
def ptF (h:Hd) (x:Int) (t:Th):Fe:=if x=0∧kK t=true then ⟨t.owner,h.su,h.tr,h.po,h.he⟩ else Fe.none
def ptE (x:Int) (t:Th):Int:=if x=0 then (if kK t=true then 0 else 2) else x
theorem tJ (bv:Value) (t:Th) (h:Hd) (ps:List Pt) (x:Int) (w:World) (HAt:∀ X,w.grownBy X none→Calls Tryz.prog 189 #[bv,.int .i64 t.card] X (et h ps x X)):Calls Tryz.prog 192 #[bv,thv t] w (et h ps x w):=by
 obtain⟨W0,hW0⟩:=Qe (w.alloc (.cells #[.int .i64 t.card,.int .i64 t.owner,.int .u8 t.place,.int .i64 t.stamp,.int .i64 t.hurt,.int .i64 t.m0,.int .i64 t.m1,.int .i64 t.m2,.int .i64 t.m3,.int .i64 t.done,.bool t.fresh] 120))
 obtain⟨W1,hW1⟩:=Qe (W0.alloc (.cells (ccs Hd.none (.slice none 0 0)) 111))
 have HG0:Hid (w.grownBy W0 none):=by rw[hW0];exact QG
 have HG1:Hid (w.grownBy W1 none):=by rw[hW1];exact al HG0.out _
 have HC1:Hid (CAt W1 W0.heap.size Hd.none (.slice none 0 0)):=by rw[hW1];exact ak W0 _ _
 have HS:Hid (W0.heap.size=w.heap.size+1∧W1.heap.size=W0.heap.size+1):=⟨by rw[hW0,World.size_alloc],by rw[hW1,World.size_alloc]⟩
 have HT:Hid (W1.heap[w.heap.size]?=some (.cells #[.int .i64 t.card,.int .i64 t.owner,.int .u8 t.place,.int .i64 t.stamp,.int .i64 t.hurt,.int .i64 t.m0,.int .i64 t.m1,.int .i64 t.m2,.int .i64 t.m3,.int .i64 t.done,.bool t.fresh] 120 (0,0))):=by rw[hW1];exact ag QG (by rw[hW0];exact ak w _ _) (by simp)
 have HA:=HAt W1 HG1.out
 unfold et at HA
 obtain⟨K,hK⟩:=Qe (W0.heap.size)
 have HK:Hid (K=W0.heap.size):=hK
 rw[←hK] at HC1
 have hK2:K=w.heap.size+1:=by rw[hK,HS.out.1]
 unfold cv at HA
 unfold thv
 unfold ccs Hd.none at hW1
 rw[hW0] at hW1
 clear hW0 HAt hK
 go_enter Tryz.func192,Tryz.ntmps192
 go_upto_region 1 with fail
 rw[←hW1]
 clear hW1
 rw[←hK2]
 clear hK2
 have x0:=aa HT.out 0
 go_wp2_with (first | (go_at_call 189;refine HA.mono ?_;rintro e w2 ⟨u,rfl,o2,g2⟩;obtain⟨a2,k2,rfl⟩:=o2.at.form;have HO2:Hid (bG w2 W1.heap.size (.slice a2 ps.length k2) ps):=o2;have HG2:Hid (w.grownBy w2 none):=ae HG1.out g2;have C2:=HC1.out.keep g2;obtain⟨z0,z1,z2,z3,z4,z5,z6,z7,z8⟩:=C2.cells;have zf:=fun i=>C2.free i;simp only[Hd.none] at z0 z1 z2 z3 z4 z5 z6 z7 z8;clear o2 C2) | fail)
 refine bodyPost_ret (v:=.tuple #[cv h (.slice a2 ps.length k2),.int .i64 x]) (by simp[results,Tryz.results192,go_sem,z0,z1,z2,z3,z4,z5,z6,z7,z8,cv]) rfl ⟨.slice a2 ps.length k2,rfl,?_,?_⟩
 ·have:=(HO2.out.keep (cm w2 K 0 h (.slice a2 ps.length k2)) (fun x e=>by cases e;have:=HS.out;have:=HK.out;omega)).big (show w.heap.size≤W1.heap.size by have:=HS.out;omega)
  unfold fL at this
  simp only[Nat.zero_add] at this
  exact this
 ·have:=ar HG2.out (cm w2 K 0 h (.slice a2 ps.length k2)) (fun x e=>by cases e;have:=HS.out;have:=HK.out;omega)
  unfold fL at this
  simp only[Nat.zero_add] at this
  exact this
theorem Aq (bv:Value) (t:Th) (h:Hd) (ps:List Pt) (x:Int) (w:World) (HN:∀ X,w.grownBy X none→Calls Tryz.prog 116 #[bv] X fun e w'=>e=.returned (.bool false)∧w'=X) (HAt:∀ X,w.grownBy X none→Calls Tryz.prog 144 #[bv,.int .i64 t.card] X (et h ps x X)):Calls Tryz.prog 108 #[bv,thv t] w (et h ps x w):=by
 obtain⟨W0,hW0⟩:=Qe (w.alloc (.cells #[.int .i64 t.card,.int .i64 t.owner,.int .u8 t.place,.int .i64 t.stamp,.int .i64 t.hurt,.int .i64 t.m0,.int .i64 t.m1,.int .i64 t.m2,.int .i64 t.m3,.int .i64 t.done,.bool t.fresh] 120))
 obtain⟨W1,hW1⟩:=Qe (W0.alloc (.cells (ccs Hd.none (.slice none 0 0)) 111))
 have HG0:Hid (w.grownBy W0 none):=by rw[hW0];exact QG
 have HG1:Hid (w.grownBy W1 none):=by rw[hW1];exact al HG0.out _
 have HC1:Hid (CAt W1 W0.heap.size Hd.none (.slice none 0 0)):=by rw[hW1];exact ak W0 _ _
 have HS:Hid (W0.heap.size=w.heap.size+1∧W1.heap.size=W0.heap.size+1):=⟨by rw[hW0,World.size_alloc],by rw[hW1,World.size_alloc]⟩
 have HT:Hid (W1.heap[w.heap.size]?=some (.cells #[.int .i64 t.card,.int .i64 t.owner,.int .u8 t.place,.int .i64 t.stamp,.int .i64 t.hurt,.int .i64 t.m0,.int .i64 t.m1,.int .i64 t.m2,.int .i64 t.m3,.int .i64 t.done,.bool t.fresh] 120 (0,0))):=by rw[hW1];exact ag QG (by rw[hW0];exact ak w _ _) (by simp)
 have HA:=HAt W1 HG1.out
 unfold et at HA
 have HNN:=HN W1 HG1.out
 clear HN
 obtain⟨K,hK⟩:=Qe (W0.heap.size)
 have HK:Hid (K=W0.heap.size):=hK
 rw[←hK] at HC1
 have hK2:K=w.heap.size+1:=by rw[hK,HS.out.1]
 unfold cv at HA
 unfold thv
 unfold ccs Hd.none at hW1
 rw[hW0] at hW1
 clear hW0 HAt hK
 go_enter Tryz.func108,Tryz.ntmps108
 go_upto_region 1 with fail
 rw[←hW1]
 clear hW1
 rw[←hK2]
 clear hK2
 have x0:=aa HT.out 0
 go_wp2_with (first | (go_at_call 116;refine HNN.mono ?_;rintro e w1 ⟨rfl,h1⟩;obtain rfl:W1=w1:=h1.symm;clear HNN) | (go_at_call 144;refine HA.mono ?_;rintro e w2 ⟨u,rfl,o2,g2⟩;obtain⟨a2,k2,rfl⟩:=o2.at.form;have HO2:Hid (bG w2 W1.heap.size (.slice a2 ps.length k2) ps):=o2;have HG2:Hid (w.grownBy w2 none):=ae HG1.out g2;have C2:=HC1.out.keep g2;obtain⟨z0,z1,z2,z3,z4,z5,z6,z7,z8⟩:=C2.cells;have zf:=fun i=>C2.free i;simp only[Hd.none] at z0 z1 z2 z3 z4 z5 z6 z7 z8;clear o2 C2) | fail)
 refine bodyPost_ret (v:=.tuple #[cv h (.slice a2 ps.length k2),.int .i64 x]) (by simp[results,Tryz.results108,go_sem,z0,z1,z2,z3,z4,z5,z6,z7,z8,cv]) rfl ⟨.slice a2 ps.length k2,rfl,?_,?_⟩
 ·have:=(HO2.out.keep (cm w2 K 0 h (.slice a2 ps.length k2)) (fun x e=>by cases e;have:=HS.out;have:=HK.out;omega)).big (show w.heap.size≤W1.heap.size by have:=HS.out;omega)
  unfold fL at this
  simp only[Nat.zero_add] at this
  exact this
 ·have:=ar HG2.out (cm w2 K 0 h (.slice a2 ps.length k2)) (fun x e=>by cases e;have:=HS.out;have:=HK.out;omega)
  unfold fL at this
  simp only[Nat.zero_add] at this
  exact this
theorem lX (bv:Value) (t:Th) (h:Hd) (ps:List Pt) (x:Int) (w:World) (HC:∀ X,w.grownBy X none→Calls Tryz.prog 192 #[bv,thv t] X (et h ps x X)):Calls Tryz.prog 220 #[bv,thv t] w fun e w'=>e=.returned (.tuple #[fev (ptF h x t),.int .i64 (ptE x t)])∧w.grownBy w' none:=by
 obtain⟨W1,hW1⟩:=Qe ((w.alloc (.cells #[.int .i64 t.card,.int .i64 t.owner,.int .u8 t.place,.int .i64 t.stamp,.int .i64 t.hurt,.int .i64 t.m0,.int .i64 t.m1,.int .i64 t.m2,.int .i64 t.m3,.int .i64 t.done,.bool t.fresh] 120)).alloc (.cells #[.int .i64 0,.int .u8 0,.int .u16 0,.int .i64 0,.int .i64 0] 122))
 have HG1:Hid (w.grownBy W1 none):=by rw[hW1];exact al QG _
 have HT:Hid (W1.heap[w.heap.size]?=some (.cells #[.int .i64 t.card,.int .i64 t.owner,.int .u8 t.place,.int .i64 t.stamp,.int .i64 t.hurt,.int .i64 t.m0,.int .i64 t.m1,.int .i64 t.m2,.int .i64 t.m3,.int .i64 t.done,.bool t.fresh] 120 (0,0))):=by rw[hW1];exact ag QG (ak w _ _) (by simp)
 have HR:Hid (W1.heap[w.heap.size+1]?=some (.cells #[.int .i64 0,.int .u8 0,.int .u16 0,.int .i64 0,.int .i64 0] 122 (0,0))):=by rw[hW1];exact fO _ _ _ _
 have HC1:=HC W1 HG1.out
 unfold et cv thv at HC1
 unfold fev thv
 clear HC
 go_enter Tryz.func220,Tryz.ntmps220
 go_upto_region 1 with fail
 rw[←hW1]
 clear hW1
 obtain⟨n0,h0⟩:=Qe (w.heap.size)
 have HN:Hid (w.heap.size≤n0+1):=by show _≤_;omega
 simp only[←h0] at HT HR ⊢
 obtain⟨R,h1⟩:=Qe (n0+1)
 simp only[←h1] at HR HN ⊢
 clear h0 h1
 have x0:=aa HT.out 0
 have x1:=aa HT.out 1
 have x2:=aa HT.out 2
 have x3:=aa HT.out 3
 have x4:=aa HT.out 4
 have x5:=aa HT.out 5
 have x6:=aa HT.out 6
 have x7:=aa HT.out 7
 have x8:=aa HT.out 8
 have x9:=aa HT.out 9
 have x10:=aa HT.out 10
 go_wp2_with fail
 refine HC1.mono ?_
 rintro e w2 ⟨u,rfl,o2,g2⟩
 obtain⟨a2,k2,rfl⟩:=o2.at.form
 obtain⟨W3,hW3⟩:=Qe (w2.alloc (.cells (ccs h (.slice a2 ps.length k2)) 111))
 have HG3:Hid (W1.grownBy W3 none):=by rw[hW3];exact al g2 _
 have HG4:Hid (w.grownBy W3 none):=ae HG1.out HG3.out
 have HK:Hid (W3.heap[w2.heap.size]?=some (.cells (ccs h (.slice a2 ps.length k2)) 111 (0,0))):=by rw[hW3];exact ak _ _ _
 have HT3:Hid (W3.heap[n0]?=some (.cells #[.int .i64 t.card,.int .i64 t.owner,.int .u8 t.place,.int .i64 t.stamp,.int .i64 t.hurt,.int .i64 t.m0,.int .i64 t.m1,.int .i64 t.m2,.int .i64 t.m3,.int .i64 t.done,.bool t.fresh] 120 (0,0))):=ag HG3.out HT.out (by simp)
 have HR3:Hid (W3.heap[R]?=some (.cells #[.int .i64 0,.int .u8 0,.int .u16 0,.int .i64 0,.int .i64 0] 122 (0,0))):=ag HG3.out HR.out (by simp)
 unfold ccs at hW3
 clear HC1 o2 g2 HG3 HT HR HG1 x0 x1 x2 x3 x4 x5 x6 x7 x8 x9 x10
 go_upto_region 2 with fail
 rw[←hW3]
 clear hW3
 obtain⟨k,hk⟩:=Qe (w2.heap.size)
 rw[←hk] at HK ⊢
 clear hk
 have y1:=aa HT3.out 1
 have q1:=aa HK.out 1
 have q4:=aa HK.out 4
 have q5:=aa HK.out 5
 have q6:=aa HK.out 6
 simp only[ccs] at q1 q4 q5 q6
 have r0:=aa HR3.out 0
 have r1:=aa HR3.out 1
 have r2:=aa HR3.out 2
 have r3:=aa HR3.out 3
 have r4:=aa HR3.out 4
 have rf:=fun i=>au HR3.out i
 by_cases hx:x=0
 ·subst hx
  cases ho:kK t with
  | true =>
   have HE:Hid (ptF h 0 t=⟨t.owner,h.su,h.tr,h.po,h.he⟩∧ptE 0 t=0):=by unfold ptF ptE;rw[ho];exact⟨rfl,rfl⟩
   rcases (show t.owner=0∨t.owner=1 from by unfold kK at ho;simpa using ho) with e | e
   ·clear ho
    rw[e] at y1
    have HEo:Hid (t.owner=0):=e
    clear e
    go_wp2
    refine bodyPost_ret (v:=.tuple #[fev ⟨0,h.su,h.tr,h.po,h.he⟩,.int .i64 0]) (by simp[results,Tryz.results220,go_sem,fev,r0,r1,r2,r3,r4]) rfl ⟨by rw[HE.out.1,HE.out.2,HEo.out];rfl,?_⟩
    exact ar HG4.out (((((aj _ _ _ _).trans (aj _ _ _ _)).trans (aj _ _ _ _)).trans (aj _ _ _ _)).trans (aj _ _ _ _)) (fun y e=>by cases e;exact HN.out)
   ·clear ho
    rw[e] at y1
    have HEo:Hid (t.owner=1):=e
    clear e
    go_wp2
    refine bodyPost_ret (v:=.tuple #[fev ⟨1,h.su,h.tr,h.po,h.he⟩,.int .i64 0]) (by simp[results,Tryz.results220,go_sem,fev,r0,r1,r2,r3,r4]) rfl ⟨by rw[HE.out.1,HE.out.2,HEo.out];rfl,?_⟩
    exact ar HG4.out (((((aj _ _ _ _).trans (aj _ _ _ _)).trans (aj _ _ _ _)).trans (aj _ _ _ _)).trans (aj _ _ _ _)) (fun y e=>by cases e;exact HN.out)
  | false =>
   have HE:Hid (ptF h 0 t=Fe.none∧ptE 0 t=2):=by unfold ptF ptE;rw[ho];exact⟨rfl,rfl⟩
   have hne:¬(t.owner=0∨t.owner=1):=by unfold kK at ho;simpa using ho
   have e1:(t.owner != 0)=true:=by simp;omega
   have e2:(t.owner != 1)=true:=by simp;omega
   clear ho hne
   go_wp2
   refine bodyPost_ret (v:=.tuple #[fev Fe.none,.int .i64 2]) (by simp[results,Tryz.results220,go_sem,fev,Fe.none,r0,r1,r2,r3,r4]) rfl ⟨by rw[HE.out.1,HE.out.2];rfl,?_⟩
   exact ar HG4.out (((((aj _ _ _ _).trans (aj _ _ _ _)).trans (aj _ _ _ _)).trans (aj _ _ _ _)).trans (aj _ _ _ _)) (fun y e=>by cases e;exact HN.out)
 ·have HE:Hid (ptF h x t=Fe.none∧ptE x t=x):=by unfold ptF ptE;rw[if_neg (fun q=>hx q.1),if_neg hx];exact⟨rfl,rfl⟩
  have e1:(x != 0)=true:=by simpa using hx
  clear hx
  go_wp2
  refine bodyPost_ret (v:=.tuple #[fev Fe.none,.int .i64 x]) (by simp[results,Tryz.results220,go_sem,fev,Fe.none,r0,r1,r2,r3,r4]) rfl ⟨by rw[HE.out.1,HE.out.2];rfl,?_⟩
  exact ar HG4.out (((((aj _ _ _ _).trans (aj _ _ _ _)).trans (aj _ _ _ _)).trans (aj _ _ _ _)).trans (aj _ _ _ _)) (fun y e=>by cases e;exact HN.out)
theorem sR (bv:Value) (t:Th) (h:Hd) (ps:List Pt) (x:Int) (w:World) (HC:∀ X,w.grownBy X none→Calls Tryz.prog 108 #[bv,thv t] X (et h ps x X)):Calls Tryz.prog 225 #[bv,thv t] w fun e w'=>e=.returned (.tuple #[fev (ptF h x t),.int .i64 (ptE x t)])∧w.grownBy w' none:=by
 obtain⟨W1,hW1⟩:=Qe ((w.alloc (.cells #[.int .i64 t.card,.int .i64 t.owner,.int .u8 t.place,.int .i64 t.stamp,.int .i64 t.hurt,.int .i64 t.m0,.int .i64 t.m1,.int .i64 t.m2,.int .i64 t.m3,.int .i64 t.done,.bool t.fresh] 120)).alloc (.cells #[.int .i64 0,.int .u8 0,.int .u16 0,.int .i64 0,.int .i64 0] 122))
 have HG1:Hid (w.grownBy W1 none):=by rw[hW1];exact al QG _
 have HT:Hid (W1.heap[w.heap.size]?=some (.cells #[.int .i64 t.card,.int .i64 t.owner,.int .u8 t.place,.int .i64 t.stamp,.int .i64 t.hurt,.int .i64 t.m0,.int .i64 t.m1,.int .i64 t.m2,.int .i64 t.m3,.int .i64 t.done,.bool t.fresh] 120 (0,0))):=by rw[hW1];exact ag QG (ak w _ _) (by simp)
 have HR:Hid (W1.heap[w.heap.size+1]?=some (.cells #[.int .i64 0,.int .u8 0,.int .u16 0,.int .i64 0,.int .i64 0] 122 (0,0))):=by rw[hW1];exact fO _ _ _ _
 have HC1:=HC W1 HG1.out
 unfold et cv thv at HC1
 unfold fev thv
 clear HC
 go_enter Tryz.func225,Tryz.ntmps225
 go_upto_region 1 with fail
 rw[←hW1]
 clear hW1
 obtain⟨n0,h0⟩:=Qe (w.heap.size)
 have HN:Hid (w.heap.size≤n0+1):=by show _≤_;omega
 simp only[←h0] at HT HR ⊢
 obtain⟨R,h1⟩:=Qe (n0+1)
 simp only[←h1] at HR HN ⊢
 clear h0 h1
 have x0:=aa HT.out 0
 have x1:=aa HT.out 1
 have x2:=aa HT.out 2
 have x3:=aa HT.out 3
 have x4:=aa HT.out 4
 have x5:=aa HT.out 5
 have x6:=aa HT.out 6
 have x7:=aa HT.out 7
 have x8:=aa HT.out 8
 have x9:=aa HT.out 9
 have x10:=aa HT.out 10
 go_wp2_with fail
 refine HC1.mono ?_
 rintro e w2 ⟨u,rfl,o2,g2⟩
 obtain⟨a2,k2,rfl⟩:=o2.at.form
 obtain⟨W3,hW3⟩:=Qe (w2.alloc (.cells (ccs h (.slice a2 ps.length k2)) 111))
 have HG3:Hid (W1.grownBy W3 none):=by rw[hW3];exact al g2 _
 have HG4:Hid (w.grownBy W3 none):=ae HG1.out HG3.out
 have HK:Hid (W3.heap[w2.heap.size]?=some (.cells (ccs h (.slice a2 ps.length k2)) 111 (0,0))):=by rw[hW3];exact ak _ _ _
 have HT3:Hid (W3.heap[n0]?=some (.cells #[.int .i64 t.card,.int .i64 t.owner,.int .u8 t.place,.int .i64 t.stamp,.int .i64 t.hurt,.int .i64 t.m0,.int .i64 t.m1,.int .i64 t.m2,.int .i64 t.m3,.int .i64 t.done,.bool t.fresh] 120 (0,0))):=ag HG3.out HT.out (by simp)
 have HR3:Hid (W3.heap[R]?=some (.cells #[.int .i64 0,.int .u8 0,.int .u16 0,.int .i64 0,.int .i64 0] 122 (0,0))):=ag HG3.out HR.out (by simp)
 unfold ccs at hW3
 clear HC1 o2 g2 HG3 HT HR HG1 x0 x1 x2 x3 x4 x5 x6 x7 x8 x9 x10
 go_upto_region 2 with fail
 rw[←hW3]
 clear hW3
 obtain⟨k,hk⟩:=Qe (w2.heap.size)
 rw[←hk] at HK ⊢
 clear hk
 have y1:=aa HT3.out 1
 have q1:=aa HK.out 1
 have q4:=aa HK.out 4
 have q5:=aa HK.out 5
 have q6:=aa HK.out 6
 simp only[ccs] at q1 q4 q5 q6
 have r0:=aa HR3.out 0
 have r1:=aa HR3.out 1
 have r2:=aa HR3.out 2
 have r3:=aa HR3.out 3
 have r4:=aa HR3.out 4
 have rf:=fun i=>au HR3.out i
 by_cases hx:x=0
 ·subst hx
  cases ho:kK t with
  | true =>
   have HE:Hid (ptF h 0 t=⟨t.owner,h.su,h.tr,h.po,h.he⟩∧ptE 0 t=0):=by unfold ptF ptE;rw[ho];exact⟨rfl,rfl⟩
   rcases (show t.owner=0∨t.owner=1 from by unfold kK at ho;simpa using ho) with e | e
   ·clear ho
    rw[e] at y1
    have HEo:Hid (t.owner=0):=e
    clear e
    go_wp2
    refine bodyPost_ret (v:=.tuple #[fev ⟨0,h.su,h.tr,h.po,h.he⟩,.int .i64 0]) (by simp[results,Tryz.results225,go_sem,fev,r0,r1,r2,r3,r4]) rfl ⟨by rw[HE.out.1,HE.out.2,HEo.out];rfl,?_⟩
    exact ar HG4.out (((((aj _ _ _ _).trans (aj _ _ _ _)).trans (aj _ _ _ _)).trans (aj _ _ _ _)).trans (aj _ _ _ _)) (fun y e=>by cases e;exact HN.out)
   ·clear ho
    rw[e] at y1
    have HEo:Hid (t.owner=1):=e
    clear e
    go_wp2
    refine bodyPost_ret (v:=.tuple #[fev ⟨1,h.su,h.tr,h.po,h.he⟩,.int .i64 0]) (by simp[results,Tryz.results225,go_sem,fev,r0,r1,r2,r3,r4]) rfl ⟨by rw[HE.out.1,HE.out.2,HEo.out];rfl,?_⟩
    exact ar HG4.out (((((aj _ _ _ _).trans (aj _ _ _ _)).trans (aj _ _ _ _)).trans (aj _ _ _ _)).trans (aj _ _ _ _)) (fun y e=>by cases e;exact HN.out)
  | false =>
   have HE:Hid (ptF h 0 t=Fe.none∧ptE 0 t=2):=by unfold ptF ptE;rw[ho];exact⟨rfl,rfl⟩
   have hne:¬(t.owner=0∨t.owner=1):=by unfold kK at ho;simpa using ho
   have e1:(t.owner != 0)=true:=by simp;omega
   have e2:(t.owner != 1)=true:=by simp;omega
   clear ho hne
   go_wp2
   refine bodyPost_ret (v:=.tuple #[fev Fe.none,.int .i64 2]) (by simp[results,Tryz.results225,go_sem,fev,Fe.none,r0,r1,r2,r3,r4]) rfl ⟨by rw[HE.out.1,HE.out.2];rfl,?_⟩
   exact ar HG4.out (((((aj _ _ _ _).trans (aj _ _ _ _)).trans (aj _ _ _ _)).trans (aj _ _ _ _)).trans (aj _ _ _ _)) (fun y e=>by cases e;exact HN.out)
 ·have HE:Hid (ptF h x t=Fe.none∧ptE x t=x):=by unfold ptF ptE;rw[if_neg (fun q=>hx q.1),if_neg hx];exact⟨rfl,rfl⟩
  have e1:(x != 0)=true:=by simpa using hx
  clear hx
  go_wp2
  refine bodyPost_ret (v:=.tuple #[fev Fe.none,.int .i64 x]) (by simp[results,Tryz.results225,go_sem,fev,Fe.none,r0,r1,r2,r3,r4]) rfl ⟨by rw[HE.out.1,HE.out.2];rfl,?_⟩
  exact ar HG4.out (((((aj _ _ _ _).trans (aj _ _ _ _)).trans (aj _ _ _ _)).trans (aj _ _ _ _)).trans (aj _ _ _ _)) (fun y e=>by cases e;exact HN.out)
theorem og (ok:Nat→Prop) (b:Nat) (es:List Ent) (p:Pl) (t:Th) (w:World) (B:cG ok w b es p):Calls Tryz.prog 192 #[.pointer (some ⟨b,0,none⟩),thv t] w (et (atC p es t.card).1 (atC p es t.card).2 (atX p es t.card) w):=tJ _ t _ _ _ w (fun X g=>Af ok b es p t.card X (B.keep g))
theorem uu (v:Value) (t:Th) (w:World) (B:kI w v):Calls Tryz.prog 192 #[v,thv t] w (et Hd.none [] 1 w):=tJ _ t _ _ _ w (fun X g=>(AQ v t.card X (B.keep g)).mono fun _ _ q=>⟨_,q.1,bG.nil _ _,q.2⟩)
theorem wb (ok:Nat→Prop) (r:Nat) (v:Value) (p:Pl) (fs:List Ent) (t:Th) (w:World) (B:RD ok w r v p fs):Calls Tryz.prog 108 #[.pointer (some ⟨r,0,none⟩),thv t] w (et (atC p fs t.card).1 (atC p fs t.card).2 (atX p fs t.card) w):=Aq _ t _ _ _ w (fun X g=>bs r v p X (B.rj.keep g)) (fun X g=>jV ok r v p fs t.card X (B.keep g))
end Go.Proofs.YtjmepebbcnhalaaGreat
