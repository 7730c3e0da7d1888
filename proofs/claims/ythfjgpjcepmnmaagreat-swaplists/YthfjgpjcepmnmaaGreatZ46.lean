/-
  The document's view: Behind,Of.
  Swap's laws: a table's features.
  Swaps,plainly: which stand,whom one is about,what it swaps,what an event is behind it,and behind all.
  Swaps: players' numbers,who holds a thing,how many Shield marks lie on it,whether it lies on the table.
  View: what all ways look at first.
  View: the closure that tells one layer more each time.
  View: Behind,Of.
  View: Steps.
  Views,plainly: whom effects are about,step by step;Raises add up;the layers' order.
  View: is a number among numbers;is it a thing on the table;what of a layer was about it.
  Swaps: the numbers of the things on the table,by rising stamps.
-/
import Derived.Test.YthfjgpjcepmnmaaGreatZ43
import Derived.Test.YthfjgpjcepmnmaaGreatZ45
import Derived.Test.YthfjgpjcepmnmaaGreatZ16
import Derived.Test.YthfjgpjcepmnmaaGreatZ30
import Derived.Test.YthfjgpjcepmnmaaGreatZLyK
import Derived.Test.YthfjgpjcepmnmaaGreatZ32
import Derived.Test.YthfjgpjcepmnmaaGreatZ35
import Derived.Test.YthfjgpjcepmnmaaGreatZ29
import Derived.Test.YthfjgpjcepmnmaaGreatZ37
import Derived.Test.YthfjgpjcepmnmaaGreatZ39
import Derived.Test.YthfjgpjcepmnmaaGreatZ31
import Derived.Test.YthfjgpjcepmnmaaGreatZ24
import Derived.Shelf.SlSortCmp.NoneTotal
import Derived.Lib.RowBridge
import Derived.Lib.SortBridge
namespace Go.Proofs.YthfjgpjcepmnmaaGreat
set_option maxRecDepth 100000
set_option maxHeartbeats 4000000
open Go.RowKit Go.Shelf
def vqR (p:Pl) (gs:List Ent) (ts:List Th) (k:Int):Int:=vqE (vkR p gs ts) (decide (0≤k∧k≤6)) 2
def vBR (p:Pl) (gs:List Ent) (ts:List Th) (k:Int):List Fe:=vBh (refE p ts.length) (gs.length:Int) (atC p gs) ts (pfR p gs) (mfR p) meR k
theorem vBR_no {p:Pl} {gs:List Ent} {ts:List Th} {k:Int} (h:¬vqR p gs ts k=0):vBR p gs ts k=[]:=if_neg h
theorem vqR_no {p:Pl} {gs:List Ent} {ts:List Th} {k:Int} (h:¬vkR p gs ts=0):vqR p gs ts k=vkR p gs ts:=vqE_no h
theorem vqR_bad {p:Pl} {gs:List Ent} {ts:List Th} {k:Int} (h:vkR p gs ts=0) (hk:¬(0≤k∧k≤6)):vqR p gs ts k=2:=by unfold vqR;rw[h,decide_eq_false hk];rfl
theorem vqR_ok {p:Pl} {gs:List Ent} {ts:List Th} {k:Int} (h:vkR p gs ts=0) (hk:0≤k∧k≤6):vqR p gs ts k=0:=by unfold vqR;rw[h,decide_eq_true hk];rfl
theorem vBR_ok {p:Pl} {gs:List Ent} {ts:List Th} {k:Int} {R:List Rw} (h:vkR p gs ts=0) (hk:0≤k∧k≤6) (hT:tabR (gs.length:Int) (atC p gs) ts (prtF (pfR p gs) ts)=some R):vBR p gs ts k=bhL R (mfR p) ts (prtF (pfR p gs) ts) k:=(if_pos (vqR_ok h hk)).trans (by rw[hT])
theorem clF_next (R:List Rw) (F:List Fe) (j:Nat):clF R F (j+1)=amgL (clF R F j) R (allR R (clF R F j) ((j:Int)+1)).1:=by
 rw[clF,nxtF]
theorem bhL_6 (R:List Rw) (mf:Fe→Th→Fe) (ts:List Th) (F:List Fe):bhL R mf ts F 6=mkdL mf ts (clF R F 5):=if_pos rfl
theorem bhL_lo (R:List Rw) (mf:Fe→Th→Fe) (ts:List Th) (F:List Fe) (j:Nat) (h:¬(j:Int)=6):bhL R mf ts F (j:Int)=clF R F j:=by
 unfold bhL
 rw[if_neg h,Int.toNat_natCast]
theorem mkE_zero {me:Th→Int}:∀ {ts:List Th},mkE me ts=0→∀ t∈ts,t.place=4→me t=0
 | [],_,t,ht,_=>by cases ht
 | a :: l,h,t,ht,h4=>by
  by_cases q:a.place=4∧me a≠0
  ·rw[mkE_no q.1 q.2] at h;exact absurd h q.2
  ·rw[mkE_yes q] at h
   rcases List.mem_cons.1 ht with e | e
   ·subst e
    exact Decidable.byContradiction fun z=>q ⟨h4,z⟩
   ·exact mkE_zero h t e h4
theorem vkR_of {p:Pl} {gs:List Ent} {ts:List Th} (h:vkR p gs ts=0):p.shut=true∧ts.length≤2048∧(∃ R,Tab (gs.length:Int) (atC p gs) ts (prtF (pfR p gs) ts) R)∧∀ t∈ts,t.place=4→okcs t.m0 t.m1 t.m2 t.m3=true:=by
 unfold vkR at h
 obtain⟨h1,h2,h3⟩:=vkE_of h
 have h4:ts.length≤2048∧p.shut=true:=by
  unfold refE at h1
  split at h1
  ·cases h1
  ·split at h1
   ·exact⟨by omega,by assumption⟩
   ·cases h1
 rw[List.take_of_length_le h4.1] at h2
 refine⟨h4.2,h4.1,h2,fun t ht q=>?_⟩
 have h5:=mkE_zero h3 t ht q
 unfold meR at h5
 split at h5
 ·assumption
 ·cases h5
def BhP (w:World) (p:Pl) (gs:List Ent) (ts:List Th) (k:Int) (e:Ending) (w':World):Prop:=∃ v,e=.returned (.tuple #[v,.int .i64 (vqR p gs ts k)])∧w.grownBy w' none∧FOwn w' w.heap.size v (vBR p gs ts k)
theorem BhP.no {w w':World} {p:Pl} {gs:List Ent} {ts:List Th} {k q:Int} (h:vqR p gs ts k=q) (hq:q≠0) (g:w.grownBy w' none):BhP w p gs ts k (.returned (.tuple #[.slice none 0 0,.int .i64 q])) w':=⟨_,by rw[h],g,by rw[vBR_no (by rw[h];exact hq)];exact RecT.Own.nil _ _ _ _⟩
theorem rBehind20_any (ok:Nat→Prop) (r:Nat) (vr:Value) (p:Pl) (gs:List Ent) (v:Value) (ts:List Th) (k:Int) (w:World) (B:RD ok w r vr p gs) (A:thR.At w v ts) (hc:RgC (atC p gs)):Calls Tryz.prog 55 #[.pointer (some ⟨r,0,none⟩),v,.int .i64 k] w (BhP w p gs ts k):=by
 have C1:=rstart20_any ok r vr p gs v ts w B A hc
 unfold StP at C1
 have HB:Hid (RD ok w r vr p gs∧thR.At w v ts∧RgC (atC p gs)):=⟨B,A,hc⟩
 obtain⟨x,hx⟩:∃ x,x=vkR p gs ts:=⟨_,rfl⟩
 have HX:Hid (x=vkR p gs ts):=hx
 rw[←hx] at C1
 clear A B hc hx
 go_enter Tryz.func55,Tryz.ntmps55
 go_wp2_with fail
 refine C1.mono ?_
 rintro e1 w1 ⟨v1,rfl,g1,h0,h1⟩
 have HG1:Hid (w.grownBy w1 none):=g1
 by_cases hx:x=0
 ·have HO:Hid (FOwn w1 w.heap.size v1 (prtF (pfR p gs) ts)):=h1 hx
  have HV:Hid (vkR p gs ts=0):=HX.out.symm.trans hx
  subst hx
  clear C1 g1 h0 h1
  obtain⟨hs,hl,⟨R,hT⟩,ho⟩:=vkR_of HV.out
  have HT:Hid (Tab (gs.length:Int) (atC p gs) ts (prtF (pfR p gs) ts) R∧p.shut=true∧ts.length≤2048∧∀ t∈ts,t.place=4→okcs t.m0 t.m1 t.m2 t.m3=true):=⟨hT,hs,hl,ho⟩
  have HAll:Hid (∀ X vf (j:Nat),w.grownBy X none→j<5→feR.At X vf (clF R (prtF (pfR p gs) ts) j)→Calls Tryz.prog 42 #[.pointer (some ⟨r,0,none⟩),v,vf,.int .i64 ((j:Int)+1)] X (AllPost X (refE p ts.length) (gs.length:Int) (atC p gs) ts (clF R (prtF (pfR p gs) ts) j) ((j:Int)+1))):=fun X vf j g hj F=>rAll_any ok r vr p gs v vf ts _ _ X (HB.out.1.keep g) (HB.out.2.1.keep g) F (cl_rg HT.out.1 HB.out.2.2 (prt_rg HB.out.2.2 ts) j).tr
  have HMk:Hid (∀ X vf,w.grownBy X none→feR.At X vf (clF R (prtF (pfR p gs) ts) 5)→Calls Tryz.prog 119 #[.pointer (some ⟨r,0,none⟩),v,vf] X fun e w'=>∃ v',e=.returned v'∧FOwn w' X.heap.size v' (mkdL (mfR p) ts (clF R (prtF (pfR p gs) ts) 5))∧X.grownBy w' none):=fun X vf g F=>rmarked20_any ok r vr p gs v vf ts _ X (HB.out.1.keep g) (HB.out.2.1.keep g) F (by rw[clF_len,prtF_len]) HT.out.2.2.1 (cl_rg HT.out.1 HB.out.2.2 (prt_rg HB.out.2.2 ts) 5) HT.out.2.2.2
  clear hs hl hT ho
  by_cases k1:k<0
  ·have d1:decide (k<0)=true:=decide_eq_true k1
   have HE:Hid (vqR p gs ts k=2):=vqR_bad HV.out (by omega)
   go_wp2_with fail
   go_ret2
   exact BhP.no HE.out (by decide) HG1.out
  ·have d1:decide (k<0)=false:=decide_eq_false k1
   by_cases k2:6<k
   ·have d2:decide (6<k)=true:=decide_eq_true k2
    have HE:Hid (vqR p gs ts k=2):=vqR_bad HV.out (by omega)
    go_wp2_with fail
    go_ret2
    exact BhP.no HE.out (by decide) HG1.out
   ·have d2:decide (6<k)=false:=decide_eq_false k2
    have HK:Hid (0≤k∧k≤6):=⟨by omega,by omega⟩
    go_wp2_with fail
    clear d1 d2 k1 k2
    go_loopw [8,10] (fun f n wr=>∃ (j:Nat),n=.int .i64 ((j:Int)+1)∧Hid (j≤5∧(j:Int)≤k∧FOwn wr w.heap.size f (clF R (prtF (pfR p gs) ts) j)∧w.grownBy wr none)) (fun _ n _=>7 - (intOf n).toNat)
    case atStart=>exact⟨0,rfl,Nat.zero_le _,HK.out.1,HO.out,HG1.out⟩
    case round =>
     obtain⟨j,rfl,HJ⟩:=hrel
     obtain⟨U,hU⟩:∃ U,U=wr:=⟨_,rfl⟩
     subst hU
     by_cases j1:(j:Int)+1≤k
     ·by_cases j2:(j:Int)+1≤5
      ·have d1:decide ((j:Int)+1≤k)=true:=decide_eq_true j1
       have d2:decide ((j:Int)+1≤5)=true:=decide_eq_true j2
       have Hj:Hid ((j:Int)+1≤k∧j<5):=⟨j1,by omega⟩
       have C2:=HAll.out U _ j HJ.out.2.2.2 (by omega) (RecT.Own.at HJ.out.2.2.1)
       unfold AllPost at C2
       have hwk:wrap64 ((j:Int)+1+1)=(j:Int)+1+1:=by unfold wrap64;omega
       go_wp2_with fail
       refine C2.mono ?_
       rintro e2 w2 ⟨p2,m2,c2,p3,m3,c3,rfl,g2,-,q⟩
       have HN:Hid (FOwn w2 w.heap.size (.slice p2 m2 c2) (clF R (prtF (pfR p gs) ts) (j+1))∧w.grownBy w2 none):=by
        have z:=(q R (refE_shut HT.out.2.2.1 HT.out.2.1) ⟨by omega,by omega⟩ (HT.out.1.cl j).tab).1
        rw[clF_next]
        exact⟨own_big z HJ.out.2.2.2.size,grown_trans HJ.out.2.2.2 g2⟩
       clear C2 g2 q d1 d2 j1 j2
       go_wp2_with fail
       go_roundw
       case rel =>
        have hc:((j+1:Nat):Int)=(j:Int)+1:=by omega
        exact⟨j+1,by rw[hc];first | rfl | (rw[hwk];rfl) | go_num,Hj.out.2,by have:=Hj.out.1;omega,HN.out.1,HN.out.2⟩
       case measure =>
        have hj5:=Hj.out.2
        first | (show 7 - ((j:Int)+1+1).toNat<7 - ((j:Int)+1).toNat;omega) | (rw[hwk];show 7 - ((j:Int)+1+1).toNat<7 - ((j:Int)+1).toNat;omega)
      ·have d1:decide ((j:Int)+1≤k)=true:=decide_eq_true j1
       have d2:decide ((j:Int)+1≤5)=false:=decide_eq_false j2
       have k6:k=6:=by have:=HJ.out.1;have:=HK.out.2;omega
       have j5:j=5:=by have:=HJ.out.1;omega
       have d3:(k == 6)=true:=by rw[k6];rfl
       have C2:=HMk.out U _ HJ.out.2.2.2 (by have z:=RecT.Own.at HJ.out.2.2.1;rw[j5] at z;exact z)
       have HL:Hid (vBR p gs ts k=mkdL (mfR p) ts (clF R (prtF (pfR p gs) ts) 5)∧vqR p gs ts k=0):=⟨by rw[vBR_ok HV.out HK.out HT.out.1.tab,k6,bhL_6],vqR_ok HV.out HK.out⟩
       clear j1 j2 k6 j5
       go_wp2_with fail
       refine C2.mono ?_
       rintro e2 w2 ⟨v2,rfl,o2,g2⟩
       have HN:Hid (FOwn w2 w.heap.size v2 (mkdL (mfR p) ts (clF R (prtF (pfR p gs) ts) 5))∧w.grownBy w2 none):=⟨own_big o2 HJ.out.2.2.2.size,grown_trans HJ.out.2.2.2 g2⟩
       clear C2 g2 o2 d1 d2
       go_wp2_with fail
       go_ret2
       exact⟨_,by rw[HL.out.2];rfl,HN.out.2,by rw[HL.out.1];exact HN.out.1⟩

     ·have d1:decide ((j:Int)+1≤k)=false:=decide_eq_false j1
      have kj:k=(j:Int):=by have:=HJ.out.2.1;omega
      by_cases j5:k=6
      ·have:=HJ.out.1;omega
      ·have d3:(k == 6)=false:=by simpa using j5
       have HL:Hid (vBR p gs ts k=clF R (prtF (pfR p gs) ts) j∧vqR p gs ts k=0):=⟨by rw[vBR_ok HV.out HK.out HT.out.1.tab,kj,bhL_lo _ _ _ _ _ (by rw[←kj];exact j5)],vqR_ok HV.out HK.out⟩
       clear j1 kj j5
       go_wp2_with fail
       go_ret2
       exact⟨_,by rw[HL.out.2];rfl,HJ.out.2.2.2,by rw[HL.out.1];exact HJ.out.2.2.1⟩
 ·have ex:(x != 0)=true:=by simpa using hx
  have HE:Hid (vqR p gs ts k=x∧x≠0):=⟨by rw[vqR_no (by rw[←HX.out];exact hx),HX.out],hx⟩
  obtain rfl:=h0 hx
  clear C1 g1 h0 h1 hx
  go_wp2_with fail
  go_ret2
  exact BhP.no HE.out.1 HE.out.2 HG1.out
theorem rOf20_any (ok:Nat→Prop) (r:Nat) (vr:Value) (p:Pl) (gs:List Ent) (v:Value) (ts:List Th) (w:World) (B:RD ok w r vr p gs) (A:thR.At w v ts) (hc:RgC (atC p gs)):Calls Tryz.prog 54 #[.pointer (some ⟨r,0,none⟩),v] w (BhP w p gs ts 6):=by
 have C1:=rBehind20_any ok r vr p gs v ts 6 w B A hc
 clear A B hc
 go_enter Tryz.func54,Tryz.ntmps54
 go_wp2_with fail
 refine C1.mono ?_
 rintro e1 w1 ⟨v1,rfl,h⟩
 go_wp2_with fail
 go_ret2
 exact⟨_,rfl,h⟩
def tb1v (vc vm:Value) (op:Bool) (vt vf:Value) (ow:Bool):Value:=.agg #[vc,vm,.bool op,vt,vf,.bool ow]
def Tb1 (w:World) (g:Nat) (vc vm:Value) (op:Bool) (vt vf:Value) (ow:Bool):Prop:=w.heap[g]?=some (.cells #[vc,vm,.bool op,vt,vf,.bool ow] 72 (0,0))
theorem tb1_box {w:World} {g:Nat} {vc vm:Value} {op:Bool} {vt vf:Value} {ow:Bool} (h:Tb1 w g vc vm op vt vf ow):w.cell? ⟨g,0,none⟩=some vc∧w.cell? ⟨g,1,none⟩=some vm∧w.cell? ⟨g,2,none⟩=some (.bool op)∧w.cell? ⟨g,3,none⟩=some vt∧w.cell? ⟨g,4,none⟩=some vf∧w.cell? ⟨g,5,none⟩=some (.bool ow):=⟨(block_cell h 0).trans rfl,(block_cell h 1).trans rfl,(block_cell h 2).trans rfl,(block_cell h 3).trans rfl,(block_cell h 4).trans rfl,(block_cell h 5).trans rfl⟩
def ftR (ow:Bool) (p:Pl) (gs:List Ent) (ts:List Th) (fs:List Fe):List Fe:=if ow=true∧vqR p gs ts 6=0 then vBR p gs ts 6 else fs
theorem rfeat21_any (ok:Nat→Prop) (r:Nat) (vr:Value) (p:Pl) (gs:List Ent) (vc vm vt vf:Value) (op ow:Bool) (ts:List Th) (fs:List Fe) (w:World) (B:RD ok w r vr p gs) (A:thR.At w vt ts) (AF:feR.At w vf fs) (hc:RgC (atC p gs)):Calls Tryz.prog 17 #[tb1v vc vm op vt vf ow,.pointer (some ⟨r,0,none⟩)] w fun e w'=>∃ v,e=.returned v∧feR.At w' v (ftR ow p gs ts fs)∧w.grownBy w' none:=by
 obtain⟨W,hW⟩:∃ W,W=w.alloc (.cells #[vc,vm,.bool op,vt,vf,.bool ow] 72):=⟨_,rfl⟩
 have HG:Hid (w.grownBy W none):=by rw[hW];exact World.grownBy_alloc _ _ none
 have HT:Hid (Tb1 W w.heap.size vc vm op vt vf ow):=by rw[hW];exact alloc_at _ _ _
 have HF:Hid (feR.At W vf fs):=AF.keep HG.out
 have C1:=rOf20_any ok r vr p gs vt ts W (B.keep HG.out) (A.keep HG.out) hc
 unfold BhP at C1
 obtain⟨x,hx⟩:∃ x,x=vqR p gs ts 6:=⟨_,rfl⟩
 have HX:Hid (x=vqR p gs ts 6):=hx
 rw[←hx] at C1
 clear A B AF hc hx
 unfold tb1v
 go_enter Tryz.func17,Tryz.ntmps17
 go_upto_region 1 with fail
 rw[←hW]
 obtain⟨n0,hn0⟩:∃ n0,n0=w.heap.size:=⟨_,rfl⟩
 rw[←hn0] at HT ⊢
 clear hW hn0
 obtain⟨c0,c1,c2,c3,c4,c5⟩:=tb1_box HT.out
 cases ow with
 | false =>
  go_wp2_with fail
  go_ret
  exact⟨_,rfl,by unfold ftR;rw[if_neg (fun q=>by cases q.1)];exact HF.out,HG.out⟩
 | true =>
  go_wp2_with fail
  refine C1.mono ?_
  rintro e1 w1 ⟨v1,rfl,g1,o1⟩
  have HG1:Hid (W.grownBy w1 none∧FOwn w1 W.heap.size v1 (vBR p gs ts 6)):=⟨g1,o1⟩
  clear C1 g1 o1 c0 c1 c2 c3 c4 c5
  by_cases h0:x=0
  ·have ex:(x == 0)=true:=by rw[h0];rfl
   have HE:Hid (vqR p gs ts 6=0):=HX.out.symm.trans h0
   clear h0
   go_wp2_with fail
   go_ret
   exact⟨_,rfl,by unfold ftR;rw[if_pos ⟨rfl,HE.out⟩];exact RecT.Own.at HG1.out.2,grown_trans HG.out HG1.out.1⟩
  ·have ex:(x == 0)=false:=by simpa using h0
   have HE:Hid (¬vqR p gs ts 6=0):=fun z=>h0 (HX.out.trans z)
   clear h0
   obtain⟨c0,c1,c2,c3,c4,c5⟩:=tb1_box (grown_keep HG1.out.1 HT.out (by simp))
   go_wp2_with fail
   go_ret
   exact⟨_,rfl,by unfold ftR;rw[if_neg (fun q=>HE.out q.2)];exact HF.out.keep HG1.out.1,grown_trans HG.out HG1.out.1⟩
end Go.Proofs.YthfjgpjcepmnmaaGreat
namespace Go.Proofs.YthfjgpjcepmnmaaGreat
open Go.RowKit
structure Hp where
 vb:Int
 on:Int
 ct:Int
 ho:Int
 vn:Bool
 dr:Bool
 deriving DecidableEq
def Hp.none:Hp:=⟨0,0,0,0,false,false⟩
def swRow (nu:Int) (ps:List Pt):List Sd:=(plF ps 0 6).map fun i=>⟨nu,i,ps.getD i.toNat Pt.none⟩
def swMute (fs:List Fe) (r:Rw):Bool:=tHas (fs.getD (r.nu - 1).toNat Fe.none).tr 6
def swOne (fs:List Fe) (r:Rw):List Sd:=if swMute fs r then [] else swRow r.nu r.ps
def swL (R:List Rw) (fs:List Fe):List Sd:=R.flatMap (swOne fs)
def hoN (fs:List Fe) (n:Int):Int:=(fs.getD (n - 1).toNat Fe.none).ho
def SwGood (cd:Int→Hd×List Pt):Prop:=∀ c,∀ p∈(cd c).2,p.wn=6→16≤p.vb∧p.vb≤19∧(p.vb=16∨p.vb=19→1≤p.ct∧p.ct≤99)
def scnv (bv vt vf vl:Value):Value:=.agg #[bv,vt,vf,vl]
def ScnB (w:World) (g:Nat) (bv vt vf vl:Value):Prop:=w.heap[g]?=some (.cells #[bv,vt,vf,vl] 136 (0,0))
theorem scn_box {w:World} {g:Nat} {bv vt vf vl:Value} (h:ScnB w g bv vt vf vl):w.cell? ⟨g,0,none⟩=some bv∧w.cell? ⟨g,1,none⟩=some vt∧w.cell? ⟨g,2,none⟩=some vf∧w.cell? ⟨g,3,none⟩=some vl:=⟨(block_cell h 0).trans rfl,(block_cell h 1).trans rfl,(block_cell h 2).trans rfl,(block_cell h 3).trans rfl⟩
open Go.Shelf





theorem ints_in {w:World} {base:Nat} {v:Value} {l:List Int} (h:LOwnI w base v l) {j:Nat} (hj:j<l.length):∃ g c,v=.slice (some ⟨g,0,none⟩) l.length c∧w.cell? ⟨g,j,none⟩=some (.int .i64 (l.getD j 0)):=by
 obtain⟨g,c,e,_,_,_,_,hc⟩:=own_cell h (by omega)
 refine⟨g,c,e,(hc j (by omega)).1.trans ?_⟩
 unfold ints
 rw[List.getElem?_map,List.getElem?_eq_getElem hj,Option.map_some,getD_in hj]
end Go.Proofs.YthfjgpjcepmnmaaGreat
namespace Go.Proofs.YthfjgpjcepmnmaaGreat
set_option maxRecDepth 100000
set_option maxHeartbeats 2000000
open Go.RowKit
def onN:List Th→Nat→List Int
 | [],_=>[]
 | t :: r,i=>if t.place=4 then ((i:Int)+1) :: onN r (i+1) else onN r (i+1)
theorem onN_snoc:∀ (l:List Th) (i:Nat) (t:Th),onN (l++[t]) i=if t.place=4 then onN l i++[((i+l.length:Nat):Int)+1] else onN l i
 | [],i,t=>by
  simp only[List.nil_append,onN,List.length_nil,Nat.add_zero]
 | s :: l,i,t=>by
  have h:=onN_snoc l (i+1) t
  simp only[List.cons_append,onN,h,List.length_cons]
  rw[show i+1+l.length=i+(l.length+1) by omega]
  by_cases h1:s.place=4 <;> by_cases h2:t.place=4 <;> simp[h1,h2]
theorem onN_take {ts:List Th} {k:Nat} {t:Th} (ht:ts[k]?=some t):onN (ts.take (k+1)) 0=if t.place=4 then onN (ts.take k) 0++[(k:Int)+1] else onN (ts.take k) 0:=by
 have hk:=(List.getElem?_eq_some_iff.1 ht).1
 rw[List.take_add_one,ht,show (some t).toList=[t] from rfl,onN_snoc,List.length_take,Nat.zero_add,Nat.min_eq_left (by omega)]
theorem onN_len:∀ (l:List Th) (i:Nat),(onN l i).length≤l.length
 | [],_=>Nat.le_refl _
 | t :: l,i=>by
  have:=onN_len l (i+1)
  unfold onN
  split <;> simp <;> omega
theorem onN_in:∀ (l:List Th) (i:Nat) (n:Int),n∈onN l i→(i:Int)+1≤n∧n≤((i+l.length:Nat):Int)
 | [],_,n,h=>by cases h
 | t :: l,i,n,h=>by
  unfold onN at h
  have q:=onN_in l (i+1) n
  rw[List.length_cons]
  split at h
  ·rcases List.mem_cons.1 h with h | h
   ·omega
   ·have:=q h;omega
  ·have:=q h;omega
theorem tbl_nums {cd:Int→Hd×List Pt}:∀ (ts:List Th) (F:List Fe) (i:Nat),ts.length=F.length→(tblR cd (ts.zip F) i).map Rw.nu=onN ts i
 | [],_,_,_=>by simp[tblR,onN]
 | t :: ts,[],_,h=>by simp at h
 | t :: ts,f :: F,i,h=>by
  have q:=tbl_nums (cd:=cd) ts F (i+1) (by simpa using h)
  rw[List.zip_cons_cons]
  by_cases h4:t.place=4
  ·rw[tblR_yes h4,List.map_cons,q];show _=(if t.place=4 then _ else _);rw[if_pos h4]
  ·rw[tblR_no h4,q];show _=(if t.place=4 then _ else _);rw[if_neg h4]
theorem perm_up {f:Int→Int}:∀ {l m:List Int},l.Perm m→(l.Pairwise fun a b=>f a≤f b)→(m.Pairwise fun a b=>f a<f b)→l=m
 | [],m,h,_,_=>(List.nil_perm.1 h).symm
 | a :: l,[],h,_,_=>by have:=h.length_eq;simp at this
 | a :: l,b :: m,h,h1,h2=>by
  rw[List.pairwise_cons] at h1 h2
  have e:a=b:=by
   rcases List.mem_cons.1 (h.mem_iff.1 List.mem_cons_self) with e | q
   ·exact e
   ·rcases List.mem_cons.1 (h.mem_iff.2 List.mem_cons_self) with e | q'
    ·exact e.symm
    ·have:=h1.1 b q';have:=h2.1 a q;omega
  subst e
  rw[perm_up h.cons_inv h1.2 h2.2]
theorem Tab.nums {n:Int} {cd:Int→Hd×List Pt} {ts:List Th} {F:List Fe} {R:List Rw} (h:Tab n cd ts F R) {l:List Int} (hp:l.Perm (onN ts 0)) (hs:l.Pairwise fun a b=>stOf ts a≤stOf ts b):l=R.map Rw.nu:=by
 have p2:(onN ts 0).Perm (R.map Rw.nu):=by rw[←tbl_nums (cd:=cd) ts F 0 h.len];exact(h.perm.map Rw.nu).symm
 refine perm_up (hp.trans p2) hs ?_
 rw[List.pairwise_map,List.pairwise_iff_getElem]
 intro i j hi hj hij
 have q:=(List.pairwise_iff_getElem.1 h.up) i j hi hj hij
 have a:=(h.thing hi).2.1
 have b:=(h.thing hj).2.1
 rw[getD_in hi] at a
 rw[getD_in hj] at b
 rw[a,b]
 exact q
theorem sfins_of {N:Nat}:∀ (l:List Int),(∀ n∈l,1≤n∧n≤(N:Int))→∃ D:List (Fin N),D.map (fun i=>(i.val:Int)+1)=l
 | [],_=>⟨[],rfl⟩
 | n :: l,h=>by
  obtain⟨D,hD⟩:=sfins_of l fun m hm=>h m (List.mem_cons_of_mem _ hm)
  have h1:=h n List.mem_cons_self
  refine⟨⟨(n - 1).toNat,by omega⟩ :: D,?_⟩
  rw[List.map_cons,hD]
  congr 1
  show (((n - 1).toNat:Nat):Int)+1=n
  omega
def sencF {N:Nat} (i:Fin N):Value:=.int .i64 ((i.val:Int)+1)
def sstF {N:Nat} (ts:List Th) (i:Fin N):Int:=stOf ts ((i.val:Int)+1)
def scfF {N:Nat} (ts:List Th) (i j:Fin N):Int:=Lib.compareInt (sstF ts i) (sstF ts j)
theorem sltF {N:Nat} (ts:List Th) (i j:Fin N):Go.Proofs.ltOf (scfF ts) i j=decide (sstF ts i<sstF ts j):=by
 unfold Go.Proofs.ltOf scfF Lib.compareInt
 by_cases h1:sstF ts i<sstF ts j
 ·simp[h1]
 ·by_cases h2:sstF ts j<sstF ts i <;> simp[h1,h2]
theorem sswoF {N:Nat} [Inhabited (Fin N)] (ts:List Th):Go.Sort.SWO (Go.Proofs.ltOf (scfF (N:=N) ts)) where
 irrefl x:=by rw[sltF];simp
 trans x y z h1 h2:=by rw[sltF] at *;simp at *;omega
 ntrans x y z h1 h2:=by rw[sltF] at *;simp at *;omega
theorem sencF_map {N:Nat} (D:List (Fin N)):D.map sencF=ints (D.map fun i=>(i.val:Int)+1):=by
 unfold ints
 rw[List.map_map]
 rfl
theorem ssorted_list {N:Nat} [Inhabited (Fin N)] {ts:List Th} {d:Array (Fin N)} {n:Nat} (hn:d.size=n) (h:Go.Sort.SortedIn (Go.Proofs.ltOf (scfF ts)) 0 n d):(d.toList.map fun i=>(i.val:Int)+1).Pairwise fun a b=>stOf ts a≤stOf ts b:=by
 rw[List.pairwise_map,List.pairwise_iff_getElem]
 intro i j hi hj hij
 have hi':i<d.size:=by simpa using hi
 have hj':j<d.size:=by simpa using hj
 have:=h i j (Nat.zero_le _) hij (by omega)
 rw[sltF] at this
 simp[hi',hj'] at this
 simp
 exact this
theorem sperm_list {N:Nat} [Inhabited (Fin N)] {d d':Array (Fin N)} (h:Go.Sort.PermIn 0 d.size d d'):d'.toList.Perm d.toList:=by
 obtain⟨h1,_,h2⟩:=h
 have e1:(d'.extract 0 d.size).toList=d'.toList:=by rw[←h1];simp
 have e2:(d.extract 0 d.size).toList=d.toList:=by simp
 rw[e1,e2] at h2
 exact h2
theorem ssortW_cell {α:Type} [Inhabited α] (enc:α→Value) (w:World) (g m:Nat) (d:Array α) (os:Array Obj) (a:Addr) (hg:a.block≠g) (hs:a.block<w.heap.size):(Go.Proofs.sortWorld enc w g 0 m d os).cell? a=w.cell? a:=by
 unfold Go.Proofs.sortWorld
 rw[Go.Sort.cell?_grow _ _ _ (by rw[Go.Sort.size_putRow];exact hs),Go.Sort.cell?_putRow_other _ _ _ _ _ _ (Or.inl hg),Go.Sort.cell?_ahead]
theorem scmpSt_any (W:World) (b g off len cap i j:Nat) (sx sy:Int) (hi:i<len) (hj:j<len) (hl:len≤2048) (c0:W.cell? ⟨b,1,none⟩=some (.slice (some ⟨g,off,none⟩) len cap)) (cx:W.cell? ⟨g,off+i*11+3,none⟩=some (.int .i64 sx)) (cy:W.cell? ⟨g,off+j*11+3,none⟩=some (.int .i64 sy)):Calls Tryz.prog 195 #[.int .i64 ((i:Int)+1),.int .i64 ((j:Int)+1),.pointer (some ⟨b,0,none⟩)] W fun e w'=>e=.returned (.int .i64 (Lib.compareInt sx sy))∧∃ q,w'=W.drewN q:=by
 have hcon:=AnyG.cmp_Compare_int Tryz.cmpL sx sy
 change ∀ w,Calls Tryz.prog 161 _ _ _ at hcon
 obtain⟨r,hr⟩:∃ r,r=Lib.compareInt sx sy:=⟨_,rfl⟩
 rw[←hr] at hcon ⊢
 clear hr
 have hw1:IntKind.i64.wrap (i:Int)=(i:Int):=IntWalk.i64_in _ (by omega)
 have hw2:IntKind.i64.wrap (j:Int)=(j:Int):=IntWalk.i64_in _ (by omega)
 have hi':(i:Int)<len:=by omega
 have hj':(j:Int)<len:=by omega
 go_enter Tryz.func195,Tryz.ntmps195
 go_wp2
 go_quiet ((go_at_call 161;exact Calls.quiet_of_same (hcon _)))
 go_wp2
 go_ret
 exact⟨rfl,nq,rfl⟩
def SsPost (w0:World) (v:Value) (ts:List Th) (l:List Int) (e:Ending) (w':World):Prop:=e=.returned (.tuple #[])∧∃ l',l'.Perm l∧(l'.Pairwise fun a b=>stOf ts a≤stOf ts b)∧LOwnI w' w0.heap.size v l'∧w0.grownBy w' none
theorem sSort_any (w0 w:World) (b:Nat) (bv vt vf vl v:Value) (ts:List Th) (l:List Int) (S:ScnB w0 b bv vt vf vl) (T:thR.At w0 vt ts) (hf:ts.length≤2048) (G:w0.grownBy w none) (O:LOwnI w w0.heap.size v l) (hl:∀ n∈l,1≤n∧n≤(ts.length:Int)) (hk:l.length≤4096):Calls Tryz.prog 194 #[v,.func (.func 195) #[] #[.pointer (some ⟨b,0,none⟩)]] w (SsPost w0 v ts l):=by
 obtain⟨n,hn⟩:∃ n,n=l.length:=⟨_,rfl⟩
 by_cases h0:n=0
 ·have e1:l=[]:=List.length_eq_zero_iff.1 (by omega)
  subst e1
  obtain⟨p,cap,rfl⟩:=O.form
  have hS:=fun fv W=>AnyF.slices_SortFunc_none (P:=Tryz.prog) (ρ:=Tryz.sortL_ren) { Tryz.sortL with } p cap fv W
  change ∀ fv W,Calls Tryz.prog 194 _ _ _ at hS
  refine(hS _ _).mono ?_
  rintro e w' ⟨rfl,rfl⟩
  exact⟨rfl,[],List.Perm.refl _,List.Pairwise.nil,O,G⟩
 ·have hpos:0<l.length:=by omega
  obtain⟨g,cap,e1,hgb,hgs,_,_,_⟩:=own_cell O hpos
  subst e1
  have hN:0<ts.length:=by
   have:=hl (l[0]'hpos) (List.getElem_mem hpos)
   omega
  obtain⟨pt,ct,rfl,_,hT⟩:=T
  obtain⟨gt,off,rfl,hR⟩:=hT hN
  obtain⟨D,hD⟩:=sfins_of (N:=ts.length) l (fun m hm=>hl m hm)
  haveI:Inhabited (Fin ts.length):=⟨⟨0,hN⟩⟩
  have hDl:D.length=l.length:=by rw[←hD,List.length_map]
  have cc:=(scn_box S).2.1
  have O1:w.ownsRow w0.heap.size 3 1 (.slice (some ⟨g,0,none⟩) l.length cap) l.length (ints l):=O
  have cell0:∀ a x,w0.cell? a=some x→a.block<w0.heap.size:=fun a x h=>World.block_lt_of_cell? _ _ h
  have hcmp:CmpReads Tryz.prog 195 #[.pointer (some ⟨b,0,none⟩)] (sencF (N:=ts.length)) (scfF ts) g 0 D.toArray.size w:=by
   intro m os dk hs x y
   have keep:∀ a u,w0.cell? a=some u→(Go.Proofs.sortWorld sencF w g 0 m dk os).cell? a=some u:=fun a u h=>by
    have:=cell0 a u h
    rw[ssortW_cell sencF w g m dk os a (by omega) (by have:=G.size;omega)]
    exact G.cell h (by simp)
   have hx:=x.isLt
   have hy:=y.isLt
   refine scmpSt_any _ b gt off ts.length ct x.val y.val (sstF ts x) (sstF ts y) hx hy hf (keep _ _ cc) (keep _ _ ?_) (keep _ _ ?_)
   ·have:=hR x.val ts[x.val] (List.getElem?_eq_getElem hx) 3 _ rfl
    rw[show off+x.val*thR.k+3=off+x.val*11+3 from rfl] at this
    rw[this]
    unfold sstF stOf
    rw[toN,List.getD_eq_getElem?_getD,List.getElem?_eq_getElem hx]
    rfl
   ·have:=hR y.val ts[y.val] (List.getElem?_eq_getElem hy) 3 _ rfl
    rw[show off+y.val*thR.k+3=off+y.val*11+3 from rfl] at this
    rw[this]
    unfold sstF stOf
    rw[toN,List.getD_eq_getElem?_getD,List.getElem?_eq_getElem hy]
    rfl
  have hH:Go.Sort.Holds sencF w g 0 D.toArray:=by
   intro j hj
   have hj':j<D.length:=by simpa using hj
   rw[Nat.zero_add]
   refine⟨?_,World.ownsRow.frozenAt O1 j⟩
   rw[World.ownsRow.cellAt O1 j (by omega),←hD,←sencF_map,List.getElem?_map]
   simp[hj']
  have eg:∀ args w,(callFunc 195 args).run Tryz.prog w=.ok (.enter 195 args) w:=enters_of Tryz.func195 (by kernel_rfl) rfl
  have hS:=Any.slices_SortFunc Tryz.sortL sencF (fun _=>rfl) (scfF ts) (sswoF ts) 195 #[.pointer (some ⟨b,0,none⟩)] g 0 cap D.toArray w eg hcmp.lays hH (by omega) (by simp;omega)
  change Calls Tryz.prog 194 _ _ _ at hS
  have hsz2:D.toArray.size=l.length:=by simp[hDl]
  rw[←hsz2]
  refine hS.mono ?_
  rintro e w' ⟨rfl,d',q,os,hp,hs,rfl⟩
  refine⟨rfl,?_⟩
  have hd:d'.size=D.toArray.size:=hp.1
  have hd2:d'.toList.length=l.length:=by rw[Array.length_toList,hd,hsz2]
  have ew:Go.Proofs.sortWorld sencF w g 0 q d' os=Go.Sort.grow ((w.drewN q).setCells g 0 (d'.toList.map sencF)) os:=by
   unfold Go.Proofs.sortWorld
   have:=Lib.sorted_world sencF w g 0 q D.toArray d'.toList os hH (by rw[Array.length_toList];exact hd)
   rw[←this]
  rw[ew,sencF_map,hsz2]
  obtain⟨o2,g2⟩:=sorted_own (q:=q) (os:=os) (vs:=ints (d'.toList.map fun i=>(i.val:Int)+1)) O1 (by rw[length_ints,List.length_map,Nat.mul_one];exact hd2)
  refine⟨_,?_,ssorted_list hd hs,?_,grown_own G g2 (fun x e=>by cases e;exact hgb)⟩
  ·rw[←hD]
   have:=sperm_list hp
   exact this.map _
  ·unfold LOwnI
   rw[List.length_map,hd2]
   exact o2
end Go.Proofs.YthfjgpjcepmnmaaGreat
