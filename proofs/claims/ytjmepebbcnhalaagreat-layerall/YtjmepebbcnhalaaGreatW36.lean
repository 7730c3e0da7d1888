import Derived.Test.YtjmepebbcnhalaaGreatW13
import Derived.Test.YtjmepebbcnhalaaGreatW3
import Derived.Test.YtjmepebbcnhalaaGreatW19
import Derived.Test.YtjmepebbcnhalaaGreatW34
import Derived.BigQuiet
namespace Go.Proofs.YtjmepebbcnhalaaGreat
set_option maxRecDepth 100000
set_option maxHeartbeats 4000000
open Go.RowKit
theorem kI (k:Int) (w:World):Calls Tryz.prog 170 #[.int .u8 k] w fun e w'=>e=.returned (.int .u16 (lP k))∧w'=w:=by
 rcases lH k with h | h
 ·rcases h with rfl | rfl | rfl | rfl | rfl | rfl | rfl | rfl
  all_goals
   go_enter Tryz.func170,Tryz.ntmps170
   go_wp2
   go_ret
   exact⟨rfl,rfl⟩
 ·rw[pD h]
  rcases h with h | h
  ·have e1:decide (k<1)=true:=decide_eq_true h
   clear h
   go_enter Tryz.func170,Tryz.ntmps170
   go_wp2
   go_ret
   exact⟨rfl,rfl⟩
  ·have e1:decide (k<1)=false:=decide_eq_false (by omega)
   have e2:decide (8<k)=true:=decide_eq_true h
   clear h
   go_enter Tryz.func170,Tryz.ntmps170
   go_wp2
   go_ret
   exact⟨rfl,rfl⟩
theorem nT (s k:Int) (w:World):Calls Tryz.prog 109 #[.int .u16 s,.int .u8 k] w fun e w'=>e=.returned (.bool (jZ s k))∧w'=w:=by
 go_enter Tryz.func109,Tryz.ntmps109
 go_wp2_with fail
 refine(kI _ _).mono ?_
 rintro e w1 ⟨rfl,rfl⟩
 go_wp2
 go_ret
 exact⟨rfl,rfl⟩
theorem tu (s k:Int) (w:World):Calls Tryz.prog 218 #[.int .u16 s,.int .u8 k] w fun e w'=>e=.returned (.int .u16 (ki s k))∧w'=w:=by
 go_enter Tryz.func218,Tryz.ntmps218
 go_wp2_with fail
 refine(kI _ _).mono ?_
 rintro e w1 ⟨rfl,rfl⟩
 go_wp2
 go_ret
 exact⟨rfl,rfl⟩
theorem ny (s k:Int) (w:World):Calls Tryz.prog 219 #[.int .u16 s,.int .u8 k] w fun e w'=>e=.returned (.int .u16 (eM s k))∧w'=w:=by
 go_enter Tryz.func219,Tryz.ntmps219
 go_wp2_with fail
 refine(kI _ _).mono ?_
 rintro e w1 ⟨rfl,rfl⟩
 go_wp2
 go_ret
 exact⟨rfl,rfl⟩
theorem iQ (v:Int) (w:World):Calls Tryz.prog 139 #[.int .u8 v] w fun e w'=>e=.returned (.int .i64 (lay v))∧w'=w:=by
 by_cases h:10≤v∧v≤15
 ·have:v=10∨v=11∨v=12∨v=13∨v=14∨v=15:=by omega
  rcases this with rfl | rfl | rfl | rfl | rfl | rfl
  all_goals
   go_enter Tryz.func139,Tryz.ntmps139
   go_wp2
   go_ret
   exact⟨rfl,rfl⟩
 ·rw[yY h]
  have e1:(v == 10)=false:=by simp;omega
  have e2:(v == 11)=false:=by simp;omega
  have e3:(v == 12)=false:=by simp;omega
  have e4:(v == 13)=false:=by simp;omega
  have e5:(v == 14)=false:=by simp;omega
  have e6:(v == 15)=false:=by simp;omega
  clear h
  go_enter Tryz.func139,Tryz.ntmps139
  go_wp2
  go_ret
  exact⟨rfl,rfl⟩
def PtX (w:World) (n:Nat) (p:Pt):Prop:=w.heap[n]?=some (.cells #[.int .u8 p.wn,.int .u8 p.vb,.int .u8 p.wm,.int .i64 p.ct,.int .u8 p.su,.int .u8 p.tr,.int .u8 p.mr,.string p.nm] 62 (0,0))
theorem qm {w:World} {g:Nat} {p:Pt} (h:PtX w g p):w.cell? ⟨g,0,none⟩=some (.int .u8 p.wn)∧w.cell? ⟨g,1,none⟩=some (.int .u8 p.vb)∧w.cell? ⟨g,2,none⟩=some (.int .u8 p.wm)∧w.cell? ⟨g,3,none⟩=some (.int .i64 p.ct)∧w.cell? ⟨g,4,none⟩=some (.int .u8 p.su)∧w.cell? ⟨g,5,none⟩=some (.int .u8 p.tr)∧w.cell? ⟨g,6,none⟩=some (.int .u8 p.mr)∧w.cell? ⟨g,7,none⟩=some (.string p.nm):=⟨(ae h 0).trans rfl,(ae h 1).trans rfl,(ae h 2).trans rfl,(ae h 3).trans rfl,(ae h 4).trans rfl,(ae h 5).trans rfl,(ae h 6).trans rfl,(ae h 7).trans rfl⟩
theorem ei {p q:Pt} (h:¬p=q):bN p q=false:=lQ h
theorem tX (p q:Pt) (w:World):Calls Tryz.prog 210 #[pv p,pv q] w fun e w'=>e=.returned (.bool (bN p q))∧w.grownBy w' none:=by
 obtain⟨W,hW⟩:∃ W,W=(w.alloc (.cells #[.int .u8 p.wn,.int .u8 p.vb,.int .u8 p.wm,.int .i64 p.ct,.int .u8 p.su,.int .u8 p.tr,.int .u8 p.mr,.string p.nm] 62)).alloc (.cells #[.int .u8 q.wn,.int .u8 q.vb,.int .u8 q.wm,.int .i64 q.ct,.int .u8 q.su,.int .u8 q.tr,.int .u8 q.mr,.string q.nm] 62):=⟨_,rfl⟩
 have HG:Hid (w.grownBy W none):=by rw[hW];exact am (World.grownBy_alloc _ _ none) _
 have HP:Hid (PtX W w.heap.size p∧PtX W (w.heap.size+1) q):=by rw[hW];exact⟨ai (World.grownBy_alloc _ _ none) (ak w _ _) (by simp),aL _ _ _ _⟩
 unfold pv
 obtain⟨n0,hn0⟩:∃ n0,n0=w.heap.size:=⟨_,rfl⟩
 obtain⟨n1,hn1⟩:∃ n1,n1=n0+1:=⟨_,rfl⟩
 go_enter Tryz.func210,Tryz.ntmps210
 go_upto_region 1 with fail
 rw[←hW]
 simp only[←hn0,←hn1] at HP ⊢
 clear hW hn0 hn1
 obtain⟨x0,x1,x2,x3,x4,x5,x6,x7⟩:=qm HP.out.1
 obtain⟨y0,y1,y2,y3,y4,y5,y6,y7⟩:=qm HP.out.2
 by_cases c0:p.wn=q.wn
 ·have e0:(p.wn == q.wn)=true:=by rw[c0];exact beq_self_eq_true _
  by_cases c1:p.vb=q.vb
  ·have e1:(p.vb == q.vb)=true:=by rw[c1];exact beq_self_eq_true _
   by_cases c2:p.wm=q.wm
   ·have e2:(p.wm == q.wm)=true:=by rw[c2];exact beq_self_eq_true _
    by_cases c3:p.ct=q.ct
    ·have e3:(p.ct == q.ct)=true:=by rw[c3];exact beq_self_eq_true _
     by_cases c4:p.su=q.su
     ·have e4:(p.su == q.su)=true:=by rw[c4];exact beq_self_eq_true _
      by_cases c5:p.tr=q.tr
      ·have e5:(p.tr == q.tr)=true:=by rw[c5];exact beq_self_eq_true _
       by_cases c6:p.mr=q.mr
       ·have e6:(p.mr == q.mr)=true:=by rw[c6];exact beq_self_eq_true _
        by_cases c7:p.nm=q.nm
        ·have e7:(p.nm.toList == q.nm.toList)=true:=by rw[c7];exact beq_self_eq_true _
         have HS:Hid (bN p q=true):=by
          show _=_
          unfold bN
          exact decide_eq_true ⟨c0,c1,c2,c3,c4,c5,c6,c7⟩
         clear c0 c1 c2 c3 c4 c5 c6 c7
         go_wp2_with fail
         go_ret
         exact⟨by rw[HS.out] <;> rfl,HG.out⟩
        ·have e7:(p.nm.toList == q.nm.toList)=false:=Bool.eq_false_iff.2 fun z=>c7 (fD (by simpa using z))
         have HS:Hid (bN p q=false):=ei (fun e=>c7 (by rw[e]))
         clear c0 c1 c2 c3 c4 c5 c6 c7
         go_wp2_with fail
         go_ret
         exact⟨by rw[HS.out] <;> rfl,HG.out⟩
       ·have e6:(p.mr == q.mr)=false:=by simpa using c6
        have HS:Hid (bN p q=false):=ei (fun e=>c6 (by rw[e]))
        clear c0 c1 c2 c3 c4 c5 c6
        go_wp2_with fail
        go_ret
        exact⟨by rw[HS.out] <;> rfl,HG.out⟩
      ·have e5:(p.tr == q.tr)=false:=by simpa using c5
       have HS:Hid (bN p q=false):=ei (fun e=>c5 (by rw[e]))
       clear c0 c1 c2 c3 c4 c5
       go_wp2_with fail
       go_ret
       exact⟨by rw[HS.out] <;> rfl,HG.out⟩
     ·have e4:(p.su == q.su)=false:=by simpa using c4
      have HS:Hid (bN p q=false):=ei (fun e=>c4 (by rw[e]))
      clear c0 c1 c2 c3 c4
      go_wp2_with fail
      go_ret
      exact⟨by rw[HS.out] <;> rfl,HG.out⟩
    ·have e3:(p.ct == q.ct)=false:=by simpa using c3
     have HS:Hid (bN p q=false):=ei (fun e=>c3 (by rw[e]))
     clear c0 c1 c2 c3
     go_wp2_with fail
     go_ret
     exact⟨by rw[HS.out] <;> rfl,HG.out⟩
   ·have e2:(p.wm == q.wm)=false:=by simpa using c2
    have HS:Hid (bN p q=false):=ei (fun e=>c2 (by rw[e]))
    clear c0 c1 c2
    go_wp2_with fail
    go_ret
    exact⟨by rw[HS.out] <;> rfl,HG.out⟩
  ·have e1:(p.vb == q.vb)=false:=by simpa using c1
   have HS:Hid (bN p q=false):=ei (fun e=>c1 (by rw[e]))
   clear c0 c1
   go_wp2_with fail
   go_ret
   exact⟨by rw[HS.out] <;> rfl,HG.out⟩
 ·have e0:(p.wn == q.wn)=false:=by simpa using c0
  have HS:Hid (bN p q=false):=ei (fun e=>c0 (by rw[e]))
  clear c0
  go_wp2_with fail
  go_ret
  exact⟨by rw[HS.out] <;> rfl,HG.out⟩
open Go.Shelf
def jT (R:List Rw) (k:Nat):Int:=if k=0 then 0 else (R.getD (k - 1) Rw.none).st
theorem sN (R:List Rw) (k:Nat):jT R (k+1)=(R.getD k Rw.none).st:=by
 unfold jT
 rw[if_neg (by omega)]
 rfl
def BsU (ts:List Th) (last:Int) (i:Nat) (best:Int):Prop:=(best=-1∧∀ (l:Nat) s,l<i→ts[l]?=some s→s.place=4→¬last<s.stamp)∨(∃ (b:Nat) (t:Th),best=(b:Int)∧b<i∧ts[b]?=some t∧t.place=4∧last<t.stamp∧∀ (l:Nat) s,l<i→ts[l]?=some s→s.place=4→last<s.stamp→t.stamp≤s.stamp)
theorem BsU.start (ts:List Th) (last:Int):BsU ts last 0 (-1):=Or.inl ⟨rfl,fun _ _ h=>absurd h (Nat.not_lt_zero _)⟩
theorem BsU.skip {ts:List Th} {last:Int} {i:Nat} {best:Int} {s:Th} (h:BsU ts last i best) (hs:ts[i]?=some s) (hn:¬(s.place=4∧last<s.stamp)):BsU ts last (i+1) best:=by
 rcases h with ⟨e,h⟩ | ⟨b,t,e,hb,ht,h4,hl,h⟩
 ·refine Or.inl ⟨e,fun l u hli hu p=>?_⟩
  by_cases q:l=i
  ·subst q
   rw[hs] at hu
   cases hu
   exact fun z=>hn ⟨p,z⟩
  ·exact h l u (by omega) hu p
 ·refine Or.inr ⟨b,t,e,by omega,ht,h4,hl,fun l u hli hu p z=>?_⟩
  by_cases q:l=i
  ·subst q
   rw[hs] at hu
   cases hu
   exact absurd ⟨p,z⟩ hn
  ·exact h l u (by omega) hu p z
theorem BsU.first {ts:List Th} {last:Int} {i:Nat} {s:Th} (h:BsU ts last i (-1)) (hs:ts[i]?=some s) (h4:s.place=4) (hl:last<s.stamp):BsU ts last (i+1) (i:Int):=by
 rcases h with ⟨-,h⟩ | ⟨b,t,e,_⟩
 ·refine Or.inr ⟨i,s,rfl,by omega,hs,h4,hl,fun l u hli hu p z=>?_⟩
  by_cases q:l=i
  ·subst q
   rw[hs] at hu
   cases hu
   exact Int.le_refl _
  ·exact absurd z (h l u (by omega) hu p)
 ·omega
theorem BsU.less {ts:List Th} {last:Int} {i b:Nat} {s t:Th} (h:BsU ts last i (b:Int)) (ht:ts[b]?=some t) (hs:ts[i]?=some s) (h4:s.place=4) (hl:last<s.stamp) (hlt:s.stamp<t.stamp):BsU ts last (i+1) (i:Int):=by
 rcases h with ⟨e,_⟩ | ⟨b',t',e,hb,ht',h4',hl',h⟩
 ·omega
 ·obtain rfl:b=b':=by omega
  rw[ht] at ht'
  cases ht'
  refine Or.inr ⟨i,s,rfl,by omega,hs,h4,hl,fun l u hli hu p z=>?_⟩
  by_cases q:l=i
  ·subst q
   rw[hs] at hu
   cases hu
   exact Int.le_refl _
  ·have:=h l u (by omega) hu p z
   omega
theorem BsU.more {ts:List Th} {last:Int} {i b:Nat} {s t:Th} (h:BsU ts last i (b:Int)) (ht:ts[b]?=some t) (hs:ts[i]?=some s) (hge:¬s.stamp<t.stamp):BsU ts last (i+1) (b:Int):=by
 rcases h with ⟨e,_⟩ | ⟨b',t',e,hb,ht',h4',hl',h⟩
 ·omega
 ·obtain rfl:b=b':=by omega
  have ht2:=ht'
  rw[ht] at ht'
  cases ht'
  refine Or.inr ⟨b,t,rfl,by omega,ht2,h4',hl',fun l u hli hu p z=>?_⟩
  by_cases q:l=i
  ·subst q
   rw[hs] at hu
   cases hu
   omega
  ·exact h l u (by omega) hu p z
theorem yy {n:Int} {cd:Int→Hd×List Pt} {ts:List Th} {fs:List Fe} {R:List Rw} (h:Tab n cd ts fs R) {l:Nat} {s:Th} (hs:ts[l]?=some s) (h4:s.place=4):∃ q,q<R.length∧(R.getD q Rw.none).st=s.stamp∧(R.getD q Rw.none).nu=(l:Int)+1:=by
 obtain⟨q,hq,e⟩:=List.getElem_of_mem (h.row_in hs h4)
 exact⟨q,hq,by rw[aC hq,e],by rw[aC hq,e]⟩
theorem oL {n:Int} {cd:Int→Hd×List Pt} {ts:List Th} {fs:List Fe} {R:List Rw} (h:Tab n cd ts fs R) {a b:Nat} (hb:b<R.length) (hab:a<b):(R.getD a Rw.none).st<(R.getD b Rw.none).st:=by
 rw[aC hb,aC (Nat.lt_trans hab hb)]
 exact List.pairwise_iff_getElem.1 h.up a b _ _ hab
theorem lV {n:Int} {cd:Int→Hd×List Pt} {ts:List Th} {fs:List Fe} {R:List Rw} (h:Tab n cd ts fs R) {k q:Nat} (hk:k≤R.length) (hq:q<R.length):jT R k<(R.getD q Rw.none).st↔k≤q:=by
 unfold jT
 by_cases h0:k=0
 ·rw[if_pos h0]
  have:=(h.thing hq).2.2.1
  exact⟨fun _=>by omega,fun _=>this⟩
 ·rw[if_neg h0]
  constructor
  ·intro z
   refine Nat.le_of_not_lt fun y=>?_
   by_cases e:q=k - 1
   ·rw[e] at z
    omega
   ·have:=oL h (a:=q) (b:=k - 1) (by omega) (by omega)
    omega
  ·intro z
   exact oL h hq (by omega)
theorem BsU.end {n:Int} {cd:Int→Hd×List Pt} {ts:List Th} {fs:List Fe} {R:List Rw} {best:Int} {k:Nat} (h:Tab n cd ts fs R) (hk:k≤R.length) (B:BsU ts (jT R k) ts.length best):(k=R.length∧best=-1)∨(k<R.length∧∃ (b:Nat) (t:Th),best=(b:Int)∧ts[b]?=some t∧t.stamp=(R.getD k Rw.none).st∧(R.getD k Rw.none).nu=(b:Int)+1):=by
 rcases B with ⟨e,B⟩ | ⟨b,t,e,hb,ht,h4,hl,B⟩
 ·refine Or.inl ⟨?_,e⟩
  refine Nat.le_antisymm hk (Nat.le_of_not_lt fun z=>?_)
  obtain⟨j,s,hs,s4,hn,hst⟩:=h.from (show R.getD k Rw.none∈R by rw[aC z];exact List.getElem_mem _)
  exact B j s (List.getElem?_eq_some_iff.1 hs).1 hs s4 (by rw[←hst];exact(lV h hk z).2 (Nat.le_refl _))
 ·obtain⟨q,hq,q1,q2⟩:=yy h ht h4
  have hkq:k≤q:=(lV h hk hq).1 (by rw[q1];exact hl)
  have hkl:k<R.length:=Nat.lt_of_le_of_lt hkq hq
  obtain⟨j,s,hs,s4,hn,hst⟩:=h.from (show R.getD k Rw.none∈R by rw[aC hkl];exact List.getElem_mem _)
  have hle:=B j s (List.getElem?_eq_some_iff.1 hs).1 hs s4 (by rw[←hst];exact(lV h hk hkl).2 (Nat.le_refl _))
  have hqk:q=k:=by
   refine Nat.le_antisymm (Nat.le_of_not_lt fun z=>?_) hkq
   have:=oL h hq z
   omega
  subst hqk
  exact Or.inr ⟨hkl,b,t,e,ht,q1.symm,q2⟩
def lenS:Value→Nat
 | .slice _ n _=>n
 | _=>0
theorem yX {R:List Rw} {k:Nat} (h:k<R.length):(R.take (k+1)).map Rw.nu=(R.take k).map Rw.nu++[(R.getD k Rw.none).nu]:=by
 rw[List.take_add_one,List.getElem?_eq_getElem h,aC h,Option.toList_some,List.map_append]
 rfl
def lF (R:List Rw) (k:Nat):List Int:=(R.take k).map Rw.nu
theorem qW {R:List Rw} {k:Nat} (h:k≤R.length):(lF R k).length=k:=by
 unfold lF
 rw[List.length_map,List.length_take,Nat.min_eq_left h]
theorem j9 {w:World} {g off n c:Nat} {X:List Th} (h:thR.At w (.slice (some ⟨g,off,none⟩) n c) X) {i:Nat} {x:Th} (hx:X[i]?=some x):w.rangeAt g (off+i*11) (thc x):=by
 obtain⟨hi,e⟩:=List.getElem?_eq_some_iff.1 hx
 obtain⟨g',off',cap,e1,r⟩:=dw h hi
 injection e1 with e1 _ _
 injection e1 with e1
 injection e1 with ea eb
 rw[ea,eb,←e]
 exact r
theorem m9 (vt:Value) (n:Int) (cd:Int→Hd×List Pt) (ts:List Th) (F:List Fe) (R:List Rw) (w:World) (A:thR.At w vt ts) (hT:Tab n cd ts F R) (hl:ts.length≤2048):Calls Tryz.prog 143 #[vt] w fun e w'=>∃ v,e=.returned v∧aQ w' w.heap.size v (R.map Rw.nu)∧w.grownBy w' none:=by
 obtain⟨i0,hi,hz0,hz1,hz2⟩:=info_parts Tryz.linfo3
 obtain⟨pt,ct,rfl⟩:=A.form
 have HA:Hid (thR.At w (.slice pt ts.length ct) ts∧Tab n cd ts F R∧ts.length≤2048):=⟨A,hT,hl⟩
 clear A hT hl
 go_enter Tryz.func143,Tryz.ntmps143
 go_wp2_with fail
 go_loopw [3,4,5,6] (fun v y _ _ wr=>∃ (k:Nat) (p:Option Addr) (c:Nat),k≤R.length∧v=.slice p k c∧y=.int .i64 (jT R k)∧Hid (aQ wr w.heap.size (.slice p k c) (lF R k)∧w.grownBy wr none)) (fun v _ _ _ _=>R.length - lenS v)
 case atStart=>exact⟨0,none,0,Nat.zero_le _,rfl,rfl,⟨rfl,Or.inl ⟨rfl,rfl⟩⟩,ay _ _⟩
 case round =>
  obtain⟨k,p,c,hk',rfl,rfl,HK⟩:=hrel
  obtain⟨U,hU⟩:∃ U,U=wr:=⟨_,rfl⟩
  subst hU
  have Hk:Hid (k≤R.length):=hk'
  obtain⟨la,hla⟩:∃ la,la=jT R k:=⟨_,rfl⟩
  have Hla:Hid (la=jT R k):=hla
  rw[←hla]
  clear hk' hla
  go_upto_block 2 with fail
  go_cut [5,6] from 7 to 45 (fun y _ wc=>∃ best:Int,y=.int .i64 best∧BsU ts la ts.length best∧U.grownBy wc none)
  case first =>
   go_wp2_with fail
   go_loopw [5,6] (fun y z wr=>∃ (i:Nat) (best:Int),i≤ts.length∧z=.int .i64 (i:Int)∧y=.int .i64 best∧Hid (BsU ts la i best∧U.grownBy wr none)) (fun _ z _=>ts.length - (intOf z).toNat)
   case atStart=>exact⟨0,-1,Nat.zero_le _,rfl,rfl,BsU.start _ _,ay _ _⟩
   case round =>
    obtain⟨i,best,hi',rfl,rfl,HB⟩:=hrel
    obtain⟨Q,hQ⟩:∃ Q,Q=wr:=⟨_,rfl⟩
    subst hQ
    by_cases hi2:i<ts.length
    ·have i1:(i:Int)<(ts.length:Int):=Int.ofNat_lt.2 hi2
     have hwk:=aW (k:=i) (Nat.le_trans (Nat.le_of_lt hi2) (Nat.le_trans HA.out.2.2 (by decide)))
     have HM:Hid (ts.length - (intOf (.int .i64 ((i:Int)+1))).toNat<ts.length - (intOf (.int .i64 (i:Int))).toNat):=bQ hi2
     obtain⟨gT,oT,cT,eT,-⟩:=dw HA.out.1 hi2
     injection eT with eT eT2 eT3
     clear eT2 eT3
     subst eT
     obtain⟨s,hs⟩:∃ s,ts[i]?=some s:=⟨_,List.getElem?_eq_getElem hi2⟩
     have gQ:=aa HK.out.2 HB.out.2
     obtain⟨-,-,s2,s3,-⟩:=dh (j9 (HA.out.1.keep gQ) hs)
     have Hs:Hid (ts[i]?=some s∧i<ts.length):=⟨hs,hi2⟩
     clear hi' hi2 hs
     by_cases h4:s.place=4
     ·have e1:(s.place == 4)=true:=by rw[h4];rfl
      by_cases h5:la<s.stamp
      ·have e2:decide (la<s.stamp)=true:=decide_eq_true h5
       rcases id HB.out.1 with ⟨eb,-⟩ | ⟨b,t,eb,hbi,ht,-⟩
       ·subst eb
        have HN:Hid (BsU ts la (i+1) (i:Int)):=HB.out.1.first Hs.out.1 h4 h5
        rw[h4] at s2
        clear h4 h5
        go_upto_region 7 with fail
        go_quiet (fail)
        clear s2 s3 e1 e2
        go_wp2_with fail
        go_roundw
        case rel=>exact⟨i+1,(i:Int),Hs.out.2,by first | rfl | (rw[hwk];rfl) | go_num,rfl,HN.out,aa HB.out.2 (aD _ _ _)⟩
        case measure=>first | exact HM.out | (rw[hwk];exact HM.out)
       ·subst eb
        obtain⟨-,-,-,t3,-⟩:=dh (j9 (HA.out.1.keep gQ) ht)
        have b0:¬((b:Int)<0):=by omega
        have b1:(b:Int)<(ts.length:Int):=by have:=Hs.out.2;omega
        have b2:(0:Int)≤(b:Int):=by omega
        by_cases h6:s.stamp<t.stamp
        ·have e3:decide (s.stamp<t.stamp)=true:=decide_eq_true h6
         have HN:Hid (BsU ts la (i+1) (i:Int)):=HB.out.1.less ht Hs.out.1 h4 h5 h6
         rw[h4] at s2
         clear h4 h5 h6 hbi ht
         go_upto_region 7 with fail
         go_quiet (fail)
         clear s2 s3 t3 e1 e2 e3
         go_wp2_with fail
         go_roundw
         case rel=>exact⟨i+1,(i:Int),Hs.out.2,by first | rfl | (rw[hwk];rfl) | go_num,rfl,HN.out,aa HB.out.2 (aD _ _ _)⟩
         case measure=>first | exact HM.out | (rw[hwk];exact HM.out)
        ·have e3:decide (s.stamp<t.stamp)=false:=decide_eq_false h6
         have HN:Hid (BsU ts la (i+1) (b:Int)):=HB.out.1.more ht Hs.out.1 h6
         rw[h4] at s2
         clear h4 h5 h6 hbi ht
         go_upto_region 7 with fail
         go_quiet (fail)
         clear s2 s3 t3 e1 e2 e3
         go_wp2_with fail
         go_roundw
         case rel=>exact⟨i+1,(b:Int),Hs.out.2,by first | rfl | (rw[hwk];rfl) | go_num,rfl,HN.out,aa HB.out.2 (aD _ _ _)⟩
         case measure=>first | exact HM.out | (rw[hwk];exact HM.out)
      ·have e2:decide (la<s.stamp)=false:=decide_eq_false h5
       have HN:Hid (BsU ts la (i+1) best):=HB.out.1.skip Hs.out.1 (fun q=>h5 q.2)
       rw[h4] at s2
       clear h4 h5
       go_upto_region 7 with fail
       go_quiet (fail)
       clear s2 s3 e1 e2
       go_wp2_with fail
       go_roundw
       case rel=>exact⟨i+1,best,Hs.out.2,by first | rfl | (rw[hwk];rfl) | go_num,rfl,HN.out,aa HB.out.2 (aD _ _ _)⟩
       case measure=>first | exact HM.out | (rw[hwk];exact HM.out)
     ·have e1:(s.place == 4)=false:=by simpa using h4
      have HN:Hid (BsU ts la (i+1) best):=HB.out.1.skip Hs.out.1 (fun q=>h4 q.1)
      clear h4
      go_upto_region 7 with fail
      go_quiet (fail)
      clear s2 s3 e1
      go_wp2_with fail
      go_roundw
      case rel=>exact⟨i+1,best,Hs.out.2,by first | rfl | (rw[hwk];rfl) | go_num,rfl,HN.out,aa HB.out.2 (aD _ _ _)⟩
      case measure=>first | exact HM.out | (rw[hwk];exact HM.out)
    ·obtain rfl:i=ts.length:=Nat.le_antisymm hi' (Nat.le_of_not_lt hi2)
     have i1:¬(ts.length:Int)<(ts.length:Int):=Int.lt_irrefl _
     have HE:Hid (BsU ts la ts.length best∧U.grownBy Q none):=HB.out
     clear hi' hi2 HB
     go_wp2_with fail
     go_meet
     case rel=>exact⟨best,rfl,HE.out.1,HE.out.2⟩
  case rest =>
   obtain⟨best,rfl,hB,hG⟩:=hcut
   obtain⟨X,hX⟩:∃ X,X=wc:=⟨_,rfl⟩
   subst hX
   have HX:Hid (aQ X w.heap.size (.slice p k c) (lF R k)∧w.grownBy X none):=⟨ar HK.out.1 hG,aa HK.out.2 hG⟩
   rw[Hla.out] at hB
   have he:=BsU.end HA.out.2.1 Hk.out hB
   clear hB hG HK
   rcases he with ⟨ek,rfl⟩ | ⟨hkl,b,t,rfl,ht,hst,hnu⟩
   ·have HF:Hid (aQ X w.heap.size (.slice p k c) (R.map Rw.nu)∧w.grownBy X none):=⟨by have h9:=HX.out.1;unfold lF at h9;rw[ek,List.take_length] at h9;rw[ek];exact h9,HX.out.2⟩
    clear ek HX
    go_wp2_with fail
    go_ret
    exact⟨_,rfl,HF.out.1,HF.out.2⟩
   ·have hbl:b<ts.length:=(List.getElem?_eq_some_iff.1 ht).1
    have b0:¬((b:Int)<0):=by omega
    have b1:(b:Int)<(ts.length:Int):=by omega
    have b2:(0:Int)≤(b:Int):=by omega
    have hwb:=aW (k:=b) (Nat.le_trans (Nat.le_of_lt hbl) (Nat.le_trans HA.out.2.2 (by decide)))
    obtain⟨gT,oT,cT,eT,-⟩:=dw HA.out.1 hbl
    injection eT with eT eT2 eT3
    clear eT2 eT3
    subst eT
    have HY:Hid (k<R.length∧ts[b]?=some t∧t.stamp=jT R (k+1)∧lF R (k+1)=lF R k++[(b:Int)+1]∧R.length≤16):=⟨hkl,ht,by rw[sN];exact hst,by unfold lF;rw[yX hkl,hnu],HA.out.2.1.few⟩
    have HO:Hid (X.ownsRow w.heap.size 3 1 (.slice p k c) k (ints (lF R k))):=by
     have h9:=HX.out.1
     unfold aQ at h9
     rw[qW Hk.out] at h9
     exact h9
    have HLn:Hid (k+1≤maxLen∧(k+1)*8≤140737488355328∧w.heap.size≤(X.alloc (.cells #[.int .i64 ((b:Int)+1)] 3)).heap.size):=⟨by have:=HY.out.2.2.2.2;have:=HY.out.1;unfold maxLen;omega,by have:=HY.out.2.2.2.2;have:=HY.out.1;omega,Nat.le_trans HX.out.2.size (World.grownBy_alloc X (.cells #[.int .i64 ((b:Int)+1)] 3) none).size⟩
    have HSr:Hid (Src (X.alloc (.cells #[.int .i64 ((b:Int)+1)] 3)) (.slice (some ⟨X.heap.size,0,none⟩) 1 1) 1 1 (ints [(b:Int)+1])):=⟨_,_,rfl,rfl,fun _=>⟨_,rfl,lM X _⟩⟩
    clear hkl ht hst hnu hbl
    go_upto_region 12 with (at_builtin;refine aX (by rfl) (.tmp 49) (.tmp 52) 143 rfl w.heap.size 3 i0 _ 1 8 Tryz.underlying143 hi hz0 hz1 hz2 rfl (by decide) _ k (ints (lF R k)) rfl (World.ownsRow.alloc HO.out _) _ 1 (ints [(b:Int)+1]) rfl HSr.out (kL _) HLn.out.1 HLn.out.2.1 HLn.out.2.2 ?_;intro v9 w9 o9 g9 _;obtain⟨pv,kv,rfl,-⟩:=bz o9;have HO9:Hid _:=o9;have HG9:Hid _:=g9;clear o9 g9)
    have HZ:Hid (aQ w9 w.heap.size (.slice pv (k+1) kv) (lF R (k+1))∧w.grownBy w9 none):=by
     refine⟨?_,az (aa HX.out.2 (World.grownBy_alloc X (.cells #[.int .i64 ((b:Int)+1)] 3) none)) HG9.out (fun y e=>(World.ownsRow.lt (World.ownsRow.alloc HO.out (.cells #[.int .i64 ((b:Int)+1)] 3)) y e).1)⟩
     rw[HY.out.2.2.2.1]
     exact ky HO9.out (qW Hk.out).symm
    obtain⟨-,-,-,t3,-⟩:=dh (j9 (HA.out.1.keep HZ.out.2) HY.out.2.1)
    clear HO9 HG9 HO HX HSr HLn
    go_wp2_with fail
    go_roundw
    case rel=>exact⟨k+1,pv,kv,HY.out.1,rfl,by rw[HY.out.2.2.1],HZ.out.1,HZ.out.2⟩
    case measure=>show R.length - (k+1)<R.length - k;have:=HY.out.1;omega
end Go.Proofs.YtjmepebbcnhalaaGreat
