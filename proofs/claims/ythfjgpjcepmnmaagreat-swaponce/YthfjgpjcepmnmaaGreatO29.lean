import Derived.Test.YthfjgpjcepmnmaaGreatO11
import Derived.Test.YthfjgpjcepmnmaaGreatO3
import Derived.Test.YthfjgpjcepmnmaaGreatO14
import Derived.Test.YthfjgpjcepmnmaaGreatO27
import Derived.BigQuiet
import Derived.Test.YthfjgpjcepmnmaaGreatRyA
import Derived.Test.YthfjgpjcepmnmaaGreatO26
import Derived.Test.YthfjgpjcepmnmaaGreatLyK
namespace Go.Proofs.YthfjgpjcepmnmaaGreat
set_option maxHeartbeats 1000000
open Go.RowKit
theorem kE (k:Int) (w:World):Calls Tryz.prog 149 #[.int .u8 k] w fun e w'=>e=.returned (.int .u16 (my k))∧w'=w:=by
 rcases mZ k with h | h
 ·rcases h with rfl | rfl | rfl | rfl | rfl | rfl | rfl | rfl
  all_goals
   go_enter Tryz.func149,Tryz.ntmps149
   go_wp2
   go_ret
   exact⟨rfl,rfl⟩
 ·rw[qJ h]
  rcases h with h | h
  ·have e1:decide (k<1)=true:=decide_eq_true h
   clear h
   go_enter Tryz.func149,Tryz.ntmps149
   go_wp2
   go_ret
   exact⟨rfl,rfl⟩
  ·have e1:decide (k<1)=false:=decide_eq_false (by omega)
   have e2:decide (8<k)=true:=decide_eq_true h
   clear h
   go_enter Tryz.func149,Tryz.ntmps149
   go_wp2
   go_ret
   exact⟨rfl,rfl⟩
theorem oj (s k:Int) (w:World):Calls Tryz.prog 77 #[.int .u16 s,.int .u8 k] w fun e w'=>e=.returned (.bool (iC s k))∧w'=w:=by
 go_enter Tryz.func77,Tryz.ntmps77
 go_wp2_with fail
 refine(kE _ _).mono ?_
 rintro e w1 ⟨rfl,rfl⟩
 go_wp2
 go_ret
 exact⟨rfl,rfl⟩
theorem uq (s k:Int) (w:World):Calls Tryz.prog 242 #[.int .u16 s,.int .u8 k] w fun e w'=>e=.returned (.int .u16 (nV s k))∧w'=w:=by
 go_enter Tryz.func242,Tryz.ntmps242
 go_wp2_with fail
 refine(kE _ _).mono ?_
 rintro e w1 ⟨rfl,rfl⟩
 go_wp2
 go_ret
 exact⟨rfl,rfl⟩
theorem nw (s k:Int) (w:World):Calls Tryz.prog 243 #[.int .u16 s,.int .u8 k] w fun e w'=>e=.returned (.int .u16 (gZ s k))∧w'=w:=by
 go_enter Tryz.func243,Tryz.ntmps243
 go_wp2_with fail
 refine(kE _ _).mono ?_
 rintro e w1 ⟨rfl,rfl⟩
 go_wp2
 go_ret
 exact⟨rfl,rfl⟩
theorem rX (v:Int) (w:World):Calls Tryz.prog 164 #[.int .u8 v] w fun e w'=>e=.returned (.int .i64 (lay v))∧w'=w:=by
 by_cases h:10≤v∧v≤15
 ·have:v=10∨v=11∨v=12∨v=13∨v=14∨v=15:=by omega
  rcases this with rfl | rfl | rfl | rfl | rfl | rfl
  all_goals
   go_enter Tryz.func164,Tryz.ntmps164
   go_wp2
   go_ret
   exact⟨rfl,rfl⟩
 ·rw[AK h]
  have e1:(v == 10)=false:=by simp;omega
  have e2:(v == 11)=false:=by simp;omega
  have e3:(v == 12)=false:=by simp;omega
  have e4:(v == 13)=false:=by simp;omega
  have e5:(v == 14)=false:=by simp;omega
  have e6:(v == 15)=false:=by simp;omega
  clear h
  go_enter Tryz.func164,Tryz.ntmps164
  go_wp2
  go_ret
  exact⟨rfl,rfl⟩
set_option maxRecDepth 100000
set_option maxHeartbeats 4000000
open Go.Shelf
def jD (R:List Rw) (k:Nat):Int:=if k=0 then 0 else (R.getD (k - 1) Rw.none).st
theorem uZ (R:List Rw) (k:Nat):jD R (k+1)=(R.getD k Rw.none).st:=by
 unfold jD
 rw[if_neg (by omega)]
 rfl
def BsU (ts:List Th) (last:Int) (i:Nat) (best:Int):Prop:=(best=-1∧∀ (l:Nat) s,l<i→ts[l]?=some s→s.place=4→¬last<s.stamp)∨(∃ (b:Nat) (t:Th),best=(b:Int)∧b<i∧ts[b]?=some t∧t.place=4∧last<t.stamp∧∀ (l:Nat) s,l<i→ts[l]?=some s→s.place=4→last<s.stamp→t.stamp≤s.stamp)
theorem BsU.start (ts:List Th) (last:Int):BsU ts last 0 (-1):=Or.inl ⟨rfl,fun _ _ h=>absurd h (Nat.not_lt_zero _)⟩
theorem BsU.skip {ts:List Th} {last:Int} {i:Nat} {best:Int} {s:Th} (h:BsU ts last i best) (hs:ts[i]?=some s) (hn:¬(s.place=4∧last<s.stamp)):BsU ts last (i+1) best:=by
 rcases h with ⟨e,h⟩ | ⟨b,t,e,hb,ht,h4,hl,h⟩
 ·refine Or.inl ⟨e,fun l u hli hu p=>?_⟩
  by_cases q:l=i
  ·subst q
   rw[hs] at hu
   cases hu
   exact fun z=>hn ⟨p,z⟩
  ·exact h l u (by omega) hu p
 ·refine Or.inr ⟨b,t,e,by omega,ht,h4,hl,fun l u hli hu p z=>?_⟩
  by_cases q:l=i
  ·subst q
   rw[hs] at hu
   cases hu
   exact absurd ⟨p,z⟩ hn
  ·exact h l u (by omega) hu p z
theorem BsU.first {ts:List Th} {last:Int} {i:Nat} {s:Th} (h:BsU ts last i (-1)) (hs:ts[i]?=some s) (h4:s.place=4) (hl:last<s.stamp):BsU ts last (i+1) (i:Int):=by
 rcases h with ⟨-,h⟩ | ⟨b,t,e,_⟩
 ·refine Or.inr ⟨i,s,rfl,by omega,hs,h4,hl,fun l u hli hu p z=>?_⟩
  by_cases q:l=i
  ·subst q
   rw[hs] at hu
   cases hu
   exact Int.le_refl _
  ·exact absurd z (h l u (by omega) hu p)
 ·omega
theorem BsU.less {ts:List Th} {last:Int} {i b:Nat} {s t:Th} (h:BsU ts last i (b:Int)) (ht:ts[b]?=some t) (hs:ts[i]?=some s) (h4:s.place=4) (hl:last<s.stamp) (hlt:s.stamp<t.stamp):BsU ts last (i+1) (i:Int):=by
 rcases h with ⟨e,_⟩ | ⟨b',t',e,hb,ht',h4',hl',h⟩
 ·omega
 ·obtain rfl:b=b':=by omega
  rw[ht] at ht'
  cases ht'
  refine Or.inr ⟨i,s,rfl,by omega,hs,h4,hl,fun l u hli hu p z=>?_⟩
  by_cases q:l=i
  ·subst q
   rw[hs] at hu
   cases hu
   exact Int.le_refl _
  ·have:=h l u (by omega) hu p z
   omega
theorem BsU.more {ts:List Th} {last:Int} {i b:Nat} {s t:Th} (h:BsU ts last i (b:Int)) (ht:ts[b]?=some t) (hs:ts[i]?=some s) (hge:¬s.stamp<t.stamp):BsU ts last (i+1) (b:Int):=by
 rcases h with ⟨e,_⟩ | ⟨b',t',e,hb,ht',h4',hl',h⟩
 ·omega
 ·obtain rfl:b=b':=by omega
  have ht2:=ht'
  rw[ht] at ht'
  cases ht'
  refine Or.inr ⟨b,t,rfl,by omega,ht2,h4',hl',fun l u hli hu p z=>?_⟩
  by_cases q:l=i
  ·subst q
   rw[hs] at hu
   cases hu
   omega
  ·exact h l u (by omega) hu p z
theorem EV {n:Int} {cd:Int→Hd×List Pt} {ts:List Th} {fs:List Fe} {R:List Rw} (h:Tab n cd ts fs R) {l:Nat} {s:Th} (hs:ts[l]?=some s) (h4:s.place=4):∃ q,q<R.length∧(R.getD q Rw.none).st=s.stamp∧(R.getD q Rw.none).nu=(l:Int)+1:=by
 obtain⟨q,hq,e⟩:=List.getElem_of_mem (h.row_in hs h4)
 exact⟨q,hq,by rw[aw hq,e],by rw[aw hq,e]⟩
theorem qG {n:Int} {cd:Int→Hd×List Pt} {ts:List Th} {fs:List Fe} {R:List Rw} (h:Tab n cd ts fs R) {a b:Nat} (hb:b<R.length) (hab:a<b):(R.getD a Rw.none).st<(R.getD b Rw.none).st:=by
 rw[aw hb,aw (Nat.lt_trans hab hb)]
 exact List.pairwise_iff_getElem.1 h.up a b _ _ hab
theorem lN {n:Int} {cd:Int→Hd×List Pt} {ts:List Th} {fs:List Fe} {R:List Rw} (h:Tab n cd ts fs R) {k q:Nat} (hk:k≤R.length) (hq:q<R.length):jD R k<(R.getD q Rw.none).st↔k≤q:=by
 unfold jD
 by_cases h0:k=0
 ·rw[if_pos h0]
  have:=(h.thing hq).2.2.1
  exact⟨fun _=>by omega,fun _=>this⟩
 ·rw[if_neg h0]
  constructor
  ·intro z
   refine Nat.le_of_not_lt fun y=>?_
   by_cases e:q=k - 1
   ·rw[e] at z
    omega
   ·have:=qG h (a:=q) (b:=k - 1) (by omega) (by omega)
    omega
  ·intro z
   exact qG h hq (by omega)
theorem BsU.end {n:Int} {cd:Int→Hd×List Pt} {ts:List Th} {fs:List Fe} {R:List Rw} {best:Int} {k:Nat} (h:Tab n cd ts fs R) (hk:k≤R.length) (B:BsU ts (jD R k) ts.length best):(k=R.length∧best=-1)∨(k<R.length∧∃ (b:Nat) (t:Th),best=(b:Int)∧ts[b]?=some t∧t.stamp=(R.getD k Rw.none).st∧(R.getD k Rw.none).nu=(b:Int)+1):=by
 rcases B with ⟨e,B⟩ | ⟨b,t,e,hb,ht,h4,hl,B⟩
 ·refine Or.inl ⟨?_,e⟩
  refine Nat.le_antisymm hk (Nat.le_of_not_lt fun z=>?_)
  obtain⟨j,s,hs,s4,hn,hst⟩:=h.from (show R.getD k Rw.none∈R by rw[aw z];exact List.getElem_mem _)
  exact B j s (List.getElem?_eq_some_iff.1 hs).1 hs s4 (by rw[←hst];exact(lN h hk z).2 (Nat.le_refl _))
 ·obtain⟨q,hq,q1,q2⟩:=EV h ht h4
  have hkq:k≤q:=(lN h hk hq).1 (by rw[q1];exact hl)
  have hkl:k<R.length:=Nat.lt_of_le_of_lt hkq hq
  obtain⟨j,s,hs,s4,hn,hst⟩:=h.from (show R.getD k Rw.none∈R by rw[aw hkl];exact List.getElem_mem _)
  have hle:=B j s (List.getElem?_eq_some_iff.1 hs).1 hs s4 (by rw[←hst];exact(lN h hk hkl).2 (Nat.le_refl _))
  have hqk:q=k:=by
   refine Nat.le_antisymm (Nat.le_of_not_lt fun z=>?_) hkq
   have:=qG h hq z
   omega
  subst hqk
  exact Or.inr ⟨hkl,b,t,e,ht,q1.symm,q2⟩
def lenS:Value→Nat
 | .slice _ n _=>n
 | _=>0
theorem A8 {R:List Rw} {k:Nat} (h:k<R.length):(R.take (k+1)).map Rw.nu=(R.take k).map Rw.nu++[(R.getD k Rw.none).nu]:=by
 rw[List.take_add_one,List.getElem?_eq_getElem h,aw h,Option.toList_some,List.map_append]
 rfl
def mO (R:List Rw) (k:Nat):List Int:=(R.take k).map Rw.nu
theorem rp {R:List Rw} {k:Nat} (h:k≤R.length):(mO R k).length=k:=by
 unfold mO
 rw[List.length_map,List.length_take,Nat.min_eq_left h]
theorem j8 {w:World} {g off n c:Nat} {X:List Th} (h:thR.At w (.slice (some ⟨g,off,none⟩) n c) X) {i:Nat} {x:Th} (hx:X[i]?=some x):w.rangeAt g (off+i*11) (thc x):=by
 obtain⟨hi,e⟩:=List.getElem?_eq_some_iff.1 hx
 obtain⟨g',off',cap,e1,r⟩:=bG h hi
 injection e1 with e1 _ _
 injection e1 with e1
 injection e1 with ea eb
 rw[ea,eb,←e]
 exact r
theorem lP (vt:Value) (n:Int) (cd:Int→Hd×List Pt) (ts:List Th) (F:List Fe) (R:List Rw) (w:World) (A:thR.At w vt ts) (hT:Tab n cd ts F R) (hl:ts.length≤2048):Calls Tryz.prog 168 #[vt] w fun e w'=>∃ v,e=.returned v∧aU w' w.heap.size v (R.map Rw.nu)∧w.grownBy w' none:=by
 obtain⟨i0,hi,hz0,hz1,hz2⟩:=info_parts Tryz.linfo3
 obtain⟨pt,ct,rfl⟩:=A.form
 have HA:Hid (thR.At w (.slice pt ts.length ct) ts∧Tab n cd ts F R∧ts.length≤2048):=⟨A,hT,hl⟩
 clear A hT hl
 go_enter Tryz.func168,Tryz.ntmps168
 go_wp2_with fail
 go_loopw [3,4,5,6] (fun v y _ _ wr=>∃ (k:Nat) (p:Option Addr) (c:Nat),k≤R.length∧v=.slice p k c∧y=.int .i64 (jD R k)∧Hid (aU wr w.heap.size (.slice p k c) (mO R k)∧w.grownBy wr none)) (fun v _ _ _ _=>R.length - lenS v)
 case atStart=>exact⟨0,none,0,Nat.zero_le _,rfl,rfl,⟨rfl,Or.inl ⟨rfl,rfl⟩⟩,aq _ _⟩
 case round =>
  obtain⟨k,p,c,hk',rfl,rfl,HK⟩:=hrel
  obtain⟨U,hU⟩:∃ U,U=wr:=⟨_,rfl⟩
  subst hU
  have Hk:Hid (k≤R.length):=hk'
  obtain⟨la,hla⟩:∃ la,la=jD R k:=⟨_,rfl⟩
  have Hla:Hid (la=jD R k):=hla
  rw[←hla]
  clear hk' hla
  go_upto_block 2 with fail
  go_cut [5,6] from 7 to 45 (fun y _ wc=>∃ best:Int,y=.int .i64 best∧BsU ts la ts.length best∧U.grownBy wc none)
  case first =>
   go_wp2_with fail
   go_loopw [5,6] (fun y z wr=>∃ (i:Nat) (best:Int),i≤ts.length∧z=.int .i64 (i:Int)∧y=.int .i64 best∧Hid (BsU ts la i best∧U.grownBy wr none)) (fun _ z _=>ts.length - (intOf z).toNat)
   case atStart=>exact⟨0,-1,Nat.zero_le _,rfl,rfl,BsU.start _ _,aq _ _⟩
   case round =>
    obtain⟨i,best,hi',rfl,rfl,HB⟩:=hrel
    obtain⟨Q,hQ⟩:∃ Q,Q=wr:=⟨_,rfl⟩
    subst hQ
    by_cases hi2:i<ts.length
    ·have i1:(i:Int)<(ts.length:Int):=Int.ofNat_lt.2 hi2
     have hwk:=aK (k:=i) (Nat.le_trans (Nat.le_of_lt hi2) (Nat.le_trans HA.out.2.2 (by decide)))
     have HM:Hid (ts.length - (intOf (.int .i64 ((i:Int)+1))).toNat<ts.length - (intOf (.int .i64 (i:Int))).toNat):=bF hi2
     obtain⟨gT,oT,cT,eT,-⟩:=bG HA.out.1 hi2
     injection eT with eT eT2 eT3
     clear eT2 eT3
     subst eT
     obtain⟨s,hs⟩:∃ s,ts[i]?=some s:=⟨_,List.getElem?_eq_getElem hi2⟩
     have gQ:=aa HK.out.2 HB.out.2
     obtain⟨-,-,s2,s3,-⟩:=bc (j8 (HA.out.1.keep gQ) hs)
     have Hs:Hid (ts[i]?=some s∧i<ts.length):=⟨hs,hi2⟩
     clear hi' hi2 hs
     by_cases h4:s.place=4
     ·have e1:(s.place == 4)=true:=by rw[h4];rfl
      by_cases h5:la<s.stamp
      ·have e2:decide (la<s.stamp)=true:=decide_eq_true h5
       rcases id HB.out.1 with ⟨eb,-⟩ | ⟨b,t,eb,hbi,ht,-⟩
       ·subst eb
        have HN:Hid (BsU ts la (i+1) (i:Int)):=HB.out.1.first Hs.out.1 h4 h5
        rw[h4] at s2
        clear h4 h5
        go_upto_region 7 with fail
        go_quiet (fail)
        clear s2 s3 e1 e2
        go_wp2_with fail
        go_roundw
        case rel=>exact⟨i+1,(i:Int),Hs.out.2,by first | rfl | (rw[hwk];rfl) | go_num,rfl,HN.out,aa HB.out.2 (ax _ _ _)⟩
        case measure=>first | exact HM.out | (rw[hwk];exact HM.out)
       ·subst eb
        obtain⟨-,-,-,t3,-⟩:=bc (j8 (HA.out.1.keep gQ) ht)
        have b0:¬((b:Int)<0):=by omega
        have b1:(b:Int)<(ts.length:Int):=by have:=Hs.out.2;omega
        have b2:(0:Int)≤(b:Int):=by omega
        by_cases h6:s.stamp<t.stamp
        ·have e3:decide (s.stamp<t.stamp)=true:=decide_eq_true h6
         have HN:Hid (BsU ts la (i+1) (i:Int)):=HB.out.1.less ht Hs.out.1 h4 h5 h6
         rw[h4] at s2
         clear h4 h5 h6 hbi ht
         go_upto_region 7 with fail
         go_quiet (fail)
         clear s2 s3 t3 e1 e2 e3
         go_wp2_with fail
         go_roundw
         case rel=>exact⟨i+1,(i:Int),Hs.out.2,by first | rfl | (rw[hwk];rfl) | go_num,rfl,HN.out,aa HB.out.2 (ax _ _ _)⟩
         case measure=>first | exact HM.out | (rw[hwk];exact HM.out)
        ·have e3:decide (s.stamp<t.stamp)=false:=decide_eq_false h6
         have HN:Hid (BsU ts la (i+1) (b:Int)):=HB.out.1.more ht Hs.out.1 h6
         rw[h4] at s2
         clear h4 h5 h6 hbi ht
         go_upto_region 7 with fail
         go_quiet (fail)
         clear s2 s3 t3 e1 e2 e3
         go_wp2_with fail
         go_roundw
         case rel=>exact⟨i+1,(b:Int),Hs.out.2,by first | rfl | (rw[hwk];rfl) | go_num,rfl,HN.out,aa HB.out.2 (ax _ _ _)⟩
         case measure=>first | exact HM.out | (rw[hwk];exact HM.out)
      ·have e2:decide (la<s.stamp)=false:=decide_eq_false h5
       have HN:Hid (BsU ts la (i+1) best):=HB.out.1.skip Hs.out.1 (fun q=>h5 q.2)
       rw[h4] at s2
       clear h4 h5
       go_upto_region 7 with fail
       go_quiet (fail)
       clear s2 s3 e1 e2
       go_wp2_with fail
       go_roundw
       case rel=>exact⟨i+1,best,Hs.out.2,by first | rfl | (rw[hwk];rfl) | go_num,rfl,HN.out,aa HB.out.2 (ax _ _ _)⟩
       case measure=>first | exact HM.out | (rw[hwk];exact HM.out)
     ·have e1:(s.place == 4)=false:=by simpa using h4
      have HN:Hid (BsU ts la (i+1) best):=HB.out.1.skip Hs.out.1 (fun q=>h4 q.1)
      clear h4
      go_upto_region 7 with fail
      go_quiet (fail)
      clear s2 s3 e1
      go_wp2_with fail
      go_roundw
      case rel=>exact⟨i+1,best,Hs.out.2,by first | rfl | (rw[hwk];rfl) | go_num,rfl,HN.out,aa HB.out.2 (ax _ _ _)⟩
      case measure=>first | exact HM.out | (rw[hwk];exact HM.out)
    ·obtain rfl:i=ts.length:=Nat.le_antisymm hi' (Nat.le_of_not_lt hi2)
     have i1:¬(ts.length:Int)<(ts.length:Int):=Int.lt_irrefl _
     have HE:Hid (BsU ts la ts.length best∧U.grownBy Q none):=HB.out
     clear hi' hi2 HB
     go_wp2_with fail
     go_meet
     case rel=>exact⟨best,rfl,HE.out.1,HE.out.2⟩
  case rest =>
   obtain⟨best,rfl,hB,hG⟩:=hcut
   obtain⟨X,hX⟩:∃ X,X=wc:=⟨_,rfl⟩
   subst hX
   have HX:Hid (aU X w.heap.size (.slice p k c) (mO R k)∧w.grownBy X none):=⟨aA HK.out.1 hG,aa HK.out.2 hG⟩
   rw[Hla.out] at hB
   have he:=BsU.end HA.out.2.1 Hk.out hB
   clear hB hG HK
   rcases he with ⟨ek,rfl⟩ | ⟨hkl,b,t,rfl,ht,hst,hnu⟩
   ·have HF:Hid (aU X w.heap.size (.slice p k c) (R.map Rw.nu)∧w.grownBy X none):=⟨by have h9:=HX.out.1;unfold mO at h9;rw[ek,List.take_length] at h9;rw[ek];exact h9,HX.out.2⟩
    clear ek HX
    go_wp2_with fail
    go_ret
    exact⟨_,rfl,HF.out.1,HF.out.2⟩
   ·have hbl:b<ts.length:=(List.getElem?_eq_some_iff.1 ht).1
    have b0:¬((b:Int)<0):=by omega
    have b1:(b:Int)<(ts.length:Int):=by omega
    have b2:(0:Int)≤(b:Int):=by omega
    have hwb:=aK (k:=b) (Nat.le_trans (Nat.le_of_lt hbl) (Nat.le_trans HA.out.2.2 (by decide)))
    obtain⟨gT,oT,cT,eT,-⟩:=bG HA.out.1 hbl
    injection eT with eT eT2 eT3
    clear eT2 eT3
    subst eT
    have HY:Hid (k<R.length∧ts[b]?=some t∧t.stamp=jD R (k+1)∧mO R (k+1)=mO R k++[(b:Int)+1]∧R.length≤16):=⟨hkl,ht,by rw[uZ];exact hst,by unfold mO;rw[A8 hkl,hnu],HA.out.2.1.few⟩
    have HO:Hid (X.ownsRow w.heap.size 3 1 (.slice p k c) k (cD (mO R k))):=by
     have h9:=HX.out.1
     unfold aU at h9
     rw[rp Hk.out] at h9
     exact h9
    have HLn:Hid (k+1≤maxLen∧(k+1)*8≤140737488355328∧w.heap.size≤(X.alloc (.cells #[.int .i64 ((b:Int)+1)] 3)).heap.size):=⟨by have:=HY.out.2.2.2.2;have:=HY.out.1;unfold maxLen;omega,by have:=HY.out.2.2.2.2;have:=HY.out.1;omega,Nat.le_trans HX.out.2.size (World.grownBy_alloc X (.cells #[.int .i64 ((b:Int)+1)] 3) none).size⟩
    have HSr:Hid (Src (X.alloc (.cells #[.int .i64 ((b:Int)+1)] 3)) (.slice (some ⟨X.heap.size,0,none⟩) 1 1) 1 1 (cD [(b:Int)+1])):=⟨_,_,rfl,rfl,fun _=>⟨_,rfl,lE X _⟩⟩
    clear hkl ht hst hnu hbl
    go_upto_region 12 with (at_builtin;refine cm (by rfl) (.tmp 49) (.tmp 52) 139 rfl w.heap.size 3 i0 _ 1 8 Tryz.underlying139 hi hz0 hz1 hz2 rfl (by decide) _ k (cD (mO R k)) rfl (World.ownsRow.alloc HO.out _) _ 1 (cD [(b:Int)+1]) rfl HSr.out (ky _) HLn.out.1 HLn.out.2.1 HLn.out.2.2 ?_;intro v9 w9 o9 g9 _;obtain⟨pv,kv,rfl,-⟩:=cH o9;have HO9:Hid _:=o9;have HG9:Hid _:=g9;clear o9 g9)
    have HZ:Hid (aU w9 w.heap.size (.slice pv (k+1) kv) (mO R (k+1))∧w.grownBy w9 none):=by
     refine⟨?_,am (aa HX.out.2 (World.grownBy_alloc X (.cells #[.int .i64 ((b:Int)+1)] 3) none)) HG9.out (fun y e=>(World.ownsRow.lt (World.ownsRow.alloc HO.out (.cells #[.int .i64 ((b:Int)+1)] 3)) y e).1)⟩
     rw[HY.out.2.2.2.1]
     exact kF HO9.out (rp Hk.out).symm
    obtain⟨-,-,-,t3,-⟩:=bc (j8 (HA.out.1.keep HZ.out.2) HY.out.2.1)
    clear HO9 HG9 HO HX HSr HLn
    go_wp2_with fail
    go_roundw
    case rel=>exact⟨k+1,pv,kv,HY.out.1,rfl,by rw[HY.out.2.2.1],HZ.out.1,HZ.out.2⟩
    case measure=>show R.length - (k+1)<R.length - k;have:=HY.out.1;omega
def jz (kd:Int) (t:Th):Bool:=decide (t.place=4) && decide (kd=1)
theorem tc (ok:Nat→Prop) (r:Nat) (v:Value) (p:Pl) (gs:List Ent) (t:Th) (w:World) (B:RD ok w r v p gs):Calls Tryz.prog 284 #[.pointer (some ⟨r,0,none⟩),thv t] w fun e w'=>e=.returned (.bool (jz (atC p gs t.card).1.kd t))∧w.grownBy w' none:=by
 obtain⟨V,hV⟩:∃ V,V=w.alloc (.cells #[.int .i64 t.card,.int .i64 t.owner,.int .u8 t.place,.int .i64 t.stamp,.int .i64 t.hurt,.int .i64 t.m0,.int .i64 t.m1,.int .i64 t.m2,.int .i64 t.m3,.int .i64 t.done,.bool t.fresh] 100):=⟨_,rfl⟩
 have HV:Hid (ThB V w.heap.size t∧w.grownBy V none):=⟨by rw[hV];exact ai _ _ _,by rw[hV];exact World.grownBy_alloc _ _ none⟩
 have C2:=lc ok r v p gs t.card V (B.keep HV.out.2)
 unfold gu at C2
 obtain⟨h,hh⟩:∃ h,h=(atC p gs t.card).1:=⟨_,rfl⟩
 obtain⟨x,hx⟩:∃ x,x=atX p gs t.card:=⟨_,rfl⟩
 rw[←hh,←hx] at C2
 rw[←hh]
 unfold cv at C2
 unfold thv
 clear B hh hx
 go_enter Tryz.func284,Tryz.ntmps284
 go_upto_region 1 with fail
 rw[←hV]
 obtain⟨n0,hn0⟩:∃ n0,n0=w.heap.size:=⟨_,rfl⟩
 rw[←hn0] at HV ⊢
 clear hV hn0
 obtain⟨b0,b1,b2,b3,b4,b5,b6,b7,b8,b9,b10⟩:=cV HV.out.1
 go_wp2_with fail
 refine C2.mono ?_
 rintro e2 w2 ⟨u,rfl,ou,g2⟩
 obtain⟨pu,cu,mu,rfl⟩:∃ p c m,u=.slice p m c:=by obtain⟨p,c,e,_⟩:=cH ou;exact⟨p,c,_,e⟩
 obtain⟨Z,hZ⟩:∃ Z,Z=w2.alloc (.cells #[.string h.nm,.int .u8 h.su,.int .u8 h.kd,.int .i64 h.co,.int .i64 h.po,.int .i64 h.he,.int .u16 h.tr,.bool h.tk,.slice pu mu cu] 54):=⟨_,rfl⟩
 have HZ:Hid (CdK Z w2.heap.size h (.slice pu mu cu)∧ThB Z n0 t∧w.grownBy Z none):=by
  have g:w2.grownBy Z none:=by rw[hZ];exact World.grownBy_alloc _ _ none
  exact⟨by rw[hZ];exact ai _ _ _,ae g (ae g2 HV.out.1 (by simp)) (by simp),aa (aa HV.out.2 g2) g⟩
 clear C2 ou g2 b0 b1 b2 b3 b4 b5 b6 b7 b8 b9 b10
 go_upto_region 2 with fail
 rw[←hZ]
 obtain⟨nc,hnc⟩:∃ nc,nc=w2.heap.size:=⟨_,rfl⟩
 rw[←hnc] at HZ ⊢
 clear hZ hnc
 obtain⟨b0,b1,b2,b3,-⟩:=cV HZ.out.2.1
 have k2:Z.cell? ⟨nc,2,none⟩=some (.int .u8 h.kd):=(ac HZ.out.1 2).trans rfl
 by_cases h4:t.place=4
 ·have e1:(t.place == 4)=true:=by rw[h4];rfl
  by_cases h1:h.kd=1
  ·have e2:(h.kd == 1)=true:=by rw[h1];rfl
   have HU:Hid (jz h.kd t=true):=by show _=_;unfold jz;rw[decide_eq_true h4,decide_eq_true h1];rfl
   clear h4 h1
   go_wp2_with fail
   go_ret
   exact⟨by rw[HU.out] <;> rfl,HZ.out.2.2⟩
  ·have e2:(h.kd == 1)=false:=by simpa using h1
   have HU:Hid (jz h.kd t=false):=by show _=_;unfold jz;rw[decide_eq_false h1,Bool.and_false]
   clear h4 h1
   go_wp2_with fail
   go_ret
   exact⟨by rw[HU.out] <;> rfl,HZ.out.2.2⟩
 ·have e1:(t.place == 4)=false:=by simpa using h4
  have HU:Hid (jz h.kd t=false):=by show _=_;unfold jz;rw[decide_eq_false h4,Bool.false_and]
  clear h4
  go_wp2_with fail
  go_ret
  exact⟨by rw[HU.out] <;> rfl,HZ.out.2.2⟩
theorem Bg {wh:Pt} {own:Bool} {kd:Int} {f:Fe} {ho:Int} (h:wh.wm=4):da wh own kd f ho=own:=by unfold da;rw[if_pos h]
theorem xI {wh:Pt} {own:Bool} {kd:Int} {f:Fe} {ho:Int} (h:¬wh.wm=4) (hk:¬kd=1):da wh own kd f ho=false:=by unfold da;rw[if_neg h,if_pos hk]
def vS (wm:Int) (wh:Pt) (own:Bool) (f:Fe) (ho:Int):Bool:=if wm=5 then decide (f.ho=ho) else if wm=8 then decide (f.ho=ho) && !own else if wm=6 then !decide (f.ho=ho) else if wm=7 then true else if wm=9 then decide (f.su=wh.su) else if wm=10 then iC f.tr wh.tr else false
theorem sm {wh:Pt} {own:Bool} {kd:Int} {f:Fe} {ho:Int} (h:¬wh.wm=4) (hk:kd=1):da wh own kd f ho=vS wh.wm wh own f ho:=by unfold da vS;rw[if_neg h,if_neg (by simpa using hk)]
theorem fW {w:World} {g off n c:Nat} {X:List Fe} (h:feR.At w (.slice (some ⟨g,off,none⟩) n c) X) {i:Nat} {x:Fe} (hx:X[i]?=some x):w.rangeAt g (off+i*5) (fec x):=by
 obtain⟨hi,e⟩:=List.getElem?_eq_some_iff.1 hx
 obtain⟨g',off',cap,e1,r⟩:=dG h hi
 injection e1 with e1 _ _
 injection e1 with e1
 injection e1 with ea eb
 rw[ea,eb,←e]
 exact r
theorem uh (ok:Nat→Prop) (r:Nat) (v:Value) (p:Pl) (gs:List Ent) (vt vf:Value) (ts:List Th) (F:List Fe) (s:Sd) (j z:Nat) (t:Th) (f g:Fe) (own:Bool) (w:World) (B:RD ok w r v p gs) (A:thR.At w vt ts) (AF:feR.At w vf F) (hj:ts[j]?=some t) (h4:t.place=4) (hf:F[j]?=some f) (hg:F[z]?=some g) (hz:s.th=(z:Int)+1) (ho:(((j:Int)+1) == s.th)=own) (hl:ts.length≤2048∧F.length≤2048):Calls Tryz.prog 241 #[.pointer (some ⟨r,0,none⟩),vt,vf,sdv s,.int .i64 ((j:Int)+1)] w fun e w'=>e=.returned (.bool (da s.wh own (atC p gs t.card).1.kd f g.ho))∧w.grownBy w' none:=by
 obtain⟨pt,ct,rfl⟩:=A.form
 obtain⟨pf,cf,rfl⟩:=AF.form
 have hjl:j<ts.length:=(List.getElem?_eq_some_iff.1 hj).1
 have hjf:j<F.length:=(List.getElem?_eq_some_iff.1 hf).1
 have hzf:z<F.length:=(List.getElem?_eq_some_iff.1 hg).1
 obtain⟨V,hV⟩:∃ V,V=w.alloc (.cells #[.int .i64 s.th,.int .i64 s.pl,.int .u8 s.wh.wn,.int .u8 s.wh.vb,.int .u8 s.wh.wm,.int .i64 s.wh.ct,.int .u8 s.wh.su,.int .u8 s.wh.tr,.int .u8 s.wh.mr,.string s.wh.nm] 40):=⟨_,rfl⟩
 have HV:Hid (SdB V w.heap.size s∧w.grownBy V none∧RD ok V r v p gs∧thR.At V (.slice pt ts.length ct) ts∧feR.At V (.slice pf F.length cf) F):=by
  have gr:w.grownBy V none:=by rw[hV];exact World.grownBy_alloc _ _ none
  exact⟨by rw[hV];exact ai _ _ _,gr,B.keep gr,A.keep gr,AF.keep gr⟩
 have HJ:Hid (ts[j]?=some t∧F[j]?=some f∧F[z]?=some g∧t.place=4):=⟨hj,hf,hg,h4⟩
 obtain⟨kd,hkd⟩:∃ kd,kd=(atC p gs t.card).1.kd:=⟨_,rfl⟩
 have CU:=tc ok r v p gs t V HV.out.2.2.1
 rw[←hkd] at CU
 rw[show jz kd t=decide (kd=1) from by unfold jz;rw[decide_eq_true h4,Bool.true_and]] at CU
 rw[←hkd]
 have j1:((j:Int))<(ts.length:Int):=Int.ofNat_lt.2 hjl
 have j2:((j:Int))<(F.length:Int):=Int.ofNat_lt.2 hjf
 have z1:((z:Int))<(F.length:Int):=Int.ofNat_lt.2 hzf
 have wj:wrap64 (j:Int)=(j:Int):=by unfold wrap64;omega
 have wz:wrap64 (z:Int)=(z:Int):=by unfold wrap64;omega
 have wj2:IntKind.i64.wrap (j:Int)=(j:Int):=by rw[IntWalk.i64_in _ (by omega)]
 have wz2:IntKind.i64.wrap (z:Int)=(z:Int):=by rw[IntWalk.i64_in _ (by omega)]
 obtain⟨gT,oT,cT,eT,-⟩:=bG A hjl
 injection eT with eT eT2 eT3
 clear eT2 eT3
 subst eT
 obtain⟨gF,oF,cF,eF,-⟩:=dG AF hjf
 injection eF with eF eF2 eF3
 clear eF2 eF3
 subst eF
 have Hz:Hid (s.th=(z:Int)+1):=hz
 unfold sdv
 rw[hz] at ho ⊢
 unfold thv at CU
 clear B A AF hj h4 hf hg hl hkd hjl hjf hzf hz
 go_enter Tryz.func241,Tryz.ntmps241
 go_upto_region 1 with fail
 rw[show w.alloc (.cells #[.int .i64 ((z:Int)+1),.int .i64 s.pl,.int .u8 s.wh.wn,.int .u8 s.wh.vb,.int .u8 s.wh.wm,.int .i64 s.wh.ct,.int .u8 s.wh.su,.int .u8 s.wh.tr,.int .u8 s.wh.mr,.string s.wh.nm] 40)=V from by rw[hV,Hz.out]]
 obtain⟨n0,hn0⟩:∃ n0,n0=w.heap.size:=⟨_,rfl⟩
 rw[←hn0] at HV ⊢
 clear hV hn0
 obtain⟨s0,-,-,-,s4,-,s6,s7,-⟩:=aT HV.out.1
 rw[Hz.out] at s0
 by_cases w4:s.wh.wm=4
 ·have e4:(s.wh.wm == 4)=true:=by rw[w4];rfl
  have HR:Hid (da s.wh own kd f g.ho=own):=Bg w4
  clear w4
  go_wp2_with fail
  go_ret
  exact⟨by rw[HR.out] <;> rfl,HV.out.2.1⟩
 ·have e4:(s.wh.wm == 4)=false:=by simpa using w4
  obtain⟨t0,t1,t2,t3,t4,t5,t6,t7,t8,t9,t10⟩:=bc (gh HV.out.2.2.2.1 HJ.out.1)
  by_cases hk:kd=1
  ·rw[decide_eq_true hk] at CU
   have HR:Hid (da s.wh own kd f g.ho=vS s.wh.wm s.wh own f g.ho):=sm w4 hk
   clear w4 hk
   go_wp2_with fail
   refine CU.mono ?_
   rintro e1 w1 ⟨rfl,g1⟩
   obtain⟨Y,hY⟩:∃ Y,Y=w1.alloc (.cells #[.int .i64 f.ho,.int .u8 f.su,.int .u16 f.tr,.int .i64 f.po,.int .i64 f.he] 65):=⟨_,rfl⟩
   have HY:Hid (FeB Y w1.heap.size f∧SdB Y n0 s∧w.grownBy Y none∧feR.At Y (.slice (some ⟨gF,oF,none⟩) F.length cf) F):=by
    have gr:w1.grownBy Y none:=by rw[hY];exact World.grownBy_alloc _ _ none
    exact⟨by rw[hY];exact ai _ _ _,ae gr (ae g1 HV.out.1 (by simp)) (by simp),aa (aa HV.out.2.1 g1) gr,(HV.out.2.2.2.2.keep g1).keep gr⟩
   obtain⟨f0,f1,f2,f3,f4⟩:=cC (fW (HV.out.2.2.2.2.keep g1) HJ.out.2.1)
   clear CU g1 t0 t1 t2 t3 t4 t5 t6 t7 t8 t9 t10 s0 s4 s6 s7 e4
   go_upto_region 6 with fail
   rw[←hY]
   obtain⟨n1,hn1⟩:∃ n1,n1=w1.heap.size:=⟨_,rfl⟩
   rw[←hn1] at HY ⊢
   clear hY hn1 f0 f1 f2 f3 f4
   obtain⟨f0,f1,f2,-⟩:=jV HY.out.1
   obtain⟨g0,-⟩:=cC (fW HY.out.2.2.2 HJ.out.2.2.1)
   obtain⟨s0,-,-,-,s4,-,s6,s7,-⟩:=aT HY.out.2.1
   rw[Hz.out] at s0
   have HGE:Hid (w.grownBy Y none):=HY.out.2.2.1
   obtain⟨wm,hwm⟩:∃ wm,wm=s.wh.wm:=⟨_,rfl⟩
   rw[←hwm] at HR s4
   clear hwm HY HV
   by_cases w5:wm=5
   ·subst w5
    have HQ:Hid (da s.wh own kd f g.ho=(f.ho == g.ho)):=by show _=_;rw[HR.out];rfl
    go_wp2_with fail
    go_ret
    exact⟨by rw[HQ.out] <;> rfl,HGE.out⟩
   ·have e5:(wm == 5)=false:=by simpa using w5
    by_cases w8:wm=8
    ·subst w8
     by_cases q:f.ho=g.ho
     ·have eq:(f.ho == g.ho)=true:=by rw[q];exact beq_self_eq_true _
      have hn:(((j:Int)+1) != ((z:Int)+1))=!own:=by rw[bne,ho]
      have HQ:Hid (da s.wh own kd f g.ho=!own):=by show _=_;rw[HR.out];show (decide (f.ho=g.ho) && !own)=_;rw[decide_eq_true q,Bool.true_and]
      clear q w5
      go_wp2_with fail
      go_ret
      exact⟨by rw[HQ.out] <;> rfl,HGE.out⟩
     ·have eq:(f.ho == g.ho)=false:=by simpa using q
      have HQ:Hid (da s.wh own kd f g.ho=false):=by show _=_;rw[HR.out];show (decide (f.ho=g.ho) && !own)=_;rw[decide_eq_false q,Bool.false_and]
      clear q w5
      go_wp2_with fail
      go_ret
      exact⟨by rw[HQ.out] <;> rfl,HGE.out⟩
    ·have e8:(wm == 8)=false:=by simpa using w8
     by_cases w6:wm=6
     ·subst w6
      have HQ:Hid (da s.wh own kd f g.ho=(f.ho != g.ho)):=by show _=_;rw[HR.out];rfl
      clear w5 w8
      go_wp2_with fail
      go_ret
      exact⟨by rw[HQ.out] <;> rfl,HGE.out⟩
     ·have e6:(wm == 6)=false:=by simpa using w6
      by_cases w7:wm=7
      ·subst w7
       have HQ:Hid (da s.wh own kd f g.ho=true):=by show _=_;rw[HR.out];rfl
       clear w5 w8 w6
       go_wp2_with fail
       go_ret
       exact⟨by rw[HQ.out] <;> rfl,HGE.out⟩
      ·have e7:(wm == 7)=false:=by simpa using w7
       by_cases w9:wm=9
       ·subst w9
        have HQ:Hid (da s.wh own kd f g.ho=(f.su == s.wh.su)):=by show _=_;rw[HR.out];rfl
        clear w5 w8 w6 w7
        go_wp2_with fail
        go_ret
        exact⟨by rw[HQ.out] <;> rfl,HGE.out⟩
       ·have e9:(wm == 9)=false:=by simpa using w9
        by_cases w10:wm=10
        ·subst w10
         have HQ:Hid (da s.wh own kd f g.ho=iC f.tr s.wh.tr):=by show _=_;rw[HR.out];rfl
         have CH:=oj f.tr s.wh.tr Y
         clear w5 w8 w6 w7 w9
         go_wp2_with fail
         refine CH.mono ?_
         rintro e3 w3 ⟨rfl,hw3⟩
         rw[hw3]
         clear hw3 w3 CH
         go_wp2_with fail
         go_ret
         exact⟨by rw[HQ.out] <;> rfl,HGE.out⟩
        ·have e10:(wm == 10)=false:=by simpa using w10
         have HQ:Hid (da s.wh own kd f g.ho=false):=by
          show _=_
          rw[HR.out]
          unfold vS
          rw[if_neg w5,if_neg w8,if_neg w6,if_neg w7,if_neg w9,if_neg w10]
         clear w5 w8 w6 w7 w9 w10
         go_wp2_with fail
         go_ret
         exact⟨by rw[HQ.out] <;> rfl,HGE.out⟩
  ·rw[decide_eq_false hk] at CU
   have HR:Hid (da s.wh own kd f g.ho=false):=xI w4 hk
   clear w4 hk
   go_wp2_with fail
   refine CU.mono ?_
   rintro e1 w1 ⟨rfl,g1⟩
   have HG1:Hid (w.grownBy w1 none):=aa HV.out.2.1 g1
   clear CU g1
   go_wp2_with fail
   go_ret
   exact⟨by rw[HR.out] <;> rfl,HG1.out⟩
end Go.Proofs.YthfjgpjcepmnmaaGreat
namespace Go.Proofs.YthfjgpjcepmnmaaGreat
set_option maxRecDepth 100000
set_option maxHeartbeats 4000000
open Go.RowKit
def ch (bv vt vf vl:Value):Value:=.agg #[bv,vt,vf,vl]
def bY (w:World) (g:Nat) (bv vt vf vl:Value):Prop:=w.heap[g]?=some (.cells #[bv,vt,vf,vl] 136 (0,0))
theorem aR {w:World} {g:Nat} {bv vt vf vl:Value} (h:bY w g bv vt vf vl):w.cell? ⟨g,0,none⟩=some bv∧w.cell? ⟨g,1,none⟩=some vt∧w.cell? ⟨g,2,none⟩=some vf∧w.cell? ⟨g,3,none⟩=some vl:=⟨(ac h 0).trans rfl,(ac h 1).trans rfl,(ac h 2).trans rfl,(ac h 3).trans rfl⟩
def hpv (h:Hp):Value:=.agg #[.int .u8 h.vb,.int .i64 h.on,.int .i64 h.ct,.int .i64 h.ho,.bool h.vn,.bool h.dr]
def HpB (w:World) (g:Nat) (h:Hp):Prop:=w.heap[g]?=some (.cells #[.int .u8 h.vb,.int .i64 h.on,.int .i64 h.ct,.int .i64 h.ho,.bool h.vn,.bool h.dr] 43 (0,0))
theorem aL {w:World} {g:Nat} {h:Hp} (H:HpB w g h):w.cell? ⟨g,0,none⟩=some (.int .u8 h.vb)∧w.cell? ⟨g,1,none⟩=some (.int .i64 h.on)∧w.cell? ⟨g,2,none⟩=some (.int .i64 h.ct)∧w.cell? ⟨g,3,none⟩=some (.int .i64 h.ho)∧w.cell? ⟨g,4,none⟩=some (.bool h.vn)∧w.cell? ⟨g,5,none⟩=some (.bool h.dr) :=
 ⟨(ac H 0).trans rfl,(ac H 1).trans rfl,(ac H 2).trans rfl,(ac H 3).trans rfl,(ac H 4).trans rfl,(ac H 5).trans rfl⟩
theorem fg (k:Int) (w:World):Calls Tryz.prog 200 #[.int .i64 k] w fun e w'=>e=.returned (.int .i64 (wrap64 (-1 - k)))∧w'=w:=by
 go_enter Tryz.func200,Tryz.ntmps200
 go_wp2
 go_ret
 exact⟨rfl,rfl⟩
theorem sS (k:Int) (w:World):Calls Tryz.prog 213 #[.int .i64 k] w fun e w'=>e=.returned (.int .i64 (wrap64 (1 - k)))∧w'=w:=by
 go_enter Tryz.func213,Tryz.ntmps213
 go_wp2
 go_ret
 exact⟨rfl,rfl⟩
theorem oG (w:World):Calls Tryz.prog 200 #[.int .i64 0] w fun e w'=>e=.returned (.int .i64 (-1))∧w'=w:=by
 have h:=fg 0 w
 rwa [show wrap64 (-1 - 0)=-1 from by unfold wrap64;omega] at h
theorem yn (w:World):Calls Tryz.prog 200 #[.int .i64 1] w fun e w'=>e=.returned (.int .i64 (-2))∧w'=w:=by
 have h:=fg 1 w
 rwa [show wrap64 (-1 - 1)=-2 from by unfold wrap64;omega] at h
theorem zN {n:Int} (h:¬n=-1):dh n=(n == -2):=by
 by_cases k:n=-2
 ·subst k;rfl
 ·unfold dh
  simp[h,k]
theorem eX (n:Int) (w:World):Calls Tryz.prog 132 #[.int .i64 n] w fun e w'=>e=.returned (.bool (dh n))∧w'=w:=by
 by_cases h0:n=-1
 ·have e0:(n == -1)=true:=by rw[h0];rfl
  have HE:Hid (dh n=true):=by show dh n=_;unfold dh;rw[decide_eq_true h0,Bool.true_or]
  clear h0
  go_enter Tryz.func132,Tryz.ntmps132
  go_wp2_with fail
  refine(oG _).mono ?_
  rintro e1 w1 ⟨rfl,rfl⟩
  go_wp2_with fail
  go_ret
  exact⟨aJ HE.out.symm,rfl⟩
 ·have e0:(n == -1)=false:=by simpa using h0
  have HE:Hid (dh n=(n == -2)):=zN h0
  clear h0
  go_enter Tryz.func132,Tryz.ntmps132
  go_wp2_with fail
  refine(oG _).mono ?_
  rintro e1 w1 ⟨rfl,rfl⟩
  go_wp2_with fail
  refine(yn _).mono ?_
  rintro e2 w2 ⟨rfl,rfl⟩
  go_wp2_with fail
  go_ret
  exact⟨aJ HE.out.symm,rfl⟩
theorem kR (bv vt vf vl:Value) (F:List Fe) (s:Sd) (z:Nat) (f:Fe) (w:World) (AF:feR.At w vf F) (hf:F[z]?=some f) (hz:s.th=(z:Int)+1) (hl:F.length≤4096):Calls Tryz.prog 212 #[ch bv vt vf vl,sdv s] w fun e w'=>e=.returned (.int .i64 f.ho)∧w.grownBy w' none:=by
 obtain⟨pf,cf,rfl⟩:=AF.form
 have hzf:z<F.length:=(List.getElem?_eq_some_iff.1 hf).1
 obtain⟨V,hV⟩:∃ V,V=(w.alloc (.cells #[bv,vt,.slice pf F.length cf,vl] 136)).alloc (.cells #[.int .i64 s.th,.int .i64 s.pl,.int .u8 s.wh.wn,.int .u8 s.wh.vb,.int .u8 s.wh.wm,.int .i64 s.wh.ct,.int .u8 s.wh.su,.int .u8 s.wh.tr,.int .u8 s.wh.mr,.string s.wh.nm] 40):=⟨_,rfl⟩
 have HG:Hid (w.grownBy V none):=by rw[hV];exact ak (World.grownBy_alloc _ _ none) _
 have HS:Hid (SdB V (w.heap.size+1) s):=by rw[hV];exact aP _ _ _ _
 have HC:Hid (bY V w.heap.size bv vt (.slice pf F.length cf) vl):=by rw[hV];exact ae (World.grownBy_alloc _ _ none) (ai w _ _) (by simp)
 have z1:((z:Int))<(F.length:Int):=Int.ofNat_lt.2 hzf
 have wz:wrap64 (z:Int)=(z:Int):=by unfold wrap64;omega
 have wz2:IntKind.i64.wrap (z:Int)=(z:Int):=by rw[IntWalk.i64_in _ (by omega)]
 obtain⟨gF,oF,cF,eF,-⟩:=dG AF hzf
 injection eF with eF eF2 eF3
 clear eF2 eF3
 subst eF
 obtain⟨g0,-⟩:=cC (fW (AF.keep HG.out) hf)
 obtain⟨s0,-⟩:=aT HS.out
 obtain⟨-,-,c2,-⟩:=aR HC.out
 rw[hz] at s0
 have Hz:Hid (s.th=(z:Int)+1):=hz
 unfold ch sdv
 clear AF hf hl hzf hz
 go_enter Tryz.func212,Tryz.ntmps212
 go_upto_region 1 with fail
 rw[←hV]
 clear hV
 go_wp2
 go_ret
 exact⟨rfl,HG.out⟩
theorem jA (bv vt vf vl:Value) (ts:List Th) (j:Nat) (t:Th) (w:World) (A:thR.At w vt ts) (ht:ts[j]?=some t) (hl:ts.length≤2048):Calls Tryz.prog 134 #[ch bv vt vf vl,.int .i64 ((j:Int)+1)] w fun e w'=>e=.returned (.int .i64 t.m2)∧w.grownBy w' none:=by
 obtain⟨pt,ct,rfl⟩:=A.form
 have hjl:j<ts.length:=(List.getElem?_eq_some_iff.1 ht).1
 obtain⟨V,hV⟩:∃ V,V=w.alloc (.cells #[bv,.slice pt ts.length ct,vf,vl] 136):=⟨_,rfl⟩
 have HG:Hid (w.grownBy V none):=by rw[hV];exact World.grownBy_alloc _ _ none
 have HC:Hid (bY V w.heap.size bv (.slice pt ts.length ct) vf vl):=by rw[hV];exact ai w _ _
 have z1:((j:Int))<(ts.length:Int):=Int.ofNat_lt.2 hjl
 have wz:wrap64 (j:Int)=(j:Int):=by unfold wrap64;omega
 have wz2:IntKind.i64.wrap (j:Int)=(j:Int):=by rw[IntWalk.i64_in _ (by omega)]
 obtain⟨gT,oT,cT,eT,-⟩:=bG A hjl
 injection eT with eT eT2 eT3
 clear eT2 eT3
 subst eT
 obtain⟨-,-,-,-,-,-,-,t7,-⟩:=bc (gh (A.keep HG.out) ht)
 obtain⟨-,c1,-,-⟩:=aR HC.out
 unfold ch
 clear A ht hl hjl
 go_enter Tryz.func134,Tryz.ntmps134
 go_upto_region 1 with fail
 rw[←hV]
 clear hV
 go_wp2
 go_ret
 exact⟨rfl,HG.out⟩
end Go.Proofs.YthfjgpjcepmnmaaGreat
