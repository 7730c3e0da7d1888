/-
  View: what every way asks of a book and things;lists that are filled;printed.
  The document's view: what is printed on all things.
  The document's traits and parts: Has,With,Without,the layer of a verb,whether two parts are the same.
  The document's layers: the numbers of the things on the table,by rising stamps.
-/
import Derived.Test.YthfjgpjcepmnmaaGreatZ31
import Derived.Test.YthfjgpjcepmnmaaGreatZ24
import Derived.Test.YthfjgpjcepmnmaaGreatZ29
import Derived.Test.YthfjgpjcepmnmaaGreatZTgR
import Derived.Test.YthfjgpjcepmnmaaGreatZ32
import Derived.Test.YthfjgpjcepmnmaaGreatZ13
import Derived.Test.YthfjgpjcepmnmaaGreatZ3
import Derived.Test.YthfjgpjcepmnmaaGreatZ16
import Derived.BigQuiet
namespace Go.Proofs.YthfjgpjcepmnmaaGreat
open Go.RowKit Go.Shelf
theorem RecT.At.take {α:Type} {R:RecT α} {w:World} {p:Option Addr} {n c:Nat} {l:List α} (h:R.At w (.slice p n c) l) (m:Nat) (hm:m≤n):R.At w (.slice p m c) (l.take m):=by
 obtain⟨p',c',e,hl,h1⟩:=h
 injection e with e1 e2 e3
 subst e1
 subst e3
 have hlm:(l.take m).length=m:=by rw[List.length_take];omega
 refine⟨p,c,by rw[hlm],by rw[hlm];omega,fun h0=>?_⟩
 rw[hlm] at h0
 obtain⟨g,off,e,hc⟩:=h1 (by omega)
 exact⟨g,off,e,fun j x hj=>hc j x (by
  rw[List.getElem?_take] at hj
  split at hj
  ·exact hj
  ·cases hj)⟩
def fillU (h:Nat→Fe) (n k:Nat):List Fe:=(List.range n).map fun i=>if i<k then h i else Fe.none
theorem fillU_len (h:Nat→Fe) (n k:Nat):(fillU h n k).length=n:=by simp[fillU]
theorem fillU_zero (h:Nat→Fe) (n:Nat):fillU h n 0=List.replicate n Fe.none:=by
 refine List.ext_getElem (by simp[fillU]) fun i h1 h2=>?_
 simp[fillU]
theorem fillU_set {h:Nat→Fe} {n k:Nat} {f:Fe} (e:h k=f):(fillU h n k).set k f=fillU h n (k+1):=by
 refine List.ext_getElem (by simp[fillU]) fun i h1 h2=>?_
 rw[List.getElem_set]
 simp only[fillU,List.getElem_map,List.getElem_range]
 by_cases q:k=i
 ·subst q
  rw[if_pos rfl,if_pos (by omega),e]
 ·rw[if_neg q]
  by_cases z:i<k
  ·rw[if_pos z,if_pos (by omega)]
  ·rw[if_neg z,if_neg (by omega)]
theorem fillU_skip {h:Nat→Fe} {n k:Nat} (e:h k=Fe.none):fillU h n (k+1)=fillU h n k:=by
 unfold fillU
 refine List.map_congr_left fun i _=>?_
 by_cases q:i=k
 ·subst q
  rw[if_pos (by omega),if_neg (by omega),e]
 ·by_cases z:i<k
  ·rw[if_pos z,if_pos (by omega)]
  ·rw[if_neg z,if_neg (by omega)]
theorem fillU_all (h:Nat→Fe) (n:Nat):fillU h n n=(List.range n).map h:=by
 unfold fillU
 exact List.map_congr_left fun i hi=>if_pos (List.mem_range.1 hi)
theorem fec_zero:∀ r,r<5→(fec Fe.none)[r]?=some ((#[.int .i64 0,.int .u8 0,.int .u16 0,.int .i64 0,.int .i64 0]:Array Value)[r]!)
 | 0,_=>rfl
 | 1,_=>rfl
 | 2,_=>rfl
 | 3,_=>rfl
 | 4,_=>rfl
 | n+5,h=>by omega
theorem made_fe (n:Nat):(madeCells (Value.agg #[.int .i64 0,.int .u8 0,.int .u16 0,.int .i64 0,.int .i64 0]).cells (n*5)).toList=feR.cs (List.replicate n Fe.none):=by
 refine List.ext_getElem? fun i=>?_
 by_cases hi:i<n*5
 ·have h1:=feR.at' (l:=List.replicate n Fe.none) (j:=i / 5) (x:=Fe.none) (by rw[List.getElem?_replicate,if_pos (by omega)]) (i % 5) (show i % 5<5 by omega)
  have h2:(feR.cs (List.replicate n Fe.none))[i / 5*5+i % 5]?=(fec Fe.none)[i % 5]?:=h1
  rw[show i / 5*5+i % 5=i by omega,fec_zero _ (by omega)] at h2
  rw[h2]
  show ((Array.range (n*5)).map _).toList[i]?=_
  rw[Array.toList_map,List.getElem?_map,Array.toList_range,List.getElem?_range hi]
  rfl
 ·rw[List.getElem?_eq_none (by rw[Array.length_toList,size_madeCells];omega),List.getElem?_eq_none (by rw[feR.len,List.length_replicate];show n*5≤i;omega)]
theorem made_own {V:World} {base g n:Nat} (h:V.ownsRow base 65 5 (.slice (some ⟨g,0,none⟩) n n) n (madeCells (Value.agg #[.int .i64 0,.int .u8 0,.int .u16 0,.int .i64 0,.int .i64 0]).cells (n*5)).toList):FOwn V base (.slice (some ⟨g,0,none⟩) n n) (List.replicate n Fe.none):=by
 unfold FOwn RecT.Own
 rw[List.length_replicate,←made_fe]
 exact h
theorem prt_fill (pf:Th→Fe) (ts:List Th):fillU (fun i=>prtT pf (ts.getD i Th.none)) ts.length ts.length=prtF pf ts:=by
 rw[fillU_all]
 unfold prtF
 refine List.ext_getElem (by simp) fun i h1 h2=>?_
 simp only[List.getElem_map,List.getElem_range]
 rw[getD_in (by simpa using h2)]
theorem fe_there_own {w:World} {base g n k:Nat} {L:List Fe} (h:FOwn w base (.slice (some ⟨g,0,none⟩) n n) L) (hn:L.length=n) (hk:k<n):w.there g (k*5) 5:=RecT.Own.there h hn hk
theorem fe_set_own {w:World} {base g n k:Nat} {L:List Fe} (h:FOwn w base (.slice (some ⟨g,0,none⟩) n n) L) (hn:L.length=n) (hk:k<n) (f:Fe):FOwn (w.setCells g (k*5) (fec f)) base (.slice (some ⟨g,0,none⟩) n n) (L.set k f)∧w.grownBy (w.setCells g (k*5) (fec f)) (some g):=RecT.Own.set h hn hk f
set_option maxRecDepth 100000
set_option maxHeartbeats 4000000
theorem rPrinted20_any (ok:Nat→Prop) (r:Nat) (vr:Value) (p:Pl) (gs:List Ent) (v:Value) (us:List Th) (w:World) (B:RD ok w r vr p gs) (A:thR.At w v us) (hl:us.length≤2048):Calls Tryz.prog 182 #[.pointer (some ⟨r,0,none⟩),v] w fun e w'=>∃ v' b,e=.returned (.tuple #[v',.bool b])∧w.grownBy w' none∧((b=true∧FOwn w' w.heap.size v' (prtF (pfR p gs) us)∧∀ t∈us,ptR p gs t=0)∨(b=false∧v'=.slice none 0 0∧∃ t∈us,¬ptR p gs t=0)):=by
 obtain⟨i0,hi,hz0,hz1,hz2⟩:=info_parts Tryz.linfoF
 obtain⟨pt,c,rfl⟩:=A.form
 obtain⟨h,hh⟩:∃ h:Nat→Fe,h=fun i=>prtT (pfR p gs) (us.getD i Th.none):=⟨_,rfl⟩
 have Hh:Hid (h=fun i=>prtT (pfR p gs) (us.getD i Th.none)):=hh
 have HA:Hid (thR.At w (.slice pt us.length c) us):=A
 have HP:Hid (∀ X t,w.grownBy X none→Calls Tryz.prog 249 #[.pointer (some ⟨r,0,none⟩),thv t] X fun e w'=>e=.returned (.tuple #[fev (pfR p gs t),.int .i64 (ptR p gs t)])∧X.grownBy w' none):=fun X t g=>rprinted_of _ t _ _ _ X fun Y q=>rcard_book ok r vr p gs t Y (B.keep (grown_trans g q))
 have Hl:Hid (us.length≤2048):=hl
 have Hbb:Hid (i0.bytes*us.length≤281474976710656):=by show i0.bytes*us.length≤_;rw[hz2];omega
 have Hbm:Hid (us.length≤maxLen):=by show us.length≤maxLen;unfold maxLen;omega
 clear A B hl hh
 go_enter Tryz.func182,Tryz.ntmps182
 go_wp2_with (at_make;refine wpList_make_full _ rfl _ _ 24 rfl w.heap.size 65 i0 _ 5 Tryz.underlying24 hi hz0 hz1 .i64 .i64 _ _ us.length rfl rfl rfl rfl Hbb.out Hbm.out (Nat.le_refl _) ?_;intro V o1 gv;have HF0:Hid (FOwn V w.heap.size (.slice (some ⟨w.heap.size,0,none⟩) us.length us.length) (List.replicate us.length Fe.none)):=made_own o1;have HGV:Hid (w.grownBy V none):=gv;clear o1 gv)
 obtain⟨g0,h0⟩:∃ g0,g0=w.heap.size:=⟨_,rfl⟩
 have Hg0:Hid (g0=w.heap.size):=h0
 simp only[←h0] at HF0 ⊢
 clear h0
 go_loopw [7,8,9] (fun i _ _ wr=>∃ k:Nat,k≤us.length∧i=.int .i64 (k:Int)∧FOwn wr g0 (.slice (some ⟨g0,0,none⟩) us.length us.length) (fillU h us.length k)∧w.grownBy wr none∧Hid (∀ t∈us.take k,ptR p gs t=0)) (fun i _ _ _=>us.length - (intOf i).toNat)
 case atStart=>exact⟨0,Nat.zero_le _,rfl,by rw[fillU_zero];exact HF0.out,HGV.out,fun t ht=>by simp at ht⟩
 case round =>
  obtain⟨k,hk,rfl,O,G,HE⟩:=hrel
  obtain⟨U,hU⟩:∃ U,U=wr:=⟨_,rfl⟩
  subst hU
  have HO:Hid (FOwn U g0 (.slice (some ⟨g0,0,none⟩) us.length us.length) (fillU h us.length k)):=O
  have HG:Hid (w.grownBy U none):=G
  by_cases hlt:k<us.length
  ·obtain⟨g,off,cap,e1,R⟩:=th_there (HA.out.keep G) hlt
   cases e1
   obtain⟨t,ht⟩:∃ t,t=us[k]:=⟨_,rfl⟩
   rw[←ht] at R
   have HT:Hid (h k=prtT (pfR p gs) t∧t∈us∧us.take (k+1)=us.take k++[t]):=⟨by rw[Hh.out,ht];show prtT (pfR p gs) (us.getD k Th.none)=_;rw[getD_in hlt],by rw[ht];exact List.getElem_mem hlt,by rw[List.take_add_one,List.getElem?_eq_getElem hlt,ht];rfl⟩
   obtain⟨c0,c1,c2,c3,c4,c5,c6,c7,c8,c9,c10⟩:=th_cells R
   have C:=HP.out U t HG.out
   obtain⟨f,hf⟩:∃ f,f=pfR p gs t:=⟨_,rfl⟩
   obtain⟨x,hx⟩:∃ x,x=ptR p gs t:=⟨_,rfl⟩
   have HX:Hid (f=pfR p gs t∧x=ptR p gs t):=⟨hf,hx⟩
   rw[←hf,←hx] at C
   unfold thv fev at C
   have HR:Hid (U.rangeAt g (off+k*11) (thc t)):=R
   have hlt':(k:Int)<us.length:=Int.ofNat_lt.2 hlt
   have hwk:=wrap_next (k:=k) (Nat.le_trans (Nat.le_of_lt hlt) (Nat.le_trans Hl.out (by decide)))
   have Hlt:Hid (k<us.length):=hlt
   have HM:Hid (us.length - (intOf (.int .i64 ((k:Int)+1))).toNat<us.length - (intOf (.int .i64 (k:Int))).toNat):=meas_k hlt
   clear O G R ht hf hx hlt hk
   go_wp2_with fail
   refine C.mono ?_
   rintro e2 w2 ⟨rfl,g2⟩
   obtain⟨Y,hY⟩:∃ Y,Y=w2.alloc (.cells #[.int .i64 f.ho,.int .u8 f.su,.int .u16 f.tr,.int .i64 f.po,.int .i64 f.he] 65):=⟨_,rfl⟩
   have HY:Hid (FeB Y w2.heap.size f∧FOwn Y g0 (.slice (some ⟨g0,0,none⟩) us.length us.length) (fillU h us.length k)∧w.grownBy Y none∧Y.rangeAt g (off+k*11) (thc t)∧¬w2.heap.size=g0):=by
    have q:U.grownBy Y none:=by rw[hY];exact grown_push g2 _
    exact⟨by rw[hY];exact alloc_at _ _ _,own_grow HO.out q,grown_trans HG.out q,rangeAt_keep HR.out q,fun e=>by have:=(RecT.Own.lt HO.out g0 rfl).2;have:=g2.size;omega⟩
   clear C g2 c0 c1 c2 c3 c4 c5 c6 c7 c8 c9 c10 HO HG HR
   go_upto_region 6 with fail
   rw[←hY]
   obtain⟨nb,hnb⟩:∃ nb,nb=w2.heap.size:=⟨_,rfl⟩
   rw[←hnb] at HY ⊢
   clear hY hnb
   by_cases hx:x=0
   ·have ex:(x != 0)=false:=by rw[hx];rfl
    have HN:Hid (∀ u∈us.take (k+1),ptR p gs u=0):=fun u hu=>by
     rw[HT.out.2.2,List.mem_append,List.mem_singleton] at hu
     rcases hu with q | q
     ·exact HE.out u q
     ·rw[q,←HX.out.2];exact hx
    clear hx
    obtain⟨c0,c1,c2,c3,c4,c5,c6,c7,c8,c9,c10⟩:=th_cells HY.out.2.2.2.1
    by_cases hp:t.place=4
    ·have hpb:(t.place == 4)=true:=by rw[hp];rfl
     have HF:Hid (h k=f):=HT.out.1.trans ((if_pos hp).trans HX.out.1.symm)
     clear hp
     obtain⟨b0,b1,b2,b3,b4⟩:=fe_box HY.out.1
     obtain⟨u0,u1,u2,u3,u4,y0,y1,y2,y3,y4,q0,q1,q2,q3,q4⟩:=there5 (fe_there_own HY.out.2.1 (fillU_len h _ k) Hlt.out)
     obtain⟨Z,hZ⟩:∃ Z,Z=((((Y.setCell ⟨g0,k*5,none⟩ (.int .i64 f.ho)).setCell ⟨g0,k*5+1,none⟩ (.int .u8 f.su)).setCell ⟨g0,k*5+2,none⟩ (.int .u16 f.tr)).setCell ⟨g0,k*5+3,none⟩ (.int .i64 f.po)).setCell ⟨g0,k*5+4,none⟩ (.int .i64 f.he):=⟨_,rfl⟩
     have q:=fe_set_own HY.out.2.1 (fillU_len h _ k) Hlt.out f
     rw[show Y.setCells g0 (k*5) (fec f)=Z from by rw[hZ];rfl] at q
     have HQ:Hid (FOwn Z g0 (.slice (some ⟨g0,0,none⟩) us.length us.length) (fillU h us.length (k+1))∧w.grownBy Z none):=⟨by rw[←fillU_set HF.out];exact q.1,grown_own HY.out.2.2.1 q.2 (fun y e=>by cases e;rw[Hg0.out];exact Nat.le_refl _)⟩
     clear q
     go_upto_region 9 with fail
     clear c0 c1 c2 c3 c4 c5 c6 c7 c8 c9 c10 hpb ex
     go_upto_region 4 with fail
     rw[←hZ]
     clear hZ y0 y1 y2 y3 y4 q0 q1 q2 q3 q4 b0 b1 b2 b3 b4
     go_wp2_with fail
     go_roundw
     case rel=>exact⟨k+1,Hlt.out,by first | rfl | (rw[hwk];rfl) | go_num,HQ.out.1,HQ.out.2,HN⟩
     case measure=>first | exact HM.out | (rw[hwk];exact HM.out)
    ·have hpb:(t.place == 4)=false:=by simpa using hp
     have HF:Hid (h k=Fe.none):=HT.out.1.trans (if_neg hp)
     have HQ:Hid (FOwn Y g0 (.slice (some ⟨g0,0,none⟩) us.length us.length) (fillU h us.length (k+1))∧w.grownBy Y none):=⟨by rw[fillU_skip HF.out];exact HY.out.2.1,HY.out.2.2.1⟩
     clear hp HF
     go_wp2_with fail
     go_roundw
     case rel=>exact⟨k+1,Hlt.out,by first | rfl | (rw[hwk];rfl) | go_num,HQ.out.1,HQ.out.2,HN⟩
     case measure=>first | exact HM.out | (rw[hwk];exact HM.out)
   ·have ex:(x != 0)=true:=by simpa using hx
    have HN:Hid (∃ u∈us,¬ptR p gs u=0):=⟨t,HT.out.2.1,by rw[←HX.out.2];exact hx⟩
    clear hx
    go_wp2_with fail
    go_ret2
    exact⟨_,_,rfl,HY.out.2.2.1,Or.inr ⟨rfl,rfl,HN.out⟩⟩
  ·obtain rfl:k=us.length:=Nat.le_antisymm hk (Nat.le_of_not_lt hlt)
   have HF:Hid (FOwn U w.heap.size (.slice (some ⟨g0,0,none⟩) us.length us.length) (prtF (pfR p gs) us)∧w.grownBy U none∧∀ t∈us,ptR p gs t=0):=⟨by rw[←prt_fill,←Hh.out,←Hg0.out];exact O,G,by have:=HE.out;rwa [List.take_length] at this⟩
   clear O G hk hlt
   go_wp2_with fail
   go_ret2
   exact⟨_,_,rfl,HF.out.2.1,Or.inl ⟨rfl,HF.out.1,HF.out.2.2⟩⟩
end Go.Proofs.YthfjgpjcepmnmaaGreat
namespace Go.Proofs.YthfjgpjcepmnmaaGreat
set_option maxHeartbeats 1000000
open Go.RowKit
theorem r4bit_any (k:Int) (w:World):Calls Tryz.prog 149 #[.int .u8 k] w fun e w'=>e=.returned (.int .u16 (tBit k))∧w'=w:=by
 rcases eight_or k with h | h
 ·rcases h with rfl | rfl | rfl | rfl | rfl | rfl | rfl | rfl
  all_goals
   go_enter Tryz.func149,Tryz.ntmps149
   go_wp2
   go_ret
   exact⟨rfl,rfl⟩
 ·rw[tBit_no h]
  rcases h with h | h
  ·have e1:decide (k<1)=true:=decide_eq_true h
   clear h
   go_enter Tryz.func149,Tryz.ntmps149
   go_wp2
   go_ret
   exact⟨rfl,rfl⟩
  ·have e1:decide (k<1)=false:=decide_eq_false (by omega)
   have e2:decide (8<k)=true:=decide_eq_true h
   clear h
   go_enter Tryz.func149,Tryz.ntmps149
   go_wp2
   go_ret
   exact⟨rfl,rfl⟩
theorem r4has_any (s k:Int) (w:World):Calls Tryz.prog 77 #[.int .u16 s,.int .u8 k] w fun e w'=>e=.returned (.bool (tHas s k))∧w'=w:=by
 go_enter Tryz.func77,Tryz.ntmps77
 go_wp2_with fail
 refine(r4bit_any _ _).mono ?_
 rintro e w1 ⟨rfl,rfl⟩
 go_wp2
 go_ret
 exact⟨rfl,rfl⟩
theorem r4with_any (s k:Int) (w:World):Calls Tryz.prog 242 #[.int .u16 s,.int .u8 k] w fun e w'=>e=.returned (.int .u16 (tWith s k))∧w'=w:=by
 go_enter Tryz.func242,Tryz.ntmps242
 go_wp2_with fail
 refine(r4bit_any _ _).mono ?_
 rintro e w1 ⟨rfl,rfl⟩
 go_wp2
 go_ret
 exact⟨rfl,rfl⟩
theorem r4without_any (s k:Int) (w:World):Calls Tryz.prog 243 #[.int .u16 s,.int .u8 k] w fun e w'=>e=.returned (.int .u16 (tWithout s k))∧w'=w:=by
 go_enter Tryz.func243,Tryz.ntmps243
 go_wp2_with fail
 refine(r4bit_any _ _).mono ?_
 rintro e w1 ⟨rfl,rfl⟩
 go_wp2
 go_ret
 exact⟨rfl,rfl⟩
theorem r5layer_any (v:Int) (w:World):Calls Tryz.prog 164 #[.int .u8 v] w fun e w'=>e=.returned (.int .i64 (lay v))∧w'=w:=by
 by_cases h:10≤v∧v≤15
 ·have:v=10∨v=11∨v=12∨v=13∨v=14∨v=15:=by omega
  rcases this with rfl | rfl | rfl | rfl | rfl | rfl
  all_goals
   go_enter Tryz.func164,Tryz.ntmps164
   go_wp2
   go_ret
   exact⟨rfl,rfl⟩
 ·rw[lay_no h]
  have e1:(v == 10)=false:=by simp;omega
  have e2:(v == 11)=false:=by simp;omega
  have e3:(v == 12)=false:=by simp;omega
  have e4:(v == 13)=false:=by simp;omega
  have e5:(v == 14)=false:=by simp;omega
  have e6:(v == 15)=false:=by simp;omega
  clear h
  go_enter Tryz.func164,Tryz.ntmps164
  go_wp2
  go_ret
  exact⟨rfl,rfl⟩
set_option maxRecDepth 100000
set_option maxHeartbeats 4000000
open Go.Shelf
def lastR (R:List Rw) (k:Nat):Int:=if k=0 then 0 else (R.getD (k - 1) Rw.none).st
theorem lastR_next (R:List Rw) (k:Nat):lastR R (k+1)=(R.getD k Rw.none).st:=by
 unfold lastR
 rw[if_neg (by omega)]
 rfl
def BsU (ts:List Th) (last:Int) (i:Nat) (best:Int):Prop:=(best=-1∧∀ (l:Nat) s,l<i→ts[l]?=some s→s.place=4→¬last<s.stamp)∨(∃ (b:Nat) (t:Th),best=(b:Int)∧b<i∧ts[b]?=some t∧t.place=4∧last<t.stamp∧∀ (l:Nat) s,l<i→ts[l]?=some s→s.place=4→last<s.stamp→t.stamp≤s.stamp)
theorem BsU.start (ts:List Th) (last:Int):BsU ts last 0 (-1):=Or.inl ⟨rfl,fun _ _ h=>absurd h (Nat.not_lt_zero _)⟩
theorem BsU.skip {ts:List Th} {last:Int} {i:Nat} {best:Int} {s:Th} (h:BsU ts last i best) (hs:ts[i]?=some s) (hn:¬(s.place=4∧last<s.stamp)):BsU ts last (i+1) best:=by
 rcases h with ⟨e,h⟩ | ⟨b,t,e,hb,ht,h4,hl,h⟩
 ·refine Or.inl ⟨e,fun l u hli hu p=>?_⟩
  by_cases q:l=i
  ·subst q
   rw[hs] at hu
   cases hu
   exact fun z=>hn ⟨p,z⟩
  ·exact h l u (by omega) hu p
 ·refine Or.inr ⟨b,t,e,by omega,ht,h4,hl,fun l u hli hu p z=>?_⟩
  by_cases q:l=i
  ·subst q
   rw[hs] at hu
   cases hu
   exact absurd ⟨p,z⟩ hn
  ·exact h l u (by omega) hu p z
theorem BsU.first {ts:List Th} {last:Int} {i:Nat} {s:Th} (h:BsU ts last i (-1)) (hs:ts[i]?=some s) (h4:s.place=4) (hl:last<s.stamp):BsU ts last (i+1) (i:Int):=by
 rcases h with ⟨-,h⟩ | ⟨b,t,e,_⟩
 ·refine Or.inr ⟨i,s,rfl,by omega,hs,h4,hl,fun l u hli hu p z=>?_⟩
  by_cases q:l=i
  ·subst q
   rw[hs] at hu
   cases hu
   exact Int.le_refl _
  ·exact absurd z (h l u (by omega) hu p)
 ·omega
theorem BsU.less {ts:List Th} {last:Int} {i b:Nat} {s t:Th} (h:BsU ts last i (b:Int)) (ht:ts[b]?=some t) (hs:ts[i]?=some s) (h4:s.place=4) (hl:last<s.stamp) (hlt:s.stamp<t.stamp):BsU ts last (i+1) (i:Int):=by
 rcases h with ⟨e,_⟩ | ⟨b',t',e,hb,ht',h4',hl',h⟩
 ·omega
 ·obtain rfl:b=b':=by omega
  rw[ht] at ht'
  cases ht'
  refine Or.inr ⟨i,s,rfl,by omega,hs,h4,hl,fun l u hli hu p z=>?_⟩
  by_cases q:l=i
  ·subst q
   rw[hs] at hu
   cases hu
   exact Int.le_refl _
  ·have:=h l u (by omega) hu p z
   omega
theorem BsU.more {ts:List Th} {last:Int} {i b:Nat} {s t:Th} (h:BsU ts last i (b:Int)) (ht:ts[b]?=some t) (hs:ts[i]?=some s) (hge:¬s.stamp<t.stamp):BsU ts last (i+1) (b:Int):=by
 rcases h with ⟨e,_⟩ | ⟨b',t',e,hb,ht',h4',hl',h⟩
 ·omega
 ·obtain rfl:b=b':=by omega
  have ht2:=ht'
  rw[ht] at ht'
  cases ht'
  refine Or.inr ⟨b,t,rfl,by omega,ht2,h4',hl',fun l u hli hu p z=>?_⟩
  by_cases q:l=i
  ·subst q
   rw[hs] at hu
   cases hu
   omega
  ·exact h l u (by omega) hu p z
theorem row_at {n:Int} {cd:Int→Hd×List Pt} {ts:List Th} {fs:List Fe} {R:List Rw} (h:Tab n cd ts fs R) {l:Nat} {s:Th} (hs:ts[l]?=some s) (h4:s.place=4):∃ q,q<R.length∧(R.getD q Rw.none).st=s.stamp∧(R.getD q Rw.none).nu=(l:Int)+1:=by
 obtain⟨q,hq,e⟩:=List.getElem_of_mem (h.row_in hs h4)
 exact⟨q,hq,by rw[getD_in hq,e],by rw[getD_in hq,e]⟩
theorem st_mono {n:Int} {cd:Int→Hd×List Pt} {ts:List Th} {fs:List Fe} {R:List Rw} (h:Tab n cd ts fs R) {a b:Nat} (hb:b<R.length) (hab:a<b):(R.getD a Rw.none).st<(R.getD b Rw.none).st:=by
 rw[getD_in hb,getD_in (Nat.lt_trans hab hb)]
 exact List.pairwise_iff_getElem.1 h.up a b _ _ hab
theorem last_lt' {n:Int} {cd:Int→Hd×List Pt} {ts:List Th} {fs:List Fe} {R:List Rw} (h:Tab n cd ts fs R) {k q:Nat} (hk:k≤R.length) (hq:q<R.length):lastR R k<(R.getD q Rw.none).st↔k≤q:=by
 unfold lastR
 by_cases h0:k=0
 ·rw[if_pos h0]
  have:=(h.thing hq).2.2.1
  exact⟨fun _=>by omega,fun _=>this⟩
 ·rw[if_neg h0]
  constructor
  ·intro z
   refine Nat.le_of_not_lt fun y=>?_
   by_cases e:q=k - 1
   ·rw[e] at z
    omega
   ·have:=st_mono h (a:=q) (b:=k - 1) (by omega) (by omega)
    omega
  ·intro z
   exact st_mono h hq (by omega)
theorem BsU.end {n:Int} {cd:Int→Hd×List Pt} {ts:List Th} {fs:List Fe} {R:List Rw} {best:Int} {k:Nat} (h:Tab n cd ts fs R) (hk:k≤R.length) (B:BsU ts (lastR R k) ts.length best):(k=R.length∧best=-1)∨(k<R.length∧∃ (b:Nat) (t:Th),best=(b:Int)∧ts[b]?=some t∧t.stamp=(R.getD k Rw.none).st∧(R.getD k Rw.none).nu=(b:Int)+1):=by
 rcases B with ⟨e,B⟩ | ⟨b,t,e,hb,ht,h4,hl,B⟩
 ·refine Or.inl ⟨?_,e⟩
  refine Nat.le_antisymm hk (Nat.le_of_not_lt fun z=>?_)
  obtain⟨j,s,hs,s4,hn,hst⟩:=h.from (show R.getD k Rw.none∈R by rw[getD_in z];exact List.getElem_mem _)
  exact B j s (List.getElem?_eq_some_iff.1 hs).1 hs s4 (by rw[←hst];exact(last_lt' h hk z).2 (Nat.le_refl _))
 ·obtain⟨q,hq,q1,q2⟩:=row_at h ht h4
  have hkq:k≤q:=(last_lt' h hk hq).1 (by rw[q1];exact hl)
  have hkl:k<R.length:=Nat.lt_of_le_of_lt hkq hq
  obtain⟨j,s,hs,s4,hn,hst⟩:=h.from (show R.getD k Rw.none∈R by rw[getD_in hkl];exact List.getElem_mem _)
  have hle:=B j s (List.getElem?_eq_some_iff.1 hs).1 hs s4 (by rw[←hst];exact(last_lt' h hk hkl).2 (Nat.le_refl _))
  have hqk:q=k:=by
   refine Nat.le_antisymm (Nat.le_of_not_lt fun z=>?_) hkq
   have:=st_mono h hq z
   omega
  subst hqk
  exact Or.inr ⟨hkl,b,t,e,ht,q1.symm,q2⟩
def lenS:Value→Nat
 | .slice _ n _=>n
 | _=>0
theorem nus_next {R:List Rw} {k:Nat} (h:k<R.length):(R.take (k+1)).map Rw.nu=(R.take k).map Rw.nu++[(R.getD k Rw.none).nu]:=by
 rw[List.take_add_one,List.getElem?_eq_getElem h,getD_in h,Option.toList_some,List.map_append]
 rfl
def nusL (R:List Rw) (k:Nat):List Int:=(R.take k).map Rw.nu
theorem nusL_len {R:List Rw} {k:Nat} (h:k≤R.length):(nusL R k).length=k:=by
 unfold nusL
 rw[List.length_map,List.length_take,Nat.min_eq_left h]
theorem rec_thW {w:World} {g off n c:Nat} {X:List Th} (h:thR.At w (.slice (some ⟨g,off,none⟩) n c) X) {i:Nat} {x:Th} (hx:X[i]?=some x):w.rangeAt g (off+i*11) (thc x):=by
 obtain⟨hi,e⟩:=List.getElem?_eq_some_iff.1 hx
 obtain⟨g',off',cap,e1,r⟩:=th_there h hi
 injection e1 with e1 _ _
 injection e1 with e1
 injection e1 with ea eb
 rw[ea,eb,←e]
 exact r
theorem rorder_any (vt:Value) (n:Int) (cd:Int→Hd×List Pt) (ts:List Th) (F:List Fe) (R:List Rw) (w:World) (A:thR.At w vt ts) (hT:Tab n cd ts F R) (hl:ts.length≤2048):Calls Tryz.prog 168 #[vt] w fun e w'=>∃ v,e=.returned v∧LOwnI w' w.heap.size v (R.map Rw.nu)∧w.grownBy w' none:=by
 obtain⟨i0,hi,hz0,hz1,hz2⟩:=info_parts Tryz.linfo3
 obtain⟨pt,ct,rfl⟩:=A.form
 have HA:Hid (thR.At w (.slice pt ts.length ct) ts∧Tab n cd ts F R∧ts.length≤2048):=⟨A,hT,hl⟩
 clear A hT hl
 go_enter Tryz.func168,Tryz.ntmps168
 go_wp2_with fail
 go_loopw [3,4,5,6] (fun v y _ _ wr=>∃ (k:Nat) (p:Option Addr) (c:Nat),k≤R.length∧v=.slice p k c∧y=.int .i64 (lastR R k)∧Hid (LOwnI wr w.heap.size (.slice p k c) (nusL R k)∧w.grownBy wr none)) (fun v _ _ _ _=>R.length - lenS v)
 case atStart=>exact⟨0,none,0,Nat.zero_le _,rfl,rfl,⟨rfl,Or.inl ⟨rfl,rfl⟩⟩,grown_refl _ _⟩
 case round =>
  obtain⟨k,p,c,hk',rfl,rfl,HK⟩:=hrel
  obtain⟨U,hU⟩:∃ U,U=wr:=⟨_,rfl⟩
  subst hU
  have Hk:Hid (k≤R.length):=hk'
  obtain⟨la,hla⟩:∃ la,la=lastR R k:=⟨_,rfl⟩
  have Hla:Hid (la=lastR R k):=hla
  rw[←hla]
  clear hk' hla
  go_upto_block 2 with fail
  go_cut [5,6] from 7 to 45 (fun y _ wc=>∃ best:Int,y=.int .i64 best∧BsU ts la ts.length best∧U.grownBy wc none)
  case first =>
   go_wp2_with fail
   go_loopw [5,6] (fun y z wr=>∃ (i:Nat) (best:Int),i≤ts.length∧z=.int .i64 (i:Int)∧y=.int .i64 best∧Hid (BsU ts la i best∧U.grownBy wr none)) (fun _ z _=>ts.length - (intOf z).toNat)
   case atStart=>exact⟨0,-1,Nat.zero_le _,rfl,rfl,BsU.start _ _,grown_refl _ _⟩
   case round =>
    obtain⟨i,best,hi',rfl,rfl,HB⟩:=hrel
    obtain⟨Q,hQ⟩:∃ Q,Q=wr:=⟨_,rfl⟩
    subst hQ
    by_cases hi2:i<ts.length
    ·have i1:(i:Int)<(ts.length:Int):=Int.ofNat_lt.2 hi2
     have hwk:=wrap_next (k:=i) (Nat.le_trans (Nat.le_of_lt hi2) (Nat.le_trans HA.out.2.2 (by decide)))
     have HM:Hid (ts.length - (intOf (.int .i64 ((i:Int)+1))).toNat<ts.length - (intOf (.int .i64 (i:Int))).toNat):=meas_k hi2
     obtain⟨gT,oT,cT,eT,-⟩:=th_there HA.out.1 hi2
     injection eT with eT eT2 eT3
     clear eT2 eT3
     subst eT
     obtain⟨s,hs⟩:∃ s,ts[i]?=some s:=⟨_,List.getElem?_eq_getElem hi2⟩
     have gQ:=grown_trans HK.out.2 HB.out.2
     obtain⟨-,-,s2,s3,-⟩:=th_cells (rec_thW (HA.out.1.keep gQ) hs)
     have Hs:Hid (ts[i]?=some s∧i<ts.length):=⟨hs,hi2⟩
     clear hi' hi2 hs
     by_cases h4:s.place=4
     ·have e1:(s.place == 4)=true:=by rw[h4];rfl
      by_cases h5:la<s.stamp
      ·have e2:decide (la<s.stamp)=true:=decide_eq_true h5
       rcases id HB.out.1 with ⟨eb,-⟩ | ⟨b,t,eb,hbi,ht,-⟩
       ·subst eb
        have HN:Hid (BsU ts la (i+1) (i:Int)):=HB.out.1.first Hs.out.1 h4 h5
        rw[h4] at s2
        clear h4 h5
        go_upto_region 7 with fail
        go_quiet (fail)
        clear s2 s3 e1 e2
        go_wp2_with fail
        go_roundw
        case rel=>exact⟨i+1,(i:Int),Hs.out.2,by first | rfl | (rw[hwk];rfl) | go_num,rfl,HN.out,grown_trans HB.out.2 (grown_drewN _ _ _)⟩
        case measure=>first | exact HM.out | (rw[hwk];exact HM.out)
       ·subst eb
        obtain⟨-,-,-,t3,-⟩:=th_cells (rec_thW (HA.out.1.keep gQ) ht)
        have b0:¬((b:Int)<0):=by omega
        have b1:(b:Int)<(ts.length:Int):=by have:=Hs.out.2;omega
        have b2:(0:Int)≤(b:Int):=by omega
        by_cases h6:s.stamp<t.stamp
        ·have e3:decide (s.stamp<t.stamp)=true:=decide_eq_true h6
         have HN:Hid (BsU ts la (i+1) (i:Int)):=HB.out.1.less ht Hs.out.1 h4 h5 h6
         rw[h4] at s2
         clear h4 h5 h6 hbi ht
         go_upto_region 7 with fail
         go_quiet (fail)
         clear s2 s3 t3 e1 e2 e3
         go_wp2_with fail
         go_roundw
         case rel=>exact⟨i+1,(i:Int),Hs.out.2,by first | rfl | (rw[hwk];rfl) | go_num,rfl,HN.out,grown_trans HB.out.2 (grown_drewN _ _ _)⟩
         case measure=>first | exact HM.out | (rw[hwk];exact HM.out)
        ·have e3:decide (s.stamp<t.stamp)=false:=decide_eq_false h6
         have HN:Hid (BsU ts la (i+1) (b:Int)):=HB.out.1.more ht Hs.out.1 h6
         rw[h4] at s2
         clear h4 h5 h6 hbi ht
         go_upto_region 7 with fail
         go_quiet (fail)
         clear s2 s3 t3 e1 e2 e3
         go_wp2_with fail
         go_roundw
         case rel=>exact⟨i+1,(b:Int),Hs.out.2,by first | rfl | (rw[hwk];rfl) | go_num,rfl,HN.out,grown_trans HB.out.2 (grown_drewN _ _ _)⟩
         case measure=>first | exact HM.out | (rw[hwk];exact HM.out)
      ·have e2:decide (la<s.stamp)=false:=decide_eq_false h5
       have HN:Hid (BsU ts la (i+1) best):=HB.out.1.skip Hs.out.1 (fun q=>h5 q.2)
       rw[h4] at s2
       clear h4 h5
       go_upto_region 7 with fail
       go_quiet (fail)
       clear s2 s3 e1 e2
       go_wp2_with fail
       go_roundw
       case rel=>exact⟨i+1,best,Hs.out.2,by first | rfl | (rw[hwk];rfl) | go_num,rfl,HN.out,grown_trans HB.out.2 (grown_drewN _ _ _)⟩
       case measure=>first | exact HM.out | (rw[hwk];exact HM.out)
     ·have e1:(s.place == 4)=false:=by simpa using h4
      have HN:Hid (BsU ts la (i+1) best):=HB.out.1.skip Hs.out.1 (fun q=>h4 q.1)
      clear h4
      go_upto_region 7 with fail
      go_quiet (fail)
      clear s2 s3 e1
      go_wp2_with fail
      go_roundw
      case rel=>exact⟨i+1,best,Hs.out.2,by first | rfl | (rw[hwk];rfl) | go_num,rfl,HN.out,grown_trans HB.out.2 (grown_drewN _ _ _)⟩
      case measure=>first | exact HM.out | (rw[hwk];exact HM.out)
    ·obtain rfl:i=ts.length:=Nat.le_antisymm hi' (Nat.le_of_not_lt hi2)
     have i1:¬(ts.length:Int)<(ts.length:Int):=Int.lt_irrefl _
     have HE:Hid (BsU ts la ts.length best∧U.grownBy Q none):=HB.out
     clear hi' hi2 HB
     go_wp2_with fail
     go_meet
     case rel=>exact⟨best,rfl,HE.out.1,HE.out.2⟩
  case rest =>
   obtain⟨best,rfl,hB,hG⟩:=hcut
   obtain⟨X,hX⟩:∃ X,X=wc:=⟨_,rfl⟩
   subst hX
   have HX:Hid (LOwnI X w.heap.size (.slice p k c) (nusL R k)∧w.grownBy X none):=⟨own_grow HK.out.1 hG,grown_trans HK.out.2 hG⟩
   rw[Hla.out] at hB
   have he:=BsU.end HA.out.2.1 Hk.out hB
   clear hB hG HK
   rcases he with ⟨ek,rfl⟩ | ⟨hkl,b,t,rfl,ht,hst,hnu⟩
   ·have HF:Hid (LOwnI X w.heap.size (.slice p k c) (R.map Rw.nu)∧w.grownBy X none):=⟨by have h9:=HX.out.1;unfold nusL at h9;rw[ek,List.take_length] at h9;rw[ek];exact h9,HX.out.2⟩
    clear ek HX
    go_wp2_with fail
    go_ret
    exact⟨_,rfl,HF.out.1,HF.out.2⟩
   ·have hbl:b<ts.length:=(List.getElem?_eq_some_iff.1 ht).1
    have b0:¬((b:Int)<0):=by omega
    have b1:(b:Int)<(ts.length:Int):=by omega
    have b2:(0:Int)≤(b:Int):=by omega
    have hwb:=wrap_next (k:=b) (Nat.le_trans (Nat.le_of_lt hbl) (Nat.le_trans HA.out.2.2 (by decide)))
    obtain⟨gT,oT,cT,eT,-⟩:=th_there HA.out.1 hbl
    injection eT with eT eT2 eT3
    clear eT2 eT3
    subst eT
    have HY:Hid (k<R.length∧ts[b]?=some t∧t.stamp=lastR R (k+1)∧nusL R (k+1)=nusL R k++[(b:Int)+1]∧R.length≤16):=⟨hkl,ht,by rw[lastR_next];exact hst,by unfold nusL;rw[nus_next hkl,hnu],HA.out.2.1.few⟩
    have HO:Hid (X.ownsRow w.heap.size 3 1 (.slice p k c) k (ints (nusL R k))):=by
     have h9:=HX.out.1
     unfold LOwnI at h9
     rw[nusL_len Hk.out] at h9
     exact h9
    have HLn:Hid (k+1≤maxLen∧(k+1)*8≤140737488355328∧w.heap.size≤(X.alloc (.cells #[.int .i64 ((b:Int)+1)] 3)).heap.size):=⟨by have:=HY.out.2.2.2.2;have:=HY.out.1;unfold maxLen;omega,by have:=HY.out.2.2.2.2;have:=HY.out.1;omega,Nat.le_trans HX.out.2.size (World.grownBy_alloc X (.cells #[.int .i64 ((b:Int)+1)] 3) none).size⟩
    have HSr:Hid (Src (X.alloc (.cells #[.int .i64 ((b:Int)+1)] 3)) (.slice (some ⟨X.heap.size,0,none⟩) 1 1) 1 1 (ints [(b:Int)+1])):=⟨_,_,rfl,rfl,fun _=>⟨_,rfl,lone_new X _⟩⟩
    clear hkl ht hst hnu hbl
    go_upto_region 12 with (at_builtin;refine lwpl_app (by rfl) (.tmp 49) (.tmp 52) 139 rfl w.heap.size 3 i0 _ 1 8 Tryz.underlying139 hi hz0 hz1 hz2 rfl (by decide) _ k (ints (nusL R k)) rfl (World.ownsRow.alloc HO.out _) _ 1 (ints [(b:Int)+1]) rfl HSr.out (lints_one _) HLn.out.1 HLn.out.2.1 HLn.out.2.2 ?_;intro v9 w9 o9 g9 _;obtain⟨pv,kv,rfl,-⟩:=own_slice o9;have HO9:Hid _:=o9;have HG9:Hid _:=g9;clear o9 g9)
    have HZ:Hid (LOwnI w9 w.heap.size (.slice pv (k+1) kv) (nusL R (k+1))∧w.grownBy w9 none):=by
     refine⟨?_,grown_own (grown_trans HX.out.2 (World.grownBy_alloc X (.cells #[.int .i64 ((b:Int)+1)] 3) none)) HG9.out (fun y e=>(World.ownsRow.lt (World.ownsRow.alloc HO.out (.cells #[.int .i64 ((b:Int)+1)] 3)) y e).1)⟩
     rw[HY.out.2.2.2.1]
     exact lown_more HO9.out (nusL_len Hk.out).symm
    obtain⟨-,-,-,t3,-⟩:=th_cells (rec_thW (HA.out.1.keep HZ.out.2) HY.out.2.1)
    clear HO9 HG9 HO HX HSr HLn
    go_wp2_with fail
    go_roundw
    case rel=>exact⟨k+1,pv,kv,HY.out.1,rfl,by rw[HY.out.2.2.1],HZ.out.1,HZ.out.2⟩
    case measure=>show R.length - (k+1)<R.length - k;have:=HY.out.1;omega
end Go.Proofs.YthfjgpjcepmnmaaGreat
