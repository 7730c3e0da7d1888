import Derived.Test.YtjmepebbcnhalaaGreatZTgR
import Derived.Test.YtjmepebbcnhalaaGreatZ25
namespace Go.Proofs.YtjmepebbcnhalaaGreat
open Tryz
open Go.RowKit Go.Shelf
variable {w:World} {c k base g i off:Nat} {f:Fe} {ts:List Th} {t:Th} {n:Int} {cd:Int→Hd×List Pt} {fs:List Fe} {R:List Rw}
theorem aB.At.take {α:Type} {R:aB α} {p:Option Addr} {n:Nat} {l:List α} (h:R.At w (.slice p n c) l) (m:Nat) (hm:m≤n):R.At w (.slice p m c) (l.take m):=by
 obtain⟨p',c',e,hl,h1⟩:=h;injection e with e1 e2 e3;subst e1;subst e3;have hlm:(l.take m).length=m:=by rw[Qam];omega
 refine⟨p,c,by rw[hlm],by rw[hlm];omega,fun h0=>?_⟩;rw[hlm] at h0;obtain⟨g,off,e,hc⟩:=h1 (by omega)
 exact⟨g,off,e,fun j x hj=>hc j x (by
  rw[Qd9] at hj;split at hj
  ·exact hj
  ·cases hj)⟩
def dJ (h:Nat→Fe) (n k:Nat):List Fe:=(List.range n).map fun i=>if i<k then h i else Fe.none
theorem jB (h:Nat→Fe) (n k:Nat):(dJ h n k).length=n:=by simp[dJ]
theorem pU (h:Nat→Fe) (n:Nat):dJ h n 0=List.replicate n Fe.none:=by
 refine Qci (by simp[dJ]) fun i h1 h2=>?_;simp[dJ]
theorem rt {h:Nat→Fe} {n:Nat} (e:h k=f):(dJ h n k).set k f=dJ h n (k+1):=by
 refine Qci (by simp[dJ]) fun i h1 h2=>?_;rw[List.getElem_set];simp only[dJ,List.getElem_map,List.getElem_range];by_cases q:k=i
 ·subst q;rw[if_pos rfl,if_pos (by omega),e]
 ·rw[if_neg q];by_cases z:i<k
  ·rw[if_pos z,if_pos (by omega)]
  ·rw[if_neg z,if_neg (by omega)]
theorem ot {h:Nat→Fe} {n:Nat} (e:h k=Fe.none):dJ h n (k+1)=dJ h n k:=by
 unfold dJ;refine Qd4 fun i _=>?_;by_cases q:i=k
 ·subst q;rw[if_pos (by omega),if_neg (by omega),e]
 ·by_cases z:i<k
  ·rw[if_pos z,if_pos (by omega)]
  ·rw[if_neg z,if_neg (by omega)]
theorem qt (h:Nat→Fe) (n:Nat):dJ h n n=(List.range n).map h:=by
 unfold dJ;exact Qd4 fun i hi=>if_pos (Qdb.1 hi)
theorem BL:∀ r,r<5→(fec Fe.none)[r]?=some ((#[.int .i64 0,.int .u8 0,.int .u16 0,.int .i64 0,.int .i64 0]:Array Value)[r]!)
 | 0,_=>rfl
 | 1,_=>rfl
 | 2,_=>rfl
 | 3,_=>rfl
 | 4,_=>rfl
 | n+5,h=>by omega
theorem Ew (n:Nat):(madeCells (Value.agg #[.int .i64 0,.int .u8 0,.int .u16 0,.int .i64 0,.int .i64 0]).cells (n*5)).toList=feR.cs (List.replicate n Fe.none):=by
 refine Qc2 fun i=>?_;by_cases hi:i<n*5
 ·have h1:=feR.at' (l:=List.replicate n Fe.none) (j:=i / 5) (x:=Fe.none) (by rw[List.getElem?_replicate,if_pos (by omega)]) (i % 5) (show i % 5<5 by omega);have h2:(feR.cs (List.replicate n Fe.none))[i / 5*5+i % 5]?=(fec Fe.none)[i % 5]?:=h1;rw[show i / 5*5+i % 5=i by omega,BL _ (by omega)] at h2;rw[h2];show ((Array.range (n*5)).map _).toList[i]?=_;rw[Array.toList_map,Qak,Array.toList_range,Qd5 hi];rfl
 ·rw[Qan (by rw[Qbn,size_madeCells];omega),Qan (by rw[feR.len,List.length_replicate];show n*5≤i;omega)]
theorem tf {V:World} {n:Nat} (h:V.ownsRow base 122 5 (.slice (some ⟨g,0,none⟩) n n) n (madeCells (Value.agg #[.int .i64 0,.int .u8 0,.int .u16 0,.int .i64 0,.int .i64 0]).cells (n*5)).toList):cJ V base (.slice (some ⟨g,0,none⟩) n n) (List.replicate n Fe.none):=by
 unfold cJ aB.Own;rw[List.length_replicate,←Ew];exact h
theorem DQ (pf:Th→Fe) (ts:List Th):dJ (fun i=>xH pf (ts.getD i Th.none)) ts.length ts.length=dR pf ts:=by
 rw[qt];unfold dR;refine Qci (by simp) fun i h1 h2=>?_;simp only[List.getElem_map,List.getElem_range];rw[aG (by simpa using h2)]
theorem kG {n:Nat} {L:List Fe} (h:cJ w base (.slice (some ⟨g,0,none⟩) n n) L) (hn:L.length=n) (hk:k<n):w.there g (k*5) 5:=aB.Own.there h hn hk
theorem pK {n:Nat} {L:List Fe} (h:cJ w base (.slice (some ⟨g,0,none⟩) n n) L) (hn:L.length=n) (hk:k<n) (f:Fe):cJ (w.setCells g (k*5) (fec f)) base (.slice (some ⟨g,0,none⟩) n n) (L.set k f)∧w.grownBy (w.setCells g (k*5) (fec f)) (some g):=aB.Own.set h hn hk f
set_option maxRecDepth 100000
set_option maxHeartbeats 4000000
theorem oN (ok:Nat→Prop) (r:Nat) (vr:Value) (p:Pl) (gs:List Ent) (v:Value) (us:List Th) (w:World) (B:RD ok w r vr p gs) (A:thR.At w v us) (hl:us.length≤2048):Calls prog 158 #[.pointer (some ⟨r,0,none⟩),v] w fun e w'=>∃ v' b,e=.returned (.tuple #[v',.bool b])∧w.grownBy w' none∧((b=true∧cJ w' w.heap.size v' (dR (pfR p gs) us)∧∀ t∈us,ptR p gs t=0)∨(b=false∧v'=.slice none 0 0∧∃ t∈us,¬ptR p gs t=0)):=by
 obtain⟨i0,hi,hz0,hz1,hz2⟩:=info_parts linfoF;obtain⟨pt,c,rfl⟩:=A.form;obtain⟨h,hh⟩:∃ h:Nat→Fe,h=fun i=>xH (pfR p gs) (us.getD i Th.none):=⟨_,rfl⟩
 have Hh:QH (h=fun i=>xH (pfR p gs) (us.getD i Th.none)):=hh;have HA:QH (thR.At w (.slice pt us.length c) us):=A;have HP:QH (∀ X t,w.grownBy X none→Calls prog 225 #[.pointer (some ⟨r,0,none⟩),thv t] X fun e w'=>e=.returned (.tuple #[fev (pfR p gs t),.int .i64 (ptR p gs t)])∧X.grownBy w' none):=fun X t g=>ve _ t _ _ _ X fun Y q=>jV ok r vr p gs t Y (B.keep (aa g q));have Hl:QH (us.length≤2048):=hl;have Hbb:QH (i0.bytes*us.length≤281474976710656):=by show i0.bytes*us.length≤_;rw[hz2];omega
 have Hbm:QH (us.length≤maxLen):=by show us.length≤maxLen;unfold maxLen;omega
 clear A B hl hh;go_enter func158,ntmps158;go_wp2_with (at_make;refine wpList_make_full _ rfl _ _ 27 rfl w.heap.size 122 i0 _ 5 underlying27 hi hz0 hz1 .i64 .i64 _ _ us.length rfl rfl rfl rfl Hbb.o Hbm.o (Qj _) ?_;intro V o1 gv;have HF0:QH (cJ V w.heap.size (.slice (some ⟨w.heap.size,0,none⟩) us.length us.length) (List.replicate us.length Fe.none)):=tf o1;have HGV:QH (w.grownBy V none):=gv;clear o1 gv)
 obtain⟨g0,h0⟩:=Qe (w.heap.size);have Hg0:QH (g0=w.heap.size):=h0;simp only[←h0] at HF0 ⊢;clear h0;go_loopw [7,8,9] (fun i _ _ wr=>∃ k:Nat,k≤us.length∧i=.int .i64 (k:Int)∧cJ wr g0 (.slice (some ⟨g0,0,none⟩) us.length us.length) (dJ h us.length k)∧w.grownBy wr none∧QH (∀ t∈us.take k,ptR p gs t=0)) (fun i _ _ _=>us.length - (intOf i).toNat)
 case atStart=>exact⟨0,Q0 _,rfl,by rw[pU];exact HF0.o,HGV.o,fun t ht=>by simp at ht⟩
 case round =>
  obtain⟨k,hk,rfl,O,G,HE⟩:=hrel;obtain⟨U,hU⟩:=Qe (wr);subst hU;have HO:QH (cJ U g0 (.slice (some ⟨g0,0,none⟩) us.length us.length) (dJ h us.length k)):=O;have HG:QH (w.grownBy U none):=G;by_cases hlt:k<us.length
  ·obtain⟨g,off,cap,e1,R⟩:=bz (HA.o.keep G) hlt;cases e1;obtain⟨t,ht⟩:=Qe (us[k]);rw[←ht] at R;have HT:QH (h k=xH (pfR p gs) t∧t∈us∧us.take (k+1)=us.take k++[t]):=⟨by rw[Hh.o,ht];show xH (pfR p gs) (us.getD k Th.none)=_;rw[aG hlt],by rw[ht];exact Qab hlt,by rw[Qat,Qg hlt,ht];rfl⟩
   obtain⟨c0,c1,c2,c3,c4,c5,c6,c7,c8,c9,c10⟩:=aZ R;have C:=HP.o U t HG.o;obtain⟨f,hf⟩:=Qe (pfR p gs t);obtain⟨x,hx⟩:=Qe (ptR p gs t);have HX:QH (f=pfR p gs t∧x=ptR p gs t):=⟨hf,hx⟩
   rw[←hf,←hx] at C;unfold thv fev at C;have HR:QH (U.rangeAt g (off+k*11) (thc t)):=R;have hlt':(k:Int)<us.length:=Int.ofNat_lt.2 hlt;have hwk:=aR (k:=k) (Ql (Qaf hlt) (Ql Hl.o (by decide)));have Hlt:QH (k<us.length):=hlt;have HM:QH (us.length - (intOf (.int .i64 ((k:Int)+1))).toNat<us.length - (intOf (.int .i64 (k:Int))).toNat):=cj hlt;clear O G R ht hf hx hlt hk;go_wp2_with fail;refine C.mono ?_;rintro e2 w2 ⟨rfl,g2⟩;obtain⟨Y,hY⟩:=Qe (w2.alloc (.cells #[.int .i64 f.ho,.int .u8 f.su,.int .u16 f.tr,.int .i64 f.po,.int .i64 f.he] 122))
   have HY:QH (FeB Y w2.heap.size f∧cJ Y g0 (.slice (some ⟨g0,0,none⟩) us.length us.length) (dJ h us.length k)∧w.grownBy Y none∧Y.rangeAt g (off+k*11) (thc t)∧¬w2.heap.size=g0):=by
    have q:U.grownBy Y none:=(by rw[hY];exact am g2 _);exact⟨by rw[hY];exact aj _ _ _,aC HO.o q,aa HG.o q,bQ HR.o q,fun e=>by have:=(aB.Own.lt HO.o g0 rfl).2;have:=g2.size;omega⟩
   clear C g2 c0 c1 c2 c3 c4 c5 c6 c7 c8 c9 c10 HO HG HR;go_upto_region 6 with fail;rw[←hY];obtain⟨nb,hnb⟩:=Qe (w2.heap.size);rw[←hnb] at HY ⊢;clear hY hnb;by_cases hx:x=0
   ·have ex:(x != 0)=false:=by rw[hx];rfl
    have HN:QH (∀ u∈us.take (k+1),ptR p gs u=0):=fun u hu=>by
     rw[HT.o.2.2,Qd2,Qby] at hu
     rcases hu with q | q
     ·exact HE.o u q
     ·rw[q,←HX.o.2];exact hx
    clear hx;obtain⟨c0,c1,c2,c3,c4,c5,c6,c7,c8,c9,c10⟩:=aZ HY.o.2.2.2.1;by_cases hp:t.place=4
    ·have hpb:(t.place == 4)=true:=(by rw[hp];rfl);have HF:QH (h k=f):=HT.o.1.trans ((if_pos hp).trans HX.o.1.symm);clear hp;obtain⟨b0,b1,b2,b3,b4⟩:=kq HY.o.1;obtain⟨u0,u1,u2,u3,u4,y0,y1,y2,y3,y4,q0,q1,q2,q3,q4⟩:=wT (kG HY.o.2.1 (jB h _ k) Hlt.o);obtain⟨Z,hZ⟩:=Qe (((((Y.setCell ⟨g0,k*5,none⟩ (.int .i64 f.ho)).setCell ⟨g0,k*5+1,none⟩ (.int .u8 f.su)).setCell ⟨g0,k*5+2,none⟩ (.int .u16 f.tr)).setCell ⟨g0,k*5+3,none⟩ (.int .i64 f.po)).setCell ⟨g0,k*5+4,none⟩ (.int .i64 f.he));have q:=pK HY.o.2.1 (jB h _ k) Hlt.o f;rw[show Y.setCells g0 (k*5) (fec f)=Z from by rw[hZ];rfl] at q;have HQ:QH (cJ Z g0 (.slice (some ⟨g0,0,none⟩) us.length us.length) (dJ h us.length (k+1))∧w.grownBy Z none):=⟨by rw[←rt HF.o];exact q.1,ak HY.o.2.2.1 q.2 (fun y e=>by cases e;rw[Hg0.o];exact Qj _)⟩
     clear q;go_upto_region 9 with fail;clear c0 c1 c2 c3 c4 c5 c6 c7 c8 c9 c10 hpb ex;go_upto_region 4 with fail;rw[←hZ];clear hZ y0 y1 y2 y3 y4 q0 q1 q2 q3 q4 b0 b1 b2 b3 b4;go_wp2_with fail;go_roundw
     case rel=>exact⟨k+1,Hlt.o,by first | rfl | (rw[hwk];rfl) | go_num,HQ.o.1,HQ.o.2,HN⟩
     case measure=>first | exact HM.o | (rw[hwk];exact HM.o)
    ·have hpb:(t.place == 4)=false:=(by simpa using hp);have HF:QH (h k=Fe.none):=HT.o.1.trans (if_neg hp);have HQ:QH (cJ Y g0 (.slice (some ⟨g0,0,none⟩) us.length us.length) (dJ h us.length (k+1))∧w.grownBy Y none):=⟨by rw[ot HF.o];exact HY.o.2.1,HY.o.2.2.1⟩
     clear hp HF;go_wp2_with fail;go_roundw
     case rel=>exact⟨k+1,Hlt.o,by first | rfl | (rw[hwk];rfl) | go_num,HQ.o.1,HQ.o.2,HN⟩
     case measure=>first | exact HM.o | (rw[hwk];exact HM.o)
   ·have ex:(x != 0)=true:=(by simpa using hx);have HN:QH (∃ u∈us,¬ptR p gs u=0):=⟨t,HT.o.2.1,by rw[←HX.o.2];exact hx⟩
    clear hx;go_wp2_with fail;go_ret2;exact⟨_,_,rfl,HY.o.2.2.1,Or.inr ⟨rfl,rfl,HN.o⟩⟩
  ·obtain rfl:k=us.length:=Qag hk (Qac hlt);have HF:QH (cJ U w.heap.size (.slice (some ⟨g0,0,none⟩) us.length us.length) (dR (pfR p gs) us)∧w.grownBy U none∧∀ t∈us,ptR p gs t=0):=⟨by rw[←DQ,←Hh.o,←Hg0.o];exact O,G,by have:=HE.o;rwa [Qas] at this⟩
   clear O G hk hlt;go_wp2_with fail;go_ret2;exact⟨_,_,rfl,HF.o.2.1,Or.inl ⟨rfl,HF.o.1,HF.o.2.2⟩⟩
end Go.Proofs.YtjmepebbcnhalaaGreat
namespace Go.Proofs.YtjmepebbcnhalaaGreat
open Tryz
set_option maxHeartbeats 1000000
open Go.RowKit
variable {w:World} {c k base g i off:Nat} {f:Fe} {ts:List Th} {t:Th} {n:Int} {cd:Int→Hd×List Pt} {fs:List Fe} {R:List Rw}
theorem ln (k:Int) (w:World):Calls prog 170 #[.int .u8 k] w fun e w'=>e=.returned (.int .u16 (nI k))∧w'=w:=by
 rcases oK k with h | h
 ·rcases h with rfl | rfl | rfl | rfl | rfl | rfl | rfl | rfl
  all_goals
   go_enter func170,ntmps170;go_wp2;go_ret;exact⟨rfl,rfl⟩
 ·rw[rZ h]
  rcases h with h | h
  ·have e1:decide (k<1)=true:=Qy h;clear h;go_enter func170,ntmps170;go_wp2;go_ret;exact⟨rfl,rfl⟩
  ·have e1:decide (k<1)=false:=Qx (by omega);have e2:decide (8<k)=true:=Qy h;clear h;go_enter func170,ntmps170;go_wp2;go_ret;exact⟨rfl,rfl⟩
theorem jy (s k:Int) (w:World):Calls prog 109 #[.int .u16 s,.int .u8 k] w fun e w'=>e=.returned (.bool (gH s k))∧w'=w:=by
 go_enter func109,ntmps109;go_wp2_with fail;refine(ln _ _).mono ?_;rintro e w1 ⟨rfl,rfl⟩;go_wp2;go_ret;exact⟨rfl,rfl⟩
theorem vW (s k:Int) (w:World):Calls prog 218 #[.int .u16 s,.int .u8 k] w fun e w'=>e=.returned (.int .u16 (qD s k))∧w'=w:=by
 go_enter func218,ntmps218;go_wp2_with fail;refine(ln _ _).mono ?_;rintro e w1 ⟨rfl,rfl⟩;go_wp2;go_ret;exact⟨rfl,rfl⟩
theorem qp (s k:Int) (w:World):Calls prog 219 #[.int .u16 s,.int .u8 k] w fun e w'=>e=.returned (.int .u16 (iD s k))∧w'=w:=by
 go_enter func219,ntmps219;go_wp2_with fail;refine(ln _ _).mono ?_;rintro e w1 ⟨rfl,rfl⟩;go_wp2;go_ret;exact⟨rfl,rfl⟩
theorem tD (v:Int) (w:World):Calls prog 139 #[.int .u8 v] w fun e w'=>e=.returned (.int .i64 (lay v))∧w'=w:=by
 by_cases h:10≤v∧v≤15
 ·have:v=10∨v=11∨v=12∨v=13∨v=14∨v=15:=by omega
  rcases this with rfl | rfl | rfl | rfl | rfl | rfl
  all_goals
   go_enter func139,ntmps139;go_wp2;go_ret;exact⟨rfl,rfl⟩
 ·rw[Dl h];have e1:(v == 10)=false:=by simp;omega
  have e2:(v == 11)=false:=by simp;omega
  have e3:(v == 12)=false:=by simp;omega
  have e4:(v == 13)=false:=by simp;omega
  have e5:(v == 14)=false:=by simp;omega
  have e6:(v == 15)=false:=by simp;omega
  clear h;go_enter func139,ntmps139;go_wp2;go_ret;exact⟨rfl,rfl⟩
set_option maxRecDepth 100000
set_option maxHeartbeats 4000000
open Go.Shelf
def iK (R:List Rw) (k:Nat):Int:=if k=0 then 0 else (R.getD (k - 1) Rw.none).st
theorem qb (R:List Rw) (k:Nat):iK R (k+1)=(R.getD k Rw.none).st:=by
 unfold iK;rw[if_neg (by omega)];rfl
def BsU (ts:List Th) (last:Int) (i:Nat) (best:Int):Prop:=(best=-1∧∀ (l:Nat) s,l<i→ts[l]?=some s→s.place=4→¬last<s.stamp)∨(∃ (b:Nat) (t:Th),best=(b:Int)∧b<i∧ts[b]?=some t∧t.place=4∧last<t.stamp∧∀ (l:Nat) s,l<i→ts[l]?=some s→s.place=4→last<s.stamp→t.stamp≤s.stamp)
theorem BsU.start (ts:List Th) (last:Int):BsU ts last 0 (-1):=Or.inl ⟨rfl,fun _ _ h=>absurd h (Qbh _)⟩
theorem BsU.skip {last:Int} {best:Int} {s:Th} (h:BsU ts last i best) (hs:ts[i]?=some s) (hn:¬(s.place=4∧last<s.stamp)):BsU ts last (i+1) best:=by
 rcases h with ⟨e,h⟩ | ⟨b,t,e,hb,ht,h4,hl,h⟩
 ·refine Or.inl ⟨e,fun l u hli hu p=>?_⟩;by_cases q:l=i
  ·subst q;rw[hs] at hu;cases hu;exact fun z=>hn ⟨p,z⟩
  ·exact h l u (by omega) hu p
 ·refine Or.inr ⟨b,t,e,by omega,ht,h4,hl,fun l u hli hu p z=>?_⟩;by_cases q:l=i
  ·subst q;rw[hs] at hu;cases hu;exact absurd ⟨p,z⟩ hn
  ·exact h l u (by omega) hu p z
theorem BsU.first {last:Int} {i:Nat} {s:Th} (h:BsU ts last i (-1)) (hs:ts[i]?=some s) (h4:s.place=4) (hl:last<s.stamp):BsU ts last (i+1) (i:Int):=by
 rcases h with ⟨-,h⟩ | ⟨b,t,e,_⟩
 ·refine Or.inr ⟨i,s,rfl,by omega,hs,h4,hl,fun l u hli hu p z=>?_⟩;by_cases q:l=i
  ·subst q;rw[hs] at hu;cases hu;exact Int.le_refl _
  ·exact absurd z (h l u (by omega) hu p)
 ·omega
theorem BsU.less {last:Int} {i b:Nat} {s:Th} (h:BsU ts last i (b:Int)) (ht:ts[b]?=some t) (hs:ts[i]?=some s) (h4:s.place=4) (hl:last<s.stamp) (hlt:s.stamp<t.stamp):BsU ts last (i+1) (i:Int):=by
 rcases h with ⟨e,_⟩ | ⟨b',t',e,hb,ht',h4',hl',h⟩
 ·omega
 ·obtain rfl:b=b':=by omega
  rw[ht] at ht';cases ht';refine Or.inr ⟨i,s,rfl,by omega,hs,h4,hl,fun l u hli hu p z=>?_⟩;by_cases q:l=i
  ·subst q;rw[hs] at hu;cases hu;exact Int.le_refl _
  ·have:=h l u (by omega) hu p z;omega
theorem BsU.more {last:Int} {b:Nat} {s:Th} (h:BsU ts last i (b:Int)) (ht:ts[b]?=some t) (hs:ts[i]?=some s) (hge:¬s.stamp<t.stamp):BsU ts last (i+1) (b:Int):=by
 rcases h with ⟨e,_⟩ | ⟨b',t',e,hb,ht',h4',hl',h⟩
 ·omega
 ·obtain rfl:b=b':=by omega
  have ht2:=ht';rw[ht] at ht';cases ht';refine Or.inr ⟨b,t,rfl,by omega,ht2,h4',hl',fun l u hli hu p z=>?_⟩;by_cases q:l=i
  ·subst q;rw[hs] at hu;cases hu;omega
  ·exact h l u (by omega) hu p z
theorem Gz (h:Tab n cd ts fs R) {l:Nat} {s:Th} (hs:ts[l]?=some s) (h4:s.place=4):∃ q,q<R.length∧(R.getD q Rw.none).st=s.stamp∧(R.getD q Rw.none).nu=(l:Int)+1:=by
 obtain⟨q,hq,e⟩:=Qbi (h.row_in hs h4);exact⟨q,hq,by rw[aG hq,e],by rw[aG hq,e]⟩
theorem rK (h:Tab n cd ts fs R) {a b:Nat} (hb:b<R.length) (hab:a<b):(R.getD a Rw.none).st<(R.getD b Rw.none).st:=by
 rw[aG hb,aG (Qdi hab hb)];exact Qcg.1 h.up a b _ _ hab
theorem oD (h:Tab n cd ts fs R) {k q:Nat} (hk:k≤R.length) (hq:q<R.length):iK R k<(R.getD q Rw.none).st↔k≤q:=by
 unfold iK;by_cases h0:k=0
 ·rw[if_pos h0];have:=(h.thing hq).2.2.1;exact⟨fun _=>by omega,fun _=>this⟩
 ·rw[if_neg h0];constructor
  ·intro z;refine Qac fun y=>?_;by_cases e:q=k - 1
   ·rw[e] at z;omega
   ·have:=rK h (a:=q) (b:=k - 1) (by omega) (by omega);omega
  ·intro z;exact rK h hq (by omega)
theorem BsU.end {best:Int} (h:Tab n cd ts fs R) (hk:k≤R.length) (B:BsU ts (iK R k) ts.length best):(k=R.length∧best=-1)∨(k<R.length∧∃ (b:Nat) (t:Th),best=(b:Int)∧ts[b]?=some t∧t.stamp=(R.getD k Rw.none).st∧(R.getD k Rw.none).nu=(b:Int)+1):=by
 rcases B with ⟨e,B⟩ | ⟨b,t,e,hb,ht,h4,hl,B⟩
 ·refine Or.inl ⟨?_,e⟩;refine Qag hk (Qac fun z=>?_);obtain⟨j,s,hs,s4,hn,hst⟩:=h.from (show R.getD k Rw.none∈R by rw[aG z];exact Qab _)
  exact B j s (Qh hs).1 hs s4 (by rw[←hst];exact(oD h hk z).2 (Qj _))
 ·obtain⟨q,hq,q1,q2⟩:=Gz h ht h4;have hkq:k≤q:=(oD h hk hq).1 (by rw[q1];exact hl);have hkl:k<R.length:=Qbg hkq hq;obtain⟨j,s,hs,s4,hn,hst⟩:=h.from (show R.getD k Rw.none∈R by rw[aG hkl];exact Qab _)
  have hle:=B j s (Qh hs).1 hs s4 (by rw[←hst];exact(oD h hk hkl).2 (Qj _))
  have hqk:q=k:=by
   refine Qag (Qac fun z=>?_) hkq;have:=rK h hq z;omega
  subst hqk;exact Or.inr ⟨hkl,b,t,e,ht,q1.symm,q2⟩
def lenS:Value→Nat
 | .slice _ n _=>n
 | _=>0
theorem Db (h:k<R.length):(R.take (k+1)).map Rw.nu=(R.take k).map Rw.nu++[(R.getD k Rw.none).nu]:=by
 rw[Qat,Qg h,aG h,Option.toList_some,Qbb];rfl
def ol (R:List Rw) (k:Nat):List Int:=(R.take k).map Rw.nu
theorem tw (h:k≤R.length):(ol R k).length=k:=by
 unfold ol;rw[Qa9,Qam,Qbv h]
theorem gx {n:Nat} {X:List Th} (h:thR.At w (.slice (some ⟨g,off,none⟩) n c) X) {i:Nat} {x:Th} (hx:X[i]?=some x):w.rangeAt g (off+i*11) (thc x):=by
 obtain⟨hi,e⟩:=Qh hx;obtain⟨g',off',cap,e1,r⟩:=bz h hi;injection e1 with e1 _ _;injection e1 with e1;injection e1 with ea eb;rw[ea,eb,←e];exact r
theorem nU (vt:Value) (n:Int) (cd:Int→Hd×List Pt) (ts:List Th) (F:List Fe) (R:List Rw) (w:World) (A:thR.At w vt ts) (hT:Tab n cd ts F R) (hl:ts.length≤2048):Calls prog 143 #[vt] w fun e w'=>∃ v,e=.returned v∧bm w' w.heap.size v (R.map Rw.nu)∧w.grownBy w' none:=by
 obtain⟨i0,hi,hz0,hz1,hz2⟩:=info_parts linfo3;obtain⟨pt,ct,rfl⟩:=A.form;have HA:QH (thR.At w (.slice pt ts.length ct) ts∧Tab n cd ts F R∧ts.length≤2048):=⟨A,hT,hl⟩
 clear A hT hl;go_enter func143,ntmps143;go_wp2_with fail;go_loopw [3,4,5,6] (fun v y _ _ wr=>∃ (k:Nat) (p:Option Addr) (c:Nat),k≤R.length∧v=.slice p k c∧y=.int .i64 (iK R k)∧QH (bm wr w.heap.size (.slice p k c) (ol R k)∧w.grownBy wr none)) (fun v _ _ _ _=>R.length - lenS v)
 case atStart=>exact⟨0,none,0,Q0 _,rfl,rfl,⟨rfl,Or.inl ⟨rfl,rfl⟩⟩,aw _ _⟩
 case round =>
  obtain⟨k,p,c,hk',rfl,rfl,HK⟩:=hrel;obtain⟨U,hU⟩:=Qe (wr);subst hU;have Hk:QH (k≤R.length):=hk';obtain⟨la,hla⟩:=Qe (iK R k);have Hla:QH (la=iK R k):=hla;rw[←hla];clear hk' hla;go_upto_block 2 with fail;go_cut [5,6] from 7 to 45 (fun y _ wc=>∃ best:Int,y=.int .i64 best∧BsU ts la ts.length best∧U.grownBy wc none)
  case first =>
   go_wp2_with fail;go_loopw [5,6] (fun y z wr=>∃ (i:Nat) (best:Int),i≤ts.length∧z=.int .i64 (i:Int)∧y=.int .i64 best∧QH (BsU ts la i best∧U.grownBy wr none)) (fun _ z _=>ts.length - (intOf z).toNat)
   case atStart=>exact⟨0,-1,Q0 _,rfl,rfl,BsU.start _ _,aw _ _⟩
   case round =>
    obtain⟨i,best,hi',rfl,rfl,HB⟩:=hrel;obtain⟨Q,hQ⟩:=Qe (wr);subst hQ;by_cases hi2:i<ts.length
    ·have i1:(i:Int)<(ts.length:Int):=Int.ofNat_lt.2 hi2;have hwk:=aR (k:=i) (Ql (Qaf hi2) (Ql HA.o.2.2 (by decide)));have HM:QH (ts.length - (intOf (.int .i64 ((i:Int)+1))).toNat<ts.length - (intOf (.int .i64 (i:Int))).toNat):=cj hi2;obtain⟨gT,oT,cT,eT,-⟩:=bz HA.o.1 hi2;injection eT with eT eT2 eT3;clear eT2 eT3;subst eT;obtain⟨s,hs⟩:∃ s,ts[i]?=some s:=⟨_,Qg hi2⟩
     have gQ:=aa HK.o.2 HB.o.2;obtain⟨-,-,s2,s3,-⟩:=aZ (gx (HA.o.1.keep gQ) hs);have Hs:QH (ts[i]?=some s∧i<ts.length):=⟨hs,hi2⟩
     clear hi' hi2 hs;by_cases h4:s.place=4
     ·have e1:(s.place == 4)=true:=(by rw[h4];rfl);by_cases h5:la<s.stamp
      ·have e2:decide (la<s.stamp)=true:=Qy h5
       rcases id HB.o.1 with ⟨eb,-⟩ | ⟨b,t,eb,hbi,ht,-⟩
       ·subst eb;have HN:QH (BsU ts la (i+1) (i:Int)):=HB.o.1.first Hs.o.1 h4 h5;rw[h4] at s2;clear h4 h5;go_upto_region 7 with fail;go_quiet (fail);clear s2 s3 e1 e2;go_wp2_with fail;go_roundw
        case rel=>exact⟨i+1,(i:Int),Hs.o.2,by first | rfl | (rw[hwk];rfl) | go_num,rfl,HN.o,aa HB.o.2 (aA _ _ _)⟩
        case measure=>first | exact HM.o | (rw[hwk];exact HM.o)
       ·subst eb;obtain⟨-,-,-,t3,-⟩:=aZ (gx (HA.o.1.keep gQ) ht);have b0:¬((b:Int)<0):=(by omega);have b1:(b:Int)<(ts.length:Int):=(by have:=Hs.o.2;omega);have b2:(0:Int)≤(b:Int):=(by omega);by_cases h6:s.stamp<t.stamp
        ·have e3:decide (s.stamp<t.stamp)=true:=Qy h6;have HN:QH (BsU ts la (i+1) (i:Int)):=HB.o.1.less ht Hs.o.1 h4 h5 h6;rw[h4] at s2;clear h4 h5 h6 hbi ht;go_upto_region 7 with fail;go_quiet (fail);clear s2 s3 t3 e1 e2 e3;go_wp2_with fail;go_roundw
         case rel=>exact⟨i+1,(i:Int),Hs.o.2,by first | rfl | (rw[hwk];rfl) | go_num,rfl,HN.o,aa HB.o.2 (aA _ _ _)⟩
         case measure=>first | exact HM.o | (rw[hwk];exact HM.o)
        ·have e3:decide (s.stamp<t.stamp)=false:=Qx h6;have HN:QH (BsU ts la (i+1) (b:Int)):=HB.o.1.more ht Hs.o.1 h6;rw[h4] at s2;clear h4 h5 h6 hbi ht;go_upto_region 7 with fail;go_quiet (fail);clear s2 s3 t3 e1 e2 e3;go_wp2_with fail;go_roundw
         case rel=>exact⟨i+1,(b:Int),Hs.o.2,by first | rfl | (rw[hwk];rfl) | go_num,rfl,HN.o,aa HB.o.2 (aA _ _ _)⟩
         case measure=>first | exact HM.o | (rw[hwk];exact HM.o)
      ·have e2:decide (la<s.stamp)=false:=Qx h5;have HN:QH (BsU ts la (i+1) best):=HB.o.1.skip Hs.o.1 (fun q=>h5 q.2);rw[h4] at s2;clear h4 h5;go_upto_region 7 with fail;go_quiet (fail);clear s2 s3 e1 e2;go_wp2_with fail;go_roundw
       case rel=>exact⟨i+1,best,Hs.o.2,by first | rfl | (rw[hwk];rfl) | go_num,rfl,HN.o,aa HB.o.2 (aA _ _ _)⟩
       case measure=>first | exact HM.o | (rw[hwk];exact HM.o)
     ·have e1:(s.place == 4)=false:=(by simpa using h4);have HN:QH (BsU ts la (i+1) best):=HB.o.1.skip Hs.o.1 (fun q=>h4 q.1);clear h4;go_upto_region 7 with fail;go_quiet (fail);clear s2 s3 e1;go_wp2_with fail;go_roundw
      case rel=>exact⟨i+1,best,Hs.o.2,by first | rfl | (rw[hwk];rfl) | go_num,rfl,HN.o,aa HB.o.2 (aA _ _ _)⟩
      case measure=>first | exact HM.o | (rw[hwk];exact HM.o)
    ·obtain rfl:i=ts.length:=Qag hi' (Qac hi2);have i1:¬(ts.length:Int)<(ts.length:Int):=Qb3 _;have HE:QH (BsU ts la ts.length best∧U.grownBy Q none):=HB.o;clear hi' hi2 HB;go_wp2_with fail;go_meet
     case rel=>exact⟨best,rfl,HE.o.1,HE.o.2⟩
  case rest =>
   obtain⟨best,rfl,hB,hG⟩:=hcut;obtain⟨X,hX⟩:=Qe (wc);subst hX;have HX:QH (bm X w.heap.size (.slice p k c) (ol R k)∧w.grownBy X none):=⟨aC HK.o.1 hG,aa HK.o.2 hG⟩
   rw[Hla.o] at hB;have he:=BsU.end HA.o.2.1 Hk.o hB;clear hB hG HK
   rcases he with ⟨ek,rfl⟩ | ⟨hkl,b,t,rfl,ht,hst,hnu⟩
   ·have HF:QH (bm X w.heap.size (.slice p k c) (R.map Rw.nu)∧w.grownBy X none):=⟨by have h9:=HX.o.1;unfold ol at h9;rw[ek,Qas] at h9;rw[ek];exact h9,HX.o.2⟩
    clear ek HX;go_wp2_with fail;go_ret;exact⟨_,rfl,HF.o.1,HF.o.2⟩
   ·have hbl:b<ts.length:=(Qh ht).1;have b0:¬((b:Int)<0):=(by omega);have b1:(b:Int)<(ts.length:Int):=(by omega);have b2:(0:Int)≤(b:Int):=(by omega);have hwb:=aR (k:=b) (Ql (Qaf hbl) (Ql HA.o.2.2 (by decide)));obtain⟨gT,oT,cT,eT,-⟩:=bz HA.o.1 hbl;injection eT with eT eT2 eT3;clear eT2 eT3;subst eT;have HY:QH (k<R.length∧ts[b]?=some t∧t.stamp=iK R (k+1)∧ol R (k+1)=ol R k++[(b:Int)+1]∧R.length≤16):=⟨hkl,ht,by rw[qb];exact hst,by unfold ol;rw[Db hkl,hnu],HA.o.2.1.few⟩
    have HO:QH (X.ownsRow w.heap.size 3 1 (.slice p k c) k (dt (ol R k))):=by
     have h9:=HX.o.1;unfold bm at h9;rw[tw Hk.o] at h9;exact h9
    have HLn:QH (k+1≤maxLen∧(k+1)*8≤140737488355328∧w.heap.size≤(X.alloc (.cells #[.int .i64 ((b:Int)+1)] 3)).heap.size):=⟨by have:=HY.o.2.2.2.2;have:=HY.o.1;unfold maxLen;omega,by have:=HY.o.2.2.2.2;have:=HY.o.1;omega,Ql HX.o.2.size (Qa0 X (.cells #[.int .i64 ((b:Int)+1)] 3) none).size⟩
    have HSr:QH (Src (X.alloc (.cells #[.int .i64 ((b:Int)+1)] 3)) (.slice (some ⟨X.heap.size,0,none⟩) 1 1) 1 1 (dt [(b:Int)+1])):=⟨_,_,rfl,rfl,fun _=>⟨_,rfl,nD X _⟩⟩
    clear hkl ht hst hnu hbl;go_upto_region 12 with (at_builtin;refine br (by rfl) (.tmp 49) (.tmp 52) 143 rfl w.heap.size 3 i0 _ 1 8 underlying143 hi hz0 hz1 hz2 rfl (by decide) _ k (dt (ol R k)) rfl (Qaq HO.o _) _ 1 (dt [(b:Int)+1]) rfl HSr.o (lk _) HLn.o.1 HLn.o.2.1 HLn.o.2.2 ?_;intro v9 w9 o9 g9 _;obtain⟨pv,kv,rfl,-⟩:=bZ o9;have HO9:QH _:=o9;have HG9:QH _:=g9;clear o9 g9)
    have HZ:QH (bm w9 w.heap.size (.slice pv (k+1) kv) (ol R (k+1))∧w.grownBy w9 none):=by
     refine⟨?_,ak (aa HX.o.2 (Qa0 X (.cells #[.int .i64 ((b:Int)+1)] 3) none)) HG9.o (fun y e=>(Qa5 (Qaq HO.o (.cells #[.int .i64 ((b:Int)+1)] 3)) y e).1)⟩;rw[HY.o.2.2.2.1];exact lJ HO9.o (tw Hk.o).symm
    obtain⟨-,-,-,t3,-⟩:=aZ (gx (HA.o.1.keep HZ.o.2) HY.o.2.1);clear HO9 HG9 HO HX HSr HLn;go_wp2_with fail;go_roundw
    case rel=>exact⟨k+1,pv,kv,HY.o.1,rfl,by rw[HY.o.2.2.1],HZ.o.1,HZ.o.2⟩
    case measure=>show R.length - (k+1)<R.length - k;have:=HY.o.1;omega
