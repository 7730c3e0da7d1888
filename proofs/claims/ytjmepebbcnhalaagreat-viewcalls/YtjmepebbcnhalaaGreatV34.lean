import Derived.Test.YtjmepebbcnhalaaGreatTgR
import Derived.Test.YtjmepebbcnhalaaGreatV32
namespace Go.Proofs.YtjmepebbcnhalaaGreat
set_option maxRecDepth 100000
set_option maxHeartbeats 4000000
open Go.RowKit Go.Shelf
variable {w w':World} {vt:Value} {r n:Int} {cd:Int→Hd×List Pt} {ts:List Th} {pf:Th→Fe} {mf:Fe→Th→Fe} {me:Th→Int} {c base g i:Nat} {f:Fe} {t:Th} {fs:List Fe} {R:List Rw}
structure VIn (w:World) (bv vt:Value) (r n:Int) (cd:Int→Hd×List Pt) (ts:List Th) (pf:Th→Fe) (mf:Fe→Th→Fe) (me:Th→Int):Prop where
 li:∀ X vf fs,w.grownBy X none→feR.At X vf fs→fs.length≤4096→LIn X bv vt vf r n cd ts fs
 pr:∀ X t,w.grownBy X none→∃ x,Calls Tryz.prog 220 #[bv,thv t] X fun e w'=>e=.returned (.tuple #[fev (pf t),.int .i64 x])∧X.grownBy w' none
 mkd:∀ X f (t:Th),w.grownBy X none→Calls Tryz.prog 155 #[bv,fev f,.agg #[.int .i64 t.m0,.int .i64 t.m1,.int .i64 t.m2,.int .i64 t.m3]] X fun e w'=>e=.returned (.tuple #[fev (mf f t),.int .i64 (me t)])∧X.grownBy w' none
 few:r=0→ts.length≤2048
 th:thR.At w vt ts
 cap:∃ p c,vt=.slice p ts.length c∧ts.length≤c
theorem VIn.keep {bv:Value} (h:VIn w bv vt r n cd ts pf mf me) (g:w.grownBy w' none):VIn w' bv vt r n cd ts pf mf me:=⟨fun X vf fs q=>h.li X vf fs (ae g q),fun X t q=>h.pr X t (ae g q),fun X f t q=>h.mkd X f t (ae g q),h.few,h.th.keep g,h.cap⟩
theorem az.At.take {α:Type} {R:az α} {p:Option Addr} {n:Nat} {l:List α} (h:R.At w (.slice p n c) l) (m:Nat) (hm:m≤n):R.At w (.slice p m c) (l.take m):=by
 obtain⟨p',c',e,hl,h1⟩:=h
 injection e with e1 e2 e3
 subst e1
 subst e3
 have hlm:(l.take m).length=m:=by rw[List.length_take];omega
 refine⟨p,c,by rw[hlm],by rw[hlm];omega,fun h0=>?_⟩
 rw[hlm] at h0
 obtain⟨g,off,e,hc⟩:=h1 (by omega)
 exact⟨g,off,e,fun j x hj=>hc j x (by
  rw[List.getElem?_take] at hj
  split at hj
  ·exact hj
  ·cases hj)⟩
def bX (h:Nat→Fe) (n k:Nat):List Fe:=(List.range n).map fun i=>if i<k then h i else Fe.none
theorem eA (h:Nat→Fe) (n k:Nat):(bX h n k).length=n:=by simp[bX]
theorem ij (h:Nat→Fe) (n:Nat):bX h n 0=List.replicate n Fe.none:=by
 refine List.ext_getElem (by simp[bX]) fun i h1 h2=>?_
 simp[bX]
theorem jl {h:Nat→Fe} {n k:Nat} (e:h k=f):(bX h n k).set k f=bX h n (k+1):=by
 refine List.ext_getElem (by simp[bX]) fun i h1 h2=>?_
 rw[List.getElem_set]
 simp only[bX,List.getElem_map,List.getElem_range]
 by_cases q:k=i
 ·subst q
  rw[if_pos rfl,if_pos (by omega),e]
 ·rw[if_neg q]
  by_cases z:i<k
  ·rw[if_pos z,if_pos (by omega)]
  ·rw[if_neg z,if_neg (by omega)]
theorem iB {h:Nat→Fe} {n k:Nat} (e:h k=Fe.none):bX h n (k+1)=bX h n k:=by
 unfold bX
 refine List.map_congr_left fun i _=>?_
 by_cases q:i=k
 ·subst q
  rw[if_pos (by omega),if_neg (by omega),e]
 ·by_cases z:i<k
  ·rw[if_pos z,if_pos (by omega)]
  ·rw[if_neg z,if_neg (by omega)]
theorem qd (h:Nat→Fe) (n:Nat):bX h n n=(List.range n).map h:=by
 unfold bX
 exact List.map_congr_left fun i hi=>if_pos (List.mem_range.1 hi)
theorem Ab:∀ r,r<5→(fec Fe.none)[r]?=some ((#[.int .i64 0,.int .u8 0,.int .u16 0,.int .i64 0,.int .i64 0]:Array Value)[r]!)
 | 0,_=>rfl
 | 1,_=>rfl
 | 2,_=>rfl
 | 3,_=>rfl
 | 4,_=>rfl
 | n+5,h=>by omega
theorem Ct (n:Nat):(madeCells (Value.agg #[.int .i64 0,.int .u8 0,.int .u16 0,.int .i64 0,.int .i64 0]).cells (n*5)).toList=feR.cs (List.replicate n Fe.none):=by
 refine List.ext_getElem? fun i=>?_
 by_cases hi:i<n*5
 ·have h1:=feR.at' (l:=List.replicate n Fe.none) (j:=i / 5) (x:=Fe.none) (by rw[List.getElem?_replicate,if_pos (by omega)]) (i % 5) (show i % 5<5 by omega)
  have h2:(feR.cs (List.replicate n Fe.none))[i / 5*5+i % 5]?=(fec Fe.none)[i % 5]?:=h1
  rw[show i / 5*5+i % 5=i by omega,Ab _ (by omega)] at h2
  rw[h2]
  show ((Array.range (n*5)).map _).toList[i]?=_
  rw[Array.toList_map,List.getElem?_map,Array.toList_range,List.getElem?_range hi]
  rfl
 ·rw[List.getElem?_eq_none (by rw[Array.length_toList,size_madeCells];omega),List.getElem?_eq_none (by rw[feR.len,List.length_replicate];show n*5≤i;omega)]
theorem ks {V:World} {n:Nat} (h:V.ownsRow base 122 5 (.slice (some ⟨g,0,none⟩) n n) n (madeCells (Value.agg #[.int .i64 0,.int .u8 0,.int .u16 0,.int .i64 0,.int .i64 0]).cells (n*5)).toList):aQ V base (.slice (some ⟨g,0,none⟩) n n) (List.replicate n Fe.none):=by
 unfold aQ az.Own
 rw[List.length_replicate,←Ct]
 exact h
theorem te (pf:Th→Fe) (ts:List Th):bX (fun i=>nh pf (ts.getD i Th.none)) ts.length ts.length=aR pf ts:=by
 rw[qd]
 unfold aR
 refine List.ext_getElem (by simp) fun i h1 h2=>?_
 simp only[List.getElem_map,List.getElem_range]
 rw[aB (by simpa using h2)]
theorem fK {n k:Nat} {L:List Fe} (h:aQ w base (.slice (some ⟨g,0,none⟩) n n) L) (hn:L.length=n) (hk:k<n):w.there g (k*5) 5:=az.Own.there h hn hk
theorem il {n k:Nat} {L:List Fe} (h:aQ w base (.slice (some ⟨g,0,none⟩) n n) L) (hn:L.length=n) (hk:k<n) (f:Fe):aQ (w.setCells g (k*5) (fec f)) base (.slice (some ⟨g,0,none⟩) n n) (L.set k f)∧w.grownBy (w.setCells g (k*5) (fec f)) (some g):=az.Own.set h hn hk f
theorem qC (bv v:Value) (us:List Th) (pf:Th→Fe) (w:World) (A:thR.At w v us) (hl:us.length≤2048) (P:∀ X t,w.grownBy X none→∃ x,Calls Tryz.prog 220 #[bv,thv t] X fun e w'=>e=.returned (.tuple #[fev (pf t),.int .i64 x])∧X.grownBy w' none):Calls Tryz.prog 154 #[bv,v] w fun e w'=>∃ v',e=.returned v'∧aQ w' w.heap.size v' (aR pf us)∧w.grownBy w' none:=by
 obtain⟨i0,hi,hz0,hz1,hz2⟩:=info_parts Tryz.linfoF
 obtain⟨p,c,rfl⟩:=A.form
 obtain⟨h,hh⟩:∃ h:Nat→Fe,h=fun i=>nh pf (us.getD i Th.none):=⟨_,rfl⟩
 have Hh:Hid (h=fun i=>nh pf (us.getD i Th.none)):=hh
 have HA:Hid (thR.At w (.slice p us.length c) us):=A
 have HP:Hid (∀ X t,w.grownBy X none→∃ x,Calls Tryz.prog 220 #[bv,thv t] X fun e w'=>e=.returned (.tuple #[fev (pf t),.int .i64 x])∧X.grownBy w' none):=P
 have Hl:Hid (us.length≤2048):=hl
 have Hbb:Hid (i0.bytes*us.length≤281474976710656):=by show i0.bytes*us.length≤_;rw[hz2];omega
 have Hbm:Hid (us.length≤maxLen):=by show us.length≤maxLen;unfold maxLen;omega
 clear A P hl hh
 go_enter Tryz.func154,Tryz.ntmps154
 go_wp2_with (at_make;refine wpList_make_full _ rfl _ _ 27 rfl w.heap.size 122 i0 _ 5 Tryz.underlying27 hi hz0 hz1 .i64 .i64 _ _ us.length rfl rfl rfl rfl Hbb.out Hbm.out (Qj _) ?_;intro V o1 gv;have HF0:Hid (aQ V w.heap.size (.slice (some ⟨w.heap.size,0,none⟩) us.length us.length) (List.replicate us.length Fe.none)):=ks o1;have HGV:Hid (w.grownBy V none):=gv;clear o1 gv)
 obtain⟨g0,h0⟩:=Qe (w.heap.size)
 have Hg0:Hid (g0=w.heap.size):=h0
 simp only[←h0] at HF0 ⊢
 clear h0
 go_loopw [6,7,13] (fun _ _ i wr=>∃ k:Nat,k≤us.length∧i=.int .i64 (k:Int)∧aQ wr g0 (.slice (some ⟨g0,0,none⟩) us.length us.length) (bX h us.length k)∧w.grownBy wr none) (fun _ _ i _=>us.length - (intOf i).toNat)
 case atStart=>exact⟨0,Q0 _,rfl,by rw[ij];exact HF0.out,HGV.out⟩
 case round =>
  obtain⟨k,hk,rfl,O,G⟩:=hrel
  obtain⟨U,hU⟩:=Qe (wr)
  subst hU
  have HO:Hid (aQ U g0 (.slice (some ⟨g0,0,none⟩) us.length us.length) (bX h us.length k)):=O
  have HG:Hid (w.grownBy U none):=G
  by_cases hlt:k<us.length
  ·obtain⟨g,off,cap,e1,R⟩:=bO (HA.out.keep G) hlt
   cases e1
   obtain⟨t,ht⟩:=Qe (us[k])
   rw[←ht] at R
   have HT:Hid (h k=nh pf t):=by show _=_;rw[Hh.out,ht];show nh pf (us.getD k Th.none)=_;rw[aB hlt]
   obtain⟨c0,c1,c2,c3,c4,c5,c6,c7,c8,c9,c10⟩:=bz R
   obtain⟨Y,hY⟩:=Qe (U.alloc (.cells #[.int .i64 t.card,.int .i64 t.owner,.int .u8 t.place,.int .i64 t.stamp,.int .i64 t.hurt,.int .i64 t.m0,.int .i64 t.m1,.int .i64 t.m2,.int .i64 t.m3,.int .i64 t.done,.bool t.fresh] 120))
   have HGY:Hid (U.grownBy Y none):=by rw[hY];exact QG
   have HB:Hid (ThB Y U.heap.size t):=by rw[hY];exact ak _ _ _
   have HOY:Hid (aQ Y g0 (.slice (some ⟨g0,0,none⟩) us.length us.length) (bX h us.length k)):=aw O HGY.out
   have hlt':(k:Int)<us.length:=Int.ofNat_lt.2 hlt
   have hwk:=aK (k:=k) (Ql (Nat.le_of_lt hlt) (Ql Hl.out (by decide)))
   have Hlt:Hid (k<us.length):=hlt
   have HM:Hid (us.length - (intOf (.int .i64 ((k:Int)+1))).toNat<us.length - (intOf (.int .i64 (k:Int))).toNat):=bj hlt
   clear O G R ht hlt hk HO
   go_upto_region 5 with fail
   rw[←hY]
   clear hY c0 c1 c2 c3 c4 c5 c6 c7 c8 c9 c10
   obtain⟨nb,hnb⟩:=Qe (U.heap.size)
   rw[←hnb] at HB ⊢
   clear hnb
   obtain⟨b0,b1,b2,b3,b4,b5,b6,b7,b8,b9,b10⟩:=cW HB.out
   by_cases hp:t.place=4
   ·have hpb:(t.place == 4)=true:=by rw[hp];rfl
    obtain⟨x,C⟩:=HP.out Y t (ae HG.out HGY.out)
    have HF:Hid (h k=pf t):=HT.out.trans (if_pos hp)
    obtain⟨f,hf⟩:=Qe (pf t)
    rw[←hf] at C HF
    unfold thv fev at C
    clear hp hf HT
    go_wp2_with fail
    refine C.mono ?_
    rintro e2 w2 ⟨rfl,g2⟩
    have HO2:Hid (aQ w2 g0 (.slice (some ⟨g0,0,none⟩) us.length us.length) (bX h us.length k)):=aw HOY.out g2
    have HG2:Hid (w.grownBy w2 none):=ae HG.out (ae HGY.out g2)
    clear C g2 b0 b1 b2 b3 b4 b5 b6 b7 b8 b9 b10 hpb
    obtain⟨u0,u1,u2,u3,u4,y0,y1,y2,y3,y4,q0,q1,q2,q3,q4⟩:=nw (fK HO2.out (eA h _ k) Hlt.out)
    obtain⟨Z,hZ⟩:=Qe (((((w2.setCell ⟨g0,k*5,none⟩ (.int .i64 f.ho)).setCell ⟨g0,k*5+1,none⟩ (.int .u8 f.su)).setCell ⟨g0,k*5+2,none⟩ (.int .u16 f.tr)).setCell ⟨g0,k*5+3,none⟩ (.int .i64 f.po)).setCell ⟨g0,k*5+4,none⟩ (.int .i64 f.he))
    have q:=il HO2.out (eA h _ k) Hlt.out f
    rw[show w2.setCells g0 (k*5) (fec f)=Z from by rw[hZ];rfl] at q
    have HQ:Hid (aQ Z g0 (.slice (some ⟨g0,0,none⟩) us.length us.length) (bX h us.length (k+1))∧w.grownBy Z none):=⟨by rw[←jl HF.out];exact q.1,ar HG2.out q.2 (fun y e=>by cases e;rw[Hg0.out];exact Qj _)⟩
    clear q
    go_upto_region 7 with fail
    rw[←hZ]
    clear hZ y0 y1 y2 y3 y4 q0 q1 q2 q3 q4
    go_wp2_with fail
    go_roundw
    case rel=>exact⟨k+1,Hlt.out,by first | rfl | (rw[hwk];rfl) | go_num,HQ.out⟩
    case measure=>first | exact HM.out | (rw[hwk];exact HM.out)
   ·have hpb:(t.place == 4)=false:=by simpa using hp
    have HF:Hid (h k=Fe.none):=HT.out.trans (if_neg hp)
    have HQ:Hid (aQ Y g0 (.slice (some ⟨g0,0,none⟩) us.length us.length) (bX h us.length (k+1))∧w.grownBy Y none):=⟨by rw[iB HF.out];exact HOY.out,ae HG.out HGY.out⟩
    clear hp HT HF
    go_wp2_with fail
    go_roundw
    case rel=>exact⟨k+1,Hlt.out,by first | rfl | (rw[hwk];rfl) | go_num,HQ.out⟩
    case measure=>first | exact HM.out | (rw[hwk];exact HM.out)
  ·obtain rfl:k=us.length:=Nat.le_antisymm hk (Nat.le_of_not_lt hlt)
   have HF:Hid (aQ U w.heap.size (.slice (some ⟨g0,0,none⟩) us.length us.length) (aR pf us)∧w.grownBy U none):=⟨by rw[←te,←Hh.out,←Hg0.out];exact O,G⟩
   clear O G hk hlt
   go_wp2_with fail
   go_ret
   exact⟨_,rfl,HF.out⟩
theorem oe (ok:Nat→Prop) (r:Nat) (vr:Value) (p:Pl) (gs:List Ent) (v:Value) (us:List Th) (w:World) (B:RD ok w r vr p gs) (A:thR.At w v us) (hl:us.length≤2048):Calls Tryz.prog 158 #[.pointer (some ⟨r,0,none⟩),v] w fun e w'=>∃ v' b,e=.returned (.tuple #[v',.bool b])∧w.grownBy w' none∧((b=true∧aQ w' w.heap.size v' (aR (pfR p gs) us)∧∀ t∈us,ptR p gs t=0)∨(b=false∧v'=.slice none 0 0∧∃ t∈us,¬ptR p gs t=0)):=by
 obtain⟨i0,hi,hz0,hz1,hz2⟩:=info_parts Tryz.linfoF
 obtain⟨pt,c,rfl⟩:=A.form
 obtain⟨h,hh⟩:∃ h:Nat→Fe,h=fun i=>nh (pfR p gs) (us.getD i Th.none):=⟨_,rfl⟩
 have Hh:Hid (h=fun i=>nh (pfR p gs) (us.getD i Th.none)):=hh
 have HA:Hid (thR.At w (.slice pt us.length c) us):=A
 have HP:Hid (∀ X t,w.grownBy X none→Calls Tryz.prog 225 #[.pointer (some ⟨r,0,none⟩),thv t] X fun e w'=>e=.returned (.tuple #[fev (pfR p gs t),.int .i64 (ptR p gs t)])∧X.grownBy w' none):=fun X t g=>sR _ t _ _ _ X fun Y q=>wb ok r vr p gs t Y (B.keep (ae g q))
 have Hl:Hid (us.length≤2048):=hl
 have Hbb:Hid (i0.bytes*us.length≤281474976710656):=by show i0.bytes*us.length≤_;rw[hz2];omega
 have Hbm:Hid (us.length≤maxLen):=by show us.length≤maxLen;unfold maxLen;omega
 clear A B hl hh
 go_enter Tryz.func158,Tryz.ntmps158
 go_wp2_with (at_make;refine wpList_make_full _ rfl _ _ 27 rfl w.heap.size 122 i0 _ 5 Tryz.underlying27 hi hz0 hz1 .i64 .i64 _ _ us.length rfl rfl rfl rfl Hbb.out Hbm.out (Qj _) ?_;intro V o1 gv;have HF0:Hid (aQ V w.heap.size (.slice (some ⟨w.heap.size,0,none⟩) us.length us.length) (List.replicate us.length Fe.none)):=ks o1;have HGV:Hid (w.grownBy V none):=gv;clear o1 gv)
 obtain⟨g0,h0⟩:=Qe (w.heap.size)
 have Hg0:Hid (g0=w.heap.size):=h0
 simp only[←h0] at HF0 ⊢
 clear h0
 go_loopw [7,8,9] (fun i _ _ wr=>∃ k:Nat,k≤us.length∧i=.int .i64 (k:Int)∧aQ wr g0 (.slice (some ⟨g0,0,none⟩) us.length us.length) (bX h us.length k)∧w.grownBy wr none∧Hid (∀ t∈us.take k,ptR p gs t=0)) (fun i _ _ _=>us.length - (intOf i).toNat)
 case atStart=>exact⟨0,Q0 _,rfl,by rw[ij];exact HF0.out,HGV.out,fun t ht=>by simp at ht⟩
 case round =>
  obtain⟨k,hk,rfl,O,G,HE⟩:=hrel
  obtain⟨U,hU⟩:=Qe (wr)
  subst hU
  have HO:Hid (aQ U g0 (.slice (some ⟨g0,0,none⟩) us.length us.length) (bX h us.length k)):=O
  have HG:Hid (w.grownBy U none):=G
  by_cases hlt:k<us.length
  ·obtain⟨g,off,cap,e1,R⟩:=bO (HA.out.keep G) hlt
   cases e1
   obtain⟨t,ht⟩:=Qe (us[k])
   rw[←ht] at R
   have HT:Hid (h k=nh (pfR p gs) t∧t∈us∧us.take (k+1)=us.take k++[t]):=⟨by rw[Hh.out,ht];show nh (pfR p gs) (us.getD k Th.none)=_;rw[aB hlt],by rw[ht];exact List.getElem_mem hlt,by rw[List.take_add_one,Qg hlt,ht];rfl⟩
   obtain⟨c0,c1,c2,c3,c4,c5,c6,c7,c8,c9,c10⟩:=bz R
   have C:=HP.out U t HG.out
   obtain⟨f,hf⟩:=Qe (pfR p gs t)
   obtain⟨x,hx⟩:=Qe (ptR p gs t)
   have HX:Hid (f=pfR p gs t∧x=ptR p gs t):=⟨hf,hx⟩
   rw[←hf,←hx] at C
   unfold thv fev at C
   have HR:Hid (U.rangeAt g (off+k*11) (thc t)):=R
   have hlt':(k:Int)<us.length:=Int.ofNat_lt.2 hlt
   have hwk:=aK (k:=k) (Ql (Nat.le_of_lt hlt) (Ql Hl.out (by decide)))
   have Hlt:Hid (k<us.length):=hlt
   have HM:Hid (us.length - (intOf (.int .i64 ((k:Int)+1))).toNat<us.length - (intOf (.int .i64 (k:Int))).toNat):=bj hlt
   clear O G R ht hf hx hlt hk
   go_wp2_with fail
   refine C.mono ?_
   rintro e2 w2 ⟨rfl,g2⟩
   obtain⟨Y,hY⟩:=Qe (w2.alloc (.cells #[.int .i64 f.ho,.int .u8 f.su,.int .u16 f.tr,.int .i64 f.po,.int .i64 f.he] 122))
   have HY:Hid (FeB Y w2.heap.size f∧aQ Y g0 (.slice (some ⟨g0,0,none⟩) us.length us.length) (bX h us.length k)∧w.grownBy Y none∧Y.rangeAt g (off+k*11) (thc t)∧¬w2.heap.size=g0):=by
    have q:U.grownBy Y none:=by rw[hY];exact al g2 _
    exact⟨by rw[hY];exact ak _ _ _,aw HO.out q,ae HG.out q,aS HR.out q,fun e=>by have:=(az.Own.lt HO.out g0 rfl).2;have:=g2.size;omega⟩
   clear C g2 c0 c1 c2 c3 c4 c5 c6 c7 c8 c9 c10 HO HG HR
   go_upto_region 6 with fail
   rw[←hY]
   obtain⟨nb,hnb⟩:=Qe (w2.heap.size)
   rw[←hnb] at HY ⊢
   clear hY hnb
   by_cases hx:x=0
   ·have ex:(x != 0)=false:=by rw[hx];rfl
    have HN:Hid (∀ u∈us.take (k+1),ptR p gs u=0):=fun u hu=>by
     rw[HT.out.2.2,List.mem_append,List.mem_singleton] at hu
     rcases hu with q | q
     ·exact HE.out u q
     ·rw[q,←HX.out.2];exact hx
    clear hx
    obtain⟨c0,c1,c2,c3,c4,c5,c6,c7,c8,c9,c10⟩:=bz HY.out.2.2.2.1
    by_cases hp:t.place=4
    ·have hpb:(t.place == 4)=true:=by rw[hp];rfl
     have HF:Hid (h k=f):=HT.out.1.trans ((if_pos hp).trans HX.out.1.symm)
     clear hp
     obtain⟨b0,b1,b2,b3,b4⟩:=jH HY.out.1
     obtain⟨u0,u1,u2,u3,u4,y0,y1,y2,y3,y4,q0,q1,q2,q3,q4⟩:=nw (fK HY.out.2.1 (eA h _ k) Hlt.out)
     obtain⟨Z,hZ⟩:=Qe (((((Y.setCell ⟨g0,k*5,none⟩ (.int .i64 f.ho)).setCell ⟨g0,k*5+1,none⟩ (.int .u8 f.su)).setCell ⟨g0,k*5+2,none⟩ (.int .u16 f.tr)).setCell ⟨g0,k*5+3,none⟩ (.int .i64 f.po)).setCell ⟨g0,k*5+4,none⟩ (.int .i64 f.he))
     have q:=il HY.out.2.1 (eA h _ k) Hlt.out f
     rw[show Y.setCells g0 (k*5) (fec f)=Z from by rw[hZ];rfl] at q
     have HQ:Hid (aQ Z g0 (.slice (some ⟨g0,0,none⟩) us.length us.length) (bX h us.length (k+1))∧w.grownBy Z none):=⟨by rw[←jl HF.out];exact q.1,ar HY.out.2.2.1 q.2 (fun y e=>by cases e;rw[Hg0.out];exact Qj _)⟩
     clear q
     go_upto_region 9 with fail
     clear c0 c1 c2 c3 c4 c5 c6 c7 c8 c9 c10 hpb ex
     go_upto_region 4 with fail
     rw[←hZ]
     clear hZ y0 y1 y2 y3 y4 q0 q1 q2 q3 q4 b0 b1 b2 b3 b4
     go_wp2_with fail
     go_roundw
     case rel=>exact⟨k+1,Hlt.out,by first | rfl | (rw[hwk];rfl) | go_num,HQ.out.1,HQ.out.2,HN⟩
     case measure=>first | exact HM.out | (rw[hwk];exact HM.out)
    ·have hpb:(t.place == 4)=false:=by simpa using hp
     have HF:Hid (h k=Fe.none):=HT.out.1.trans (if_neg hp)
     have HQ:Hid (aQ Y g0 (.slice (some ⟨g0,0,none⟩) us.length us.length) (bX h us.length (k+1))∧w.grownBy Y none):=⟨by rw[iB HF.out];exact HY.out.2.1,HY.out.2.2.1⟩
     clear hp HF
     go_wp2_with fail
     go_roundw
     case rel=>exact⟨k+1,Hlt.out,by first | rfl | (rw[hwk];rfl) | go_num,HQ.out.1,HQ.out.2,HN⟩
     case measure=>first | exact HM.out | (rw[hwk];exact HM.out)
   ·have ex:(x != 0)=true:=by simpa using hx
    have HN:Hid (∃ u∈us,¬ptR p gs u=0):=⟨t,HT.out.2.1,by rw[←HX.out.2];exact hx⟩
    clear hx
    go_wp2_with fail
    go_ret2
    exact⟨_,_,rfl,HY.out.2.2.1,Or.inr ⟨rfl,rfl,HN.out⟩⟩
  ·obtain rfl:k=us.length:=Nat.le_antisymm hk (Nat.le_of_not_lt hlt)
   have HF:Hid (aQ U w.heap.size (.slice (some ⟨g0,0,none⟩) us.length us.length) (aR (pfR p gs) us)∧w.grownBy U none∧∀ t∈us,ptR p gs t=0):=⟨by rw[←te,←Hh.out,←Hg0.out];exact O,G,by have:=HE.out;rwa [List.take_length] at this⟩
   clear O G hk hlt
   go_wp2_with fail
   go_ret2
   exact⟨_,_,rfl,HF.out.2.1,Or.inl ⟨rfl,HF.out.1,HF.out.2.2⟩⟩
end Go.Proofs.YtjmepebbcnhalaaGreat
namespace Go.Proofs.YtjmepebbcnhalaaGreat
set_option maxRecDepth 100000
set_option maxHeartbeats 4000000
open Go.RowKit
variable {w w':World} {vt:Value} {r n:Int} {cd:Int→Hd×List Pt} {ts:List Th} {pf:Th→Fe} {mf:Fe→Th→Fe} {me:Th→Int} {c base g i:Nat} {f:Fe} {t:Th} {fs:List Fe} {R:List Rw}
theorem lz (k:Int) (w:World):Calls Tryz.prog 170 #[.int .u8 k] w fun e w'=>e=.returned (.int .u16 (nZ k))∧w'=w:=by
 rcases nH k with h | h
 ·rcases h with rfl | rfl | rfl | rfl | rfl | rfl | rfl | rfl
  all_goals
   go_enter Tryz.func170,Tryz.ntmps170
   go_wp2
   go_ret
   exact⟨rfl,rfl⟩
 ·rw[qV h]
  rcases h with h | h
  ·have e1:decide (k<1)=true:=Qy h
   clear h
   go_enter Tryz.func170,Tryz.ntmps170
   go_wp2
   go_ret
   exact⟨rfl,rfl⟩
  ·have e1:decide (k<1)=false:=Qx (by omega)
   have e2:decide (8<k)=true:=Qy h
   clear h
   go_enter Tryz.func170,Tryz.ntmps170
   go_wp2
   go_ret
   exact⟨rfl,rfl⟩
theorem qe (s k:Int) (w:World):Calls Tryz.prog 109 #[.int .u16 s,.int .u8 k] w fun e w'=>e=.returned (.bool (kh s k))∧w'=w:=by
 go_enter Tryz.func109,Tryz.ntmps109
 go_wp2_with fail
 refine(lz _ _).mono ?_
 rintro e w1 ⟨rfl,rfl⟩
 go_wp2
 go_ret
 exact⟨rfl,rfl⟩
theorem vJ (s k:Int) (w:World):Calls Tryz.prog 218 #[.int .u16 s,.int .u8 k] w fun e w'=>e=.returned (.int .u16 (jX s k))∧w'=w:=by
 go_enter Tryz.func218,Tryz.ntmps218
 go_wp2_with fail
 refine(lz _ _).mono ?_
 rintro e w1 ⟨rfl,rfl⟩
 go_wp2
 go_ret
 exact⟨rfl,rfl⟩
theorem pS (s k:Int) (w:World):Calls Tryz.prog 219 #[.int .u16 s,.int .u8 k] w fun e w'=>e=.returned (.int .u16 (eR s k))∧w'=w:=by
 go_enter Tryz.func219,Tryz.ntmps219
 go_wp2_with fail
 refine(lz _ _).mono ?_
 rintro e w1 ⟨rfl,rfl⟩
 go_wp2
 go_ret
 exact⟨rfl,rfl⟩
theorem tC (v:Int) (w:World):Calls Tryz.prog 139 #[.int .u8 v] w fun e w'=>e=.returned (.int .i64 (lay v))∧w'=w:=by
 by_cases h:10≤v∧v≤15
 ·have:v=10∨v=11∨v=12∨v=13∨v=14∨v=15:=by omega
  rcases this with rfl | rfl | rfl | rfl | rfl | rfl
  all_goals
   go_enter Tryz.func139,Tryz.ntmps139
   go_wp2
   go_ret
   exact⟨rfl,rfl⟩
 ·rw[Bx h]
  have e1:(v == 10)=false:=by simp;omega
  have e2:(v == 11)=false:=by simp;omega
  have e3:(v == 12)=false:=by simp;omega
  have e4:(v == 13)=false:=by simp;omega
  have e5:(v == 14)=false:=by simp;omega
  have e6:(v == 15)=false:=by simp;omega
  clear h
  go_enter Tryz.func139,Tryz.ntmps139
  go_wp2
  go_ret
  exact⟨rfl,rfl⟩
def PtX (w:World) (n:Nat) (p:Pt):Prop:=w.heap[n]?=some (.cells #[.int .u8 p.wn,.int .u8 p.vb,.int .u8 p.wm,.int .i64 p.ct,.int .u8 p.su,.int .u8 p.tr,.int .u8 p.mr,.string p.nm] 62 (0,0))
theorem rC {p:Pt} (h:PtX w g p):w.cell? ⟨g,0,none⟩=some (.int .u8 p.wn)∧w.cell? ⟨g,1,none⟩=some (.int .u8 p.vb)∧w.cell? ⟨g,2,none⟩=some (.int .u8 p.wm)∧w.cell? ⟨g,3,none⟩=some (.int .i64 p.ct)∧w.cell? ⟨g,4,none⟩=some (.int .u8 p.su)∧w.cell? ⟨g,5,none⟩=some (.int .u8 p.tr)∧w.cell? ⟨g,6,none⟩=some (.int .u8 p.mr)∧w.cell? ⟨g,7,none⟩=some (.string p.nm):=⟨(aa h 0).trans rfl,(aa h 1).trans rfl,(aa h 2).trans rfl,(aa h 3).trans rfl,(aa h 4).trans rfl,(aa h 5).trans rfl,(aa h 6).trans rfl,(aa h 7).trans rfl⟩
theorem eB {p q:Pt} (h:¬p=q):bV p q=false:=nF h
theorem vj (p q:Pt) (w:World):Calls Tryz.prog 210 #[pv p,pv q] w fun e w'=>e=.returned (.bool (bV p q))∧w.grownBy w' none:=by
 obtain⟨W,hW⟩:=Qe ((w.alloc (.cells #[.int .u8 p.wn,.int .u8 p.vb,.int .u8 p.wm,.int .i64 p.ct,.int .u8 p.su,.int .u8 p.tr,.int .u8 p.mr,.string p.nm] 62)).alloc (.cells #[.int .u8 q.wn,.int .u8 q.vb,.int .u8 q.wm,.int .i64 q.ct,.int .u8 q.su,.int .u8 q.tr,.int .u8 q.mr,.string q.nm] 62))
 have HG:Hid (w.grownBy W none):=by rw[hW];exact al QG _
 have HP:Hid (PtX W w.heap.size p∧PtX W (w.heap.size+1) q):=by rw[hW];exact⟨ag QG (ak w _ _) (by simp),aO _ _ _ _⟩
 unfold pv
 obtain⟨n0,hn0⟩:=Qe (w.heap.size)
 obtain⟨n1,hn1⟩:=Qe (n0+1)
 go_enter Tryz.func210,Tryz.ntmps210
 go_upto_region 1 with fail
 rw[←hW]
 simp only[←hn0,←hn1] at HP ⊢
 clear hW hn0 hn1
 obtain⟨x0,x1,x2,x3,x4,x5,x6,x7⟩:=rC HP.out.1
 obtain⟨y0,y1,y2,y3,y4,y5,y6,y7⟩:=rC HP.out.2
 by_cases c0:p.wn=q.wn
 ·have e0:(p.wn == q.wn)=true:=by rw[c0];exact beq_self_eq_true _
  by_cases c1:p.vb=q.vb
  ·have e1:(p.vb == q.vb)=true:=by rw[c1];exact beq_self_eq_true _
   by_cases c2:p.wm=q.wm
   ·have e2:(p.wm == q.wm)=true:=by rw[c2];exact beq_self_eq_true _
    by_cases c3:p.ct=q.ct
    ·have e3:(p.ct == q.ct)=true:=by rw[c3];exact beq_self_eq_true _
     by_cases c4:p.su=q.su
     ·have e4:(p.su == q.su)=true:=by rw[c4];exact beq_self_eq_true _
      by_cases c5:p.tr=q.tr
      ·have e5:(p.tr == q.tr)=true:=by rw[c5];exact beq_self_eq_true _
       by_cases c6:p.mr=q.mr
       ·have e6:(p.mr == q.mr)=true:=by rw[c6];exact beq_self_eq_true _
        by_cases c7:p.nm=q.nm
        ·have e7:(p.nm.toList == q.nm.toList)=true:=by rw[c7];exact beq_self_eq_true _
         have HS:Hid (bV p q=true):=by
          show _=_
          unfold bV
          exact Qy ⟨c0,c1,c2,c3,c4,c5,c6,c7⟩
         clear c0 c1 c2 c3 c4 c5 c6 c7
         go_wp2_with fail
         go_ret
         exact⟨by rw[HS.out] <;> rfl,HG.out⟩
        ·have e7:(p.nm.toList == q.nm.toList)=false:=Bool.eq_false_iff.2 fun z=>c7 (fN (by simpa using z))
         have HS:Hid (bV p q=false):=eB (fun e=>c7 (by rw[e]))
         clear c0 c1 c2 c3 c4 c5 c6 c7
         go_wp2_with fail
         go_ret
         exact⟨by rw[HS.out] <;> rfl,HG.out⟩
       ·have e6:(p.mr == q.mr)=false:=by simpa using c6
        have HS:Hid (bV p q=false):=eB (fun e=>c6 (by rw[e]))
        clear c0 c1 c2 c3 c4 c5 c6
        go_wp2_with fail
        go_ret
        exact⟨by rw[HS.out] <;> rfl,HG.out⟩
      ·have e5:(p.tr == q.tr)=false:=by simpa using c5
       have HS:Hid (bV p q=false):=eB (fun e=>c5 (by rw[e]))
       clear c0 c1 c2 c3 c4 c5
       go_wp2_with fail
       go_ret
       exact⟨by rw[HS.out] <;> rfl,HG.out⟩
     ·have e4:(p.su == q.su)=false:=by simpa using c4
      have HS:Hid (bV p q=false):=eB (fun e=>c4 (by rw[e]))
      clear c0 c1 c2 c3 c4
      go_wp2_with fail
      go_ret
      exact⟨by rw[HS.out] <;> rfl,HG.out⟩
    ·have e3:(p.ct == q.ct)=false:=by simpa using c3
     have HS:Hid (bV p q=false):=eB (fun e=>c3 (by rw[e]))
     clear c0 c1 c2 c3
     go_wp2_with fail
     go_ret
     exact⟨by rw[HS.out] <;> rfl,HG.out⟩
   ·have e2:(p.wm == q.wm)=false:=by simpa using c2
    have HS:Hid (bV p q=false):=eB (fun e=>c2 (by rw[e]))
    clear c0 c1 c2
    go_wp2_with fail
    go_ret
    exact⟨by rw[HS.out] <;> rfl,HG.out⟩
  ·have e1:(p.vb == q.vb)=false:=by simpa using c1
   have HS:Hid (bV p q=false):=eB (fun e=>c1 (by rw[e]))
   clear c0 c1
   go_wp2_with fail
   go_ret
   exact⟨by rw[HS.out] <;> rfl,HG.out⟩
 ·have e0:(p.wn == q.wn)=false:=by simpa using c0
  have HS:Hid (bV p q=false):=eB (fun e=>c0 (by rw[e]))
  clear c0
  go_wp2_with fail
  go_ret
  exact⟨by rw[HS.out] <;> rfl,HG.out⟩
open Go.Shelf
def kE (R:List Rw) (k:Nat):Int:=if k=0 then 0 else (R.getD (k - 1) Rw.none).st
theorem wG (R:List Rw) (k:Nat):kE R (k+1)=(R.getD k Rw.none).st:=by
 unfold kE
 rw[if_neg (by omega)]
 rfl
def BsU (ts:List Th) (last:Int) (i:Nat) (best:Int):Prop:=(best=-1∧∀ (l:Nat) s,l<i→ts[l]?=some s→s.place=4→¬last<s.stamp)∨(∃ (b:Nat) (t:Th),best=(b:Int)∧b<i∧ts[b]?=some t∧t.place=4∧last<t.stamp∧∀ (l:Nat) s,l<i→ts[l]?=some s→s.place=4→last<s.stamp→t.stamp≤s.stamp)
theorem BsU.start (ts:List Th) (last:Int):BsU ts last 0 (-1):=Or.inl ⟨rfl,fun _ _ h=>absurd h (Nat.not_lt_zero _)⟩
theorem BsU.skip {last:Int} {best:Int} {s:Th} (h:BsU ts last i best) (hs:ts[i]?=some s) (hn:¬(s.place=4∧last<s.stamp)):BsU ts last (i+1) best:=by
 rcases h with ⟨e,h⟩ | ⟨b,t,e,hb,ht,h4,hl,h⟩
 ·refine Or.inl ⟨e,fun l u hli hu p=>?_⟩
  by_cases q:l=i
  ·subst q
   rw[hs] at hu
   cases hu
   exact fun z=>hn ⟨p,z⟩
  ·exact h l u (by omega) hu p
 ·refine Or.inr ⟨b,t,e,by omega,ht,h4,hl,fun l u hli hu p z=>?_⟩
  by_cases q:l=i
  ·subst q
   rw[hs] at hu
   cases hu
   exact absurd ⟨p,z⟩ hn
  ·exact h l u (by omega) hu p z
theorem BsU.first {last:Int} {i:Nat} {s:Th} (h:BsU ts last i (-1)) (hs:ts[i]?=some s) (h4:s.place=4) (hl:last<s.stamp):BsU ts last (i+1) (i:Int):=by
 rcases h with ⟨-,h⟩ | ⟨b,t,e,_⟩
 ·refine Or.inr ⟨i,s,rfl,by omega,hs,h4,hl,fun l u hli hu p z=>?_⟩
  by_cases q:l=i
  ·subst q
   rw[hs] at hu
   cases hu
   exact Int.le_refl _
  ·exact absurd z (h l u (by omega) hu p)
 ·omega
theorem BsU.less {last:Int} {i b:Nat} {s:Th} (h:BsU ts last i (b:Int)) (ht:ts[b]?=some t) (hs:ts[i]?=some s) (h4:s.place=4) (hl:last<s.stamp) (hlt:s.stamp<t.stamp):BsU ts last (i+1) (i:Int):=by
 rcases h with ⟨e,_⟩ | ⟨b',t',e,hb,ht',h4',hl',h⟩
 ·omega
 ·obtain rfl:b=b':=by omega
  rw[ht] at ht'
  cases ht'
  refine Or.inr ⟨i,s,rfl,by omega,hs,h4,hl,fun l u hli hu p z=>?_⟩
  by_cases q:l=i
  ·subst q
   rw[hs] at hu
   cases hu
   exact Int.le_refl _
  ·have:=h l u (by omega) hu p z
   omega
theorem BsU.more {last:Int} {b:Nat} {s:Th} (h:BsU ts last i (b:Int)) (ht:ts[b]?=some t) (hs:ts[i]?=some s) (hge:¬s.stamp<t.stamp):BsU ts last (i+1) (b:Int):=by
 rcases h with ⟨e,_⟩ | ⟨b',t',e,hb,ht',h4',hl',h⟩
 ·omega
 ·obtain rfl:b=b':=by omega
  have ht2:=ht'
  rw[ht] at ht'
  cases ht'
  refine Or.inr ⟨b,t,rfl,by omega,ht2,h4',hl',fun l u hli hu p z=>?_⟩
  by_cases q:l=i
  ·subst q
   rw[hs] at hu
   cases hu
   omega
  ·exact h l u (by omega) hu p z
theorem BO (h:Tab n cd ts fs R) {l:Nat} {s:Th} (hs:ts[l]?=some s) (h4:s.place=4):∃ q,q<R.length∧(R.getD q Rw.none).st=s.stamp∧(R.getD q Rw.none).nu=(l:Int)+1:=by
 obtain⟨q,hq,e⟩:=List.getElem_of_mem (h.row_in hs h4)
 exact⟨q,hq,by rw[aB hq,e],by rw[aB hq,e]⟩
theorem rc (h:Tab n cd ts fs R) {a b:Nat} (hb:b<R.length) (hab:a<b):(R.getD a Rw.none).st<(R.getD b Rw.none).st:=by
 rw[aB hb,aB (Nat.lt_trans hab hb)]
 exact List.pairwise_iff_getElem.1 h.up a b _ _ hab
theorem oG (h:Tab n cd ts fs R) {k q:Nat} (hk:k≤R.length) (hq:q<R.length):kE R k<(R.getD q Rw.none).st↔k≤q:=by
 unfold kE
 by_cases h0:k=0
 ·rw[if_pos h0]
  have:=(h.thing hq).2.2.1
  exact⟨fun _=>by omega,fun _=>this⟩
 ·rw[if_neg h0]
  constructor
  ·intro z
   refine Nat.le_of_not_lt fun y=>?_
   by_cases e:q=k - 1
   ·rw[e] at z
    omega
   ·have:=rc h (a:=q) (b:=k - 1) (by omega) (by omega)
    omega
  ·intro z
   exact rc h hq (by omega)
theorem BsU.end {best:Int} {k:Nat} (h:Tab n cd ts fs R) (hk:k≤R.length) (B:BsU ts (kE R k) ts.length best):(k=R.length∧best=-1)∨(k<R.length∧∃ (b:Nat) (t:Th),best=(b:Int)∧ts[b]?=some t∧t.stamp=(R.getD k Rw.none).st∧(R.getD k Rw.none).nu=(b:Int)+1):=by
 rcases B with ⟨e,B⟩ | ⟨b,t,e,hb,ht,h4,hl,B⟩
 ·refine Or.inl ⟨?_,e⟩
  refine Nat.le_antisymm hk (Nat.le_of_not_lt fun z=>?_)
  obtain⟨j,s,hs,s4,hn,hst⟩:=h.from (show R.getD k Rw.none∈R by rw[aB z];exact List.getElem_mem _)
  exact B j s (Qh hs).1 hs s4 (by rw[←hst];exact(oG h hk z).2 (Qj _))
 ·obtain⟨q,hq,q1,q2⟩:=BO h ht h4
  have hkq:k≤q:=(oG h hk hq).1 (by rw[q1];exact hl)
  have hkl:k<R.length:=Nat.lt_of_le_of_lt hkq hq
  obtain⟨j,s,hs,s4,hn,hst⟩:=h.from (show R.getD k Rw.none∈R by rw[aB hkl];exact List.getElem_mem _)
  have hle:=B j s (Qh hs).1 hs s4 (by rw[←hst];exact(oG h hk hkl).2 (Qj _))
  have hqk:q=k:=by
   refine Nat.le_antisymm (Nat.le_of_not_lt fun z=>?_) hkq
   have:=rc h hq z
   omega
  subst hqk
  exact Or.inr ⟨hkl,b,t,e,ht,q1.symm,q2⟩
def lenS:Value→Nat
 | .slice _ n _=>n
 | _=>0
theorem BB {k:Nat} (h:k<R.length):(R.take (k+1)).map Rw.nu=(R.take k).map Rw.nu++[(R.getD k Rw.none).nu]:=by
 rw[List.take_add_one,Qg h,aB h,Option.toList_some,List.map_append]
 rfl
def mR (R:List Rw) (k:Nat):List Int:=(R.take k).map Rw.nu
theorem sr {k:Nat} (h:k≤R.length):(mR R k).length=k:=by
 unfold mR
 rw[List.length_map,List.length_take,Nat.min_eq_left h]
theorem jn {off n:Nat} {X:List Th} (h:thR.At w (.slice (some ⟨g,off,none⟩) n c) X) {i:Nat} {x:Th} (hx:X[i]?=some x):w.rangeAt g (off+i*11) (thc x):=by
 obtain⟨hi,e⟩:=Qh hx
 obtain⟨g',off',cap,e1,r⟩:=bO h hi
 injection e1 with e1 _ _
 injection e1 with e1
 injection e1 with ea eb
 rw[ea,eb,←e]
 exact r
theorem nO (vt:Value) (n:Int) (cd:Int→Hd×List Pt) (ts:List Th) (F:List Fe) (R:List Rw) (w:World) (A:thR.At w vt ts) (hT:Tab n cd ts F R) (hl:ts.length≤2048):Calls Tryz.prog 143 #[vt] w fun e w'=>∃ v,e=.returned v∧aV w' w.heap.size v (R.map Rw.nu)∧w.grownBy w' none:=by
 obtain⟨i0,hi,hz0,hz1,hz2⟩:=info_parts Tryz.linfo3
 obtain⟨pt,ct,rfl⟩:=A.form
 have HA:Hid (thR.At w (.slice pt ts.length ct) ts∧Tab n cd ts F R∧ts.length≤2048):=⟨A,hT,hl⟩
 clear A hT hl
 go_enter Tryz.func143,Tryz.ntmps143
 go_wp2_with fail
 go_loopw [3,4,5,6] (fun v y _ _ wr=>∃ (k:Nat) (p:Option Addr) (c:Nat),k≤R.length∧v=.slice p k c∧y=.int .i64 (kE R k)∧Hid (aV wr w.heap.size (.slice p k c) (mR R k)∧w.grownBy wr none)) (fun v _ _ _ _=>R.length - lenS v)
 case atStart=>exact⟨0,none,0,Q0 _,rfl,rfl,⟨rfl,Or.inl ⟨rfl,rfl⟩⟩,ay _ _⟩
 case round =>
  obtain⟨k,p,c,hk',rfl,rfl,HK⟩:=hrel
  obtain⟨U,hU⟩:=Qe (wr)
  subst hU
  have Hk:Hid (k≤R.length):=hk'
  obtain⟨la,hla⟩:=Qe (kE R k)
  have Hla:Hid (la=kE R k):=hla
  rw[←hla]
  clear hk' hla
  go_upto_block 2 with fail
  go_cut [5,6] from 7 to 45 (fun y _ wc=>∃ best:Int,y=.int .i64 best∧BsU ts la ts.length best∧U.grownBy wc none)
  case first =>
   go_wp2_with fail
   go_loopw [5,6] (fun y z wr=>∃ (i:Nat) (best:Int),i≤ts.length∧z=.int .i64 (i:Int)∧y=.int .i64 best∧Hid (BsU ts la i best∧U.grownBy wr none)) (fun _ z _=>ts.length - (intOf z).toNat)
   case atStart=>exact⟨0,-1,Q0 _,rfl,rfl,BsU.start _ _,ay _ _⟩
   case round =>
    obtain⟨i,best,hi',rfl,rfl,HB⟩:=hrel
    obtain⟨Q,hQ⟩:=Qe (wr)
    subst hQ
    by_cases hi2:i<ts.length
    ·have i1:(i:Int)<(ts.length:Int):=Int.ofNat_lt.2 hi2
     have hwk:=aK (k:=i) (Ql (Nat.le_of_lt hi2) (Ql HA.out.2.2 (by decide)))
     have HM:Hid (ts.length - (intOf (.int .i64 ((i:Int)+1))).toNat<ts.length - (intOf (.int .i64 (i:Int))).toNat):=bj hi2
     obtain⟨gT,oT,cT,eT,-⟩:=bO HA.out.1 hi2
     injection eT with eT eT2 eT3
     clear eT2 eT3
     subst eT
     obtain⟨s,hs⟩:∃ s,ts[i]?=some s:=⟨_,Qg hi2⟩
     have gQ:=ae HK.out.2 HB.out.2
     obtain⟨-,-,s2,s3,-⟩:=bz (jn (HA.out.1.keep gQ) hs)
     have Hs:Hid (ts[i]?=some s∧i<ts.length):=⟨hs,hi2⟩
     clear hi' hi2 hs
     by_cases h4:s.place=4
     ·have e1:(s.place == 4)=true:=by rw[h4];rfl
      by_cases h5:la<s.stamp
      ·have e2:decide (la<s.stamp)=true:=Qy h5
       rcases id HB.out.1 with ⟨eb,-⟩ | ⟨b,t,eb,hbi,ht,-⟩
       ·subst eb
        have HN:Hid (BsU ts la (i+1) (i:Int)):=HB.out.1.first Hs.out.1 h4 h5
        rw[h4] at s2
        clear h4 h5
        go_upto_region 7 with fail
        go_quiet (fail)
        clear s2 s3 e1 e2
        go_wp2_with fail
        go_roundw
        case rel=>exact⟨i+1,(i:Int),Hs.out.2,by first | rfl | (rw[hwk];rfl) | go_num,rfl,HN.out,ae HB.out.2 (aF _ _ _)⟩
        case measure=>first | exact HM.out | (rw[hwk];exact HM.out)
       ·subst eb
        obtain⟨-,-,-,t3,-⟩:=bz (jn (HA.out.1.keep gQ) ht)
        have b0:¬((b:Int)<0):=by omega
        have b1:(b:Int)<(ts.length:Int):=by have:=Hs.out.2;omega
        have b2:(0:Int)≤(b:Int):=by omega
        by_cases h6:s.stamp<t.stamp
        ·have e3:decide (s.stamp<t.stamp)=true:=Qy h6
         have HN:Hid (BsU ts la (i+1) (i:Int)):=HB.out.1.less ht Hs.out.1 h4 h5 h6
         rw[h4] at s2
         clear h4 h5 h6 hbi ht
         go_upto_region 7 with fail
         go_quiet (fail)
         clear s2 s3 t3 e1 e2 e3
         go_wp2_with fail
         go_roundw
         case rel=>exact⟨i+1,(i:Int),Hs.out.2,by first | rfl | (rw[hwk];rfl) | go_num,rfl,HN.out,ae HB.out.2 (aF _ _ _)⟩
         case measure=>first | exact HM.out | (rw[hwk];exact HM.out)
        ·have e3:decide (s.stamp<t.stamp)=false:=Qx h6
         have HN:Hid (BsU ts la (i+1) (b:Int)):=HB.out.1.more ht Hs.out.1 h6
         rw[h4] at s2
         clear h4 h5 h6 hbi ht
         go_upto_region 7 with fail
         go_quiet (fail)
         clear s2 s3 t3 e1 e2 e3
         go_wp2_with fail
         go_roundw
         case rel=>exact⟨i+1,(b:Int),Hs.out.2,by first | rfl | (rw[hwk];rfl) | go_num,rfl,HN.out,ae HB.out.2 (aF _ _ _)⟩
         case measure=>first | exact HM.out | (rw[hwk];exact HM.out)
      ·have e2:decide (la<s.stamp)=false:=Qx h5
       have HN:Hid (BsU ts la (i+1) best):=HB.out.1.skip Hs.out.1 (fun q=>h5 q.2)
       rw[h4] at s2
       clear h4 h5
       go_upto_region 7 with fail
       go_quiet (fail)
       clear s2 s3 e1 e2
       go_wp2_with fail
       go_roundw
       case rel=>exact⟨i+1,best,Hs.out.2,by first | rfl | (rw[hwk];rfl) | go_num,rfl,HN.out,ae HB.out.2 (aF _ _ _)⟩
       case measure=>first | exact HM.out | (rw[hwk];exact HM.out)
     ·have e1:(s.place == 4)=false:=by simpa using h4
      have HN:Hid (BsU ts la (i+1) best):=HB.out.1.skip Hs.out.1 (fun q=>h4 q.1)
      clear h4
      go_upto_region 7 with fail
      go_quiet (fail)
      clear s2 s3 e1
      go_wp2_with fail
      go_roundw
      case rel=>exact⟨i+1,best,Hs.out.2,by first | rfl | (rw[hwk];rfl) | go_num,rfl,HN.out,ae HB.out.2 (aF _ _ _)⟩
      case measure=>first | exact HM.out | (rw[hwk];exact HM.out)
    ·obtain rfl:i=ts.length:=Nat.le_antisymm hi' (Nat.le_of_not_lt hi2)
     have i1:¬(ts.length:Int)<(ts.length:Int):=Int.lt_irrefl _
     have HE:Hid (BsU ts la ts.length best∧U.grownBy Q none):=HB.out
     clear hi' hi2 HB
     go_wp2_with fail
     go_meet
     case rel=>exact⟨best,rfl,HE.out.1,HE.out.2⟩
  case rest =>
   obtain⟨best,rfl,hB,hG⟩:=hcut
   obtain⟨X,hX⟩:=Qe (wc)
   subst hX
   have HX:Hid (aV X w.heap.size (.slice p k c) (mR R k)∧w.grownBy X none):=⟨aw HK.out.1 hG,ae HK.out.2 hG⟩
   rw[Hla.out] at hB
   have he:=BsU.end HA.out.2.1 Hk.out hB
   clear hB hG HK
   rcases he with ⟨ek,rfl⟩ | ⟨hkl,b,t,rfl,ht,hst,hnu⟩
   ·have HF:Hid (aV X w.heap.size (.slice p k c) (R.map Rw.nu)∧w.grownBy X none):=⟨by have h9:=HX.out.1;unfold mR at h9;rw[ek,List.take_length] at h9;rw[ek];exact h9,HX.out.2⟩
    clear ek HX
    go_wp2_with fail
    go_ret
    exact⟨_,rfl,HF.out.1,HF.out.2⟩
   ·have hbl:b<ts.length:=(Qh ht).1
    have b0:¬((b:Int)<0):=by omega
    have b1:(b:Int)<(ts.length:Int):=by omega
    have b2:(0:Int)≤(b:Int):=by omega
    have hwb:=aK (k:=b) (Ql (Nat.le_of_lt hbl) (Ql HA.out.2.2 (by decide)))
    obtain⟨gT,oT,cT,eT,-⟩:=bO HA.out.1 hbl
    injection eT with eT eT2 eT3
    clear eT2 eT3
    subst eT
    have HY:Hid (k<R.length∧ts[b]?=some t∧t.stamp=kE R (k+1)∧mR R (k+1)=mR R k++[(b:Int)+1]∧R.length≤16):=⟨hkl,ht,by rw[wG];exact hst,by unfold mR;rw[BB hkl,hnu],HA.out.2.1.few⟩
    have HO:Hid (X.ownsRow w.heap.size 3 1 (.slice p k c) k (ints (mR R k))):=by
     have h9:=HX.out.1
     unfold aV at h9
     rw[sr Hk.out] at h9
     exact h9
    have HLn:Hid (k+1≤maxLen∧(k+1)*8≤140737488355328∧w.heap.size≤(X.alloc (.cells #[.int .i64 ((b:Int)+1)] 3)).heap.size):=⟨by have:=HY.out.2.2.2.2;have:=HY.out.1;unfold maxLen;omega,by have:=HY.out.2.2.2.2;have:=HY.out.1;omega,Ql HX.out.2.size (World.grownBy_alloc X (.cells #[.int .i64 ((b:Int)+1)] 3) none).size⟩
    have HSr:Hid (Src (X.alloc (.cells #[.int .i64 ((b:Int)+1)] 3)) (.slice (some ⟨X.heap.size,0,none⟩) 1 1) 1 1 (ints [(b:Int)+1])):=⟨_,_,rfl,rfl,fun _=>⟨_,rfl,mJ X _⟩⟩
    clear hkl ht hst hnu hbl
    go_upto_region 12 with (at_builtin;refine bE (by rfl) (.tmp 49) (.tmp 52) 143 rfl w.heap.size 3 i0 _ 1 8 Tryz.underlying143 hi hz0 hz1 hz2 rfl (by decide) _ k (ints (mR R k)) rfl (World.ownsRow.alloc HO.out _) _ 1 (ints [(b:Int)+1]) rfl HSr.out (lr _) HLn.out.1 HLn.out.2.1 HLn.out.2.2 ?_;intro v9 w9 o9 g9 _;obtain⟨pv,kv,rfl,-⟩:=br o9;have HO9:Hid _:=o9;have HG9:Hid _:=g9;clear o9 g9)
    have HZ:Hid (aV w9 w.heap.size (.slice pv (k+1) kv) (mR R (k+1))∧w.grownBy w9 none):=by
     refine⟨?_,ar (ae HX.out.2 (World.grownBy_alloc X (.cells #[.int .i64 ((b:Int)+1)] 3) none)) HG9.out (fun y e=>(World.ownsRow.lt (World.ownsRow.alloc HO.out (.cells #[.int .i64 ((b:Int)+1)] 3)) y e).1)⟩
     rw[HY.out.2.2.2.1]
     exact lq HO9.out (sr Hk.out).symm
    obtain⟨-,-,-,t3,-⟩:=bz (jn (HA.out.1.keep HZ.out.2) HY.out.2.1)
    clear HO9 HG9 HO HX HSr HLn
    go_wp2_with fail
    go_roundw
    case rel=>exact⟨k+1,pv,kv,HY.out.1,rfl,by rw[HY.out.2.2.1],HZ.out.1,HZ.out.2⟩
    case measure=>show R.length - (k+1)<R.length - k;have:=HY.out.1;omega
end Go.Proofs.YtjmepebbcnhalaaGreat
