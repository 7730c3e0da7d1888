/-
  View: features with marks.
  The document's view: features with marks.
  The document's layers: which effect comes next (plainly).
-/
import Derived.Test.YthfjgpjcepmnmaaGreatZ34
import Derived.Test.YthfjgpjcepmnmaaGreatZ16
import Derived.Test.YthfjgpjcepmnmaaGreatZ0
import Derived.Test.YthfjgpjcepmnmaaGreatZ42
namespace Go.Proofs.YthfjgpjcepmnmaaGreat
open Go.RowKit Go.Shelf
theorem mkd_fill (mf:Fe→Th→Fe) (ts:List Th) (fs:List Fe) (hl:ts.length=fs.length):fillU (fun i=>mkdT mf (ts.getD i Th.none) (fs.getD i Fe.none)) fs.length fs.length=mkdL mf ts fs:=by
 rw[fillU_all]
 unfold mkdL
 refine List.ext_getElem (by simp;omega) fun i h1 h2=>?_
 simp only[List.getElem_map,List.getElem_range,List.getElem_zipWith]
 simp only[List.length_zipWith] at h2
 rw[getD_in (by omega),getD_in (by omega)]
theorem cell_in {w:World} {g i:Nat} {v:Value} (h:w.cell? ⟨g,i,none⟩=some v):g<w.heap.size:=by
 unfold World.cell? at h
 cases hg:w.heap[g]? with
 | none=>simp[hg] at h
 | some o=>exact(Array.getElem?_eq_some_iff.1 hg).1
set_option maxRecDepth 100000
set_option maxHeartbeats 4000000
def mfR (p:Pl) (f:Fe) (t:Th):Fe:=if okcs t.m0 t.m1 t.m2 t.m3=true then mkdF p f t.m0 t.m1 t.m2 t.m3 else Fe.none
theorem rmarked20_any (ok:Nat→Prop) (r:Nat) (vr:Value) (p:Pl) (gs:List Ent) (vt vf:Value) (ts:List Th) (fs:List Fe) (w:World) (B0:RD ok w r vr p gs) (A:thR.At w vt ts) (B:feR.At w vf fs) (hl:ts.length=fs.length) (h2:ts.length≤2048) (hg:RgL fs) (ho:∀ t∈ts,t.place=4→okcs t.m0 t.m1 t.m2 t.m3=true):Calls Tryz.prog 119 #[.pointer (some ⟨r,0,none⟩),vt,vf] w fun e w'=>∃ v',e=.returned v'∧FOwn w' w.heap.size v' (mkdL (mfR p) ts fs)∧w.grownBy w' none:=by
 obtain⟨i0,hi,hz0,hz1,hz2⟩:=info_parts Tryz.linfoF
 obtain⟨pt,ct,rfl⟩:=A.form
 obtain⟨pf,cf,rfl⟩:=B.form
 obtain⟨h,hh⟩:∃ h:Nat→Fe,h=fun i=>mkdT (mfR p) (ts.getD i Th.none) (fs.getD i Fe.none):=⟨_,rfl⟩
 have Hh:Hid (h=fun i=>mkdT (mfR p) (ts.getD i Th.none) (fs.getD i Fe.none)):=hh
 have HA:Hid (thR.At w (.slice pt ts.length ct) ts):=A
 have HB:Hid (feR.At w (.slice pf fs.length cf) fs):=B
 have HP:Hid (∀ X f (t:Th),w.grownBy X none→t∈ts→t.place=4→f∈fs→Calls Tryz.prog 183 #[.pointer (some ⟨r,0,none⟩),fev f,.agg #[.int .i64 t.m0,.int .i64 t.m1,.int .i64 t.m2,.int .i64 t.m3]] X fun e w'=>e=.returned (.tuple #[fev (mfR p f t),.int .i64 0])∧X.grownBy w' none):=fun X f t g q1 q2 q3=>by
  have z:=rmarked_yes r vr p f t.m0 t.m1 t.m2 t.m3 X (B0.rj.keep g) B0.mkd (ho t q1 q2) (hg f q3).2
  unfold mfR
  rw[if_pos (ho t q1 q2)]
  exact z
 have Hl:Hid (ts.length=fs.length∧ts.length≤2048):=⟨hl,h2⟩
 have Hbb:Hid (i0.bytes*fs.length≤281474976710656):=by show i0.bytes*fs.length≤_;rw[hz2];omega
 have Hbm:Hid (fs.length≤maxLen):=by show fs.length≤maxLen;unfold maxLen;omega
 clear A B B0 hl h2 hh hg ho
 go_enter Tryz.func119,Tryz.ntmps119
 go_wp2_with (at_make;refine wpList_make_full _ rfl _ _ 24 rfl w.heap.size 65 i0 _ 5 Tryz.underlying24 hi hz0 hz1 .i64 .i64 _ _ fs.length rfl rfl rfl rfl Hbb.out Hbm.out (Nat.le_refl _) ?_;intro V o1 gv;have HF0:Hid (FOwn V w.heap.size (.slice (some ⟨w.heap.size,0,none⟩) fs.length fs.length) (List.replicate fs.length Fe.none)):=made_own o1;have HGV:Hid (w.grownBy V none):=gv;clear o1 gv)
 obtain⟨g0,h0⟩:∃ g0,g0=w.heap.size:=⟨_,rfl⟩
 have Hg0:Hid (g0=w.heap.size):=h0
 simp only[←h0] at HF0 ⊢
 clear h0 hi hz0 hz1 hz2
 go_loopw [8] (fun i wr=>∃ k:Nat,k≤fs.length∧i=.int .i64 (k:Int)∧FOwn wr g0 (.slice (some ⟨g0,0,none⟩) fs.length fs.length) (fillU h fs.length k)∧w.grownBy wr none) (fun i _=>fs.length - (intOf i).toNat)
 case atStart=>exact⟨0,Nat.zero_le _,rfl,by rw[fillU_zero];exact HF0.out,HGV.out⟩
 case round =>
  obtain⟨k,hk,rfl,O,G⟩:=hrel
  obtain⟨U,hU⟩:∃ U,U=wr:=⟨_,rfl⟩
  subst hU
  have HG:Hid (w.grownBy U none):=G
  by_cases hlf:k<fs.length
  ·have hlt:k<ts.length:=by have:=Hl.out.1;omega
   obtain⟨g,off,cap,e1,R⟩:=th_there HA.out hlt
   cases e1
   obtain⟨gf,fof,fcap,e2,RF⟩:=fe_there HB.out hlf
   cases e2
   obtain⟨t,ht⟩:∃ t,t=ts[k]:=⟨_,rfl⟩
   rw[←ht] at R
   obtain⟨f,hf⟩:∃ f,f=fs[k]:=⟨_,rfl⟩
   rw[←hf] at RF
   have HT:Hid (h k=mkdT (mfR p) t f):=by show _=_;rw[Hh.out,ht,hf];show mkdT (mfR p) (ts.getD k Th.none) (fs.getD k Fe.none)=_;rw[getD_in hlt,getD_in hlf]
   have Hmem:Hid (t∈ts∧f∈fs):=⟨by rw[ht];exact List.getElem_mem hlt,by rw[hf];exact List.getElem_mem hlf⟩
   have Hgf:Hid (some gf≠some g0∧some g≠some g0):=by
    have q:=cell_in (fe_cells RF).1
    have q2:=cell_in (th_cells R).1
    have:=Hg0.out
    exact⟨by intro e;injection e with e;omega,by intro e;injection e with e;omega⟩
   obtain⟨c0,c1,c2,c3,c4,c5,c6,c7,c8,c9,c10⟩:=th_cells (rangeAt_keep R G)
   have HOY:Hid (FOwn U g0 (.slice (some ⟨g0,0,none⟩) fs.length fs.length) (fillU h fs.length k)):=O
   have HRF:Hid (U.rangeAt gf (fof+k*5) (fec f)):=rangeAt_keep RF G
   have hlt':(k:Int)<ts.length:=Int.ofNat_lt.2 hlt
   have hlf':(k:Int)<fs.length:=Int.ofNat_lt.2 hlf
   have hwk:=wrap_next (k:=k) (Nat.le_trans (Nat.le_of_lt hlt) (Nat.le_trans Hl.out.2 (by decide)))
   have Hlt:Hid (k<ts.length∧k<fs.length):=⟨hlt,hlf⟩
   have HM:Hid (fs.length - (intOf (.int .i64 ((k:Int)+1))).toNat<fs.length - (intOf (.int .i64 (k:Int))).toNat):=meas_k hlf
   clear O G R RF ht hf hlt hk hlf
   by_cases hp:t.place=4
   ·have hpb:(t.place == 4)=true:=by rw[hp];rfl
    have HF:Hid (h k=mfR p f t):=HT.out.trans (if_pos hp)
    have C0:=fun X q=>HP.out X f t q Hmem.out.1 hp Hmem.out.2
    obtain⟨f2,hf2⟩:∃ f2,f2=mfR p f t:=⟨_,rfl⟩
    have HC:Hid (∀ X,U.grownBy X none→Calls Tryz.prog 183 #[.pointer (some ⟨r,0,none⟩),.agg #[.int .i64 f.ho,.int .u8 f.su,.int .u16 f.tr,.int .i64 f.po,.int .i64 f.he],.agg #[.int .i64 t.m0,.int .i64 t.m1,.int .i64 t.m2,.int .i64 t.m3]] X fun e w'=>e=.returned (.tuple #[.agg #[.int .i64 f2.ho,.int .u8 f2.su,.int .u16 f2.tr,.int .i64 f2.po,.int .i64 f2.he],.int .i64 0])∧X.grownBy w' none):=fun X q=>by
     have:=C0 X (grown_trans HG.out q)
     rw[←hf2] at this
     exact this
    rw[←hf2] at HF
    obtain⟨f0,f1,f2',f3,f4⟩:=fe_cells HRF.out
    have hnf:=Hgf.out.1
    have hng:=Hgf.out.2
    clear hp hf2 HT C0
    go_upto_region 6 with fail
    refine wp_region_held_drew (S:=fun w'=>U.grownBy w' (some g0)) (by kernel_rfl) (grown_drewR _ _) (fun hHeld=>?_)
    refine QZ 0 rfl ?_
    go_frame
    refine QZ 1 rfl ?_
    go_frame
    refine QZ 2 rfl ?_
    go_frame
    refine QZ 3 rfl ?_
    go_frame
    refine QZ 4 rfl ?_
    go_frame
    refine QZ 5 rfl ?_
    go_frame
    refine QT 6 rfl (by intro w0 hSw;have f0:=hSw.cell f0 hnf;have f1:=hSw.cell f1 hnf;have f2':=hSw.cell f2' hnf;have f3:=hSw.cell f3 hnf;have f4:=hSw.cell f4 hnf;go_simp;try with_reducible rfl) ?_
    go_frame
    refine QZ 7 rfl ?_
    go_frame
    refine QZ 8 rfl ?_
    go_frame
    refine QZ 9 rfl ?_
    go_frame
    refine QZ 10 rfl ?_
    go_frame
    refine QT 11 rfl (by intro w0 hSw;have c5:=hSw.cell c5 hng;have c6:=hSw.cell c6 hng;have c7:=hSw.cell c7 hng;have c8:=hSw.cell c8 hng;go_simp;try with_reducible rfl) ?_
    go_frame
    clear f0 f1 f2' f3 f4 c0 c1 c2 c3 c4 c5 c6 c7 c8 c9 c10 hng hnf
    refine QR 12 rfl (fun K hK=>?_)
    go_simp
    go_at_call 183
    refine(HC.out _ (grown_drew _)).mono ?_
    rintro e2 w2 ⟨rfl,g2⟩
    have HG2:Hid (U.grownBy w2 none):=grown_trans (grown_drew _) g2
    clear g2
    refine hK.out _ _ (grown_some HG2.out _) (fun hHeld2=>?_)
    clear hK K
    (try go_frame)
    refine QZ 13 rfl ?_
    go_frame
    refine QZ 14 rfl ?_
    go_frame
    refine QZ 15 rfl ?_
    go_frame
    have HO2:Hid (FOwn w2 g0 (.slice (some ⟨g0,0,none⟩) fs.length fs.length) (fillU h fs.length k)):=own_grow HOY.out HG2.out
    obtain⟨u0,u1,u2,u3,u4,y0,y1,y2,y3,y4,q0,q1,q2,q3,q4⟩:=there5 (fe_there_own HO2.out (fillU_len h _ k) Hlt.out.2)
    obtain⟨Z,hZ⟩:∃ Z,Z=((((w2.setCell ⟨g0,k*5,none⟩ (.int .i64 f2.ho)).setCell ⟨g0,k*5+1,none⟩ (.int .u8 f2.su)).setCell ⟨g0,k*5+2,none⟩ (.int .u16 f2.tr)).setCell ⟨g0,k*5+3,none⟩ (.int .i64 f2.po)).setCell ⟨g0,k*5+4,none⟩ (.int .i64 f2.he):=⟨_,rfl⟩
    have q:=fe_set_own HO2.out (fillU_len h _ k) Hlt.out.2 f2
    rw[show w2.setCells g0 (k*5) (fec f2)=Z from by rw[hZ];rfl] at q
    have HGZ:Hid (w2.grownBy Z (some g0)):=q.2
    have HQ:Hid (FOwn Z g0 (.slice (some ⟨g0,0,none⟩) fs.length fs.length) (fillU h fs.length (k+1))∧w.grownBy Z none):=⟨by rw[←fillU_set HF.out];exact q.1,grown_own (grown_trans HG.out HG2.out) q.2 (fun y e=>by cases e;rw[Hg0.out];exact Nat.le_refl _)⟩
    clear q
    refine QZ 16 rfl ?_
    go_frame
    refine QR 17 rfl (fun K9 hK=>?_)
    go_simp
    rw[←hZ]
    refine hK.out _ _ (grown_trans (grown_some HG2.out _) HGZ.out) (fun hHeld3=>?_)
    clear hK K9
    (try go_frame)
    refine QD ?_
    clear hZ y0 y1 y2 y3 y4 q0 q1 q2 q3 q4
    go_wp2_with fail
    go_roundw
    case rel=>exact⟨k+1,Hlt.out.2,by first | rfl | (rw[hwk];rfl) | go_num,HQ.out⟩
    case measure=>first | exact HM.out | (rw[hwk];exact HM.out)
   ·have hpb:(t.place == 4)=false:=by simpa using hp
    have HF:Hid (h k=Fe.none):=HT.out.trans (if_neg hp)
    have HQ:Hid (FOwn U g0 (.slice (some ⟨g0,0,none⟩) fs.length fs.length) (fillU h fs.length (k+1))∧w.grownBy U none):=⟨by rw[fillU_skip HF.out];exact HOY.out,HG.out⟩
    clear hp HT HF
    go_wp2_with fail
    go_roundw
    case rel=>exact⟨k+1,Hlt.out.2,by first | rfl | (rw[hwk];rfl) | go_num,HQ.out⟩
    case measure=>first | exact HM.out | (rw[hwk];exact HM.out)
  ·obtain rfl:k=fs.length:=Nat.le_antisymm hk (Nat.le_of_not_lt hlf)
   have HF:Hid (FOwn U w.heap.size (.slice (some ⟨g0,0,none⟩) fs.length fs.length) (mkdL (mfR p) ts fs)∧w.grownBy U none):=⟨by rw[←mkd_fill (mfR p) ts fs Hl.out.1,←Hh.out,←Hg0.out];exact O,G⟩
   clear O G hk hlf
   go_wp2_with fail
   go_ret
   exact⟨_,rfl,HF.out⟩
def ahL (ts:List Th) (a b:Sd):Bool:=ahB (stOf ts a.th) (stOf ts b.th) a.pl b.pl
def InT (ts:List Th) (a:Sd):Prop:=∃ (z:Nat) (t:Th),a.th=(z:Int)+1∧ts[z]?=some t
theorem ahL_iff {ts:List Th} {a b:Sd}:ahL ts a b=true↔stOf ts a.th<stOf ts b.th∨stOf ts a.th=stOf ts b.th∧a.pl<b.pl:=by
 unfold ahL ahB
 simp[Bool.or_eq_true,Bool.and_eq_true,decide_eq_true_eq]
theorem ahL_self (ts:List Th) (a:Sd):ahL ts a a=false:=Bool.eq_false_iff.2 fun h=>by rw[ahL_iff] at h;omega
theorem ahL_trans {ts:List Th} {a b c:Sd} (h1:ahL ts a b=true) (h2:ahL ts b c=true):ahL ts a c=true:=by rw[ahL_iff] at *;omega
theorem rahL_any (vt:Value) (ts:List Th) (a b:Sd) (w:World) (A:thR.At w vt ts) (ha:InT ts a) (hb:InT ts b) (hl:ts.length≤2048):Calls Tryz.prog 165 #[vt,sdv a,sdv b] w fun e w'=>e=.returned (.bool (ahL ts a b))∧w.grownBy w' none:=by
 obtain⟨z,t,h1,h2⟩:=ha
 obtain⟨y,u,h3,h4⟩:=hb
 have e1:stOf ts a.th=t.stamp:=by unfold stOf;rw[h1,toN,List.getD_eq_getElem?_getD,h2];rfl
 have e2:stOf ts b.th=u.stamp:=by unfold stOf;rw[h3,toN,List.getD_eq_getElem?_getD,h4];rfl
 have h:=rahd_any vt ts a b z y t u w A h1 h2 h3 h4 hl
 unfold ahL
 rw[e1,e2]
 exact h
structure NxU (ts:List Th) (S:List Sd) (P:Nat→Bool) (i a:Nat) (f:Int):Prop where
 first:a≤i∧(i=0→a=0)∧(0<i→a<i)∧∀ b,b<i→ahL ts (S.getD b Sd.none) (S.getD a Sd.none)=false
 free:(f=-1∧∀ b,b<i→P b=false)∨∃ c:Nat,c<i∧f=(c:Int)∧P c=true∧∀ b,b<i→P b=true→ahL ts (S.getD b Sd.none) (S.getD c Sd.none)=false
theorem NxU.start (ts:List Th) (S:List Sd) (P:Nat→Bool):NxU ts S P 0 0 (-1):=⟨⟨Nat.le_refl _,fun _=>rfl,fun h=>absurd h (Nat.lt_irrefl _),fun _ h=>absurd h (Nat.not_lt_zero _)⟩,Or.inl ⟨rfl,fun _ h=>absurd h (Nat.not_lt_zero _)⟩⟩
def NxF (ts:List Th) (S:List Sd) (i a:Nat):Prop:=a<i+1∧∀ b,b<i+1→ahL ts (S.getD b Sd.none) (S.getD a Sd.none)=false
theorem NxU.here {ts:List Th} {S:List Sd} {P:Nat→Bool} {i a:Nat} {f:Int} (h:NxU ts S P i a f) (e:ahL ts (S.getD i Sd.none) (S.getD a Sd.none)=true):NxF ts S i i:=⟨Nat.lt_succ_self _,fun b hb=>by
 by_cases q:b=i
 ·subst q;exact ahL_self _ _
 ·refine Bool.eq_false_iff.2 fun z=>?_
  have:=ahL_trans z e
  rw[h.first.2.2.2 b (by omega)] at this
  cases this⟩
theorem NxU.there {ts:List Th} {S:List Sd} {P:Nat→Bool} {i a:Nat} {f:Int} (h:NxU ts S P i a f) (e:ahL ts (S.getD i Sd.none) (S.getD a Sd.none)=false):NxF ts S i a:=⟨Nat.lt_succ_of_le h.first.1,fun b hb=>by
 by_cases q:b=i
 ·subst q;exact e
 ·exact h.first.2.2.2 b (by omega)⟩
theorem NxF.next {ts:List Th} {S:List Sd} {i a:Nat} (h:NxF ts S i a):a≤i+1∧(i+1=0→a=0)∧(0<i+1→a<i+1)∧∀ b,b<i+1→ahL ts (S.getD b Sd.none) (S.getD a Sd.none)=false:=⟨Nat.le_of_lt h.1,fun z=>absurd z (by omega),fun _=>h.1,h.2⟩
theorem NxU.stuck {ts:List Th} {S:List Sd} {P:Nat→Bool} {i a a':Nat} {f:Int} (h:NxU ts S P i a f) (hf:NxF ts S i a') (hp:P i=false):NxU ts S P (i+1) a' f:=⟨hf.next,by
 rcases h.free with ⟨h1,h2⟩ | ⟨c,h1,h2,h3,h4⟩
 ·refine Or.inl ⟨h1,fun b hb=>?_⟩
  by_cases q:b=i
  ·subst q;exact hp
  ·exact h2 b (by omega)
 ·refine Or.inr ⟨c,by omega,h2,h3,fun b hb hpb=>?_⟩
  by_cases q:b=i
  ·subst q;rw[hp] at hpb;cases hpb
  ·exact h4 b (by omega) hpb⟩
theorem NxU.new {ts:List Th} {S:List Sd} {P:Nat→Bool} {i a a':Nat} (h:NxU ts S P i a (-1)) (hf:NxF ts S i a') (hp:P i=true):NxU ts S P (i+1) a' (i:Int):=⟨hf.next,by
 rcases h.free with ⟨h1,h2⟩ | ⟨c,h1,h2,h3,h4⟩
 ·refine Or.inr ⟨i,by omega,rfl,hp,fun b hb hpb=>?_⟩
  by_cases q:b=i
  ·subst q;exact ahL_self _ _
  ·rw[h2 b (by omega)] at hpb;cases hpb
 ·omega⟩
theorem NxU.less {ts:List Th} {S:List Sd} {P:Nat→Bool} {i a a' c:Nat} (h:NxU ts S P i a (c:Int)) (hf:NxF ts S i a') (hp:P i=true) (e:ahL ts (S.getD i Sd.none) (S.getD c Sd.none)=true):NxU ts S P (i+1) a' (i:Int):=⟨hf.next,by
 rcases h.free with ⟨h1,h2⟩ | ⟨c',h1,h2,h3,h4⟩
 ·omega
 ·obtain rfl:c=c':=by omega
  refine Or.inr ⟨i,by omega,rfl,hp,fun b hb hpb=>?_⟩
  by_cases q:b=i
  ·subst q;exact ahL_self _ _
  ·refine Bool.eq_false_iff.2 fun z=>?_
   have:=ahL_trans z e
   rw[h4 b (by omega) hpb] at this
   cases this⟩
theorem NxU.more {ts:List Th} {S:List Sd} {P:Nat→Bool} {i a a' c:Nat} (h:NxU ts S P i a (c:Int)) (hf:NxF ts S i a') (hp:P i=true) (e:ahL ts (S.getD i Sd.none) (S.getD c Sd.none)=false):NxU ts S P (i+1) a' (c:Int):=⟨hf.next,by
 rcases h.free with ⟨h1,h2⟩ | ⟨c',h1,h2,h3,h4⟩
 ·omega
 ·obtain rfl:c=c':=by omega
  refine Or.inr ⟨c,by omega,rfl,h3,fun b hb hpb=>?_⟩
  by_cases q:b=i
  ·subst q;exact e
  ·exact h4 b (by omega) hpb⟩
def hgK (R:List Rw) (F:List Fe) (L:List Se) (i k:Nat):Bool:=(List.range k).any fun j=>!decide (j=i) && depB R F (L.getD i Se.none) (L.getD j Se.none)
theorem hgK_next (R:List Rw) (F:List Fe) (L:List Se) (i k:Nat):hgK R F L i (k+1)=(hgK R F L i k || (!decide (k=i) && depB R F (L.getD i Se.none) (L.getD k Se.none))):=by
 unfold hgK
 rw[List.range_succ,List.any_append]
 simp
theorem hgK_mono {R:List Rw} {F:List Fe} {L:List Se} {i k n:Nat} (h:hgK R F L i k=true) (hk:k≤n):hgK R F L i n=true:=by
 unfold hgK at *
 rw[List.any_eq_true] at *
 obtain⟨j,hj,e⟩:=h
 exact⟨j,List.mem_range.2 (Nat.lt_of_lt_of_le (List.mem_range.1 hj) hk),e⟩
theorem hgK_free {R:List Rw} {F:List Fe} {L:List Se} {i:Nat}:freeB R F L i=!hgK R F L i L.length:=by
 unfold freeB hgK
 rw[Bool.eq_iff_iff]
 simp[List.all_eq_true,List.any_eq_false]
 constructor
 ·intro h j hj hne
  rcases h j hj with q | q
  ·exact absurd q.symm hne
  ·exact q
 ·intro h j hj
  by_cases q:i=j
  ·exact Or.inl q
  ·exact Or.inr (h j hj (fun z=>q z.symm))
end Go.Proofs.YthfjgpjcepmnmaaGreat
