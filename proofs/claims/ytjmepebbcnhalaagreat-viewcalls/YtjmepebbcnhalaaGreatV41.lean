import Derived.Test.YtjmepebbcnhalaaGreatV40
namespace Go.Proofs.YtjmepebbcnhalaaGreat
set_option maxRecDepth 100000
set_option maxHeartbeats 4000000
open Go.RowKit Go.Shelf
variable {w:World} {g i:Nat} {bp:Option Addr} {vt vp v:Value} {ts:List Th} {S:List Sd} {R:List Rw} {F:List Fe} {L:List Se}
def ScB (w:World) (g:Nat) (bp:Option Addr) (vt vp:Value):Prop:=w.heap[g]?=some (.cells #[.pointer bp,vt,vp] 159 (0,0))
theorem eo (h:ScB w g bp vt vp):w.cell? ⟨g,0,none⟩=some (.pointer bp)∧w.cell? ⟨g,1,none⟩=some vt∧w.cell? ⟨g,2,none⟩=some vp:=⟨(aa h 0).trans rfl,(aa h 1).trans rfl,(aa h 2).trans rfl⟩
theorem tU (mf:Fe→Th→Fe) (ts:List Th) (fs:List Fe) (hl:ts.length=fs.length):bX (fun i=>pi mf (ts.getD i Th.none) (fs.getD i Fe.none)) fs.length fs.length=kM mf ts fs:=by
 rw[qd]
 unfold kM
 refine List.ext_getElem (by simp;omega) fun i h1 h2=>?_
 simp only[List.getElem_map,List.getElem_range,List.getElem_zipWith]
 simp only[List.length_zipWith] at h2
 rw[aB (by omega),aB (by omega)]
theorem rA (h:w.cell? ⟨g,i,none⟩=some v):g<w.heap.size:=by
 unfold World.cell? at h
 cases hg:w.heap[g]? with
 | none=>simp[hg] at h
 | some o=>exact(Array.getElem?_eq_some_iff.1 hg).1
theorem rZ (bp:Option Addr) (vt vf:Value) (pp:Option Addr) (np cp:Nat) (ts:List Th) (fs:List Fe) (mf:Fe→Th→Fe) (me:Th→Int) (w:World) (A:thR.At w vt ts) (B:feR.At w vf fs) (hl:ts.length=fs.length) (h2:ts.length≤2048) (M:∀ X f (t:Th),w.grownBy X none→Calls Tryz.prog 155 #[.pointer bp,fev f,.agg #[.int .i64 t.m0,.int .i64 t.m1,.int .i64 t.m2,.int .i64 t.m3]] X fun e w'=>e=.returned (.tuple #[fev (mf f t),.int .i64 (me t)])∧X.grownBy w' none):Calls Tryz.prog 89 #[.agg #[.pointer bp,vt,.slice pp np cp],vf] w fun e w'=>∃ v',e=.returned v'∧aQ w' w.heap.size v' (kM mf ts fs)∧w.grownBy w' none:=by
 obtain⟨i0,hi,hz0,hz1,hz2⟩:=info_parts Tryz.linfoF
 obtain⟨pt,ct,rfl⟩:=A.form
 obtain⟨pf,cf,rfl⟩:=B.form
 obtain⟨h,hh⟩:∃ h:Nat→Fe,h=fun i=>pi mf (ts.getD i Th.none) (fs.getD i Fe.none):=⟨_,rfl⟩
 have Hh:Hid (h=fun i=>pi mf (ts.getD i Th.none) (fs.getD i Fe.none)):=hh
 obtain⟨W1,hW1⟩:=Qe (w.alloc (.cells #[.pointer bp,.slice pt ts.length ct,.slice pp np cp] 159))
 have HG1:Hid (w.grownBy W1 none):=by rw[hW1];exact QG
 have HS1:Hid (ScB W1 w.heap.size bp (.slice pt ts.length ct) (.slice pp np cp)):=by rw[hW1];exact ak _ _ _
 have HA:Hid (thR.At W1 (.slice pt ts.length ct) ts):=A.keep HG1.out
 have HB:Hid (feR.At W1 (.slice pf fs.length cf) fs):=B.keep HG1.out
 have HP:Hid (∀ X f (t:Th),w.grownBy X none→Calls Tryz.prog 155 #[.pointer bp,fev f,.agg #[.int .i64 t.m0,.int .i64 t.m1,.int .i64 t.m2,.int .i64 t.m3]] X fun e w'=>e=.returned (.tuple #[fev (mf f t),.int .i64 (me t)])∧X.grownBy w' none):=M
 have Hl:Hid (ts.length=fs.length∧ts.length≤2048):=⟨hl,h2⟩
 have Hbb:Hid (i0.bytes*fs.length≤281474976710656):=by show i0.bytes*fs.length≤_;rw[hz2];omega
 have Hbm:Hid (fs.length≤maxLen):=by show fs.length≤maxLen;unfold maxLen;omega
 clear A B M hl h2 hh
 go_enter Tryz.func89,Tryz.ntmps89
 go_upto_region 1 with fail
 rw[←hW1]
 clear hW1
 obtain⟨n0,hn0⟩:=Qe (w.heap.size)
 simp only[←hn0] at HS1 ⊢
 have Hn0:Hid (n0<W1.heap.size∧w.heap.size≤W1.heap.size):=⟨aZ HS1.out,HG1.out.size⟩
 clear hn0
 go_upto_region 2 with (at_make;refine wpList_make_full _ rfl _ _ 27 rfl W1.heap.size 122 i0 _ 5 Tryz.underlying27 hi hz0 hz1 .i64 .i64 _ _ fs.length rfl rfl rfl rfl Hbb.out Hbm.out (Qj _) ?_;intro V o1 gv;have HF0:Hid (aQ V W1.heap.size (.slice (some ⟨W1.heap.size,0,none⟩) fs.length fs.length) (List.replicate fs.length Fe.none)):=ks o1;have HGV:Hid (W1.grownBy V none):=gv;clear o1 gv)
 obtain⟨g0,h0⟩:=Qe (W1.heap.size)
 have Hg0:Hid (g0=W1.heap.size):=h0
 simp only[←h0] at HF0 ⊢
 clear h0 hi hz0 hz1 hz2
 have HSV:Hid (ScB V n0 bp (.slice pt ts.length ct) (.slice pp np cp)):=ag HGV.out HS1.out (by simp)
 obtain⟨s0,s1,s2⟩:=eo HSV.out
 go_wp2_with fail
 clear s0 s1 s2
 go_loopw [6,7,14] (fun _ _ i wr=>∃ k:Nat,k≤ts.length∧i=.int .i64 (k:Int)∧aQ wr g0 (.slice (some ⟨g0,0,none⟩) fs.length fs.length) (bX h fs.length k)∧W1.grownBy wr none) (fun _ _ i _=>ts.length - (intOf i).toNat)
 case atStart=>exact⟨0,Q0 _,rfl,by rw[ij];exact HF0.out,HGV.out⟩
 case round =>
  obtain⟨k,hk,rfl,O,G⟩:=hrel
  obtain⟨U,hU⟩:=Qe (wr)
  subst hU
  have HG:Hid (W1.grownBy U none):=G
  by_cases hlt:k<ts.length
  ·obtain⟨g,off,cap,e1,R⟩:=bO (HA.out.keep G) hlt
   cases e1
   have hlf:k<fs.length:=by have:=Hl.out.1;omega
   obtain⟨gf,fof,fcap,e2,RF⟩:=dA HB.out hlf
   cases e2
   obtain⟨t,ht⟩:=Qe (ts[k])
   rw[←ht] at R
   obtain⟨f,hf⟩:=Qe (fs[k])
   rw[←hf] at RF
   have HT:Hid (h k=pi mf t f):=by show _=_;rw[Hh.out,ht,hf];show pi mf (ts.getD k Th.none) (fs.getD k Fe.none)=_;rw[aB hlt,aB hlf]
   have Hgf:Hid (some gf≠some g0):=by
    have q:=rA (bm RF).1
    have:=Hg0.out
    intro e;injection e with e;omega
   obtain⟨c0,c1,c2,c3,c4,c5,c6,c7,c8,c9,c10⟩:=bz R
   obtain⟨Y,hY⟩:=Qe (U.alloc (.cells #[.int .i64 t.card,.int .i64 t.owner,.int .u8 t.place,.int .i64 t.stamp,.int .i64 t.hurt,.int .i64 t.m0,.int .i64 t.m1,.int .i64 t.m2,.int .i64 t.m3,.int .i64 t.done,.bool t.fresh] 120))
   have HGY:Hid (U.grownBy Y none):=by rw[hY];exact QG
   have HBx:Hid (ThB Y U.heap.size t):=by rw[hY];exact ak _ _ _
   have HG1Y:Hid (W1.grownBy Y none):=ae G HGY.out
   have HOY:Hid (aQ Y g0 (.slice (some ⟨g0,0,none⟩) fs.length fs.length) (bX h fs.length k)):=aw O HGY.out
   have HRF:Hid (Y.rangeAt gf (fof+k*5) (fec f)):=aS RF HG1Y.out
   have hlt':(k:Int)<ts.length:=Int.ofNat_lt.2 hlt
   have hlf':(k:Int)<fs.length:=Int.ofNat_lt.2 hlf
   have hwk:=aK (k:=k) (Ql (Nat.le_of_lt hlt) (Ql Hl.out.2 (by decide)))
   have Hlt:Hid (k<ts.length∧k<fs.length):=⟨hlt,hlf⟩
   have HM:Hid (ts.length - (intOf (.int .i64 ((k:Int)+1))).toNat<ts.length - (intOf (.int .i64 (k:Int))).toNat):=bj hlt
   have HNb:Hid (some U.heap.size≠some g0):=by
    have:=(az.Own.lt O g0 rfl).2
    intro e;injection e with e;omega
   clear O G R RF ht hf hlt hk hlf
   go_upto_region 5 with fail
   rw[←hY]
   clear hY c0 c1 c2 c3 c4 c5 c6 c7 c8 c9 c10
   obtain⟨nb,hnb⟩:=Qe (U.heap.size)
   rw[←hnb] at HBx HNb ⊢
   clear hnb
   obtain⟨b0,b1,b2,b3,b4,b5,b6,b7,b8,b9,b10⟩:=cW HBx.out
   by_cases hp:t.place=4
   ·have hpb:(t.place == 4)=true:=by rw[hp];rfl
    have HF:Hid (h k=mf f t):=HT.out.trans (if_pos hp)
    have C0:=HP.out
    obtain⟨f2,hf2⟩:=Qe (mf f t)
    have HC:Hid (∀ X,Y.grownBy X none→Calls Tryz.prog 155 #[.pointer bp,.agg #[.int .i64 f.ho,.int .u8 f.su,.int .u16 f.tr,.int .i64 f.po,.int .i64 f.he],.agg #[.int .i64 t.m0,.int .i64 t.m1,.int .i64 t.m2,.int .i64 t.m3]] X fun e w'=>e=.returned (.tuple #[.agg #[.int .i64 f2.ho,.int .u8 f2.su,.int .u16 f2.tr,.int .i64 f2.po,.int .i64 f2.he],.int .i64 (me t)])∧X.grownBy w' none):=fun X q=>by
     have:=C0 X f t (ae HG1.out (ae HG1Y.out q))
     rw[←hf2] at this
     exact this
    rw[←hf2] at HF
    have HSY:Hid (ScB Y n0 bp (.slice (some ⟨g,off,none⟩) ts.length ct) (.slice pp np cp)):=ag HG1Y.out HS1.out (by simp)
    obtain⟨s0,s1,s2⟩:=eo HSY.out
    obtain⟨f0,f1,f2',f3,f4⟩:=bm HRF.out
    have hn0:some n0≠some g0:=by
     have:=Hn0.out.1
     have:=Hg0.out
     intro e;injection e with e;omega
    have hnf:=Hgf.out
    have hnb:=HNb.out
    clear hp hf2 HT C0
    go_upto_region 6 with fail
    refine wp_region_held_drew (S:=fun w'=>Y.grownBy w' (some g0)) (by kernel_rfl) (aX _ _) (fun hHeld=>?_)
    refine QZ 0 rfl ?_
    go_frame
    refine QZ 1 rfl ?_
    go_frame
    refine QZ 2 rfl ?_
    go_frame
    refine QT 3 rfl (by intro w0 hSw;have s0:=hSw.cell s0 hn0;go_simp;try with_reducible rfl) ?_
    go_frame
    refine QZ 4 rfl ?_
    go_frame
    refine QZ 5 rfl ?_
    go_frame
    refine QZ 6 rfl ?_
    go_frame
    refine QT 7 rfl (by intro w0 hSw;have f0:=hSw.cell f0 hnf;have f1:=hSw.cell f1 hnf;have f2':=hSw.cell f2' hnf;have f3:=hSw.cell f3 hnf;have f4:=hSw.cell f4 hnf;go_simp;try with_reducible rfl) ?_
    go_frame
    refine QZ 8 rfl ?_
    go_frame
    refine QT 9 rfl (by intro w0 hSw;have b5:=hSw.cell b5 hnb;have b6:=hSw.cell b6 hnb;have b7:=hSw.cell b7 hnb;have b8:=hSw.cell b8 hnb;go_simp;try with_reducible rfl) ?_
    go_frame
    clear s0 s1 s2 f0 f1 f2' f3 f4 b0 b1 b2 b3 b4 b5 b6 b7 b8 b9 b10 hn0 hnf hnb
    refine QR 10 rfl (fun K hK=>?_)
    go_simp
    go_at_call 155
    refine(HC.out _ (ai _)).mono ?_
    rintro e2 w2 ⟨rfl,g2⟩
    have HG2:Hid (Y.grownBy w2 none):=ae (ai _) g2
    clear g2
    refine hK.out _ _ (bZ HG2.out _) (fun hHeld2=>?_)
    clear hK K
    (try go_frame)
    refine QZ 11 rfl ?_
    go_frame
    refine QZ 12 rfl ?_
    go_frame
    refine QZ 13 rfl ?_
    go_frame
    refine QZ 14 rfl ?_
    go_frame
    have HO2:Hid (aQ w2 g0 (.slice (some ⟨g0,0,none⟩) fs.length fs.length) (bX h fs.length k)):=aw HOY.out HG2.out
    obtain⟨u0,u1,u2,u3,u4,y0,y1,y2,y3,y4,q0,q1,q2,q3,q4⟩:=nw (fK HO2.out (eA h _ k) Hlt.out.2)
    obtain⟨Z,hZ⟩:=Qe (((((w2.setCell ⟨g0,k*5,none⟩ (.int .i64 f2.ho)).setCell ⟨g0,k*5+1,none⟩ (.int .u8 f2.su)).setCell ⟨g0,k*5+2,none⟩ (.int .u16 f2.tr)).setCell ⟨g0,k*5+3,none⟩ (.int .i64 f2.po)).setCell ⟨g0,k*5+4,none⟩ (.int .i64 f2.he))
    have q:=il HO2.out (eA h _ k) Hlt.out.2 f2
    rw[show w2.setCells g0 (k*5) (fec f2)=Z from by rw[hZ];rfl] at q
    have HGZ:Hid (w2.grownBy Z (some g0)):=q.2
    have HQ:Hid (aQ Z g0 (.slice (some ⟨g0,0,none⟩) fs.length fs.length) (bX h fs.length (k+1))∧W1.grownBy Z none):=⟨by rw[←jl HF.out];exact q.1,ar (ae HG1Y.out HG2.out) q.2 (fun y e=>by cases e;rw[Hg0.out];exact Qj _)⟩
    clear q
    refine QR 15 rfl (fun K9 hK=>?_)
    go_simp
    rw[←hZ]
    refine hK.out _ _ (ae (bZ HG2.out _) HGZ.out) (fun hHeld3=>?_)
    clear hK K9
    (try go_frame)
    refine QD ?_
    clear hZ y0 y1 y2 y3 y4 q0 q1 q2 q3 q4
    go_wp2_with fail
    go_roundw
    case rel=>exact⟨k+1,Hlt.out.1,by first | rfl | (rw[hwk];rfl) | go_num,HQ.out⟩
    case measure=>first | exact HM.out | (rw[hwk];exact HM.out)
   ·have hpb:(t.place == 4)=false:=by simpa using hp
    have HF:Hid (h k=Fe.none):=HT.out.trans (if_neg hp)
    have HQ:Hid (aQ Y g0 (.slice (some ⟨g0,0,none⟩) fs.length fs.length) (bX h fs.length (k+1))∧W1.grownBy Y none):=⟨by rw[iB HF.out];exact HOY.out,HG1Y.out⟩
    clear hp HT HF
    go_wp2_with fail
    go_roundw
    case rel=>exact⟨k+1,Hlt.out.1,by first | rfl | (rw[hwk];rfl) | go_num,HQ.out⟩
    case measure=>first | exact HM.out | (rw[hwk];exact HM.out)
  ·obtain rfl:k=ts.length:=Nat.le_antisymm hk (Nat.le_of_not_lt hlt)
   have HF:Hid (aQ U w.heap.size (.slice (some ⟨g0,0,none⟩) fs.length fs.length) (kM mf ts fs)∧w.grownBy U none):=⟨by rw[←tU mf ts fs Hl.out.1,←Hh.out,←Hl.out.1];rw[Hl.out.1] at O ⊢;exact aP O (by rw[Hg0.out];exact Hn0.out.2),ae HG1.out G⟩
   clear O G hk hlt
   go_wp2_with fail
   go_ret
   exact⟨_,rfl,HF.out⟩
def mfR (p:Pl) (f:Fe) (t:Th):Fe:=if dI t.m0 t.m1 t.m2 t.m3=true then lw p f t.m0 t.m1 t.m2 t.m3 else Fe.none
theorem pj (ok:Nat→Prop) (r:Nat) (vr:Value) (p:Pl) (gs:List Ent) (vt vf:Value) (ts:List Th) (fs:List Fe) (w:World) (B0:RD ok w r vr p gs) (A:thR.At w vt ts) (B:feR.At w vf fs) (hl:ts.length=fs.length) (h2:ts.length≤2048) (hg:RgL fs) (ho:∀ t∈ts,t.place=4→dI t.m0 t.m1 t.m2 t.m3=true):Calls Tryz.prog 93 #[.pointer (some ⟨r,0,none⟩),vt,vf] w fun e w'=>∃ v',e=.returned v'∧aQ w' w.heap.size v' (kM (mfR p) ts fs)∧w.grownBy w' none:=by
 obtain⟨i0,hi,hz0,hz1,hz2⟩:=info_parts Tryz.linfoF
 obtain⟨pt,ct,rfl⟩:=A.form
 obtain⟨pf,cf,rfl⟩:=B.form
 obtain⟨h,hh⟩:∃ h:Nat→Fe,h=fun i=>pi (mfR p) (ts.getD i Th.none) (fs.getD i Fe.none):=⟨_,rfl⟩
 have Hh:Hid (h=fun i=>pi (mfR p) (ts.getD i Th.none) (fs.getD i Fe.none)):=hh
 have HA:Hid (thR.At w (.slice pt ts.length ct) ts):=A
 have HB:Hid (feR.At w (.slice pf fs.length cf) fs):=B
 have HP:Hid (∀ X f (t:Th),w.grownBy X none→t∈ts→t.place=4→f∈fs→Calls Tryz.prog 159 #[.pointer (some ⟨r,0,none⟩),fev f,.agg #[.int .i64 t.m0,.int .i64 t.m1,.int .i64 t.m2,.int .i64 t.m3]] X fun e w'=>e=.returned (.tuple #[fev (mfR p f t),.int .i64 0])∧X.grownBy w' none):=fun X f t g q1 q2 q3=>by
  have z:=td r vr p f t.m0 t.m1 t.m2 t.m3 X (B0.rj.keep g) B0.mkd (ho t q1 q2) (hg f q3).2
  unfold mfR
  rw[if_pos (ho t q1 q2)]
  exact z
 have Hl:Hid (ts.length=fs.length∧ts.length≤2048):=⟨hl,h2⟩
 have Hbb:Hid (i0.bytes*fs.length≤281474976710656):=by show i0.bytes*fs.length≤_;rw[hz2];omega
 have Hbm:Hid (fs.length≤maxLen):=by show fs.length≤maxLen;unfold maxLen;omega
 clear A B B0 hl h2 hh hg ho
 go_enter Tryz.func93,Tryz.ntmps93
 go_wp2_with (at_make;refine wpList_make_full _ rfl _ _ 27 rfl w.heap.size 122 i0 _ 5 Tryz.underlying27 hi hz0 hz1 .i64 .i64 _ _ fs.length rfl rfl rfl rfl Hbb.out Hbm.out (Qj _) ?_;intro V o1 gv;have HF0:Hid (aQ V w.heap.size (.slice (some ⟨w.heap.size,0,none⟩) fs.length fs.length) (List.replicate fs.length Fe.none)):=ks o1;have HGV:Hid (w.grownBy V none):=gv;clear o1 gv)
 obtain⟨g0,h0⟩:=Qe (w.heap.size)
 have Hg0:Hid (g0=w.heap.size):=h0
 simp only[←h0] at HF0 ⊢
 clear h0 hi hz0 hz1 hz2
 go_loopw [8] (fun i wr=>∃ k:Nat,k≤fs.length∧i=.int .i64 (k:Int)∧aQ wr g0 (.slice (some ⟨g0,0,none⟩) fs.length fs.length) (bX h fs.length k)∧w.grownBy wr none) (fun i _=>fs.length - (intOf i).toNat)
 case atStart=>exact⟨0,Q0 _,rfl,by rw[ij];exact HF0.out,HGV.out⟩
 case round =>
  obtain⟨k,hk,rfl,O,G⟩:=hrel
  obtain⟨U,hU⟩:=Qe (wr)
  subst hU
  have HG:Hid (w.grownBy U none):=G
  by_cases hlf:k<fs.length
  ·have hlt:k<ts.length:=by have:=Hl.out.1;omega
   obtain⟨g,off,cap,e1,R⟩:=bO HA.out hlt
   cases e1
   obtain⟨gf,fof,fcap,e2,RF⟩:=dA HB.out hlf
   cases e2
   obtain⟨t,ht⟩:=Qe (ts[k])
   rw[←ht] at R
   obtain⟨f,hf⟩:=Qe (fs[k])
   rw[←hf] at RF
   have HT:Hid (h k=pi (mfR p) t f):=by show _=_;rw[Hh.out,ht,hf];show pi (mfR p) (ts.getD k Th.none) (fs.getD k Fe.none)=_;rw[aB hlt,aB hlf]
   have Hmem:Hid (t∈ts∧f∈fs):=⟨by rw[ht];exact List.getElem_mem hlt,by rw[hf];exact List.getElem_mem hlf⟩
   have Hgf:Hid (some gf≠some g0∧some g≠some g0):=by
    have q:=rA (bm RF).1
    have q2:=rA (bz R).1
    have:=Hg0.out
    exact⟨by intro e;injection e with e;omega,by intro e;injection e with e;omega⟩
   obtain⟨c0,c1,c2,c3,c4,c5,c6,c7,c8,c9,c10⟩:=bz (aS R G)
   have HOY:Hid (aQ U g0 (.slice (some ⟨g0,0,none⟩) fs.length fs.length) (bX h fs.length k)):=O
   have HRF:Hid (U.rangeAt gf (fof+k*5) (fec f)):=aS RF G
   have hlt':(k:Int)<ts.length:=Int.ofNat_lt.2 hlt
   have hlf':(k:Int)<fs.length:=Int.ofNat_lt.2 hlf
   have hwk:=aK (k:=k) (Ql (Nat.le_of_lt hlt) (Ql Hl.out.2 (by decide)))
   have Hlt:Hid (k<ts.length∧k<fs.length):=⟨hlt,hlf⟩
   have HM:Hid (fs.length - (intOf (.int .i64 ((k:Int)+1))).toNat<fs.length - (intOf (.int .i64 (k:Int))).toNat):=bj hlf
   clear O G R RF ht hf hlt hk hlf
   by_cases hp:t.place=4
   ·have hpb:(t.place == 4)=true:=by rw[hp];rfl
    have HF:Hid (h k=mfR p f t):=HT.out.trans (if_pos hp)
    have C0:=fun X q=>HP.out X f t q Hmem.out.1 hp Hmem.out.2
    obtain⟨f2,hf2⟩:=Qe (mfR p f t)
    have HC:Hid (∀ X,U.grownBy X none→Calls Tryz.prog 159 #[.pointer (some ⟨r,0,none⟩),.agg #[.int .i64 f.ho,.int .u8 f.su,.int .u16 f.tr,.int .i64 f.po,.int .i64 f.he],.agg #[.int .i64 t.m0,.int .i64 t.m1,.int .i64 t.m2,.int .i64 t.m3]] X fun e w'=>e=.returned (.tuple #[.agg #[.int .i64 f2.ho,.int .u8 f2.su,.int .u16 f2.tr,.int .i64 f2.po,.int .i64 f2.he],.int .i64 0])∧X.grownBy w' none):=fun X q=>by
     have:=C0 X (ae HG.out q)
     rw[←hf2] at this
     exact this
    rw[←hf2] at HF
    obtain⟨f0,f1,f2',f3,f4⟩:=bm HRF.out
    have hnf:=Hgf.out.1
    have hng:=Hgf.out.2
    clear hp hf2 HT C0
    go_upto_region 6 with fail
    refine wp_region_held_drew (S:=fun w'=>U.grownBy w' (some g0)) (by kernel_rfl) (aX _ _) (fun hHeld=>?_)
    refine QZ 0 rfl ?_
    go_frame
    refine QZ 1 rfl ?_
    go_frame
    refine QZ 2 rfl ?_
    go_frame
    refine QZ 3 rfl ?_
    go_frame
    refine QZ 4 rfl ?_
    go_frame
    refine QZ 5 rfl ?_
    go_frame
    refine QT 6 rfl (by intro w0 hSw;have f0:=hSw.cell f0 hnf;have f1:=hSw.cell f1 hnf;have f2':=hSw.cell f2' hnf;have f3:=hSw.cell f3 hnf;have f4:=hSw.cell f4 hnf;go_simp;try with_reducible rfl) ?_
    go_frame
    refine QZ 7 rfl ?_
    go_frame
    refine QZ 8 rfl ?_
    go_frame
    refine QZ 9 rfl ?_
    go_frame
    refine QZ 10 rfl ?_
    go_frame
    refine QT 11 rfl (by intro w0 hSw;have c5:=hSw.cell c5 hng;have c6:=hSw.cell c6 hng;have c7:=hSw.cell c7 hng;have c8:=hSw.cell c8 hng;go_simp;try with_reducible rfl) ?_
    go_frame
    clear f0 f1 f2' f3 f4 c0 c1 c2 c3 c4 c5 c6 c7 c8 c9 c10 hng hnf
    refine QR 12 rfl (fun K hK=>?_)
    go_simp
    go_at_call 159
    refine(HC.out _ (ai _)).mono ?_
    rintro e2 w2 ⟨rfl,g2⟩
    have HG2:Hid (U.grownBy w2 none):=ae (ai _) g2
    clear g2
    refine hK.out _ _ (bZ HG2.out _) (fun hHeld2=>?_)
    clear hK K
    (try go_frame)
    refine QZ 13 rfl ?_
    go_frame
    refine QZ 14 rfl ?_
    go_frame
    refine QZ 15 rfl ?_
    go_frame
    have HO2:Hid (aQ w2 g0 (.slice (some ⟨g0,0,none⟩) fs.length fs.length) (bX h fs.length k)):=aw HOY.out HG2.out
    obtain⟨u0,u1,u2,u3,u4,y0,y1,y2,y3,y4,q0,q1,q2,q3,q4⟩:=nw (fK HO2.out (eA h _ k) Hlt.out.2)
    obtain⟨Z,hZ⟩:=Qe (((((w2.setCell ⟨g0,k*5,none⟩ (.int .i64 f2.ho)).setCell ⟨g0,k*5+1,none⟩ (.int .u8 f2.su)).setCell ⟨g0,k*5+2,none⟩ (.int .u16 f2.tr)).setCell ⟨g0,k*5+3,none⟩ (.int .i64 f2.po)).setCell ⟨g0,k*5+4,none⟩ (.int .i64 f2.he))
    have q:=il HO2.out (eA h _ k) Hlt.out.2 f2
    rw[show w2.setCells g0 (k*5) (fec f2)=Z from by rw[hZ];rfl] at q
    have HGZ:Hid (w2.grownBy Z (some g0)):=q.2
    have HQ:Hid (aQ Z g0 (.slice (some ⟨g0,0,none⟩) fs.length fs.length) (bX h fs.length (k+1))∧w.grownBy Z none):=⟨by rw[←jl HF.out];exact q.1,ar (ae HG.out HG2.out) q.2 (fun y e=>by cases e;rw[Hg0.out];exact Qj _)⟩
    clear q
    refine QZ 16 rfl ?_
    go_frame
    refine QR 17 rfl (fun K9 hK=>?_)
    go_simp
    rw[←hZ]
    refine hK.out _ _ (ae (bZ HG2.out _) HGZ.out) (fun hHeld3=>?_)
    clear hK K9
    (try go_frame)
    refine QD ?_
    clear hZ y0 y1 y2 y3 y4 q0 q1 q2 q3 q4
    go_wp2_with fail
    go_roundw
    case rel=>exact⟨k+1,Hlt.out.2,by first | rfl | (rw[hwk];rfl) | go_num,HQ.out⟩
    case measure=>first | exact HM.out | (rw[hwk];exact HM.out)
   ·have hpb:(t.place == 4)=false:=by simpa using hp
    have HF:Hid (h k=Fe.none):=HT.out.trans (if_neg hp)
    have HQ:Hid (aQ U g0 (.slice (some ⟨g0,0,none⟩) fs.length fs.length) (bX h fs.length (k+1))∧w.grownBy U none):=⟨by rw[iB HF.out];exact HOY.out,HG.out⟩
    clear hp HT HF
    go_wp2_with fail
    go_roundw
    case rel=>exact⟨k+1,Hlt.out.2,by first | rfl | (rw[hwk];rfl) | go_num,HQ.out⟩
    case measure=>first | exact HM.out | (rw[hwk];exact HM.out)
  ·obtain rfl:k=fs.length:=Nat.le_antisymm hk (Nat.le_of_not_lt hlf)
   have HF:Hid (aQ U w.heap.size (.slice (some ⟨g0,0,none⟩) fs.length fs.length) (kM (mfR p) ts fs)∧w.grownBy U none):=⟨by rw[←tU (mfR p) ts fs Hl.out.1,←Hh.out,←Hg0.out];exact O,G⟩
   clear O G hk hlf
   go_wp2_with fail
   go_ret
   exact⟨_,rfl,HF.out⟩
def ahL (ts:List Th) (a b:Sd):Bool:=ahB (jI ts a.th) (jI ts b.th) a.pl b.pl
def InT (ts:List Th) (a:Sd):Prop:=∃ (z:Nat) (t:Th),a.th=(z:Int)+1∧ts[z]?=some t
theorem rt {a b:Sd}:ahL ts a b=true↔jI ts a.th<jI ts b.th∨jI ts a.th=jI ts b.th∧a.pl<b.pl:=by
 unfold ahL ahB
 simp[Bool.or_eq_true,Bool.and_eq_true,decide_eq_true_eq]
theorem mO (ts:List Th) (a:Sd):ahL ts a a=false:=Bool.eq_false_iff.2 fun h=>by rw[rt] at h;omega
theorem qq {a b c:Sd} (h1:ahL ts a b=true) (h2:ahL ts b c=true):ahL ts a c=true:=by rw[rt] at *;omega
theorem nv (vt:Value) (ts:List Th) (a b:Sd) (w:World) (A:thR.At w vt ts) (ha:InT ts a) (hb:InT ts b) (hl:ts.length≤2048):Calls Tryz.prog 140 #[vt,sdv a,sdv b] w fun e w'=>e=.returned (.bool (ahL ts a b))∧w.grownBy w' none:=by
 obtain⟨z,t,h1,h2⟩:=ha
 obtain⟨y,u,h3,h4⟩:=hb
 have e1:jI ts a.th=t.stamp:=by unfold jI;rw[h1,toN,List.getD_eq_getElem?_getD,h2];rfl
 have e2:jI ts b.th=u.stamp:=by unfold jI;rw[h3,toN,List.getD_eq_getElem?_getD,h4];rfl
 have h:=BQ vt ts a b z y t u w A h1 h2 h3 h4 hl
 unfold ahL
 rw[e1,e2]
 exact h
structure NxU (ts:List Th) (S:List Sd) (P:Nat→Bool) (i a:Nat) (f:Int):Prop where
 first:a≤i∧(i=0→a=0)∧(0<i→a<i)∧∀ b,b<i→ahL ts (S.getD b Sd.none) (S.getD a Sd.none)=false
 free:(f=-1∧∀ b,b<i→P b=false)∨∃ c:Nat,c<i∧f=(c:Int)∧P c=true∧∀ b,b<i→P b=true→ahL ts (S.getD b Sd.none) (S.getD c Sd.none)=false
theorem NxU.start (ts:List Th) (S:List Sd) (P:Nat→Bool):NxU ts S P 0 0 (-1):=⟨⟨Qj _,fun _=>rfl,fun h=>absurd h (Nat.lt_irrefl _),fun _ h=>absurd h (Nat.not_lt_zero _)⟩,Or.inl ⟨rfl,fun _ h=>absurd h (Nat.not_lt_zero _)⟩⟩
def NxF (ts:List Th) (S:List Sd) (i a:Nat):Prop:=a<i+1∧∀ b,b<i+1→ahL ts (S.getD b Sd.none) (S.getD a Sd.none)=false
theorem NxU.here {P:Nat→Bool} {a:Nat} {f:Int} (h:NxU ts S P i a f) (e:ahL ts (S.getD i Sd.none) (S.getD a Sd.none)=true):NxF ts S i i:=⟨Nat.lt_succ_self _,fun b hb=>by
 by_cases q:b=i
 ·subst q;exact mO _ _
 ·refine Bool.eq_false_iff.2 fun z=>?_
  have:=qq z e
  rw[h.first.2.2.2 b (by omega)] at this
  cases this⟩
theorem NxU.there {P:Nat→Bool} {a:Nat} {f:Int} (h:NxU ts S P i a f) (e:ahL ts (S.getD i Sd.none) (S.getD a Sd.none)=false):NxF ts S i a:=⟨Nat.lt_succ_of_le h.first.1,fun b hb=>by
 by_cases q:b=i
 ·subst q;exact e
 ·exact h.first.2.2.2 b (by omega)⟩
theorem NxF.next {a:Nat} (h:NxF ts S i a):a≤i+1∧(i+1=0→a=0)∧(0<i+1→a<i+1)∧∀ b,b<i+1→ahL ts (S.getD b Sd.none) (S.getD a Sd.none)=false:=⟨Nat.le_of_lt h.1,fun z=>absurd z (by omega),fun _=>h.1,h.2⟩
theorem NxU.stuck {P:Nat→Bool} {a a':Nat} {f:Int} (h:NxU ts S P i a f) (hf:NxF ts S i a') (hp:P i=false):NxU ts S P (i+1) a' f:=⟨hf.next,by
 rcases h.free with ⟨h1,h2⟩ | ⟨c,h1,h2,h3,h4⟩
 ·refine Or.inl ⟨h1,fun b hb=>?_⟩
  by_cases q:b=i
  ·subst q;exact hp
  ·exact h2 b (by omega)
 ·refine Or.inr ⟨c,by omega,h2,h3,fun b hb hpb=>?_⟩
  by_cases q:b=i
  ·subst q;rw[hp] at hpb;cases hpb
  ·exact h4 b (by omega) hpb⟩
theorem NxU.new {P:Nat→Bool} {i a a':Nat} (h:NxU ts S P i a (-1)) (hf:NxF ts S i a') (hp:P i=true):NxU ts S P (i+1) a' (i:Int):=⟨hf.next,by
 rcases h.free with ⟨h1,h2⟩ | ⟨c,h1,h2,h3,h4⟩
 ·refine Or.inr ⟨i,by omega,rfl,hp,fun b hb hpb=>?_⟩
  by_cases q:b=i
  ·subst q;exact mO _ _
  ·rw[h2 b (by omega)] at hpb;cases hpb
 ·omega⟩
theorem NxU.less {P:Nat→Bool} {i a a' c:Nat} (h:NxU ts S P i a (c:Int)) (hf:NxF ts S i a') (hp:P i=true) (e:ahL ts (S.getD i Sd.none) (S.getD c Sd.none)=true):NxU ts S P (i+1) a' (i:Int):=⟨hf.next,by
 rcases h.free with ⟨h1,h2⟩ | ⟨c',h1,h2,h3,h4⟩
 ·omega
 ·obtain rfl:c=c':=by omega
  refine Or.inr ⟨i,by omega,rfl,hp,fun b hb hpb=>?_⟩
  by_cases q:b=i
  ·subst q;exact mO _ _
  ·refine Bool.eq_false_iff.2 fun z=>?_
   have:=qq z e
   rw[h4 b (by omega) hpb] at this
   cases this⟩
theorem NxU.more {P:Nat→Bool} {a a' c:Nat} (h:NxU ts S P i a (c:Int)) (hf:NxF ts S i a') (hp:P i=true) (e:ahL ts (S.getD i Sd.none) (S.getD c Sd.none)=false):NxU ts S P (i+1) a' (c:Int):=⟨hf.next,by
 rcases h.free with ⟨h1,h2⟩ | ⟨c',h1,h2,h3,h4⟩
 ·omega
 ·obtain rfl:c=c':=by omega
  refine Or.inr ⟨c,by omega,rfl,h3,fun b hb hpb=>?_⟩
  by_cases q:b=i
  ·subst q;exact e
  ·exact h4 b (by omega) hpb⟩
def hgK (R:List Rw) (F:List Fe) (L:List Se) (i k:Nat):Bool:=(List.range k).any fun j=>!decide (j=i) && ib R F (L.getD i Se.none) (L.getD j Se.none)
theorem kz (R:List Rw) (F:List Fe) (L:List Se) (i k:Nat):hgK R F L i (k+1)=(hgK R F L i k || (!decide (k=i) && ib R F (L.getD i Se.none) (L.getD k Se.none))):=by
 unfold hgK
 rw[List.range_succ,List.any_append]
 simp
theorem sL {k n:Nat} (h:hgK R F L i k=true) (hk:k≤n):hgK R F L i n=true:=by
 unfold hgK at *
 rw[List.any_eq_true] at *
 obtain⟨j,hj,e⟩:=h
 exact⟨j,List.mem_range.2 (Nat.lt_of_lt_of_le (List.mem_range.1 hj) hk),e⟩
theorem kw:cR R F L i=!hgK R F L i L.length:=by
 unfold cR hgK
 rw[Bool.eq_iff_iff]
 simp[List.all_eq_true,List.any_eq_false]
 constructor
 ·intro h j hj hne
  rcases h j hj with q | q
  ·exact absurd q.symm hne
  ·exact q
 ·intro h j hj
  by_cases q:i=j
  ·exact Or.inl q
  ·exact Or.inr (h j hj (fun z=>q z.symm))
end Go.Proofs.YtjmepebbcnhalaaGreat
