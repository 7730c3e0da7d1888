import Derived.Test.YtjmepebbcnhalaaGreatV28
import Derived.Deep.RegionLaw
import Derived.Lib.SliceRun
namespace Go.Proofs.YtjmepebbcnhalaaGreat
set_option maxRecDepth 100000
set_option maxHeartbeats 4000000
open Go.RowKit
variable {r n k:Int} {cd:Int→Hd×List Pt} {ts:List Th} {fs F:List Fe} {S:List Sd} {W w:World} {s:Sd} {R:List Rw} {L:List Se} {base c size g cap i j:Nat} {xs:List Value} {P:Program} {ps:List Pt} {e:Se}
theorem rV (h:lkE r n cd ts fs S=0):r=0∧∃ R L,bw n cd ts fs=some R∧bn R S []=some L:=by
 unfold lkE at h
 split at h
 ·rename_i h0
  refine⟨h0,?_⟩
  cases ht:bw n cd ts fs with
  | none=>rw[ht] at h;cases h
  | some R =>
   rw[ht] at h
   simp only at h
   cases hl:bn R S [] with
   | none=>rw[hl] at h;cases h
   | some L=>exact⟨R,L,rfl,hl⟩
 ·rename_i h0
  exact absurd h h0
theorem Bv {n:Nat} (h:SdB W n s):sdR.At W (.slice (some ⟨n,0,none⟩) 1 1) [s]:=⟨some ⟨n,0,none⟩,1,rfl,(show 1≤maxLen by unfold maxLen;decide),fun _=>⟨n,0,rfl,fun j x hj i v hv=>by
 have hj0:j=0:=by have:=(Qh hj).1;simp at this;exact this
 subst hj0
 simp at hj
 subst hj
 rw[show 0+0*sdR.k+i=i from by omega,aa h i]
 have hv':(sdc s)[i]?=some v:=hv
 show (sdc s).toArray[i]?=_
 simpa using hv'⟩⟩
theorem BM (h:bn R [s] []=some L):∃ d,L=[d]:=by
 have:=kY _ _ _ h
 exact List.length_eq_one_iff.1 (by simpa using this)
theorem xz {p:Option Addr} {m:Nat} {d:Se} (h:eG w base (.slice p m c) (d :: L)):m=L.length+1∧∃ g,p=some ⟨g,0,none⟩∧w.rangeAt g 0 (sec d):=by
 obtain⟨q,cap,e,hm,hA⟩:=az.Own.at h
 obtain⟨g,cap2,e2,_⟩:=cH h (Nat.succ_pos _)
 injection e with e1 e3 e4
 injection e2 with f1 f2 f3
 obtain⟨g',off,e5,hR⟩:=hA (Nat.succ_pos _)
 rw[←e1,f1] at e5
 injection e5 with e5
 injection e5 with e5 e6 e7
 refine⟨e3,g,f1,?_⟩
 have:=hR 0 d rfl
 rw[←e5,←e6] at this
 have this':w.rangeAt g (0+0*11) (sec d):=this
 simpa using this'
def jc (w:World) (r n:Int) (cd:Int→Hd×List Pt) (ts:List Th) (fs:List Fe) (s:Sd) (e:Ending) (w':World):Prop:=∃ p m c,e=.returned (.tuple #[.slice p m c,.int .i64 (lkE r n cd ts fs [s])])∧w.grownBy w' none∧(lkE r n cd ts fs [s]≠0→m=0∧p=none∧c=0)∧∀ R d,r=0→bw n cd ts fs=some R→bn R [s] []=some [d]→aV w' w.heap.size (.slice p m c) (cJ R (aH R (aq R fs) d))
theorem wC (bv vt vf:Value) (r n:Int) (cd:Int→Hd×List Pt) (ts:List Th) (fs:List Fe) (s:Sd) (w:World) (I:LIn w bv vt vf r n cd ts fs):Calls Tryz.prog 73 #[bv,vt,vf,sdv s] w (jc w r n cd ts fs s):=by
 obtain⟨pt,ct,rfl⟩:=I.things.form
 obtain⟨pf,cf,rfl⟩:=I.feats.form
 obtain⟨W2,hW2⟩:=Qe ((w.alloc (.cells #[.int .i64 s.th,.int .i64 s.pl,.int .u8 s.wh.wn,.int .u8 s.wh.vb,.int .u8 s.wh.wm,.int .i64 s.wh.ct,.int .u8 s.wh.su,.int .u8 s.wh.tr,.int .u8 s.wh.mr,.string s.wh.nm] 64)).alloc (.cells #[.int .i64 s.th,.int .i64 s.pl,.int .u8 s.wh.wn,.int .u8 s.wh.vb,.int .u8 s.wh.wm,.int .i64 s.wh.ct,.int .u8 s.wh.su,.int .u8 s.wh.tr,.int .u8 s.wh.mr,.string s.wh.nm] 64))
 have HG2:Hid (w.grownBy W2 none):=by rw[hW2];exact al QG _
 have HLk:=lp bv _ _ (.slice (some ⟨w.heap.size+1,0,none⟩) 1 1) r n cd ts fs [s] W2 (I.keep HG2.out) (by rw[hW2];exact Bv (aO _ _ _ _)) (by simp)
 unfold iD tbv at HLk
 have HI:Hid (LIn W2 bv (.slice pt ts.length ct) (.slice pf fs.length cf) r n cd ts fs):=I.keep HG2.out
 unfold sdv
 rw[hW2] at HLk
 have HW2:Hid (W2=(w.alloc (.cells #[.int .i64 s.th,.int .i64 s.pl,.int .u8 s.wh.wn,.int .u8 s.wh.vb,.int .u8 s.wh.wm,.int .i64 s.wh.ct,.int .u8 s.wh.su,.int .u8 s.wh.tr,.int .u8 s.wh.mr,.string s.wh.nm] 64)).alloc (.cells #[.int .i64 s.th,.int .i64 s.pl,.int .u8 s.wh.wn,.int .u8 s.wh.vb,.int .u8 s.wh.wm,.int .i64 s.wh.ct,.int .u8 s.wh.su,.int .u8 s.wh.tr,.int .u8 s.wh.mr,.string s.wh.nm] 64)):=hW2
 clear I hW2
 go_enter Tryz.func73,Tryz.ntmps73
 go_wp2_with fail
 refine HLk.mono ?_
 rw[←HW2.out]
 rintro e2 w2 ⟨p1,m1,c1,p2,m2,c2,p3,m3,c3,rfl,g2,h2⟩
 obtain⟨q,hq⟩:=Qe (lkE r n cd ts fs [s])
 have Hq:Hid (q=lkE r n cd ts fs [s]):=hq
 rw[←hq]
 obtain⟨V,hV⟩:=Qe (w2.alloc (.cells #[.slice p1 m1 c1,.slice p2 m2 c2] 125))
 have HGV:Hid (W2.grownBy V none):=by rw[hV];exact al g2 _
 have HBt:Hid (TbB V w2.heap.size (.slice p1 m1 c1) (.slice p2 m2 c2)):=by rw[hV];exact ak _ _ _
 have H2:Hid (∀ R L,r=0→bw n cd ts fs=some R→bn R [s] []=some L→∃ X,rws X=R∧TbO V W2.heap.size (.slice p1 m1 c1) (.slice p2 m2 c2) X (aq R fs)∧(∀ x∈X,1≤x.r.nu∧x.r.nu≤(fs.length:Int))∧eG V W2.heap.size (.slice p3 m3 c3) L):=fun R L a b c=>by
  obtain⟨X,x1,x2,x3,x4⟩:=h2 R L a b c
  have g:=World.grownBy_alloc w2 (.cells #[.slice p1 m1 c1,.slice p2 m2 c2] 125) none
  exact⟨X,x1,by rw[hV];exact x2.grow g,x3,by rw[hV];exact aw x4 g⟩
 clear HLk HW2 g2 h2 hq
 go_upto_region 2 with fail
 rw[←hV]
 obtain⟨nb,hnb⟩:=Qe (w2.heap.size)
 rw[←hnb] at HBt ⊢
 clear hV hnb
 have HGw:Hid (w.grownBy V none):=ae HG2.out HGV.out
 by_cases hq0:q=0
 ·have e1:(q != 0)=false:=by simpa using hq0
  obtain⟨hr0,R,L,hR,hL⟩:=rV (Hq.out.symm.trans hq0)
  obtain⟨d,rfl⟩:=BM hL
  obtain⟨X,hX,hT,hnu,hS⟩:=H2.out R _ hr0 hR hL
  have hro:d.ro<X.length:=oB [s] [] [d] (fun e he=>by cases he) (by rw[hX];exact hL) d (by simp)
  obtain⟨hm3,g,rfl,hRg⟩:=xz hS
  obtain rfl:m3=1:=hm3
  have HRL:Hid (rws X=R∧bw n cd ts fs=some R∧bn R [s] []=some [d]∧lkE r n cd ts fs [s]=0):=⟨hX,hR,hL,Hq.out.symm.trans hq0⟩
  have HTV:Hid (dX V (.slice p1 m1 c1) (.slice p2 m2 c2) X (aq R fs)):=hT.at
  have C1:=iw _ _ X (aq R fs) d V.drew (HTV.out.keep (ai _)) hro
  have C2:Hid (∀ Z,V.grownBy Z none→Calls Tryz.prog 150 #[.agg #[.slice p1 m1 c1,.slice p2 m2 c2],.agg (smc (aH (rws X) (aq R fs) d))] Z fun e' w'=>∃ v,e'=.returned v∧aV w' Z.heap.size v (cJ (rws X) (aH (rws X) (aq R fs) d))∧Z.grownBy w' none):=fun Z gz=>qY _ _ X (aq R fs) _ Z (HTV.out.keep gz) (by rw[fU,cQ])
  unfold tbv sev smv at C1
  obtain⟨t0,t1⟩:=bP HBt.out
  obtain⟨s0,s1,s2,s3,s4,s5,s6,s7,s8,s9,s10⟩:=ft hRg
  simp only[Nat.zero_add] at s1 s2 s3 s4 s5 s6 s7 s8 s9 s10
  have h01:(0:Int)<((1:Nat):Int):=by decide
  clear hq0 hr0 hR hL hX hT hnu hS hro hRg H2
  go_upto_region 4 with fail
  refine wp_region_held_drew (S:=fun w'=>V.grownBy w' none) (by kernel_rfl) (ai _) (fun hHeld=>?_)
  refine QT 0 rfl (by intro w0 hSw;have t0:=QK hSw t0;have t1:=QK hSw t1;go_simp;try with_reducible rfl) ?_
  go_frame
  refine QT 1 rfl (by intro w0 hSw;have t0:=QK hSw t0;have t1:=QK hSw t1;go_simp;try with_reducible rfl) ?_
  go_frame
  refine QZ 2 rfl ?_
  go_frame
  refine QZ 3 rfl ?_
  go_frame
  refine QT 4 rfl (by intro w0 hSw;have s0:=QK hSw s0;have s1:=QK hSw s1;have s2:=QK hSw s2;have s3:=QK hSw s3;have s4:=QK hSw s4;have s5:=QK hSw s5;have s6:=QK hSw s6;have s7:=QK hSw s7;have s8:=QK hSw s8;have s9:=QK hSw s9;have s10:=QK hSw s10;go_simp;try with_reducible rfl) ?_
  go_frame
  refine QR 5 rfl (fun K hK=>?_)
  go_simp
  go_at_call 145
  refine(C1).mono ?_
  rintro e3 w3 ⟨rfl,g3⟩
  have HG3:Hid (V.grownBy w3 none):=ae (ai _) g3
  clear g3 C1
  refine hK.out _ _ (HG3.out) (fun hHeld2=>?_)
  clear hK K
  (try go_frame)
  refine QR 6 rfl (fun K hK=>?_)
  go_simp
  go_at_call 150
  refine(C2.out _ HG3.out).mono ?_
  rintro e4 w4 ⟨v4,rfl,o4,g4⟩
  obtain⟨p4,c4,rfl⟩:=o4.form
  have HG4:Hid (V.grownBy w4 none):=ae HG3.out g4
  have HO4:Hid (aV w4 V.heap.size (.slice p4 (cJ (rws X) (aH (rws X) (aq R fs) d)).length c4) (cJ (rws X) (aH (rws X) (aq R fs) d))):=aP o4 HG3.out.size
  clear g4 o4 C2
  refine hK.out _ _ (HG4.out) (fun hHeld2=>?_)
  clear hK K
  (try go_frame)
  refine QZ 7 rfl ?_
  go_frame
  refine QZ 8 rfl ?_
  go_frame
  refine QD ?_
  go_wp2_with fail
  go_ret2
  refine⟨_,_,_,by rw[HRL.out.2.2.2];rfl,ae HGw.out HG4.out,fun h=>absurd HRL.out.2.2.2 h,fun R' d' _ a b=>?_⟩
  rw[HRL.out.2.1] at a
  cases a
  rw[HRL.out.2.2.1] at b
  cases b
  have o:=aP HO4.out HGw.out.size
  rw[HRL.out.1] at o ⊢
  exact o
 ·have e1:(q != 0)=true:=by simpa using hq0
  have Hq0:Hid (q≠0):=hq0
  clear hq0
  go_wp2_with fail
  go_ret2
  exact⟨none,0,0,by rw[←Hq.out];rfl,HGw.out,fun _=>⟨rfl,rfl,rfl⟩,fun R d a b c=>absurd (by rw[Hq.out,a];exact gN b c) Hq0.out⟩
def ju (w:World) (r n:Int) (cd:Int→Hd×List Pt) (ts:List Th) (fs:List Fe) (s:Sd) (e:Ending) (w':World):Prop:=∃ p m c,e=.returned (.tuple #[.slice p m c,.int .i64 (lkE r n cd ts fs [s])])∧w.grownBy w' none∧(lkE r n cd ts fs [s]≠0→m=0∧p=none∧c=0)∧∀ R d,r=0→bw n cd ts fs=some R→bn R [s] []=some [d]→aQ w' w.heap.size (.slice p m c) (bu fs R (aG R (aq R fs) d))
theorem mT (bv vt vf:Value) (r n:Int) (cd:Int→Hd×List Pt) (ts:List Th) (fs:List Fe) (s:Sd) (w:World) (I:LIn w bv vt vf r n cd ts fs):Calls Tryz.prog 75 #[bv,vt,vf,sdv s] w (ju w r n cd ts fs s):=by
 obtain⟨pt,ct,rfl⟩:=I.things.form
 obtain⟨pf,cf,rfl⟩:=I.feats.form
 obtain⟨W2,hW2⟩:=Qe ((w.alloc (.cells #[.int .i64 s.th,.int .i64 s.pl,.int .u8 s.wh.wn,.int .u8 s.wh.vb,.int .u8 s.wh.wm,.int .i64 s.wh.ct,.int .u8 s.wh.su,.int .u8 s.wh.tr,.int .u8 s.wh.mr,.string s.wh.nm] 64)).alloc (.cells #[.int .i64 s.th,.int .i64 s.pl,.int .u8 s.wh.wn,.int .u8 s.wh.vb,.int .u8 s.wh.wm,.int .i64 s.wh.ct,.int .u8 s.wh.su,.int .u8 s.wh.tr,.int .u8 s.wh.mr,.string s.wh.nm] 64))
 have HG2:Hid (w.grownBy W2 none):=by rw[hW2];exact al QG _
 have HLk:=lp bv _ _ (.slice (some ⟨w.heap.size+1,0,none⟩) 1 1) r n cd ts fs [s] W2 (I.keep HG2.out) (by rw[hW2];exact Bv (aO _ _ _ _)) (by simp)
 unfold iD tbv at HLk
 have HI:Hid (LIn W2 bv (.slice pt ts.length ct) (.slice pf fs.length cf) r n cd ts fs):=I.keep HG2.out
 unfold sdv
 rw[hW2] at HLk
 have HW2:Hid (W2=(w.alloc (.cells #[.int .i64 s.th,.int .i64 s.pl,.int .u8 s.wh.wn,.int .u8 s.wh.vb,.int .u8 s.wh.wm,.int .i64 s.wh.ct,.int .u8 s.wh.su,.int .u8 s.wh.tr,.int .u8 s.wh.mr,.string s.wh.nm] 64)).alloc (.cells #[.int .i64 s.th,.int .i64 s.pl,.int .u8 s.wh.wn,.int .u8 s.wh.vb,.int .u8 s.wh.wm,.int .i64 s.wh.ct,.int .u8 s.wh.su,.int .u8 s.wh.tr,.int .u8 s.wh.mr,.string s.wh.nm] 64)):=hW2
 clear I hW2
 go_enter Tryz.func75,Tryz.ntmps75
 go_wp2_with fail
 refine HLk.mono ?_
 rw[←HW2.out]
 rintro e2 w2 ⟨p1,m1,c1,p2,m2,c2,p3,m3,c3,rfl,g2,h2⟩
 obtain⟨q,hq⟩:=Qe (lkE r n cd ts fs [s])
 have Hq:Hid (q=lkE r n cd ts fs [s]):=hq
 rw[←hq]
 obtain⟨V,hV⟩:=Qe (w2.alloc (.cells #[.slice p1 m1 c1,.slice p2 m2 c2] 125))
 have HGV:Hid (W2.grownBy V none):=by rw[hV];exact al g2 _
 have HBt:Hid (TbB V w2.heap.size (.slice p1 m1 c1) (.slice p2 m2 c2)):=by rw[hV];exact ak _ _ _
 have H2:Hid (∀ R L,r=0→bw n cd ts fs=some R→bn R [s] []=some L→∃ X,rws X=R∧TbO V W2.heap.size (.slice p1 m1 c1) (.slice p2 m2 c2) X (aq R fs)∧(∀ x∈X,1≤x.r.nu∧x.r.nu≤(fs.length:Int))∧eG V W2.heap.size (.slice p3 m3 c3) L):=fun R L a b c=>by
  obtain⟨X,x1,x2,x3,x4⟩:=h2 R L a b c
  have g:=World.grownBy_alloc w2 (.cells #[.slice p1 m1 c1,.slice p2 m2 c2] 125) none
  exact⟨X,x1,by rw[hV];exact x2.grow g,x3,by rw[hV];exact aw x4 g⟩
 clear HLk HW2 g2 h2 hq
 go_upto_region 2 with fail
 rw[←hV]
 obtain⟨nb,hnb⟩:=Qe (w2.heap.size)
 rw[←hnb] at HBt ⊢
 clear hV hnb
 have HGw:Hid (w.grownBy V none):=ae HG2.out HGV.out
 by_cases hq0:q=0
 ·have e1:(q != 0)=false:=by simpa using hq0
  obtain⟨hr0,R,L,hR,hL⟩:=rV (Hq.out.symm.trans hq0)
  obtain⟨d,rfl⟩:=BM hL
  obtain⟨X,hX,hT,hnu,hS⟩:=H2.out R _ hr0 hR hL
  have hro:d.ro<X.length:=oB [s] [] [d] (fun e he=>by cases he) (by rw[hX];exact hL) d (by simp)
  obtain⟨hm3,g,rfl,hRg⟩:=xz hS
  obtain rfl:m3=1:=hm3
  have HRL:Hid (rws X=R∧bw n cd ts fs=some R∧bn R [s] []=some [d]∧lkE r n cd ts fs [s]=0):=⟨hX,hR,hL,Hq.out.symm.trans hq0⟩
  have HTV:Hid (dX V (.slice p1 m1 c1) (.slice p2 m2 c2) X (aq R fs)):=hT.at
  have Hnu:Hid (∀ x∈X,1≤x.r.nu∧x.r.nu≤(fs.length:Int)):=hnu
  have C1:=jC _ _ X (aq R fs) d V.drew (HTV.out.keep (ai _)) hro
  unfold tbv sev at C1
  obtain⟨t0,t1⟩:=bP HBt.out
  obtain⟨s0,s1,s2,s3,s4,s5,s6,s7,s8,s9,s10⟩:=ft hRg
  simp only[Nat.zero_add] at s1 s2 s3 s4 s5 s6 s7 s8 s9 s10
  have h01:(0:Int)<((1:Nat):Int):=by decide
  clear hq0 hr0 hR hL hX hT hnu hS hro hRg H2
  go_upto_region 4 with fail
  refine wp_region_held_drew (S:=fun w'=>V.grownBy w' none) (by kernel_rfl) (ai _) (fun hHeld=>?_)
  refine QT 0 rfl (by intro w0 hSw;have t0:=QK hSw t0;have t1:=QK hSw t1;go_simp;try with_reducible rfl) ?_
  go_frame
  refine QZ 1 rfl ?_
  go_frame
  refine QZ 2 rfl ?_
  go_frame
  refine QT 3 rfl (by intro w0 hSw;have s0:=QK hSw s0;have s1:=QK hSw s1;have s2:=QK hSw s2;have s3:=QK hSw s3;have s4:=QK hSw s4;have s5:=QK hSw s5;have s6:=QK hSw s6;have s7:=QK hSw s7;have s8:=QK hSw s8;have s9:=QK hSw s9;have s10:=QK hSw s10;go_simp;try with_reducible rfl) ?_
  go_frame
  refine QZ 5 rfl ?_
  go_frame
  refine QR 4 rfl (fun K hK=>?_)
  go_simp
  go_at_call 69
  refine(C1).mono ?_
  rintro e3 w3 ⟨v3,rfl,o3,g3⟩
  obtain⟨p4,c4,rfl⟩:=o3.form
  have HG3:Hid (V.grownBy w3 none):=ae (ai _) g3
  have C2:=nT _ _ _ X _ fs w3 (HTV.out.applied HG3.out d o3) (HI.out.feats.keep (ae HGV.out HG3.out)) (fun i hi=>As Hnu.out hi) (HI.out.few (rV HRL.out.2.2.2).1 (rV HRL.out.2.2.2).2.choose_spec.choose_spec.1)
  unfold tbv at C2
  clear g3 C1
  refine hK.out _ _ (HG3.out) (fun hHeld2=>?_)
  clear hK K
  (try go_frame)
  refine QR 6 rfl (fun K hK=>?_)
  go_simp
  go_at_call 71
  refine(C2).mono ?_
  rintro e4 w4 ⟨v4,rfl,o4,g4⟩
  obtain⟨p5,c5,rfl⟩:=o4.form
  have HG4:Hid (V.grownBy w4 none):=ae HG3.out g4
  have HO4:Hid (aQ w4 V.heap.size (.slice p5 (bu fs (rws X) (aG (rws X) (aq R fs) d)).length c5) (bu fs (rws X) (aG (rws X) (aq R fs) d))):=aP o4 HG3.out.size
  clear g4 o4 C2 o3
  refine hK.out _ _ (HG4.out) (fun hHeld2=>?_)
  clear hK K
  (try go_frame)
  refine QZ 7 rfl ?_
  go_frame
  refine QZ 8 rfl ?_
  go_frame
  refine QD ?_
  go_wp2_with fail
  go_ret2
  refine⟨_,_,_,by rw[HRL.out.2.2.2];rfl,ae HGw.out HG4.out,fun h=>absurd HRL.out.2.2.2 h,fun R' d' _ a b=>?_⟩
  rw[HRL.out.2.1] at a
  cases a
  rw[HRL.out.2.2.1] at b
  cases b
  have o:=aP HO4.out HGw.out.size
  rw[HRL.out.1] at o ⊢
  exact o
 ·have e1:(q != 0)=true:=by simpa using hq0
  have Hq0:Hid (q≠0):=hq0
  clear hq0
  go_wp2_with fail
  go_ret2
  exact⟨none,0,0,by rw[←Hq.out];rfl,HGw.out,fun _=>⟨rfl,rfl,rfl⟩,fun R d a b c=>absurd (by rw[Hq.out,a];exact gN b c) Hq0.out⟩
theorem DI {e n m:Nat} (h:w.ownsRow base e size (.slice (some ⟨g,0,none⟩) n cap) n xs) (hm:m≤n):w.ownsRow base e size (.slice (some ⟨g,0,none⟩) m cap) m (xs.take (m*size)):=by
 have h2:m*size≤n*size:=Nat.mul_le_mul_right _ hm
 refine⟨by rw[List.length_take,h.1];omega,?_⟩
 rcases h.2 with ⟨e1,_⟩ | ⟨g',cap',cur,e1,hb,hh,hc,hx,hs,ht⟩
 ·cases e1
 ·cases e1
  refine Or.inr ⟨g,cap,cur,rfl,hb,hh,Ql hm hc,hx,hs,?_⟩
  rw[←ht,List.take_take,Nat.min_eq_left h2]
theorem zw {zs:Array Value} (h:∀ v∈zs.toList,v.oneCell'=true) (hz:0<zs.size) (n:Nat):∀ v∈(Builtin.zeroCells zs n).toList,v.oneCell'=true:=fun v hv=>by
 unfold Builtin.zeroCells at hv
 simp at hv
 obtain⟨i,_,rfl⟩:=hv
 have hi:i % zs.size<zs.size:=Nat.mod_lt _ hz
 rw[getElem!_pos zs _ hi]
 exact h _ (by simp)
theorem mS (zs:Array Value) (n:Nat):(Builtin.zeroCells zs n).toList.length=n*zs.size:=by unfold Builtin.zeroCells;simp
theorem wJ (w:World) (t e ty:TypeId) (zs:Array Value) (ht:P.underlying t=some (.slice e)) (hv:∀ w,(zeroValue e).run P w=.ok (.agg zs) w) (h1:∀ v∈zs.toList,v.oneCell'=true) (hz:0<zs.size) (b o n c:Nat) (hn:0<n)
  (hc:w.there b o (n*zs.size)) :
  (Builtin.clear_ #[t] ty #[.slice (some ⟨b,o,none⟩) n c]).run P w=.ok (.tuple #[]) (w.setCells b o (Builtin.zeroCells zs n).toList):=by
 have hst:=run_storeCells_cells (P:=P) b o (Builtin.zeroCells zs n).toList 0 w (fun j hj=>by rw[mS] at hj;exact(hc j hj).1) (fun j hj=>by rw[mS] at hj;exact(hc j hj).2) (zw h1 hz n)
 simp only[Nat.add_zero] at hst
 obtain⟨m,rfl⟩:∃ m,n=m+1:=⟨n - 1,by omega⟩
 simp[Builtin.clear_,run_underlying ht,hv,Value.cells,hst]
theorem ym {R:az Se} {zs:List Value} (hij:i<j) (hj:j≤L.length) (hz:zs.length=(j - i)*R.k):(dJ (dJ (R.cs L) (i*R.k) (R.cs (L.drop j))) ((i+(L.length - j))*R.k) zs).take ((i+(L.length - j))*R.k)=R.cs (L.take i++L.drop j):=by
 have e1:(i+(L.length - j))*R.k+(j - i)*R.k=L.length*R.k:=by rw[←Nat.add_mul];congr 1;omega
 have e2:i*R.k+(L.drop j).length*R.k=(i+(L.length - j))*R.k:=by rw[List.length_drop,←Nat.add_mul]
 have e3:i*R.k+(L.drop j).length*R.k≤L.length*R.k:=by rw[e2];omega
 have h1:dJ (R.cs L) (i*R.k) (R.cs (L.drop j))=R.cs (L.take i)++(R.cs (L.drop j)++(R.cs L).drop (i*R.k+(R.cs (L.drop j)).length)):=by rw[eZ _ _ _ (by rw[R.len,R.len];exact e3),R.take]
 have l1:(dJ (R.cs L) (i*R.k) (R.cs (L.drop j))).length=L.length*R.k:=by
  rw[h1,Qa,Qa,List.length_drop,R.len,R.len,R.len,List.length_take,Nat.min_eq_left (by omega)]
  omega
 have hl:(R.cs (L.take i++L.drop j)).length=(i+(L.length - j))*R.k:=by rw[R.len,Qa,List.length_take,List.length_drop,Nat.min_eq_left (by omega)]
 rw[eZ _ _ _ (by rw[l1,hz];omega),List.take_append_of_le_length (by rw[List.length_take,l1];omega),List.take_take,Nat.min_self,h1,←List.append_assoc,←R.app,List.take_append_of_le_length (by rw[hl];exact Qj _),List.take_of_length_le (by rw[hl];exact Qj _)]
def zS:Array Value:=#[.int .i64 0,.int .i64 0,.int .u8 0,.int .u8 0,.int .u8 0,.int .i64 0,.int .u8 0,.int .u8 0,.int .u8 0,.string ⟨#[]⟩,.int .i64 0]
theorem DN:∀ v∈zS.toList,v.oneCell'=true:=by
 unfold zS
 simp
 exact⟨rfl,rfl,rfl,rfl,rfl,rfl⟩
theorem ta (base g cap i j:Nat) (L:List Se) (w:World) (O:eG w base (.slice (some ⟨g,0,none⟩) L.length cap) L) (hij:i<j) (hj:j≤L.length):Calls Tryz.prog 70 #[.slice (some ⟨g,0,none⟩) L.length cap,.int .i64 (i:Int),.int .i64 (j:Int)] w fun e w'=>e=.returned (.slice (some ⟨g,0,none⟩) (i+(L.length - j)) cap)∧eG w' base (.slice (some ⟨g,0,none⟩) (i+(L.length - j)) cap) (L.take i++L.drop j)∧w.grownBy w' (some g):=by
 obtain⟨i0,hi0,hz0,hz1,hz2⟩:=info_parts Tryz.linfoS
 obtain⟨g',cap',e',_,_,hcap,hmx,hcell⟩:=cH O (by omega)
 injection e' with e1 e2 e3
 injection e1 with e1
 injection e1 with e1
 subst e1
 subst e3
 obtain⟨n,hn⟩:=Qe (L.length)
 rw[←hn] at hj hcap hcell ⊢
 have hm:cap≤9223372036854775807:=by unfold maxLen at hmx;omega
 have HN:Hid (n=L.length):=hn
 have HO:Hid (w.ownsRow base 131 11 (.slice (some ⟨g,0,none⟩) n cap) n (seR.cs L)):=by show World.ownsRow _ _ _ _ _ _ _;rw[hn];exact O
 obtain⟨news,hnews⟩:=Qe (seR.cs (L.drop j))
 have hlen:news.length=(n - j)*11:=by rw[hnews,seR.len,List.length_drop,←hn];rfl
 have hget:∀ t u,news[t]?=some u→w.cell? ⟨g,j*11+t,none⟩=some u:=fun t u hu=>by
  have ht:t<(n - j)*11:=by have:=(Qh hu).1;rwa [hlen] at this
  rw[(hcell (j*11+t) (by show _<n*11;omega)).1,←List.getElem?_drop]
  rw[hnews] at hu
  rw[←hu]
  exact congrArg (·[t]?) (seR.drop L j)
 obtain⟨A,hA,hsrc⟩:∃ A:Addr,(if cap=j then some (⟨g,0,none⟩:Addr) else some ⟨g,j*11,none⟩)=some A∧Hid (∀ t u,news[t]?=some u→w.drew.cell? (A.add t)=some u):=by
  by_cases h:cap=j
  ·refine⟨⟨g,0,none⟩,by simp[h],fun t u hu=>?_⟩
   have h0:news.length=0:=by rw[hlen];omega
   rw[List.length_eq_zero_iff.1 h0] at hu
   simp at hu
  ·exact⟨⟨g,j*11,none⟩,by simp[h],fun t u hu=>by rw[fV];exact hget t u hu⟩
 have s1:Hid (news.length=(n - j)*11):=hlen
 have s2:Hid (∀ u∈news,u.oneCell'=true):=by rw[hnews];exact seR.ones _
 have s3:Hid (∀ t,t<news.length→(w.drew.cell? ⟨g,0+i*11+t,none⟩).isSome=true∧w.drew.frozen? ⟨g,0+i*11+t,none⟩=false):=by
  intro t ht
  rw[hlen] at ht
  rw[Nat.zero_add]
  have hq:i*11+t<n*11:=by omega
  refine⟨?_,(hcell _ hq).2⟩
  show (w.cell? _).isSome=true
  rw[(hcell _ hq).1,Qg (by rw[seR.len,←hn];exact hq)]
  rfl
 obtain⟨W1,hW1⟩:=Qe (w.drew.setCells g (0+i*11) news)
 have o1:=dR news (seR.cs L) (i*11) w.drew (show w.drew.ownsRow base 131 11 (.slice (some ⟨g,0,none⟩) n cap) n (seR.cs L) from HO.out)
 have eW:w.drew.setCells g (i*11) news=W1:=by rw[hW1,Nat.zero_add]
 rw[eW] at o1
 have HO1:Hid (W1.ownsRow base 131 11 (.slice (some ⟨g,0,none⟩) n cap) n (dJ (seR.cs L) (i*11) news)):=o1.1
 have HGW:Hid (w.grownBy W1 (some g)):=ae (aX w _) o1.2
 obtain⟨c,hc⟩:=Qe (i+(n - j))
 have hcn:n - c=j - i:=by omega
 have hcl:∀ ty,(Builtin.clear_ #[126] ty #[.slice (some ⟨g,c*11,none⟩) (n - c) (cap - c)]).run Tryz.prog W1=.ok (.tuple #[]) (W1.setCells g (c*11) (Builtin.zeroCells zS (n - c)).toList):=fun ty=>wJ W1 _ 131 ty zS Tryz.underlying126 (fun w=>Tryz.zeroValue131 w) DN (by decide) g (c*11) (n - c) (cap - c) (by omega) (fun t ht=>by
  have ht':t<(n - c)*11:=ht
  have hq:c*11+t<n*11:=by omega
  refine⟨?_,World.ownsRow.frozenAt o1.1 _⟩
  rw[World.ownsRow.cellAt o1.1 (c*11+t) hq,Qg (by rw[o1.1.1];exact hq)]
  rfl)
 have hW:Hid (W1=w.drew.setCells g (0+i*11) news):=hW1
 have HCz:Hid ((Builtin.zeroCells zS (n - c)).toList.length=(j - i)*11):=by show _=_;rw[mS,hcn];rfl
 have Hnews:Hid (news=seR.cs (L.drop j)):=hnews
 have Hc:Hid (c=i+(n - j)):=hc
 have hc1:(i:Int)+((n - j:Nat):Int)=(c:Int):=by omega
 have hic:i≤cap:=by omega
 have hjc:j≤cap:=by omega
 have hcc:c≤cap:=by omega
 have hcn2:c≤n:=by omega
 have hcne:¬cap=c:=by omega
 have Hcn:Hid (c<n):=by show _<_;omega
 clear hW1 hget hnews hlen o1 eW O hcell hn hcn
 rw[←hc]
 clear hc hc1
 go_enter Tryz.func70,Tryz.ntmps70
 go_wp2_with fail
 go_region_law (refine step_append_room rfl (.tmp 22) (.tmp 25) 126 rfl 131 i0 11 Tryz.underlying126 hi0 hz1 g 0 i cap (by simp[Act.eval,Act.put]) A (n - j) (cap - j) news (by simp[Act.eval,Act.put]) s1.out hsrc.out s2.out (by omega) s3.out ?_;rw[←hW.out])
 rw[←Hc.out]
 go_wp2
 go_ret
 have o2:=dR (Builtin.zeroCells zS (n - c)).toList _ (c*11) W1 HO1.out
 refine⟨rfl,?_,ae HGW.out o2.2⟩
 have o3:=DI o2.1 (Nat.le_of_lt Hcn.out)
 have e9:=ym (R:=seR) (L:=L) (i:=i) (j:=j) (zs:=(Builtin.zeroCells zS (n - c)).toList) hij (by rw[←HN.out];exact hj) HCz.out
 rw[←HN.out,←Hc.out,←Hnews.out] at e9
 have e10:(dJ (dJ (seR.cs L) (i*11) news) (c*11) (Builtin.zeroCells zS (n - c)).toList).take (c*11)=seR.cs (L.take i++L.drop j):=e9
 rw[e10] at o3
 unfold eG az.Own
 rw[show (L.take i++L.drop j).length=c from by rw[Qa,List.length_take,List.length_drop,←HN.out,Hc.out,Nat.min_eq_left (by omega)]]
 exact o3
def bF (w:World) (base:Nat) (v:Value) (L:List Sd):Prop:=sdR.Own 64 w base v L
theorem Tryz.linfoD:(Tryz.prog.info? 64).map (fun i=>(i.zero,i.size,i.bytes))=some (some (.agg #[.int .i64 0,.int .i64 0,.int .u8 0,.int .u8 0,.int .u8 0,.int .i64 0,.int .u8 0,.int .u8 0,.int .u8 0,.string ⟨#[]⟩]),10,56):=by kernel_rfl
theorem mU (Z:World) (s:Sd):Src (Z.alloc (.cells (sdc s).toArray 64)) (.slice (some ⟨Z.heap.size,0,none⟩) 1 1) 1 10 (sdc s):=jo (cs:=(sdc s).toArray) (ak Z _ _) rfl 1
theorem ge {n:Nat} (h:n≤4096):n+1≤maxLen∧(n+1)*56≤140737488355328:=by unfold maxLen;omega
theorem jy (h:bgE r n cd ts fs k=0):r=0∧(1≤k∧k≤5)∧∃ R,bw n cd ts fs=some R:=by
 unfold bgE at h
 split at h
 ·rename_i h0
  split at h
  ·rename_i h1
   obtain⟨a,R,b⟩:=kB h0
   exact⟨a,h1,R,b⟩
  ·cases h
 ·rename_i h0
  exact absurd h h0
theorem ri (h:bw n cd ts fs=some R) (hk:1≤k∧k≤5):bgE 0 n cd ts fs k=0:=by
 unfold bgE
 rw[if_pos (gd h),if_pos hk]
theorem xg {nu:Int} {ro:Nat} {m:Nat} (h:e∈eU k nu ro ps m):e.ro=ro:=by
 unfold eU at h
 obtain⟨i,_,q⟩:=List.mem_filterMap.1 h
 split at q
 ·cases q;rfl
 ·cases q
theorem DG (h:e∈cx R F k):e.ro<R.length:=by
 unfold cx gZ at h
 obtain⟨i,hi,q⟩:=List.mem_flatMap.1 h
 unfold j7 at q
 split at q
 ·cases q
 ·rw[xg q]
  exact List.mem_range.1 hi
theorem tt {X:List Rv} (h4:∀ x∈X,x.r.ps.length≤4) (h16:X.length≤16):(cx (rws X) F k).length≤64:=by
 unfold cx
 have:=iM (R:=rws X) (F:=F) (k:=k) (fun i=>by
  by_cases h:i<X.length
  ·rw[fI h];exact h4 _ (List.getElem_mem h)
  ·rw[List.getD_eq_getElem?_getD,List.getElem?_eq_none (by rw[cQ];omega)];exact Q0 _) (rws X).length
 rw[cQ] at this ⊢
 omega
def eD (w:World) (r n:Int) (cd:Int→Hd×List Pt) (ts:List Th) (fs:List Fe) (k:Int) (e:Ending) (w':World):Prop:=∃ p m c,e=.returned (.tuple #[.slice p m c,.int .i64 (bgE r n cd ts fs k)])∧w.grownBy w' none∧(bgE r n cd ts fs k≠0→m=0∧p=none∧c=0)∧∀ R,r=0→1≤k∧k≤5→bw n cd ts fs=some R→bF w' w.heap.size (.slice p m c) ((cx R (aq R fs) k).map Se.s)
theorem Bk {k:Nat} (h:k<L.length):(L.take (k+1)).map Se.s=(L.take k).map Se.s++[(L.getD k Se.none).s]:=by
 rw[aB h,List.take_add_one,Qg h,List.map_append]
 rfl
theorem qL (bv vt vf:Value) (r n:Int) (cd:Int→Hd×List Pt) (ts:List Th) (fs:List Fe) (k:Int) (w:World) (I:LIn w bv vt vf r n cd ts fs):Calls Tryz.prog 13 #[bv,vt,vf,.int .i64 k] w (eD w r n cd ts fs k):=by
 obtain⟨i0,hi,hz0,hz1,hz2⟩:=info_parts Tryz.linfoD
 obtain⟨pt,ct,rfl⟩:=I.things.form
 obtain⟨pf,cf,rfl⟩:=I.feats.form
 have HBg:=mI bv _ _ r n cd ts fs k w I
 unfold iO tbv at HBg
 have HI:Hid (LIn w bv (.slice pt ts.length ct) (.slice pf fs.length cf) r n cd ts fs):=I
 clear I
 go_enter Tryz.func13,Tryz.ntmps13
 go_wp2_with fail
 refine HBg.mono ?_
 rintro e2 w2 ⟨p1,m1,c1,p2,m2,c2,p3,m3,c3,rfl,g2,h2⟩
 obtain⟨q,hq⟩:=Qe (bgE r n cd ts fs k)
 have Hq:Hid (q=bgE r n cd ts fs k):=hq
 rw[←hq]
 obtain⟨V,hV⟩:=Qe (w2.alloc (.cells #[.slice p1 m1 c1,.slice p2 m2 c2] 125))
 have HGV:Hid (w.grownBy V none):=by rw[hV];exact al g2 _
 have HBt:Hid (TbB V w2.heap.size (.slice p1 m1 c1) (.slice p2 m2 c2)):=by rw[hV];exact ak _ _ _
 have H2:Hid (∀ R,r=0→1≤k∧k≤5→bw n cd ts fs=some R→∃ X,rws X=R∧TbO V w.heap.size (.slice p1 m1 c1) (.slice p2 m2 c2) X (aq R fs)∧(∀ x∈X,1≤x.r.nu∧x.r.nu≤(fs.length:Int))∧eG V w.heap.size (.slice p3 m3 c3) (cx R (aq R fs) k)):=fun R a b c=>by
  obtain⟨X,x1,x2,x3,x4⟩:=h2 R a b c
  have g:=World.grownBy_alloc w2 (.cells #[.slice p1 m1 c1,.slice p2 m2 c2] 125) none
  exact⟨X,x1,by rw[hV];exact x2.grow g,x3,by rw[hV];exact aw x4 g⟩
 have Hw2:Hid (w.heap.size≤w2.heap.size):=g2.size
 clear HBg g2 h2 hq
 go_upto_region 2 with fail
 rw[←hV]
 obtain⟨nb,hnb⟩:=Qe (w2.heap.size)
 rw[←hnb] at HBt Hw2 ⊢
 clear hV hnb
 by_cases hq0:q=0
 ·have e1:(q != 0)=false:=by simpa using hq0
  obtain⟨hr0,hk0,R,hR⟩:=jy (Hq.out.symm.trans hq0)
  obtain⟨X,hX,hT,hnu,hS⟩:=H2.out R hr0 hk0 hR
  have HRL:Hid (rws X=R∧bw n cd ts fs=some R∧bgE r n cd ts fs k=0):=⟨hX,hR,Hq.out.symm.trans hq0⟩
  obtain⟨L,hL⟩:=Qe (cx R (aq R fs) k)
  have hLl:L.length≤64:=by rw[hL,←hX];exact tt (fun x hx=>(hT.parts x hx).2) hT.few
  rw[←hL] at hS
  have HS:Hid (seR.At V (.slice p3 m3 c3) L):=az.Own.at hS
  have HL:Hid (L=cx R (aq R fs) k):=hL
  have Hm3:Hid (m3=L.length):=by obtain⟨a,b,e⟩:=az.Own.form hS;injection e
  rw[Hm3.out] at HS
  rw[Hm3.out]
  have Hll:Hid (L.length≤64):=hLl
  clear hq0 hr0 hk0 hR hX hT hnu hS H2 hL hLl
  go_wp2_with fail
  go_loopw [13,30] (fun v i wr=>∃ j:Nat,j≤L.length∧i=.int .i64 (j:Int)∧bF wr V.heap.size v ((L.take j).map Se.s)∧V.grownBy wr none) (fun _ i _=>L.length - (intOf i).toNat)
  case atStart=>exact⟨0,Q0 _,rfl,az.Own.nil _ _ _ _,ay _ _⟩
  case round =>
   obtain⟨j,hj,rfl,O,G⟩:=hrel
   obtain⟨U,hU⟩:=Qe (wr)
   subst hU
   obtain⟨pq,cq,rfl⟩:=O.form
   have HG:Hid (V.grownBy U none):=G
   by_cases hlt:j<L.length
   ·obtain⟨g,off,cap,e1,RR⟩:=SeAt.there (HS.out.keep G) hlt
    cases e1
    obtain⟨e,he⟩:=Qe (L.getD j Se.none)
    rw[←he] at RR
    obtain⟨c0,c1',c2',c3',c4,c5,c6,c7,c8,c9,c10⟩:=ft RR
    obtain⟨Y,hY⟩:=Qe (U.alloc (.cells #[.int .i64 e.s.th,.int .i64 e.s.pl,.int .u8 e.s.wh.wn,.int .u8 e.s.wh.vb,.int .u8 e.s.wh.wm,.int .i64 e.s.wh.ct,.int .u8 e.s.wh.su,.int .u8 e.s.wh.tr,.int .u8 e.s.wh.mr,.string e.s.wh.nm,.int .i64 (e.ro:Int)] 131))
    have HGY:Hid (U.grownBy Y none):=by rw[hY];exact QG
    have HBe:Hid (SeB Y U.heap.size e):=by rw[hY];exact ak _ _ _
    have hDl:((L.take j).map Se.s).length=j:=by rw[List.length_map,List.length_take,Nat.min_eq_left (Nat.le_of_lt hlt)]
    have HNx:Hid ((L.take (j+1)).map Se.s=(L.take j).map Se.s++[e.s]):=by show _=_;rw[Bk hlt,←he]
    obtain⟨D,hD⟩:=Qe ((L.take j).map Se.s)
    rw[←hD] at O HNx hDl ⊢
    have HOY:Hid (Y.ownsRow V.heap.size 64 10 (.slice pq D.length cq) D.length (sdR.cs D)):=O.grow HGY.out
    have HLn:Hid (D.length+1≤maxLen∧(D.length+1)*56≤140737488355328):=ge (by rw[hDl];exact Ql (Nat.le_of_lt hlt) (Ql Hll.out (by decide)))
    have hlt':(j:Int)<L.length:=Int.ofNat_lt.2 hlt
    have Hlt:Hid (j<L.length):=hlt
    have hwk:=aK (k:=j) (Ql (Nat.le_of_lt hlt) (Ql Hll.out (by decide)))
    have HM:Hid (L.length - (intOf (.int .i64 ((j:Int)+1))).toNat<L.length - (intOf (.int .i64 (j:Int))).toNat):=bj hlt
    clear he RR O G hD hDl hlt hj
    go_upto_region 8 with fail
    rw[←hY]
    obtain⟨nc,hnc⟩:=Qe (U.heap.size)
    rw[←hnc] at HBe ⊢
    clear hY hnc c0 c1' c2' c3' c4 c5 c6 c7 c8 c9 c10
    obtain⟨o0,o1,o2,o3,o4,o5,o6,o7,o8,o9,o10⟩:=fh HBe.out
    go_wp2_with (at_builtin;refine bE (by rfl) (.tmp 34) (.tmp 37) 30 rfl V.heap.size 64 i0 _ 10 56 Tryz.underlying30 hi hz0 hz1 hz2 rfl (by decide) _ D.length (sdR.cs D) rfl (World.ownsRow.alloc HOY.out _) _ 1 (sdc e.s) rfl (mU Y e.s) (fz _) HLn.out.1 HLn.out.2 (by rw[World.size_alloc];exact Nat.le_succ_of_le (ae HG.out HGY.out).size) ?_;intro v8 w8 o8 g8 _;have HO8:Hid _:=o8;have HG8:Hid _:=g8;clear o8 g8)
    have HS8:Hid (bF w8 V.heap.size v8 (D++[e.s])∧V.grownBy w8 none):=⟨az.more HO8.out rfl,ar (al (ae HG.out HGY.out) _) HG8.out (fun y e=>(World.ownsRow.lt HOY.out y e).1)⟩
    clear HO8 HG8
    go_roundw
    case rel=>exact⟨j+1,Hlt.out,by first | rfl | (rw[hwk];rfl) | go_num,by rw[HNx.out];exact HS8.out.1,HS8.out.2⟩
    case measure=>first | exact HM.out | (rw[hwk];exact HM.out)
   ·obtain rfl:j=L.length:=Nat.le_antisymm hj (Nat.le_of_not_lt hlt)
    rw[List.take_length] at O ⊢
    have HF:Hid (bF U V.heap.size (.slice pq (L.map Se.s).length cq) (L.map Se.s)):=O
    clear O G hlt hj
    go_wp2_with fail
    go_ret2
    refine⟨_,_,_,by rw[HRL.out.2.2];rfl,ae HGV.out HG.out,fun h=>absurd HRL.out.2.2 h,fun R' _ _ a=>?_⟩
    rw[HRL.out.2.1] at a
    cases a
    have o:=aP HF.out HGV.out.size
    rw[HL.out] at o
    rw[HL.out]
    exact o
 ·have e1:(q != 0)=true:=by simpa using hq0
  have Hq0:Hid (q≠0):=hq0
  clear hq0
  go_wp2_with fail
  go_ret2
  exact⟨none,0,0,by rw[←Hq.out];rfl,HGV.out,fun _=>⟨rfl,rfl,rfl⟩,fun R a b c=>absurd (by rw[Hq.out,a];exact ri c b) Hq0.out⟩
end Go.Proofs.YtjmepebbcnhalaaGreat
