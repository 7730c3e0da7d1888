/-
  
-/
import Derived.Test.YtjmepebbcnhalaaGreatW0
import Derived.Test.YtjmepebbcnhalaaGreatW30
namespace Go.Proofs.YtjmepebbcnhalaaGreat
set_option maxRecDepth 100000
set_option maxHeartbeats 4000000
open Go.RowKit

theorem kP {r n:Int} {cd:Int→Hd×List Pt} {ts:List Th} {fs:List Fe} {S:List Sd} (h:lkE r n cd ts fs S=0):r=0∧∃ R L,bi n cd ts fs=some R∧aN R S []=some L:=by
 unfold lkE at h
 split at h
 ·rename_i h0
  refine⟨h0,?_⟩
  cases ht:bi n cd ts fs with
  | none=>rw[ht] at h;cases h
  | some R =>
   rw[ht] at h
   simp only at h
   cases hl:aN R S [] with
   | none=>rw[hl] at h;cases h
   | some L=>exact⟨R,L,rfl,hl⟩
 ·rename_i h0
  exact absurd h h0
theorem yH {W:World} {n:Nat} {s:Sd} (h:SdB W n s):sdR.At W (.slice (some ⟨n,0,none⟩) 1 1) [s]:=⟨some ⟨n,0,none⟩,1,rfl,(show 1≤maxLen by unfold maxLen;decide),fun _=>⟨n,0,rfl,fun j x hj i v hv=>by
 have hj0:j=0:=by have:=(List.getElem?_eq_some_iff.1 hj).1;simp at this;exact this
 subst hj0
 simp at hj
 subst hj
 rw[show 0+0*sdR.k+i=i from by omega,ae h i]
 have hv':(sdc s)[i]?=some v:=hv
 show (sdc s).toArray[i]?=_
 simpa using hv'⟩⟩
theorem qt {R:List Rw} {s:Sd} {L:List Se} (h:aN R [s] []=some L):∃ d,L=[d]:=by
 have:=gN _ _ _ h
 exact List.length_eq_one_iff.1 (by simpa using this)
theorem tx {R:List Rw} {s o:Sd} {L:List Se} (h:aN R [s,o] []=some L):∃ d1 d2,L=[d1,d2]:=by
 have:=gN _ _ _ h
 match L,this with
 | [d1,d2],_=>exact⟨d1,d2,rfl⟩
theorem pK {w:World} {base:Nat} {p:Option Addr} {m c:Nat} {d:Se} {L:List Se} (h:dB w base (.slice p m c) (d :: L)):m=L.length+1∧∃ g,p=some ⟨g,0,none⟩∧w.rangeAt g 0 (sec d):=by
 obtain⟨q,cap,e,hm,hA⟩:=aB.Own.at h
 obtain⟨g,cap2,e2,_⟩:=cc h (Nat.succ_pos _)
 injection e with e1 e3 e4
 injection e2 with f1 f2 f3
 obtain⟨g',off,e5,hR⟩:=hA (Nat.succ_pos _)
 rw[←e1,f1] at e5
 injection e5 with e5
 injection e5 with e5 e6 e7
 refine⟨e3,g,f1,?_⟩
 have:=hR 0 d rfl
 rw[←e5,←e6] at this
 have this':w.rangeAt g (0+0*11) (sec d):=this
 simpa using this'
def gJ (w:World) (r n:Int) (cd:Int→Hd×List Pt) (ts:List Th) (fs:List Fe) (s:Sd) (e:Ending) (w':World):Prop:=∃ p m c,e=.returned (.tuple #[.slice p m c,.int .i64 (lkE r n cd ts fs [s])])∧w.grownBy w' none∧(lkE r n cd ts fs [s]≠0→m=0∧p=none∧c=0)∧∀ R d,r=0→bi n cd ts fs=some R→aN R [s] []=some [d]→aQ w' w.heap.size (.slice p m c) (dA R (aM R (aq R fs) d))
theorem ui (bv vt vf:Value) (r n:Int) (cd:Int→Hd×List Pt) (ts:List Th) (fs:List Fe) (s:Sd) (w:World) (I:LIn w bv vt vf r n cd ts fs):Calls Tryz.prog 73 #[bv,vt,vf,sdv s] w (gJ w r n cd ts fs s):=by
 obtain⟨pt,ct,rfl⟩:=I.things.form
 obtain⟨pf,cf,rfl⟩:=I.feats.form
 obtain⟨W2,hW2⟩:∃ W2,W2=(w.alloc (.cells #[.int .i64 s.th,.int .i64 s.pl,.int .u8 s.wh.wn,.int .u8 s.wh.vb,.int .u8 s.wh.wm,.int .i64 s.wh.ct,.int .u8 s.wh.su,.int .u8 s.wh.tr,.int .u8 s.wh.mr,.string s.wh.nm] 64)).alloc (.cells #[.int .i64 s.th,.int .i64 s.pl,.int .u8 s.wh.wn,.int .u8 s.wh.vb,.int .u8 s.wh.wm,.int .i64 s.wh.ct,.int .u8 s.wh.su,.int .u8 s.wh.tr,.int .u8 s.wh.mr,.string s.wh.nm] 64):=⟨_,rfl⟩
 have HG2:Hid (w.grownBy W2 none):=by rw[hW2];exact am (World.grownBy_alloc _ _ none) _
 have HLk:=gU bv _ _ (.slice (some ⟨w.heap.size+1,0,none⟩) 1 1) r n cd ts fs [s] W2 (I.keep HG2.out) (by rw[hW2];exact yH (aL _ _ _ _)) (by simp)
 unfold fR tbv at HLk
 have HI:Hid (LIn W2 bv (.slice pt ts.length ct) (.slice pf fs.length cf) r n cd ts fs):=I.keep HG2.out
 unfold sdv
 rw[hW2] at HLk
 have HW2:Hid (W2=(w.alloc (.cells #[.int .i64 s.th,.int .i64 s.pl,.int .u8 s.wh.wn,.int .u8 s.wh.vb,.int .u8 s.wh.wm,.int .i64 s.wh.ct,.int .u8 s.wh.su,.int .u8 s.wh.tr,.int .u8 s.wh.mr,.string s.wh.nm] 64)).alloc (.cells #[.int .i64 s.th,.int .i64 s.pl,.int .u8 s.wh.wn,.int .u8 s.wh.vb,.int .u8 s.wh.wm,.int .i64 s.wh.ct,.int .u8 s.wh.su,.int .u8 s.wh.tr,.int .u8 s.wh.mr,.string s.wh.nm] 64)):=hW2
 clear I hW2
 go_enter Tryz.func73,Tryz.ntmps73
 go_wp2_with fail
 refine HLk.mono ?_
 rw[←HW2.out]
 rintro e2 w2 ⟨p1,m1,c1,p2,m2,c2,p3,m3,c3,rfl,g2,h2⟩
 obtain⟨q,hq⟩:∃ q,q=lkE r n cd ts fs [s]:=⟨_,rfl⟩
 have Hq:Hid (q=lkE r n cd ts fs [s]):=hq
 rw[←hq]
 obtain⟨V,hV⟩:∃ V,V=w2.alloc (.cells #[.slice p1 m1 c1,.slice p2 m2 c2] 125):=⟨_,rfl⟩
 have HGV:Hid (W2.grownBy V none):=by rw[hV];exact am g2 _
 have HBt:Hid (TbB V w2.heap.size (.slice p1 m1 c1) (.slice p2 m2 c2)):=by rw[hV];exact ak _ _ _
 have H2:Hid (∀ R L,r=0→bi n cd ts fs=some R→aN R [s] []=some L→∃ X,rws X=R∧TbO V W2.heap.size (.slice p1 m1 c1) (.slice p2 m2 c2) X (aq R fs)∧(∀ x∈X,1≤x.r.nu∧x.r.nu≤(fs.length:Int))∧dB V W2.heap.size (.slice p3 m3 c3) L):=fun R L a b c=>by
  obtain⟨X,x1,x2,x3,x4⟩:=h2 R L a b c
  have g:=World.grownBy_alloc w2 (.cells #[.slice p1 m1 c1,.slice p2 m2 c2] 125) none
  exact⟨X,x1,by rw[hV];exact x2.grow g,x3,by rw[hV];exact ar x4 g⟩
 clear HLk HW2 g2 h2 hq
 go_upto_region 2 with fail
 rw[←hV]
 obtain⟨nb,hnb⟩:∃ nb,nb=w2.heap.size:=⟨_,rfl⟩
 rw[←hnb] at HBt ⊢
 clear hV hnb
 have HGw:Hid (w.grownBy V none):=aa HG2.out HGV.out
 by_cases hq0:q=0
 ·have e1:(q != 0)=false:=by simpa using hq0
  obtain⟨hr0,R,L,hR,hL⟩:=kP (Hq.out.symm.trans hq0)
  obtain⟨d,rfl⟩:=qt hL
  obtain⟨X,hX,hT,hnu,hS⟩:=H2.out R _ hr0 hR hL
  have hro:d.ro<X.length:=gO [s] [] [d] (fun e he=>by cases he) (by rw[hX];exact hL) d (by simp)
  obtain⟨hm3,g,rfl,hRg⟩:=pK hS
  obtain rfl:m3=1:=hm3
  have HRL:Hid (rws X=R∧bi n cd ts fs=some R∧aN R [s] []=some [d]∧lkE r n cd ts fs [s]=0):=⟨hX,hR,hL,Hq.out.symm.trans hq0⟩
  have HTV:Hid (dS V (.slice p1 m1 c1) (.slice p2 m2 c2) X (aq R fs)):=hT.at
  have C1:=io _ _ X (aq R fs) d V.drew (HTV.out.keep (ag _)) hro
  have C2:Hid (∀ Z,V.grownBy Z none→Calls Tryz.prog 150 #[.agg #[.slice p1 m1 c1,.slice p2 m2 c2],.agg (smc (aM (rws X) (aq R fs) d))] Z fun e' w'=>∃ v,e'=.returned v∧aQ w' Z.heap.size v (dA (rws X) (aM (rws X) (aq R fs) d))∧Z.grownBy w' none):=fun Z gz=>qd _ _ X (aq R fs) _ Z (HTV.out.keep gz) (by rw[fS,cm])
  unfold tbv sev smv at C1
  obtain⟨t0,t1⟩:=bH HBt.out
  obtain⟨s0,s1,s2,s3,s4,s5,s6,s7,s8,s9,s10⟩:=dJ hRg
  simp only[Nat.zero_add] at s1 s2 s3 s4 s5 s6 s7 s8 s9 s10
  have h01:(0:Int)<((1:Nat):Int):=by decide
  clear hq0 hr0 hR hL hX hT hnu hS hro hRg H2
  go_upto_region 4 with fail
  refine wp_region_held_drew (S:=fun w'=>V.grownBy w' none) (by kernel_rfl) (ag _) (fun hHeld=>?_)
  refine QT 0 rfl (by intro w0 hSw;have t0:=hSw.cell t0 (by simp);have t1:=hSw.cell t1 (by simp);go_simp;try with_reducible rfl) ?_
  go_frame
  refine QT 1 rfl (by intro w0 hSw;have t0:=hSw.cell t0 (by simp);have t1:=hSw.cell t1 (by simp);go_simp;try with_reducible rfl) ?_
  go_frame
  refine QZ 2 rfl ?_
  go_frame
  refine QZ 3 rfl ?_
  go_frame
  refine QT 4 rfl (by intro w0 hSw;have s0:=hSw.cell s0 (by simp);have s1:=hSw.cell s1 (by simp);have s2:=hSw.cell s2 (by simp);have s3:=hSw.cell s3 (by simp);have s4:=hSw.cell s4 (by simp);have s5:=hSw.cell s5 (by simp);have s6:=hSw.cell s6 (by simp);have s7:=hSw.cell s7 (by simp);have s8:=hSw.cell s8 (by simp);have s9:=hSw.cell s9 (by simp);have s10:=hSw.cell s10 (by simp);go_simp;try with_reducible rfl) ?_
  go_frame
  refine QR 5 rfl (fun K hK=>?_)
  go_simp
  go_at_call 145
  refine(C1).mono ?_
  rintro e3 w3 ⟨rfl,g3⟩
  have HG3:Hid (V.grownBy w3 none):=aa (ag _) g3
  clear g3 C1
  refine hK.out _ _ (HG3.out) (fun hHeld2=>?_)
  clear hK K
  (try go_frame)
  refine QR 6 rfl (fun K hK=>?_)
  go_simp
  go_at_call 150
  refine(C2.out _ HG3.out).mono ?_
  rintro e4 w4 ⟨v4,rfl,o4,g4⟩
  obtain⟨p4,c4,rfl⟩:=o4.form
  have HG4:Hid (V.grownBy w4 none):=aa HG3.out g4
  have HO4:Hid (aQ w4 V.heap.size (.slice p4 (dA (rws X) (aM (rws X) (aq R fs) d)).length c4) (dA (rws X) (aM (rws X) (aq R fs) d))):=aT o4 HG3.out.size
  clear g4 o4 C2
  refine hK.out _ _ (HG4.out) (fun hHeld2=>?_)
  clear hK K
  (try go_frame)
  refine QZ 7 rfl ?_
  go_frame
  refine QZ 8 rfl ?_
  go_frame
  refine QD ?_
  go_wp2_with fail
  go_ret2
  refine⟨_,_,_,by rw[HRL.out.2.2.2];rfl,aa HGw.out HG4.out,fun h=>absurd HRL.out.2.2.2 h,fun R' d' _ a b=>?_⟩
  rw[HRL.out.2.1] at a
  cases a
  rw[HRL.out.2.2.1] at b
  cases b
  have o:=aT HO4.out HGw.out.size
  rw[HRL.out.1] at o ⊢
  exact o
 ·have e1:(q != 0)=true:=by simpa using hq0
  have Hq0:Hid (q≠0):=hq0
  clear hq0
  go_wp2_with fail
  go_ret2
  exact⟨none,0,0,by rw[←Hq.out];rfl,HGw.out,fun _=>⟨rfl,rfl,rfl⟩,fun R d a b c=>absurd (by rw[Hq.out,a];exact eE b c) Hq0.out⟩
def gK (w:World) (r n:Int) (cd:Int→Hd×List Pt) (ts:List Th) (fs:List Fe) (s:Sd) (e:Ending) (w':World):Prop:=∃ p m c,e=.returned (.tuple #[.slice p m c,.int .i64 (lkE r n cd ts fs [s])])∧w.grownBy w' none∧(lkE r n cd ts fs [s]≠0→m=0∧p=none∧c=0)∧∀ R d,r=0→bi n cd ts fs=some R→aN R [s] []=some [d]→dt w' w.heap.size (.slice p m c) (cJ fs R (aP R (aq R fs) d))
theorem tR (bv vt vf:Value) (r n:Int) (cd:Int→Hd×List Pt) (ts:List Th) (fs:List Fe) (s:Sd) (w:World) (I:LIn w bv vt vf r n cd ts fs):Calls Tryz.prog 75 #[bv,vt,vf,sdv s] w (gK w r n cd ts fs s):=by
 obtain⟨pt,ct,rfl⟩:=I.things.form
 obtain⟨pf,cf,rfl⟩:=I.feats.form
 obtain⟨W2,hW2⟩:∃ W2,W2=(w.alloc (.cells #[.int .i64 s.th,.int .i64 s.pl,.int .u8 s.wh.wn,.int .u8 s.wh.vb,.int .u8 s.wh.wm,.int .i64 s.wh.ct,.int .u8 s.wh.su,.int .u8 s.wh.tr,.int .u8 s.wh.mr,.string s.wh.nm] 64)).alloc (.cells #[.int .i64 s.th,.int .i64 s.pl,.int .u8 s.wh.wn,.int .u8 s.wh.vb,.int .u8 s.wh.wm,.int .i64 s.wh.ct,.int .u8 s.wh.su,.int .u8 s.wh.tr,.int .u8 s.wh.mr,.string s.wh.nm] 64):=⟨_,rfl⟩
 have HG2:Hid (w.grownBy W2 none):=by rw[hW2];exact am (World.grownBy_alloc _ _ none) _
 have HLk:=gU bv _ _ (.slice (some ⟨w.heap.size+1,0,none⟩) 1 1) r n cd ts fs [s] W2 (I.keep HG2.out) (by rw[hW2];exact yH (aL _ _ _ _)) (by simp)
 unfold fR tbv at HLk
 have HI:Hid (LIn W2 bv (.slice pt ts.length ct) (.slice pf fs.length cf) r n cd ts fs):=I.keep HG2.out
 unfold sdv
 rw[hW2] at HLk
 have HW2:Hid (W2=(w.alloc (.cells #[.int .i64 s.th,.int .i64 s.pl,.int .u8 s.wh.wn,.int .u8 s.wh.vb,.int .u8 s.wh.wm,.int .i64 s.wh.ct,.int .u8 s.wh.su,.int .u8 s.wh.tr,.int .u8 s.wh.mr,.string s.wh.nm] 64)).alloc (.cells #[.int .i64 s.th,.int .i64 s.pl,.int .u8 s.wh.wn,.int .u8 s.wh.vb,.int .u8 s.wh.wm,.int .i64 s.wh.ct,.int .u8 s.wh.su,.int .u8 s.wh.tr,.int .u8 s.wh.mr,.string s.wh.nm] 64)):=hW2
 clear I hW2
 go_enter Tryz.func75,Tryz.ntmps75
 go_wp2_with fail
 refine HLk.mono ?_
 rw[←HW2.out]
 rintro e2 w2 ⟨p1,m1,c1,p2,m2,c2,p3,m3,c3,rfl,g2,h2⟩
 obtain⟨q,hq⟩:∃ q,q=lkE r n cd ts fs [s]:=⟨_,rfl⟩
 have Hq:Hid (q=lkE r n cd ts fs [s]):=hq
 rw[←hq]
 obtain⟨V,hV⟩:∃ V,V=w2.alloc (.cells #[.slice p1 m1 c1,.slice p2 m2 c2] 125):=⟨_,rfl⟩
 have HGV:Hid (W2.grownBy V none):=by rw[hV];exact am g2 _
 have HBt:Hid (TbB V w2.heap.size (.slice p1 m1 c1) (.slice p2 m2 c2)):=by rw[hV];exact ak _ _ _
 have H2:Hid (∀ R L,r=0→bi n cd ts fs=some R→aN R [s] []=some L→∃ X,rws X=R∧TbO V W2.heap.size (.slice p1 m1 c1) (.slice p2 m2 c2) X (aq R fs)∧(∀ x∈X,1≤x.r.nu∧x.r.nu≤(fs.length:Int))∧dB V W2.heap.size (.slice p3 m3 c3) L):=fun R L a b c=>by
  obtain⟨X,x1,x2,x3,x4⟩:=h2 R L a b c
  have g:=World.grownBy_alloc w2 (.cells #[.slice p1 m1 c1,.slice p2 m2 c2] 125) none
  exact⟨X,x1,by rw[hV];exact x2.grow g,x3,by rw[hV];exact ar x4 g⟩
 clear HLk HW2 g2 h2 hq
 go_upto_region 2 with fail
 rw[←hV]
 obtain⟨nb,hnb⟩:∃ nb,nb=w2.heap.size:=⟨_,rfl⟩
 rw[←hnb] at HBt ⊢
 clear hV hnb
 have HGw:Hid (w.grownBy V none):=aa HG2.out HGV.out
 by_cases hq0:q=0
 ·have e1:(q != 0)=false:=by simpa using hq0
  obtain⟨hr0,R,L,hR,hL⟩:=kP (Hq.out.symm.trans hq0)
  obtain⟨d,rfl⟩:=qt hL
  obtain⟨X,hX,hT,hnu,hS⟩:=H2.out R _ hr0 hR hL
  have hro:d.ro<X.length:=gO [s] [] [d] (fun e he=>by cases he) (by rw[hX];exact hL) d (by simp)
  obtain⟨hm3,g,rfl,hRg⟩:=pK hS
  obtain rfl:m3=1:=hm3
  have HRL:Hid (rws X=R∧bi n cd ts fs=some R∧aN R [s] []=some [d]∧lkE r n cd ts fs [s]=0):=⟨hX,hR,hL,Hq.out.symm.trans hq0⟩
  have HTV:Hid (dS V (.slice p1 m1 c1) (.slice p2 m2 c2) X (aq R fs)):=hT.at
  have Hnu:Hid (∀ x∈X,1≤x.r.nu∧x.r.nu≤(fs.length:Int)):=hnu
  have C1:=jD _ _ X (aq R fs) d V.drew (HTV.out.keep (ag _)) hro
  unfold tbv sev at C1
  obtain⟨t0,t1⟩:=bH HBt.out
  obtain⟨s0,s1,s2,s3,s4,s5,s6,s7,s8,s9,s10⟩:=dJ hRg
  simp only[Nat.zero_add] at s1 s2 s3 s4 s5 s6 s7 s8 s9 s10
  have h01:(0:Int)<((1:Nat):Int):=by decide
  clear hq0 hr0 hR hL hX hT hnu hS hro hRg H2
  go_upto_region 4 with fail
  refine wp_region_held_drew (S:=fun w'=>V.grownBy w' none) (by kernel_rfl) (ag _) (fun hHeld=>?_)
  refine QT 0 rfl (by intro w0 hSw;have t0:=hSw.cell t0 (by simp);have t1:=hSw.cell t1 (by simp);go_simp;try with_reducible rfl) ?_
  go_frame
  refine QZ 1 rfl ?_
  go_frame
  refine QZ 2 rfl ?_
  go_frame
  refine QT 3 rfl (by intro w0 hSw;have s0:=hSw.cell s0 (by simp);have s1:=hSw.cell s1 (by simp);have s2:=hSw.cell s2 (by simp);have s3:=hSw.cell s3 (by simp);have s4:=hSw.cell s4 (by simp);have s5:=hSw.cell s5 (by simp);have s6:=hSw.cell s6 (by simp);have s7:=hSw.cell s7 (by simp);have s8:=hSw.cell s8 (by simp);have s9:=hSw.cell s9 (by simp);have s10:=hSw.cell s10 (by simp);go_simp;try with_reducible rfl) ?_
  go_frame
  refine QZ 5 rfl ?_
  go_frame
  refine QR 4 rfl (fun K hK=>?_)
  go_simp
  go_at_call 69
  refine(C1).mono ?_
  rintro e3 w3 ⟨v3,rfl,o3,g3⟩
  obtain⟨p4,c4,rfl⟩:=o3.form
  have HG3:Hid (V.grownBy w3 none):=aa (ag _) g3
  have C2:=nl _ _ _ X _ fs w3 (HTV.out.applied HG3.out d o3) (HI.out.feats.keep (aa HGV.out HG3.out)) (fun i hi=>yv Hnu.out hi) (HI.out.few (kP HRL.out.2.2.2).1 (kP HRL.out.2.2.2).2.choose_spec.choose_spec.1)
  unfold tbv at C2
  clear g3 C1
  refine hK.out _ _ (HG3.out) (fun hHeld2=>?_)
  clear hK K
  (try go_frame)
  refine QR 6 rfl (fun K hK=>?_)
  go_simp
  go_at_call 71
  refine(C2).mono ?_
  rintro e4 w4 ⟨v4,rfl,o4,g4⟩
  obtain⟨p5,c5,rfl⟩:=o4.form
  have HG4:Hid (V.grownBy w4 none):=aa HG3.out g4
  have HO4:Hid (dt w4 V.heap.size (.slice p5 (cJ fs (rws X) (aP (rws X) (aq R fs) d)).length c5) (cJ fs (rws X) (aP (rws X) (aq R fs) d))):=aT o4 HG3.out.size
  clear g4 o4 C2 o3
  refine hK.out _ _ (HG4.out) (fun hHeld2=>?_)
  clear hK K
  (try go_frame)
  refine QZ 7 rfl ?_
  go_frame
  refine QZ 8 rfl ?_
  go_frame
  refine QD ?_
  go_wp2_with fail
  go_ret2
  refine⟨_,_,_,by rw[HRL.out.2.2.2];rfl,aa HGw.out HG4.out,fun h=>absurd HRL.out.2.2.2 h,fun R' d' _ a b=>?_⟩
  rw[HRL.out.2.1] at a
  cases a
  rw[HRL.out.2.2.1] at b
  cases b
  have o:=aT HO4.out HGw.out.size
  rw[HRL.out.1] at o ⊢
  exact o
 ·have e1:(q != 0)=true:=by simpa using hq0
  have Hq0:Hid (q≠0):=hq0
  clear hq0
  go_wp2_with fail
  go_ret2
  exact⟨none,0,0,by rw[←Hq.out];rfl,HGw.out,fun _=>⟨rfl,rfl,rfl⟩,fun R d a b c=>absurd (by rw[Hq.out,a];exact eE b c) Hq0.out⟩
theorem yM {W:World} {n:Nat} {s o:Sd} (h:W.heap[n]?=some (.cells #[.int .i64 s.th,.int .i64 s.pl,.int .u8 s.wh.wn,.int .u8 s.wh.vb,.int .u8 s.wh.wm,.int .i64 s.wh.ct,.int .u8 s.wh.su,.int .u8 s.wh.tr,.int .u8 s.wh.mr,.string s.wh.nm,.int .i64 o.th,.int .i64 o.pl,.int .u8 o.wh.wn,.int .u8 o.wh.vb,.int .u8 o.wh.wm,.int .i64 o.wh.ct,.int .u8 o.wh.su,.int .u8 o.wh.tr,.int .u8 o.wh.mr,.string o.wh.nm] 64 (0,0))):sdR.At W (.slice (some ⟨n,0,none⟩) 2 2) [s,o]:=⟨some ⟨n,0,none⟩,2,rfl,(show 2≤maxLen by unfold maxLen;decide),fun _=>⟨n,0,rfl,fun j x hj i v hv=>by
 have hi:i<10:=by have:=(List.getElem?_eq_some_iff.1 hv).1;rwa [sdR.hk] at this
 have hj0:j=0∨j=1:=by have:=(List.getElem?_eq_some_iff.1 hj).1;simp at this;omega
 have key:(sdc s++sdc o)[j*10+i]?=some v:=by
  have:=sdR.at' hj i hi
  have e:sdR.cs [s,o]=sdc s++sdc o:=by show sdc s++(sdc o++[])=_;rw[List.append_nil]
  rw[e] at this
  have e2:(sdc s++sdc o)[j*10+i]?=(sdR.enc x)[i]?:=this
  rw[e2]
  exact hv
 have hb:=ae h (j*10+i)
 show W.cell? ⟨n,0+j*10+i,none⟩=_
 rw[show 0+j*10+i=j*10+i from by omega,hb]
 show (sdc s++sdc o).toArray[j*10+i]?=_
 simpa using key⟩⟩
theorem As {w:World} {base:Nat} {p:Option Addr} {m c:Nat} {d1 d2:Se} (h:dB w base (.slice p m c) [d1,d2]):m=2∧∃ g,p=some ⟨g,0,none⟩∧w.rangeAt g 0 (sec d1)∧w.rangeAt g 11 (sec d2):=by
 obtain⟨hm,g,hp,h1⟩:=pK h
 refine⟨hm,g,hp,h1,?_⟩
 obtain⟨q,cap,e,_,hA⟩:=aB.Own.at h
 obtain⟨g',off,e5,hR⟩:=hA (Nat.succ_pos _)
 injection e with e1 e3 e4
 rw[←e1,hp] at e5
 injection e5 with e5
 injection e5 with e5 e6 e7
 have:=hR 1 d2 rfl
 rw[←e5,←e6] at this
 have this':w.rangeAt g (0+1*11) (sec d2):=this
 simpa using this'
def gi (w:World) (r n:Int) (cd:Int→Hd×List Pt) (ts:List Th) (fs:List Fe) (s o:Sd) (e:Ending) (w':World):Prop:=∃ b,e=.returned (.tuple #[.bool b,.int .i64 (lkE r n cd ts fs [s,o])])∧w.grownBy w' none∧(lkE r n cd ts fs [s,o]≠0→b=false)∧∀ R d1 d2,r=0→bi n cd ts fs=some R→aN R [s,o] []=some [d1,d2]→b=eX R (aq R fs) d1 d2
theorem qD (bv vt vf:Value) (r n:Int) (cd:Int→Hd×List Pt) (ts:List Th) (fs:List Fe) (s o:Sd) (w:World) (I:LIn w bv vt vf r n cd ts fs):Calls Tryz.prog 77 #[bv,vt,vf,sdv s,sdv o] w (gi w r n cd ts fs s o):=by
 obtain⟨pt,ct,rfl⟩:=I.things.form
 obtain⟨pf,cf,rfl⟩:=I.feats.form
 obtain⟨W2,hW2⟩:∃ W2,W2=((w.alloc (.cells #[.int .i64 s.th,.int .i64 s.pl,.int .u8 s.wh.wn,.int .u8 s.wh.vb,.int .u8 s.wh.wm,.int .i64 s.wh.ct,.int .u8 s.wh.su,.int .u8 s.wh.tr,.int .u8 s.wh.mr,.string s.wh.nm] 64)).alloc (.cells #[.int .i64 o.th,.int .i64 o.pl,.int .u8 o.wh.wn,.int .u8 o.wh.vb,.int .u8 o.wh.wm,.int .i64 o.wh.ct,.int .u8 o.wh.su,.int .u8 o.wh.tr,.int .u8 o.wh.mr,.string o.wh.nm] 64)).alloc (.cells #[.int .i64 s.th,.int .i64 s.pl,.int .u8 s.wh.wn,.int .u8 s.wh.vb,.int .u8 s.wh.wm,.int .i64 s.wh.ct,.int .u8 s.wh.su,.int .u8 s.wh.tr,.int .u8 s.wh.mr,.string s.wh.nm,.int .i64 o.th,.int .i64 o.pl,.int .u8 o.wh.wn,.int .u8 o.wh.vb,.int .u8 o.wh.wm,.int .i64 o.wh.ct,.int .u8 o.wh.su,.int .u8 o.wh.tr,.int .u8 o.wh.mr,.string o.wh.nm] 64):=⟨_,rfl⟩
 have HG2:Hid (w.grownBy W2 none):=by rw[hW2];exact am (am (World.grownBy_alloc _ _ none) _) _
 have HLk:=gU bv _ _ (.slice (some ⟨w.heap.size+1+1,0,none⟩) 2 2) r n cd ts fs [s,o] W2 (I.keep HG2.out) (by rw[hW2];exact yM (bK _ _ _ _ _)) (by simp)
 unfold fR tbv at HLk
 have HI:Hid (LIn W2 bv (.slice pt ts.length ct) (.slice pf fs.length cf) r n cd ts fs):=I.keep HG2.out
 unfold sdv
 rw[hW2] at HLk
 have HW2:Hid (W2=((w.alloc (.cells #[.int .i64 s.th,.int .i64 s.pl,.int .u8 s.wh.wn,.int .u8 s.wh.vb,.int .u8 s.wh.wm,.int .i64 s.wh.ct,.int .u8 s.wh.su,.int .u8 s.wh.tr,.int .u8 s.wh.mr,.string s.wh.nm] 64)).alloc (.cells #[.int .i64 o.th,.int .i64 o.pl,.int .u8 o.wh.wn,.int .u8 o.wh.vb,.int .u8 o.wh.wm,.int .i64 o.wh.ct,.int .u8 o.wh.su,.int .u8 o.wh.tr,.int .u8 o.wh.mr,.string o.wh.nm] 64)).alloc (.cells #[.int .i64 s.th,.int .i64 s.pl,.int .u8 s.wh.wn,.int .u8 s.wh.vb,.int .u8 s.wh.wm,.int .i64 s.wh.ct,.int .u8 s.wh.su,.int .u8 s.wh.tr,.int .u8 s.wh.mr,.string s.wh.nm,.int .i64 o.th,.int .i64 o.pl,.int .u8 o.wh.wn,.int .u8 o.wh.vb,.int .u8 o.wh.wm,.int .i64 o.wh.ct,.int .u8 o.wh.su,.int .u8 o.wh.tr,.int .u8 o.wh.mr,.string o.wh.nm] 64)):=hW2
 clear I hW2
 go_enter Tryz.func77,Tryz.ntmps77
 go_wp2_with fail
 refine HLk.mono ?_
 rw[←HW2.out]
 rintro e2 w2 ⟨p1,m1,c1,p2,m2,c2,p3,m3,c3,rfl,g2,h2⟩
 obtain⟨q,hq⟩:∃ q,q=lkE r n cd ts fs [s,o]:=⟨_,rfl⟩
 have Hq:Hid (q=lkE r n cd ts fs [s,o]):=hq
 rw[←hq]
 obtain⟨V,hV⟩:∃ V,V=w2.alloc (.cells #[.slice p1 m1 c1,.slice p2 m2 c2] 125):=⟨_,rfl⟩
 have HGV:Hid (W2.grownBy V none):=by rw[hV];exact am g2 _
 have HBt:Hid (TbB V w2.heap.size (.slice p1 m1 c1) (.slice p2 m2 c2)):=by rw[hV];exact ak _ _ _
 have H2:Hid (∀ R L,r=0→bi n cd ts fs=some R→aN R [s,o] []=some L→∃ X,rws X=R∧TbO V W2.heap.size (.slice p1 m1 c1) (.slice p2 m2 c2) X (aq R fs)∧(∀ x∈X,1≤x.r.nu∧x.r.nu≤(fs.length:Int))∧dB V W2.heap.size (.slice p3 m3 c3) L):=fun R L a b c=>by
  obtain⟨X,x1,x2,x3,x4⟩:=h2 R L a b c
  have g:=World.grownBy_alloc w2 (.cells #[.slice p1 m1 c1,.slice p2 m2 c2] 125) none
  exact⟨X,x1,by rw[hV];exact x2.grow g,x3,by rw[hV];exact ar x4 g⟩
 clear HLk HW2 g2 h2 hq
 go_upto_region 2 with fail
 rw[←hV]
 obtain⟨nb,hnb⟩:∃ nb,nb=w2.heap.size:=⟨_,rfl⟩
 rw[←hnb] at HBt ⊢
 clear hV hnb
 have HGw:Hid (w.grownBy V none):=aa HG2.out HGV.out
 by_cases hq0:q=0
 ·have e1:(q != 0)=false:=by simpa using hq0
  obtain⟨hr0,R,L,hR,hL⟩:=kP (Hq.out.symm.trans hq0)
  obtain⟨d1,d2,rfl⟩:=tx hL
  obtain⟨X,hX,hT,hnu,hS⟩:=H2.out R _ hr0 hR hL
  have hro1:d1.ro<X.length:=gO [s,o] [] [d1,d2] (fun e he=>by cases he) (by rw[hX];exact hL) d1 (by simp)
  have hro2:d2.ro<X.length:=gO [s,o] [] [d1,d2] (fun e he=>by cases he) (by rw[hX];exact hL) d2 (by simp)
  obtain⟨hm3,g,rfl,hRg,hRh⟩:=As hS
  obtain rfl:m3=2:=hm3
  have HRL:Hid (rws X=R∧bi n cd ts fs=some R∧aN R [s,o] []=some [d1,d2]∧lkE r n cd ts fs [s,o]=0):=⟨hX,hR,hL,Hq.out.symm.trans hq0⟩
  have HTV:Hid (dS V (.slice p1 m1 c1) (.slice p2 m2 c2) X (aq R fs)):=hT.at
  have C1:=jW _ _ X (aq R fs) d1 d2 V.drew (HTV.out.keep (ag _)) hro1 hro2
  unfold tbv sev at C1
  obtain⟨b,hb⟩:∃ b,b=eX (rws X) (aq R fs) d1 d2:=⟨_,rfl⟩
  have Hb:Hid (b=eX (rws X) (aq R fs) d1 d2):=hb
  rw[←hb] at C1
  obtain⟨t0,t1⟩:=bH HBt.out
  obtain⟨s0,s1,s2,s3,s4,s5,s6,s7,s8,s9,s10⟩:=dJ hRg
  obtain⟨o0,o1,o2,o3,o4,o5,o6,o7,o8,o9,o10⟩:=dJ hRh
  simp only[Nat.zero_add] at s1 s2 s3 s4 s5 s6 s7 s8 s9 s10
  simp only[Nat.reduceAdd] at o1 o2 o3 o4 o5 o6 o7 o8 o9 o10
  have h01:(0:Int)<((2:Nat):Int):=by decide
  have h02:(1:Int)<((2:Nat):Int):=by decide
  clear hq0 hr0 hR hL hX hT hnu hS hro1 hro2 hRg hRh H2 hb
  go_upto_region 4 with fail
  refine wp_region_held_drew (S:=fun w'=>V.grownBy w' none) (by kernel_rfl) (ag _) (fun hHeld=>?_)
  refine QT 0 rfl (by intro w0 hSw;have t0:=hSw.cell t0 (by simp);have t1:=hSw.cell t1 (by simp);go_simp;try with_reducible rfl) ?_
  go_frame
  refine QZ 1 rfl ?_
  go_frame
  refine QZ 2 rfl ?_
  go_frame
  refine QT 3 rfl (by intro w0 hSw;have s0:=hSw.cell s0 (by simp);have s1:=hSw.cell s1 (by simp);have s2:=hSw.cell s2 (by simp);have s3:=hSw.cell s3 (by simp);have s4:=hSw.cell s4 (by simp);have s5:=hSw.cell s5 (by simp);have s6:=hSw.cell s6 (by simp);have s7:=hSw.cell s7 (by simp);have s8:=hSw.cell s8 (by simp);have s9:=hSw.cell s9 (by simp);have s10:=hSw.cell s10 (by simp);go_simp;try with_reducible rfl) ?_
  go_frame
  refine QZ 4 rfl ?_
  go_frame
  refine QZ 5 rfl ?_
  go_frame
  refine QT 6 rfl (by intro w0 hSw;have o0:=hSw.cell o0 (by simp);have o1:=hSw.cell o1 (by simp);have o2:=hSw.cell o2 (by simp);have o3:=hSw.cell o3 (by simp);have o4:=hSw.cell o4 (by simp);have o5:=hSw.cell o5 (by simp);have o6:=hSw.cell o6 (by simp);have o7:=hSw.cell o7 (by simp);have o8:=hSw.cell o8 (by simp);have o9:=hSw.cell o9 (by simp);have o10:=hSw.cell o10 (by simp);go_simp;try with_reducible rfl) ?_
  go_frame
  refine QR 7 rfl (fun K hK=>?_)
  go_simp
  go_at_call 136
  refine(C1).mono ?_
  rintro e3 w3 ⟨rfl,g3⟩
  have HG3:Hid (V.grownBy w3 none):=aa (ag _) g3
  clear g3 C1
  refine hK.out _ _ (HG3.out) (fun hHeld2=>?_)
  clear hK K
  (try go_frame)
  refine QZ 8 rfl ?_
  go_frame
  refine QZ 9 rfl ?_
  go_frame
  refine QD ?_
  go_wp2_with fail
  go_ret2
  refine⟨b,by rw[HRL.out.2.2.2];rfl,aa HGw.out HG3.out,fun h=>absurd HRL.out.2.2.2 h,fun R' d1' d2' _ a c=>?_⟩
  rw[HRL.out.2.1] at a
  cases a
  rw[HRL.out.2.2.1] at c
  cases c
  rw[Hb.out,HRL.out.1]
 ·have e1:(q != 0)=true:=by simpa using hq0
  have Hq0:Hid (q≠0):=hq0
  clear hq0
  go_wp2_with fail
  go_ret2
  exact⟨false,by rw[←Hq.out];rfl,HGw.out,fun _=>rfl,fun R d1 d2 a b c=>absurd (by rw[Hq.out,a];exact eE b c) Hq0.out⟩
end Go.Proofs.YtjmepebbcnhalaaGreat
