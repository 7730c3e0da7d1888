/-
  
-/
import Derived.Test.YtjmepebbcnhalaaGreatW0
import Derived.Test.YtjmepebbcnhalaaGreatWLyQ
import Derived.Shelf.SlicesQ.IndexFunc
namespace Go.Proofs.YtjmepebbcnhalaaGreat
set_option maxRecDepth 100000
set_option maxHeartbeats 4000000
open Go.RowKit Go.Shelf

theorem xu {ps:List Pt} {s:Sd} (h:s.pl<0):cQ ps s=false:=by unfold cQ;rw[decide_eq_false (show ¬0≤s.pl by omega)];rfl
theorem td {ps:List Pt} {s:Sd} (h:(ps.length:Int)≤s.pl):cQ ps s=false:=by unfold cQ;rw[decide_eq_false (show ¬s.pl<(ps.length:Int) by omega)];simp
theorem ry {ps:List Pt} {s:Sd} {m:Nat} (e:s.pl=(m:Int)) (h:m<ps.length):cQ ps s=(decide (s.wh.wn=5) && bN (ps.getD m Pt.none) s.wh):=by
 unfold cQ
 rw[e,decide_eq_true (by omega),decide_eq_true (by omega)]
 rfl
theorem lm (h:Hd) (u:Value) (ps:List Pt) (s:Sd) (w:World) (P:bY w u ps) (hl:s.pl<0):Calls Tryz.prog 256 #[cv h u,sdv s] w fun e w'=>e=.returned (.bool (cQ ps s))∧w.grownBy w' none:=by
 obtain⟨a,k,rfl⟩:=P.form
 obtain⟨W1,hW1⟩:∃ W1,W1=(w.alloc (.cells #[.string h.nm,.int .u8 h.su,.int .u8 h.kd,.int .i64 h.co,.int .i64 h.po,.int .i64 h.he,.int .u16 h.tr,.bool h.tk,.slice a ps.length k] 111)).alloc (.cells #[.int .i64 s.th,.int .i64 s.pl,.int .u8 s.wh.wn,.int .u8 s.wh.vb,.int .u8 s.wh.wm,.int .i64 s.wh.ct,.int .u8 s.wh.su,.int .u8 s.wh.tr,.int .u8 s.wh.mr,.string s.wh.nm] 64):=⟨_,rfl⟩
 have HG1:Hid (w.grownBy W1 none):=by rw[hW1];exact am (World.grownBy_alloc _ _ none) _
 have HC:Hid (W1.heap[w.heap.size]?=some (.cells #[.string h.nm,.int .u8 h.su,.int .u8 h.kd,.int .i64 h.co,.int .i64 h.po,.int .i64 h.he,.int .u16 h.tr,.bool h.tk,.slice a ps.length k] 111 (0,0))):=by rw[hW1];exact ai (World.grownBy_alloc _ _ none) (ak w _ _) (by simp)
 have HS:Hid (SdB W1 (w.heap.size+1) s):=by rw[hW1];exact aL _ _ _ _
 have HP:Hid (bY W1 (.slice a ps.length k) ps):=P.keep HG1.out
 have HE:Hid (cQ ps s=false):=xu hl
 unfold cv sdv
 clear P
 go_enter Tryz.func256,Tryz.ntmps256
 go_upto_region 1 with fail
 rw[←hW1]
 clear hW1
 obtain⟨n0,h0⟩:∃ n0,n0=w.heap.size:=⟨_,rfl⟩
 simp only[←h0] at HC HS ⊢
 obtain⟨n1,h1⟩:∃ n1,n1=n0+1:=⟨_,rfl⟩
 simp only[←h1] at HS ⊢
 clear h0 h1
 obtain⟨s0,s1,s2,s3,s4,s5,s6,s7,s8,s9⟩:=bl HS.out
 have d8:=(ae HC.out 8).trans (show _=some (.slice a ps.length k) from rfl)
 go_wp2
 go_ret
 exact⟨ch HE.out.symm,HG1.out⟩
theorem kJ (h:Hd) (u:Value) (ps:List Pt) (s:Sd) (w:World) (P:bY w u ps) (hl:0≤s.pl) (hh:(ps.length:Int)≤s.pl):Calls Tryz.prog 256 #[cv h u,sdv s] w fun e w'=>e=.returned (.bool (cQ ps s))∧w.grownBy w' none:=by
 obtain⟨a,k,rfl⟩:=P.form
 obtain⟨W1,hW1⟩:∃ W1,W1=(w.alloc (.cells #[.string h.nm,.int .u8 h.su,.int .u8 h.kd,.int .i64 h.co,.int .i64 h.po,.int .i64 h.he,.int .u16 h.tr,.bool h.tk,.slice a ps.length k] 111)).alloc (.cells #[.int .i64 s.th,.int .i64 s.pl,.int .u8 s.wh.wn,.int .u8 s.wh.vb,.int .u8 s.wh.wm,.int .i64 s.wh.ct,.int .u8 s.wh.su,.int .u8 s.wh.tr,.int .u8 s.wh.mr,.string s.wh.nm] 64):=⟨_,rfl⟩
 have HG1:Hid (w.grownBy W1 none):=by rw[hW1];exact am (World.grownBy_alloc _ _ none) _
 have HC:Hid (W1.heap[w.heap.size]?=some (.cells #[.string h.nm,.int .u8 h.su,.int .u8 h.kd,.int .i64 h.co,.int .i64 h.po,.int .i64 h.he,.int .u16 h.tr,.bool h.tk,.slice a ps.length k] 111 (0,0))):=by rw[hW1];exact ai (World.grownBy_alloc _ _ none) (ak w _ _) (by simp)
 have HS:Hid (SdB W1 (w.heap.size+1) s):=by rw[hW1];exact aL _ _ _ _
 have HP:Hid (bY W1 (.slice a ps.length k) ps):=P.keep HG1.out
 have HE:Hid (cQ ps s=false):=td hh
 have e1:decide (s.pl<0)=false:=decide_eq_false (by omega)
 unfold cv sdv
 clear P
 go_enter Tryz.func256,Tryz.ntmps256
 go_upto_region 1 with fail
 rw[←hW1]
 clear hW1
 obtain⟨n0,h0⟩:∃ n0,n0=w.heap.size:=⟨_,rfl⟩
 simp only[←h0] at HC HS ⊢
 obtain⟨n1,h1⟩:∃ n1,n1=n0+1:=⟨_,rfl⟩
 simp only[←h1] at HS ⊢
 clear h0 h1
 obtain⟨s0,s1,s2,s3,s4,s5,s6,s7,s8,s9⟩:=bl HS.out
 have d8:=(ae HC.out 8).trans (show _=some (.slice a ps.length k) from rfl)
 go_wp2
 go_ret
 exact⟨ch HE.out.symm,HG1.out⟩
theorem mf (h:Hd) (u:Value) (ps:List Pt) (s:Sd) (w:World) (P:bY w u ps) (m:Nat) (he:s.pl=(m:Int)) (hm:m<ps.length) (hwn:¬s.wh.wn=5):Calls Tryz.prog 256 #[cv h u,sdv s] w fun e w'=>e=.returned (.bool (cQ ps s))∧w.grownBy w' none:=by
 obtain⟨a,k,rfl⟩:=P.form
 obtain⟨W1,hW1⟩:∃ W1,W1=(w.alloc (.cells #[.string h.nm,.int .u8 h.su,.int .u8 h.kd,.int .i64 h.co,.int .i64 h.po,.int .i64 h.he,.int .u16 h.tr,.bool h.tk,.slice a ps.length k] 111)).alloc (.cells #[.int .i64 s.th,.int .i64 s.pl,.int .u8 s.wh.wn,.int .u8 s.wh.vb,.int .u8 s.wh.wm,.int .i64 s.wh.ct,.int .u8 s.wh.su,.int .u8 s.wh.tr,.int .u8 s.wh.mr,.string s.wh.nm] 64):=⟨_,rfl⟩
 have HG1:Hid (w.grownBy W1 none):=by rw[hW1];exact am (World.grownBy_alloc _ _ none) _
 have HC:Hid (W1.heap[w.heap.size]?=some (.cells #[.string h.nm,.int .u8 h.su,.int .u8 h.kd,.int .i64 h.co,.int .i64 h.po,.int .i64 h.he,.int .u16 h.tr,.bool h.tk,.slice a ps.length k] 111 (0,0))):=by rw[hW1];exact ai (World.grownBy_alloc _ _ none) (ak w _ _) (by simp)
 have HS:Hid (SdB W1 (w.heap.size+1) s):=by rw[hW1];exact aL _ _ _ _
 have HP:Hid (bY W1 (.slice a ps.length k) ps):=P.keep HG1.out
 obtain⟨g,off,cap,e2,hP⟩:=HP.out.part (Nat.lt_of_le_of_lt (Nat.zero_le _) hm)
 injection e2 with e2 _ e3
 subst e2
 subst e3
 have HP8:Hid (P8 W1 g (off+m*8) (ps.getD m Pt.none)):=hP m _ (pV hm)
 have HE:Hid (cQ ps s=(decide (s.wh.wn=5) && bN (ps.getD m Pt.none) s.wh)):=ry he hm
 obtain⟨p,hp⟩:∃ p,p=ps.getD m Pt.none:=⟨_,rfl⟩
 rw[←hp] at HP8 HE
 have Hpl:Hid (s.pl=(m:Int)):=he
 have hm':(m:Int)<ps.length:=Int.ofNat_lt.2 hm
 have hm2:decide ((ps.length:Int)≤(m:Int))=false:=decide_eq_false (by omega)
 have Hwn:Hid (¬s.wh.wn=5):=hwn
 clear hP hp hwn he hm
 unfold cv sdv
 clear P
 go_enter Tryz.func256,Tryz.ntmps256
 go_upto_region 1 with fail
 rw[←hW1]
 clear hW1
 obtain⟨n0,h0⟩:∃ n0,n0=w.heap.size:=⟨_,rfl⟩
 simp only[←h0] at HC HS ⊢
 obtain⟨n1,h1⟩:∃ n1,n1=n0+1:=⟨_,rfl⟩
 simp only[←h1] at HS ⊢
 clear h0 h1
 obtain⟨s0,s1,s2,s3,s4,s5,s6,s7,s8,s9⟩:=bl HS.out
 have d8:=(ae HC.out 8).trans (show _=some (.slice (some ⟨g,off,none⟩) ps.length k) from rfl)
 rw[Hpl.out] at s1
 have m0:¬(m:Int)<0:=by omega
 go_upto_region 3 with fail
 have e5:(s.wh.wn == 5)=false:=by simpa using Hwn.out
 refine wp_region_held_drew (S:=fun w'=>W1.grownBy w' none) (by kernel_rfl) (ag _) (fun hHeld=>?_)
 refine QZ 0 rfl ?_
 go_frame
 refine QZ 1 rfl ?_
 go_frame
 refine QT 2 rfl (by intro w0 hSw;have s2:=hSw.cell s2 (by simp);go_simp;try with_reducible rfl) ?_
 go_frame
 refine QZ 3 rfl ?_
 go_frame
 refine QZ 4 rfl ?_
 go_frame
 refine QN 5 rfl ?_
 go_frame
 refine QN 6 rfl ?_
 go_frame
 refine QN 7 rfl ?_
 go_frame
 refine QN 8 rfl ?_
 go_frame
 refine QN 9 rfl ?_
 go_frame
 refine QN 10 rfl ?_
 go_frame
 refine QN 11 rfl ?_
 go_frame
 refine QN 12 rfl ?_
 go_frame
 refine QR 13 rfl (fun K hK=>?_)
 rw[if_neg (Bool.eq_false_iff.1 (by rfl))]
 refine hK.out _ _ (by assumption) (fun hHeld2=>?_)
 clear hK K
 (try go_frame)
 refine QZ 14 rfl ?_
 go_frame
 refine QZ 15 rfl ?_
 go_frame
 refine QD ?_
 go_wp2_with fail
 go_ret
 exact⟨ch (by rw[HE.out,decide_eq_false Hwn.out];rfl),aa HG1.out (ag _)⟩
theorem lp (h:Hd) (u:Value) (ps:List Pt) (s:Sd) (w:World) (P:bY w u ps) (m:Nat) (he:s.pl=(m:Int)) (hm:m<ps.length) (hwn:s.wh.wn=5):Calls Tryz.prog 256 #[cv h u,sdv s] w fun e w'=>e=.returned (.bool (cQ ps s))∧w.grownBy w' none:=by
 obtain⟨a,k,rfl⟩:=P.form
 obtain⟨W1,hW1⟩:∃ W1,W1=(w.alloc (.cells #[.string h.nm,.int .u8 h.su,.int .u8 h.kd,.int .i64 h.co,.int .i64 h.po,.int .i64 h.he,.int .u16 h.tr,.bool h.tk,.slice a ps.length k] 111)).alloc (.cells #[.int .i64 s.th,.int .i64 s.pl,.int .u8 s.wh.wn,.int .u8 s.wh.vb,.int .u8 s.wh.wm,.int .i64 s.wh.ct,.int .u8 s.wh.su,.int .u8 s.wh.tr,.int .u8 s.wh.mr,.string s.wh.nm] 64):=⟨_,rfl⟩
 have HG1:Hid (w.grownBy W1 none):=by rw[hW1];exact am (World.grownBy_alloc _ _ none) _
 have HC:Hid (W1.heap[w.heap.size]?=some (.cells #[.string h.nm,.int .u8 h.su,.int .u8 h.kd,.int .i64 h.co,.int .i64 h.po,.int .i64 h.he,.int .u16 h.tr,.bool h.tk,.slice a ps.length k] 111 (0,0))):=by rw[hW1];exact ai (World.grownBy_alloc _ _ none) (ak w _ _) (by simp)
 have HS:Hid (SdB W1 (w.heap.size+1) s):=by rw[hW1];exact aL _ _ _ _
 have HP:Hid (bY W1 (.slice a ps.length k) ps):=P.keep HG1.out
 obtain⟨g,off,cap,e2,hP⟩:=HP.out.part (Nat.lt_of_le_of_lt (Nat.zero_le _) hm)
 injection e2 with e2 _ e3
 subst e2
 subst e3
 have HP8:Hid (P8 W1 g (off+m*8) (ps.getD m Pt.none)):=hP m _ (pV hm)
 have HE:Hid (cQ ps s=(decide (s.wh.wn=5) && bN (ps.getD m Pt.none) s.wh)):=ry he hm
 obtain⟨p,hp⟩:∃ p,p=ps.getD m Pt.none:=⟨_,rfl⟩
 rw[←hp] at HP8 HE
 have Hpl:Hid (s.pl=(m:Int)):=he
 have hm':(m:Int)<ps.length:=Int.ofNat_lt.2 hm
 have hm2:decide ((ps.length:Int)≤(m:Int))=false:=decide_eq_false (by omega)
 have Hwn:Hid (s.wh.wn=5):=hwn
 clear hP hp hwn he hm
 unfold cv sdv
 clear P
 go_enter Tryz.func256,Tryz.ntmps256
 go_upto_region 1 with fail
 rw[←hW1]
 clear hW1
 obtain⟨n0,h0⟩:∃ n0,n0=w.heap.size:=⟨_,rfl⟩
 simp only[←h0] at HC HS ⊢
 obtain⟨n1,h1⟩:∃ n1,n1=n0+1:=⟨_,rfl⟩
 simp only[←h1] at HS ⊢
 clear h0 h1
 obtain⟨s0,s1,s2,s3,s4,s5,s6,s7,s8,s9⟩:=bl HS.out
 have d8:=(ae HC.out 8).trans (show _=some (.slice (some ⟨g,off,none⟩) ps.length k) from rfl)
 rw[Hpl.out] at s1
 have m0:¬(m:Int)<0:=by omega
 go_upto_region 3 with fail
 have e5:(s.wh.wn == 5)=true:=by simpa using Hwn.out
 have CS:=yJ p s.wh W1.drew
 obtain⟨r,hr⟩:∃ r,r=bN p s.wh:=⟨_,rfl⟩
 rw[←hr] at CS HE
 unfold pv at CS
 clear hr
 have q0:=HP8.out.c0
 have q1:=HP8.out.c1
 have q2:=HP8.out.c2
 have q3:=HP8.out.c3
 have q4:=HP8.out.c4
 have q5:=HP8.out.c5
 have q6:=HP8.out.c6
 have q7:=HP8.out.c7
 refine wp_region_held_drew (S:=fun w'=>W1.grownBy w' none) (by kernel_rfl) (ag _) (fun hHeld=>?_)
 refine QZ 0 rfl ?_
 go_frame
 refine QZ 1 rfl ?_
 go_frame
 refine QT 2 rfl (by intro w0 hSw;have s2:=hSw.cell s2 (by simp);go_simp;try with_reducible rfl) ?_
 go_frame
 refine QZ 3 rfl ?_
 go_frame
 refine QZ 4 rfl ?_
 go_frame
 refine QZ 5 rfl ?_
 go_frame
 refine QT 6 rfl (by intro w0 hSw;have d8:=hSw.cell d8 (by simp);go_simp;try with_reducible rfl) ?_
 go_frame
 refine QZ 7 rfl ?_
 go_frame
 refine QT 8 rfl (by intro w0 hSw;have s1:=hSw.cell s1 (by simp);go_simp;try with_reducible rfl) ?_
 go_frame
 refine QZ 9 rfl ?_
 go_frame
 refine QT 10 rfl (by intro w0 hSw;have q0:=hSw.cell q0 (by simp);have q1:=hSw.cell q1 (by simp);have q2:=hSw.cell q2 (by simp);have q3:=hSw.cell q3 (by simp);have q4:=hSw.cell q4 (by simp);have q5:=hSw.cell q5 (by simp);have q6:=hSw.cell q6 (by simp);have q7:=hSw.cell q7 (by simp);go_simp;try with_reducible rfl) ?_
 go_frame
 refine QZ 11 rfl ?_
 go_frame
 refine QT 12 rfl (by intro w0 hSw;have s2:=hSw.cell s2 (by simp);have s3:=hSw.cell s3 (by simp);have s4:=hSw.cell s4 (by simp);have s5:=hSw.cell s5 (by simp);have s6:=hSw.cell s6 (by simp);have s7:=hSw.cell s7 (by simp);have s8:=hSw.cell s8 (by simp);have s9:=hSw.cell s9 (by simp);go_simp;try with_reducible rfl) ?_
 go_frame
 refine QR 13 rfl (fun K hK=>?_)
 rw[if_pos (by rfl)]
 go_simp
 go_at_call 292
 refine(CS).mono ?_
 rintro e3 w3 ⟨rfl,g3⟩
 have HG3:Hid (W1.grownBy w3 none):=aa (ag _) g3
 clear g3 CS
 refine hK.out _ _ (HG3.out) (fun hHeld2=>?_)
 clear hK K
 (try go_frame)
 refine QZ 14 rfl ?_
 go_frame
 refine QZ 15 rfl ?_
 go_frame
 refine QD ?_
 go_wp2_with fail
 go_ret
 exact⟨ch (by rw[HE.out,decide_eq_true Hwn.out];rfl),aa HG1.out HG3.out⟩
theorem li (h:Hd) (u:Value) (ps:List Pt) (s:Sd) (w:World) (P:bY w u ps):Calls Tryz.prog 256 #[cv h u,sdv s] w fun e w'=>e=.returned (.bool (cQ ps s))∧w.grownBy w' none:=by
 by_cases h1:s.pl<0
 ·exact lm h u ps s w P h1
 ·by_cases h2:(ps.length:Int)≤s.pl
  ·exact kJ h u ps s w P (by omega) h2
  ·by_cases h3:s.wh.wn=5
   ·exact lp h u ps s w P s.pl.toNat (by omega) (by omega) h3
   ·exact mf h u ps s w P s.pl.toNat (by omega) (by omega) h3
theorem xZ (x:Rv) (n:Nat) (th:Int) (W:World) (c:W.cell? ⟨n,0,none⟩=some (.int .i64 th)):Calls Tryz.prog 255 #[.agg (rvc x).toArray,.pointer (some ⟨n,0,none⟩)] W fun e w'=>e=.returned (.bool (decide (x.r.nu=th)))∧W.grownBy w' none:=by
 have HE:Hid ((x.r.nu == th)=decide (x.r.nu=th)):=jK _ _
 obtain⟨V,hV⟩:∃ V,V=W.alloc (.cells #[.int .i64 x.r.nu,.int .i64 x.r.st,.string x.r.h.nm,.int .u8 x.r.h.su,.int .u8 x.r.h.kd,.int .i64 x.r.h.co,.int .i64 x.r.h.po,.int .i64 x.r.h.he,.int .u16 x.r.h.tr,.bool x.r.h.tk,.slice x.pa x.r.ps.length x.ca] 230):=⟨_,rfl⟩
 have HGV:Hid (W.grownBy V none):=by rw[hV];exact World.grownBy_alloc _ _ none
 have z0:V.cell? ⟨W.heap.size,0,none⟩=some (.int .i64 x.r.nu):=by rw[hV];exact(ae (ak _ _ _) 0).trans rfl
 have z1:=HGV.out.cell c (by simp)
 unfold rvc Rv.u
 clear c
 go_enter Tryz.func255,Tryz.ntmps255
 go_upto_region 1 with fail
 rw[←hV]
 clear hV
 go_wp2
 go_ret
 exact⟨ch HE.out,HGV.out⟩
def xE (R:List Rw) (n:Int):Int:=match eO R n with | some i=>(i:Int) | none=>-1
theorem vd (d:Rv):∀ (X:List Rv) (th:Int) (i:Nat),Lib.idxByFrom (fun _ (y:Rv)=>decide (y.r.nu=th)) d X i=(match eO (rws X) th with | some j=>((i+j:Nat):Int) | none=>-1)
 | [],th,i=>rfl
 | x :: X,th,i=>by
  have ih:=vd d X th (i+1)
  unfold eO rws at ih ⊢
  rw[Lib.idxByFrom,ih,List.map_cons,List.findIdx?_cons]
  by_cases h:x.r.nu=th
  ·rw[if_pos (by simpa using h),if_pos (by simpa using h)]
   rfl
  ·rw[if_neg (by simpa using h),if_neg (by simpa using h)]
   cases hf:List.findIdx? (fun r=>decide (r.nu=th)) (X.map Rv.r) with
   | none=>rfl
   | some j =>
    show ((i+1+j:Nat):Int)=((i+(j+1):Nat):Int)
    omega
theorem mU (p:Option Addr) (c:Nat) (fv:Value) (w:World):Calls Tryz.prog 254 #[.slice p 0 c,fv] w fun e w'=>e=.returned (.int .i64 (-1))∧w'=w:=by
 go_enter Tryz.func254,Tryz.ntmps254
 go_wp2_with fail
 refine wp_loop_rounds 1 ?_
 rw[rounds_succ]
 go_wp2
 go_ret
 exact⟨rfl,rfl⟩
theorem nP (v:Value) (X:List Rv) (n:Nat) (th:Int) (w:World) (A:rvR.At w v X) (h16:X.length≤16) (c:w.cell? ⟨n,0,none⟩=some (.int .i64 th)):Calls Tryz.prog 254 #[v,.func (.func 255) #[] #[.pointer (some ⟨n,0,none⟩)]] w fun e w'=>e=.returned (.int .i64 (xE (rws X) th))∧w.grownBy w' none:=by
 by_cases h0:X.length=0
 ·have e1:X=[]:=List.length_eq_zero_iff.1 h0
  subst e1
  obtain⟨p,cap,rfl⟩:=A.form
  refine(mU p cap _ w).mono ?_
  rintro e w' ⟨rfl,rfl⟩
  exact⟨rfl,ay _ _⟩
 ·obtain⟨p,cap,e1,_,hA⟩:=A
  obtain⟨g,off,e2,hR⟩:=hA (Nat.pos_of_ne_zero h0)
  subst e2
  subst e1
  haveI:Inhabited Rv:=⟨⟨Rw.none,none,0⟩⟩
  have eg:∀ args w,(callFunc 255 args).run Tryz.prog w=.ok (.enter 255 args) w:=enters_of Tryz.func255 (by kernel_rfl) rfl
  have hb:g<w.heap.size:=World.block_lt_of_cell? _ _ (eK (hR 0 X[0] (List.getElem?_eq_getElem (Nat.pos_of_ne_zero h0)))).1
  have hS:=AnyQ.slices_IndexFunc Tryz.idxR 11 Tryz.isAgg230 Tryz.sizeOf230 rvc (fun _=>rfl) (fun y=>decide (y.r.nu=th)) 255 #[.pointer (some ⟨n,0,none⟩)] eg g off X.length cap X w
   (fun W x hW=>(xZ x n th W ((hW.cell (p:=⟨n,0,none⟩) (World.block_lt_of_cell? _ _ c)).trans c)).mono fun e w' q=>⟨q.1,hW.trans ((iy q.2).mono hW.size)⟩)
   (Nat.le_refl _) (by omega) hb (fun j hj i u hu=>by
    have q:=hR j X[j] (List.getElem?_eq_getElem hj) i u
    rw[show X[j]! = X[j] from by simp[hj]] at hu
    exact q hu)
  change Calls Tryz.prog 254 _ _ _ at hS
  refine hS.mono ?_
  rintro e w' ⟨rfl,hb'⟩
  refine⟨j5 ?_,⟨hb'.os,hb'.tape,hb'.output,hb'.size,fun k hk _=>hb'.block k hk⟩⟩
  rw[List.take_length]
  have:=vd default X th 0
  unfold xE
  simp only[Nat.zero_add] at this
  show Lib.idxByFrom _ _ X 0=_
  exact this
end Go.Proofs.YtjmepebbcnhalaaGreat
