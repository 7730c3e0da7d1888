import Derived.Test.YthfjgpjcepmnmaaGreatO0
import Derived.Test.YthfjgpjcepmnmaaGreatLyQ
import Derived.Shelf.SlicesQ.IndexFunc
namespace Go.Proofs.YthfjgpjcepmnmaaGreat
set_option maxRecDepth 100000
set_option maxHeartbeats 4000000
open Go.RowKit Go.Shelf
theorem xA {ps:List Pt} {s:Sd} (h:s.pl<0):dW ps s=false:=by unfold dW;rw[decide_eq_false (show ¬0≤s.pl by omega)];rfl
theorem uf {ps:List Pt} {s:Sd} (h:(ps.length:Int)≤s.pl):dW ps s=false:=by unfold dW;rw[decide_eq_false (show ¬s.pl<(ps.length:Int) by omega)];simp
theorem rY {ps:List Pt} {s:Sd} {m:Nat} (e:s.pl=(m:Int)) (h:m<ps.length):dW ps s=(decide (s.wh.wn=5) && dY (ps.getD m Pt.none) s.wh):=by
 unfold dW
 rw[e,decide_eq_true (by omega),decide_eq_true (by omega)]
 rfl
theorem kW (h:Hd) (u:Value) (ps:List Pt) (s:Sd) (w:World) (P:bI w u ps) (hl:s.pl<0):Calls Tryz.prog 278 #[cv h u,sdv s] w fun e w'=>e=.returned (.bool (dW ps s))∧w.grownBy w' none:=by
 obtain⟨a,k,rfl⟩:=P.form
 obtain⟨W1,hW1⟩:∃ W1,W1=(w.alloc (.cells #[.string h.nm,.int .u8 h.su,.int .u8 h.kd,.int .i64 h.co,.int .i64 h.po,.int .i64 h.he,.int .u16 h.tr,.bool h.tk,.slice a ps.length k] 54)).alloc (.cells #[.int .i64 s.th,.int .i64 s.pl,.int .u8 s.wh.wn,.int .u8 s.wh.vb,.int .u8 s.wh.wm,.int .i64 s.wh.ct,.int .u8 s.wh.su,.int .u8 s.wh.tr,.int .u8 s.wh.mr,.string s.wh.nm] 40):=⟨_,rfl⟩
 have HG1:Hid (w.grownBy W1 none):=by rw[hW1];exact ak (World.grownBy_alloc _ _ none) _
 have HC:Hid (W1.heap[w.heap.size]?=some (.cells #[.string h.nm,.int .u8 h.su,.int .u8 h.kd,.int .i64 h.co,.int .i64 h.po,.int .i64 h.he,.int .u16 h.tr,.bool h.tk,.slice a ps.length k] 54 (0,0))):=by rw[hW1];exact ae (World.grownBy_alloc _ _ none) (ai w _ _) (by simp)
 have HS:Hid (SdB W1 (w.heap.size+1) s):=by rw[hW1];exact aP _ _ _ _
 have HP:Hid (bI W1 (.slice a ps.length k) ps):=P.keep HG1.out
 have HE:Hid (dW ps s=false):=xA hl
 unfold cv sdv
 clear P
 go_enter Tryz.func278,Tryz.ntmps278
 go_upto_region 1 with fail
 rw[←hW1]
 clear hW1
 obtain⟨n0,h0⟩:∃ n0,n0=w.heap.size:=⟨_,rfl⟩
 simp only[←h0] at HC HS ⊢
 obtain⟨n1,h1⟩:∃ n1,n1=n0+1:=⟨_,rfl⟩
 simp only[←h1] at HS ⊢
 clear h0 h1
 obtain⟨s0,s1,s2,s3,s4,s5,s6,s7,s8,s9⟩:=aT HS.out
 have d8:=(ac HC.out 8).trans (show _=some (.slice a ps.length k) from rfl)
 go_wp2
 go_ret
 exact⟨aJ HE.out.symm,HG1.out⟩
theorem ko (h:Hd) (u:Value) (ps:List Pt) (s:Sd) (w:World) (P:bI w u ps) (hl:0≤s.pl) (hh:(ps.length:Int)≤s.pl):Calls Tryz.prog 278 #[cv h u,sdv s] w fun e w'=>e=.returned (.bool (dW ps s))∧w.grownBy w' none:=by
 obtain⟨a,k,rfl⟩:=P.form
 obtain⟨W1,hW1⟩:∃ W1,W1=(w.alloc (.cells #[.string h.nm,.int .u8 h.su,.int .u8 h.kd,.int .i64 h.co,.int .i64 h.po,.int .i64 h.he,.int .u16 h.tr,.bool h.tk,.slice a ps.length k] 54)).alloc (.cells #[.int .i64 s.th,.int .i64 s.pl,.int .u8 s.wh.wn,.int .u8 s.wh.vb,.int .u8 s.wh.wm,.int .i64 s.wh.ct,.int .u8 s.wh.su,.int .u8 s.wh.tr,.int .u8 s.wh.mr,.string s.wh.nm] 40):=⟨_,rfl⟩
 have HG1:Hid (w.grownBy W1 none):=by rw[hW1];exact ak (World.grownBy_alloc _ _ none) _
 have HC:Hid (W1.heap[w.heap.size]?=some (.cells #[.string h.nm,.int .u8 h.su,.int .u8 h.kd,.int .i64 h.co,.int .i64 h.po,.int .i64 h.he,.int .u16 h.tr,.bool h.tk,.slice a ps.length k] 54 (0,0))):=by rw[hW1];exact ae (World.grownBy_alloc _ _ none) (ai w _ _) (by simp)
 have HS:Hid (SdB W1 (w.heap.size+1) s):=by rw[hW1];exact aP _ _ _ _
 have HP:Hid (bI W1 (.slice a ps.length k) ps):=P.keep HG1.out
 have HE:Hid (dW ps s=false):=uf hh
 have e1:decide (s.pl<0)=false:=decide_eq_false (by omega)
 unfold cv sdv
 clear P
 go_enter Tryz.func278,Tryz.ntmps278
 go_upto_region 1 with fail
 rw[←hW1]
 clear hW1
 obtain⟨n0,h0⟩:∃ n0,n0=w.heap.size:=⟨_,rfl⟩
 simp only[←h0] at HC HS ⊢
 obtain⟨n1,h1⟩:∃ n1,n1=n0+1:=⟨_,rfl⟩
 simp only[←h1] at HS ⊢
 clear h0 h1
 obtain⟨s0,s1,s2,s3,s4,s5,s6,s7,s8,s9⟩:=aT HS.out
 have d8:=(ac HC.out 8).trans (show _=some (.slice a ps.length k) from rfl)
 go_wp2
 go_ret
 exact⟨aJ HE.out.symm,HG1.out⟩
theorem nf (h:Hd) (u:Value) (ps:List Pt) (s:Sd) (w:World) (P:bI w u ps) (m:Nat) (he:s.pl=(m:Int)) (hm:m<ps.length) (hwn:¬s.wh.wn=5):Calls Tryz.prog 278 #[cv h u,sdv s] w fun e w'=>e=.returned (.bool (dW ps s))∧w.grownBy w' none:=by
 obtain⟨a,k,rfl⟩:=P.form
 obtain⟨W1,hW1⟩:∃ W1,W1=(w.alloc (.cells #[.string h.nm,.int .u8 h.su,.int .u8 h.kd,.int .i64 h.co,.int .i64 h.po,.int .i64 h.he,.int .u16 h.tr,.bool h.tk,.slice a ps.length k] 54)).alloc (.cells #[.int .i64 s.th,.int .i64 s.pl,.int .u8 s.wh.wn,.int .u8 s.wh.vb,.int .u8 s.wh.wm,.int .i64 s.wh.ct,.int .u8 s.wh.su,.int .u8 s.wh.tr,.int .u8 s.wh.mr,.string s.wh.nm] 40):=⟨_,rfl⟩
 have HG1:Hid (w.grownBy W1 none):=by rw[hW1];exact ak (World.grownBy_alloc _ _ none) _
 have HC:Hid (W1.heap[w.heap.size]?=some (.cells #[.string h.nm,.int .u8 h.su,.int .u8 h.kd,.int .i64 h.co,.int .i64 h.po,.int .i64 h.he,.int .u16 h.tr,.bool h.tk,.slice a ps.length k] 54 (0,0))):=by rw[hW1];exact ae (World.grownBy_alloc _ _ none) (ai w _ _) (by simp)
 have HS:Hid (SdB W1 (w.heap.size+1) s):=by rw[hW1];exact aP _ _ _ _
 have HP:Hid (bI W1 (.slice a ps.length k) ps):=P.keep HG1.out
 obtain⟨g,off,cap,e2,hP⟩:=HP.out.part (Nat.lt_of_le_of_lt (Nat.zero_le _) hm)
 injection e2 with e2 _ e3
 subst e2
 subst e3
 have HP8:Hid (P8 W1 g (off+m*8) (ps.getD m Pt.none)):=hP m _ (qs hm)
 have HE:Hid (dW ps s=(decide (s.wh.wn=5) && dY (ps.getD m Pt.none) s.wh)):=rY he hm
 obtain⟨p,hp⟩:∃ p,p=ps.getD m Pt.none:=⟨_,rfl⟩
 rw[←hp] at HP8 HE
 have Hpl:Hid (s.pl=(m:Int)):=he
 have hm':(m:Int)<ps.length:=Int.ofNat_lt.2 hm
 have hm2:decide ((ps.length:Int)≤(m:Int))=false:=decide_eq_false (by omega)
 have Hwn:Hid (¬s.wh.wn=5):=hwn
 clear hP hp hwn he hm
 unfold cv sdv
 clear P
 go_enter Tryz.func278,Tryz.ntmps278
 go_upto_region 1 with fail
 rw[←hW1]
 clear hW1
 obtain⟨n0,h0⟩:∃ n0,n0=w.heap.size:=⟨_,rfl⟩
 simp only[←h0] at HC HS ⊢
 obtain⟨n1,h1⟩:∃ n1,n1=n0+1:=⟨_,rfl⟩
 simp only[←h1] at HS ⊢
 clear h0 h1
 obtain⟨s0,s1,s2,s3,s4,s5,s6,s7,s8,s9⟩:=aT HS.out
 have d8:=(ac HC.out 8).trans (show _=some (.slice (some ⟨g,off,none⟩) ps.length k) from rfl)
 rw[Hpl.out] at s1
 have m0:¬(m:Int)<0:=by omega
 go_upto_region 3 with fail
 have e5:(s.wh.wn == 5)=false:=by simpa using Hwn.out
 refine wp_region_held_drew (S:=fun w'=>W1.grownBy w' none) (by kernel_rfl) (ag _) (fun hHeld=>?_)
 refine QZ 0 rfl ?_
 go_frame
 refine QZ 1 rfl ?_
 go_frame
 refine QT 2 rfl (by intro w0 hSw;have s2:=hSw.cell s2 (by simp);go_simp;try with_reducible rfl) ?_
 go_frame
 refine QZ 3 rfl ?_
 go_frame
 refine QZ 4 rfl ?_
 go_frame
 refine QN 5 rfl ?_
 go_frame
 refine QN 6 rfl ?_
 go_frame
 refine QN 7 rfl ?_
 go_frame
 refine QN 8 rfl ?_
 go_frame
 refine QN 9 rfl ?_
 go_frame
 refine QN 10 rfl ?_
 go_frame
 refine QN 11 rfl ?_
 go_frame
 refine QN 12 rfl ?_
 go_frame
 refine QR 13 rfl (fun K hK=>?_)
 rw[if_neg (Bool.eq_false_iff.1 (by rfl))]
 refine hK.out _ _ (by assumption) (fun hHeld2=>?_)
 clear hK K
 (try go_frame)
 refine QZ 14 rfl ?_
 go_frame
 refine QZ 15 rfl ?_
 go_frame
 refine QD ?_
 go_wp2_with fail
 go_ret
 exact⟨aJ (by rw[HE.out,decide_eq_false Hwn.out];rfl),aa HG1.out (ag _)⟩
theorem l4 (h:Hd) (u:Value) (ps:List Pt) (s:Sd) (w:World) (P:bI w u ps) (m:Nat) (he:s.pl=(m:Int)) (hm:m<ps.length) (hwn:s.wh.wn=5):Calls Tryz.prog 278 #[cv h u,sdv s] w fun e w'=>e=.returned (.bool (dW ps s))∧w.grownBy w' none:=by
 obtain⟨a,k,rfl⟩:=P.form
 obtain⟨W1,hW1⟩:∃ W1,W1=(w.alloc (.cells #[.string h.nm,.int .u8 h.su,.int .u8 h.kd,.int .i64 h.co,.int .i64 h.po,.int .i64 h.he,.int .u16 h.tr,.bool h.tk,.slice a ps.length k] 54)).alloc (.cells #[.int .i64 s.th,.int .i64 s.pl,.int .u8 s.wh.wn,.int .u8 s.wh.vb,.int .u8 s.wh.wm,.int .i64 s.wh.ct,.int .u8 s.wh.su,.int .u8 s.wh.tr,.int .u8 s.wh.mr,.string s.wh.nm] 40):=⟨_,rfl⟩
 have HG1:Hid (w.grownBy W1 none):=by rw[hW1];exact ak (World.grownBy_alloc _ _ none) _
 have HC:Hid (W1.heap[w.heap.size]?=some (.cells #[.string h.nm,.int .u8 h.su,.int .u8 h.kd,.int .i64 h.co,.int .i64 h.po,.int .i64 h.he,.int .u16 h.tr,.bool h.tk,.slice a ps.length k] 54 (0,0))):=by rw[hW1];exact ae (World.grownBy_alloc _ _ none) (ai w _ _) (by simp)
 have HS:Hid (SdB W1 (w.heap.size+1) s):=by rw[hW1];exact aP _ _ _ _
 have HP:Hid (bI W1 (.slice a ps.length k) ps):=P.keep HG1.out
 obtain⟨g,off,cap,e2,hP⟩:=HP.out.part (Nat.lt_of_le_of_lt (Nat.zero_le _) hm)
 injection e2 with e2 _ e3
 subst e2
 subst e3
 have HP8:Hid (P8 W1 g (off+m*8) (ps.getD m Pt.none)):=hP m _ (qs hm)
 have HE:Hid (dW ps s=(decide (s.wh.wn=5) && dY (ps.getD m Pt.none) s.wh)):=rY he hm
 obtain⟨p,hp⟩:∃ p,p=ps.getD m Pt.none:=⟨_,rfl⟩
 rw[←hp] at HP8 HE
 have Hpl:Hid (s.pl=(m:Int)):=he
 have hm':(m:Int)<ps.length:=Int.ofNat_lt.2 hm
 have hm2:decide ((ps.length:Int)≤(m:Int))=false:=decide_eq_false (by omega)
 have Hwn:Hid (s.wh.wn=5):=hwn
 clear hP hp hwn he hm
 unfold cv sdv
 clear P
 go_enter Tryz.func278,Tryz.ntmps278
 go_upto_region 1 with fail
 rw[←hW1]
 clear hW1
 obtain⟨n0,h0⟩:∃ n0,n0=w.heap.size:=⟨_,rfl⟩
 simp only[←h0] at HC HS ⊢
 obtain⟨n1,h1⟩:∃ n1,n1=n0+1:=⟨_,rfl⟩
 simp only[←h1] at HS ⊢
 clear h0 h1
 obtain⟨s0,s1,s2,s3,s4,s5,s6,s7,s8,s9⟩:=aT HS.out
 have d8:=(ac HC.out 8).trans (show _=some (.slice (some ⟨g,off,none⟩) ps.length k) from rfl)
 rw[Hpl.out] at s1
 have m0:¬(m:Int)<0:=by omega
 go_upto_region 3 with fail
 have e5:(s.wh.wn == 5)=true:=by simpa using Hwn.out
 have CS:=zS p s.wh W1.drew
 obtain⟨r,hr⟩:∃ r,r=dY p s.wh:=⟨_,rfl⟩
 rw[←hr] at CS HE
 unfold pv at CS
 clear hr
 have q0:=HP8.out.c0
 have q1:=HP8.out.c1
 have q2:=HP8.out.c2
 have q3:=HP8.out.c3
 have q4:=HP8.out.c4
 have q5:=HP8.out.c5
 have q6:=HP8.out.c6
 have q7:=HP8.out.c7
 refine wp_region_held_drew (S:=fun w'=>W1.grownBy w' none) (by kernel_rfl) (ag _) (fun hHeld=>?_)
 refine QZ 0 rfl ?_
 go_frame
 refine QZ 1 rfl ?_
 go_frame
 refine QT 2 rfl (by intro w0 hSw;have s2:=hSw.cell s2 (by simp);go_simp;try with_reducible rfl) ?_
 go_frame
 refine QZ 3 rfl ?_
 go_frame
 refine QZ 4 rfl ?_
 go_frame
 refine QZ 5 rfl ?_
 go_frame
 refine QT 6 rfl (by intro w0 hSw;have d8:=hSw.cell d8 (by simp);go_simp;try with_reducible rfl) ?_
 go_frame
 refine QZ 7 rfl ?_
 go_frame
 refine QT 8 rfl (by intro w0 hSw;have s1:=hSw.cell s1 (by simp);go_simp;try with_reducible rfl) ?_
 go_frame
 refine QZ 9 rfl ?_
 go_frame
 refine QT 10 rfl (by intro w0 hSw;have q0:=hSw.cell q0 (by simp);have q1:=hSw.cell q1 (by simp);have q2:=hSw.cell q2 (by simp);have q3:=hSw.cell q3 (by simp);have q4:=hSw.cell q4 (by simp);have q5:=hSw.cell q5 (by simp);have q6:=hSw.cell q6 (by simp);have q7:=hSw.cell q7 (by simp);go_simp;try with_reducible rfl) ?_
 go_frame
 refine QZ 11 rfl ?_
 go_frame
 refine QT 12 rfl (by intro w0 hSw;have s2:=hSw.cell s2 (by simp);have s3:=hSw.cell s3 (by simp);have s4:=hSw.cell s4 (by simp);have s5:=hSw.cell s5 (by simp);have s6:=hSw.cell s6 (by simp);have s7:=hSw.cell s7 (by simp);have s8:=hSw.cell s8 (by simp);have s9:=hSw.cell s9 (by simp);go_simp;try with_reducible rfl) ?_
 go_frame
 refine QR 13 rfl (fun K hK=>?_)
 rw[if_pos (by rfl)]
 go_simp
 go_at_call 312
 refine(CS).mono ?_
 rintro e3 w3 ⟨rfl,g3⟩
 have HG3:Hid (W1.grownBy w3 none):=aa (ag _) g3
 clear g3 CS
 refine hK.out _ _ (HG3.out) (fun hHeld2=>?_)
 clear hK K
 (try go_frame)
 refine QZ 14 rfl ?_
 go_frame
 refine QZ 15 rfl ?_
 go_frame
 refine QD ?_
 go_wp2_with fail
 go_ret
 exact⟨aJ (by rw[HE.out,decide_eq_true Hwn.out];rfl),aa HG1.out HG3.out⟩
theorem l8 (h:Hd) (u:Value) (ps:List Pt) (s:Sd) (w:World) (P:bI w u ps):Calls Tryz.prog 278 #[cv h u,sdv s] w fun e w'=>e=.returned (.bool (dW ps s))∧w.grownBy w' none:=by
 by_cases h1:s.pl<0
 ·exact kW h u ps s w P h1
 ·by_cases h2:(ps.length:Int)≤s.pl
  ·exact ko h u ps s w P (by omega) h2
  ·by_cases h3:s.wh.wn=5
   ·exact l4 h u ps s w P s.pl.toNat (by omega) (by omega) h3
   ·exact nf h u ps s w P s.pl.toNat (by omega) (by omega) h3
theorem yr (x:Rv) (n:Nat) (th:Int) (W:World) (c:W.cell? ⟨n,0,none⟩=some (.int .i64 th)):Calls Tryz.prog 277 #[.agg (rvc x).toArray,.pointer (some ⟨n,0,none⟩)] W fun e w'=>e=.returned (.bool (decide (x.r.nu=th)))∧W.grownBy w' none:=by
 have HE:Hid ((x.r.nu == th)=decide (x.r.nu=th)):=dB _ _
 obtain⟨V,hV⟩:∃ V,V=W.alloc (.cells #[.int .i64 x.r.nu,.int .i64 x.r.st,.string x.r.h.nm,.int .u8 x.r.h.su,.int .u8 x.r.h.kd,.int .i64 x.r.h.co,.int .i64 x.r.h.po,.int .i64 x.r.h.he,.int .u16 x.r.h.tr,.bool x.r.h.tk,.slice x.pa x.r.ps.length x.ca] 248):=⟨_,rfl⟩
 have HGV:Hid (W.grownBy V none):=by rw[hV];exact World.grownBy_alloc _ _ none
 have z0:V.cell? ⟨W.heap.size,0,none⟩=some (.int .i64 x.r.nu):=by rw[hV];exact(ac (ai _ _ _) 0).trans rfl
 have z1:=HGV.out.cell c (by simp)
 unfold rvc Rv.u
 clear c
 go_enter Tryz.func277,Tryz.ntmps277
 go_upto_region 1 with fail
 rw[←hV]
 clear hV
 go_wp2
 go_ret
 exact⟨aJ HE.out,HGV.out⟩
def xc (R:List Rw) (n:Int):Int:=match gD R n with | some i=>(i:Int) | none=>-1
theorem we (d:Rv):∀ (X:List Rv) (th:Int) (i:Nat),Lib.idxByFrom (fun _ (y:Rv)=>decide (y.r.nu=th)) d X i=(match gD (rws X) th with | some j=>((i+j:Nat):Int) | none=>-1)
 | [],th,i=>rfl
 | x :: X,th,i=>by
  have ih:=we d X th (i+1)
  unfold gD rws at ih ⊢
  rw[Lib.idxByFrom,ih,List.map_cons,List.findIdx?_cons]
  by_cases h:x.r.nu=th
  ·rw[if_pos (by simpa using h),if_pos (by simpa using h)]
   rfl
  ·rw[if_neg (by simpa using h),if_neg (by simpa using h)]
   cases hf:List.findIdx? (fun r=>decide (r.nu=th)) (X.map Rv.r) with
   | none=>rfl
   | some j =>
    show ((i+1+j:Nat):Int)=((i+(j+1):Nat):Int)
    omega
theorem lx (p:Option Addr) (c:Nat) (fv:Value) (w:World):Calls Tryz.prog 276 #[.slice p 0 c,fv] w fun e w'=>e=.returned (.int .i64 (-1))∧w'=w:=by
 go_enter Tryz.func276,Tryz.ntmps276
 go_wp2_with fail
 refine wp_loop_rounds 1 ?_
 rw[rounds_succ]
 go_wp2
 go_ret
 exact⟨rfl,rfl⟩
theorem nC (v:Value) (X:List Rv) (n:Nat) (th:Int) (w:World) (A:rvR.At w v X) (h16:X.length≤16) (c:w.cell? ⟨n,0,none⟩=some (.int .i64 th)):Calls Tryz.prog 276 #[v,.func (.func 277) #[] #[.pointer (some ⟨n,0,none⟩)]] w fun e w'=>e=.returned (.int .i64 (xc (rws X) th))∧w.grownBy w' none:=by
 by_cases h0:X.length=0
 ·have e1:X=[]:=List.length_eq_zero_iff.1 h0
  subst e1
  obtain⟨p,cap,rfl⟩:=A.form
  refine(lx p cap _ w).mono ?_
  rintro e w' ⟨rfl,rfl⟩
  exact⟨rfl,aq _ _⟩
 ·obtain⟨p,cap,e1,_,hA⟩:=A
  obtain⟨g,off,e2,hR⟩:=hA (Nat.pos_of_ne_zero h0)
  subst e2
  subst e1
  haveI:Inhabited Rv:=⟨⟨Rw.none,none,0⟩⟩
  have eg:∀ args w,(callFunc 277 args).run Tryz.prog w=.ok (.enter 277 args) w:=enters_of Tryz.func277 (by kernel_rfl) rfl
  have hb:g<w.heap.size:=World.block_lt_of_cell? _ _ (gH (hR 0 X[0] (List.getElem?_eq_getElem (Nat.pos_of_ne_zero h0)))).1
  have hS:=AnyQ.slices_IndexFunc Tryz.idxR 11 Tryz.isAgg248 Tryz.sizeOf248 rvc (fun _=>rfl) (fun y=>decide (y.r.nu=th)) 277 #[.pointer (some ⟨n,0,none⟩)] eg g off X.length cap X w
   (fun W x hW=>(yr x n th W ((hW.cell (p:=⟨n,0,none⟩) (World.block_lt_of_cell? _ _ c)).trans c)).mono fun e w' q=>⟨q.1,hW.trans ((iD q.2).mono hW.size)⟩)
   (Nat.le_refl _) (by omega) hb (fun j hj i u hu=>by
    have q:=hR j X[j] (List.getElem?_eq_getElem hj) i u
    rw[show X[j]! = X[j] from by simp[hj]] at hu
    exact q hu)
  change Calls Tryz.prog 276 _ _ _ at hS
  refine hS.mono ?_
  rintro e w' ⟨rfl,hb'⟩
  refine⟨iY ?_,⟨hb'.os,hb'.tape,hb'.output,hb'.size,fun k hk _=>hb'.block k hk⟩⟩
  rw[List.take_length]
  have:=we default X th 0
  unfold xc
  simp only[Nat.zero_add] at this
  show Lib.idxByFrom _ _ X 0=_
  exact this
end Go.Proofs.YthfjgpjcepmnmaaGreat
namespace Go.Proofs.YthfjgpjcepmnmaaGreat
set_option maxRecDepth 100000
set_option maxHeartbeats 4000000
open Go.RowKit
theorem Bw {X:List Rv} {th:Int} {i:Nat} (h:gD (rws X) th=some i):i<X.length:=by
 unfold gD at h
 have:=(List.findIdx?_eq_some_iff_getElem.1 h).1
 rwa [eZ] at this
def kK (w:World) (R:List Rw) (s:Sd) (e:Ending) (w':World):Prop:=e=.returned (.tuple #[sev ((dD R s).getD Se.none),.bool (dD R s).isSome])∧w.grownBy w' none
theorem kK.no {w w':World} {R:List Rw} {s:Sd} (h:dD R s=none) (g:w.grownBy w' none):kK w R s (.returned (.tuple #[.agg #[.int .i64 0,.int .i64 0,.int .u8 0,.int .u8 0,.int .u8 0,.int .i64 0,.int .u8 0,.int .u8 0,.int .u8 0,.string ⟨#[]⟩,.int .i64 0],.bool false])) w':=⟨by rw[h];rfl,g⟩
theorem iE {a b:World} {c:Nat} (h:a.grownBy b none) (hc:a.heap.size≤c) (v0 v1 v2 v3 v4 v5 v6 v7 v8 v9 v10:Value):a.grownBy (((((((((((b.setCell ⟨c,0,none⟩ v0).setCell ⟨c,1,none⟩ v1).setCell ⟨c,2,none⟩ v2).setCell ⟨c,3,none⟩ v3).setCell ⟨c,4,none⟩ v4).setCell ⟨c,5,none⟩ v5).setCell ⟨c,6,none⟩ v6).setCell ⟨c,7,none⟩ v7).setCell ⟨c,8,none⟩ v8).setCell ⟨c,9,none⟩ v9).setCell ⟨c,10,none⟩ v10) none:=ap (ap (ap (ap (ap (ap (ap (ap (ap (ap (ap h hc _ _) hc _ _) hc _ _) hc _ _) hc _ _) hc _ _) hc _ _) hc _ _) hc _ _) hc _ _) hc _ _
theorem yz (vr vf:Value) (X:List Rv) (F:List Fe) (s:Sd) (w:World) (T:iL w vr vf X F):Calls Tryz.prog 222 #[tbv vr vf,sdv s] w (kK w (rws X) s):=by
 have hmf:∀ (fn:Fn) (first cap:Array Value) (w:World),(Instr.makeFunc fn first cap).run Tryz.prog w=.ok (.func fn first cap) w:=fun _ _ _ _=>rfl
 obtain⟨pr,cr,rfl⟩:=T.rows.form
 obtain⟨pf,cf,rfl⟩:=T.fs.form
 obtain⟨W1,hW1⟩:∃ W1,W1=((w.alloc (.cells #[.slice pr X.length cr,.slice pf F.length cf] 161)).alloc (.cells #[.int .i64 s.th,.int .i64 s.pl,.int .u8 s.wh.wn,.int .u8 s.wh.vb,.int .u8 s.wh.wm,.int .i64 s.wh.ct,.int .u8 s.wh.su,.int .u8 s.wh.tr,.int .u8 s.wh.mr,.string s.wh.nm] 40)).alloc (.cells #[.int .i64 0,.int .i64 0,.int .u8 0,.int .u8 0,.int .u8 0,.int .i64 0,.int .u8 0,.int .u8 0,.int .u8 0,.string ⟨#[]⟩,.int .i64 0] 167):=⟨_,rfl⟩
 have HG1:Hid (w.grownBy W1 none):=by rw[hW1];exact ak (ak (World.grownBy_alloc _ _ none) _) _
 have HB:Hid (TbB W1 w.heap.size (.slice pr X.length cr) (.slice pf F.length cf)):=by rw[hW1];exact ae (ak (World.grownBy_alloc _ _ none) _) (ai w _ _) (by simp)
 have HS:Hid (SdB W1 (w.heap.size+1) s):=by rw[hW1];exact ae (World.grownBy_alloc _ _ none) (aP _ _ _ _) (by simp)
 have HR:Hid (W1.heap[w.heap.size+1+1]?=some (.cells #[.int .i64 0,.int .i64 0,.int .u8 0,.int .u8 0,.int .u8 0,.int .i64 0,.int .u8 0,.int .u8 0,.int .u8 0,.string ⟨#[]⟩,.int .i64 0] 167 (0,0))):=by rw[hW1];exact fj _ _ _ _ _
 have HT:Hid (iL W1 (.slice pr X.length cr) (.slice pf F.length cf) X F):=T.keep HG1.out
 have HIx:=nC (.slice pr X.length cr) X (w.heap.size+1) s.th W1 HT.out.rows HT.out.few (aT HS.out).1
 unfold tbv sdv
 clear T
 go_enter Tryz.func222,Tryz.ntmps222
 go_upto_region 1 with fail
 rw[←hW1]
 clear hW1
 obtain⟨n0,h0⟩:∃ n0,n0=w.heap.size:=⟨_,rfl⟩
 have HN:Hid (w.heap.size≤n0+1+1):=by show _≤_;omega
 simp only[←h0] at HB HS HR HIx ⊢
 obtain⟨n1,h1⟩:∃ n1,n1=n0+1:=⟨_,rfl⟩
 simp only[←h1] at HS HR HIx HN ⊢
 obtain⟨n2,h2⟩:∃ n2,n2=n1+1:=⟨_,rfl⟩
 simp only[←h2] at HR HN ⊢
 clear h0 h1 h2
 obtain⟨b0,b1⟩:=il HB.out
 go_wp2_with (go_at_call 276;refine HIx.mono ?_;rintro e2 w2 ⟨rfl,g2⟩;have HG2:Hid (W1.grownBy w2 none):=g2;clear HIx g2)
 clear b0 b1 hmf
 have HR2:Hid (w2.heap[n2]?=some (.cells #[.int .i64 0,.int .i64 0,.int .u8 0,.int .u8 0,.int .u8 0,.int .i64 0,.int .u8 0,.int .u8 0,.int .u8 0,.string ⟨#[]⟩,.int .i64 0] 167 (0,0))):=ae HG2.out HR.out (by simp)
 have HGw:Hid (w.grownBy w2 none):=aa HG1.out HG2.out
 cases hrow:gD (rws X) s.th with
 | none =>
  rw[show xc (rws X) s.th=-1 from by unfold xc;rw[hrow]]
  have HX:Hid (dD (rws X) s=none):=by show _=_;unfold dD;rw[hrow]
  clear hrow
  go_upto_region 2 with fail
  refine wp_region_held_drew (S:=fun w'=>w2.grownBy w' none) (by kernel_rfl) (ag _) (fun hHeld=>?_)
  refine QZ 0 rfl ?_
  go_frame
  refine QZ 1 rfl ?_
  go_frame
  refine QZ 2 rfl ?_
  go_frame
  refine QN 3 rfl ?_
  go_frame
  refine QN 4 rfl ?_
  go_frame
  refine QN 5 rfl ?_
  go_frame
  refine QN 6 rfl ?_
  go_frame
  refine QN 7 rfl ?_
  go_frame
  refine QN 8 rfl ?_
  go_frame
  refine QN 9 rfl ?_
  go_frame
  refine QR 10 rfl (fun K hK=>?_)
  rw[if_neg (Bool.eq_false_iff.1 (by rfl))]
  refine hK.out _ _ (by assumption) (fun hHeld2=>?_)
  clear hK K
  (try go_frame)
  refine QN 11 rfl ?_
  go_frame
  refine QZ 12 rfl ?_
  go_frame
  refine QD ?_
  obtain⟨D,hD⟩:∃ D,D=w2.drew:=⟨_,rfl⟩
  have HRD:Hid (D.heap[n2]?=some (.cells #[.int .i64 0,.int .i64 0,.int .u8 0,.int .u8 0,.int .u8 0,.int .i64 0,.int .u8 0,.int .u8 0,.int .u8 0,.string ⟨#[]⟩,.int .i64 0] 167 (0,0))):=by rw[hD];exact HR2.out
  have HGD:Hid (w.grownBy D none):=by rw[hD];exact aa HGw.out (ag _)
  rw[←hD]
  clear hHeld hD
  have r0:=(ac HRD.out 0).trans (show _=some (.int .i64 0) from rfl)
  have r1:=(ac HRD.out 1).trans (show _=some (.int .i64 0) from rfl)
  have r2:=(ac HRD.out 2).trans (show _=some (.int .u8 0) from rfl)
  have r3:=(ac HRD.out 3).trans (show _=some (.int .u8 0) from rfl)
  have r4:=(ac HRD.out 4).trans (show _=some (.int .u8 0) from rfl)
  have r5:=(ac HRD.out 5).trans (show _=some (.int .i64 0) from rfl)
  have r6:=(ac HRD.out 6).trans (show _=some (.int .u8 0) from rfl)
  have r7:=(ac HRD.out 7).trans (show _=some (.int .u8 0) from rfl)
  have r8:=(ac HRD.out 8).trans (show _=some (.int .u8 0) from rfl)
  have r9:=(ac HRD.out 9).trans (show _=some (.string ⟨#[]⟩) from rfl)
  have r10:=(ac HRD.out 10).trans (show _=some (.int .i64 0) from rfl)
  have rf:=fun i=>ao HRD.out i
  go_wp2_with fail
  refine bodyPost_ret (v:=.tuple #[.agg #[.int .i64 0,.int .i64 0,.int .u8 0,.int .u8 0,.int .u8 0,.int .i64 0,.int .u8 0,.int .u8 0,.int .u8 0,.string ⟨#[]⟩,.int .i64 0],.bool false]) (by simp[results,Tryz.results222,go_sem,r0,r1,r2,r3,r4,r5,r6,r7,r8,r9,r10]) rfl (kK.no HX.out ?_)
  exact iE HGD.out HN.out _ _ _ _ _ _ _ _ _ _ _
 | some i =>
  have hi:=Bw hrow
  rw[show xc (rws X) s.th=(i:Int) from by unfold xc;rw[hrow]]
  have HTw:=HT.out.keep HG2.out
  obtain⟨g,off,cap,e1,R⟩:=HTw.row hi
  cases e1
  have hps:=HTw.parts _ (List.getElem_mem hi)
  obtain⟨x,hx⟩:∃ x,x=X[i]:=⟨_,rfl⟩
  rw[←hx] at R hps
  have HX:Hid (dD (rws X) s=if dW x.r.ps s then some ⟨s,i⟩ else none):=by show _=_;unfold dD;rw[hrow];show (if dW ((rws X).getD i Rw.none).ps s then some (⟨s,i⟩:Se) else none)=_;rw[iT hi,←hx]
  have HH:=l8 x.r.h (.slice x.pa x.r.ps.length x.ca) x.r.ps s w2.drew (hps.1.keep (ag _))
  obtain⟨b,hb⟩:∃ b,b=dW x.r.ps s:=⟨_,rfl⟩
  rw[←hb] at HH HX
  unfold cv sdv at HH
  obtain⟨c0,c1,c2',c3,c4,c5,c6,c7,c8,c9,c10⟩:=gH R
  have c10':w2.cell? ⟨g,off+i*11+10,none⟩=some (.slice x.pa x.r.ps.length x.ca):=c10
  obtain⟨b0,b1⟩:=il (show TbB w2 n0 _ _ from ae HG2.out HB.out (by simp))
  obtain⟨s0,s1,s2,s3,s4,s5,s6,s7,s8,s9⟩:=aT (show SdB w2 n1 s from ae HG2.out HS.out (by simp))
  have hi':(i:Int)<X.length:=Int.ofNat_lt.2 hi
  have hi0:¬(i:Int)<0:=by omega
  have hi1:decide ((i:Int)<0)=false:=decide_eq_false hi0
  clear hrow hi HTw R hps hx hb c10 c0 c1
  go_upto_region 2 with fail
  refine wp_region_held_drew (S:=fun w'=>w2.grownBy w' none) (by kernel_rfl) (ag _) (fun hHeld=>?_)
  refine QZ 0 rfl ?_
  go_frame
  refine QZ 1 rfl ?_
  go_frame
  refine QZ 2 rfl ?_
  go_frame
  refine QZ 3 rfl ?_
  go_frame
  refine QT 4 rfl (by intro w0 hSw;have b0:=hSw.cell b0 (by simp);go_simp;try with_reducible rfl) ?_
  go_frame
  refine QZ 5 rfl ?_
  go_frame
  refine QZ 6 rfl ?_
  go_frame
  refine QZ 7 rfl ?_
  go_frame
  refine QT 8 rfl (by intro w0 hSw;have c2':=hSw.cell c2' (by simp);have c3:=hSw.cell c3 (by simp);have c4:=hSw.cell c4 (by simp);have c5:=hSw.cell c5 (by simp);have c6:=hSw.cell c6 (by simp);have c7:=hSw.cell c7 (by simp);have c8:=hSw.cell c8 (by simp);have c9:=hSw.cell c9 (by simp);have c10':=hSw.cell c10' (by simp);go_simp;try with_reducible rfl) ?_
  go_frame
  refine QT 9 rfl (by intro w0 hSw;have s0:=hSw.cell s0 (by simp);have s1:=hSw.cell s1 (by simp);have s2:=hSw.cell s2 (by simp);have s3:=hSw.cell s3 (by simp);have s4:=hSw.cell s4 (by simp);have s5:=hSw.cell s5 (by simp);have s6:=hSw.cell s6 (by simp);have s7:=hSw.cell s7 (by simp);have s8:=hSw.cell s8 (by simp);have s9:=hSw.cell s9 (by simp);go_simp;try with_reducible rfl) ?_
  go_frame
  refine QR 10 rfl (fun K hK=>?_)
  rw[if_pos (by rfl)]
  go_simp
  go_at_call 278
  refine(HH).mono ?_
  rintro e3 w3 ⟨rfl,g3⟩
  have HG3:Hid (w2.grownBy w3 none):=aa (ag _) g3
  clear g3 HH
  refine hK.out _ _ (HG3.out) (fun hHeld2=>?_)
  clear hK K
  (try go_frame)
  refine QZ 11 rfl ?_
  go_frame
  refine QZ 12 rfl ?_
  go_frame
  refine QD ?_
  have HR3:Hid (w3.heap[n2]?=some (.cells #[.int .i64 0,.int .i64 0,.int .u8 0,.int .u8 0,.int .u8 0,.int .i64 0,.int .u8 0,.int .u8 0,.int .u8 0,.string ⟨#[]⟩,.int .i64 0] 167 (0,0))):=ae HG3.out HR2.out (by simp)
  have HGw3:Hid (w.grownBy w3 none):=aa HGw.out HG3.out
  clear hHeld hHeld2 b0 b1 s0 s1 s2 s3 s4 s5 s6 s7 s8 s9 c2' c3 c4 c5 c6 c7 c8 c9 c10'
  cases b with
  | false =>
   have r0:=(ac HR3.out 0).trans (show _=some (.int .i64 0) from rfl)
   have r1:=(ac HR3.out 1).trans (show _=some (.int .i64 0) from rfl)
   have r2:=(ac HR3.out 2).trans (show _=some (.int .u8 0) from rfl)
   have r3:=(ac HR3.out 3).trans (show _=some (.int .u8 0) from rfl)
   have r4:=(ac HR3.out 4).trans (show _=some (.int .u8 0) from rfl)
   have r5:=(ac HR3.out 5).trans (show _=some (.int .i64 0) from rfl)
   have r6:=(ac HR3.out 6).trans (show _=some (.int .u8 0) from rfl)
   have r7:=(ac HR3.out 7).trans (show _=some (.int .u8 0) from rfl)
   have r8:=(ac HR3.out 8).trans (show _=some (.int .u8 0) from rfl)
   have r9:=(ac HR3.out 9).trans (show _=some (.string ⟨#[]⟩) from rfl)
   have r10:=(ac HR3.out 10).trans (show _=some (.int .i64 0) from rfl)
   have rf:=fun i=>ao HR3.out i
   go_wp2_with fail
   refine bodyPost_ret (v:=.tuple #[.agg #[.int .i64 0,.int .i64 0,.int .u8 0,.int .u8 0,.int .u8 0,.int .i64 0,.int .u8 0,.int .u8 0,.int .u8 0,.string ⟨#[]⟩,.int .i64 0],.bool false]) (by simp[results,Tryz.results222,go_sem,r0,r1,r2,r3,r4,r5,r6,r7,r8,r9,r10]) rfl (kK.no HX.out ?_)
   exact iE HGw3.out HN.out _ _ _ _ _ _ _ _ _ _ _
  | true =>
   obtain⟨s0,s1,s2,s3,s4,s5,s6,s7,s8,s9⟩:=aT (show SdB w3 n1 s from ae HG3.out (ae HG2.out HS.out (by simp)) (by simp))
   have HY:Hid (dD (rws X) s=some ⟨s,i⟩):=HX.out
   have r0:=(ac HR3.out 0).trans (show _=some (.int .i64 0) from rfl)
   have r1:=(ac HR3.out 1).trans (show _=some (.int .i64 0) from rfl)
   have r2:=(ac HR3.out 2).trans (show _=some (.int .u8 0) from rfl)
   have r3:=(ac HR3.out 3).trans (show _=some (.int .u8 0) from rfl)
   have r4:=(ac HR3.out 4).trans (show _=some (.int .u8 0) from rfl)
   have r5:=(ac HR3.out 5).trans (show _=some (.int .i64 0) from rfl)
   have r6:=(ac HR3.out 6).trans (show _=some (.int .u8 0) from rfl)
   have r7:=(ac HR3.out 7).trans (show _=some (.int .u8 0) from rfl)
   have r8:=(ac HR3.out 8).trans (show _=some (.int .u8 0) from rfl)
   have r9:=(ac HR3.out 9).trans (show _=some (.string ⟨#[]⟩) from rfl)
   have r10:=(ac HR3.out 10).trans (show _=some (.int .i64 0) from rfl)
   have rf:=fun i=>ao HR3.out i
   go_wp2_with fail
   refine bodyPost_ret (v:=.tuple #[.agg #[.int .i64 (⟨s,i⟩:Se).s.th,.int .i64 (⟨s,i⟩:Se).s.pl,.int .u8 (⟨s,i⟩:Se).s.wh.wn,.int .u8 (⟨s,i⟩:Se).s.wh.vb,.int .u8 (⟨s,i⟩:Se).s.wh.wm,.int .i64 (⟨s,i⟩:Se).s.wh.ct,.int .u8 (⟨s,i⟩:Se).s.wh.su,.int .u8 (⟨s,i⟩:Se).s.wh.tr,.int .u8 (⟨s,i⟩:Se).s.wh.mr,.string (⟨s,i⟩:Se).s.wh.nm,.int .i64 ((⟨s,i⟩:Se).ro:Int)],.bool true]) (by simp[results,Tryz.results222,go_sem,r0,r1,r2,r3,r4,r5,r6,r7,r8,r9,r10]) rfl ⟨?_,?_⟩
   ·rw[HY.out];rfl
   ·exact iE HGw3.out HN.out _ _ _ _ _ _ _ _ _ _ _
theorem kS {e o:Se} (h:¬(e.s.th=o.s.th∧e.s.pl=o.s.pl)):dF e o=!decide (lay e.s.wh.vb=lay o.s.wh.vb):=by
 unfold dF
 have:(decide (e.s.th=o.s.th) && decide (e.s.pl=o.s.pl))=false:=by
  by_cases h1:e.s.th=o.s.th
  ·by_cases h2:e.s.pl=o.s.pl
   ·exact absurd ⟨h1,h2⟩ h
   ·simp[h2]
  ·simp[h1]
 rw[this]
 rfl
theorem kN {e o:Se} (h1:e.s.th=o.s.th) (h2:e.s.pl=o.s.pl):dF e o=true:=by
 unfold dF
 rw[decide_eq_true h1,decide_eq_true h2]
 rfl
theorem rM {e:Se} {L:List Se} {j:Nat} (hj:j<L.length) (h:dF e (L.getD j Se.none)=true):dS e L=false:=by
 unfold dS
 rw[List.all_eq_false]
 refine⟨L[j],List.getElem_mem hj,?_⟩
 rw[aw hj] at h
 rw[h]
 simp
theorem wW {e:Se} {L:List Se} (h:∀ j,j<L.length→dF e (L.getD j Se.none)=false):dS e L=true:=by
 unfold dS
 rw[List.all_eq_true]
 intro o ho
 obtain⟨j,hj,e1⟩:=List.mem_iff_getElem.1 ho
 have:=h j hj
 rw[aw hj,e1] at this
 rw[this]
 rfl
theorem vo (e:Se) (v:Value) (L:List Se) (w:World) (A:seR.At w v L) (hl:L.length≤4096):Calls Tryz.prog 223 #[sev e,v] w fun e' w'=>e'=.returned (.bool (dS e L))∧w.grownBy w' none:=by
 obtain⟨pl,cl,rfl⟩:=A.form
 obtain⟨W1,hW1⟩:∃ W1,W1=w.alloc (.cells #[.int .i64 e.s.th,.int .i64 e.s.pl,.int .u8 e.s.wh.wn,.int .u8 e.s.wh.vb,.int .u8 e.s.wh.wm,.int .i64 e.s.wh.ct,.int .u8 e.s.wh.su,.int .u8 e.s.wh.tr,.int .u8 e.s.wh.mr,.string e.s.wh.nm,.int .i64 (e.ro:Int)] 167):=⟨_,rfl⟩
 have HG1:Hid (w.grownBy W1 none):=by rw[hW1];exact World.grownBy_alloc _ _ none
 have HB:Hid (SeB W1 w.heap.size e):=by rw[hW1];exact ai w _ _
 have HA:Hid (seR.At W1 (.slice pl L.length cl) L):=A.keep HG1.out
 have Hl:Hid (L.length≤4096):=hl
 unfold sev
 clear A hl
 go_enter Tryz.func223,Tryz.ntmps223
 go_upto_region 1 with fail
 rw[←hW1]
 clear hW1
 obtain⟨n0,h0⟩:∃ n0,n0=w.heap.size:=⟨_,rfl⟩
 simp only[←h0] at HB ⊢
 clear h0
 go_wp2_with fail
 go_loopw [10] (fun i wr=>∃ k:Nat,k≤L.length∧i=.int .i64 (k:Int)∧(∀ j,j<k→dF e (L.getD j Se.none)=false)∧W1.grownBy wr none) (fun i _=>L.length - (intOf i).toNat)
 case atStart=>exact⟨0,Nat.zero_le _,rfl,fun i hi=>absurd hi (Nat.not_lt_zero _),aq _ _⟩
 case round =>
  obtain⟨k,hk,rfl,hfree,G⟩:=hrel
  obtain⟨U,hU⟩:∃ U,U=wr:=⟨_,rfl⟩
  subst hU
  have HF:Hid (∀ j,j<k→dF e (L.getD j Se.none)=false):=hfree
  have HG:Hid (W1.grownBy U none):=G
  clear hfree G
  by_cases hlt:k<L.length
  ·obtain⟨g,off,cap,e1,R⟩:=SeAt.there (HA.out.keep HG.out) hlt
   cases e1
   obtain⟨o,ho⟩:∃ o,o=L.getD k Se.none:=⟨_,rfl⟩
   have Ho:Hid (o=L.getD k Se.none):=ho
   rw[←ho] at R
   obtain⟨c0,c1,c2,c3,c4,c5,c6,c7,c8,c9,c10⟩:=sv R
   obtain⟨V,hV⟩:∃ V,V=U.alloc (.cells #[.int .i64 o.s.th,.int .i64 o.s.pl,.int .u8 o.s.wh.wn,.int .u8 o.s.wh.vb,.int .u8 o.s.wh.wm,.int .i64 o.s.wh.ct,.int .u8 o.s.wh.su,.int .u8 o.s.wh.tr,.int .u8 o.s.wh.mr,.string o.s.wh.nm,.int .i64 (o.ro:Int)] 167):=⟨_,rfl⟩
   have HGV:Hid (U.grownBy V none):=by rw[hV];exact World.grownBy_alloc _ _ none
   have HBo:Hid (SeB V U.heap.size o):=by rw[hV];exact ai _ _ _
   have HBe:Hid (SeB V n0 e):=ae (aa HG.out HGV.out) HB.out (by simp)
   have hlt':(k:Int)<L.length:=Int.ofNat_lt.2 hlt
   have Hlt:Hid (k<L.length):=hlt
   have hwk:=aK (k:=k) (Nat.le_trans (Nat.le_of_lt hlt) Hl.out)
   have HM:Hid (L.length - (intOf (.int .i64 ((k:Int)+1))).toNat<L.length - (intOf (.int .i64 (k:Int))).toNat):=bF hlt
   clear ho R hlt hk
   go_upto_region 4 with fail
   rw[←hV]
   obtain⟨nb,hnb⟩:∃ nb,nb=U.heap.size:=⟨_,rfl⟩
   rw[←hnb] at HBo ⊢
   clear hV hnb c0 c1 c2 c3 c4 c5 c6 c7 c8 c9 c10
   obtain⟨s0,s1,s2,s3,s4,s5,s6,s7,s8,s9,s10⟩:=mQ HBe.out
   obtain⟨o0,o1,o2,o3,o4,o5,o6,o7,o8,o9,o10⟩:=mQ HBo.out
   by_cases hag:e.s.th=o.s.th∧e.s.pl=o.s.pl
   ·have e1:(e.s.th == o.s.th)=true:=by simpa using hag.1
    have e2:(e.s.pl == o.s.pl)=true:=by simpa using hag.2
    have HX:Hid (dS e L=false):=rM Hlt.out (by rw[←Ho.out];exact kN hag.1 hag.2)
    clear hag
    go_upto_region 5 with fail
    refine wp_region_held_drew (S:=fun w'=>V.grownBy w' none) (by kernel_rfl) (ag _) (fun hHeld=>?_)
    refine QZ 0 rfl ?_
    go_frame
    refine QZ 1 rfl ?_
    go_frame
    refine QN 2 rfl ?_
    go_frame
    refine QN 3 rfl ?_
    go_frame
    refine QN 4 rfl ?_
    go_frame
    refine QN 5 rfl ?_
    go_frame
    refine QN 7 rfl ?_
    go_frame
    refine QN 8 rfl ?_
    go_frame
    refine QN 9 rfl ?_
    go_frame
    refine QN 10 rfl ?_
    go_frame
    refine QR 6 rfl (fun K hK=>?_)
    rw[if_neg (Bool.eq_false_iff.1 (by rfl))]
    refine hK.out _ _ (by assumption) (fun hHeld2=>?_)
    clear hK K
    (try go_frame)
    refine QR 11 rfl (fun K hK=>?_)
    rw[if_neg (Bool.eq_false_iff.1 (by rfl))]
    refine hK.out _ _ (by assumption) (fun hHeld2=>?_)
    clear hK K
    (try go_frame)
    refine QN 12 rfl ?_
    go_frame
    refine QZ 13 rfl ?_
    go_frame
    refine QD ?_
    go_wp2_with fail
    go_ret
    exact⟨aJ HX.out.symm,aa HG1.out (aa HG.out (aa HGV.out (ag _)))⟩
   ·have HC:Hid (dF e o=!decide (lay e.s.wh.vb=lay o.s.wh.vb)):=kS hag
    have L1:=kC e.s.wh.vb
    have L2:=kC o.s.wh.vb
    obtain⟨la,hla⟩:∃ la,la=lay e.s.wh.vb:=⟨_,rfl⟩
    obtain⟨lb,hlb⟩:∃ lb,lb=lay o.s.wh.vb:=⟨_,rfl⟩
    rw[←hla] at L1 HC
    rw[←hlb] at L2 HC
    have e0:((e.s.th == o.s.th) && (e.s.pl == o.s.pl))=false:=by
     by_cases h1:e.s.th=o.s.th
     ·have h2:¬e.s.pl=o.s.pl:=fun q=>hag ⟨h1,q⟩
      simp[h2]
     ·simp[h1]
    clear hla hlb hag
    go_cut [7] from 14 to 29 (fun x7 wc=>x7=.bool false∧wc=V)
    case first =>
     cases e1:(e.s.th == o.s.th) with
     | false =>
      go_wp2_with fail
      go_meet
      exact⟨rfl,rfl⟩
     | true =>
      have e2:(e.s.pl == o.s.pl)=false:=by rw[e1] at e0;simpa using e0
      go_wp2_with fail
      go_meet
      exact⟨rfl,rfl⟩
    case rest =>
     obtain⟨rfl,hwc⟩:=hcut
     obtain rfl:V=wc:=hwc.symm
     go_upto_region 5 with fail
     refine wp_region_held_drew (S:=fun w'=>V.grownBy w' none) (by kernel_rfl) (ag _) (fun hHeld=>?_)
     refine QZ 0 rfl ?_
     go_frame
     refine QZ 1 rfl ?_
     go_frame
     refine QZ 2 rfl ?_
     go_frame
     refine QZ 3 rfl ?_
     go_frame
     refine QZ 4 rfl ?_
     go_frame
     refine QT 5 rfl (by intro w0 hSw;have s3:=hSw.cell s3 (by simp);go_simp;try with_reducible rfl) ?_
     go_frame
     refine QZ 7 rfl ?_
     go_frame
     refine QZ 8 rfl ?_
     go_frame
     refine QZ 9 rfl ?_
     go_frame
     refine QT 10 rfl (by intro w0 hSw;have o3:=hSw.cell o3 (by simp);go_simp;try with_reducible rfl) ?_
     go_frame
     refine QR 6 rfl (fun K hK=>?_)
     rw[if_pos (by rfl)]
     go_simp
     go_at_call 237
     refine(L1 _).mono ?_
     rintro e3 w3 ⟨rfl,h3⟩
     obtain rfl:V.drew=w3:=h3.symm
     refine hK.out _ _ (ag _) (fun hHeld2=>?_)
     clear hK K
     (try go_frame)
     refine QR 11 rfl (fun K hK=>?_)
     rw[if_pos (by rfl)]
     go_simp
     go_at_call 237
     refine(L2 _).mono ?_
     rintro e4 w4 ⟨rfl,h4⟩
     obtain rfl:V.drew=w4:=h4.symm
     refine hK.out _ _ (ag _) (fun hHeld2=>?_)
     clear hK K
     (try go_frame)
     refine QZ 12 rfl ?_
     go_frame
     refine QZ 13 rfl ?_
     go_frame
     refine QD ?_
     clear hHeld hHeld2 s0 s1 s2 s3 s4 s5 s6 s7 s8 s9 s10 o0 o1 o2 o3 o4 o5 o6 o7 o8 o9 o10 L1 L2
     by_cases hab:la=lb
     ·have e5:(la != lb)=false:=by simpa using hab
      have HX:Hid (∀ j,j<k+1→dF e (L.getD j Se.none)=false):=fun j hj=>by
       by_cases q:j=k
       ·rw[q,←Ho.out,HC.out,decide_eq_true hab];rfl
       ·exact HF.out j (by omega)
      clear hab
      go_wp2_with fail
      go_roundw
      case rel=>exact⟨k+1,Hlt.out,by first | rfl | (rw[hwk];rfl) | go_num,HX.out,aa HG.out (aa HGV.out (ag _))⟩
      case measure=>first | exact HM.out | (rw[hwk];exact HM.out)
     ·have e5:(la != lb)=true:=by simpa using hab
      have HX:Hid (dS e L=false):=rM Hlt.out (by rw[←Ho.out,HC.out,decide_eq_false hab];rfl)
      clear hab
      go_wp2_with fail
      go_ret
      exact⟨aJ HX.out.symm,aa HG1.out (aa HG.out (aa HGV.out (ag _)))⟩
  ·obtain rfl:k=L.length:=Nat.le_antisymm hk (Nat.le_of_not_lt hlt)
   have HX:Hid (dS e L=true):=wW HF.out
   clear hlt hk
   go_wp2_with fail
   go_ret
   exact⟨aJ HX.out.symm,aa HG1.out HG.out⟩
end Go.Proofs.YthfjgpjcepmnmaaGreat
