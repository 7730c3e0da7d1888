import Derived.Test.YtjmepebbcnhalaaGreatLyQ
namespace Go.Proofs.YtjmepebbcnhalaaGreat
set_option maxRecDepth 100000
set_option maxHeartbeats 4000000
open Go.RowKit Go.Shelf
variable {ps:List Pt} {s:Sd} {i c j:Nat} {w w':World} {R:List Rw} {e:Se} {L:List Se}
theorem zG (h:s.pl<0):cZ ps s=false:=by unfold cZ;rw[Qx (show ¬0≤s.pl by omega)];rfl
theorem vM (h:(ps.length:Int)≤s.pl):cZ ps s=false:=by unfold cZ;rw[Qx (show ¬s.pl<(ps.length:Int) by omega)];simp
theorem tu {m:Nat} (e:s.pl=(m:Int)) (h:m<ps.length):cZ ps s=(decide (s.wh.wn=5) && bV (ps.getD m Pt.none) s.wh):=by
 unfold cZ
 rw[e,Qy (by omega),Qy (by omega)]
 rfl
theorem mA (h:Hd) (u:Value) (ps:List Pt) (s:Sd) (w:World) (P:cD w u ps) (hl:s.pl<0):Calls Tryz.prog 256 #[cv h u,sdv s] w fun e w'=>e=.returned (.bool (cZ ps s))∧w.grownBy w' none:=by
 obtain⟨a,k,rfl⟩:=P.form
 obtain⟨W1,hW1⟩:=Qe ((w.alloc (.cells #[.string h.nm,.int .u8 h.su,.int .u8 h.kd,.int .i64 h.co,.int .i64 h.po,.int .i64 h.he,.int .u16 h.tr,.bool h.tk,.slice a ps.length k] 111)).alloc (.cells #[.int .i64 s.th,.int .i64 s.pl,.int .u8 s.wh.wn,.int .u8 s.wh.vb,.int .u8 s.wh.wm,.int .i64 s.wh.ct,.int .u8 s.wh.su,.int .u8 s.wh.tr,.int .u8 s.wh.mr,.string s.wh.nm] 64))
 have HG1:Hid (w.grownBy W1 none):=by rw[hW1];exact al QG _
 have HC:Hid (W1.heap[w.heap.size]?=some (.cells #[.string h.nm,.int .u8 h.su,.int .u8 h.kd,.int .i64 h.co,.int .i64 h.po,.int .i64 h.he,.int .u16 h.tr,.bool h.tk,.slice a ps.length k] 111 (0,0))):=by rw[hW1];exact ag QG (ak w _ _) (by simp)
 have HS:Hid (SdB W1 (w.heap.size+1) s):=by rw[hW1];exact aO _ _ _ _
 have HP:Hid (cD W1 (.slice a ps.length k) ps):=P.keep HG1.out
 have HE:Hid (cZ ps s=false):=zG hl
 unfold cv sdv
 clear P
 go_enter Tryz.func256,Tryz.ntmps256
 go_upto_region 1 with fail
 rw[←hW1]
 clear hW1
 obtain⟨n0,h0⟩:=Qe (w.heap.size)
 simp only[←h0] at HC HS ⊢
 obtain⟨n1,h1⟩:=Qe (n0+1)
 simp only[←h1] at HS ⊢
 clear h0 h1
 obtain⟨s0,s1,s2,s3,s4,s5,s6,s7,s8,s9⟩:=bS HS.out
 have d8:=QS (aa HC.out 8) (.slice a ps.length k) rfl
 go_wp2
 go_ret
 exact⟨cM HE.out.symm,HG1.out⟩
theorem lu (h:Hd) (u:Value) (ps:List Pt) (s:Sd) (w:World) (P:cD w u ps) (hl:0≤s.pl) (hh:(ps.length:Int)≤s.pl):Calls Tryz.prog 256 #[cv h u,sdv s] w fun e w'=>e=.returned (.bool (cZ ps s))∧w.grownBy w' none:=by
 obtain⟨a,k,rfl⟩:=P.form
 obtain⟨W1,hW1⟩:=Qe ((w.alloc (.cells #[.string h.nm,.int .u8 h.su,.int .u8 h.kd,.int .i64 h.co,.int .i64 h.po,.int .i64 h.he,.int .u16 h.tr,.bool h.tk,.slice a ps.length k] 111)).alloc (.cells #[.int .i64 s.th,.int .i64 s.pl,.int .u8 s.wh.wn,.int .u8 s.wh.vb,.int .u8 s.wh.wm,.int .i64 s.wh.ct,.int .u8 s.wh.su,.int .u8 s.wh.tr,.int .u8 s.wh.mr,.string s.wh.nm] 64))
 have HG1:Hid (w.grownBy W1 none):=by rw[hW1];exact al QG _
 have HC:Hid (W1.heap[w.heap.size]?=some (.cells #[.string h.nm,.int .u8 h.su,.int .u8 h.kd,.int .i64 h.co,.int .i64 h.po,.int .i64 h.he,.int .u16 h.tr,.bool h.tk,.slice a ps.length k] 111 (0,0))):=by rw[hW1];exact ag QG (ak w _ _) (by simp)
 have HS:Hid (SdB W1 (w.heap.size+1) s):=by rw[hW1];exact aO _ _ _ _
 have HP:Hid (cD W1 (.slice a ps.length k) ps):=P.keep HG1.out
 have HE:Hid (cZ ps s=false):=vM hh
 have e1:decide (s.pl<0)=false:=Qx (by omega)
 unfold cv sdv
 clear P
 go_enter Tryz.func256,Tryz.ntmps256
 go_upto_region 1 with fail
 rw[←hW1]
 clear hW1
 obtain⟨n0,h0⟩:=Qe (w.heap.size)
 simp only[←h0] at HC HS ⊢
 obtain⟨n1,h1⟩:=Qe (n0+1)
 simp only[←h1] at HS ⊢
 clear h0 h1
 obtain⟨s0,s1,s2,s3,s4,s5,s6,s7,s8,s9⟩:=bS HS.out
 have d8:=QS (aa HC.out 8) (.slice a ps.length k) rfl
 go_wp2
 go_ret
 exact⟨cM HE.out.symm,HG1.out⟩
theorem n7 (h:Hd) (u:Value) (ps:List Pt) (s:Sd) (w:World) (P:cD w u ps) (m:Nat) (he:s.pl=(m:Int)) (hm:m<ps.length) (hwn:¬s.wh.wn=5):Calls Tryz.prog 256 #[cv h u,sdv s] w fun e w'=>e=.returned (.bool (cZ ps s))∧w.grownBy w' none:=by
 obtain⟨a,k,rfl⟩:=P.form
 obtain⟨W1,hW1⟩:=Qe ((w.alloc (.cells #[.string h.nm,.int .u8 h.su,.int .u8 h.kd,.int .i64 h.co,.int .i64 h.po,.int .i64 h.he,.int .u16 h.tr,.bool h.tk,.slice a ps.length k] 111)).alloc (.cells #[.int .i64 s.th,.int .i64 s.pl,.int .u8 s.wh.wn,.int .u8 s.wh.vb,.int .u8 s.wh.wm,.int .i64 s.wh.ct,.int .u8 s.wh.su,.int .u8 s.wh.tr,.int .u8 s.wh.mr,.string s.wh.nm] 64))
 have HG1:Hid (w.grownBy W1 none):=by rw[hW1];exact al QG _
 have HC:Hid (W1.heap[w.heap.size]?=some (.cells #[.string h.nm,.int .u8 h.su,.int .u8 h.kd,.int .i64 h.co,.int .i64 h.po,.int .i64 h.he,.int .u16 h.tr,.bool h.tk,.slice a ps.length k] 111 (0,0))):=by rw[hW1];exact ag QG (ak w _ _) (by simp)
 have HS:Hid (SdB W1 (w.heap.size+1) s):=by rw[hW1];exact aO _ _ _ _
 have HP:Hid (cD W1 (.slice a ps.length k) ps):=P.keep HG1.out
 obtain⟨g,off,cap,e2,hP⟩:=HP.out.part (Nat.lt_of_le_of_lt (Q0 _) hm)
 injection e2 with e2 _ e3
 subst e2
 subst e3
 have HP8:Hid (P8 W1 g (off+m*8) (ps.getD m Pt.none)):=hP m _ (qv hm)
 have HE:Hid (cZ ps s=(decide (s.wh.wn=5) && bV (ps.getD m Pt.none) s.wh)):=tu he hm
 obtain⟨p,hp⟩:=Qe (ps.getD m Pt.none)
 rw[←hp] at HP8 HE
 have Hpl:Hid (s.pl=(m:Int)):=he
 have hm':(m:Int)<ps.length:=Int.ofNat_lt.2 hm
 have hm2:decide ((ps.length:Int)≤(m:Int))=false:=Qx (by omega)
 have Hwn:Hid (¬s.wh.wn=5):=hwn
 clear hP hp hwn he hm
 unfold cv sdv
 clear P
 go_enter Tryz.func256,Tryz.ntmps256
 go_upto_region 1 with fail
 rw[←hW1]
 clear hW1
 obtain⟨n0,h0⟩:=Qe (w.heap.size)
 simp only[←h0] at HC HS ⊢
 obtain⟨n1,h1⟩:=Qe (n0+1)
 simp only[←h1] at HS ⊢
 clear h0 h1
 obtain⟨s0,s1,s2,s3,s4,s5,s6,s7,s8,s9⟩:=bS HS.out
 have d8:=QS (aa HC.out 8) (.slice (some ⟨g,off,none⟩) ps.length k) rfl
 rw[Hpl.out] at s1
 have m0:¬(m:Int)<0:=by omega
 go_upto_region 3 with fail
 have e5:(s.wh.wn == 5)=false:=by simpa using Hwn.out
 refine wp_region_held_drew (S:=fun w'=>W1.grownBy w' none) (by kernel_rfl) (ai _) (fun hHeld=>?_)
 refine QZ 0 rfl ?_
 go_frame
 refine QZ 1 rfl ?_
 go_frame
 refine QT 2 rfl (by intro w0 hSw;have s2:=QK hSw s2;go_simp;try with_reducible rfl) ?_
 go_frame
 refine QZ 3 rfl ?_
 go_frame
 refine QZ 4 rfl ?_
 go_frame
 refine QN 5 rfl ?_
 go_frame
 refine QN 6 rfl ?_
 go_frame
 refine QN 7 rfl ?_
 go_frame
 refine QN 8 rfl ?_
 go_frame
 refine QN 9 rfl ?_
 go_frame
 refine QN 10 rfl ?_
 go_frame
 refine QN 11 rfl ?_
 go_frame
 refine QN 12 rfl ?_
 go_frame
 refine QR 13 rfl (fun K hK=>?_)
 rw[if_neg (Bool.eq_false_iff.1 (by rfl))]
 refine hK.out _ _ (by assumption) (fun hHeld2=>?_)
 clear hK K
 (try go_frame)
 refine QZ 14 rfl ?_
 go_frame
 refine QZ 15 rfl ?_
 go_frame
 refine QD ?_
 go_wp2_with fail
 go_ret
 exact⟨cM (by rw[HE.out,Qx Hwn.out];rfl),ae HG1.out (ai _)⟩
theorem my (h:Hd) (u:Value) (ps:List Pt) (s:Sd) (w:World) (P:cD w u ps) (m:Nat) (he:s.pl=(m:Int)) (hm:m<ps.length) (hwn:s.wh.wn=5):Calls Tryz.prog 256 #[cv h u,sdv s] w fun e w'=>e=.returned (.bool (cZ ps s))∧w.grownBy w' none:=by
 obtain⟨a,k,rfl⟩:=P.form
 obtain⟨W1,hW1⟩:=Qe ((w.alloc (.cells #[.string h.nm,.int .u8 h.su,.int .u8 h.kd,.int .i64 h.co,.int .i64 h.po,.int .i64 h.he,.int .u16 h.tr,.bool h.tk,.slice a ps.length k] 111)).alloc (.cells #[.int .i64 s.th,.int .i64 s.pl,.int .u8 s.wh.wn,.int .u8 s.wh.vb,.int .u8 s.wh.wm,.int .i64 s.wh.ct,.int .u8 s.wh.su,.int .u8 s.wh.tr,.int .u8 s.wh.mr,.string s.wh.nm] 64))
 have HG1:Hid (w.grownBy W1 none):=by rw[hW1];exact al QG _
 have HC:Hid (W1.heap[w.heap.size]?=some (.cells #[.string h.nm,.int .u8 h.su,.int .u8 h.kd,.int .i64 h.co,.int .i64 h.po,.int .i64 h.he,.int .u16 h.tr,.bool h.tk,.slice a ps.length k] 111 (0,0))):=by rw[hW1];exact ag QG (ak w _ _) (by simp)
 have HS:Hid (SdB W1 (w.heap.size+1) s):=by rw[hW1];exact aO _ _ _ _
 have HP:Hid (cD W1 (.slice a ps.length k) ps):=P.keep HG1.out
 obtain⟨g,off,cap,e2,hP⟩:=HP.out.part (Nat.lt_of_le_of_lt (Q0 _) hm)
 injection e2 with e2 _ e3
 subst e2
 subst e3
 have HP8:Hid (P8 W1 g (off+m*8) (ps.getD m Pt.none)):=hP m _ (qv hm)
 have HE:Hid (cZ ps s=(decide (s.wh.wn=5) && bV (ps.getD m Pt.none) s.wh)):=tu he hm
 obtain⟨p,hp⟩:=Qe (ps.getD m Pt.none)
 rw[←hp] at HP8 HE
 have Hpl:Hid (s.pl=(m:Int)):=he
 have hm':(m:Int)<ps.length:=Int.ofNat_lt.2 hm
 have hm2:decide ((ps.length:Int)≤(m:Int))=false:=Qx (by omega)
 have Hwn:Hid (s.wh.wn=5):=hwn
 clear hP hp hwn he hm
 unfold cv sdv
 clear P
 go_enter Tryz.func256,Tryz.ntmps256
 go_upto_region 1 with fail
 rw[←hW1]
 clear hW1
 obtain⟨n0,h0⟩:=Qe (w.heap.size)
 simp only[←h0] at HC HS ⊢
 obtain⟨n1,h1⟩:=Qe (n0+1)
 simp only[←h1] at HS ⊢
 clear h0 h1
 obtain⟨s0,s1,s2,s3,s4,s5,s6,s7,s8,s9⟩:=bS HS.out
 have d8:=QS (aa HC.out 8) (.slice (some ⟨g,off,none⟩) ps.length k) rfl
 rw[Hpl.out] at s1
 have m0:¬(m:Int)<0:=by omega
 go_upto_region 3 with fail
 have e5:(s.wh.wn == 5)=true:=by simpa using Hwn.out
 have CS:=AN p s.wh W1.drew
 obtain⟨r,hr⟩:=Qe (bV p s.wh)
 rw[←hr] at CS HE
 unfold pv at CS
 clear hr
 have q0:=HP8.out.c0
 have q1:=HP8.out.c1
 have q2:=HP8.out.c2
 have q3:=HP8.out.c3
 have q4:=HP8.out.c4
 have q5:=HP8.out.c5
 have q6:=HP8.out.c6
 have q7:=HP8.out.c7
 refine wp_region_held_drew (S:=fun w'=>W1.grownBy w' none) (by kernel_rfl) (ai _) (fun hHeld=>?_)
 refine QZ 0 rfl ?_
 go_frame
 refine QZ 1 rfl ?_
 go_frame
 refine QT 2 rfl (by intro w0 hSw;have s2:=QK hSw s2;go_simp;try with_reducible rfl) ?_
 go_frame
 refine QZ 3 rfl ?_
 go_frame
 refine QZ 4 rfl ?_
 go_frame
 refine QZ 5 rfl ?_
 go_frame
 refine QT 6 rfl (by intro w0 hSw;have d8:=QK hSw d8;go_simp;try with_reducible rfl) ?_
 go_frame
 refine QZ 7 rfl ?_
 go_frame
 refine QT 8 rfl (by intro w0 hSw;have s1:=QK hSw s1;go_simp;try with_reducible rfl) ?_
 go_frame
 refine QZ 9 rfl ?_
 go_frame
 refine QT 10 rfl (by intro w0 hSw;have q0:=QK hSw q0;have q1:=QK hSw q1;have q2:=QK hSw q2;have q3:=QK hSw q3;have q4:=QK hSw q4;have q5:=QK hSw q5;have q6:=QK hSw q6;have q7:=QK hSw q7;go_simp;try with_reducible rfl) ?_
 go_frame
 refine QZ 11 rfl ?_
 go_frame
 refine QT 12 rfl (by intro w0 hSw;have s2:=QK hSw s2;have s3:=QK hSw s3;have s4:=QK hSw s4;have s5:=QK hSw s5;have s6:=QK hSw s6;have s7:=QK hSw s7;have s8:=QK hSw s8;have s9:=QK hSw s9;go_simp;try with_reducible rfl) ?_
 go_frame
 refine QR 13 rfl (fun K hK=>?_)
 rw[if_pos (by rfl)]
 go_simp
 go_at_call 292
 refine(CS).mono ?_
 rintro e3 w3 ⟨rfl,g3⟩
 have HG3:Hid (W1.grownBy w3 none):=ae (ai _) g3
 clear g3 CS
 refine hK.out _ _ (HG3.out) (fun hHeld2=>?_)
 clear hK K
 (try go_frame)
 refine QZ 14 rfl ?_
 go_frame
 refine QZ 15 rfl ?_
 go_frame
 refine QD ?_
 go_wp2_with fail
 go_ret
 exact⟨cM (by rw[HE.out,Qy Hwn.out];rfl),ae HG1.out HG3.out⟩
theorem mj (h:Hd) (u:Value) (ps:List Pt) (s:Sd) (w:World) (P:cD w u ps):Calls Tryz.prog 256 #[cv h u,sdv s] w fun e w'=>e=.returned (.bool (cZ ps s))∧w.grownBy w' none:=by
 by_cases h1:s.pl<0
 ·exact mA h u ps s w P h1
 ·by_cases h2:(ps.length:Int)≤s.pl
  ·exact lu h u ps s w P (by omega) h2
  ·by_cases h3:s.wh.wn=5
   ·exact my h u ps s w P s.pl.toNat (by omega) (by omega) h3
   ·exact n7 h u ps s w P s.pl.toNat (by omega) (by omega) h3
theorem xP (x:Rv) (n:Nat) (th:Int) (W:World) (c:W.cell? ⟨n,0,none⟩=some (.int .i64 th)):Calls Tryz.prog 255 #[.agg (rvc x).toArray,.pointer (some ⟨n,0,none⟩)] W fun e w'=>e=.returned (.bool (decide (x.r.nu=th)))∧W.grownBy w' none:=by
 have HE:Hid ((x.r.nu == th)=decide (x.r.nu=th)):=ka _ _
 obtain⟨V,hV⟩:=Qe (W.alloc (.cells #[.int .i64 x.r.nu,.int .i64 x.r.st,.string x.r.h.nm,.int .u8 x.r.h.su,.int .u8 x.r.h.kd,.int .i64 x.r.h.co,.int .i64 x.r.h.po,.int .i64 x.r.h.he,.int .u16 x.r.h.tr,.bool x.r.h.tk,.slice x.pa x.r.ps.length x.ca] 230))
 have HGV:Hid (W.grownBy V none):=by rw[hV];exact QG
 have z0:V.cell? ⟨W.heap.size,0,none⟩=some (.int .i64 x.r.nu):=by rw[hV];exact(aa (ak _ _ _) 0).trans rfl
 have z1:=HGV.out.cell c (by simp)
 unfold rvc Rv.u
 clear c
 go_enter Tryz.func255,Tryz.ntmps255
 go_upto_region 1 with fail
 rw[←hV]
 clear hV
 go_wp2
 go_ret
 exact⟨cM HE.out,HGV.out⟩
def yA (R:List Rw) (n:Int):Int:=match eV R n with | some i=>(i:Int) | none=>-1
theorem xo (d:Rv):∀ (X:List Rv) (th:Int) (i:Nat),Lib.idxByFrom (fun _ (y:Rv)=>decide (y.r.nu=th)) d X i=(match eV (rws X) th with | some j=>((i+j:Nat):Int) | none=>-1)
 | [],th,i=>rfl
 | x :: X,th,i=>by
  have ih:=xo d X th (i+1)
  unfold eV rws at ih ⊢
  rw[Lib.idxByFrom,ih,List.map_cons,List.findIdx?_cons]
  by_cases h:x.r.nu=th
  ·rw[if_pos (by simpa using h),if_pos (by simpa using h)]
   rfl
  ·rw[if_neg (by simpa using h),if_neg (by simpa using h)]
   cases hf:List.findIdx? (fun r=>decide (r.nu=th)) (X.map Rv.r) with
   | none=>rfl
   | some j =>
    show ((i+1+j:Nat):Int)=((i+(j+1):Nat):Int)
    omega
theorem oI (p:Option Addr) (c:Nat) (fv:Value) (w:World):Calls Tryz.prog 254 #[.slice p 0 c,fv] w fun e w'=>e=.returned (.int .i64 (-1))∧w'=w:=by
 go_enter Tryz.func254,Tryz.ntmps254
 go_wp2_with fail
 refine wp_loop_rounds 1 ?_
 rw[rounds_succ]
 go_wp2
 go_ret
 exact⟨rfl,rfl⟩
theorem pC (v:Value) (X:List Rv) (n:Nat) (th:Int) (w:World) (A:rvR.At w v X) (h16:X.length≤16) (c:w.cell? ⟨n,0,none⟩=some (.int .i64 th)):Calls Tryz.prog 254 #[v,.func (.func 255) #[] #[.pointer (some ⟨n,0,none⟩)]] w fun e w'=>e=.returned (.int .i64 (yA (rws X) th))∧w.grownBy w' none:=by
 by_cases h0:X.length=0
 ·have e1:X=[]:=List.length_eq_zero_iff.1 h0
  subst e1
  obtain⟨p,cap,rfl⟩:=A.form
  refine(oI p cap _ w).mono ?_
  rintro e w' ⟨rfl,rfl⟩
  exact⟨rfl,ay _ _⟩
 ·obtain⟨p,cap,e1,_,hA⟩:=A
  obtain⟨g,off,e2,hR⟩:=hA (Nat.pos_of_ne_zero h0)
  subst e2
  subst e1
  haveI:Inhabited Rv:=⟨⟨Rw.none,none,0⟩⟩
  have eg:∀ args w,(callFunc 255 args).run Tryz.prog w=.ok (.enter 255 args) w:=enters_of Tryz.func255 (by kernel_rfl) rfl
  have hb:g<w.heap.size:=World.block_lt_of_cell? _ _ (eM (hR 0 X[0] (Qg (Nat.pos_of_ne_zero h0)))).1
  have hS:=AnyQ.slices_IndexFunc Tryz.idxR 11 Tryz.isAgg230 Tryz.sizeOf230 rvc (fun _=>rfl) (fun y=>decide (y.r.nu=th)) 255 #[.pointer (some ⟨n,0,none⟩)] eg g off X.length cap X w
   (fun W x hW=>(xP x n th W ((hW.cell (p:=⟨n,0,none⟩) (World.block_lt_of_cell? _ _ c)).trans c)).mono fun e w' q=>⟨q.1,hW.trans ((lM q.2).mono hW.size)⟩)
   (Qj _) (by omega) hb (fun j hj i u hu=>by
    have q:=hR j X[j] (Qg hj) i u
    rw[show X[j]! = X[j] from by simp[hj]] at hu
    exact q hu)
  change Calls Tryz.prog 254 _ _ _ at hS
  refine hS.mono ?_
  rintro e w' ⟨rfl,hb'⟩
  refine⟨jr ?_,⟨hb'.os,hb'.tape,hb'.output,hb'.size,fun k hk _=>hb'.block k hk⟩⟩
  rw[List.take_length]
  have:=xo default X th 0
  unfold yA
  simp only[Nat.zero_add] at this
  show Lib.idxByFrom _ _ X 0=_
  exact this
end Go.Proofs.YtjmepebbcnhalaaGreat
namespace Go.Proofs.YtjmepebbcnhalaaGreat
set_option maxRecDepth 100000
set_option maxHeartbeats 4000000
open Go.RowKit
variable {ps:List Pt} {s:Sd} {i c j:Nat} {w w':World} {R:List Rw} {e:Se} {L:List Se}
theorem tn {X:List Rv} {th:Int} (h:eV (rws X) th=some i):i<X.length:=by
 unfold eV at h
 have:=(List.findIdx?_eq_some_iff_getElem.1 h).1
 rwa [cQ] at this
def kW (w:World) (R:List Rw) (s:Sd) (e:Ending) (w':World):Prop:=e=.returned (.tuple #[sev ((bH R s).getD Se.none),.bool (bH R s).isSome])∧w.grownBy w' none
theorem kW.no (h:bH R s=none) (g:w.grownBy w' none):kW w R s (.returned (.tuple #[.agg #[.int .i64 0,.int .i64 0,.int .u8 0,.int .u8 0,.int .u8 0,.int .i64 0,.int .u8 0,.int .u8 0,.int .u8 0,.string ⟨#[]⟩,.int .i64 0],.bool false])) w':=⟨by rw[h];rfl,g⟩
theorem iR {a b:World} (h:a.grownBy b none) (hc:a.heap.size≤c) (v0 v1 v2 v3 v4 v5 v6 v7 v8 v9 v10:Value):a.grownBy (((((((((((b.setCell ⟨c,0,none⟩ v0).setCell ⟨c,1,none⟩ v1).setCell ⟨c,2,none⟩ v2).setCell ⟨c,3,none⟩ v3).setCell ⟨c,4,none⟩ v4).setCell ⟨c,5,none⟩ v5).setCell ⟨c,6,none⟩ v6).setCell ⟨c,7,none⟩ v7).setCell ⟨c,8,none⟩ v8).setCell ⟨c,9,none⟩ v9).setCell ⟨c,10,none⟩ v10) none:=am (am (am (am (am (am (am (am (am (am (am h hc _ _) hc _ _) hc _ _) hc _ _) hc _ _) hc _ _) hc _ _) hc _ _) hc _ _) hc _ _) hc _ _
theorem yW (vr vf:Value) (X:List Rv) (F:List Fe) (s:Sd) (w:World) (T:dX w vr vf X F):Calls Tryz.prog 197 #[tbv vr vf,sdv s] w (kW w (rws X) s):=by
 have hmf:∀ (fn:Fn) (first cap:Array Value) (w:World),(Instr.makeFunc fn first cap).run Tryz.prog w=.ok (.func fn first cap) w:=fun _ _ _ _=>rfl
 obtain⟨pr,cr,rfl⟩:=T.rows.form
 obtain⟨pf,cf,rfl⟩:=T.fs.form
 obtain⟨W1,hW1⟩:=Qe (((w.alloc (.cells #[.slice pr X.length cr,.slice pf F.length cf] 125)).alloc (.cells #[.int .i64 s.th,.int .i64 s.pl,.int .u8 s.wh.wn,.int .u8 s.wh.vb,.int .u8 s.wh.wm,.int .i64 s.wh.ct,.int .u8 s.wh.su,.int .u8 s.wh.tr,.int .u8 s.wh.mr,.string s.wh.nm] 64)).alloc (.cells #[.int .i64 0,.int .i64 0,.int .u8 0,.int .u8 0,.int .u8 0,.int .i64 0,.int .u8 0,.int .u8 0,.int .u8 0,.string ⟨#[]⟩,.int .i64 0] 131))
 have HG1:Hid (w.grownBy W1 none):=by rw[hW1];exact al (al QG _) _
 have HB:Hid (TbB W1 w.heap.size (.slice pr X.length cr) (.slice pf F.length cf)):=by rw[hW1];exact ag (al QG _) (ak w _ _) (by simp)
 have HS:Hid (SdB W1 (w.heap.size+1) s):=by rw[hW1];exact ag QG (aO _ _ _ _) (by simp)
 have HR:Hid (W1.heap[w.heap.size+1+1]?=some (.cells #[.int .i64 0,.int .i64 0,.int .u8 0,.int .u8 0,.int .u8 0,.int .i64 0,.int .u8 0,.int .u8 0,.int .u8 0,.string ⟨#[]⟩,.int .i64 0] 131 (0,0))):=by rw[hW1];exact bR _ _ _ _ _
 have HT:Hid (dX W1 (.slice pr X.length cr) (.slice pf F.length cf) X F):=T.keep HG1.out
 have HIx:=pC (.slice pr X.length cr) X (w.heap.size+1) s.th W1 HT.out.rows HT.out.few (bS HS.out).1
 unfold tbv sdv
 clear T
 go_enter Tryz.func197,Tryz.ntmps197
 go_upto_region 1 with fail
 rw[←hW1]
 clear hW1
 obtain⟨n0,h0⟩:=Qe (w.heap.size)
 have HN:Hid (w.heap.size≤n0+1+1):=by show _≤_;omega
 simp only[←h0] at HB HS HR HIx ⊢
 obtain⟨n1,h1⟩:=Qe (n0+1)
 simp only[←h1] at HS HR HIx HN ⊢
 obtain⟨n2,h2⟩:=Qe (n1+1)
 simp only[←h2] at HR HN ⊢
 clear h0 h1 h2
 obtain⟨b0,b1⟩:=bP HB.out
 go_wp2_with (go_at_call 254;refine HIx.mono ?_;rintro e2 w2 ⟨rfl,g2⟩;have HG2:Hid (W1.grownBy w2 none):=g2;clear HIx g2)
 clear b0 b1 hmf
 have HR2:Hid (w2.heap[n2]?=some (.cells #[.int .i64 0,.int .i64 0,.int .u8 0,.int .u8 0,.int .u8 0,.int .i64 0,.int .u8 0,.int .u8 0,.int .u8 0,.string ⟨#[]⟩,.int .i64 0] 131 (0,0))):=ag HG2.out HR.out (by simp)
 have HGw:Hid (w.grownBy w2 none):=ae HG1.out HG2.out
 cases hrow:eV (rws X) s.th with
 | none =>
  rw[show yA (rws X) s.th=-1 from by unfold yA;rw[hrow]]
  have HX:Hid (bH (rws X) s=none):=by show _=_;unfold bH;rw[hrow]
  clear hrow
  go_upto_region 2 with fail
  refine wp_region_held_drew (S:=fun w'=>w2.grownBy w' none) (by kernel_rfl) (ai _) (fun hHeld=>?_)
  refine QZ 0 rfl ?_
  go_frame
  refine QZ 1 rfl ?_
  go_frame
  refine QZ 2 rfl ?_
  go_frame
  refine QN 3 rfl ?_
  go_frame
  refine QN 4 rfl ?_
  go_frame
  refine QN 5 rfl ?_
  go_frame
  refine QN 6 rfl ?_
  go_frame
  refine QN 7 rfl ?_
  go_frame
  refine QN 8 rfl ?_
  go_frame
  refine QN 9 rfl ?_
  go_frame
  refine QR 10 rfl (fun K hK=>?_)
  rw[if_neg (Bool.eq_false_iff.1 (by rfl))]
  refine hK.out _ _ (by assumption) (fun hHeld2=>?_)
  clear hK K
  (try go_frame)
  refine QN 11 rfl ?_
  go_frame
  refine QZ 12 rfl ?_
  go_frame
  refine QD ?_
  obtain⟨D,hD⟩:=Qe (w2.drew)
  have HRD:Hid (D.heap[n2]?=some (.cells #[.int .i64 0,.int .i64 0,.int .u8 0,.int .u8 0,.int .u8 0,.int .i64 0,.int .u8 0,.int .u8 0,.int .u8 0,.string ⟨#[]⟩,.int .i64 0] 131 (0,0))):=by rw[hD];exact HR2.out
  have HGD:Hid (w.grownBy D none):=by rw[hD];exact ae HGw.out (ai _)
  rw[←hD]
  clear hHeld hD
  have r0:=QS (aa HRD.out 0) (.int .i64 0) rfl
  have r1:=QS (aa HRD.out 1) (.int .i64 0) rfl
  have r2:=QS (aa HRD.out 2) (.int .u8 0) rfl
  have r3:=QS (aa HRD.out 3) (.int .u8 0) rfl
  have r4:=QS (aa HRD.out 4) (.int .u8 0) rfl
  have r5:=QS (aa HRD.out 5) (.int .i64 0) rfl
  have r6:=QS (aa HRD.out 6) (.int .u8 0) rfl
  have r7:=QS (aa HRD.out 7) (.int .u8 0) rfl
  have r8:=QS (aa HRD.out 8) (.int .u8 0) rfl
  have r9:=QS (aa HRD.out 9) (.string ⟨#[]⟩) rfl
  have r10:=QS (aa HRD.out 10) (.int .i64 0) rfl
  have rf:=fun i=>au HRD.out i
  go_wp2_with fail
  refine bodyPost_ret (v:=.tuple #[.agg #[.int .i64 0,.int .i64 0,.int .u8 0,.int .u8 0,.int .u8 0,.int .i64 0,.int .u8 0,.int .u8 0,.int .u8 0,.string ⟨#[]⟩,.int .i64 0],.bool false]) (by simp[results,Tryz.results197,go_sem,r0,r1,r2,r3,r4,r5,r6,r7,r8,r9,r10]) rfl (kW.no HX.out ?_)
  exact iR HGD.out HN.out _ _ _ _ _ _ _ _ _ _ _
 | some i =>
  have hi:=tn hrow
  rw[show yA (rws X) s.th=(i:Int) from by unfold yA;rw[hrow]]
  have HTw:=HT.out.keep HG2.out
  obtain⟨g,off,cap,e1,R⟩:=HTw.row hi
  cases e1
  have hps:=HTw.parts _ (List.getElem_mem hi)
  obtain⟨x,hx⟩:=Qe (X[i])
  rw[←hx] at R hps
  have HX:Hid (bH (rws X) s=if cZ x.r.ps s then some ⟨s,i⟩ else none):=by show _=_;unfold bH;rw[hrow];show (if cZ ((rws X).getD i Rw.none).ps s then some (⟨s,i⟩:Se) else none)=_;rw[fI hi,←hx]
  have HH:=mj x.r.h (.slice x.pa x.r.ps.length x.ca) x.r.ps s w2.drew (hps.1.keep (ai _))
  obtain⟨b,hb⟩:=Qe (cZ x.r.ps s)
  rw[←hb] at HH HX
  unfold cv sdv at HH
  obtain⟨c0,c1,c2',c3,c4,c5,c6,c7,c8,c9,c10⟩:=eM R
  have c10':w2.cell? ⟨g,off+i*11+10,none⟩=some (.slice x.pa x.r.ps.length x.ca):=c10
  obtain⟨b0,b1⟩:=bP (show TbB w2 n0 _ _ from ag HG2.out HB.out (by simp))
  obtain⟨s0,s1,s2,s3,s4,s5,s6,s7,s8,s9⟩:=bS (show SdB w2 n1 s from ag HG2.out HS.out (by simp))
  have hi':(i:Int)<X.length:=Int.ofNat_lt.2 hi
  have hi0:¬(i:Int)<0:=by omega
  have hi1:decide ((i:Int)<0)=false:=Qx hi0
  clear hrow hi HTw R hps hx hb c10 c0 c1
  go_upto_region 2 with fail
  refine wp_region_held_drew (S:=fun w'=>w2.grownBy w' none) (by kernel_rfl) (ai _) (fun hHeld=>?_)
  refine QZ 0 rfl ?_
  go_frame
  refine QZ 1 rfl ?_
  go_frame
  refine QZ 2 rfl ?_
  go_frame
  refine QZ 3 rfl ?_
  go_frame
  refine QT 4 rfl (by intro w0 hSw;have b0:=QK hSw b0;go_simp;try with_reducible rfl) ?_
  go_frame
  refine QZ 5 rfl ?_
  go_frame
  refine QZ 6 rfl ?_
  go_frame
  refine QZ 7 rfl ?_
  go_frame
  refine QT 8 rfl (by intro w0 hSw;have c2':=hSw.cell c2' (by simp);have c3:=QK hSw c3;have c4:=QK hSw c4;have c5:=QK hSw c5;have c6:=QK hSw c6;have c7:=QK hSw c7;have c8:=QK hSw c8;have c9:=QK hSw c9;have c10':=hSw.cell c10' (by simp);go_simp;try with_reducible rfl) ?_
  go_frame
  refine QT 9 rfl (by intro w0 hSw;have s0:=QK hSw s0;have s1:=QK hSw s1;have s2:=QK hSw s2;have s3:=QK hSw s3;have s4:=QK hSw s4;have s5:=QK hSw s5;have s6:=QK hSw s6;have s7:=QK hSw s7;have s8:=QK hSw s8;have s9:=QK hSw s9;go_simp;try with_reducible rfl) ?_
  go_frame
  refine QR 10 rfl (fun K hK=>?_)
  rw[if_pos (by rfl)]
  go_simp
  go_at_call 256
  refine(HH).mono ?_
  rintro e3 w3 ⟨rfl,g3⟩
  have HG3:Hid (w2.grownBy w3 none):=ae (ai _) g3
  clear g3 HH
  refine hK.out _ _ (HG3.out) (fun hHeld2=>?_)
  clear hK K
  (try go_frame)
  refine QZ 11 rfl ?_
  go_frame
  refine QZ 12 rfl ?_
  go_frame
  refine QD ?_
  have HR3:Hid (w3.heap[n2]?=some (.cells #[.int .i64 0,.int .i64 0,.int .u8 0,.int .u8 0,.int .u8 0,.int .i64 0,.int .u8 0,.int .u8 0,.int .u8 0,.string ⟨#[]⟩,.int .i64 0] 131 (0,0))):=ag HG3.out HR2.out (by simp)
  have HGw3:Hid (w.grownBy w3 none):=ae HGw.out HG3.out
  clear hHeld hHeld2 b0 b1 s0 s1 s2 s3 s4 s5 s6 s7 s8 s9 c2' c3 c4 c5 c6 c7 c8 c9 c10'
  cases b with
  | false =>
   have r0:=QS (aa HR3.out 0) (.int .i64 0) rfl
   have r1:=QS (aa HR3.out 1) (.int .i64 0) rfl
   have r2:=QS (aa HR3.out 2) (.int .u8 0) rfl
   have r3:=QS (aa HR3.out 3) (.int .u8 0) rfl
   have r4:=QS (aa HR3.out 4) (.int .u8 0) rfl
   have r5:=QS (aa HR3.out 5) (.int .i64 0) rfl
   have r6:=QS (aa HR3.out 6) (.int .u8 0) rfl
   have r7:=QS (aa HR3.out 7) (.int .u8 0) rfl
   have r8:=QS (aa HR3.out 8) (.int .u8 0) rfl
   have r9:=QS (aa HR3.out 9) (.string ⟨#[]⟩) rfl
   have r10:=QS (aa HR3.out 10) (.int .i64 0) rfl
   have rf:=fun i=>au HR3.out i
   go_wp2_with fail
   refine bodyPost_ret (v:=.tuple #[.agg #[.int .i64 0,.int .i64 0,.int .u8 0,.int .u8 0,.int .u8 0,.int .i64 0,.int .u8 0,.int .u8 0,.int .u8 0,.string ⟨#[]⟩,.int .i64 0],.bool false]) (by simp[results,Tryz.results197,go_sem,r0,r1,r2,r3,r4,r5,r6,r7,r8,r9,r10]) rfl (kW.no HX.out ?_)
   exact iR HGw3.out HN.out _ _ _ _ _ _ _ _ _ _ _
  | true =>
   obtain⟨s0,s1,s2,s3,s4,s5,s6,s7,s8,s9⟩:=bS (show SdB w3 n1 s from ag HG3.out (ag HG2.out HS.out (by simp)) (by simp))
   have HY:Hid (bH (rws X) s=some ⟨s,i⟩):=HX.out
   have r0:=QS (aa HR3.out 0) (.int .i64 0) rfl
   have r1:=QS (aa HR3.out 1) (.int .i64 0) rfl
   have r2:=QS (aa HR3.out 2) (.int .u8 0) rfl
   have r3:=QS (aa HR3.out 3) (.int .u8 0) rfl
   have r4:=QS (aa HR3.out 4) (.int .u8 0) rfl
   have r5:=QS (aa HR3.out 5) (.int .i64 0) rfl
   have r6:=QS (aa HR3.out 6) (.int .u8 0) rfl
   have r7:=QS (aa HR3.out 7) (.int .u8 0) rfl
   have r8:=QS (aa HR3.out 8) (.int .u8 0) rfl
   have r9:=QS (aa HR3.out 9) (.string ⟨#[]⟩) rfl
   have r10:=QS (aa HR3.out 10) (.int .i64 0) rfl
   have rf:=fun i=>au HR3.out i
   go_wp2_with fail
   refine bodyPost_ret (v:=.tuple #[.agg #[.int .i64 (⟨s,i⟩:Se).s.th,.int .i64 (⟨s,i⟩:Se).s.pl,.int .u8 (⟨s,i⟩:Se).s.wh.wn,.int .u8 (⟨s,i⟩:Se).s.wh.vb,.int .u8 (⟨s,i⟩:Se).s.wh.wm,.int .i64 (⟨s,i⟩:Se).s.wh.ct,.int .u8 (⟨s,i⟩:Se).s.wh.su,.int .u8 (⟨s,i⟩:Se).s.wh.tr,.int .u8 (⟨s,i⟩:Se).s.wh.mr,.string (⟨s,i⟩:Se).s.wh.nm,.int .i64 ((⟨s,i⟩:Se).ro:Int)],.bool true]) (by simp[results,Tryz.results197,go_sem,r0,r1,r2,r3,r4,r5,r6,r7,r8,r9,r10]) rfl ⟨?_,?_⟩
   ·rw[HY.out];rfl
   ·exact iR HGw3.out HN.out _ _ _ _ _ _ _ _ _ _ _
theorem lN {o:Se} (h:¬(e.s.th=o.s.th∧e.s.pl=o.s.pl)):dN e o=!decide (lay e.s.wh.vb=lay o.s.wh.vb):=by
 unfold dN
 have:(decide (e.s.th=o.s.th) && decide (e.s.pl=o.s.pl))=false:=by
  by_cases h1:e.s.th=o.s.th
  ·by_cases h2:e.s.pl=o.s.pl
   ·exact absurd ⟨h1,h2⟩ h
   ·simp[h2]
  ·simp[h1]
 rw[this]
 rfl
theorem lY {o:Se} (h1:e.s.th=o.s.th) (h2:e.s.pl=o.s.pl):dN e o=true:=by
 unfold dN
 rw[Qy h1,Qy h2]
 rfl
theorem sF (hj:j<L.length) (h:dN e (L.getD j Se.none)=true):dV e L=false:=by
 unfold dV
 rw[List.all_eq_false]
 refine⟨L[j],List.getElem_mem hj,?_⟩
 rw[aB hj] at h
 rw[h]
 simp
theorem yZ (h:∀ j,j<L.length→dN e (L.getD j Se.none)=false):dV e L=true:=by
 unfold dV
 rw[List.all_eq_true]
 intro o ho
 obtain⟨j,hj,e1⟩:=List.mem_iff_getElem.1 ho
 have:=h j hj
 rw[aB hj,e1] at this
 rw[this]
 rfl
theorem we (e:Se) (v:Value) (L:List Se) (w:World) (A:seR.At w v L) (hl:L.length≤4096):Calls Tryz.prog 198 #[sev e,v] w fun e' w'=>e'=.returned (.bool (dV e L))∧w.grownBy w' none:=by
 obtain⟨pl,cl,rfl⟩:=A.form
 obtain⟨W1,hW1⟩:=Qe (w.alloc (.cells #[.int .i64 e.s.th,.int .i64 e.s.pl,.int .u8 e.s.wh.wn,.int .u8 e.s.wh.vb,.int .u8 e.s.wh.wm,.int .i64 e.s.wh.ct,.int .u8 e.s.wh.su,.int .u8 e.s.wh.tr,.int .u8 e.s.wh.mr,.string e.s.wh.nm,.int .i64 (e.ro:Int)] 131))
 have HG1:Hid (w.grownBy W1 none):=by rw[hW1];exact QG
 have HB:Hid (SeB W1 w.heap.size e):=by rw[hW1];exact ak w _ _
 have HA:Hid (seR.At W1 (.slice pl L.length cl) L):=A.keep HG1.out
 have Hl:Hid (L.length≤4096):=hl
 unfold sev
 clear A hl
 go_enter Tryz.func198,Tryz.ntmps198
 go_upto_region 1 with fail
 rw[←hW1]
 clear hW1
 obtain⟨n0,h0⟩:=Qe (w.heap.size)
 simp only[←h0] at HB ⊢
 clear h0
 go_wp2_with fail
 go_loopw [10] (fun i wr=>∃ k:Nat,k≤L.length∧i=.int .i64 (k:Int)∧(∀ j,j<k→dN e (L.getD j Se.none)=false)∧W1.grownBy wr none) (fun i _=>L.length - (intOf i).toNat)
 case atStart=>exact⟨0,Q0 _,rfl,fun i hi=>absurd hi (Nat.not_lt_zero _),ay _ _⟩
 case round =>
  obtain⟨k,hk,rfl,hfree,G⟩:=hrel
  obtain⟨U,hU⟩:=Qe (wr)
  subst hU
  have HF:Hid (∀ j,j<k→dN e (L.getD j Se.none)=false):=hfree
  have HG:Hid (W1.grownBy U none):=G
  clear hfree G
  by_cases hlt:k<L.length
  ·obtain⟨g,off,cap,e1,R⟩:=SeAt.there (HA.out.keep HG.out) hlt
   cases e1
   obtain⟨o,ho⟩:=Qe (L.getD k Se.none)
   have Ho:Hid (o=L.getD k Se.none):=ho
   rw[←ho] at R
   obtain⟨c0,c1,c2,c3,c4,c5,c6,c7,c8,c9,c10⟩:=ft R
   obtain⟨V,hV⟩:=Qe (U.alloc (.cells #[.int .i64 o.s.th,.int .i64 o.s.pl,.int .u8 o.s.wh.wn,.int .u8 o.s.wh.vb,.int .u8 o.s.wh.wm,.int .i64 o.s.wh.ct,.int .u8 o.s.wh.su,.int .u8 o.s.wh.tr,.int .u8 o.s.wh.mr,.string o.s.wh.nm,.int .i64 (o.ro:Int)] 131))
   have HGV:Hid (U.grownBy V none):=by rw[hV];exact QG
   have HBo:Hid (SeB V U.heap.size o):=by rw[hV];exact ak _ _ _
   have HBe:Hid (SeB V n0 e):=ag (ae HG.out HGV.out) HB.out (by simp)
   have hlt':(k:Int)<L.length:=Int.ofNat_lt.2 hlt
   have Hlt:Hid (k<L.length):=hlt
   have hwk:=aK (k:=k) (Ql (Nat.le_of_lt hlt) Hl.out)
   have HM:Hid (L.length - (intOf (.int .i64 ((k:Int)+1))).toNat<L.length - (intOf (.int .i64 (k:Int))).toNat):=bj hlt
   clear ho R hlt hk
   go_upto_region 4 with fail
   rw[←hV]
   obtain⟨nb,hnb⟩:=Qe (U.heap.size)
   rw[←hnb] at HBo ⊢
   clear hV hnb c0 c1 c2 c3 c4 c5 c6 c7 c8 c9 c10
   obtain⟨s0,s1,s2,s3,s4,s5,s6,s7,s8,s9,s10⟩:=fh HBe.out
   obtain⟨o0,o1,o2,o3,o4,o5,o6,o7,o8,o9,o10⟩:=fh HBo.out
   by_cases hag:e.s.th=o.s.th∧e.s.pl=o.s.pl
   ·have e1:(e.s.th == o.s.th)=true:=by simpa using hag.1
    have e2:(e.s.pl == o.s.pl)=true:=by simpa using hag.2
    have HX:Hid (dV e L=false):=sF Hlt.out (by rw[←Ho.out];exact lY hag.1 hag.2)
    clear hag
    go_upto_region 5 with fail
    refine wp_region_held_drew (S:=fun w'=>V.grownBy w' none) (by kernel_rfl) (ai _) (fun hHeld=>?_)
    refine QZ 0 rfl ?_
    go_frame
    refine QZ 1 rfl ?_
    go_frame
    refine QN 2 rfl ?_
    go_frame
    refine QN 3 rfl ?_
    go_frame
    refine QN 4 rfl ?_
    go_frame
    refine QN 5 rfl ?_
    go_frame
    refine QN 7 rfl ?_
    go_frame
    refine QN 8 rfl ?_
    go_frame
    refine QN 9 rfl ?_
    go_frame
    refine QN 10 rfl ?_
    go_frame
    refine QR 6 rfl (fun K hK=>?_)
    rw[if_neg (Bool.eq_false_iff.1 (by rfl))]
    refine hK.out _ _ (by assumption) (fun hHeld2=>?_)
    clear hK K
    (try go_frame)
    refine QR 11 rfl (fun K hK=>?_)
    rw[if_neg (Bool.eq_false_iff.1 (by rfl))]
    refine hK.out _ _ (by assumption) (fun hHeld2=>?_)
    clear hK K
    (try go_frame)
    refine QN 12 rfl ?_
    go_frame
    refine QZ 13 rfl ?_
    go_frame
    refine QD ?_
    go_wp2_with fail
    go_ret
    exact⟨cM HX.out.symm,ae HG1.out (ae HG.out (ae HGV.out (ai _)))⟩
   ·have HC:Hid (dN e o=!decide (lay e.s.wh.vb=lay o.s.wh.vb)):=lN hag
    have L1:=ln e.s.wh.vb
    have L2:=ln o.s.wh.vb
    obtain⟨la,hla⟩:=Qe (lay e.s.wh.vb)
    obtain⟨lb,hlb⟩:=Qe (lay o.s.wh.vb)
    rw[←hla] at L1 HC
    rw[←hlb] at L2 HC
    have e0:((e.s.th == o.s.th) && (e.s.pl == o.s.pl))=false:=by
     by_cases h1:e.s.th=o.s.th
     ·have h2:¬e.s.pl=o.s.pl:=fun q=>hag ⟨h1,q⟩
      simp[h2]
     ·simp[h1]
    clear hla hlb hag
    go_cut [7] from 14 to 29 (fun x7 wc=>x7=.bool false∧wc=V)
    case first =>
     cases e1:(e.s.th == o.s.th) with
     | false =>
      go_wp2_with fail
      go_meet
      exact⟨rfl,rfl⟩
     | true =>
      have e2:(e.s.pl == o.s.pl)=false:=by rw[e1] at e0;simpa using e0
      go_wp2_with fail
      go_meet
      exact⟨rfl,rfl⟩
    case rest =>
     obtain⟨rfl,hwc⟩:=hcut
     obtain rfl:V=wc:=hwc.symm
     go_upto_region 5 with fail
     refine wp_region_held_drew (S:=fun w'=>V.grownBy w' none) (by kernel_rfl) (ai _) (fun hHeld=>?_)
     refine QZ 0 rfl ?_
     go_frame
     refine QZ 1 rfl ?_
     go_frame
     refine QZ 2 rfl ?_
     go_frame
     refine QZ 3 rfl ?_
     go_frame
     refine QZ 4 rfl ?_
     go_frame
     refine QT 5 rfl (by intro w0 hSw;have s3:=QK hSw s3;go_simp;try with_reducible rfl) ?_
     go_frame
     refine QZ 7 rfl ?_
     go_frame
     refine QZ 8 rfl ?_
     go_frame
     refine QZ 9 rfl ?_
     go_frame
     refine QT 10 rfl (by intro w0 hSw;have o3:=QK hSw o3;go_simp;try with_reducible rfl) ?_
     go_frame
     refine QR 6 rfl (fun K hK=>?_)
     rw[if_pos (by rfl)]
     go_simp
     go_at_call 213
     refine(L1 _).mono ?_
     rintro e3 w3 ⟨rfl,h3⟩
     obtain rfl:V.drew=w3:=h3.symm
     refine hK.out _ _ (ai _) (fun hHeld2=>?_)
     clear hK K
     (try go_frame)
     refine QR 11 rfl (fun K hK=>?_)
     rw[if_pos (by rfl)]
     go_simp
     go_at_call 213
     refine(L2 _).mono ?_
     rintro e4 w4 ⟨rfl,h4⟩
     obtain rfl:V.drew=w4:=h4.symm
     refine hK.out _ _ (ai _) (fun hHeld2=>?_)
     clear hK K
     (try go_frame)
     refine QZ 12 rfl ?_
     go_frame
     refine QZ 13 rfl ?_
     go_frame
     refine QD ?_
     clear hHeld hHeld2 s0 s1 s2 s3 s4 s5 s6 s7 s8 s9 s10 o0 o1 o2 o3 o4 o5 o6 o7 o8 o9 o10 L1 L2
     by_cases hab:la=lb
     ·have e5:(la != lb)=false:=by simpa using hab
      have HX:Hid (∀ j,j<k+1→dN e (L.getD j Se.none)=false):=fun j hj=>by
       by_cases q:j=k
       ·rw[q,←Ho.out,HC.out,Qy hab];rfl
       ·exact HF.out j (by omega)
      clear hab
      go_wp2_with fail
      go_roundw
      case rel=>exact⟨k+1,Hlt.out,by first | rfl | (rw[hwk];rfl) | go_num,HX.out,ae HG.out (ae HGV.out (ai _))⟩
      case measure=>first | exact HM.out | (rw[hwk];exact HM.out)
     ·have e5:(la != lb)=true:=by simpa using hab
      have HX:Hid (dV e L=false):=sF Hlt.out (by rw[←Ho.out,HC.out,Qx hab];rfl)
      clear hab
      go_wp2_with fail
      go_ret
      exact⟨cM HX.out.symm,ae HG1.out (ae HG.out (ae HGV.out (ai _)))⟩
  ·obtain rfl:k=L.length:=Nat.le_antisymm hk (Nat.le_of_not_lt hlt)
   have HX:Hid (dV e L=true):=yZ HF.out
   clear hlt hk
   go_wp2_with fail
   go_ret
   exact⟨cM HX.out.symm,ae HG1.out HG.out⟩
end Go.Proofs.YtjmepebbcnhalaaGreat
