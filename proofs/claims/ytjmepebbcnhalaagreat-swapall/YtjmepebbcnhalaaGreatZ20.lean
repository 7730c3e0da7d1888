import Derived.Test.YtjmepebbcnhalaaGreatZLyQ
namespace Go.Proofs.YtjmepebbcnhalaaGreat
open Tryz
set_option maxRecDepth 100000
set_option maxHeartbeats 4000000
open Go.RowKit Go.Shelf
variable {ps:List Pt} {s:Sd} {X:List Rv} {i c j:Nat} {w w':World} {R:List Rw} {e:Se} {L:List Se}
theorem zx (h:s.pl<0):eY ps s=false:=by unfold eY;rw[Qx (show ¬0≤s.pl by omega)];rfl
theorem wX (h:(ps.length:Int)≤s.pl):eY ps s=false:=by unfold eY;rw[Qx (show ¬s.pl<(ps.length:Int) by omega)];simp
theorem tx {m:Nat} (e:s.pl=(m:Int)) (h:m<ps.length):eY ps s=(decide (s.wh.wn=5) && f9 (ps.getD m Pt.none) s.wh):=by
 unfold eY;rw[e,Qy (by omega),Qy (by omega)];rfl
theorem mC (h:Hd) (u:Value) (ps:List Pt) (s:Sd) (w:World) (P:da w u ps) (hl:s.pl<0):Calls prog 256 #[cv h u,sdv s] w fun e w'=>e=.returned (.bool (eY ps s))∧w.grownBy w' none:=by
 obtain⟨a,k,rfl⟩:=P.form;obtain⟨W1,hW1⟩:=Qe ((w.alloc (.cells #[.string h.nm,.int .u8 h.su,.int .u8 h.kd,.int .i64 h.co,.int .i64 h.po,.int .i64 h.he,.int .u16 h.tr,.bool h.tk,.slice a ps.length k] 111)).alloc (.cells #[.int .i64 s.th,.int .i64 s.pl,.int .u8 s.wh.wn,.int .u8 s.wh.vb,.int .u8 s.wh.wm,.int .i64 s.wh.ct,.int .u8 s.wh.su,.int .u8 s.wh.tr,.int .u8 s.wh.mr,.string s.wh.nm] 64));have HG1:QH (w.grownBy W1 none):=by rw[hW1];exact am QG _
 have HC:QH (W1.heap[w.heap.size]?=some (.cells #[.string h.nm,.int .u8 h.su,.int .u8 h.kd,.int .i64 h.co,.int .i64 h.po,.int .i64 h.he,.int .u16 h.tr,.bool h.tk,.slice a ps.length k] 111 (0,0))):=by rw[hW1];exact ag QG (aj w _ _) (by simp)
 have HS:QH (SdB W1 (w.heap.size+1) s):=by rw[hW1];exact aT _ _ _ _
 have HP:QH (da W1 (.slice a ps.length k) ps):=P.keep HG1.o;have HE:QH (eY ps s=false):=zx hl;unfold cv sdv;clear P;go_enter func256,ntmps256;go_upto_region 1 with fail;rw[←hW1];clear hW1;obtain⟨n0,h0⟩:=Qe (w.heap.size);simp only[←h0] at HC HS ⊢;obtain⟨n1,h1⟩:=Qe (n0+1);simp only[←h1] at HS ⊢;clear h0 h1;obtain⟨s0,s1,s2,s3,s4,s5,s6,s7,s8,s9⟩:=aQ HS.o;have d8:=QS (ae HC.o 8) (.slice a ps.length k) rfl;go_wp2;go_ret;exact⟨aI HE.o.symm,HG1.o⟩
theorem lH (h:Hd) (u:Value) (ps:List Pt) (s:Sd) (w:World) (P:da w u ps) (hl:0≤s.pl) (hh:(ps.length:Int)≤s.pl):Calls prog 256 #[cv h u,sdv s] w fun e w'=>e=.returned (.bool (eY ps s))∧w.grownBy w' none:=by
 obtain⟨a,k,rfl⟩:=P.form;obtain⟨W1,hW1⟩:=Qe ((w.alloc (.cells #[.string h.nm,.int .u8 h.su,.int .u8 h.kd,.int .i64 h.co,.int .i64 h.po,.int .i64 h.he,.int .u16 h.tr,.bool h.tk,.slice a ps.length k] 111)).alloc (.cells #[.int .i64 s.th,.int .i64 s.pl,.int .u8 s.wh.wn,.int .u8 s.wh.vb,.int .u8 s.wh.wm,.int .i64 s.wh.ct,.int .u8 s.wh.su,.int .u8 s.wh.tr,.int .u8 s.wh.mr,.string s.wh.nm] 64));have HG1:QH (w.grownBy W1 none):=by rw[hW1];exact am QG _
 have HC:QH (W1.heap[w.heap.size]?=some (.cells #[.string h.nm,.int .u8 h.su,.int .u8 h.kd,.int .i64 h.co,.int .i64 h.po,.int .i64 h.he,.int .u16 h.tr,.bool h.tk,.slice a ps.length k] 111 (0,0))):=by rw[hW1];exact ag QG (aj w _ _) (by simp)
 have HS:QH (SdB W1 (w.heap.size+1) s):=by rw[hW1];exact aT _ _ _ _
 have HP:QH (da W1 (.slice a ps.length k) ps):=P.keep HG1.o;have HE:QH (eY ps s=false):=wX hh;have e1:decide (s.pl<0)=false:=Qx (by omega);unfold cv sdv;clear P;go_enter func256,ntmps256;go_upto_region 1 with fail;rw[←hW1];clear hW1;obtain⟨n0,h0⟩:=Qe (w.heap.size);simp only[←h0] at HC HS ⊢;obtain⟨n1,h1⟩:=Qe (n0+1);simp only[←h1] at HS ⊢;clear h0 h1;obtain⟨s0,s1,s2,s3,s4,s5,s6,s7,s8,s9⟩:=aQ HS.o;have d8:=QS (ae HC.o 8) (.slice a ps.length k) rfl;go_wp2;go_ret;exact⟨aI HE.o.symm,HG1.o⟩
theorem oO (h:Hd) (u:Value) (ps:List Pt) (s:Sd) (w:World) (P:da w u ps) (m:Nat) (he:s.pl=(m:Int)) (hm:m<ps.length) (hwn:¬s.wh.wn=5):Calls prog 256 #[cv h u,sdv s] w fun e w'=>e=.returned (.bool (eY ps s))∧w.grownBy w' none:=by
 obtain⟨a,k,rfl⟩:=P.form;obtain⟨W1,hW1⟩:=Qe ((w.alloc (.cells #[.string h.nm,.int .u8 h.su,.int .u8 h.kd,.int .i64 h.co,.int .i64 h.po,.int .i64 h.he,.int .u16 h.tr,.bool h.tk,.slice a ps.length k] 111)).alloc (.cells #[.int .i64 s.th,.int .i64 s.pl,.int .u8 s.wh.wn,.int .u8 s.wh.vb,.int .u8 s.wh.wm,.int .i64 s.wh.ct,.int .u8 s.wh.su,.int .u8 s.wh.tr,.int .u8 s.wh.mr,.string s.wh.nm] 64));have HG1:QH (w.grownBy W1 none):=by rw[hW1];exact am QG _
 have HC:QH (W1.heap[w.heap.size]?=some (.cells #[.string h.nm,.int .u8 h.su,.int .u8 h.kd,.int .i64 h.co,.int .i64 h.po,.int .i64 h.he,.int .u16 h.tr,.bool h.tk,.slice a ps.length k] 111 (0,0))):=by rw[hW1];exact ag QG (aj w _ _) (by simp)
 have HS:QH (SdB W1 (w.heap.size+1) s):=by rw[hW1];exact aT _ _ _ _
 have HP:QH (da W1 (.slice a ps.length k) ps):=P.keep HG1.o;obtain⟨g,off,cap,e2,hP⟩:=HP.o.part (Qbg (Q0 _) hm);injection e2 with e2 _ e3;subst e2;subst e3;have HP8:QH (P8 W1 g (off+m*8) (ps.getD m Pt.none)):=hP m _ (sG hm);have HE:QH (eY ps s=(decide (s.wh.wn=5) && f9 (ps.getD m Pt.none) s.wh)):=tx he hm;obtain⟨p,hp⟩:=Qe (ps.getD m Pt.none);rw[←hp] at HP8 HE;have Hpl:QH (s.pl=(m:Int)):=he;have hm':(m:Int)<ps.length:=Int.ofNat_lt.2 hm;have hm2:decide ((ps.length:Int)≤(m:Int))=false:=Qx (by omega);have Hwn:QH (¬s.wh.wn=5):=hwn;clear hP hp hwn he hm;unfold cv sdv;clear P;go_enter func256,ntmps256;go_upto_region 1 with fail;rw[←hW1];clear hW1;obtain⟨n0,h0⟩:=Qe (w.heap.size);simp only[←h0] at HC HS ⊢;obtain⟨n1,h1⟩:=Qe (n0+1);simp only[←h1] at HS ⊢;clear h0 h1;obtain⟨s0,s1,s2,s3,s4,s5,s6,s7,s8,s9⟩:=aQ HS.o;have d8:=QS (ae HC.o 8) (.slice (some ⟨g,off,none⟩) ps.length k) rfl;rw[Hpl.o] at s1;have m0:¬(m:Int)<0:=by omega
 go_upto_region 3 with fail;have e5:(s.wh.wn == 5)=false:=by simpa using Hwn.o
 refine wp_region_held_drew (S:=fun w'=>W1.grownBy w' none) (by kernel_rfl) (ai _) (fun hHeld=>?_);refine QZ 0 rfl ?_;go_frame;refine QZ 1 rfl ?_;go_frame;refine QT 2 rfl (by intro w0 hSw;have s2:=QK hSw s2;go_simp;try with_reducible rfl) ?_;go_frame;refine QZ 3 rfl ?_;go_frame;refine QZ 4 rfl ?_;go_frame;refine QN 5 rfl ?_;go_frame;refine QN 6 rfl ?_;go_frame;refine QN 7 rfl ?_;go_frame;refine QN 8 rfl ?_;go_frame;refine QN 9 rfl ?_;go_frame;refine QN 10 rfl ?_;go_frame;refine QN 11 rfl ?_;go_frame;refine QN 12 rfl ?_;go_frame;refine QR 13 rfl (fun K hK=>?_);rw[if_neg (Bool.eq_false_iff.1 (by rfl))];refine hK.out _ _ (by assumption) (fun hHeld2=>?_);clear hK K;(try go_frame);refine QZ 14 rfl ?_;go_frame;refine QZ 15 rfl ?_;go_frame;refine QD ?_;go_wp2_with fail;go_ret;exact⟨aI (by rw[HE.o,Qx Hwn.o];rfl),aa HG1.o (ai _)⟩
theorem mD (h:Hd) (u:Value) (ps:List Pt) (s:Sd) (w:World) (P:da w u ps) (m:Nat) (he:s.pl=(m:Int)) (hm:m<ps.length) (hwn:s.wh.wn=5):Calls prog 256 #[cv h u,sdv s] w fun e w'=>e=.returned (.bool (eY ps s))∧w.grownBy w' none:=by
 obtain⟨a,k,rfl⟩:=P.form;obtain⟨W1,hW1⟩:=Qe ((w.alloc (.cells #[.string h.nm,.int .u8 h.su,.int .u8 h.kd,.int .i64 h.co,.int .i64 h.po,.int .i64 h.he,.int .u16 h.tr,.bool h.tk,.slice a ps.length k] 111)).alloc (.cells #[.int .i64 s.th,.int .i64 s.pl,.int .u8 s.wh.wn,.int .u8 s.wh.vb,.int .u8 s.wh.wm,.int .i64 s.wh.ct,.int .u8 s.wh.su,.int .u8 s.wh.tr,.int .u8 s.wh.mr,.string s.wh.nm] 64));have HG1:QH (w.grownBy W1 none):=by rw[hW1];exact am QG _
 have HC:QH (W1.heap[w.heap.size]?=some (.cells #[.string h.nm,.int .u8 h.su,.int .u8 h.kd,.int .i64 h.co,.int .i64 h.po,.int .i64 h.he,.int .u16 h.tr,.bool h.tk,.slice a ps.length k] 111 (0,0))):=by rw[hW1];exact ag QG (aj w _ _) (by simp)
 have HS:QH (SdB W1 (w.heap.size+1) s):=by rw[hW1];exact aT _ _ _ _
 have HP:QH (da W1 (.slice a ps.length k) ps):=P.keep HG1.o;obtain⟨g,off,cap,e2,hP⟩:=HP.o.part (Qbg (Q0 _) hm);injection e2 with e2 _ e3;subst e2;subst e3;have HP8:QH (P8 W1 g (off+m*8) (ps.getD m Pt.none)):=hP m _ (sG hm);have HE:QH (eY ps s=(decide (s.wh.wn=5) && f9 (ps.getD m Pt.none) s.wh)):=tx he hm;obtain⟨p,hp⟩:=Qe (ps.getD m Pt.none);rw[←hp] at HP8 HE;have Hpl:QH (s.pl=(m:Int)):=he;have hm':(m:Int)<ps.length:=Int.ofNat_lt.2 hm;have hm2:decide ((ps.length:Int)≤(m:Int))=false:=Qx (by omega);have Hwn:QH (s.wh.wn=5):=hwn;clear hP hp hwn he hm;unfold cv sdv;clear P;go_enter func256,ntmps256;go_upto_region 1 with fail;rw[←hW1];clear hW1;obtain⟨n0,h0⟩:=Qe (w.heap.size);simp only[←h0] at HC HS ⊢;obtain⟨n1,h1⟩:=Qe (n0+1);simp only[←h1] at HS ⊢;clear h0 h1;obtain⟨s0,s1,s2,s3,s4,s5,s6,s7,s8,s9⟩:=aQ HS.o;have d8:=QS (ae HC.o 8) (.slice (some ⟨g,off,none⟩) ps.length k) rfl;rw[Hpl.o] at s1;have m0:¬(m:Int)<0:=by omega
 go_upto_region 3 with fail;have e5:(s.wh.wn == 5)=true:=by simpa using Hwn.o
 have CS:=Ca p s.wh W1.drew;obtain⟨r,hr⟩:=Qe (f9 p s.wh);rw[←hr] at CS HE;unfold pv at CS;clear hr;have q0:=HP8.o.c0;have q1:=HP8.o.c1;have q2:=HP8.o.c2;have q3:=HP8.o.c3;have q4:=HP8.o.c4;have q5:=HP8.o.c5;have q6:=HP8.o.c6;have q7:=HP8.o.c7;refine wp_region_held_drew (S:=fun w'=>W1.grownBy w' none) (by kernel_rfl) (ai _) (fun hHeld=>?_);refine QZ 0 rfl ?_;go_frame;refine QZ 1 rfl ?_;go_frame;refine QT 2 rfl (by intro w0 hSw;have s2:=QK hSw s2;go_simp;try with_reducible rfl) ?_;go_frame;refine QZ 3 rfl ?_;go_frame;refine QZ 4 rfl ?_;go_frame;refine QZ 5 rfl ?_;go_frame;refine QT 6 rfl (by intro w0 hSw;have d8:=QK hSw d8;go_simp;try with_reducible rfl) ?_;go_frame;refine QZ 7 rfl ?_;go_frame;refine QT 8 rfl (by intro w0 hSw;have s1:=QK hSw s1;go_simp;try with_reducible rfl) ?_;go_frame;refine QZ 9 rfl ?_;go_frame;refine QT 10 rfl (by intro w0 hSw;have q0:=QK hSw q0;have q1:=QK hSw q1;have q2:=QK hSw q2;have q3:=QK hSw q3;have q4:=QK hSw q4;have q5:=QK hSw q5;have q6:=QK hSw q6;have q7:=QK hSw q7;go_simp;try with_reducible rfl) ?_;go_frame;refine QZ 11 rfl ?_;go_frame;refine QT 12 rfl (by intro w0 hSw;have s2:=QK hSw s2;have s3:=QK hSw s3;have s4:=QK hSw s4;have s5:=QK hSw s5;have s6:=QK hSw s6;have s7:=QK hSw s7;have s8:=QK hSw s8;have s9:=QK hSw s9;go_simp;try with_reducible rfl) ?_;go_frame;refine QR 13 rfl (fun K hK=>?_);rw[if_pos (by rfl)];go_simp;go_at_call 292;refine(CS).mono ?_;rintro e3 w3 ⟨rfl,g3⟩;have HG3:QH (W1.grownBy w3 none):=aa (ai _) g3;clear g3 CS;refine hK.out _ _ (HG3.o) (fun hHeld2=>?_);clear hK K;(try go_frame);refine QZ 14 rfl ?_;go_frame;refine QZ 15 rfl ?_;go_frame;refine QD ?_;go_wp2_with fail;go_ret;exact⟨aI (by rw[HE.o,Qy Hwn.o];rfl),aa HG1.o HG3.o⟩
theorem mB (h:Hd) (u:Value) (ps:List Pt) (s:Sd) (w:World) (P:da w u ps):Calls prog 256 #[cv h u,sdv s] w fun e w'=>e=.returned (.bool (eY ps s))∧w.grownBy w' none:=by
 by_cases h1:s.pl<0
 ·exact mC h u ps s w P h1
 ·by_cases h2:(ps.length:Int)≤s.pl
  ·exact lH h u ps s w P (by omega) h2
  ·by_cases h3:s.wh.wn=5
   ·exact mD h u ps s w P s.pl.toNat (by omega) (by omega) h3
   ·exact oO h u ps s w P s.pl.toNat (by omega) (by omega) h3
theorem AQ (x:Rv) (n:Nat) (th:Int) (W:World) (c:W.cell? ⟨n,0,none⟩=some (.int .i64 th)):Calls prog 255 #[.agg (rvc x).toArray,.pointer (some ⟨n,0,none⟩)] W fun e w'=>e=.returned (.bool (decide (x.r.nu=th)))∧W.grownBy w' none:=by
 have HE:QH ((x.r.nu == th)=decide (x.r.nu=th)):=dY _ _;obtain⟨V,hV⟩:=Qe (W.alloc (.cells #[.int .i64 x.r.nu,.int .i64 x.r.st,.string x.r.h.nm,.int .u8 x.r.h.su,.int .u8 x.r.h.kd,.int .i64 x.r.h.co,.int .i64 x.r.h.po,.int .i64 x.r.h.he,.int .u16 x.r.h.tr,.bool x.r.h.tk,.slice x.pa x.r.ps.length x.ca] 230));have HGV:QH (W.grownBy V none):=by rw[hV];exact QG
 have z0:V.cell? ⟨W.heap.size,0,none⟩=some (.int .i64 x.r.nu):=by rw[hV];exact(ae (aj _ _ _) 0).trans rfl
 have z1:=HGV.o.cell c (by simp);unfold rvc Rv.u;clear c;go_enter func255,ntmps255;go_upto_region 1 with fail;rw[←hV];clear hV;go_wp2;go_ret;exact⟨aI HE.o,HGV.o⟩
def zp (R:List Rw) (n:Int):Int:=match iB R n with | some i=>(i:Int) | none=>-1
theorem yo (d:Rv):∀ (X:List Rv) (th:Int) (i:Nat),Lib.idxByFrom (fun _ (y:Rv)=>decide (y.r.nu=th)) d X i=(match iB (rws X) th with | some j=>((i+j:Nat):Int) | none=>-1)
 | [],th,i=>rfl
 | x :: X,th,i=>by
  have ih:=yo d X th (i+1);unfold iB rws at ih ⊢;rw[Lib.idxByFrom,ih,Qbs,List.findIdx?_cons];by_cases h:x.r.nu=th
  ·rw[if_pos (by simpa using h),if_pos (by simpa using h)];rfl
  ·rw[if_neg (by simpa using h),if_neg (by simpa using h)];cases hf:List.findIdx? (fun r=>decide (r.nu=th)) (X.map Rv.r) with
   | none=>rfl
   | some j =>
    show ((i+1+j:Nat):Int)=((i+(j+1):Nat):Int)
    omega
theorem nE (p:Option Addr) (c:Nat) (fv:Value) (w:World):Calls prog 254 #[.slice p 0 c,fv] w fun e w'=>e=.returned (.int .i64 (-1))∧w'=w:=by
 go_enter func254,ntmps254;go_wp2_with fail;refine wp_loop_rounds 1 ?_;rw[rounds_succ];go_wp2;go_ret;exact⟨rfl,rfl⟩
theorem qj (v:Value) (X:List Rv) (n:Nat) (th:Int) (w:World) (A:rvR.At w v X) (h16:X.length≤16) (c:w.cell? ⟨n,0,none⟩=some (.int .i64 th)):Calls prog 254 #[v,.func (.func 255) #[] #[.pointer (some ⟨n,0,none⟩)]] w fun e w'=>e=.returned (.int .i64 (zp (rws X) th))∧w.grownBy w' none:=by
 by_cases h0:X.length=0
 ·have e1:X=[]:=List.length_eq_zero_iff.1 h0;subst e1;obtain⟨p,cap,rfl⟩:=A.form;refine(nE p cap _ w).mono ?_;rintro e w' ⟨rfl,rfl⟩;exact⟨rfl,aw _ _⟩
 ·obtain⟨p,cap,e1,_,hA⟩:=A;obtain⟨g,off,e2,hR⟩:=hA (Qc5 h0);subst e2;subst e1
  haveI:Inhabited Rv:=⟨⟨Rw.none,none,0⟩⟩
  have eg:∀ args w,(callFunc 255 args).run prog w=.ok (.enter 255 args) w:=enters_of func255 (by kernel_rfl) rfl;have hb:g<w.heap.size:=Qbj _ _ (iC (hR 0 X[0] (Qg (Qc5 h0)))).1
  have hS:=AnyQ.slices_IndexFunc idxR 11 isAgg230 sizeOf230 rvc (fun _=>rfl) (fun y=>decide (y.r.nu=th)) 255 #[.pointer (some ⟨n,0,none⟩)] eg g off X.length cap X w
   (fun W x hW=>(AQ x n th W ((hW.cell (p:=⟨n,0,none⟩) (Qbj _ _ c)).trans c)).mono fun e w' q=>⟨q.1,hW.trans ((jp q.2).mono hW.size)⟩)
   (Qj _) (by omega) hb (fun j hj i u hu=>by
    have q:=hR j X[j] (Qg hj) i u;rw[show X[j]! = X[j] from by simp[hj]] at hu
    exact q hu)
  change Calls prog 254 _ _ _ at hS;refine hS.mono ?_;rintro e w' ⟨rfl,hb'⟩;refine⟨jF ?_,⟨hb'.os,hb'.tape,hb'.output,hb'.size,fun k hk _=>hb'.block k hk⟩⟩;rw[Qas];have:=yo default X th 0;unfold zp;simp only[Nat.zero_add] at this;show Lib.idxByFrom _ _ X 0=_;exact this
end Go.Proofs.YtjmepebbcnhalaaGreat
namespace Go.Proofs.YtjmepebbcnhalaaGreat
open Tryz
set_option maxRecDepth 100000
set_option maxHeartbeats 4000000
open Go.RowKit
variable {ps:List Pt} {s:Sd} {X:List Rv} {i c j:Nat} {w w':World} {R:List Rw} {e:Se} {L:List Se}
theorem BC {th:Int} (h:iB (rws X) th=some i):i<X.length:=by
 unfold iB at h;have:=(Qcq.1 h).1;rwa [fP] at this
def lN (w:World) (R:List Rw) (s:Sd) (e:Ending) (w':World):Prop:=e=.returned (.tuple #[sev ((dZ R s).getD Se.none),.bool (dZ R s).isSome])∧w.grownBy w' none
theorem lN.no (h:dZ R s=none) (g:w.grownBy w' none):lN w R s (.returned (.tuple #[.agg #[.int .i64 0,.int .i64 0,.int .u8 0,.int .u8 0,.int .u8 0,.int .i64 0,.int .u8 0,.int .u8 0,.int .u8 0,.string ⟨#[]⟩,.int .i64 0],.bool false])) w':=⟨by rw[h];rfl,g⟩
theorem jc {a b:World} (h:a.grownBy b none) (hc:a.heap.size≤c) (v0 v1 v2 v3 v4 v5 v6 v7 v8 v9 v10:Value):a.grownBy (((((((((((b.setCell ⟨c,0,none⟩ v0).setCell ⟨c,1,none⟩ v1).setCell ⟨c,2,none⟩ v2).setCell ⟨c,3,none⟩ v3).setCell ⟨c,4,none⟩ v4).setCell ⟨c,5,none⟩ v5).setCell ⟨c,6,none⟩ v6).setCell ⟨c,7,none⟩ v7).setCell ⟨c,8,none⟩ v8).setCell ⟨c,9,none⟩ v9).setCell ⟨c,10,none⟩ v10) none:=ar (ar (ar (ar (ar (ar (ar (ar (ar (ar (ar h hc _ _) hc _ _) hc _ _) hc _ _) hc _ _) hc _ _) hc _ _) hc _ _) hc _ _) hc _ _) hc _ _
theorem zZ (vr vf:Value) (X:List Rv) (F:List Fe) (s:Sd) (w:World) (T:jj w vr vf X F):Calls prog 197 #[tbv vr vf,sdv s] w (lN w (rws X) s):=by
 have hmf:∀ (fn:Fn) (first cap:Array Value) (w:World),(Instr.makeFunc fn first cap).run prog w=.ok (.func fn first cap) w:=fun _ _ _ _=>rfl;obtain⟨pr,cr,rfl⟩:=T.rows.form;obtain⟨pf,cf,rfl⟩:=T.fs.form;obtain⟨W1,hW1⟩:=Qe (((w.alloc (.cells #[.slice pr X.length cr,.slice pf F.length cf] 125)).alloc (.cells #[.int .i64 s.th,.int .i64 s.pl,.int .u8 s.wh.wn,.int .u8 s.wh.vb,.int .u8 s.wh.wm,.int .i64 s.wh.ct,.int .u8 s.wh.su,.int .u8 s.wh.tr,.int .u8 s.wh.mr,.string s.wh.nm] 64)).alloc (.cells #[.int .i64 0,.int .i64 0,.int .u8 0,.int .u8 0,.int .u8 0,.int .i64 0,.int .u8 0,.int .u8 0,.int .u8 0,.string ⟨#[]⟩,.int .i64 0] 131));have HG1:QH (w.grownBy W1 none):=by rw[hW1];exact am (am QG _) _
 have HB:QH (TbB W1 w.heap.size (.slice pr X.length cr) (.slice pf F.length cf)):=by rw[hW1];exact ag (am QG _) (aj w _ _) (by simp)
 have HS:QH (SdB W1 (w.heap.size+1) s):=by rw[hW1];exact ag QG (aT _ _ _ _) (by simp)
 have HR:QH (W1.heap[w.heap.size+1+1]?=some (.cells #[.int .i64 0,.int .i64 0,.int .u8 0,.int .u8 0,.int .u8 0,.int .i64 0,.int .u8 0,.int .u8 0,.int .u8 0,.string ⟨#[]⟩,.int .i64 0] 131 (0,0))):=by rw[hW1];exact gd _ _ _ _ _
 have HT:QH (jj W1 (.slice pr X.length cr) (.slice pf F.length cf) X F):=T.keep HG1.o;have HIx:=qj (.slice pr X.length cr) X (w.heap.size+1) s.th W1 HT.o.rows HT.o.few (aQ HS.o).1;unfold tbv sdv;clear T;go_enter func197,ntmps197;go_upto_region 1 with fail;rw[←hW1];clear hW1;obtain⟨n0,h0⟩:=Qe (w.heap.size);have HN:QH (w.heap.size≤n0+1+1):=by show _≤_;omega
 simp only[←h0] at HB HS HR HIx ⊢;obtain⟨n1,h1⟩:=Qe (n0+1);simp only[←h1] at HS HR HIx HN ⊢;obtain⟨n2,h2⟩:=Qe (n1+1);simp only[←h2] at HR HN ⊢;clear h0 h1 h2;obtain⟨b0,b1⟩:=iV HB.o;go_wp2_with (go_at_call 254;refine HIx.mono ?_;rintro e2 w2 ⟨rfl,g2⟩;have HG2:QH (W1.grownBy w2 none):=g2;clear HIx g2)
 clear b0 b1 hmf;have HR2:QH (w2.heap[n2]?=some (.cells #[.int .i64 0,.int .i64 0,.int .u8 0,.int .u8 0,.int .u8 0,.int .i64 0,.int .u8 0,.int .u8 0,.int .u8 0,.string ⟨#[]⟩,.int .i64 0] 131 (0,0))):=ag HG2.o HR.o (by simp);have HGw:QH (w.grownBy w2 none):=aa HG1.o HG2.o;cases hrow:iB (rws X) s.th with
 | none =>
  rw[show zp (rws X) s.th=-1 from by unfold zp;rw[hrow]];have HX:QH (dZ (rws X) s=none):=by show _=_;unfold dZ;rw[hrow]
  clear hrow;go_upto_region 2 with fail;refine wp_region_held_drew (S:=fun w'=>w2.grownBy w' none) (by kernel_rfl) (ai _) (fun hHeld=>?_);refine QZ 0 rfl ?_;go_frame;refine QZ 1 rfl ?_;go_frame;refine QZ 2 rfl ?_;go_frame;refine QN 3 rfl ?_;go_frame;refine QN 4 rfl ?_;go_frame;refine QN 5 rfl ?_;go_frame;refine QN 6 rfl ?_;go_frame;refine QN 7 rfl ?_;go_frame;refine QN 8 rfl ?_;go_frame;refine QN 9 rfl ?_;go_frame;refine QR 10 rfl (fun K hK=>?_);rw[if_neg (Bool.eq_false_iff.1 (by rfl))];refine hK.out _ _ (by assumption) (fun hHeld2=>?_);clear hK K;(try go_frame);refine QN 11 rfl ?_;go_frame;refine QZ 12 rfl ?_;go_frame;refine QD ?_;obtain⟨D,hD⟩:=Qe (w2.drew);have HRD:QH (D.heap[n2]?=some (.cells #[.int .i64 0,.int .i64 0,.int .u8 0,.int .u8 0,.int .u8 0,.int .i64 0,.int .u8 0,.int .u8 0,.int .u8 0,.string ⟨#[]⟩,.int .i64 0] 131 (0,0))):=by rw[hD];exact HR2.o
  have HGD:QH (w.grownBy D none):=by rw[hD];exact aa HGw.o (ai _)
  rw[←hD];clear hHeld hD;have r0:=QS (ae HRD.o 0) (.int .i64 0) rfl;have r1:=QS (ae HRD.o 1) (.int .i64 0) rfl;have r2:=QS (ae HRD.o 2) (.int .u8 0) rfl;have r3:=QS (ae HRD.o 3) (.int .u8 0) rfl;have r4:=QS (ae HRD.o 4) (.int .u8 0) rfl;have r5:=QS (ae HRD.o 5) (.int .i64 0) rfl;have r6:=QS (ae HRD.o 6) (.int .u8 0) rfl;have r7:=QS (ae HRD.o 7) (.int .u8 0) rfl;have r8:=QS (ae HRD.o 8) (.int .u8 0) rfl;have r9:=QS (ae HRD.o 9) (.string ⟨#[]⟩) rfl;have r10:=QS (ae HRD.o 10) (.int .i64 0) rfl;have rf:=fun i=>aq HRD.o i;go_wp2_with fail;refine bodyPost_ret (v:=.tuple #[.agg #[.int .i64 0,.int .i64 0,.int .u8 0,.int .u8 0,.int .u8 0,.int .i64 0,.int .u8 0,.int .u8 0,.int .u8 0,.string ⟨#[]⟩,.int .i64 0],.bool false]) (by simp[results,results197,go_sem,r0,r1,r2,r3,r4,r5,r6,r7,r8,r9,r10]) rfl (lN.no HX.o ?_);exact jc HGD.o HN.o _ _ _ _ _ _ _ _ _ _ _
 | some i =>
  have hi:=BC hrow;rw[show zp (rws X) s.th=(i:Int) from by unfold zp;rw[hrow]];have HTw:=HT.o.keep HG2.o;obtain⟨g,off,cap,e1,R⟩:=HTw.row hi;cases e1;have hps:=HTw.parts _ (Qab hi);obtain⟨x,hx⟩:=Qe (X[i]);rw[←hx] at R hps;have HX:QH (dZ (rws X) s=if eY x.r.ps s then some ⟨s,i⟩ else none):=by show _=_;unfold dZ;rw[hrow];show (if eY ((rws X).getD i Rw.none).ps s then some (⟨s,i⟩:Se) else none)=_;rw[jD hi,←hx]
  have HH:=mB x.r.h (.slice x.pa x.r.ps.length x.ca) x.r.ps s w2.drew (hps.1.keep (ai _));obtain⟨b,hb⟩:=Qe (eY x.r.ps s);rw[←hb] at HH HX;unfold cv sdv at HH;obtain⟨c0,c1,c2',c3,c4,c5,c6,c7,c8,c9,c10⟩:=iC R;have c10':w2.cell? ⟨g,off+i*11+10,none⟩=some (.slice x.pa x.r.ps.length x.ca):=c10;obtain⟨b0,b1⟩:=iV (show TbB w2 n0 _ _ from ag HG2.o HB.o (by simp));obtain⟨s0,s1,s2,s3,s4,s5,s6,s7,s8,s9⟩:=aQ (show SdB w2 n1 s from ag HG2.o HS.o (by simp));have hi':(i:Int)<X.length:=Int.ofNat_lt.2 hi;have hi0:¬(i:Int)<0:=by omega
  have hi1:decide ((i:Int)<0)=false:=Qx hi0;clear hrow hi HTw R hps hx hb c10 c0 c1;go_upto_region 2 with fail;refine wp_region_held_drew (S:=fun w'=>w2.grownBy w' none) (by kernel_rfl) (ai _) (fun hHeld=>?_);refine QZ 0 rfl ?_;go_frame;refine QZ 1 rfl ?_;go_frame;refine QZ 2 rfl ?_;go_frame;refine QZ 3 rfl ?_;go_frame;refine QT 4 rfl (by intro w0 hSw;have b0:=QK hSw b0;go_simp;try with_reducible rfl) ?_;go_frame;refine QZ 5 rfl ?_;go_frame;refine QZ 6 rfl ?_;go_frame;refine QZ 7 rfl ?_;go_frame;refine QT 8 rfl (by intro w0 hSw;have c2':=hSw.cell c2' (by simp);have c3:=QK hSw c3;have c4:=QK hSw c4;have c5:=QK hSw c5;have c6:=QK hSw c6;have c7:=QK hSw c7;have c8:=QK hSw c8;have c9:=QK hSw c9;have c10':=hSw.cell c10' (by simp);go_simp;try with_reducible rfl) ?_;go_frame;refine QT 9 rfl (by intro w0 hSw;have s0:=QK hSw s0;have s1:=QK hSw s1;have s2:=QK hSw s2;have s3:=QK hSw s3;have s4:=QK hSw s4;have s5:=QK hSw s5;have s6:=QK hSw s6;have s7:=QK hSw s7;have s8:=QK hSw s8;have s9:=QK hSw s9;go_simp;try with_reducible rfl) ?_;go_frame;refine QR 10 rfl (fun K hK=>?_);rw[if_pos (by rfl)];go_simp;go_at_call 256;refine(HH).mono ?_;rintro e3 w3 ⟨rfl,g3⟩;have HG3:QH (w2.grownBy w3 none):=aa (ai _) g3;clear g3 HH;refine hK.out _ _ (HG3.o) (fun hHeld2=>?_);clear hK K;(try go_frame);refine QZ 11 rfl ?_;go_frame;refine QZ 12 rfl ?_;go_frame;refine QD ?_;have HR3:QH (w3.heap[n2]?=some (.cells #[.int .i64 0,.int .i64 0,.int .u8 0,.int .u8 0,.int .u8 0,.int .i64 0,.int .u8 0,.int .u8 0,.int .u8 0,.string ⟨#[]⟩,.int .i64 0] 131 (0,0))):=ag HG3.o HR2.o (by simp);have HGw3:QH (w.grownBy w3 none):=aa HGw.o HG3.o;clear hHeld hHeld2 b0 b1 s0 s1 s2 s3 s4 s5 s6 s7 s8 s9 c2' c3 c4 c5 c6 c7 c8 c9 c10';cases b with
  | false =>
   have r0:=QS (ae HR3.o 0) (.int .i64 0) rfl;have r1:=QS (ae HR3.o 1) (.int .i64 0) rfl;have r2:=QS (ae HR3.o 2) (.int .u8 0) rfl;have r3:=QS (ae HR3.o 3) (.int .u8 0) rfl;have r4:=QS (ae HR3.o 4) (.int .u8 0) rfl;have r5:=QS (ae HR3.o 5) (.int .i64 0) rfl;have r6:=QS (ae HR3.o 6) (.int .u8 0) rfl;have r7:=QS (ae HR3.o 7) (.int .u8 0) rfl;have r8:=QS (ae HR3.o 8) (.int .u8 0) rfl;have r9:=QS (ae HR3.o 9) (.string ⟨#[]⟩) rfl;have r10:=QS (ae HR3.o 10) (.int .i64 0) rfl;have rf:=fun i=>aq HR3.o i;go_wp2_with fail;refine bodyPost_ret (v:=.tuple #[.agg #[.int .i64 0,.int .i64 0,.int .u8 0,.int .u8 0,.int .u8 0,.int .i64 0,.int .u8 0,.int .u8 0,.int .u8 0,.string ⟨#[]⟩,.int .i64 0],.bool false]) (by simp[results,results197,go_sem,r0,r1,r2,r3,r4,r5,r6,r7,r8,r9,r10]) rfl (lN.no HX.o ?_);exact jc HGw3.o HN.o _ _ _ _ _ _ _ _ _ _ _
  | true =>
   obtain⟨s0,s1,s2,s3,s4,s5,s6,s7,s8,s9⟩:=aQ (show SdB w3 n1 s from ag HG3.o (ag HG2.o HS.o (by simp)) (by simp));have HY:QH (dZ (rws X) s=some ⟨s,i⟩):=HX.o;have r0:=QS (ae HR3.o 0) (.int .i64 0) rfl;have r1:=QS (ae HR3.o 1) (.int .i64 0) rfl;have r2:=QS (ae HR3.o 2) (.int .u8 0) rfl;have r3:=QS (ae HR3.o 3) (.int .u8 0) rfl;have r4:=QS (ae HR3.o 4) (.int .u8 0) rfl;have r5:=QS (ae HR3.o 5) (.int .i64 0) rfl;have r6:=QS (ae HR3.o 6) (.int .u8 0) rfl;have r7:=QS (ae HR3.o 7) (.int .u8 0) rfl;have r8:=QS (ae HR3.o 8) (.int .u8 0) rfl;have r9:=QS (ae HR3.o 9) (.string ⟨#[]⟩) rfl;have r10:=QS (ae HR3.o 10) (.int .i64 0) rfl;have rf:=fun i=>aq HR3.o i;go_wp2_with fail;refine bodyPost_ret (v:=.tuple #[.agg #[.int .i64 (⟨s,i⟩:Se).s.th,.int .i64 (⟨s,i⟩:Se).s.pl,.int .u8 (⟨s,i⟩:Se).s.wh.wn,.int .u8 (⟨s,i⟩:Se).s.wh.vb,.int .u8 (⟨s,i⟩:Se).s.wh.wm,.int .i64 (⟨s,i⟩:Se).s.wh.ct,.int .u8 (⟨s,i⟩:Se).s.wh.su,.int .u8 (⟨s,i⟩:Se).s.wh.tr,.int .u8 (⟨s,i⟩:Se).s.wh.mr,.string (⟨s,i⟩:Se).s.wh.nm,.int .i64 ((⟨s,i⟩:Se).ro:Int)],.bool true]) (by simp[results,results197,go_sem,r0,r1,r2,r3,r4,r5,r6,r7,r8,r9,r10]) rfl ⟨?_,?_⟩
   ·rw[HY.o];rfl
   ·exact jc HGw3.o HN.o _ _ _ _ _ _ _ _ _ _ _
theorem mw {o:Se} (h:¬(e.s.th=o.s.th∧e.s.pl=o.s.pl)):ez e o=!decide (lay e.s.wh.vb=lay o.s.wh.vb):=by
 unfold ez
 have:(decide (e.s.th=o.s.th) && decide (e.s.pl=o.s.pl))=false:=by
  by_cases h1:e.s.th=o.s.th
  ·by_cases h2:e.s.pl=o.s.pl
   ·exact absurd ⟨h1,h2⟩ h
   ·simp[h2]
  ·simp[h1]
 rw[this];rfl
theorem mo {o:Se} (h1:e.s.th=o.s.th) (h2:e.s.pl=o.s.pl):ez e o=true:=by
 unfold ez;rw[Qy h1,Qy h2];rfl
theorem vo (hj:j<L.length) (h:ez e (L.getD j Se.none)=true):eV e L=false:=by
 unfold eV;rw[List.all_eq_false];refine⟨L[j],Qab hj,?_⟩;rw[aG hj] at h;rw[h];simp
theorem zJ (h:∀ j,j<L.length→ez e (L.getD j Se.none)=false):eV e L=true:=by
 unfold eV;rw[Qch];intro o ho;obtain⟨j,hj,e1⟩:=List.mem_iff_getElem.1 ho;have:=h j hj;rw[aG hj,e1] at this;rw[this];rfl
theorem xA (e:Se) (v:Value) (L:List Se) (w:World) (A:seR.At w v L) (hl:L.length≤4096):Calls prog 198 #[sev e,v] w fun e' w'=>e'=.returned (.bool (eV e L))∧w.grownBy w' none:=by
 obtain⟨pl,cl,rfl⟩:=A.form;obtain⟨W1,hW1⟩:=Qe (w.alloc (.cells #[.int .i64 e.s.th,.int .i64 e.s.pl,.int .u8 e.s.wh.wn,.int .u8 e.s.wh.vb,.int .u8 e.s.wh.wm,.int .i64 e.s.wh.ct,.int .u8 e.s.wh.su,.int .u8 e.s.wh.tr,.int .u8 e.s.wh.mr,.string e.s.wh.nm,.int .i64 (e.ro:Int)] 131));have HG1:QH (w.grownBy W1 none):=by rw[hW1];exact QG
 have HB:QH (SeB W1 w.heap.size e):=by rw[hW1];exact aj w _ _
 have HA:QH (seR.At W1 (.slice pl L.length cl) L):=A.keep HG1.o;have Hl:QH (L.length≤4096):=hl;unfold sev;clear A hl;go_enter func198,ntmps198;go_upto_region 1 with fail;rw[←hW1];clear hW1;obtain⟨n0,h0⟩:=Qe (w.heap.size);simp only[←h0] at HB ⊢;clear h0;go_wp2_with fail;go_loopw [10] (fun i wr=>∃ k:Nat,k≤L.length∧i=.int .i64 (k:Int)∧(∀ j,j<k→ez e (L.getD j Se.none)=false)∧W1.grownBy wr none) (fun i _=>L.length - (intOf i).toNat)
 case atStart=>exact⟨0,Q0 _,rfl,fun i hi=>absurd hi (Qbh _),aw _ _⟩
 case round =>
  obtain⟨k,hk,rfl,hfree,G⟩:=hrel;obtain⟨U,hU⟩:=Qe (wr);subst hU;have HF:QH (∀ j,j<k→ez e (L.getD j Se.none)=false):=hfree;have HG:QH (W1.grownBy U none):=G;clear hfree G;by_cases hlt:k<L.length
  ·obtain⟨g,off,cap,e1,R⟩:=SeAt.there (HA.o.keep HG.o) hlt;cases e1;obtain⟨o,ho⟩:=Qe (L.getD k Se.none);have Ho:QH (o=L.getD k Se.none):=ho;rw[←ho] at R;obtain⟨c0,c1,c2,c3,c4,c5,c6,c7,c8,c9,c10⟩:=uL R;obtain⟨V,hV⟩:=Qe (U.alloc (.cells #[.int .i64 o.s.th,.int .i64 o.s.pl,.int .u8 o.s.wh.wn,.int .u8 o.s.wh.vb,.int .u8 o.s.wh.wm,.int .i64 o.s.wh.ct,.int .u8 o.s.wh.su,.int .u8 o.s.wh.tr,.int .u8 o.s.wh.mr,.string o.s.wh.nm,.int .i64 (o.ro:Int)] 131));have HGV:QH (U.grownBy V none):=(by rw[hV];exact QG);have HBo:QH (SeB V U.heap.size o):=(by rw[hV];exact aj _ _ _);have HBe:QH (SeB V n0 e):=ag (aa HG.o HGV.o) HB.o (by simp);have hlt':(k:Int)<L.length:=Int.ofNat_lt.2 hlt;have Hlt:QH (k<L.length):=hlt;have hwk:=aR (k:=k) (Ql (Qaf hlt) Hl.o);have HM:QH (L.length - (intOf (.int .i64 ((k:Int)+1))).toNat<L.length - (intOf (.int .i64 (k:Int))).toNat):=cj hlt;clear ho R hlt hk;go_upto_region 4 with fail;rw[←hV];obtain⟨nb,hnb⟩:=Qe (U.heap.size);rw[←hnb] at HBo ⊢;clear hV hnb c0 c1 c2 c3 c4 c5 c6 c7 c8 c9 c10;obtain⟨s0,s1,s2,s3,s4,s5,s6,s7,s8,s9,s10⟩:=pH HBe.o;obtain⟨o0,o1,o2,o3,o4,o5,o6,o7,o8,o9,o10⟩:=pH HBo.o;by_cases hag:e.s.th=o.s.th∧e.s.pl=o.s.pl
   ·have e1:(e.s.th == o.s.th)=true:=(by simpa using hag.1);have e2:(e.s.pl == o.s.pl)=true:=(by simpa using hag.2);have HX:QH (eV e L=false):=vo Hlt.o (by rw[←Ho.o];exact mo hag.1 hag.2);clear hag;go_upto_region 5 with fail;refine wp_region_held_drew (S:=fun w'=>V.grownBy w' none) (by kernel_rfl) (ai _) (fun hHeld=>?_);refine QZ 0 rfl ?_;go_frame;refine QZ 1 rfl ?_;go_frame;refine QN 2 rfl ?_;go_frame;refine QN 3 rfl ?_;go_frame;refine QN 4 rfl ?_;go_frame;refine QN 5 rfl ?_;go_frame;refine QN 7 rfl ?_;go_frame;refine QN 8 rfl ?_;go_frame;refine QN 9 rfl ?_;go_frame;refine QN 10 rfl ?_;go_frame;refine QR 6 rfl (fun K hK=>?_);rw[if_neg (Bool.eq_false_iff.1 (by rfl))];refine hK.out _ _ (by assumption) (fun hHeld2=>?_);clear hK K;(try go_frame);refine QR 11 rfl (fun K hK=>?_);rw[if_neg (Bool.eq_false_iff.1 (by rfl))];refine hK.out _ _ (by assumption) (fun hHeld2=>?_);clear hK K;(try go_frame);refine QN 12 rfl ?_;go_frame;refine QZ 13 rfl ?_;go_frame;refine QD ?_;go_wp2_with fail;go_ret;exact⟨aI HX.o.symm,aa HG1.o (aa HG.o (aa HGV.o (ai _)))⟩
   ·have HC:QH (ez e o=!decide (lay e.s.wh.vb=lay o.s.wh.vb)):=mw hag;have L1:=lp e.s.wh.vb;have L2:=lp o.s.wh.vb;obtain⟨la,hla⟩:=Qe (lay e.s.wh.vb);obtain⟨lb,hlb⟩:=Qe (lay o.s.wh.vb);rw[←hla] at L1 HC;rw[←hlb] at L2 HC
    have e0:((e.s.th == o.s.th) && (e.s.pl == o.s.pl))=false:=by
     by_cases h1:e.s.th=o.s.th
     ·have h2:¬e.s.pl=o.s.pl:=fun q=>hag ⟨h1,q⟩;simp[h2]
     ·simp[h1]
    clear hla hlb hag;go_cut [7] from 14 to 29 (fun x7 wc=>x7=.bool false∧wc=V)
    case first =>
     cases e1:(e.s.th == o.s.th) with
     | false =>
      go_wp2_with fail;go_meet;exact⟨rfl,rfl⟩
     | true =>
      have e2:(e.s.pl == o.s.pl)=false:=(by rw[e1] at e0;simpa using e0);go_wp2_with fail;go_meet;exact⟨rfl,rfl⟩
    case rest =>
     obtain⟨rfl,hwc⟩:=hcut;obtain rfl:V=wc:=hwc.symm;go_upto_region 5 with fail;refine wp_region_held_drew (S:=fun w'=>V.grownBy w' none) (by kernel_rfl) (ai _) (fun hHeld=>?_);refine QZ 0 rfl ?_;go_frame;refine QZ 1 rfl ?_;go_frame;refine QZ 2 rfl ?_;go_frame;refine QZ 3 rfl ?_;go_frame;refine QZ 4 rfl ?_;go_frame;refine QT 5 rfl (by intro w0 hSw;have s3:=QK hSw s3;go_simp;try with_reducible rfl) ?_;go_frame;refine QZ 7 rfl ?_;go_frame;refine QZ 8 rfl ?_;go_frame;refine QZ 9 rfl ?_;go_frame;refine QT 10 rfl (by intro w0 hSw;have o3:=QK hSw o3;go_simp;try with_reducible rfl) ?_;go_frame;refine QR 6 rfl (fun K hK=>?_);rw[if_pos (by rfl)];go_simp;go_at_call 213;refine(L1 _).mono ?_;rintro e3 w3 ⟨rfl,h3⟩;obtain rfl:V.drew=w3:=h3.symm;refine hK.out _ _ (ai _) (fun hHeld2=>?_);clear hK K;(try go_frame);refine QR 11 rfl (fun K hK=>?_);rw[if_pos (by rfl)];go_simp;go_at_call 213;refine(L2 _).mono ?_;rintro e4 w4 ⟨rfl,h4⟩;obtain rfl:V.drew=w4:=h4.symm;refine hK.out _ _ (ai _) (fun hHeld2=>?_);clear hK K;(try go_frame);refine QZ 12 rfl ?_;go_frame;refine QZ 13 rfl ?_;go_frame;refine QD ?_;clear hHeld hHeld2 s0 s1 s2 s3 s4 s5 s6 s7 s8 s9 s10 o0 o1 o2 o3 o4 o5 o6 o7 o8 o9 o10 L1 L2;by_cases hab:la=lb
     ·have e5:(la != lb)=false:=by simpa using hab
      have HX:QH (∀ j,j<k+1→ez e (L.getD j Se.none)=false):=fun j hj=>by
       by_cases q:j=k
       ·rw[q,←Ho.o,HC.o,Qy hab];rfl
       ·exact HF.o j (by omega)
      clear hab;go_wp2_with fail;go_roundw
      case rel=>exact⟨k+1,Hlt.o,by first | rfl | (rw[hwk];rfl) | go_num,HX.o,aa HG.o (aa HGV.o (ai _))⟩
      case measure=>first | exact HM.o | (rw[hwk];exact HM.o)
     ·have e5:(la != lb)=true:=(by simpa using hab);have HX:QH (eV e L=false):=vo Hlt.o (by rw[←Ho.o,HC.o,Qx hab];rfl);clear hab;go_wp2_with fail;go_ret;exact⟨aI HX.o.symm,aa HG1.o (aa HG.o (aa HGV.o (ai _)))⟩
  ·obtain rfl:k=L.length:=Qag hk (Qac hlt);have HX:QH (eV e L=true):=zJ HF.o;clear hlt hk;go_wp2_with fail;go_ret;exact⟨aI HX.o.symm,aa HG1.o HG.o⟩
