/-

-/
import Derived.Test.YtjmepebbcnhalaaGreatRChk
import Derived.Deep.QuietTactic
namespace Go.Proofs.YtjmepebbcnhalaaGreat
set_option maxRecDepth 100000
set_option maxHeartbeats 4000000
open Go.RowKit

theorem bl (w:World) (p:Pt) (n:Nat):∃ W1,W1=(w.alloc (.cells #[.int .u8 p.wn,.int .u8 p.vb,.int .u8 p.wm,.int .i64 p.ct,.int .u8 p.su,.int .u8 p.tr,.int .u8 p.mr,.string p.nm] 62)).drewN n∧PAt W1 w.heap.size p∧w.grownBy W1 none:=⟨_,rfl,(PAt.new w p).keep (aF _ _ _),ae (World.grownBy_alloc _ _ _) (aF _ _ _)⟩
theorem yT (p:Pt) (w:World)  (r0:p.wn<1):Calls Tryz.prog 184 #[pv p] w fun e w'=>e=.returned (.int .i64 2)∧w.grownBy w' none:=by
 unfold pv
 go_enter Tryz.func184,Tryz.ntmps184
 go_wp2_with fail
 go_ret
 exact⟨rfl,World.grownBy_alloc _ _ _⟩
theorem yN (p:Pt) (w:World) (r0:¬p.wn<1) (r1:6<p.wn):Calls Tryz.prog 184 #[pv p] w fun e w'=>e=.returned (.int .i64 2)∧w.grownBy w' none:=by
 unfold pv
 go_enter Tryz.func184,Tryz.ntmps184
 go_wp2_with fail
 go_ret
 exact⟨rfl,World.grownBy_alloc _ _ _⟩
theorem zx (p:Pt) (w:World) (r0:¬p.wn<1) (r1:¬6<p.wn) (r2:p.vb<1):Calls Tryz.prog 184 #[pv p] w fun e w'=>e=.returned (.int .i64 2)∧w.grownBy w' none:=by
 unfold pv
 go_enter Tryz.func184,Tryz.ntmps184
 go_wp2_with fail
 go_ret
 exact⟨rfl,World.grownBy_alloc _ _ _⟩
theorem yL (p:Pt) (w:World) (r0:¬p.wn<1) (r1:¬6<p.wn) (r2:¬p.vb<1) (r3:19<p.vb):Calls Tryz.prog 184 #[pv p] w fun e w'=>e=.returned (.int .i64 2)∧w.grownBy w' none:=by
 unfold pv
 go_enter Tryz.func184,Tryz.ntmps184
 go_wp2_with fail
 go_ret
 exact⟨rfl,World.grownBy_alloc _ _ _⟩
theorem xT (p:Pt) (w:World) (r0:¬p.wn<1) (r1:¬6<p.wn) (r2:¬p.vb<1) (r3:¬19<p.vb) (r4:p.wm<1):Calls Tryz.prog 184 #[pv p] w fun e w'=>e=.returned (.int .i64 2)∧w.grownBy w' none:=by
 unfold pv
 go_enter Tryz.func184,Tryz.ntmps184
 go_wp2_with fail
 go_ret
 exact⟨rfl,World.grownBy_alloc _ _ _⟩
theorem ya (p:Pt) (w:World) (r0:¬p.wn<1) (r1:¬6<p.wn) (r2:¬p.vb<1) (r3:¬19<p.vb) (r4:¬p.wm<1) (r5:10<p.wm):Calls Tryz.prog 184 #[pv p] w fun e w'=>e=.returned (.int .i64 2)∧w.grownBy w' none:=by
 unfold pv
 go_enter Tryz.func184,Tryz.ntmps184
 go_wp2_with fail
 go_ret
 exact⟨rfl,World.grownBy_alloc _ _ _⟩
theorem AG (p:Pt) (w:World) (r0:¬p.wn<1) (r1:¬6<p.wn) (r2:¬p.vb<1) (r3:¬19<p.vb) (r4:¬p.wm<1) (r5:¬10<p.wm) (hk:(cls p.vb != wnt p.wn)=true):Calls Tryz.prog 184 #[pv p] w fun e w'=>e=.returned (.int .i64 8)∧w.grownBy w' none:=by
 unfold pv
 go_enter Tryz.func184,Tryz.ntmps184
 go_wp2_with (go_at_call 243;refine(bC _ _ _).mono ?_;rintro e w1 ⟨rfl,rfl⟩;simp only[bW])
 go_quiet ((first | (go_at_call 244;exact Calls.quiet_of_same (aL _ _)) | (go_at_call 245;exact Calls.quiet_of_same (bD _ _))))
 obtain⟨W0,hW0,A0,G0⟩:=bl w p nq
 rw[←hW0]
 clear hW0 r0 r1 r2 r3 r4 r5
 obtain⟨c0,c1,c2,c3,c4,c5,c6,c7⟩:=A0.cells
 go_wp2_with fail
 go_ret
 exact⟨rfl,G0⟩
theorem zV (p:Pt) (w:World) (r0:¬p.wn<1) (r1:¬6<p.wn) (r2:¬p.vb<1) (r3:¬19<p.vb) (r4:¬p.wm<1) (r5:¬10<p.wm) (hk:(cls p.vb != wnt p.wn)=false) (h11:(p.vb == 11)=true) (h9:(p.wm == 9)=true):Calls Tryz.prog 184 #[pv p] w fun e w'=>e=.returned (.int .i64 8)∧w.grownBy w' none:=by
 unfold pv
 go_enter Tryz.func184,Tryz.ntmps184
 go_wp2_with (go_at_call 243;refine(bC _ _ _).mono ?_;rintro e w1 ⟨rfl,rfl⟩;simp only[bW])
 go_quiet ((first | (go_at_call 244;exact Calls.quiet_of_same (aL _ _)) | (go_at_call 245;exact Calls.quiet_of_same (bD _ _))))
 obtain⟨W0,hW0,A0,G0⟩:=bl w p nq
 rw[←hW0]
 clear hW0 r0 r1 r2 r3 r4 r5
 obtain⟨c0,c1,c2,c3,c4,c5,c6,c7⟩:=A0.cells
 go_wp2_with fail
 go_ret
 exact⟨rfl,G0⟩
theorem yu (p:Pt) (w:World) (r0:¬p.wn<1) (r1:¬6<p.wn) (r2:¬p.vb<1) (r3:¬19<p.vb) (r4:¬p.wm<1) (r5:¬10<p.wm) (hk:(cls p.vb != wnt p.wn)=false) (hK:Hid (cls p.vb=wnt p.wn)) (hz:Hid (¬cls p.vb=0)) (h11:(p.vb == 11)=false) (hB:abt p.wn p.vb p.wm=false):Calls Tryz.prog 184 #[pv p] w fun e w'=>e=.returned (.int .i64 13)∧w.grownBy w' none:=by
 unfold pv
 go_enter Tryz.func184,Tryz.ntmps184
 go_wp2_with (go_at_call 243;refine(bC _ _ _).mono ?_;rintro e w1 ⟨rfl,rfl⟩;simp only[bW])
 go_quiet ((first | (go_at_call 244;exact Calls.quiet_of_same (aL _ _)) | (go_at_call 245;exact Calls.quiet_of_same (bD _ _))))
 obtain⟨W0,hW0,A0,G0⟩:=bl w p nq
 rw[←hW0]
 clear hW0 r0 r1 r2 r3 r4 r5
 obtain⟨c0,c1,c2,c3,c4,c5,c6,c7⟩:=A0.cells
 go_wp2_with fail
 refine(bJ p W0 hK.out hz.out).mono ?_
 rintro e W1 ⟨rfl,g⟩
 rw[hB]
 have A1:=A0.keep g
 have G1:=ae G0 g
 clear c0 c1 c2 c3 c4 c5 c6 c7 g A0 G0
 obtain⟨c0,c1,c2,c3,c4,c5,c6,c7⟩:=A1.cells
 go_wp2_with fail
 go_ret
 exact⟨rfl,G1⟩
theorem zK (p:Pt) (w:World) (r0:¬p.wn<1) (r1:¬6<p.wn) (r2:¬p.vb<1) (r3:¬19<p.vb) (r4:¬p.wm<1) (r5:¬10<p.wm) (hk:(cls p.vb != wnt p.wn)=false) (hK:Hid (cls p.vb=wnt p.wn)) (hz:Hid (¬cls p.vb=0)) (h11:(p.vb == 11)=false) (hB:abt p.wn p.vb p.wm=true) (hC:ei p.vb p.ct=false):Calls Tryz.prog 184 #[pv p] w fun e w'=>e=.returned (.int .i64 2)∧w.grownBy w' none:=by
 unfold pv
 go_enter Tryz.func184,Tryz.ntmps184
 go_wp2_with (go_at_call 243;refine(bC _ _ _).mono ?_;rintro e w1 ⟨rfl,rfl⟩;simp only[bW])
 go_quiet ((first | (go_at_call 244;exact Calls.quiet_of_same (aL _ _)) | (go_at_call 245;exact Calls.quiet_of_same (bD _ _))))
 obtain⟨W0,hW0,A0,G0⟩:=bl w p nq
 rw[←hW0]
 clear hW0 r0 r1 r2 r3 r4 r5
 obtain⟨c0,c1,c2,c3,c4,c5,c6,c7⟩:=A0.cells
 go_wp2_with fail
 refine(bJ p W0 hK.out hz.out).mono ?_
 rintro e W1 ⟨rfl,g⟩
 rw[hB]
 have A1:=A0.keep g
 have G1:=ae G0 g
 clear c0 c1 c2 c3 c4 c5 c6 c7 g A0 G0
 obtain⟨c0,c1,c2,c3,c4,c5,c6,c7⟩:=A1.cells
 go_wp2_with fail
 refine(bt p W1).mono ?_
 rintro e W2 ⟨rfl,g⟩
 rw[hC]
 have A2:=A1.keep g
 have G2:=ae G1 g
 clear c0 c1 c2 c3 c4 c5 c6 c7 g A1 G1
 obtain⟨c0,c1,c2,c3,c4,c5,c6,c7⟩:=A2.cells
 go_wp2_with fail
 go_ret
 exact⟨rfl,G2⟩
theorem vY (p:Pt) (w:World) (r0:¬p.wn<1) (r1:¬6<p.wn) (r2:¬p.vb<1) (r3:¬19<p.vb) (r4:¬p.wm<1) (r5:¬10<p.wm) (hk:(cls p.vb != wnt p.wn)=false) (hK:Hid (cls p.vb=wnt p.wn)) (hz:Hid (¬cls p.vb=0)) (h11:(p.vb == 11)=false) (hB:abt p.wn p.vb p.wm=true) (hC:ei p.vb p.ct=true) (hsu:0≤p.su∧p.su≤255) (F1:bB (uS p.vb p.wm) p.su 6=false):Calls Tryz.prog 184 #[pv p] w fun e w'=>e=.returned (.int .i64 2)∧w.grownBy w' none:=by
 unfold pv
 go_enter Tryz.func184,Tryz.ntmps184
 go_wp2_with (go_at_call 243;refine(bC _ _ _).mono ?_;rintro e w1 ⟨rfl,rfl⟩;simp only[bW])
 go_quiet ((first | (go_at_call 244;exact Calls.quiet_of_same (aL _ _)) | (go_at_call 245;exact Calls.quiet_of_same (bD _ _))))
 obtain⟨W0,hW0,A0,G0⟩:=bl w p nq
 rw[←hW0]
 clear hW0 r0 r1 r2 r3 r4 r5
 obtain⟨c0,c1,c2,c3,c4,c5,c6,c7⟩:=A0.cells
 go_wp2_with fail
 refine(bJ p W0 hK.out hz.out).mono ?_
 rintro e W1 ⟨rfl,g⟩
 rw[hB]
 have A1:=A0.keep g
 have G1:=ae G0 g
 clear c0 c1 c2 c3 c4 c5 c6 c7 g A0 G0
 obtain⟨c0,c1,c2,c3,c4,c5,c6,c7⟩:=A1.cells
 go_wp2_with fail
 refine(bt p W1).mono ?_
 rintro e W2 ⟨rfl,g⟩
 rw[hC]
 have A2:=A1.keep g
 have G2:=ae G1 g
 clear c0 c1 c2 c3 c4 c5 c6 c7 g A1 G1
 obtain⟨c0,c1,c2,c3,c4,c5,c6,c7⟩:=A2.cells
 go_wp2_with (first | (go_at_call 248;refine(aJ _ _ _ _).mono ?_;rintro e w9 ⟨rfl,hw⟩;obtain rfl:W2=w9:=hw.symm;rw[F1]) | fail)
 go_ret
 exact⟨rfl,G2⟩
theorem vD (p:Pt) (w:World) (r0:¬p.wn<1) (r1:¬6<p.wn) (r2:¬p.vb<1) (r3:¬19<p.vb) (r4:¬p.wm<1) (r5:¬10<p.wm) (hk:(cls p.vb != wnt p.wn)=false) (hK:Hid (cls p.vb=wnt p.wn)) (hz:Hid (¬cls p.vb=0)) (h11:(p.vb == 11)=false) (hB:abt p.wn p.vb p.wm=true) (hC:ei p.vb p.ct=true) (hsu:0≤p.su∧p.su≤255) (F1:bB (uS p.vb p.wm) p.su 6=true) (htr:0≤p.tr∧p.tr≤255) (F2:bB (uT p.vb p.wm) p.tr 8=false):Calls Tryz.prog 184 #[pv p] w fun e w'=>e=.returned (.int .i64 2)∧w.grownBy w' none:=by
 unfold pv
 go_enter Tryz.func184,Tryz.ntmps184
 go_wp2_with (go_at_call 243;refine(bC _ _ _).mono ?_;rintro e w1 ⟨rfl,rfl⟩;simp only[bW])
 go_quiet ((first | (go_at_call 244;exact Calls.quiet_of_same (aL _ _)) | (go_at_call 245;exact Calls.quiet_of_same (bD _ _))))
 obtain⟨W0,hW0,A0,G0⟩:=bl w p nq
 rw[←hW0]
 clear hW0 r0 r1 r2 r3 r4 r5
 obtain⟨c0,c1,c2,c3,c4,c5,c6,c7⟩:=A0.cells
 go_wp2_with fail
 refine(bJ p W0 hK.out hz.out).mono ?_
 rintro e W1 ⟨rfl,g⟩
 rw[hB]
 have A1:=A0.keep g
 have G1:=ae G0 g
 clear c0 c1 c2 c3 c4 c5 c6 c7 g A0 G0
 obtain⟨c0,c1,c2,c3,c4,c5,c6,c7⟩:=A1.cells
 go_wp2_with fail
 refine(bt p W1).mono ?_
 rintro e W2 ⟨rfl,g⟩
 rw[hC]
 have A2:=A1.keep g
 have G2:=ae G1 g
 clear c0 c1 c2 c3 c4 c5 c6 c7 g A1 G1
 obtain⟨c0,c1,c2,c3,c4,c5,c6,c7⟩:=A2.cells
 go_wp2_with (first | (go_at_call 248;refine(aJ _ _ _ _).mono ?_;rintro e w9 ⟨rfl,hw⟩;obtain rfl:W2=w9:=hw.symm;rw[F1]) | (go_at_call 248;refine(aJ _ _ _ _).mono ?_;rintro e w9 ⟨rfl,hw⟩;obtain rfl:W2=w9:=hw.symm;rw[F2]) | fail)
 go_ret
 exact⟨rfl,G2⟩
theorem vu (p:Pt) (w:World) (r0:¬p.wn<1) (r1:¬6<p.wn) (r2:¬p.vb<1) (r3:¬19<p.vb) (r4:¬p.wm<1) (r5:¬10<p.wm) (hk:(cls p.vb != wnt p.wn)=false) (hK:Hid (cls p.vb=wnt p.wn)) (hz:Hid (¬cls p.vb=0)) (h11:(p.vb == 11)=false) (hB:abt p.wn p.vb p.wm=true) (hC:ei p.vb p.ct=true) (hsu:0≤p.su∧p.su≤255) (F1:bB (uS p.vb p.wm) p.su 6=true) (htr:0≤p.tr∧p.tr≤255) (F2:bB (uT p.vb p.wm) p.tr 8=true) (hmr:0≤p.mr∧p.mr≤255) (F3:bB (uM p.vb) p.mr 4=false):Calls Tryz.prog 184 #[pv p] w fun e w'=>e=.returned (.int .i64 2)∧w.grownBy w' none:=by
 unfold pv
 go_enter Tryz.func184,Tryz.ntmps184
 go_wp2_with (go_at_call 243;refine(bC _ _ _).mono ?_;rintro e w1 ⟨rfl,rfl⟩;simp only[bW])
 go_quiet ((first | (go_at_call 244;exact Calls.quiet_of_same (aL _ _)) | (go_at_call 245;exact Calls.quiet_of_same (bD _ _))))
 obtain⟨W0,hW0,A0,G0⟩:=bl w p nq
 rw[←hW0]
 clear hW0 r0 r1 r2 r3 r4 r5
 obtain⟨c0,c1,c2,c3,c4,c5,c6,c7⟩:=A0.cells
 go_wp2_with fail
 refine(bJ p W0 hK.out hz.out).mono ?_
 rintro e W1 ⟨rfl,g⟩
 rw[hB]
 have A1:=A0.keep g
 have G1:=ae G0 g
 clear c0 c1 c2 c3 c4 c5 c6 c7 g A0 G0
 obtain⟨c0,c1,c2,c3,c4,c5,c6,c7⟩:=A1.cells
 go_wp2_with fail
 refine(bt p W1).mono ?_
 rintro e W2 ⟨rfl,g⟩
 rw[hC]
 have A2:=A1.keep g
 have G2:=ae G1 g
 clear c0 c1 c2 c3 c4 c5 c6 c7 g A1 G1
 obtain⟨c0,c1,c2,c3,c4,c5,c6,c7⟩:=A2.cells
 go_wp2_with (first | (go_at_call 248;refine(aJ _ _ _ _).mono ?_;rintro e w9 ⟨rfl,hw⟩;obtain rfl:W2=w9:=hw.symm;rw[F1]) | (go_at_call 248;refine(aJ _ _ _ _).mono ?_;rintro e w9 ⟨rfl,hw⟩;obtain rfl:W2=w9:=hw.symm;rw[F2]) | (go_at_call 248;refine(aJ _ _ _ _).mono ?_;rintro e w9 ⟨rfl,hw⟩;obtain rfl:W2=w9:=hw.symm;rw[F3]) | fail)
 go_ret
 exact⟨rfl,G2⟩
theorem yE (p:Pt) (w:World) (r0:¬p.wn<1) (r1:¬6<p.wn) (r2:¬p.vb<1) (r3:¬19<p.vb) (r4:¬p.wm<1) (r5:¬10<p.wm) (hk:(cls p.vb != wnt p.wn)=false) (hK:Hid (cls p.vb=wnt p.wn)) (hz:Hid (¬cls p.vb=0)) (h11:(p.vb == 11)=false) (hB:abt p.wn p.vb p.wm=true) (hC:ei p.vb p.ct=true) (hsu:0≤p.su∧p.su≤255) (F1:bB (uS p.vb p.wm) p.su 6=true) (htr:0≤p.tr∧p.tr≤255) (F2:bB (uT p.vb p.wm) p.tr 8=true) (hmr:0≤p.mr∧p.mr≤255) (F3:bB (uM p.vb) p.mr 4=true) (hU:uN p.vb=true) (HN:aT p.nm.data.toList=false):Calls Tryz.prog 184 #[pv p] w fun e w'=>e=.returned (.int .i64 4)∧w.grownBy w' none:=by
 unfold pv
 go_enter Tryz.func184,Tryz.ntmps184
 go_wp2_with (go_at_call 243;refine(bC _ _ _).mono ?_;rintro e w1 ⟨rfl,rfl⟩;simp only[bW])
 go_quiet ((first | (go_at_call 244;exact Calls.quiet_of_same (aL _ _)) | (go_at_call 245;exact Calls.quiet_of_same (bD _ _))))
 obtain⟨W0,hW0,A0,G0⟩:=bl w p nq
 rw[←hW0]
 clear hW0 r0 r1 r2 r3 r4 r5
 obtain⟨c0,c1,c2,c3,c4,c5,c6,c7⟩:=A0.cells
 go_wp2_with fail
 refine(bJ p W0 hK.out hz.out).mono ?_
 rintro e W1 ⟨rfl,g⟩
 rw[hB]
 have A1:=A0.keep g
 have G1:=ae G0 g
 clear c0 c1 c2 c3 c4 c5 c6 c7 g A0 G0
 obtain⟨c0,c1,c2,c3,c4,c5,c6,c7⟩:=A1.cells
 go_wp2_with fail
 refine(bt p W1).mono ?_
 rintro e W2 ⟨rfl,g⟩
 rw[hC]
 have A2:=A1.keep g
 have G2:=ae G1 g
 clear c0 c1 c2 c3 c4 c5 c6 c7 g A1 G1
 obtain⟨c0,c1,c2,c3,c4,c5,c6,c7⟩:=A2.cells
 go_wp2_with (first | (go_at_call 248;refine(aJ _ _ _ _).mono ?_;rintro e w9 ⟨rfl,hw⟩;obtain rfl:W2=w9:=hw.symm;rw[F1]) | (go_at_call 248;refine(aJ _ _ _ _).mono ?_;rintro e w9 ⟨rfl,hw⟩;obtain rfl:W2=w9:=hw.symm;rw[F2]) | (go_at_call 248;refine(aJ _ _ _ _).mono ?_;rintro e w9 ⟨rfl,hw⟩;obtain rfl:W2=w9:=hw.symm;rw[F3]) | (go_at_call 249;refine(jg _ _).mono ?_;rintro e w9 ⟨rfl,hw⟩;obtain rfl:W2=w9:=hw.symm;rw[HN]) | fail)
 go_ret
 exact⟨rfl,G2⟩
theorem zM (p:Pt) (w:World) (r0:¬p.wn<1) (r1:¬6<p.wn) (r2:¬p.vb<1) (r3:¬19<p.vb) (r4:¬p.wm<1) (r5:¬10<p.wm) (hk:(cls p.vb != wnt p.wn)=false) (hK:Hid (cls p.vb=wnt p.wn)) (hz:Hid (¬cls p.vb=0)) (h11:(p.vb == 11)=false) (hB:abt p.wn p.vb p.wm=true) (hC:ei p.vb p.ct=true) (hsu:0≤p.su∧p.su≤255) (F1:bB (uS p.vb p.wm) p.su 6=true) (htr:0≤p.tr∧p.tr≤255) (F2:bB (uT p.vb p.wm) p.tr 8=true) (hmr:0≤p.mr∧p.mr≤255) (F3:bB (uM p.vb) p.mr 4=true) (hU:uN p.vb=true) (HN:aT p.nm.data.toList=true):Calls Tryz.prog 184 #[pv p] w fun e w'=>e=.returned (.int .i64 0)∧w.grownBy w' none:=by
 unfold pv
 go_enter Tryz.func184,Tryz.ntmps184
 go_wp2_with (go_at_call 243;refine(bC _ _ _).mono ?_;rintro e w1 ⟨rfl,rfl⟩;simp only[bW])
 go_quiet ((first | (go_at_call 244;exact Calls.quiet_of_same (aL _ _)) | (go_at_call 245;exact Calls.quiet_of_same (bD _ _))))
 obtain⟨W0,hW0,A0,G0⟩:=bl w p nq
 rw[←hW0]
 clear hW0 r0 r1 r2 r3 r4 r5
 obtain⟨c0,c1,c2,c3,c4,c5,c6,c7⟩:=A0.cells
 go_wp2_with fail
 refine(bJ p W0 hK.out hz.out).mono ?_
 rintro e W1 ⟨rfl,g⟩
 rw[hB]
 have A1:=A0.keep g
 have G1:=ae G0 g
 clear c0 c1 c2 c3 c4 c5 c6 c7 g A0 G0
 obtain⟨c0,c1,c2,c3,c4,c5,c6,c7⟩:=A1.cells
 go_wp2_with fail
 refine(bt p W1).mono ?_
 rintro e W2 ⟨rfl,g⟩
 rw[hC]
 have A2:=A1.keep g
 have G2:=ae G1 g
 clear c0 c1 c2 c3 c4 c5 c6 c7 g A1 G1
 obtain⟨c0,c1,c2,c3,c4,c5,c6,c7⟩:=A2.cells
 go_wp2_with (first | (go_at_call 248;refine(aJ _ _ _ _).mono ?_;rintro e w9 ⟨rfl,hw⟩;obtain rfl:W2=w9:=hw.symm;rw[F1]) | (go_at_call 248;refine(aJ _ _ _ _).mono ?_;rintro e w9 ⟨rfl,hw⟩;obtain rfl:W2=w9:=hw.symm;rw[F2]) | (go_at_call 248;refine(aJ _ _ _ _).mono ?_;rintro e w9 ⟨rfl,hw⟩;obtain rfl:W2=w9:=hw.symm;rw[F3]) | (go_at_call 249;refine(jg _ _).mono ?_;rintro e w9 ⟨rfl,hw⟩;obtain rfl:W2=w9:=hw.symm;rw[HN]) | fail)
 go_ret
 exact⟨rfl,G2⟩
theorem xV (p:Pt) (w:World) (r0:¬p.wn<1) (r1:¬6<p.wn) (r2:¬p.vb<1) (r3:¬19<p.vb) (r4:¬p.wm<1) (r5:¬10<p.wm) (hk:(cls p.vb != wnt p.wn)=false) (hK:Hid (cls p.vb=wnt p.wn)) (hz:Hid (¬cls p.vb=0)) (h11:(p.vb == 11)=false) (hB:abt p.wn p.vb p.wm=true) (hC:ei p.vb p.ct=true) (hsu:0≤p.su∧p.su≤255) (F1:bB (uS p.vb p.wm) p.su 6=true) (htr:0≤p.tr∧p.tr≤255) (F2:bB (uT p.vb p.wm) p.tr 8=true) (hmr:0≤p.mr∧p.mr≤255) (F3:bB (uM p.vb) p.mr 4=true) (hU:uN p.vb=false) (HE:Hid (¬p.nm.data.toList=[])):Calls Tryz.prog 184 #[pv p] w fun e w'=>e=.returned (.int .i64 4)∧w.grownBy w' none:=by
 unfold pv
 go_enter Tryz.func184,Tryz.ntmps184
 go_wp2_with (go_at_call 243;refine(bC _ _ _).mono ?_;rintro e w1 ⟨rfl,rfl⟩;simp only[bW])
 go_quiet ((first | (go_at_call 244;exact Calls.quiet_of_same (aL _ _)) | (go_at_call 245;exact Calls.quiet_of_same (bD _ _))))
 obtain⟨W0,hW0,A0,G0⟩:=bl w p nq
 rw[←hW0]
 clear hW0 r0 r1 r2 r3 r4 r5
 obtain⟨c0,c1,c2,c3,c4,c5,c6,c7⟩:=A0.cells
 go_wp2_with fail
 refine(bJ p W0 hK.out hz.out).mono ?_
 rintro e W1 ⟨rfl,g⟩
 rw[hB]
 have A1:=A0.keep g
 have G1:=ae G0 g
 clear c0 c1 c2 c3 c4 c5 c6 c7 g A0 G0
 obtain⟨c0,c1,c2,c3,c4,c5,c6,c7⟩:=A1.cells
 go_wp2_with fail
 refine(bt p W1).mono ?_
 rintro e W2 ⟨rfl,g⟩
 rw[hC]
 have A2:=A1.keep g
 have G2:=ae G1 g
 clear c0 c1 c2 c3 c4 c5 c6 c7 g A1 G1
 obtain⟨c0,c1,c2,c3,c4,c5,c6,c7⟩:=A2.cells
 have hb:(p.nm.toList == [])=false:=by
  rw[Lib.toList_data]
  simpa using HE.out
 have hb2:p.nm.toList.isEmpty=false:=by
  rw[Lib.toList_data]
  simpa using HE.out
 have hb3:(p.nm.toList != [])=true:=by simp[bne,hb]
 have hb4:(p.nm.toList != ([]:List UInt8))=true:=hb3
 have hb5:(!p.nm.toList.isEmpty)=true:=by simp[hb2]
 go_wp2_with (first | (go_at_call 248;refine(aJ _ _ _ _).mono ?_;rintro e w9 ⟨rfl,hw⟩;obtain rfl:W2=w9:=hw.symm;rw[F1]) | (go_at_call 248;refine(aJ _ _ _ _).mono ?_;rintro e w9 ⟨rfl,hw⟩;obtain rfl:W2=w9:=hw.symm;rw[F2]) | (go_at_call 248;refine(aJ _ _ _ _).mono ?_;rintro e w9 ⟨rfl,hw⟩;obtain rfl:W2=w9:=hw.symm;rw[F3]) | fail)
 go_ret
 exact⟨rfl,G2⟩
theorem yk (p:Pt) (w:World) (r0:¬p.wn<1) (r1:¬6<p.wn) (r2:¬p.vb<1) (r3:¬19<p.vb) (r4:¬p.wm<1) (r5:¬10<p.wm) (hk:(cls p.vb != wnt p.wn)=false) (hK:Hid (cls p.vb=wnt p.wn)) (hz:Hid (¬cls p.vb=0)) (h11:(p.vb == 11)=false) (hB:abt p.wn p.vb p.wm=true) (hC:ei p.vb p.ct=true) (hsu:0≤p.su∧p.su≤255) (F1:bB (uS p.vb p.wm) p.su 6=true) (htr:0≤p.tr∧p.tr≤255) (F2:bB (uT p.vb p.wm) p.tr 8=true) (hmr:0≤p.mr∧p.mr≤255) (F3:bB (uM p.vb) p.mr 4=true) (hU:uN p.vb=false) (HE:Hid (p.nm=⟨#[]⟩)):Calls Tryz.prog 184 #[pv p] w fun e w'=>e=.returned (.int .i64 0)∧w.grownBy w' none:=by
 unfold pv
 go_enter Tryz.func184,Tryz.ntmps184
 go_wp2_with (go_at_call 243;refine(bC _ _ _).mono ?_;rintro e w1 ⟨rfl,rfl⟩;simp only[bW])
 go_quiet ((first | (go_at_call 244;exact Calls.quiet_of_same (aL _ _)) | (go_at_call 245;exact Calls.quiet_of_same (bD _ _))))
 obtain⟨W0,hW0,A0,G0⟩:=bl w p nq
 rw[←hW0]
 clear hW0 r0 r1 r2 r3 r4 r5
 obtain⟨c0,c1,c2,c3,c4,c5,c6,c7⟩:=A0.cells
 go_wp2_with fail
 refine(bJ p W0 hK.out hz.out).mono ?_
 rintro e W1 ⟨rfl,g⟩
 rw[hB]
 have A1:=A0.keep g
 have G1:=ae G0 g
 clear c0 c1 c2 c3 c4 c5 c6 c7 g A0 G0
 obtain⟨c0,c1,c2,c3,c4,c5,c6,c7⟩:=A1.cells
 go_wp2_with fail
 refine(bt p W1).mono ?_
 rintro e W2 ⟨rfl,g⟩
 rw[hC]
 have A2:=A1.keep g
 have G2:=ae G1 g
 clear c0 c1 c2 c3 c4 c5 c6 c7 g A1 G1
 obtain⟨c0,c1,c2,c3,c4,c5,c6,c7⟩:=A2.cells
 rw[HE.out] at c7
 go_wp2_with (first | (go_at_call 248;refine(aJ _ _ _ _).mono ?_;rintro e w9 ⟨rfl,hw⟩;obtain rfl:W2=w9:=hw.symm;rw[F1]) | (go_at_call 248;refine(aJ _ _ _ _).mono ?_;rintro e w9 ⟨rfl,hw⟩;obtain rfl:W2=w9:=hw.symm;rw[F2]) | (go_at_call 248;refine(aJ _ _ _ _).mono ?_;rintro e w9 ⟨rfl,hw⟩;obtain rfl:W2=w9:=hw.symm;rw[F3]) | fail)
 go_ret
 exact⟨rfl,G2⟩
theorem zj (p:Pt) (w:World) (r0:¬p.wn<1) (r1:¬6<p.wn) (r2:¬p.vb<1) (r3:¬19<p.vb) (r4:¬p.wm<1) (r5:¬10<p.wm) (hk:(cls p.vb != wnt p.wn)=false) (hK:Hid (cls p.vb=wnt p.wn)) (hz:Hid (¬cls p.vb=0)) (h11:(p.vb == 11)=true) (h9:(p.wm == 9)=false) (hB:abt p.wn p.vb p.wm=false):Calls Tryz.prog 184 #[pv p] w fun e w'=>e=.returned (.int .i64 13)∧w.grownBy w' none:=by
 unfold pv
 go_enter Tryz.func184,Tryz.ntmps184
 go_wp2_with (go_at_call 243;refine(bC _ _ _).mono ?_;rintro e w1 ⟨rfl,rfl⟩;simp only[bW])
 go_quiet ((first | (go_at_call 244;exact Calls.quiet_of_same (aL _ _)) | (go_at_call 245;exact Calls.quiet_of_same (bD _ _))))
 obtain⟨W0,hW0,A0,G0⟩:=bl w p nq
 rw[←hW0]
 clear hW0 r0 r1 r2 r3 r4 r5
 obtain⟨c0,c1,c2,c3,c4,c5,c6,c7⟩:=A0.cells
 go_wp2_with fail
 refine(bJ p W0 hK.out hz.out).mono ?_
 rintro e W1 ⟨rfl,g⟩
 rw[hB]
 have A1:=A0.keep g
 have G1:=ae G0 g
 clear c0 c1 c2 c3 c4 c5 c6 c7 g A0 G0
 obtain⟨c0,c1,c2,c3,c4,c5,c6,c7⟩:=A1.cells
 go_wp2_with fail
 go_ret
 exact⟨rfl,G1⟩
theorem zl (p:Pt) (w:World) (r0:¬p.wn<1) (r1:¬6<p.wn) (r2:¬p.vb<1) (r3:¬19<p.vb) (r4:¬p.wm<1) (r5:¬10<p.wm) (hk:(cls p.vb != wnt p.wn)=false) (hK:Hid (cls p.vb=wnt p.wn)) (hz:Hid (¬cls p.vb=0)) (h11:(p.vb == 11)=true) (h9:(p.wm == 9)=false) (hB:abt p.wn p.vb p.wm=true) (hC:ei p.vb p.ct=false):Calls Tryz.prog 184 #[pv p] w fun e w'=>e=.returned (.int .i64 2)∧w.grownBy w' none:=by
 unfold pv
 go_enter Tryz.func184,Tryz.ntmps184
 go_wp2_with (go_at_call 243;refine(bC _ _ _).mono ?_;rintro e w1 ⟨rfl,rfl⟩;simp only[bW])
 go_quiet ((first | (go_at_call 244;exact Calls.quiet_of_same (aL _ _)) | (go_at_call 245;exact Calls.quiet_of_same (bD _ _))))
 obtain⟨W0,hW0,A0,G0⟩:=bl w p nq
 rw[←hW0]
 clear hW0 r0 r1 r2 r3 r4 r5
 obtain⟨c0,c1,c2,c3,c4,c5,c6,c7⟩:=A0.cells
 go_wp2_with fail
 refine(bJ p W0 hK.out hz.out).mono ?_
 rintro e W1 ⟨rfl,g⟩
 rw[hB]
 have A1:=A0.keep g
 have G1:=ae G0 g
 clear c0 c1 c2 c3 c4 c5 c6 c7 g A0 G0
 obtain⟨c0,c1,c2,c3,c4,c5,c6,c7⟩:=A1.cells
 go_wp2_with fail
 refine(bt p W1).mono ?_
 rintro e W2 ⟨rfl,g⟩
 rw[hC]
 have A2:=A1.keep g
 have G2:=ae G1 g
 clear c0 c1 c2 c3 c4 c5 c6 c7 g A1 G1
 obtain⟨c0,c1,c2,c3,c4,c5,c6,c7⟩:=A2.cells
 go_wp2_with fail
 go_ret
 exact⟨rfl,G2⟩
theorem uF (p:Pt) (w:World) (r0:¬p.wn<1) (r1:¬6<p.wn) (r2:¬p.vb<1) (r3:¬19<p.vb) (r4:¬p.wm<1) (r5:¬10<p.wm) (hk:(cls p.vb != wnt p.wn)=false) (hK:Hid (cls p.vb=wnt p.wn)) (hz:Hid (¬cls p.vb=0)) (h11:(p.vb == 11)=true) (h9:(p.wm == 9)=false) (hB:abt p.wn p.vb p.wm=true) (hC:ei p.vb p.ct=true) (hsu:0≤p.su∧p.su≤255) (F1:bB (uS p.vb p.wm) p.su 6=false):Calls Tryz.prog 184 #[pv p] w fun e w'=>e=.returned (.int .i64 2)∧w.grownBy w' none:=by
 unfold pv
 go_enter Tryz.func184,Tryz.ntmps184
 go_wp2_with (go_at_call 243;refine(bC _ _ _).mono ?_;rintro e w1 ⟨rfl,rfl⟩;simp only[bW])
 go_quiet ((first | (go_at_call 244;exact Calls.quiet_of_same (aL _ _)) | (go_at_call 245;exact Calls.quiet_of_same (bD _ _))))
 obtain⟨W0,hW0,A0,G0⟩:=bl w p nq
 rw[←hW0]
 clear hW0 r0 r1 r2 r3 r4 r5
 obtain⟨c0,c1,c2,c3,c4,c5,c6,c7⟩:=A0.cells
 go_wp2_with fail
 refine(bJ p W0 hK.out hz.out).mono ?_
 rintro e W1 ⟨rfl,g⟩
 rw[hB]
 have A1:=A0.keep g
 have G1:=ae G0 g
 clear c0 c1 c2 c3 c4 c5 c6 c7 g A0 G0
 obtain⟨c0,c1,c2,c3,c4,c5,c6,c7⟩:=A1.cells
 go_wp2_with fail
 refine(bt p W1).mono ?_
 rintro e W2 ⟨rfl,g⟩
 rw[hC]
 have A2:=A1.keep g
 have G2:=ae G1 g
 clear c0 c1 c2 c3 c4 c5 c6 c7 g A1 G1
 obtain⟨c0,c1,c2,c3,c4,c5,c6,c7⟩:=A2.cells
 go_wp2_with (first | (go_at_call 248;refine(aJ _ _ _ _).mono ?_;rintro e w9 ⟨rfl,hw⟩;obtain rfl:W2=w9:=hw.symm;rw[F1]) | fail)
 go_ret
 exact⟨rfl,G2⟩
theorem wa (p:Pt) (w:World) (r0:¬p.wn<1) (r1:¬6<p.wn) (r2:¬p.vb<1) (r3:¬19<p.vb) (r4:¬p.wm<1) (r5:¬10<p.wm) (hk:(cls p.vb != wnt p.wn)=false) (hK:Hid (cls p.vb=wnt p.wn)) (hz:Hid (¬cls p.vb=0)) (h11:(p.vb == 11)=true) (h9:(p.wm == 9)=false) (hB:abt p.wn p.vb p.wm=true) (hC:ei p.vb p.ct=true) (hsu:0≤p.su∧p.su≤255) (F1:bB (uS p.vb p.wm) p.su 6=true) (htr:0≤p.tr∧p.tr≤255) (F2:bB (uT p.vb p.wm) p.tr 8=false):Calls Tryz.prog 184 #[pv p] w fun e w'=>e=.returned (.int .i64 2)∧w.grownBy w' none:=by
 unfold pv
 go_enter Tryz.func184,Tryz.ntmps184
 go_wp2_with (go_at_call 243;refine(bC _ _ _).mono ?_;rintro e w1 ⟨rfl,rfl⟩;simp only[bW])
 go_quiet ((first | (go_at_call 244;exact Calls.quiet_of_same (aL _ _)) | (go_at_call 245;exact Calls.quiet_of_same (bD _ _))))
 obtain⟨W0,hW0,A0,G0⟩:=bl w p nq
 rw[←hW0]
 clear hW0 r0 r1 r2 r3 r4 r5
 obtain⟨c0,c1,c2,c3,c4,c5,c6,c7⟩:=A0.cells
 go_wp2_with fail
 refine(bJ p W0 hK.out hz.out).mono ?_
 rintro e W1 ⟨rfl,g⟩
 rw[hB]
 have A1:=A0.keep g
 have G1:=ae G0 g
 clear c0 c1 c2 c3 c4 c5 c6 c7 g A0 G0
 obtain⟨c0,c1,c2,c3,c4,c5,c6,c7⟩:=A1.cells
 go_wp2_with fail
 refine(bt p W1).mono ?_
 rintro e W2 ⟨rfl,g⟩
 rw[hC]
 have A2:=A1.keep g
 have G2:=ae G1 g
 clear c0 c1 c2 c3 c4 c5 c6 c7 g A1 G1
 obtain⟨c0,c1,c2,c3,c4,c5,c6,c7⟩:=A2.cells
 go_wp2_with (first | (go_at_call 248;refine(aJ _ _ _ _).mono ?_;rintro e w9 ⟨rfl,hw⟩;obtain rfl:W2=w9:=hw.symm;rw[F1]) | (go_at_call 248;refine(aJ _ _ _ _).mono ?_;rintro e w9 ⟨rfl,hw⟩;obtain rfl:W2=w9:=hw.symm;rw[F2]) | fail)
 go_ret
 exact⟨rfl,G2⟩
theorem tW (p:Pt) (w:World) (r0:¬p.wn<1) (r1:¬6<p.wn) (r2:¬p.vb<1) (r3:¬19<p.vb) (r4:¬p.wm<1) (r5:¬10<p.wm) (hk:(cls p.vb != wnt p.wn)=false) (hK:Hid (cls p.vb=wnt p.wn)) (hz:Hid (¬cls p.vb=0)) (h11:(p.vb == 11)=true) (h9:(p.wm == 9)=false) (hB:abt p.wn p.vb p.wm=true) (hC:ei p.vb p.ct=true) (hsu:0≤p.su∧p.su≤255) (F1:bB (uS p.vb p.wm) p.su 6=true) (htr:0≤p.tr∧p.tr≤255) (F2:bB (uT p.vb p.wm) p.tr 8=true) (hmr:0≤p.mr∧p.mr≤255) (F3:bB (uM p.vb) p.mr 4=false):Calls Tryz.prog 184 #[pv p] w fun e w'=>e=.returned (.int .i64 2)∧w.grownBy w' none:=by
 unfold pv
 go_enter Tryz.func184,Tryz.ntmps184
 go_wp2_with (go_at_call 243;refine(bC _ _ _).mono ?_;rintro e w1 ⟨rfl,rfl⟩;simp only[bW])
 go_quiet ((first | (go_at_call 244;exact Calls.quiet_of_same (aL _ _)) | (go_at_call 245;exact Calls.quiet_of_same (bD _ _))))
 obtain⟨W0,hW0,A0,G0⟩:=bl w p nq
 rw[←hW0]
 clear hW0 r0 r1 r2 r3 r4 r5
 obtain⟨c0,c1,c2,c3,c4,c5,c6,c7⟩:=A0.cells
 go_wp2_with fail
 refine(bJ p W0 hK.out hz.out).mono ?_
 rintro e W1 ⟨rfl,g⟩
 rw[hB]
 have A1:=A0.keep g
 have G1:=ae G0 g
 clear c0 c1 c2 c3 c4 c5 c6 c7 g A0 G0
 obtain⟨c0,c1,c2,c3,c4,c5,c6,c7⟩:=A1.cells
 go_wp2_with fail
 refine(bt p W1).mono ?_
 rintro e W2 ⟨rfl,g⟩
 rw[hC]
 have A2:=A1.keep g
 have G2:=ae G1 g
 clear c0 c1 c2 c3 c4 c5 c6 c7 g A1 G1
 obtain⟨c0,c1,c2,c3,c4,c5,c6,c7⟩:=A2.cells
 go_wp2_with (first | (go_at_call 248;refine(aJ _ _ _ _).mono ?_;rintro e w9 ⟨rfl,hw⟩;obtain rfl:W2=w9:=hw.symm;rw[F1]) | (go_at_call 248;refine(aJ _ _ _ _).mono ?_;rintro e w9 ⟨rfl,hw⟩;obtain rfl:W2=w9:=hw.symm;rw[F2]) | (go_at_call 248;refine(aJ _ _ _ _).mono ?_;rintro e w9 ⟨rfl,hw⟩;obtain rfl:W2=w9:=hw.symm;rw[F3]) | fail)
 go_ret
 exact⟨rfl,G2⟩
theorem zh (p:Pt) (w:World) (r0:¬p.wn<1) (r1:¬6<p.wn) (r2:¬p.vb<1) (r3:¬19<p.vb) (r4:¬p.wm<1) (r5:¬10<p.wm) (hk:(cls p.vb != wnt p.wn)=false) (hK:Hid (cls p.vb=wnt p.wn)) (hz:Hid (¬cls p.vb=0)) (h11:(p.vb == 11)=true) (h9:(p.wm == 9)=false) (hB:abt p.wn p.vb p.wm=true) (hC:ei p.vb p.ct=true) (hsu:0≤p.su∧p.su≤255) (F1:bB (uS p.vb p.wm) p.su 6=true) (htr:0≤p.tr∧p.tr≤255) (F2:bB (uT p.vb p.wm) p.tr 8=true) (hmr:0≤p.mr∧p.mr≤255) (F3:bB (uM p.vb) p.mr 4=true) (hU:uN p.vb=true) (HN:aT p.nm.data.toList=false):Calls Tryz.prog 184 #[pv p] w fun e w'=>e=.returned (.int .i64 4)∧w.grownBy w' none:=by
 unfold pv
 go_enter Tryz.func184,Tryz.ntmps184
 go_wp2_with (go_at_call 243;refine(bC _ _ _).mono ?_;rintro e w1 ⟨rfl,rfl⟩;simp only[bW])
 go_quiet ((first | (go_at_call 244;exact Calls.quiet_of_same (aL _ _)) | (go_at_call 245;exact Calls.quiet_of_same (bD _ _))))
 obtain⟨W0,hW0,A0,G0⟩:=bl w p nq
 rw[←hW0]
 clear hW0 r0 r1 r2 r3 r4 r5
 obtain⟨c0,c1,c2,c3,c4,c5,c6,c7⟩:=A0.cells
 go_wp2_with fail
 refine(bJ p W0 hK.out hz.out).mono ?_
 rintro e W1 ⟨rfl,g⟩
 rw[hB]
 have A1:=A0.keep g
 have G1:=ae G0 g
 clear c0 c1 c2 c3 c4 c5 c6 c7 g A0 G0
 obtain⟨c0,c1,c2,c3,c4,c5,c6,c7⟩:=A1.cells
 go_wp2_with fail
 refine(bt p W1).mono ?_
 rintro e W2 ⟨rfl,g⟩
 rw[hC]
 have A2:=A1.keep g
 have G2:=ae G1 g
 clear c0 c1 c2 c3 c4 c5 c6 c7 g A1 G1
 obtain⟨c0,c1,c2,c3,c4,c5,c6,c7⟩:=A2.cells
 go_wp2_with (first | (go_at_call 248;refine(aJ _ _ _ _).mono ?_;rintro e w9 ⟨rfl,hw⟩;obtain rfl:W2=w9:=hw.symm;rw[F1]) | (go_at_call 248;refine(aJ _ _ _ _).mono ?_;rintro e w9 ⟨rfl,hw⟩;obtain rfl:W2=w9:=hw.symm;rw[F2]) | (go_at_call 248;refine(aJ _ _ _ _).mono ?_;rintro e w9 ⟨rfl,hw⟩;obtain rfl:W2=w9:=hw.symm;rw[F3]) | (go_at_call 249;refine(jg _ _).mono ?_;rintro e w9 ⟨rfl,hw⟩;obtain rfl:W2=w9:=hw.symm;rw[HN]) | fail)
 go_ret
 exact⟨rfl,G2⟩
theorem yd (p:Pt) (w:World) (r0:¬p.wn<1) (r1:¬6<p.wn) (r2:¬p.vb<1) (r3:¬19<p.vb) (r4:¬p.wm<1) (r5:¬10<p.wm) (hk:(cls p.vb != wnt p.wn)=false) (hK:Hid (cls p.vb=wnt p.wn)) (hz:Hid (¬cls p.vb=0)) (h11:(p.vb == 11)=true) (h9:(p.wm == 9)=false) (hB:abt p.wn p.vb p.wm=true) (hC:ei p.vb p.ct=true) (hsu:0≤p.su∧p.su≤255) (F1:bB (uS p.vb p.wm) p.su 6=true) (htr:0≤p.tr∧p.tr≤255) (F2:bB (uT p.vb p.wm) p.tr 8=true) (hmr:0≤p.mr∧p.mr≤255) (F3:bB (uM p.vb) p.mr 4=true) (hU:uN p.vb=true) (HN:aT p.nm.data.toList=true):Calls Tryz.prog 184 #[pv p] w fun e w'=>e=.returned (.int .i64 0)∧w.grownBy w' none:=by
 unfold pv
 go_enter Tryz.func184,Tryz.ntmps184
 go_wp2_with (go_at_call 243;refine(bC _ _ _).mono ?_;rintro e w1 ⟨rfl,rfl⟩;simp only[bW])
 go_quiet ((first | (go_at_call 244;exact Calls.quiet_of_same (aL _ _)) | (go_at_call 245;exact Calls.quiet_of_same (bD _ _))))
 obtain⟨W0,hW0,A0,G0⟩:=bl w p nq
 rw[←hW0]
 clear hW0 r0 r1 r2 r3 r4 r5
 obtain⟨c0,c1,c2,c3,c4,c5,c6,c7⟩:=A0.cells
 go_wp2_with fail
 refine(bJ p W0 hK.out hz.out).mono ?_
 rintro e W1 ⟨rfl,g⟩
 rw[hB]
 have A1:=A0.keep g
 have G1:=ae G0 g
 clear c0 c1 c2 c3 c4 c5 c6 c7 g A0 G0
 obtain⟨c0,c1,c2,c3,c4,c5,c6,c7⟩:=A1.cells
 go_wp2_with fail
 refine(bt p W1).mono ?_
 rintro e W2 ⟨rfl,g⟩
 rw[hC]
 have A2:=A1.keep g
 have G2:=ae G1 g
 clear c0 c1 c2 c3 c4 c5 c6 c7 g A1 G1
 obtain⟨c0,c1,c2,c3,c4,c5,c6,c7⟩:=A2.cells
 go_wp2_with (first | (go_at_call 248;refine(aJ _ _ _ _).mono ?_;rintro e w9 ⟨rfl,hw⟩;obtain rfl:W2=w9:=hw.symm;rw[F1]) | (go_at_call 248;refine(aJ _ _ _ _).mono ?_;rintro e w9 ⟨rfl,hw⟩;obtain rfl:W2=w9:=hw.symm;rw[F2]) | (go_at_call 248;refine(aJ _ _ _ _).mono ?_;rintro e w9 ⟨rfl,hw⟩;obtain rfl:W2=w9:=hw.symm;rw[F3]) | (go_at_call 249;refine(jg _ _).mono ?_;rintro e w9 ⟨rfl,hw⟩;obtain rfl:W2=w9:=hw.symm;rw[HN]) | fail)
 go_ret
 exact⟨rfl,G2⟩
theorem yQ (p:Pt) (w:World) (r0:¬p.wn<1) (r1:¬6<p.wn) (r2:¬p.vb<1) (r3:¬19<p.vb) (r4:¬p.wm<1) (r5:¬10<p.wm) (hk:(cls p.vb != wnt p.wn)=false) (hK:Hid (cls p.vb=wnt p.wn)) (hz:Hid (¬cls p.vb=0)) (h11:(p.vb == 11)=true) (h9:(p.wm == 9)=false) (hB:abt p.wn p.vb p.wm=true) (hC:ei p.vb p.ct=true) (hsu:0≤p.su∧p.su≤255) (F1:bB (uS p.vb p.wm) p.su 6=true) (htr:0≤p.tr∧p.tr≤255) (F2:bB (uT p.vb p.wm) p.tr 8=true) (hmr:0≤p.mr∧p.mr≤255) (F3:bB (uM p.vb) p.mr 4=true) (hU:uN p.vb=false) (HE:Hid (¬p.nm.data.toList=[])):Calls Tryz.prog 184 #[pv p] w fun e w'=>e=.returned (.int .i64 4)∧w.grownBy w' none:=by
 unfold pv
 go_enter Tryz.func184,Tryz.ntmps184
 go_wp2_with (go_at_call 243;refine(bC _ _ _).mono ?_;rintro e w1 ⟨rfl,rfl⟩;simp only[bW])
 go_quiet ((first | (go_at_call 244;exact Calls.quiet_of_same (aL _ _)) | (go_at_call 245;exact Calls.quiet_of_same (bD _ _))))
 obtain⟨W0,hW0,A0,G0⟩:=bl w p nq
 rw[←hW0]
 clear hW0 r0 r1 r2 r3 r4 r5
 obtain⟨c0,c1,c2,c3,c4,c5,c6,c7⟩:=A0.cells
 go_wp2_with fail
 refine(bJ p W0 hK.out hz.out).mono ?_
 rintro e W1 ⟨rfl,g⟩
 rw[hB]
 have A1:=A0.keep g
 have G1:=ae G0 g
 clear c0 c1 c2 c3 c4 c5 c6 c7 g A0 G0
 obtain⟨c0,c1,c2,c3,c4,c5,c6,c7⟩:=A1.cells
 go_wp2_with fail
 refine(bt p W1).mono ?_
 rintro e W2 ⟨rfl,g⟩
 rw[hC]
 have A2:=A1.keep g
 have G2:=ae G1 g
 clear c0 c1 c2 c3 c4 c5 c6 c7 g A1 G1
 obtain⟨c0,c1,c2,c3,c4,c5,c6,c7⟩:=A2.cells
 have hb:(p.nm.toList == [])=false:=by
  rw[Lib.toList_data]
  simpa using HE.out
 have hb2:p.nm.toList.isEmpty=false:=by
  rw[Lib.toList_data]
  simpa using HE.out
 have hb3:(p.nm.toList != [])=true:=by simp[bne,hb]
 have hb4:(p.nm.toList != ([]:List UInt8))=true:=hb3
 have hb5:(!p.nm.toList.isEmpty)=true:=by simp[hb2]
 go_wp2_with (first | (go_at_call 248;refine(aJ _ _ _ _).mono ?_;rintro e w9 ⟨rfl,hw⟩;obtain rfl:W2=w9:=hw.symm;rw[F1]) | (go_at_call 248;refine(aJ _ _ _ _).mono ?_;rintro e w9 ⟨rfl,hw⟩;obtain rfl:W2=w9:=hw.symm;rw[F2]) | (go_at_call 248;refine(aJ _ _ _ _).mono ?_;rintro e w9 ⟨rfl,hw⟩;obtain rfl:W2=w9:=hw.symm;rw[F3]) | fail)
 go_ret
 exact⟨rfl,G2⟩
theorem zu (p:Pt) (w:World) (r0:¬p.wn<1) (r1:¬6<p.wn) (r2:¬p.vb<1) (r3:¬19<p.vb) (r4:¬p.wm<1) (r5:¬10<p.wm) (hk:(cls p.vb != wnt p.wn)=false) (hK:Hid (cls p.vb=wnt p.wn)) (hz:Hid (¬cls p.vb=0)) (h11:(p.vb == 11)=true) (h9:(p.wm == 9)=false) (hB:abt p.wn p.vb p.wm=true) (hC:ei p.vb p.ct=true) (hsu:0≤p.su∧p.su≤255) (F1:bB (uS p.vb p.wm) p.su 6=true) (htr:0≤p.tr∧p.tr≤255) (F2:bB (uT p.vb p.wm) p.tr 8=true) (hmr:0≤p.mr∧p.mr≤255) (F3:bB (uM p.vb) p.mr 4=true) (hU:uN p.vb=false) (HE:Hid (p.nm=⟨#[]⟩)):Calls Tryz.prog 184 #[pv p] w fun e w'=>e=.returned (.int .i64 0)∧w.grownBy w' none:=by
 unfold pv
 go_enter Tryz.func184,Tryz.ntmps184
 go_wp2_with (go_at_call 243;refine(bC _ _ _).mono ?_;rintro e w1 ⟨rfl,rfl⟩;simp only[bW])
 go_quiet ((first | (go_at_call 244;exact Calls.quiet_of_same (aL _ _)) | (go_at_call 245;exact Calls.quiet_of_same (bD _ _))))
 obtain⟨W0,hW0,A0,G0⟩:=bl w p nq
 rw[←hW0]
 clear hW0 r0 r1 r2 r3 r4 r5
 obtain⟨c0,c1,c2,c3,c4,c5,c6,c7⟩:=A0.cells
 go_wp2_with fail
 refine(bJ p W0 hK.out hz.out).mono ?_
 rintro e W1 ⟨rfl,g⟩
 rw[hB]
 have A1:=A0.keep g
 have G1:=ae G0 g
 clear c0 c1 c2 c3 c4 c5 c6 c7 g A0 G0
 obtain⟨c0,c1,c2,c3,c4,c5,c6,c7⟩:=A1.cells
 go_wp2_with fail
 refine(bt p W1).mono ?_
 rintro e W2 ⟨rfl,g⟩
 rw[hC]
 have A2:=A1.keep g
 have G2:=ae G1 g
 clear c0 c1 c2 c3 c4 c5 c6 c7 g A1 G1
 obtain⟨c0,c1,c2,c3,c4,c5,c6,c7⟩:=A2.cells
 rw[HE.out] at c7
 go_wp2_with (first | (go_at_call 248;refine(aJ _ _ _ _).mono ?_;rintro e w9 ⟨rfl,hw⟩;obtain rfl:W2=w9:=hw.symm;rw[F1]) | (go_at_call 248;refine(aJ _ _ _ _).mono ?_;rintro e w9 ⟨rfl,hw⟩;obtain rfl:W2=w9:=hw.symm;rw[F2]) | (go_at_call 248;refine(aJ _ _ _ _).mono ?_;rintro e w9 ⟨rfl,hw⟩;obtain rfl:W2=w9:=hw.symm;rw[F3]) | fail)
 go_ret
 exact⟨rfl,G2⟩
theorem nk (v:Int):wnt v=0↔v<1∨6<v:=by
 unfold wnt
 repeat' split
 all_goals omega
theorem oC (v:Int):cls v=0↔v<1∨19<v:=by
 unfold cls
 repeat' split
 all_goals omega
theorem lE (v:Int):isW v=false↔v<1∨10<v:=by
 simp only[isW,Bool.and_eq_false_iff,decide_eq_false_iff_not]
 omega
theorem dP (p:Pt) (hw:p.wf) (w:World):Calls Tryz.prog 184 #[pv p] w fun e w'=>e=.returned (.int .i64 (chk p))∧w.grownBy w' none:=by
 unfold chk
 by_cases r0:p.wn<1
 ·rw[if_pos (Or.inl ((nk _).2 (Or.inl r0)))]
  exact yT p w r0
 by_cases r1:6<p.wn
 ·rw[if_pos (Or.inl ((nk _).2 (Or.inr r1)))]
  exact yN p w r0 r1
 by_cases r2:p.vb<1
 ·rw[if_pos (Or.inr (Or.inl ((oC _).2 (Or.inl r2))))]
  exact zx p w r0 r1 r2
 by_cases r3:19<p.vb
 ·rw[if_pos (Or.inr (Or.inl ((oC _).2 (Or.inr r3))))]
  exact yL p w r0 r1 r2 r3
 by_cases r4:p.wm<1
 ·rw[if_pos (Or.inr (Or.inr ((lE _).2 (Or.inl r4))))]
  exact xT p w r0 r1 r2 r3 r4
 by_cases r5:10<p.wm
 ·rw[if_pos (Or.inr (Or.inr ((lE _).2 (Or.inr r5))))]
  exact ya p w r0 r1 r2 r3 r4 r5
 have h1:¬wnt p.wn=0:=fun e=>((nk _).1 e).elim r0 r1
 have h2:¬cls p.vb=0:=fun e=>((oC _).1 e).elim r2 r3
 have h3:¬isW p.wm=false:=fun e=>((lE _).1 e).elim r4 r5
 rw[if_neg (fun e=>e.elim h1 (fun e=>e.elim h2 h3))]
 by_cases h4:cls p.vb=wnt p.wn
 ·by_cases h11:p.vb=11
  ·by_cases h9:p.wm=9
   ·rw[if_pos (Or.inr ⟨h11,h9⟩)]
    exact zV p w r0 r1 r2 r3 r4 r5 (cN h4) (cY h11) (cY h9)
   ·rw[if_neg (fun e=>e.elim (fun x=>x h4) (fun x=>h9 x.2))]
    cases hB:abt p.wn p.vb p.wm with
    | false =>
     rw[if_pos rfl]
     exact zj p w r0 r1 r2 r3 r4 r5 (cN h4) h4 h2 (cY h11) (aU h9) hB
    | true =>
     rw[if_neg (by decide)]
     cases hC:ei p.vb p.ct with
     | false =>
      rw[if_pos (Or.inl rfl)]
      exact zl p w r0 r1 r2 r3 r4 r5 (cN h4) h4 h2 (cY h11) (aU h9) hB hC
     | true =>
      rw[show rJ p=(bB (uS p.vb p.wm) p.su 6 && (bB (uT p.vb p.wm) p.tr 8 && bB (uM p.vb) p.mr 4)) from rfl]
      cases F1:bB (uS p.vb p.wm) p.su 6 with
      | false =>
       rw[Bool.false_and,if_pos (Or.inr rfl)]
       exact uF p w r0 r1 r2 r3 r4 r5 (cN h4) h4 h2 (cY h11) (aU h9) hB hC hw.su F1
      | true =>
       cases F2:bB (uT p.vb p.wm) p.tr 8 with
       | false =>
        rw[Bool.true_and,Bool.false_and,if_pos (Or.inr rfl)]
        exact wa p w r0 r1 r2 r3 r4 r5 (cN h4) h4 h2 (cY h11) (aU h9) hB hC hw.su F1 hw.tr F2
       | true =>
        cases F3:bB (uM p.vb) p.mr 4 with
        | false =>
         rw[Bool.true_and,Bool.true_and,if_pos (Or.inr rfl)]
         exact tW p w r0 r1 r2 r3 r4 r5 (cN h4) h4 h2 (cY h11) (aU h9) hB hC hw.su F1 hw.tr F2 hw.mr F3
        | true =>
         rw[if_neg (by decide)]
         unfold pN
         cases hU:uN p.vb with
         | true =>
          rw[if_pos rfl]
          cases HN:aT p.nm.data.toList with
          | false =>
           rw[if_pos rfl]
           exact zh p w r0 r1 r2 r3 r4 r5 (cN h4) h4 h2 (cY h11) (aU h9) hB hC hw.su F1 hw.tr F2 hw.mr F3 hU HN
          | true =>
           rw[if_neg (by decide)]
           exact yd p w r0 r1 r2 r3 r4 r5 (cN h4) h4 h2 (cY h11) (aU h9) hB hC hw.su F1 hw.tr F2 hw.mr F3 hU HN
         | false =>
          rw[if_neg Bool.false_ne_true]
          by_cases HE:p.nm.data.toList=[]
          ·have HE':p.nm=⟨#[]⟩:=by
            rcases e:p.nm with ⟨⟨l⟩⟩
            rw[e] at HE
            simp at HE
            rw[HE]
           rw[Qy HE,if_neg (by decide)]
           exact zu p w r0 r1 r2 r3 r4 r5 (cN h4) h4 h2 (cY h11) (aU h9) hB hC hw.su F1 hw.tr F2 hw.mr F3 hU HE'
          ·rw[Qx HE,if_pos rfl]
           exact yQ p w r0 r1 r2 r3 r4 r5 (cN h4) h4 h2 (cY h11) (aU h9) hB hC hw.su F1 hw.tr F2 hw.mr F3 hU HE
  ·rw[if_neg (fun e=>e.elim (fun x=>x h4) (fun x=>h11 x.1))]
   cases hB:abt p.wn p.vb p.wm with
   | false =>
    rw[if_pos rfl]
    exact yu p w r0 r1 r2 r3 r4 r5 (cN h4) h4 h2 (aU h11) hB
   | true =>
    rw[if_neg (by decide)]
    cases hC:ei p.vb p.ct with
    | false =>
     rw[if_pos (Or.inl rfl)]
     exact zK p w r0 r1 r2 r3 r4 r5 (cN h4) h4 h2 (aU h11) hB hC
    | true =>
     rw[show rJ p=(bB (uS p.vb p.wm) p.su 6 && (bB (uT p.vb p.wm) p.tr 8 && bB (uM p.vb) p.mr 4)) from rfl]
     cases F1:bB (uS p.vb p.wm) p.su 6 with
     | false =>
      rw[Bool.false_and,if_pos (Or.inr rfl)]
      exact vY p w r0 r1 r2 r3 r4 r5 (cN h4) h4 h2 (aU h11) hB hC hw.su F1
     | true =>
      cases F2:bB (uT p.vb p.wm) p.tr 8 with
      | false =>
       rw[Bool.true_and,Bool.false_and,if_pos (Or.inr rfl)]
       exact vD p w r0 r1 r2 r3 r4 r5 (cN h4) h4 h2 (aU h11) hB hC hw.su F1 hw.tr F2
      | true =>
       cases F3:bB (uM p.vb) p.mr 4 with
       | false =>
        rw[Bool.true_and,Bool.true_and,if_pos (Or.inr rfl)]
        exact vu p w r0 r1 r2 r3 r4 r5 (cN h4) h4 h2 (aU h11) hB hC hw.su F1 hw.tr F2 hw.mr F3
       | true =>
        rw[if_neg (by decide)]
        unfold pN
        cases hU:uN p.vb with
        | true =>
         rw[if_pos rfl]
         cases HN:aT p.nm.data.toList with
         | false =>
          rw[if_pos rfl]
          exact yE p w r0 r1 r2 r3 r4 r5 (cN h4) h4 h2 (aU h11) hB hC hw.su F1 hw.tr F2 hw.mr F3 hU HN
         | true =>
          rw[if_neg (by decide)]
          exact zM p w r0 r1 r2 r3 r4 r5 (cN h4) h4 h2 (aU h11) hB hC hw.su F1 hw.tr F2 hw.mr F3 hU HN
        | false =>
         rw[if_neg Bool.false_ne_true]
         by_cases HE:p.nm.data.toList=[]
         ·have HE':p.nm=⟨#[]⟩:=by
           rcases e:p.nm with ⟨⟨l⟩⟩
           rw[e] at HE
           simp at HE
           rw[HE]
          rw[Qy HE,if_neg (by decide)]
          exact yk p w r0 r1 r2 r3 r4 r5 (cN h4) h4 h2 (aU h11) hB hC hw.su F1 hw.tr F2 hw.mr F3 hU HE'
         ·rw[Qx HE,if_pos rfl]
          exact xV p w r0 r1 r2 r3 r4 r5 (cN h4) h4 h2 (aU h11) hB hC hw.su F1 hw.tr F2 hw.mr F3 hU HE
 ·rw[if_pos (Or.inl h4)]
  exact AG p w r0 r1 r2 r3 r4 r5 (fj h4)
end Go.Proofs.YtjmepebbcnhalaaGreat
