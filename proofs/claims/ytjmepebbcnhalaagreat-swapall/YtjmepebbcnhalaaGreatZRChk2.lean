/-

-/
import Derived.Test.YtjmepebbcnhalaaGreatZ7
import Derived.Deep.QuietTactic
namespace Go.Proofs.YtjmepebbcnhalaaGreat
open Tryz
set_option maxRecDepth 100000
set_option maxHeartbeats 4000000
open Go.RowKit

theorem bs (w:World) (p:Pt) (n:Nat):∃ W1,W1=(w.alloc (.cells #[.int .u8 p.wn,.int .u8 p.vb,.int .u8 p.wm,.int .i64 p.ct,.int .u8 p.su,.int .u8 p.tr,.int .u8 p.mr,.string p.nm] 62)).drewN n∧PAt W1 w.heap.size p∧w.grownBy W1 none:=⟨_,rfl,(PAt.new w p).keep (aA _ _ _),aa (Qa0 _ _ _) (aA _ _ _)⟩
theorem zQ (p:Pt) (w:World)  (r0:p.wn<1):Calls prog 184 #[pv p] w fun e w'=>e=.returned (.int .i64 2)∧w.grownBy w' none:=by
 unfold pv;go_enter func184,ntmps184;go_wp2_with fail;go_ret;exact⟨rfl,Qa0 _ _ _⟩
theorem B7 (p:Pt) (w:World) (r0:¬p.wn<1) (r1:6<p.wn):Calls prog 184 #[pv p] w fun e w'=>e=.returned (.int .i64 2)∧w.grownBy w' none:=by
 unfold pv;go_enter func184,ntmps184;go_wp2_with fail;go_ret;exact⟨rfl,Qa0 _ _ _⟩
theorem zK (p:Pt) (w:World) (r0:¬p.wn<1) (r1:¬6<p.wn) (r2:p.vb<1):Calls prog 184 #[pv p] w fun e w'=>e=.returned (.int .i64 2)∧w.grownBy w' none:=by
 unfold pv;go_enter func184,ntmps184;go_wp2_with fail;go_ret;exact⟨rfl,Qa0 _ _ _⟩
theorem zW (p:Pt) (w:World) (r0:¬p.wn<1) (r1:¬6<p.wn) (r2:¬p.vb<1) (r3:19<p.vb):Calls prog 184 #[pv p] w fun e w'=>e=.returned (.int .i64 2)∧w.grownBy w' none:=by
 unfold pv;go_enter func184,ntmps184;go_wp2_with fail;go_ret;exact⟨rfl,Qa0 _ _ _⟩
theorem Al (p:Pt) (w:World) (r0:¬p.wn<1) (r1:¬6<p.wn) (r2:¬p.vb<1) (r3:¬19<p.vb) (r4:p.wm<1):Calls prog 184 #[pv p] w fun e w'=>e=.returned (.int .i64 2)∧w.grownBy w' none:=by
 unfold pv;go_enter func184,ntmps184;go_wp2_with fail;go_ret;exact⟨rfl,Qa0 _ _ _⟩
theorem Ar (p:Pt) (w:World) (r0:¬p.wn<1) (r1:¬6<p.wn) (r2:¬p.vb<1) (r3:¬19<p.vb) (r4:¬p.wm<1) (r5:10<p.wm):Calls prog 184 #[pv p] w fun e w'=>e=.returned (.int .i64 2)∧w.grownBy w' none:=by
 unfold pv;go_enter func184,ntmps184;go_wp2_with fail;go_ret;exact⟨rfl,Qa0 _ _ _⟩
theorem DG (p:Pt) (w:World) (r0:¬p.wn<1) (r1:¬6<p.wn) (r2:¬p.vb<1) (r3:¬19<p.vb) (r4:¬p.wm<1) (r5:¬10<p.wm) (hk:(cls p.vb != wnt p.wn)=true):Calls prog 184 #[pv p] w fun e w'=>e=.returned (.int .i64 8)∧w.grownBy w' none:=by
 unfold pv;go_enter func184,ntmps184;go_wp2_with (go_at_call 243;refine(bM _ _ _).mono ?_;rintro e w1 ⟨rfl,rfl⟩;simp only[cE])
 go_quiet ((first | (go_at_call 244;exact Qa4 (aN _ _)) | (go_at_call 245;exact Qa4 (bN _ _))));obtain⟨W0,hW0,A0,G0⟩:=bs w p nq;rw[←hW0];clear hW0 r0 r1 r2 r3 r4 r5;obtain⟨c0,c1,c2,c3,c4,c5,c6,c7⟩:=A0.cells;go_wp2_with fail;go_ret;exact⟨rfl,G0⟩
theorem Dc (p:Pt) (w:World) (r0:¬p.wn<1) (r1:¬6<p.wn) (r2:¬p.vb<1) (r3:¬19<p.vb) (r4:¬p.wm<1) (r5:¬10<p.wm) (hk:(cls p.vb != wnt p.wn)=false) (h11:(p.vb == 11)=true) (h9:(p.wm == 9)=true):Calls prog 184 #[pv p] w fun e w'=>e=.returned (.int .i64 8)∧w.grownBy w' none:=by
 unfold pv;go_enter func184,ntmps184;go_wp2_with (go_at_call 243;refine(bM _ _ _).mono ?_;rintro e w1 ⟨rfl,rfl⟩;simp only[cE])
 go_quiet ((first | (go_at_call 244;exact Qa4 (aN _ _)) | (go_at_call 245;exact Qa4 (bN _ _))));obtain⟨W0,hW0,A0,G0⟩:=bs w p nq;rw[←hW0];clear hW0 r0 r1 r2 r3 r4 r5;obtain⟨c0,c1,c2,c3,c4,c5,c6,c7⟩:=A0.cells;go_wp2_with fail;go_ret;exact⟨rfl,G0⟩
theorem Aw (p:Pt) (w:World) (r0:¬p.wn<1) (r1:¬6<p.wn) (r2:¬p.vb<1) (r3:¬19<p.vb) (r4:¬p.wm<1) (r5:¬10<p.wm) (hk:(cls p.vb != wnt p.wn)=false) (hK:QH (cls p.vb=wnt p.wn)) (hz:QH (¬cls p.vb=0)) (h11:(p.vb == 11)=false) (hB:abt p.wn p.vb p.wm=false):Calls prog 184 #[pv p] w fun e w'=>e=.returned (.int .i64 13)∧w.grownBy w' none:=by
 unfold pv;go_enter func184,ntmps184;go_wp2_with (go_at_call 243;refine(bM _ _ _).mono ?_;rintro e w1 ⟨rfl,rfl⟩;simp only[cE])
 go_quiet ((first | (go_at_call 244;exact Qa4 (aN _ _)) | (go_at_call 245;exact Qa4 (bN _ _))));obtain⟨W0,hW0,A0,G0⟩:=bs w p nq;rw[←hW0];clear hW0 r0 r1 r2 r3 r4 r5;obtain⟨c0,c1,c2,c3,c4,c5,c6,c7⟩:=A0.cells;go_wp2_with fail;refine(bW p W0 hK.o hz.o).mono ?_;rintro e W1 ⟨rfl,g⟩;rw[hB];have A1:=A0.keep g;have G1:=aa G0 g;clear c0 c1 c2 c3 c4 c5 c6 c7 g A0 G0;obtain⟨c0,c1,c2,c3,c4,c5,c6,c7⟩:=A1.cells;go_wp2_with fail;go_ret;exact⟨rfl,G1⟩
theorem zt (p:Pt) (w:World) (r0:¬p.wn<1) (r1:¬6<p.wn) (r2:¬p.vb<1) (r3:¬19<p.vb) (r4:¬p.wm<1) (r5:¬10<p.wm) (hk:(cls p.vb != wnt p.wn)=false) (hK:QH (cls p.vb=wnt p.wn)) (hz:QH (¬cls p.vb=0)) (h11:(p.vb == 11)=false) (hB:abt p.wn p.vb p.wm=true) (hC:eI p.vb p.ct=false):Calls prog 184 #[pv p] w fun e w'=>e=.returned (.int .i64 2)∧w.grownBy w' none:=by
 unfold pv;go_enter func184,ntmps184;go_wp2_with (go_at_call 243;refine(bM _ _ _).mono ?_;rintro e w1 ⟨rfl,rfl⟩;simp only[cE])
 go_quiet ((first | (go_at_call 244;exact Qa4 (aN _ _)) | (go_at_call 245;exact Qa4 (bN _ _))));obtain⟨W0,hW0,A0,G0⟩:=bs w p nq;rw[←hW0];clear hW0 r0 r1 r2 r3 r4 r5;obtain⟨c0,c1,c2,c3,c4,c5,c6,c7⟩:=A0.cells;go_wp2_with fail;refine(bW p W0 hK.o hz.o).mono ?_;rintro e W1 ⟨rfl,g⟩;rw[hB];have A1:=A0.keep g;have G1:=aa G0 g;clear c0 c1 c2 c3 c4 c5 c6 c7 g A0 G0;obtain⟨c0,c1,c2,c3,c4,c5,c6,c7⟩:=A1.cells;go_wp2_with fail;refine(bE p W1).mono ?_;rintro e W2 ⟨rfl,g⟩;rw[hC];have A2:=A1.keep g;have G2:=aa G1 g;clear c0 c1 c2 c3 c4 c5 c6 c7 g A1 G1;obtain⟨c0,c1,c2,c3,c4,c5,c6,c7⟩:=A2.cells;go_wp2_with fail;go_ret;exact⟨rfl,G2⟩
theorem xv (p:Pt) (w:World) (r0:¬p.wn<1) (r1:¬6<p.wn) (r2:¬p.vb<1) (r3:¬19<p.vb) (r4:¬p.wm<1) (r5:¬10<p.wm) (hk:(cls p.vb != wnt p.wn)=false) (hK:QH (cls p.vb=wnt p.wn)) (hz:QH (¬cls p.vb=0)) (h11:(p.vb == 11)=false) (hB:abt p.wn p.vb p.wm=true) (hC:eI p.vb p.ct=true) (hsu:0≤p.su∧p.su≤255) (F1:bH (uS p.vb p.wm) p.su 6=false):Calls prog 184 #[pv p] w fun e w'=>e=.returned (.int .i64 2)∧w.grownBy w' none:=by
 unfold pv;go_enter func184,ntmps184;go_wp2_with (go_at_call 243;refine(bM _ _ _).mono ?_;rintro e w1 ⟨rfl,rfl⟩;simp only[cE])
 go_quiet ((first | (go_at_call 244;exact Qa4 (aN _ _)) | (go_at_call 245;exact Qa4 (bN _ _))));obtain⟨W0,hW0,A0,G0⟩:=bs w p nq;rw[←hW0];clear hW0 r0 r1 r2 r3 r4 r5;obtain⟨c0,c1,c2,c3,c4,c5,c6,c7⟩:=A0.cells;go_wp2_with fail;refine(bW p W0 hK.o hz.o).mono ?_;rintro e W1 ⟨rfl,g⟩;rw[hB];have A1:=A0.keep g;have G1:=aa G0 g;clear c0 c1 c2 c3 c4 c5 c6 c7 g A0 G0;obtain⟨c0,c1,c2,c3,c4,c5,c6,c7⟩:=A1.cells;go_wp2_with fail;refine(bE p W1).mono ?_;rintro e W2 ⟨rfl,g⟩;rw[hC];have A2:=A1.keep g;have G2:=aa G1 g;clear c0 c1 c2 c3 c4 c5 c6 c7 g A1 G1;obtain⟨c0,c1,c2,c3,c4,c5,c6,c7⟩:=A2.cells;go_wp2_with (first | (go_at_call 248;refine(aM _ _ _ _).mono ?_;rintro e w9 ⟨rfl,hw⟩;obtain rfl:W2=w9:=hw.symm;rw[F1]) | fail)
 go_ret;exact⟨rfl,G2⟩
theorem vy (p:Pt) (w:World) (r0:¬p.wn<1) (r1:¬6<p.wn) (r2:¬p.vb<1) (r3:¬19<p.vb) (r4:¬p.wm<1) (r5:¬10<p.wm) (hk:(cls p.vb != wnt p.wn)=false) (hK:QH (cls p.vb=wnt p.wn)) (hz:QH (¬cls p.vb=0)) (h11:(p.vb == 11)=false) (hB:abt p.wn p.vb p.wm=true) (hC:eI p.vb p.ct=true) (hsu:0≤p.su∧p.su≤255) (F1:bH (uS p.vb p.wm) p.su 6=true) (htr:0≤p.tr∧p.tr≤255) (F2:bH (uT p.vb p.wm) p.tr 8=false):Calls prog 184 #[pv p] w fun e w'=>e=.returned (.int .i64 2)∧w.grownBy w' none:=by
 unfold pv;go_enter func184,ntmps184;go_wp2_with (go_at_call 243;refine(bM _ _ _).mono ?_;rintro e w1 ⟨rfl,rfl⟩;simp only[cE])
 go_quiet ((first | (go_at_call 244;exact Qa4 (aN _ _)) | (go_at_call 245;exact Qa4 (bN _ _))));obtain⟨W0,hW0,A0,G0⟩:=bs w p nq;rw[←hW0];clear hW0 r0 r1 r2 r3 r4 r5;obtain⟨c0,c1,c2,c3,c4,c5,c6,c7⟩:=A0.cells;go_wp2_with fail;refine(bW p W0 hK.o hz.o).mono ?_;rintro e W1 ⟨rfl,g⟩;rw[hB];have A1:=A0.keep g;have G1:=aa G0 g;clear c0 c1 c2 c3 c4 c5 c6 c7 g A0 G0;obtain⟨c0,c1,c2,c3,c4,c5,c6,c7⟩:=A1.cells;go_wp2_with fail;refine(bE p W1).mono ?_;rintro e W2 ⟨rfl,g⟩;rw[hC];have A2:=A1.keep g;have G2:=aa G1 g;clear c0 c1 c2 c3 c4 c5 c6 c7 g A1 G1;obtain⟨c0,c1,c2,c3,c4,c5,c6,c7⟩:=A2.cells;go_wp2_with (first | (go_at_call 248;refine(aM _ _ _ _).mono ?_;rintro e w9 ⟨rfl,hw⟩;obtain rfl:W2=w9:=hw.symm;rw[F1]) | (go_at_call 248;refine(aM _ _ _ _).mono ?_;rintro e w9 ⟨rfl,hw⟩;obtain rfl:W2=w9:=hw.symm;rw[F2]) | fail)
 go_ret;exact⟨rfl,G2⟩
theorem we (p:Pt) (w:World) (r0:¬p.wn<1) (r1:¬6<p.wn) (r2:¬p.vb<1) (r3:¬19<p.vb) (r4:¬p.wm<1) (r5:¬10<p.wm) (hk:(cls p.vb != wnt p.wn)=false) (hK:QH (cls p.vb=wnt p.wn)) (hz:QH (¬cls p.vb=0)) (h11:(p.vb == 11)=false) (hB:abt p.wn p.vb p.wm=true) (hC:eI p.vb p.ct=true) (hsu:0≤p.su∧p.su≤255) (F1:bH (uS p.vb p.wm) p.su 6=true) (htr:0≤p.tr∧p.tr≤255) (F2:bH (uT p.vb p.wm) p.tr 8=true) (hmr:0≤p.mr∧p.mr≤255) (F3:bH (uM p.vb) p.mr 4=false):Calls prog 184 #[pv p] w fun e w'=>e=.returned (.int .i64 2)∧w.grownBy w' none:=by
 unfold pv;go_enter func184,ntmps184;go_wp2_with (go_at_call 243;refine(bM _ _ _).mono ?_;rintro e w1 ⟨rfl,rfl⟩;simp only[cE])
 go_quiet ((first | (go_at_call 244;exact Qa4 (aN _ _)) | (go_at_call 245;exact Qa4 (bN _ _))));obtain⟨W0,hW0,A0,G0⟩:=bs w p nq;rw[←hW0];clear hW0 r0 r1 r2 r3 r4 r5;obtain⟨c0,c1,c2,c3,c4,c5,c6,c7⟩:=A0.cells;go_wp2_with fail;refine(bW p W0 hK.o hz.o).mono ?_;rintro e W1 ⟨rfl,g⟩;rw[hB];have A1:=A0.keep g;have G1:=aa G0 g;clear c0 c1 c2 c3 c4 c5 c6 c7 g A0 G0;obtain⟨c0,c1,c2,c3,c4,c5,c6,c7⟩:=A1.cells;go_wp2_with fail;refine(bE p W1).mono ?_;rintro e W2 ⟨rfl,g⟩;rw[hC];have A2:=A1.keep g;have G2:=aa G1 g;clear c0 c1 c2 c3 c4 c5 c6 c7 g A1 G1;obtain⟨c0,c1,c2,c3,c4,c5,c6,c7⟩:=A2.cells;go_wp2_with (first | (go_at_call 248;refine(aM _ _ _ _).mono ?_;rintro e w9 ⟨rfl,hw⟩;obtain rfl:W2=w9:=hw.symm;rw[F1]) | (go_at_call 248;refine(aM _ _ _ _).mono ?_;rintro e w9 ⟨rfl,hw⟩;obtain rfl:W2=w9:=hw.symm;rw[F2]) | (go_at_call 248;refine(aM _ _ _ _).mono ?_;rintro e w9 ⟨rfl,hw⟩;obtain rfl:W2=w9:=hw.symm;rw[F3]) | fail)
 go_ret;exact⟨rfl,G2⟩
theorem zy (p:Pt) (w:World) (r0:¬p.wn<1) (r1:¬6<p.wn) (r2:¬p.vb<1) (r3:¬19<p.vb) (r4:¬p.wm<1) (r5:¬10<p.wm) (hk:(cls p.vb != wnt p.wn)=false) (hK:QH (cls p.vb=wnt p.wn)) (hz:QH (¬cls p.vb=0)) (h11:(p.vb == 11)=false) (hB:abt p.wn p.vb p.wm=true) (hC:eI p.vb p.ct=true) (hsu:0≤p.su∧p.su≤255) (F1:bH (uS p.vb p.wm) p.su 6=true) (htr:0≤p.tr∧p.tr≤255) (F2:bH (uT p.vb p.wm) p.tr 8=true) (hmr:0≤p.mr∧p.mr≤255) (F3:bH (uM p.vb) p.mr 4=true) (hU:uN p.vb=true) (HN:aS p.nm.data.toList=false):Calls prog 184 #[pv p] w fun e w'=>e=.returned (.int .i64 4)∧w.grownBy w' none:=by
 unfold pv;go_enter func184,ntmps184;go_wp2_with (go_at_call 243;refine(bM _ _ _).mono ?_;rintro e w1 ⟨rfl,rfl⟩;simp only[cE])
 go_quiet ((first | (go_at_call 244;exact Qa4 (aN _ _)) | (go_at_call 245;exact Qa4 (bN _ _))));obtain⟨W0,hW0,A0,G0⟩:=bs w p nq;rw[←hW0];clear hW0 r0 r1 r2 r3 r4 r5;obtain⟨c0,c1,c2,c3,c4,c5,c6,c7⟩:=A0.cells;go_wp2_with fail;refine(bW p W0 hK.o hz.o).mono ?_;rintro e W1 ⟨rfl,g⟩;rw[hB];have A1:=A0.keep g;have G1:=aa G0 g;clear c0 c1 c2 c3 c4 c5 c6 c7 g A0 G0;obtain⟨c0,c1,c2,c3,c4,c5,c6,c7⟩:=A1.cells;go_wp2_with fail;refine(bE p W1).mono ?_;rintro e W2 ⟨rfl,g⟩;rw[hC];have A2:=A1.keep g;have G2:=aa G1 g;clear c0 c1 c2 c3 c4 c5 c6 c7 g A1 G1;obtain⟨c0,c1,c2,c3,c4,c5,c6,c7⟩:=A2.cells;go_wp2_with (first | (go_at_call 248;refine(aM _ _ _ _).mono ?_;rintro e w9 ⟨rfl,hw⟩;obtain rfl:W2=w9:=hw.symm;rw[F1]) | (go_at_call 248;refine(aM _ _ _ _).mono ?_;rintro e w9 ⟨rfl,hw⟩;obtain rfl:W2=w9:=hw.symm;rw[F2]) | (go_at_call 248;refine(aM _ _ _ _).mono ?_;rintro e w9 ⟨rfl,hw⟩;obtain rfl:W2=w9:=hw.symm;rw[F3]) | (go_at_call 249;refine(jG _ _).mono ?_;rintro e w9 ⟨rfl,hw⟩;obtain rfl:W2=w9:=hw.symm;rw[HN]) | fail)
 go_ret;exact⟨rfl,G2⟩
theorem A8 (p:Pt) (w:World) (r0:¬p.wn<1) (r1:¬6<p.wn) (r2:¬p.vb<1) (r3:¬19<p.vb) (r4:¬p.wm<1) (r5:¬10<p.wm) (hk:(cls p.vb != wnt p.wn)=false) (hK:QH (cls p.vb=wnt p.wn)) (hz:QH (¬cls p.vb=0)) (h11:(p.vb == 11)=false) (hB:abt p.wn p.vb p.wm=true) (hC:eI p.vb p.ct=true) (hsu:0≤p.su∧p.su≤255) (F1:bH (uS p.vb p.wm) p.su 6=true) (htr:0≤p.tr∧p.tr≤255) (F2:bH (uT p.vb p.wm) p.tr 8=true) (hmr:0≤p.mr∧p.mr≤255) (F3:bH (uM p.vb) p.mr 4=true) (hU:uN p.vb=true) (HN:aS p.nm.data.toList=true):Calls prog 184 #[pv p] w fun e w'=>e=.returned (.int .i64 0)∧w.grownBy w' none:=by
 unfold pv;go_enter func184,ntmps184;go_wp2_with (go_at_call 243;refine(bM _ _ _).mono ?_;rintro e w1 ⟨rfl,rfl⟩;simp only[cE])
 go_quiet ((first | (go_at_call 244;exact Qa4 (aN _ _)) | (go_at_call 245;exact Qa4 (bN _ _))));obtain⟨W0,hW0,A0,G0⟩:=bs w p nq;rw[←hW0];clear hW0 r0 r1 r2 r3 r4 r5;obtain⟨c0,c1,c2,c3,c4,c5,c6,c7⟩:=A0.cells;go_wp2_with fail;refine(bW p W0 hK.o hz.o).mono ?_;rintro e W1 ⟨rfl,g⟩;rw[hB];have A1:=A0.keep g;have G1:=aa G0 g;clear c0 c1 c2 c3 c4 c5 c6 c7 g A0 G0;obtain⟨c0,c1,c2,c3,c4,c5,c6,c7⟩:=A1.cells;go_wp2_with fail;refine(bE p W1).mono ?_;rintro e W2 ⟨rfl,g⟩;rw[hC];have A2:=A1.keep g;have G2:=aa G1 g;clear c0 c1 c2 c3 c4 c5 c6 c7 g A1 G1;obtain⟨c0,c1,c2,c3,c4,c5,c6,c7⟩:=A2.cells;go_wp2_with (first | (go_at_call 248;refine(aM _ _ _ _).mono ?_;rintro e w9 ⟨rfl,hw⟩;obtain rfl:W2=w9:=hw.symm;rw[F1]) | (go_at_call 248;refine(aM _ _ _ _).mono ?_;rintro e w9 ⟨rfl,hw⟩;obtain rfl:W2=w9:=hw.symm;rw[F2]) | (go_at_call 248;refine(aM _ _ _ _).mono ?_;rintro e w9 ⟨rfl,hw⟩;obtain rfl:W2=w9:=hw.symm;rw[F3]) | (go_at_call 249;refine(jG _ _).mono ?_;rintro e w9 ⟨rfl,hw⟩;obtain rfl:W2=w9:=hw.symm;rw[HN]) | fail)
 go_ret;exact⟨rfl,G2⟩
theorem Ak (p:Pt) (w:World) (r0:¬p.wn<1) (r1:¬6<p.wn) (r2:¬p.vb<1) (r3:¬19<p.vb) (r4:¬p.wm<1) (r5:¬10<p.wm) (hk:(cls p.vb != wnt p.wn)=false) (hK:QH (cls p.vb=wnt p.wn)) (hz:QH (¬cls p.vb=0)) (h11:(p.vb == 11)=false) (hB:abt p.wn p.vb p.wm=true) (hC:eI p.vb p.ct=true) (hsu:0≤p.su∧p.su≤255) (F1:bH (uS p.vb p.wm) p.su 6=true) (htr:0≤p.tr∧p.tr≤255) (F2:bH (uT p.vb p.wm) p.tr 8=true) (hmr:0≤p.mr∧p.mr≤255) (F3:bH (uM p.vb) p.mr 4=true) (hU:uN p.vb=false) (HE:QH (¬p.nm.data.toList=[])):Calls prog 184 #[pv p] w fun e w'=>e=.returned (.int .i64 4)∧w.grownBy w' none:=by
 unfold pv;go_enter func184,ntmps184;go_wp2_with (go_at_call 243;refine(bM _ _ _).mono ?_;rintro e w1 ⟨rfl,rfl⟩;simp only[cE])
 go_quiet ((first | (go_at_call 244;exact Qa4 (aN _ _)) | (go_at_call 245;exact Qa4 (bN _ _))));obtain⟨W0,hW0,A0,G0⟩:=bs w p nq;rw[←hW0];clear hW0 r0 r1 r2 r3 r4 r5;obtain⟨c0,c1,c2,c3,c4,c5,c6,c7⟩:=A0.cells;go_wp2_with fail;refine(bW p W0 hK.o hz.o).mono ?_;rintro e W1 ⟨rfl,g⟩;rw[hB];have A1:=A0.keep g;have G1:=aa G0 g;clear c0 c1 c2 c3 c4 c5 c6 c7 g A0 G0;obtain⟨c0,c1,c2,c3,c4,c5,c6,c7⟩:=A1.cells;go_wp2_with fail;refine(bE p W1).mono ?_;rintro e W2 ⟨rfl,g⟩;rw[hC];have A2:=A1.keep g;have G2:=aa G1 g;clear c0 c1 c2 c3 c4 c5 c6 c7 g A1 G1;obtain⟨c0,c1,c2,c3,c4,c5,c6,c7⟩:=A2.cells
 have hb:(p.nm.toList == [])=false:=by
  rw[Lib.toList_data];simpa using HE.o
 have hb2:p.nm.toList.isEmpty=false:=by
  rw[Lib.toList_data];simpa using HE.o
 have hb3:(p.nm.toList != [])=true:=by simp[bne,hb]
 have hb4:(p.nm.toList != ([]:List UInt8))=true:=hb3;have hb5:(!p.nm.toList.isEmpty)=true:=by simp[hb2]
 go_wp2_with (first | (go_at_call 248;refine(aM _ _ _ _).mono ?_;rintro e w9 ⟨rfl,hw⟩;obtain rfl:W2=w9:=hw.symm;rw[F1]) | (go_at_call 248;refine(aM _ _ _ _).mono ?_;rintro e w9 ⟨rfl,hw⟩;obtain rfl:W2=w9:=hw.symm;rw[F2]) | (go_at_call 248;refine(aM _ _ _ _).mono ?_;rintro e w9 ⟨rfl,hw⟩;obtain rfl:W2=w9:=hw.symm;rw[F3]) | fail)
 go_ret;exact⟨rfl,G2⟩
theorem AL (p:Pt) (w:World) (r0:¬p.wn<1) (r1:¬6<p.wn) (r2:¬p.vb<1) (r3:¬19<p.vb) (r4:¬p.wm<1) (r5:¬10<p.wm) (hk:(cls p.vb != wnt p.wn)=false) (hK:QH (cls p.vb=wnt p.wn)) (hz:QH (¬cls p.vb=0)) (h11:(p.vb == 11)=false) (hB:abt p.wn p.vb p.wm=true) (hC:eI p.vb p.ct=true) (hsu:0≤p.su∧p.su≤255) (F1:bH (uS p.vb p.wm) p.su 6=true) (htr:0≤p.tr∧p.tr≤255) (F2:bH (uT p.vb p.wm) p.tr 8=true) (hmr:0≤p.mr∧p.mr≤255) (F3:bH (uM p.vb) p.mr 4=true) (hU:uN p.vb=false) (HE:QH (p.nm=⟨#[]⟩)):Calls prog 184 #[pv p] w fun e w'=>e=.returned (.int .i64 0)∧w.grownBy w' none:=by
 unfold pv;go_enter func184,ntmps184;go_wp2_with (go_at_call 243;refine(bM _ _ _).mono ?_;rintro e w1 ⟨rfl,rfl⟩;simp only[cE])
 go_quiet ((first | (go_at_call 244;exact Qa4 (aN _ _)) | (go_at_call 245;exact Qa4 (bN _ _))));obtain⟨W0,hW0,A0,G0⟩:=bs w p nq;rw[←hW0];clear hW0 r0 r1 r2 r3 r4 r5;obtain⟨c0,c1,c2,c3,c4,c5,c6,c7⟩:=A0.cells;go_wp2_with fail;refine(bW p W0 hK.o hz.o).mono ?_;rintro e W1 ⟨rfl,g⟩;rw[hB];have A1:=A0.keep g;have G1:=aa G0 g;clear c0 c1 c2 c3 c4 c5 c6 c7 g A0 G0;obtain⟨c0,c1,c2,c3,c4,c5,c6,c7⟩:=A1.cells;go_wp2_with fail;refine(bE p W1).mono ?_;rintro e W2 ⟨rfl,g⟩;rw[hC];have A2:=A1.keep g;have G2:=aa G1 g;clear c0 c1 c2 c3 c4 c5 c6 c7 g A1 G1;obtain⟨c0,c1,c2,c3,c4,c5,c6,c7⟩:=A2.cells;rw[HE.o] at c7;go_wp2_with (first | (go_at_call 248;refine(aM _ _ _ _).mono ?_;rintro e w9 ⟨rfl,hw⟩;obtain rfl:W2=w9:=hw.symm;rw[F1]) | (go_at_call 248;refine(aM _ _ _ _).mono ?_;rintro e w9 ⟨rfl,hw⟩;obtain rfl:W2=w9:=hw.symm;rw[F2]) | (go_at_call 248;refine(aM _ _ _ _).mono ?_;rintro e w9 ⟨rfl,hw⟩;obtain rfl:W2=w9:=hw.symm;rw[F3]) | fail)
 go_ret;exact⟨rfl,G2⟩
theorem Ad (p:Pt) (w:World) (r0:¬p.wn<1) (r1:¬6<p.wn) (r2:¬p.vb<1) (r3:¬19<p.vb) (r4:¬p.wm<1) (r5:¬10<p.wm) (hk:(cls p.vb != wnt p.wn)=false) (hK:QH (cls p.vb=wnt p.wn)) (hz:QH (¬cls p.vb=0)) (h11:(p.vb == 11)=true) (h9:(p.wm == 9)=false) (hB:abt p.wn p.vb p.wm=false):Calls prog 184 #[pv p] w fun e w'=>e=.returned (.int .i64 13)∧w.grownBy w' none:=by
 unfold pv;go_enter func184,ntmps184;go_wp2_with (go_at_call 243;refine(bM _ _ _).mono ?_;rintro e w1 ⟨rfl,rfl⟩;simp only[cE])
 go_quiet ((first | (go_at_call 244;exact Qa4 (aN _ _)) | (go_at_call 245;exact Qa4 (bN _ _))));obtain⟨W0,hW0,A0,G0⟩:=bs w p nq;rw[←hW0];clear hW0 r0 r1 r2 r3 r4 r5;obtain⟨c0,c1,c2,c3,c4,c5,c6,c7⟩:=A0.cells;go_wp2_with fail;refine(bW p W0 hK.o hz.o).mono ?_;rintro e W1 ⟨rfl,g⟩;rw[hB];have A1:=A0.keep g;have G1:=aa G0 g;clear c0 c1 c2 c3 c4 c5 c6 c7 g A0 G0;obtain⟨c0,c1,c2,c3,c4,c5,c6,c7⟩:=A1.cells;go_wp2_with fail;go_ret;exact⟨rfl,G1⟩
theorem Bc (p:Pt) (w:World) (r0:¬p.wn<1) (r1:¬6<p.wn) (r2:¬p.vb<1) (r3:¬19<p.vb) (r4:¬p.wm<1) (r5:¬10<p.wm) (hk:(cls p.vb != wnt p.wn)=false) (hK:QH (cls p.vb=wnt p.wn)) (hz:QH (¬cls p.vb=0)) (h11:(p.vb == 11)=true) (h9:(p.wm == 9)=false) (hB:abt p.wn p.vb p.wm=true) (hC:eI p.vb p.ct=false):Calls prog 184 #[pv p] w fun e w'=>e=.returned (.int .i64 2)∧w.grownBy w' none:=by
 unfold pv;go_enter func184,ntmps184;go_wp2_with (go_at_call 243;refine(bM _ _ _).mono ?_;rintro e w1 ⟨rfl,rfl⟩;simp only[cE])
 go_quiet ((first | (go_at_call 244;exact Qa4 (aN _ _)) | (go_at_call 245;exact Qa4 (bN _ _))));obtain⟨W0,hW0,A0,G0⟩:=bs w p nq;rw[←hW0];clear hW0 r0 r1 r2 r3 r4 r5;obtain⟨c0,c1,c2,c3,c4,c5,c6,c7⟩:=A0.cells;go_wp2_with fail;refine(bW p W0 hK.o hz.o).mono ?_;rintro e W1 ⟨rfl,g⟩;rw[hB];have A1:=A0.keep g;have G1:=aa G0 g;clear c0 c1 c2 c3 c4 c5 c6 c7 g A0 G0;obtain⟨c0,c1,c2,c3,c4,c5,c6,c7⟩:=A1.cells;go_wp2_with fail;refine(bE p W1).mono ?_;rintro e W2 ⟨rfl,g⟩;rw[hC];have A2:=A1.keep g;have G2:=aa G1 g;clear c0 c1 c2 c3 c4 c5 c6 c7 g A1 G1;obtain⟨c0,c1,c2,c3,c4,c5,c6,c7⟩:=A2.cells;go_wp2_with fail;go_ret;exact⟨rfl,G2⟩
theorem vw (p:Pt) (w:World) (r0:¬p.wn<1) (r1:¬6<p.wn) (r2:¬p.vb<1) (r3:¬19<p.vb) (r4:¬p.wm<1) (r5:¬10<p.wm) (hk:(cls p.vb != wnt p.wn)=false) (hK:QH (cls p.vb=wnt p.wn)) (hz:QH (¬cls p.vb=0)) (h11:(p.vb == 11)=true) (h9:(p.wm == 9)=false) (hB:abt p.wn p.vb p.wm=true) (hC:eI p.vb p.ct=true) (hsu:0≤p.su∧p.su≤255) (F1:bH (uS p.vb p.wm) p.su 6=false):Calls prog 184 #[pv p] w fun e w'=>e=.returned (.int .i64 2)∧w.grownBy w' none:=by
 unfold pv;go_enter func184,ntmps184;go_wp2_with (go_at_call 243;refine(bM _ _ _).mono ?_;rintro e w1 ⟨rfl,rfl⟩;simp only[cE])
 go_quiet ((first | (go_at_call 244;exact Qa4 (aN _ _)) | (go_at_call 245;exact Qa4 (bN _ _))));obtain⟨W0,hW0,A0,G0⟩:=bs w p nq;rw[←hW0];clear hW0 r0 r1 r2 r3 r4 r5;obtain⟨c0,c1,c2,c3,c4,c5,c6,c7⟩:=A0.cells;go_wp2_with fail;refine(bW p W0 hK.o hz.o).mono ?_;rintro e W1 ⟨rfl,g⟩;rw[hB];have A1:=A0.keep g;have G1:=aa G0 g;clear c0 c1 c2 c3 c4 c5 c6 c7 g A0 G0;obtain⟨c0,c1,c2,c3,c4,c5,c6,c7⟩:=A1.cells;go_wp2_with fail;refine(bE p W1).mono ?_;rintro e W2 ⟨rfl,g⟩;rw[hC];have A2:=A1.keep g;have G2:=aa G1 g;clear c0 c1 c2 c3 c4 c5 c6 c7 g A1 G1;obtain⟨c0,c1,c2,c3,c4,c5,c6,c7⟩:=A2.cells;go_wp2_with (first | (go_at_call 248;refine(aM _ _ _ _).mono ?_;rintro e w9 ⟨rfl,hw⟩;obtain rfl:W2=w9:=hw.symm;rw[F1]) | fail)
 go_ret;exact⟨rfl,G2⟩
theorem wL (p:Pt) (w:World) (r0:¬p.wn<1) (r1:¬6<p.wn) (r2:¬p.vb<1) (r3:¬19<p.vb) (r4:¬p.wm<1) (r5:¬10<p.wm) (hk:(cls p.vb != wnt p.wn)=false) (hK:QH (cls p.vb=wnt p.wn)) (hz:QH (¬cls p.vb=0)) (h11:(p.vb == 11)=true) (h9:(p.wm == 9)=false) (hB:abt p.wn p.vb p.wm=true) (hC:eI p.vb p.ct=true) (hsu:0≤p.su∧p.su≤255) (F1:bH (uS p.vb p.wm) p.su 6=true) (htr:0≤p.tr∧p.tr≤255) (F2:bH (uT p.vb p.wm) p.tr 8=false):Calls prog 184 #[pv p] w fun e w'=>e=.returned (.int .i64 2)∧w.grownBy w' none:=by
 unfold pv;go_enter func184,ntmps184;go_wp2_with (go_at_call 243;refine(bM _ _ _).mono ?_;rintro e w1 ⟨rfl,rfl⟩;simp only[cE])
 go_quiet ((first | (go_at_call 244;exact Qa4 (aN _ _)) | (go_at_call 245;exact Qa4 (bN _ _))));obtain⟨W0,hW0,A0,G0⟩:=bs w p nq;rw[←hW0];clear hW0 r0 r1 r2 r3 r4 r5;obtain⟨c0,c1,c2,c3,c4,c5,c6,c7⟩:=A0.cells;go_wp2_with fail;refine(bW p W0 hK.o hz.o).mono ?_;rintro e W1 ⟨rfl,g⟩;rw[hB];have A1:=A0.keep g;have G1:=aa G0 g;clear c0 c1 c2 c3 c4 c5 c6 c7 g A0 G0;obtain⟨c0,c1,c2,c3,c4,c5,c6,c7⟩:=A1.cells;go_wp2_with fail;refine(bE p W1).mono ?_;rintro e W2 ⟨rfl,g⟩;rw[hC];have A2:=A1.keep g;have G2:=aa G1 g;clear c0 c1 c2 c3 c4 c5 c6 c7 g A1 G1;obtain⟨c0,c1,c2,c3,c4,c5,c6,c7⟩:=A2.cells;go_wp2_with (first | (go_at_call 248;refine(aM _ _ _ _).mono ?_;rintro e w9 ⟨rfl,hw⟩;obtain rfl:W2=w9:=hw.symm;rw[F1]) | (go_at_call 248;refine(aM _ _ _ _).mono ?_;rintro e w9 ⟨rfl,hw⟩;obtain rfl:W2=w9:=hw.symm;rw[F2]) | fail)
 go_ret;exact⟨rfl,G2⟩
theorem wU (p:Pt) (w:World) (r0:¬p.wn<1) (r1:¬6<p.wn) (r2:¬p.vb<1) (r3:¬19<p.vb) (r4:¬p.wm<1) (r5:¬10<p.wm) (hk:(cls p.vb != wnt p.wn)=false) (hK:QH (cls p.vb=wnt p.wn)) (hz:QH (¬cls p.vb=0)) (h11:(p.vb == 11)=true) (h9:(p.wm == 9)=false) (hB:abt p.wn p.vb p.wm=true) (hC:eI p.vb p.ct=true) (hsu:0≤p.su∧p.su≤255) (F1:bH (uS p.vb p.wm) p.su 6=true) (htr:0≤p.tr∧p.tr≤255) (F2:bH (uT p.vb p.wm) p.tr 8=true) (hmr:0≤p.mr∧p.mr≤255) (F3:bH (uM p.vb) p.mr 4=false):Calls prog 184 #[pv p] w fun e w'=>e=.returned (.int .i64 2)∧w.grownBy w' none:=by
 unfold pv;go_enter func184,ntmps184;go_wp2_with (go_at_call 243;refine(bM _ _ _).mono ?_;rintro e w1 ⟨rfl,rfl⟩;simp only[cE])
 go_quiet ((first | (go_at_call 244;exact Qa4 (aN _ _)) | (go_at_call 245;exact Qa4 (bN _ _))));obtain⟨W0,hW0,A0,G0⟩:=bs w p nq;rw[←hW0];clear hW0 r0 r1 r2 r3 r4 r5;obtain⟨c0,c1,c2,c3,c4,c5,c6,c7⟩:=A0.cells;go_wp2_with fail;refine(bW p W0 hK.o hz.o).mono ?_;rintro e W1 ⟨rfl,g⟩;rw[hB];have A1:=A0.keep g;have G1:=aa G0 g;clear c0 c1 c2 c3 c4 c5 c6 c7 g A0 G0;obtain⟨c0,c1,c2,c3,c4,c5,c6,c7⟩:=A1.cells;go_wp2_with fail;refine(bE p W1).mono ?_;rintro e W2 ⟨rfl,g⟩;rw[hC];have A2:=A1.keep g;have G2:=aa G1 g;clear c0 c1 c2 c3 c4 c5 c6 c7 g A1 G1;obtain⟨c0,c1,c2,c3,c4,c5,c6,c7⟩:=A2.cells;go_wp2_with (first | (go_at_call 248;refine(aM _ _ _ _).mono ?_;rintro e w9 ⟨rfl,hw⟩;obtain rfl:W2=w9:=hw.symm;rw[F1]) | (go_at_call 248;refine(aM _ _ _ _).mono ?_;rintro e w9 ⟨rfl,hw⟩;obtain rfl:W2=w9:=hw.symm;rw[F2]) | (go_at_call 248;refine(aM _ _ _ _).mono ?_;rintro e w9 ⟨rfl,hw⟩;obtain rfl:W2=w9:=hw.symm;rw[F3]) | fail)
 go_ret;exact⟨rfl,G2⟩
theorem Az (p:Pt) (w:World) (r0:¬p.wn<1) (r1:¬6<p.wn) (r2:¬p.vb<1) (r3:¬19<p.vb) (r4:¬p.wm<1) (r5:¬10<p.wm) (hk:(cls p.vb != wnt p.wn)=false) (hK:QH (cls p.vb=wnt p.wn)) (hz:QH (¬cls p.vb=0)) (h11:(p.vb == 11)=true) (h9:(p.wm == 9)=false) (hB:abt p.wn p.vb p.wm=true) (hC:eI p.vb p.ct=true) (hsu:0≤p.su∧p.su≤255) (F1:bH (uS p.vb p.wm) p.su 6=true) (htr:0≤p.tr∧p.tr≤255) (F2:bH (uT p.vb p.wm) p.tr 8=true) (hmr:0≤p.mr∧p.mr≤255) (F3:bH (uM p.vb) p.mr 4=true) (hU:uN p.vb=true) (HN:aS p.nm.data.toList=false):Calls prog 184 #[pv p] w fun e w'=>e=.returned (.int .i64 4)∧w.grownBy w' none:=by
 unfold pv;go_enter func184,ntmps184;go_wp2_with (go_at_call 243;refine(bM _ _ _).mono ?_;rintro e w1 ⟨rfl,rfl⟩;simp only[cE])
 go_quiet ((first | (go_at_call 244;exact Qa4 (aN _ _)) | (go_at_call 245;exact Qa4 (bN _ _))));obtain⟨W0,hW0,A0,G0⟩:=bs w p nq;rw[←hW0];clear hW0 r0 r1 r2 r3 r4 r5;obtain⟨c0,c1,c2,c3,c4,c5,c6,c7⟩:=A0.cells;go_wp2_with fail;refine(bW p W0 hK.o hz.o).mono ?_;rintro e W1 ⟨rfl,g⟩;rw[hB];have A1:=A0.keep g;have G1:=aa G0 g;clear c0 c1 c2 c3 c4 c5 c6 c7 g A0 G0;obtain⟨c0,c1,c2,c3,c4,c5,c6,c7⟩:=A1.cells;go_wp2_with fail;refine(bE p W1).mono ?_;rintro e W2 ⟨rfl,g⟩;rw[hC];have A2:=A1.keep g;have G2:=aa G1 g;clear c0 c1 c2 c3 c4 c5 c6 c7 g A1 G1;obtain⟨c0,c1,c2,c3,c4,c5,c6,c7⟩:=A2.cells;go_wp2_with (first | (go_at_call 248;refine(aM _ _ _ _).mono ?_;rintro e w9 ⟨rfl,hw⟩;obtain rfl:W2=w9:=hw.symm;rw[F1]) | (go_at_call 248;refine(aM _ _ _ _).mono ?_;rintro e w9 ⟨rfl,hw⟩;obtain rfl:W2=w9:=hw.symm;rw[F2]) | (go_at_call 248;refine(aM _ _ _ _).mono ?_;rintro e w9 ⟨rfl,hw⟩;obtain rfl:W2=w9:=hw.symm;rw[F3]) | (go_at_call 249;refine(jG _ _).mono ?_;rintro e w9 ⟨rfl,hw⟩;obtain rfl:W2=w9:=hw.symm;rw[HN]) | fail)
 go_ret;exact⟨rfl,G2⟩
theorem zj (p:Pt) (w:World) (r0:¬p.wn<1) (r1:¬6<p.wn) (r2:¬p.vb<1) (r3:¬19<p.vb) (r4:¬p.wm<1) (r5:¬10<p.wm) (hk:(cls p.vb != wnt p.wn)=false) (hK:QH (cls p.vb=wnt p.wn)) (hz:QH (¬cls p.vb=0)) (h11:(p.vb == 11)=true) (h9:(p.wm == 9)=false) (hB:abt p.wn p.vb p.wm=true) (hC:eI p.vb p.ct=true) (hsu:0≤p.su∧p.su≤255) (F1:bH (uS p.vb p.wm) p.su 6=true) (htr:0≤p.tr∧p.tr≤255) (F2:bH (uT p.vb p.wm) p.tr 8=true) (hmr:0≤p.mr∧p.mr≤255) (F3:bH (uM p.vb) p.mr 4=true) (hU:uN p.vb=true) (HN:aS p.nm.data.toList=true):Calls prog 184 #[pv p] w fun e w'=>e=.returned (.int .i64 0)∧w.grownBy w' none:=by
 unfold pv;go_enter func184,ntmps184;go_wp2_with (go_at_call 243;refine(bM _ _ _).mono ?_;rintro e w1 ⟨rfl,rfl⟩;simp only[cE])
 go_quiet ((first | (go_at_call 244;exact Qa4 (aN _ _)) | (go_at_call 245;exact Qa4 (bN _ _))));obtain⟨W0,hW0,A0,G0⟩:=bs w p nq;rw[←hW0];clear hW0 r0 r1 r2 r3 r4 r5;obtain⟨c0,c1,c2,c3,c4,c5,c6,c7⟩:=A0.cells;go_wp2_with fail;refine(bW p W0 hK.o hz.o).mono ?_;rintro e W1 ⟨rfl,g⟩;rw[hB];have A1:=A0.keep g;have G1:=aa G0 g;clear c0 c1 c2 c3 c4 c5 c6 c7 g A0 G0;obtain⟨c0,c1,c2,c3,c4,c5,c6,c7⟩:=A1.cells;go_wp2_with fail;refine(bE p W1).mono ?_;rintro e W2 ⟨rfl,g⟩;rw[hC];have A2:=A1.keep g;have G2:=aa G1 g;clear c0 c1 c2 c3 c4 c5 c6 c7 g A1 G1;obtain⟨c0,c1,c2,c3,c4,c5,c6,c7⟩:=A2.cells;go_wp2_with (first | (go_at_call 248;refine(aM _ _ _ _).mono ?_;rintro e w9 ⟨rfl,hw⟩;obtain rfl:W2=w9:=hw.symm;rw[F1]) | (go_at_call 248;refine(aM _ _ _ _).mono ?_;rintro e w9 ⟨rfl,hw⟩;obtain rfl:W2=w9:=hw.symm;rw[F2]) | (go_at_call 248;refine(aM _ _ _ _).mono ?_;rintro e w9 ⟨rfl,hw⟩;obtain rfl:W2=w9:=hw.symm;rw[F3]) | (go_at_call 249;refine(jG _ _).mono ?_;rintro e w9 ⟨rfl,hw⟩;obtain rfl:W2=w9:=hw.symm;rw[HN]) | fail)
 go_ret;exact⟨rfl,G2⟩
theorem AM (p:Pt) (w:World) (r0:¬p.wn<1) (r1:¬6<p.wn) (r2:¬p.vb<1) (r3:¬19<p.vb) (r4:¬p.wm<1) (r5:¬10<p.wm) (hk:(cls p.vb != wnt p.wn)=false) (hK:QH (cls p.vb=wnt p.wn)) (hz:QH (¬cls p.vb=0)) (h11:(p.vb == 11)=true) (h9:(p.wm == 9)=false) (hB:abt p.wn p.vb p.wm=true) (hC:eI p.vb p.ct=true) (hsu:0≤p.su∧p.su≤255) (F1:bH (uS p.vb p.wm) p.su 6=true) (htr:0≤p.tr∧p.tr≤255) (F2:bH (uT p.vb p.wm) p.tr 8=true) (hmr:0≤p.mr∧p.mr≤255) (F3:bH (uM p.vb) p.mr 4=true) (hU:uN p.vb=false) (HE:QH (¬p.nm.data.toList=[])):Calls prog 184 #[pv p] w fun e w'=>e=.returned (.int .i64 4)∧w.grownBy w' none:=by
 unfold pv;go_enter func184,ntmps184;go_wp2_with (go_at_call 243;refine(bM _ _ _).mono ?_;rintro e w1 ⟨rfl,rfl⟩;simp only[cE])
 go_quiet ((first | (go_at_call 244;exact Qa4 (aN _ _)) | (go_at_call 245;exact Qa4 (bN _ _))));obtain⟨W0,hW0,A0,G0⟩:=bs w p nq;rw[←hW0];clear hW0 r0 r1 r2 r3 r4 r5;obtain⟨c0,c1,c2,c3,c4,c5,c6,c7⟩:=A0.cells;go_wp2_with fail;refine(bW p W0 hK.o hz.o).mono ?_;rintro e W1 ⟨rfl,g⟩;rw[hB];have A1:=A0.keep g;have G1:=aa G0 g;clear c0 c1 c2 c3 c4 c5 c6 c7 g A0 G0;obtain⟨c0,c1,c2,c3,c4,c5,c6,c7⟩:=A1.cells;go_wp2_with fail;refine(bE p W1).mono ?_;rintro e W2 ⟨rfl,g⟩;rw[hC];have A2:=A1.keep g;have G2:=aa G1 g;clear c0 c1 c2 c3 c4 c5 c6 c7 g A1 G1;obtain⟨c0,c1,c2,c3,c4,c5,c6,c7⟩:=A2.cells
 have hb:(p.nm.toList == [])=false:=by
  rw[Lib.toList_data];simpa using HE.o
 have hb2:p.nm.toList.isEmpty=false:=by
  rw[Lib.toList_data];simpa using HE.o
 have hb3:(p.nm.toList != [])=true:=by simp[bne,hb]
 have hb4:(p.nm.toList != ([]:List UInt8))=true:=hb3;have hb5:(!p.nm.toList.isEmpty)=true:=by simp[hb2]
 go_wp2_with (first | (go_at_call 248;refine(aM _ _ _ _).mono ?_;rintro e w9 ⟨rfl,hw⟩;obtain rfl:W2=w9:=hw.symm;rw[F1]) | (go_at_call 248;refine(aM _ _ _ _).mono ?_;rintro e w9 ⟨rfl,hw⟩;obtain rfl:W2=w9:=hw.symm;rw[F2]) | (go_at_call 248;refine(aM _ _ _ _).mono ?_;rintro e w9 ⟨rfl,hw⟩;obtain rfl:W2=w9:=hw.symm;rw[F3]) | fail)
 go_ret;exact⟨rfl,G2⟩
theorem zX (p:Pt) (w:World) (r0:¬p.wn<1) (r1:¬6<p.wn) (r2:¬p.vb<1) (r3:¬19<p.vb) (r4:¬p.wm<1) (r5:¬10<p.wm) (hk:(cls p.vb != wnt p.wn)=false) (hK:QH (cls p.vb=wnt p.wn)) (hz:QH (¬cls p.vb=0)) (h11:(p.vb == 11)=true) (h9:(p.wm == 9)=false) (hB:abt p.wn p.vb p.wm=true) (hC:eI p.vb p.ct=true) (hsu:0≤p.su∧p.su≤255) (F1:bH (uS p.vb p.wm) p.su 6=true) (htr:0≤p.tr∧p.tr≤255) (F2:bH (uT p.vb p.wm) p.tr 8=true) (hmr:0≤p.mr∧p.mr≤255) (F3:bH (uM p.vb) p.mr 4=true) (hU:uN p.vb=false) (HE:QH (p.nm=⟨#[]⟩)):Calls prog 184 #[pv p] w fun e w'=>e=.returned (.int .i64 0)∧w.grownBy w' none:=by
 unfold pv;go_enter func184,ntmps184;go_wp2_with (go_at_call 243;refine(bM _ _ _).mono ?_;rintro e w1 ⟨rfl,rfl⟩;simp only[cE])
 go_quiet ((first | (go_at_call 244;exact Qa4 (aN _ _)) | (go_at_call 245;exact Qa4 (bN _ _))));obtain⟨W0,hW0,A0,G0⟩:=bs w p nq;rw[←hW0];clear hW0 r0 r1 r2 r3 r4 r5;obtain⟨c0,c1,c2,c3,c4,c5,c6,c7⟩:=A0.cells;go_wp2_with fail;refine(bW p W0 hK.o hz.o).mono ?_;rintro e W1 ⟨rfl,g⟩;rw[hB];have A1:=A0.keep g;have G1:=aa G0 g;clear c0 c1 c2 c3 c4 c5 c6 c7 g A0 G0;obtain⟨c0,c1,c2,c3,c4,c5,c6,c7⟩:=A1.cells;go_wp2_with fail;refine(bE p W1).mono ?_;rintro e W2 ⟨rfl,g⟩;rw[hC];have A2:=A1.keep g;have G2:=aa G1 g;clear c0 c1 c2 c3 c4 c5 c6 c7 g A1 G1;obtain⟨c0,c1,c2,c3,c4,c5,c6,c7⟩:=A2.cells;rw[HE.o] at c7;go_wp2_with (first | (go_at_call 248;refine(aM _ _ _ _).mono ?_;rintro e w9 ⟨rfl,hw⟩;obtain rfl:W2=w9:=hw.symm;rw[F1]) | (go_at_call 248;refine(aM _ _ _ _).mono ?_;rintro e w9 ⟨rfl,hw⟩;obtain rfl:W2=w9:=hw.symm;rw[F2]) | (go_at_call 248;refine(aM _ _ _ _).mono ?_;rintro e w9 ⟨rfl,hw⟩;obtain rfl:W2=w9:=hw.symm;rw[F3]) | fail)
 go_ret;exact⟨rfl,G2⟩
theorem np (v:Int):wnt v=0↔v<1∨6<v:=by
 unfold wnt
 repeat' split
 all_goals omega
theorem nP (v:Int):cls v=0↔v<1∨19<v:=by
 unfold cls
 repeat' split
 all_goals omega
theorem lw (v:Int):isW v=false↔v<1∨10<v:=by
 simp only[isW,Bool.and_eq_false_iff,decide_eq_false_iff_not];omega
theorem eC (p:Pt) (hw:p.wf) (w:World):Calls prog 184 #[pv p] w fun e w'=>e=.returned (.int .i64 (chk p))∧w.grownBy w' none:=by
 unfold chk;by_cases r0:p.wn<1
 ·rw[if_pos (Or.inl ((np _).2 (Or.inl r0)))];exact zQ p w r0
 by_cases r1:6<p.wn
 ·rw[if_pos (Or.inl ((np _).2 (Or.inr r1)))];exact B7 p w r0 r1
 by_cases r2:p.vb<1
 ·rw[if_pos (Or.inr (Or.inl ((nP _).2 (Or.inl r2))))];exact zK p w r0 r1 r2
 by_cases r3:19<p.vb
 ·rw[if_pos (Or.inr (Or.inl ((nP _).2 (Or.inr r3))))];exact zW p w r0 r1 r2 r3
 by_cases r4:p.wm<1
 ·rw[if_pos (Or.inr (Or.inr ((lw _).2 (Or.inl r4))))];exact Al p w r0 r1 r2 r3 r4
 by_cases r5:10<p.wm
 ·rw[if_pos (Or.inr (Or.inr ((lw _).2 (Or.inr r5))))];exact Ar p w r0 r1 r2 r3 r4 r5
 have h1:¬wnt p.wn=0:=fun e=>((np _).1 e).elim r0 r1;have h2:¬cls p.vb=0:=fun e=>((nP _).1 e).elim r2 r3;have h3:¬isW p.wm=false:=fun e=>((lw _).1 e).elim r4 r5;rw[if_neg (fun e=>e.elim h1 (fun e=>e.elim h2 h3))];by_cases h4:cls p.vb=wnt p.wn
 ·by_cases h11:p.vb=11
  ·by_cases h9:p.wm=9
   ·rw[if_pos (Or.inr ⟨h11,h9⟩)];exact Dc p w r0 r1 r2 r3 r4 r5 (di h4) (dv h11) (dv h9)
   ·rw[if_neg (fun e=>e.elim (fun x=>x h4) (fun x=>h9 x.2))];cases hB:abt p.wn p.vb p.wm with
    | false =>
     rw[if_pos rfl];exact Ad p w r0 r1 r2 r3 r4 r5 (di h4) h4 h2 (dv h11) (aW h9) hB
    | true =>
     rw[if_neg (by decide)];cases hC:eI p.vb p.ct with
     | false =>
      rw[if_pos (Or.inl rfl)];exact Bc p w r0 r1 r2 r3 r4 r5 (di h4) h4 h2 (dv h11) (aW h9) hB hC
     | true =>
      rw[show rR p=(bH (uS p.vb p.wm) p.su 6 && (bH (uT p.vb p.wm) p.tr 8 && bH (uM p.vb) p.mr 4)) from rfl];cases F1:bH (uS p.vb p.wm) p.su 6 with
      | false =>
       rw[Qai,if_pos (Or.inr rfl)];exact vw p w r0 r1 r2 r3 r4 r5 (di h4) h4 h2 (dv h11) (aW h9) hB hC hw.su F1
      | true =>
       cases F2:bH (uT p.vb p.wm) p.tr 8 with
       | false =>
        rw[Qah,Qai,if_pos (Or.inr rfl)];exact wL p w r0 r1 r2 r3 r4 r5 (di h4) h4 h2 (dv h11) (aW h9) hB hC hw.su F1 hw.tr F2
       | true =>
        cases F3:bH (uM p.vb) p.mr 4 with
        | false =>
         rw[Qah,Qah,if_pos (Or.inr rfl)];exact wU p w r0 r1 r2 r3 r4 r5 (di h4) h4 h2 (dv h11) (aW h9) hB hC hw.su F1 hw.tr F2 hw.mr F3
        | true =>
         rw[if_neg (by decide)];unfold qg;cases hU:uN p.vb with
         | true =>
          rw[if_pos rfl];cases HN:aS p.nm.data.toList with
          | false =>
           rw[if_pos rfl];exact Az p w r0 r1 r2 r3 r4 r5 (di h4) h4 h2 (dv h11) (aW h9) hB hC hw.su F1 hw.tr F2 hw.mr F3 hU HN
          | true =>
           rw[if_neg (by decide)];exact zj p w r0 r1 r2 r3 r4 r5 (di h4) h4 h2 (dv h11) (aW h9) hB hC hw.su F1 hw.tr F2 hw.mr F3 hU HN
         | false =>
          rw[if_neg Bool.false_ne_true];by_cases HE:p.nm.data.toList=[]
          ·have HE':p.nm=⟨#[]⟩:=by
            rcases e:p.nm with ⟨⟨l⟩⟩
            rw[e] at HE;simp at HE;rw[HE]
           rw[Qy HE,if_neg (by decide)];exact zX p w r0 r1 r2 r3 r4 r5 (di h4) h4 h2 (dv h11) (aW h9) hB hC hw.su F1 hw.tr F2 hw.mr F3 hU HE'
          ·rw[Qx HE,if_pos rfl];exact AM p w r0 r1 r2 r3 r4 r5 (di h4) h4 h2 (dv h11) (aW h9) hB hC hw.su F1 hw.tr F2 hw.mr F3 hU HE
  ·rw[if_neg (fun e=>e.elim (fun x=>x h4) (fun x=>h11 x.1))];cases hB:abt p.wn p.vb p.wm with
   | false =>
    rw[if_pos rfl];exact Aw p w r0 r1 r2 r3 r4 r5 (di h4) h4 h2 (aW h11) hB
   | true =>
    rw[if_neg (by decide)];cases hC:eI p.vb p.ct with
    | false =>
     rw[if_pos (Or.inl rfl)];exact zt p w r0 r1 r2 r3 r4 r5 (di h4) h4 h2 (aW h11) hB hC
    | true =>
     rw[show rR p=(bH (uS p.vb p.wm) p.su 6 && (bH (uT p.vb p.wm) p.tr 8 && bH (uM p.vb) p.mr 4)) from rfl];cases F1:bH (uS p.vb p.wm) p.su 6 with
     | false =>
      rw[Qai,if_pos (Or.inr rfl)];exact xv p w r0 r1 r2 r3 r4 r5 (di h4) h4 h2 (aW h11) hB hC hw.su F1
     | true =>
      cases F2:bH (uT p.vb p.wm) p.tr 8 with
      | false =>
       rw[Qah,Qai,if_pos (Or.inr rfl)];exact vy p w r0 r1 r2 r3 r4 r5 (di h4) h4 h2 (aW h11) hB hC hw.su F1 hw.tr F2
      | true =>
       cases F3:bH (uM p.vb) p.mr 4 with
       | false =>
        rw[Qah,Qah,if_pos (Or.inr rfl)];exact we p w r0 r1 r2 r3 r4 r5 (di h4) h4 h2 (aW h11) hB hC hw.su F1 hw.tr F2 hw.mr F3
       | true =>
        rw[if_neg (by decide)];unfold qg;cases hU:uN p.vb with
        | true =>
         rw[if_pos rfl];cases HN:aS p.nm.data.toList with
         | false =>
          rw[if_pos rfl];exact zy p w r0 r1 r2 r3 r4 r5 (di h4) h4 h2 (aW h11) hB hC hw.su F1 hw.tr F2 hw.mr F3 hU HN
         | true =>
          rw[if_neg (by decide)];exact A8 p w r0 r1 r2 r3 r4 r5 (di h4) h4 h2 (aW h11) hB hC hw.su F1 hw.tr F2 hw.mr F3 hU HN
        | false =>
         rw[if_neg Bool.false_ne_true];by_cases HE:p.nm.data.toList=[]
         ·have HE':p.nm=⟨#[]⟩:=by
           rcases e:p.nm with ⟨⟨l⟩⟩
           rw[e] at HE;simp at HE;rw[HE]
          rw[Qy HE,if_neg (by decide)];exact AL p w r0 r1 r2 r3 r4 r5 (di h4) h4 h2 (aW h11) hB hC hw.su F1 hw.tr F2 hw.mr F3 hU HE'
         ·rw[Qx HE,if_pos rfl];exact Ak p w r0 r1 r2 r3 r4 r5 (di h4) h4 h2 (aW h11) hB hC hw.su F1 hw.tr F2 hw.mr F3 hU HE
 ·rw[if_pos (Or.inl h4)];exact DG p w r0 r1 r2 r3 r4 r5 (fJ h4)
