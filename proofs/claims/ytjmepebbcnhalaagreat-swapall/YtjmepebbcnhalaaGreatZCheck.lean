/-

-/
import Derived.Test.YtjmepebbcnhalaaGreatZ1
namespace Go.Proofs.YtjmepebbcnhalaaGreat
open Tryz
set_option maxRecDepth 100000
set_option maxHeartbeats 4000000
open Go.RowKit
variable {w:World} {b:Nat}

theorem PAt.cells {p:Pt} (h:PAt w b p):w.cell? ⟨b,0,none⟩=some (.int .u8 p.wn)∧w.cell? ⟨b,1,none⟩=some (.int .u8 p.vb)∧w.cell? ⟨b,2,none⟩=some (.int .u8 p.wm)∧w.cell? ⟨b,3,none⟩=some (.int .i64 p.ct)∧w.cell? ⟨b,4,none⟩=some (.int .u8 p.su)∧w.cell? ⟨b,5,none⟩=some (.int .u8 p.tr)∧w.cell? ⟨b,6,none⟩=some (.int .u8 p.mr)∧w.cell? ⟨b,7,none⟩=some (.string p.nm) :=
 ⟨ae h 0,ae h 1,ae h 2,ae h 3,ae h 4,ae h 5,ae h 6,ae h 7⟩
theorem ai (w:World):w.grownBy w.drew none:=⟨rfl,rfl,rfl,Qj _,fun _ _ _=>rfl⟩
theorem dU (w:World) (p:Pt):∃ W1,W1=(w.alloc (.cells #[.int .u8 p.wn,.int .u8 p.vb,.int .u8 p.wm,.int .i64 p.ct,.int .u8 p.su,.int .u8 p.tr,.int .u8 p.mr,.string p.nm] 62)).drew∧PAt W1 w.heap.size p∧w.grownBy W1 none:=⟨_,rfl,PAt.new w p,aa (Qa0 _ _ _) (ai _)⟩
theorem ET (p:Pt) (w:World) (h1:(wnt p.wn == 0)=true):Calls prog 237 #[pv p] w fun e w'=>e=.returned (.int .i64 2)∧w.grownBy w' none:=by
 unfold pv;go_enter func237,ntmps237;go_wp2_with fail;go_region_held3 (fun w'=>w'.cell? ⟨w.heap.size,0,none⟩=some (.int .u8 p.wn)∧w'.cell? ⟨w.heap.size,1,none⟩=some (.int .u8 p.vb)) (first | exact⟨ae (aj _ _ _) 0,ae (aj _ _ _) 1⟩ | go_keep) (first | (go_at_call 273;refine(cU _ _).mono ?_;rintro e w3 ⟨rfl,rfl⟩) | (go_at_call 274;refine(cG _ _).mono ?_;rintro e w3 ⟨rfl,rfl⟩));obtain⟨W0,hW0,A0,G0⟩:=dU w p;rw[←hW0];clear hW0;obtain⟨c0,c1,c2,c3,c4,c5,c6,c7⟩:=A0.cells;go_wp2_with fail;go_ret;exact⟨rfl,G0⟩
theorem EF (p:Pt) (w:World) (h1:(wnt p.wn == 0)=false) (h2:(cls p.vb == 0)=true):Calls prog 237 #[pv p] w fun e w'=>e=.returned (.int .i64 2)∧w.grownBy w' none:=by
 unfold pv;go_enter func237,ntmps237;go_wp2_with fail;go_region_held3 (fun w'=>w'.cell? ⟨w.heap.size,0,none⟩=some (.int .u8 p.wn)∧w'.cell? ⟨w.heap.size,1,none⟩=some (.int .u8 p.vb)) (first | exact⟨ae (aj _ _ _) 0,ae (aj _ _ _) 1⟩ | go_keep) (first | (go_at_call 273;refine(cU _ _).mono ?_;rintro e w3 ⟨rfl,rfl⟩) | (go_at_call 274;refine(cG _ _).mono ?_;rintro e w3 ⟨rfl,rfl⟩));obtain⟨W0,hW0,A0,G0⟩:=dU w p;rw[←hW0];clear hW0;obtain⟨c0,c1,c2,c3,c4,c5,c6,c7⟩:=A0.cells;go_wp2_with fail;go_ret;exact⟨rfl,G0⟩
theorem Ej (p:Pt) (w:World) (h1:(wnt p.wn == 0)=false) (h2:(cls p.vb == 0)=false) (hI:isW p.wm=false):Calls prog 237 #[pv p] w fun e w'=>e=.returned (.int .i64 2)∧w.grownBy w' none:=by
 unfold pv;go_enter func237,ntmps237;go_wp2_with fail;go_region_held3 (fun w'=>w'.cell? ⟨w.heap.size,0,none⟩=some (.int .u8 p.wn)∧w'.cell? ⟨w.heap.size,1,none⟩=some (.int .u8 p.vb)) (first | exact⟨ae (aj _ _ _) 0,ae (aj _ _ _) 1⟩ | go_keep) (first | (go_at_call 273;refine(cU _ _).mono ?_;rintro e w3 ⟨rfl,rfl⟩) | (go_at_call 274;refine(cG _ _).mono ?_;rintro e w3 ⟨rfl,rfl⟩));obtain⟨W0,hW0,A0,G0⟩:=dU w p;rw[←hW0];clear hW0;obtain⟨c0,c1,c2,c3,c4,c5,c6,c7⟩:=A0.cells;go_wp2_with (first | (go_at_call 275;refine(eE _ _).mono ?_;rintro e w3 ⟨rfl,hw⟩;obtain rfl:W0=w3:=hw.symm;rw[hI]) | fail)
 go_ret;exact⟨rfl,G0⟩
theorem En (p:Pt) (w:World) (h1:(wnt p.wn == 0)=false) (h2:(cls p.vb == 0)=false) (hI:isW p.wm=true) (h4:(cls p.vb == wnt p.wn)=false):Calls prog 237 #[pv p] w fun e w'=>e=.returned (.int .i64 8)∧w.grownBy w' none:=by
 unfold pv;go_enter func237,ntmps237;go_wp2_with fail;go_region_held3 (fun w'=>w'.cell? ⟨w.heap.size,0,none⟩=some (.int .u8 p.wn)∧w'.cell? ⟨w.heap.size,1,none⟩=some (.int .u8 p.vb)) (first | exact⟨ae (aj _ _ _) 0,ae (aj _ _ _) 1⟩ | go_keep) (first | (go_at_call 273;refine(cU _ _).mono ?_;rintro e w3 ⟨rfl,rfl⟩) | (go_at_call 274;refine(cG _ _).mono ?_;rintro e w3 ⟨rfl,rfl⟩));obtain⟨W0,hW0,A0,G0⟩:=dU w p;rw[←hW0];clear hW0;obtain⟨c0,c1,c2,c3,c4,c5,c6,c7⟩:=A0.cells;have h5:(cls p.vb != wnt p.wn)=true:=by simp[bne,h4]
 go_wp2_with (first | (go_at_call 275;refine(eE _ _).mono ?_;rintro e w3 ⟨rfl,hw⟩;obtain rfl:W0=w3:=hw.symm;rw[hI]) | fail)
 go_ret;exact⟨rfl,G0⟩
theorem F8 (p:Pt) (w:World) (h1:(wnt p.wn == 0)=false) (h2:(cls p.vb == 0)=false) (hI:isW p.wm=true) (h4:(cls p.vb == wnt p.wn)=true) (hD:decide (p.vb=11∧p.wm=9)=true):Calls prog 237 #[pv p] w fun e w'=>e=.returned (.int .i64 8)∧w.grownBy w' none:=by
 unfold pv;go_enter func237,ntmps237;go_wp2_with fail;go_region_held3 (fun w'=>w'.cell? ⟨w.heap.size,0,none⟩=some (.int .u8 p.wn)∧w'.cell? ⟨w.heap.size,1,none⟩=some (.int .u8 p.vb)) (first | exact⟨ae (aj _ _ _) 0,ae (aj _ _ _) 1⟩ | go_keep) (first | (go_at_call 273;refine(cU _ _).mono ?_;rintro e w3 ⟨rfl,rfl⟩) | (go_at_call 274;refine(cG _ _).mono ?_;rintro e w3 ⟨rfl,rfl⟩));obtain⟨W0,hW0,A0,G0⟩:=dU w p;rw[←hW0];clear hW0;obtain⟨c0,c1,c2,c3,c4,c5,c6,c7⟩:=A0.cells;have h5:(cls p.vb != wnt p.wn)=false:=by simp[bne,h4]
 go_wp2_with (first | (go_at_call 275;refine(eE _ _).mono ?_;rintro e w3 ⟨rfl,hw⟩;obtain rfl:W0=w3:=hw.symm;rw[hI]) | fail)
 refine(iu p W0).mono ?_;rintro e W1 ⟨rfl,g⟩;rw[hD];have A1:=A0.keep g;have G1:=aa G0 g;clear c0 c1 c2 c3 c4 c5 c6 c7 g A0 G0;obtain⟨c0,c1,c2,c3,c4,c5,c6,c7⟩:=A1.cells;go_wp2_with fail;go_ret;exact⟨rfl,G1⟩
theorem Eb (p:Pt) (w:World) (h1:(wnt p.wn == 0)=false) (h2:(cls p.vb == 0)=false) (hI:isW p.wm=true) (h4:(cls p.vb == wnt p.wn)=true) (hD:decide (p.vb=11∧p.wm=9)=false) (hB:abt p.wn p.vb p.wm=false):Calls prog 237 #[pv p] w fun e w'=>e=.returned (.int .i64 13)∧w.grownBy w' none:=by
 unfold pv;go_enter func237,ntmps237;go_wp2_with fail;go_region_held3 (fun w'=>w'.cell? ⟨w.heap.size,0,none⟩=some (.int .u8 p.wn)∧w'.cell? ⟨w.heap.size,1,none⟩=some (.int .u8 p.vb)) (first | exact⟨ae (aj _ _ _) 0,ae (aj _ _ _) 1⟩ | go_keep) (first | (go_at_call 273;refine(cU _ _).mono ?_;rintro e w3 ⟨rfl,rfl⟩) | (go_at_call 274;refine(cG _ _).mono ?_;rintro e w3 ⟨rfl,rfl⟩));obtain⟨W0,hW0,A0,G0⟩:=dU w p;rw[←hW0];clear hW0;obtain⟨c0,c1,c2,c3,c4,c5,c6,c7⟩:=A0.cells;have h5:(cls p.vb != wnt p.wn)=false:=by simp[bne,h4]
 go_wp2_with (first | (go_at_call 275;refine(eE _ _).mono ?_;rintro e w3 ⟨rfl,hw⟩;obtain rfl:W0=w3:=hw.symm;rw[hI]) | fail)
 refine(iu p W0).mono ?_;rintro e W1 ⟨rfl,g⟩;rw[hD];have A1:=A0.keep g;have G1:=aa G0 g;clear c0 c1 c2 c3 c4 c5 c6 c7 g A0 G0;obtain⟨c0,c1,c2,c3,c4,c5,c6,c7⟩:=A1.cells;go_wp2_with fail;refine(kz p W1).mono ?_;rintro e W2 ⟨rfl,g⟩;rw[hB];have A2:=A1.keep g;have G2:=aa G1 g;clear c0 c1 c2 c3 c4 c5 c6 c7 g A1 G1;obtain⟨c0,c1,c2,c3,c4,c5,c6,c7⟩:=A2.cells;go_wp2_with fail;go_ret;exact⟨rfl,G2⟩
theorem EV (p:Pt) (w:World) (h1:(wnt p.wn == 0)=false) (h2:(cls p.vb == 0)=false) (hI:isW p.wm=true) (h4:(cls p.vb == wnt p.wn)=true) (hD:decide (p.vb=11∧p.wm=9)=false) (hB:abt p.wn p.vb p.wm=true) (hC:eI p.vb p.ct=false):Calls prog 237 #[pv p] w fun e w'=>e=.returned (.int .i64 2)∧w.grownBy w' none:=by
 unfold pv;go_enter func237,ntmps237;go_wp2_with fail;go_region_held3 (fun w'=>w'.cell? ⟨w.heap.size,0,none⟩=some (.int .u8 p.wn)∧w'.cell? ⟨w.heap.size,1,none⟩=some (.int .u8 p.vb)) (first | exact⟨ae (aj _ _ _) 0,ae (aj _ _ _) 1⟩ | go_keep) (first | (go_at_call 273;refine(cU _ _).mono ?_;rintro e w3 ⟨rfl,rfl⟩) | (go_at_call 274;refine(cG _ _).mono ?_;rintro e w3 ⟨rfl,rfl⟩));obtain⟨W0,hW0,A0,G0⟩:=dU w p;rw[←hW0];clear hW0;obtain⟨c0,c1,c2,c3,c4,c5,c6,c7⟩:=A0.cells;have h5:(cls p.vb != wnt p.wn)=false:=by simp[bne,h4]
 go_wp2_with (first | (go_at_call 275;refine(eE _ _).mono ?_;rintro e w3 ⟨rfl,hw⟩;obtain rfl:W0=w3:=hw.symm;rw[hI]) | fail)
 refine(iu p W0).mono ?_;rintro e W1 ⟨rfl,g⟩;rw[hD];have A1:=A0.keep g;have G1:=aa G0 g;clear c0 c1 c2 c3 c4 c5 c6 c7 g A0 G0;obtain⟨c0,c1,c2,c3,c4,c5,c6,c7⟩:=A1.cells;go_wp2_with fail;refine(kz p W1).mono ?_;rintro e W2 ⟨rfl,g⟩;rw[hB];have A2:=A1.keep g;have G2:=aa G1 g;clear c0 c1 c2 c3 c4 c5 c6 c7 g A1 G1;obtain⟨c0,c1,c2,c3,c4,c5,c6,c7⟩:=A2.cells;go_wp2_with fail;refine(kU p W2).mono ?_;rintro e W3 ⟨rfl,g⟩;rw[hC];have A3:=A2.keep g;have G3:=aa G2 g;clear c0 c1 c2 c3 c4 c5 c6 c7 g A2 G2;obtain⟨c0,c1,c2,c3,c4,c5,c6,c7⟩:=A3.cells;go_wp2_with fail;go_ret;exact⟨rfl,G3⟩
theorem Fx (p:Pt) (w:World) (h1:(wnt p.wn == 0)=false) (h2:(cls p.vb == 0)=false) (hI:isW p.wm=true) (h4:(cls p.vb == wnt p.wn)=true) (hD:decide (p.vb=11∧p.wm=9)=false) (hB:abt p.wn p.vb p.wm=true) (hC:eI p.vb p.ct=true) (hK:rR p=false):Calls prog 237 #[pv p] w fun e w'=>e=.returned (.int .i64 2)∧w.grownBy w' none:=by
 unfold pv;go_enter func237,ntmps237;go_wp2_with fail;go_region_held3 (fun w'=>w'.cell? ⟨w.heap.size,0,none⟩=some (.int .u8 p.wn)∧w'.cell? ⟨w.heap.size,1,none⟩=some (.int .u8 p.vb)) (first | exact⟨ae (aj _ _ _) 0,ae (aj _ _ _) 1⟩ | go_keep) (first | (go_at_call 273;refine(cU _ _).mono ?_;rintro e w3 ⟨rfl,rfl⟩) | (go_at_call 274;refine(cG _ _).mono ?_;rintro e w3 ⟨rfl,rfl⟩));obtain⟨W0,hW0,A0,G0⟩:=dU w p;rw[←hW0];clear hW0;obtain⟨c0,c1,c2,c3,c4,c5,c6,c7⟩:=A0.cells;have h5:(cls p.vb != wnt p.wn)=false:=by simp[bne,h4]
 go_wp2_with (first | (go_at_call 275;refine(eE _ _).mono ?_;rintro e w3 ⟨rfl,hw⟩;obtain rfl:W0=w3:=hw.symm;rw[hI]) | fail)
 refine(iu p W0).mono ?_;rintro e W1 ⟨rfl,g⟩;rw[hD];have A1:=A0.keep g;have G1:=aa G0 g;clear c0 c1 c2 c3 c4 c5 c6 c7 g A0 G0;obtain⟨c0,c1,c2,c3,c4,c5,c6,c7⟩:=A1.cells;go_wp2_with fail;refine(kz p W1).mono ?_;rintro e W2 ⟨rfl,g⟩;rw[hB];have A2:=A1.keep g;have G2:=aa G1 g;clear c0 c1 c2 c3 c4 c5 c6 c7 g A1 G1;obtain⟨c0,c1,c2,c3,c4,c5,c6,c7⟩:=A2.cells;go_wp2_with fail;refine(kU p W2).mono ?_;rintro e W3 ⟨rfl,g⟩;rw[hC];have A3:=A2.keep g;have G3:=aa G2 g;clear c0 c1 c2 c3 c4 c5 c6 c7 g A2 G2;obtain⟨c0,c1,c2,c3,c4,c5,c6,c7⟩:=A3.cells;go_wp2_with fail;refine(oH p W3).mono ?_;rintro e W4 ⟨rfl,g⟩;rw[hK];have A4:=A3.keep g;have G4:=aa G3 g;clear c0 c1 c2 c3 c4 c5 c6 c7 g A3 G3;obtain⟨c0,c1,c2,c3,c4,c5,c6,c7⟩:=A4.cells;go_wp2_with fail;go_ret;exact⟨rfl,G4⟩
theorem EM (p:Pt) (w:World) (h1:(wnt p.wn == 0)=false) (h2:(cls p.vb == 0)=false) (hI:isW p.wm=true) (h4:(cls p.vb == wnt p.wn)=true) (hD:decide (p.vb=11∧p.wm=9)=false) (hB:abt p.wn p.vb p.wm=true) (hC:eI p.vb p.ct=true) (hK:rR p=true) (hN:qg p=false):Calls prog 237 #[pv p] w fun e w'=>e=.returned (.int .i64 4)∧w.grownBy w' none:=by
 unfold pv;go_enter func237,ntmps237;go_wp2_with fail;go_region_held3 (fun w'=>w'.cell? ⟨w.heap.size,0,none⟩=some (.int .u8 p.wn)∧w'.cell? ⟨w.heap.size,1,none⟩=some (.int .u8 p.vb)) (first | exact⟨ae (aj _ _ _) 0,ae (aj _ _ _) 1⟩ | go_keep) (first | (go_at_call 273;refine(cU _ _).mono ?_;rintro e w3 ⟨rfl,rfl⟩) | (go_at_call 274;refine(cG _ _).mono ?_;rintro e w3 ⟨rfl,rfl⟩));obtain⟨W0,hW0,A0,G0⟩:=dU w p;rw[←hW0];clear hW0;obtain⟨c0,c1,c2,c3,c4,c5,c6,c7⟩:=A0.cells;have h5:(cls p.vb != wnt p.wn)=false:=by simp[bne,h4]
 go_wp2_with (first | (go_at_call 275;refine(eE _ _).mono ?_;rintro e w3 ⟨rfl,hw⟩;obtain rfl:W0=w3:=hw.symm;rw[hI]) | fail)
 refine(iu p W0).mono ?_;rintro e W1 ⟨rfl,g⟩;rw[hD];have A1:=A0.keep g;have G1:=aa G0 g;clear c0 c1 c2 c3 c4 c5 c6 c7 g A0 G0;obtain⟨c0,c1,c2,c3,c4,c5,c6,c7⟩:=A1.cells;go_wp2_with fail;refine(kz p W1).mono ?_;rintro e W2 ⟨rfl,g⟩;rw[hB];have A2:=A1.keep g;have G2:=aa G1 g;clear c0 c1 c2 c3 c4 c5 c6 c7 g A1 G1;obtain⟨c0,c1,c2,c3,c4,c5,c6,c7⟩:=A2.cells;go_wp2_with fail;refine(kU p W2).mono ?_;rintro e W3 ⟨rfl,g⟩;rw[hC];have A3:=A2.keep g;have G3:=aa G2 g;clear c0 c1 c2 c3 c4 c5 c6 c7 g A2 G2;obtain⟨c0,c1,c2,c3,c4,c5,c6,c7⟩:=A3.cells;go_wp2_with fail;refine(oH p W3).mono ?_;rintro e W4 ⟨rfl,g⟩;rw[hK];have A4:=A3.keep g;have G4:=aa G3 g;clear c0 c1 c2 c3 c4 c5 c6 c7 g A3 G3;obtain⟨c0,c1,c2,c3,c4,c5,c6,c7⟩:=A4.cells;go_wp2_with fail;refine(uz p W4).mono ?_;rintro e W5 ⟨rfl,g⟩;rw[hN];have A5:=A4.keep g;have G5:=aa G4 g;clear c0 c1 c2 c3 c4 c5 c6 c7 g A4 G4;obtain⟨c0,c1,c2,c3,c4,c5,c6,c7⟩:=A5.cells;go_wp2_with fail;go_ret;exact⟨rfl,G5⟩
theorem FH (p:Pt) (w:World) (h1:(wnt p.wn == 0)=false) (h2:(cls p.vb == 0)=false) (hI:isW p.wm=true) (h4:(cls p.vb == wnt p.wn)=true) (hD:decide (p.vb=11∧p.wm=9)=false) (hB:abt p.wn p.vb p.wm=true) (hC:eI p.vb p.ct=true) (hK:rR p=true) (hN:qg p=true):Calls prog 237 #[pv p] w fun e w'=>e=.returned (.int .i64 0)∧w.grownBy w' none:=by
 unfold pv;go_enter func237,ntmps237;go_wp2_with fail;go_region_held3 (fun w'=>w'.cell? ⟨w.heap.size,0,none⟩=some (.int .u8 p.wn)∧w'.cell? ⟨w.heap.size,1,none⟩=some (.int .u8 p.vb)) (first | exact⟨ae (aj _ _ _) 0,ae (aj _ _ _) 1⟩ | go_keep) (first | (go_at_call 273;refine(cU _ _).mono ?_;rintro e w3 ⟨rfl,rfl⟩) | (go_at_call 274;refine(cG _ _).mono ?_;rintro e w3 ⟨rfl,rfl⟩));obtain⟨W0,hW0,A0,G0⟩:=dU w p;rw[←hW0];clear hW0;obtain⟨c0,c1,c2,c3,c4,c5,c6,c7⟩:=A0.cells;have h5:(cls p.vb != wnt p.wn)=false:=by simp[bne,h4]
 go_wp2_with (first | (go_at_call 275;refine(eE _ _).mono ?_;rintro e w3 ⟨rfl,hw⟩;obtain rfl:W0=w3:=hw.symm;rw[hI]) | fail)
 refine(iu p W0).mono ?_;rintro e W1 ⟨rfl,g⟩;rw[hD];have A1:=A0.keep g;have G1:=aa G0 g;clear c0 c1 c2 c3 c4 c5 c6 c7 g A0 G0;obtain⟨c0,c1,c2,c3,c4,c5,c6,c7⟩:=A1.cells;go_wp2_with fail;refine(kz p W1).mono ?_;rintro e W2 ⟨rfl,g⟩;rw[hB];have A2:=A1.keep g;have G2:=aa G1 g;clear c0 c1 c2 c3 c4 c5 c6 c7 g A1 G1;obtain⟨c0,c1,c2,c3,c4,c5,c6,c7⟩:=A2.cells;go_wp2_with fail;refine(kU p W2).mono ?_;rintro e W3 ⟨rfl,g⟩;rw[hC];have A3:=A2.keep g;have G3:=aa G2 g;clear c0 c1 c2 c3 c4 c5 c6 c7 g A2 G2;obtain⟨c0,c1,c2,c3,c4,c5,c6,c7⟩:=A3.cells;go_wp2_with fail;refine(oH p W3).mono ?_;rintro e W4 ⟨rfl,g⟩;rw[hK];have A4:=A3.keep g;have G4:=aa G3 g;clear c0 c1 c2 c3 c4 c5 c6 c7 g A3 G3;obtain⟨c0,c1,c2,c3,c4,c5,c6,c7⟩:=A4.cells;go_wp2_with fail;refine(uz p W4).mono ?_;rintro e W5 ⟨rfl,g⟩;rw[hN];have A5:=A4.keep g;have G5:=aa G4 g;clear c0 c1 c2 c3 c4 c5 c6 c7 g A4 G4;obtain⟨c0,c1,c2,c3,c4,c5,c6,c7⟩:=A5.cells;go_wp2_with fail;go_ret;exact⟨rfl,G5⟩
theorem lQ (p:Pt) (w:World):Calls prog 237 #[pv p] w fun e w'=>e=.returned (.int .i64 (chk p))∧w.grownBy w' none:=by
 unfold chk;by_cases h1:wnt p.wn=0
 ·rw[if_pos (Or.inl h1)];exact ET p w (by simp[h1])
 ·by_cases h2:cls p.vb=0
  ·rw[if_pos (Or.inr (Or.inl h2))];exact EF p w (by simp[h1]) (by simp[h2])
  ·cases hI:isW p.wm with
   | false =>
    rw[if_pos (Or.inr (Or.inr rfl))];exact Ej p w (by simp[h1]) (by simp[h2]) hI
   | true =>
    rw[if_neg (by simp[h1,h2])];by_cases h4:cls p.vb=wnt p.wn
    ·by_cases hD:p.vb=11∧p.wm=9
     ·rw[if_pos (Or.inr hD)];exact F8 p w (by simp[h1]) (by simp[h2]) hI (by simp[h4]) (Qy hD)
     ·rw[if_neg (fun e=>e.elim (fun x=>x h4) hD)];have hd:=Qx hD;cases hB:abt p.wn p.vb p.wm with
      | false =>
       rw[if_pos rfl];exact Eb p w (by simp[h1]) (by simp[h2]) hI (by simp[h4]) hd hB
      | true =>
       rw[if_neg (by decide)];cases hC:eI p.vb p.ct with
       | false =>
        rw[if_pos (Or.inl rfl)];exact EV p w (by simp[h1]) (by simp[h2]) hI (by simp[h4]) hd hB hC
       | true =>
        cases hK:rR p with
        | false =>
         rw[if_pos (Or.inr rfl)];exact Fx p w (by simp[h1]) (by simp[h2]) hI (by simp[h4]) hd hB hC hK
        | true =>
         rw[if_neg (by decide)];cases hN:qg p with
         | false =>
          rw[if_pos rfl];exact EM p w (by simp[h1]) (by simp[h2]) hI (by simp[h4]) hd hB hC hK hN
         | true =>
          rw[if_neg (by decide)];exact FH p w (by simp[h1]) (by simp[h2]) hI (by simp[h4]) hd hB hC hK hN
    ·rw[if_pos (Or.inl h4)];exact En p w (by simp[h1]) (by simp[h2]) hI (by simpa using h4)
