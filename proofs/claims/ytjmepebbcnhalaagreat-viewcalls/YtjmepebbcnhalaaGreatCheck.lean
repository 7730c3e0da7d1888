/-

-/
import Derived.Test.YtjmepebbcnhalaaGreatV1
namespace Go.Proofs.YtjmepebbcnhalaaGreat
set_option maxRecDepth 100000
set_option maxHeartbeats 4000000
open Go.RowKit
variable {w:World} {b:Nat}

theorem PAt.cells {p:Pt} (h:PAt w b p):w.cell? ⟨b,0,none⟩=some (.int .u8 p.wn)∧w.cell? ⟨b,1,none⟩=some (.int .u8 p.vb)∧w.cell? ⟨b,2,none⟩=some (.int .u8 p.wm)∧w.cell? ⟨b,3,none⟩=some (.int .i64 p.ct)∧w.cell? ⟨b,4,none⟩=some (.int .u8 p.su)∧w.cell? ⟨b,5,none⟩=some (.int .u8 p.tr)∧w.cell? ⟨b,6,none⟩=some (.int .u8 p.mr)∧w.cell? ⟨b,7,none⟩=some (.string p.nm) :=
 ⟨aa h 0,aa h 1,aa h 2,aa h 3,aa h 4,aa h 5,aa h 6,aa h 7⟩
theorem ai (w:World):w.grownBy w.drew none:=⟨rfl,rfl,rfl,Qj _,fun _ _ _=>rfl⟩
theorem dE (w:World) (p:Pt):∃ W1,W1=(w.alloc (.cells #[.int .u8 p.wn,.int .u8 p.vb,.int .u8 p.wm,.int .i64 p.ct,.int .u8 p.su,.int .u8 p.tr,.int .u8 p.mr,.string p.nm] 62)).drew∧PAt W1 w.heap.size p∧w.grownBy W1 none:=⟨_,rfl,PAt.new w p,ae (World.grownBy_alloc _ _ _) (ai _)⟩
theorem DQ (p:Pt) (w:World) (h1:(wnt p.wn == 0)=true):Calls Tryz.prog 237 #[pv p] w fun e w'=>e=.returned (.int .i64 2)∧w.grownBy w' none:=by
 unfold pv
 go_enter Tryz.func237,Tryz.ntmps237
 go_wp2_with fail
 go_region_held3 (fun w'=>w'.cell? ⟨w.heap.size,0,none⟩=some (.int .u8 p.wn)∧w'.cell? ⟨w.heap.size,1,none⟩=some (.int .u8 p.vb)) (first | exact⟨aa (ak _ _ _) 0,aa (ak _ _ _) 1⟩ | go_keep) (first | (go_at_call 273;refine(cj _ _).mono ?_;rintro e w3 ⟨rfl,rfl⟩) | (go_at_call 274;refine(bU _ _).mono ?_;rintro e w3 ⟨rfl,rfl⟩))
 obtain⟨W0,hW0,A0,G0⟩:=dE w p
 rw[←hW0]
 clear hW0
 obtain⟨c0,c1,c2,c3,c4,c5,c6,c7⟩:=A0.cells
 go_wp2_with fail
 go_ret
 exact⟨rfl,G0⟩
theorem CR (p:Pt) (w:World) (h1:(wnt p.wn == 0)=false) (h2:(cls p.vb == 0)=true):Calls Tryz.prog 237 #[pv p] w fun e w'=>e=.returned (.int .i64 2)∧w.grownBy w' none:=by
 unfold pv
 go_enter Tryz.func237,Tryz.ntmps237
 go_wp2_with fail
 go_region_held3 (fun w'=>w'.cell? ⟨w.heap.size,0,none⟩=some (.int .u8 p.wn)∧w'.cell? ⟨w.heap.size,1,none⟩=some (.int .u8 p.vb)) (first | exact⟨aa (ak _ _ _) 0,aa (ak _ _ _) 1⟩ | go_keep) (first | (go_at_call 273;refine(cj _ _).mono ?_;rintro e w3 ⟨rfl,rfl⟩) | (go_at_call 274;refine(bU _ _).mono ?_;rintro e w3 ⟨rfl,rfl⟩))
 obtain⟨W0,hW0,A0,G0⟩:=dE w p
 rw[←hW0]
 clear hW0
 obtain⟨c0,c1,c2,c3,c4,c5,c6,c7⟩:=A0.cells
 go_wp2_with fail
 go_ret
 exact⟨rfl,G0⟩
theorem Dh (p:Pt) (w:World) (h1:(wnt p.wn == 0)=false) (h2:(cls p.vb == 0)=false) (hI:isW p.wm=false):Calls Tryz.prog 237 #[pv p] w fun e w'=>e=.returned (.int .i64 2)∧w.grownBy w' none:=by
 unfold pv
 go_enter Tryz.func237,Tryz.ntmps237
 go_wp2_with fail
 go_region_held3 (fun w'=>w'.cell? ⟨w.heap.size,0,none⟩=some (.int .u8 p.wn)∧w'.cell? ⟨w.heap.size,1,none⟩=some (.int .u8 p.vb)) (first | exact⟨aa (ak _ _ _) 0,aa (ak _ _ _) 1⟩ | go_keep) (first | (go_at_call 273;refine(cj _ _).mono ?_;rintro e w3 ⟨rfl,rfl⟩) | (go_at_call 274;refine(bU _ _).mono ?_;rintro e w3 ⟨rfl,rfl⟩))
 obtain⟨W0,hW0,A0,G0⟩:=dE w p
 rw[←hW0]
 clear hW0
 obtain⟨c0,c1,c2,c3,c4,c5,c6,c7⟩:=A0.cells
 go_wp2_with (first | (go_at_call 275;refine(dM _ _).mono ?_;rintro e w3 ⟨rfl,hw⟩;obtain rfl:W0=w3:=hw.symm;rw[hI]) | fail)
 go_ret
 exact⟨rfl,G0⟩
theorem CI (p:Pt) (w:World) (h1:(wnt p.wn == 0)=false) (h2:(cls p.vb == 0)=false) (hI:isW p.wm=true) (h4:(cls p.vb == wnt p.wn)=false):Calls Tryz.prog 237 #[pv p] w fun e w'=>e=.returned (.int .i64 8)∧w.grownBy w' none:=by
 unfold pv
 go_enter Tryz.func237,Tryz.ntmps237
 go_wp2_with fail
 go_region_held3 (fun w'=>w'.cell? ⟨w.heap.size,0,none⟩=some (.int .u8 p.wn)∧w'.cell? ⟨w.heap.size,1,none⟩=some (.int .u8 p.vb)) (first | exact⟨aa (ak _ _ _) 0,aa (ak _ _ _) 1⟩ | go_keep) (first | (go_at_call 273;refine(cj _ _).mono ?_;rintro e w3 ⟨rfl,rfl⟩) | (go_at_call 274;refine(bU _ _).mono ?_;rintro e w3 ⟨rfl,rfl⟩))
 obtain⟨W0,hW0,A0,G0⟩:=dE w p
 rw[←hW0]
 clear hW0
 obtain⟨c0,c1,c2,c3,c4,c5,c6,c7⟩:=A0.cells
 have h5:(cls p.vb != wnt p.wn)=true:=by simp[bne,h4]
 go_wp2_with (first | (go_at_call 275;refine(dM _ _).mono ?_;rintro e w3 ⟨rfl,hw⟩;obtain rfl:W0=w3:=hw.symm;rw[hI]) | fail)
 go_ret
 exact⟨rfl,G0⟩
theorem DX (p:Pt) (w:World) (h1:(wnt p.wn == 0)=false) (h2:(cls p.vb == 0)=false) (hI:isW p.wm=true) (h4:(cls p.vb == wnt p.wn)=true) (hD:decide (p.vb=11∧p.wm=9)=true):Calls Tryz.prog 237 #[pv p] w fun e w'=>e=.returned (.int .i64 8)∧w.grownBy w' none:=by
 unfold pv
 go_enter Tryz.func237,Tryz.ntmps237
 go_wp2_with fail
 go_region_held3 (fun w'=>w'.cell? ⟨w.heap.size,0,none⟩=some (.int .u8 p.wn)∧w'.cell? ⟨w.heap.size,1,none⟩=some (.int .u8 p.vb)) (first | exact⟨aa (ak _ _ _) 0,aa (ak _ _ _) 1⟩ | go_keep) (first | (go_at_call 273;refine(cj _ _).mono ?_;rintro e w3 ⟨rfl,rfl⟩) | (go_at_call 274;refine(bU _ _).mono ?_;rintro e w3 ⟨rfl,rfl⟩))
 obtain⟨W0,hW0,A0,G0⟩:=dE w p
 rw[←hW0]
 clear hW0
 obtain⟨c0,c1,c2,c3,c4,c5,c6,c7⟩:=A0.cells
 have h5:(cls p.vb != wnt p.wn)=false:=by simp[bne,h4]
 go_wp2_with (first | (go_at_call 275;refine(dM _ _).mono ?_;rintro e w3 ⟨rfl,hw⟩;obtain rfl:W0=w3:=hw.symm;rw[hI]) | fail)
 refine(ia p W0).mono ?_
 rintro e W1 ⟨rfl,g⟩
 rw[hD]
 have A1:=A0.keep g
 have G1:=ae G0 g
 clear c0 c1 c2 c3 c4 c5 c6 c7 g A0 G0
 obtain⟨c0,c1,c2,c3,c4,c5,c6,c7⟩:=A1.cells
 go_wp2_with fail
 go_ret
 exact⟨rfl,G1⟩
theorem CW (p:Pt) (w:World) (h1:(wnt p.wn == 0)=false) (h2:(cls p.vb == 0)=false) (hI:isW p.wm=true) (h4:(cls p.vb == wnt p.wn)=true) (hD:decide (p.vb=11∧p.wm=9)=false) (hB:abt p.wn p.vb p.wm=false):Calls Tryz.prog 237 #[pv p] w fun e w'=>e=.returned (.int .i64 13)∧w.grownBy w' none:=by
 unfold pv
 go_enter Tryz.func237,Tryz.ntmps237
 go_wp2_with fail
 go_region_held3 (fun w'=>w'.cell? ⟨w.heap.size,0,none⟩=some (.int .u8 p.wn)∧w'.cell? ⟨w.heap.size,1,none⟩=some (.int .u8 p.vb)) (first | exact⟨aa (ak _ _ _) 0,aa (ak _ _ _) 1⟩ | go_keep) (first | (go_at_call 273;refine(cj _ _).mono ?_;rintro e w3 ⟨rfl,rfl⟩) | (go_at_call 274;refine(bU _ _).mono ?_;rintro e w3 ⟨rfl,rfl⟩))
 obtain⟨W0,hW0,A0,G0⟩:=dE w p
 rw[←hW0]
 clear hW0
 obtain⟨c0,c1,c2,c3,c4,c5,c6,c7⟩:=A0.cells
 have h5:(cls p.vb != wnt p.wn)=false:=by simp[bne,h4]
 go_wp2_with (first | (go_at_call 275;refine(dM _ _).mono ?_;rintro e w3 ⟨rfl,hw⟩;obtain rfl:W0=w3:=hw.symm;rw[hI]) | fail)
 refine(ia p W0).mono ?_
 rintro e W1 ⟨rfl,g⟩
 rw[hD]
 have A1:=A0.keep g
 have G1:=ae G0 g
 clear c0 c1 c2 c3 c4 c5 c6 c7 g A0 G0
 obtain⟨c0,c1,c2,c3,c4,c5,c6,c7⟩:=A1.cells
 go_wp2_with fail
 refine(jW p W1).mono ?_
 rintro e W2 ⟨rfl,g⟩
 rw[hB]
 have A2:=A1.keep g
 have G2:=ae G1 g
 clear c0 c1 c2 c3 c4 c5 c6 c7 g A1 G1
 obtain⟨c0,c1,c2,c3,c4,c5,c6,c7⟩:=A2.cells
 go_wp2_with fail
 go_ret
 exact⟨rfl,G2⟩
theorem CT (p:Pt) (w:World) (h1:(wnt p.wn == 0)=false) (h2:(cls p.vb == 0)=false) (hI:isW p.wm=true) (h4:(cls p.vb == wnt p.wn)=true) (hD:decide (p.vb=11∧p.wm=9)=false) (hB:abt p.wn p.vb p.wm=true) (hC:ei p.vb p.ct=false):Calls Tryz.prog 237 #[pv p] w fun e w'=>e=.returned (.int .i64 2)∧w.grownBy w' none:=by
 unfold pv
 go_enter Tryz.func237,Tryz.ntmps237
 go_wp2_with fail
 go_region_held3 (fun w'=>w'.cell? ⟨w.heap.size,0,none⟩=some (.int .u8 p.wn)∧w'.cell? ⟨w.heap.size,1,none⟩=some (.int .u8 p.vb)) (first | exact⟨aa (ak _ _ _) 0,aa (ak _ _ _) 1⟩ | go_keep) (first | (go_at_call 273;refine(cj _ _).mono ?_;rintro e w3 ⟨rfl,rfl⟩) | (go_at_call 274;refine(bU _ _).mono ?_;rintro e w3 ⟨rfl,rfl⟩))
 obtain⟨W0,hW0,A0,G0⟩:=dE w p
 rw[←hW0]
 clear hW0
 obtain⟨c0,c1,c2,c3,c4,c5,c6,c7⟩:=A0.cells
 have h5:(cls p.vb != wnt p.wn)=false:=by simp[bne,h4]
 go_wp2_with (first | (go_at_call 275;refine(dM _ _).mono ?_;rintro e w3 ⟨rfl,hw⟩;obtain rfl:W0=w3:=hw.symm;rw[hI]) | fail)
 refine(ia p W0).mono ?_
 rintro e W1 ⟨rfl,g⟩
 rw[hD]
 have A1:=A0.keep g
 have G1:=ae G0 g
 clear c0 c1 c2 c3 c4 c5 c6 c7 g A0 G0
 obtain⟨c0,c1,c2,c3,c4,c5,c6,c7⟩:=A1.cells
 go_wp2_with fail
 refine(jW p W1).mono ?_
 rintro e W2 ⟨rfl,g⟩
 rw[hB]
 have A2:=A1.keep g
 have G2:=ae G1 g
 clear c0 c1 c2 c3 c4 c5 c6 c7 g A1 G1
 obtain⟨c0,c1,c2,c3,c4,c5,c6,c7⟩:=A2.cells
 go_wp2_with fail
 refine(kx p W2).mono ?_
 rintro e W3 ⟨rfl,g⟩
 rw[hC]
 have A3:=A2.keep g
 have G3:=ae G2 g
 clear c0 c1 c2 c3 c4 c5 c6 c7 g A2 G2
 obtain⟨c0,c1,c2,c3,c4,c5,c6,c7⟩:=A3.cells
 go_wp2_with fail
 go_ret
 exact⟨rfl,G3⟩
theorem DD (p:Pt) (w:World) (h1:(wnt p.wn == 0)=false) (h2:(cls p.vb == 0)=false) (hI:isW p.wm=true) (h4:(cls p.vb == wnt p.wn)=true) (hD:decide (p.vb=11∧p.wm=9)=false) (hB:abt p.wn p.vb p.wm=true) (hC:ei p.vb p.ct=true) (hK:rJ p=false):Calls Tryz.prog 237 #[pv p] w fun e w'=>e=.returned (.int .i64 2)∧w.grownBy w' none:=by
 unfold pv
 go_enter Tryz.func237,Tryz.ntmps237
 go_wp2_with fail
 go_region_held3 (fun w'=>w'.cell? ⟨w.heap.size,0,none⟩=some (.int .u8 p.wn)∧w'.cell? ⟨w.heap.size,1,none⟩=some (.int .u8 p.vb)) (first | exact⟨aa (ak _ _ _) 0,aa (ak _ _ _) 1⟩ | go_keep) (first | (go_at_call 273;refine(cj _ _).mono ?_;rintro e w3 ⟨rfl,rfl⟩) | (go_at_call 274;refine(bU _ _).mono ?_;rintro e w3 ⟨rfl,rfl⟩))
 obtain⟨W0,hW0,A0,G0⟩:=dE w p
 rw[←hW0]
 clear hW0
 obtain⟨c0,c1,c2,c3,c4,c5,c6,c7⟩:=A0.cells
 have h5:(cls p.vb != wnt p.wn)=false:=by simp[bne,h4]
 go_wp2_with (first | (go_at_call 275;refine(dM _ _).mono ?_;rintro e w3 ⟨rfl,hw⟩;obtain rfl:W0=w3:=hw.symm;rw[hI]) | fail)
 refine(ia p W0).mono ?_
 rintro e W1 ⟨rfl,g⟩
 rw[hD]
 have A1:=A0.keep g
 have G1:=ae G0 g
 clear c0 c1 c2 c3 c4 c5 c6 c7 g A0 G0
 obtain⟨c0,c1,c2,c3,c4,c5,c6,c7⟩:=A1.cells
 go_wp2_with fail
 refine(jW p W1).mono ?_
 rintro e W2 ⟨rfl,g⟩
 rw[hB]
 have A2:=A1.keep g
 have G2:=ae G1 g
 clear c0 c1 c2 c3 c4 c5 c6 c7 g A1 G1
 obtain⟨c0,c1,c2,c3,c4,c5,c6,c7⟩:=A2.cells
 go_wp2_with fail
 refine(kx p W2).mono ?_
 rintro e W3 ⟨rfl,g⟩
 rw[hC]
 have A3:=A2.keep g
 have G3:=ae G2 g
 clear c0 c1 c2 c3 c4 c5 c6 c7 g A2 G2
 obtain⟨c0,c1,c2,c3,c4,c5,c6,c7⟩:=A3.cells
 go_wp2_with fail
 refine(mZ p W3).mono ?_
 rintro e W4 ⟨rfl,g⟩
 rw[hK]
 have A4:=A3.keep g
 have G4:=ae G3 g
 clear c0 c1 c2 c3 c4 c5 c6 c7 g A3 G3
 obtain⟨c0,c1,c2,c3,c4,c5,c6,c7⟩:=A4.cells
 go_wp2_with fail
 go_ret
 exact⟨rfl,G4⟩
theorem DU (p:Pt) (w:World) (h1:(wnt p.wn == 0)=false) (h2:(cls p.vb == 0)=false) (hI:isW p.wm=true) (h4:(cls p.vb == wnt p.wn)=true) (hD:decide (p.vb=11∧p.wm=9)=false) (hB:abt p.wn p.vb p.wm=true) (hC:ei p.vb p.ct=true) (hK:rJ p=true) (hN:pN p=false):Calls Tryz.prog 237 #[pv p] w fun e w'=>e=.returned (.int .i64 4)∧w.grownBy w' none:=by
 unfold pv
 go_enter Tryz.func237,Tryz.ntmps237
 go_wp2_with fail
 go_region_held3 (fun w'=>w'.cell? ⟨w.heap.size,0,none⟩=some (.int .u8 p.wn)∧w'.cell? ⟨w.heap.size,1,none⟩=some (.int .u8 p.vb)) (first | exact⟨aa (ak _ _ _) 0,aa (ak _ _ _) 1⟩ | go_keep) (first | (go_at_call 273;refine(cj _ _).mono ?_;rintro e w3 ⟨rfl,rfl⟩) | (go_at_call 274;refine(bU _ _).mono ?_;rintro e w3 ⟨rfl,rfl⟩))
 obtain⟨W0,hW0,A0,G0⟩:=dE w p
 rw[←hW0]
 clear hW0
 obtain⟨c0,c1,c2,c3,c4,c5,c6,c7⟩:=A0.cells
 have h5:(cls p.vb != wnt p.wn)=false:=by simp[bne,h4]
 go_wp2_with (first | (go_at_call 275;refine(dM _ _).mono ?_;rintro e w3 ⟨rfl,hw⟩;obtain rfl:W0=w3:=hw.symm;rw[hI]) | fail)
 refine(ia p W0).mono ?_
 rintro e W1 ⟨rfl,g⟩
 rw[hD]
 have A1:=A0.keep g
 have G1:=ae G0 g
 clear c0 c1 c2 c3 c4 c5 c6 c7 g A0 G0
 obtain⟨c0,c1,c2,c3,c4,c5,c6,c7⟩:=A1.cells
 go_wp2_with fail
 refine(jW p W1).mono ?_
 rintro e W2 ⟨rfl,g⟩
 rw[hB]
 have A2:=A1.keep g
 have G2:=ae G1 g
 clear c0 c1 c2 c3 c4 c5 c6 c7 g A1 G1
 obtain⟨c0,c1,c2,c3,c4,c5,c6,c7⟩:=A2.cells
 go_wp2_with fail
 refine(kx p W2).mono ?_
 rintro e W3 ⟨rfl,g⟩
 rw[hC]
 have A3:=A2.keep g
 have G3:=ae G2 g
 clear c0 c1 c2 c3 c4 c5 c6 c7 g A2 G2
 obtain⟨c0,c1,c2,c3,c4,c5,c6,c7⟩:=A3.cells
 go_wp2_with fail
 refine(mZ p W3).mono ?_
 rintro e W4 ⟨rfl,g⟩
 rw[hK]
 have A4:=A3.keep g
 have G4:=ae G3 g
 clear c0 c1 c2 c3 c4 c5 c6 c7 g A3 G3
 obtain⟨c0,c1,c2,c3,c4,c5,c6,c7⟩:=A4.cells
 go_wp2_with fail
 refine(sy p W4).mono ?_
 rintro e W5 ⟨rfl,g⟩
 rw[hN]
 have A5:=A4.keep g
 have G5:=ae G4 g
 clear c0 c1 c2 c3 c4 c5 c6 c7 g A4 G4
 obtain⟨c0,c1,c2,c3,c4,c5,c6,c7⟩:=A5.cells
 go_wp2_with fail
 go_ret
 exact⟨rfl,G5⟩
theorem Da (p:Pt) (w:World) (h1:(wnt p.wn == 0)=false) (h2:(cls p.vb == 0)=false) (hI:isW p.wm=true) (h4:(cls p.vb == wnt p.wn)=true) (hD:decide (p.vb=11∧p.wm=9)=false) (hB:abt p.wn p.vb p.wm=true) (hC:ei p.vb p.ct=true) (hK:rJ p=true) (hN:pN p=true):Calls Tryz.prog 237 #[pv p] w fun e w'=>e=.returned (.int .i64 0)∧w.grownBy w' none:=by
 unfold pv
 go_enter Tryz.func237,Tryz.ntmps237
 go_wp2_with fail
 go_region_held3 (fun w'=>w'.cell? ⟨w.heap.size,0,none⟩=some (.int .u8 p.wn)∧w'.cell? ⟨w.heap.size,1,none⟩=some (.int .u8 p.vb)) (first | exact⟨aa (ak _ _ _) 0,aa (ak _ _ _) 1⟩ | go_keep) (first | (go_at_call 273;refine(cj _ _).mono ?_;rintro e w3 ⟨rfl,rfl⟩) | (go_at_call 274;refine(bU _ _).mono ?_;rintro e w3 ⟨rfl,rfl⟩))
 obtain⟨W0,hW0,A0,G0⟩:=dE w p
 rw[←hW0]
 clear hW0
 obtain⟨c0,c1,c2,c3,c4,c5,c6,c7⟩:=A0.cells
 have h5:(cls p.vb != wnt p.wn)=false:=by simp[bne,h4]
 go_wp2_with (first | (go_at_call 275;refine(dM _ _).mono ?_;rintro e w3 ⟨rfl,hw⟩;obtain rfl:W0=w3:=hw.symm;rw[hI]) | fail)
 refine(ia p W0).mono ?_
 rintro e W1 ⟨rfl,g⟩
 rw[hD]
 have A1:=A0.keep g
 have G1:=ae G0 g
 clear c0 c1 c2 c3 c4 c5 c6 c7 g A0 G0
 obtain⟨c0,c1,c2,c3,c4,c5,c6,c7⟩:=A1.cells
 go_wp2_with fail
 refine(jW p W1).mono ?_
 rintro e W2 ⟨rfl,g⟩
 rw[hB]
 have A2:=A1.keep g
 have G2:=ae G1 g
 clear c0 c1 c2 c3 c4 c5 c6 c7 g A1 G1
 obtain⟨c0,c1,c2,c3,c4,c5,c6,c7⟩:=A2.cells
 go_wp2_with fail
 refine(kx p W2).mono ?_
 rintro e W3 ⟨rfl,g⟩
 rw[hC]
 have A3:=A2.keep g
 have G3:=ae G2 g
 clear c0 c1 c2 c3 c4 c5 c6 c7 g A2 G2
 obtain⟨c0,c1,c2,c3,c4,c5,c6,c7⟩:=A3.cells
 go_wp2_with fail
 refine(mZ p W3).mono ?_
 rintro e W4 ⟨rfl,g⟩
 rw[hK]
 have A4:=A3.keep g
 have G4:=ae G3 g
 clear c0 c1 c2 c3 c4 c5 c6 c7 g A3 G3
 obtain⟨c0,c1,c2,c3,c4,c5,c6,c7⟩:=A4.cells
 go_wp2_with fail
 refine(sy p W4).mono ?_
 rintro e W5 ⟨rfl,g⟩
 rw[hN]
 have A5:=A4.keep g
 have G5:=ae G4 g
 clear c0 c1 c2 c3 c4 c5 c6 c7 g A4 G4
 obtain⟨c0,c1,c2,c3,c4,c5,c6,c7⟩:=A5.cells
 go_wp2_with fail
 go_ret
 exact⟨rfl,G5⟩
theorem l5 (p:Pt) (w:World):Calls Tryz.prog 237 #[pv p] w fun e w'=>e=.returned (.int .i64 (chk p))∧w.grownBy w' none:=by
 unfold chk
 by_cases h1:wnt p.wn=0
 ·rw[if_pos (Or.inl h1)]
  exact DQ p w (by simp[h1])
 ·by_cases h2:cls p.vb=0
  ·rw[if_pos (Or.inr (Or.inl h2))]
   exact CR p w (by simp[h1]) (by simp[h2])
  ·cases hI:isW p.wm with
   | false =>
    rw[if_pos (Or.inr (Or.inr rfl))]
    exact Dh p w (by simp[h1]) (by simp[h2]) hI
   | true =>
    rw[if_neg (by simp[h1,h2])]
    by_cases h4:cls p.vb=wnt p.wn
    ·by_cases hD:p.vb=11∧p.wm=9
     ·rw[if_pos (Or.inr hD)]
      exact DX p w (by simp[h1]) (by simp[h2]) hI (by simp[h4]) (Qy hD)
     ·rw[if_neg (fun e=>e.elim (fun x=>x h4) hD)]
      have hd:=Qx hD
      cases hB:abt p.wn p.vb p.wm with
      | false =>
       rw[if_pos rfl]
       exact CW p w (by simp[h1]) (by simp[h2]) hI (by simp[h4]) hd hB
      | true =>
       rw[if_neg (by decide)]
       cases hC:ei p.vb p.ct with
       | false =>
        rw[if_pos (Or.inl rfl)]
        exact CT p w (by simp[h1]) (by simp[h2]) hI (by simp[h4]) hd hB hC
       | true =>
        cases hK:rJ p with
        | false =>
         rw[if_pos (Or.inr rfl)]
         exact DD p w (by simp[h1]) (by simp[h2]) hI (by simp[h4]) hd hB hC hK
        | true =>
         rw[if_neg (by decide)]
         cases hN:pN p with
         | false =>
          rw[if_pos rfl]
          exact DU p w (by simp[h1]) (by simp[h2]) hI (by simp[h4]) hd hB hC hK hN
         | true =>
          rw[if_neg (by decide)]
          exact Da p w (by simp[h1]) (by simp[h2]) hI (by simp[h4]) hd hB hC hK hN
    ·rw[if_pos (Or.inl h4)]
     exact CI p w (by simp[h1]) (by simp[h2]) hI (by simpa using h4)
end Go.Proofs.YtjmepebbcnhalaaGreat
