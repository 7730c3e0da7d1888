import Derived.Test.YtjmepebbcnhalaaGreatW50
import Derived.Test.YtjmepebbcnhalaaGreatW39
import Derived.Test.YtjmepebbcnhalaaGreatWApartI
import Derived.Test.YtjmepebbcnhalaaGreatW34
import Derived.Test.YtjmepebbcnhalaaGreatWRyA
import Derived.Test.YtjmepebbcnhalaaGreatW24
import Derived.Test.YtjmepebbcnhalaaGreatW21
import Derived.Test.YtjmepebbcnhalaaGreatW44
import Derived.Test.YtjmepebbcnhalaaGreatW46
import Derived.Test.YtjmepebbcnhalaaGreatW33
import Derived.Test.YtjmepebbcnhalaaGreatW37
import Derived.BigQuiet
import Derived.Test.YtjmepebbcnhalaaGreatW36
import Derived.Test.YtjmepebbcnhalaaGreatW48
namespace Go.Proofs.YtjmepebbcnhalaaGreat
set_option maxRecDepth 100000
set_option maxHeartbeats 4000000
open Go.RowKit Go.Shelf
theorem xl {w:World} {a b:Value} {p q:Nat} {l:List Int} (ha:aQ w p a l) (hb:aQ w q b l):Calls Tryz.prog 79 #[a,b] w fun e w'=>e=.returned (.bool true)∧w.grownBy w' none:=by
 refine(L.same_ints a b l l w (L.Own.ints ha) (L.Own.ints hb)).mono ?_
 rintro e w' ⟨rfl,n,rfl⟩
 exact⟨by rw[decide_eq_true rfl],aD _ _ _⟩
structure wa (w:World) (nB:Nat) (vt vf vt' vf':Value) (r n:Int) (cd:Int→Hd×List Pt) (ts:List Th) (F:List Fe):Prop where
 pab:∀ Y s,w.grownBy Y none→Calls Tryz.prog 73 #[.pointer (some ⟨nB,0,none⟩),vt',vf',sdv s] Y (AbP (lkE r n cd ts F [s]) (abF r n cd ts F s) Y)
 rab:∀ Y s,w.grownBy Y none→Calls Tryz.prog 74 #[.pointer (some ⟨nB+1,0,none⟩),vt,vf,sdv s] Y (AbP (lkE r n cd ts F [s]) (abF r n cd ts F s) Y)
 pap:∀ Y s,w.grownBy Y none→Calls Tryz.prog 75 #[.pointer (some ⟨nB,0,none⟩),vt',vf',sdv s] Y (FPl (lkE r n cd ts F [s]) (apF r n cd ts F s) Y)
 rap:∀ Y s,w.grownBy Y none→Calls Tryz.prog 76 #[.pointer (some ⟨nB+1,0,none⟩),vt,vf,sdv s] Y (FPl (lkE r n cd ts F [s]) (apF r n cd ts F s) Y)
 pdp:∀ Y s o,w.grownBy Y none→Calls Tryz.prog 77 #[.pointer (some ⟨nB,0,none⟩),vt',vf',sdv s,sdv o] Y (DpP (lkE r n cd ts F [s,o]) (dpF r n cd ts F s o) Y)
 rdp:∀ Y s o,w.grownBy Y none→Calls Tryz.prog 78 #[.pointer (some ⟨nB+1,0,none⟩),vt,vf,sdv s,sdv o] Y (DpP (lkE r n cd ts F [s,o]) (dpF r n cd ts F s o) Y)
 fi:∀ s,(apF r n cd ts F s).length≤4200
theorem wa.keep {w w':World} {nB:Nat} {vt vf vt' vf':Value} {r n:Int} {cd:Int→Hd×List Pt} {ts:List Th} {F:List Fe} (h:wa w nB vt vf vt' vf' r n cd ts F) (g:w.grownBy w' none):wa w' nB vt vf vt' vf' r n cd ts F:=⟨fun Y s q=>h.pab Y s (aa g q),fun Y s q=>h.rab Y s (aa g q),fun Y s q=>h.pap Y s (aa g q),fun Y s q=>h.rap Y s (aa g q),fun Y s o q=>h.pdp Y s o (aa g q),fun Y s o q=>h.rdp Y s o (aa g q),h.fi⟩
def AkP (w:World) (e:Ending) (w':World):Prop:=∃ (g1 g2:Nat) (p:Option Addr) (c:Nat) (p':Option Addr) (c':Nat) (I:List Int) (P:List Fe),e=.returned (.tuple #[.slice (some ⟨g1,0,none⟩) 1 1,.slice (some ⟨g2,0,none⟩) 1 1,.bool true])∧w.grownBy w' none∧w'.heap[g1]?=some (.cells #[.slice p I.length c] 143 (0,0))∧w'.heap[g2]?=some (.cells #[.slice p' P.length c'] 27 (0,0))∧aQ w' w.heap.size (.slice p I.length c) I∧feR.Own 122 w' w.heap.size (.slice p' P.length c') P∧w.heap.size≤g1∧w.heap.size≤g2
structure AkS (w U:World) (n0 n1 n2 n3:Nat) (vt vf vt' vf':Value) (s o:Sd):Prop where
 t:nI U n0 vt vf
 u:nI U n1 vt' vf'
 s:SdB U n2 s
 o:SdB U n3 o
 gr:w.grownBy U none
theorem AkS.keep {w U V:World} {n0 n1 n2 n3:Nat} {vt vf vt' vf':Value} {s o:Sd} (h:AkS w U n0 n1 n2 n3 vt vf vt' vf' s o) (g:U.grownBy V none):AkS w V n0 n1 n2 n3 vt vf vt' vf' s o:=⟨ai g h.t (by simp),ai g h.u (by simp),ai g h.s (by simp),ai g h.o (by simp),aa h.gr g⟩
theorem gE {w:World} {g:Nat} {vt vf:Value} (h:nI w g vt vf):w.cell? ⟨g,0,none⟩=some vt∧w.cell? ⟨g,1,none⟩=some vf:=⟨(ae h 0).trans rfl,(ae h 1).trans rfl⟩
theorem xD (nB:Nat) (pt pf pt' pf':Option Addr) (a b a' b' m m' l l':Nat) (r n:Int) (cd:Int→Hd×List Pt) (ts:List Th) (F:List Fe) (s o:Sd) (w:World) (H:wa w nB (.slice pt m a) (.slice pf l b) (.slice pt' m' a') (.slice pf' l' b') r n cd ts F) (hI:∀ s,(abF r n cd ts F s).length≤2048):Calls Tryz.prog 20 #[.pointer (some ⟨nB,0,none⟩),.pointer (some ⟨nB+1,0,none⟩),.agg #[.slice pt m a,.slice pf l b],.agg #[.slice pt' m' a',.slice pf' l' b'],sdv s,sdv o] w (AkP w):=by
 obtain⟨W1,hW1⟩:∃ W,W=w.alloc (.cells #[.slice pt m a,.slice pf l b] 29):=⟨_,rfl⟩
 obtain⟨W2,hW2⟩:∃ W,W=W1.alloc (.cells #[.slice pt' m' a',.slice pf' l' b'] 29):=⟨_,rfl⟩
 obtain⟨W3,hW3⟩:∃ W,W=W2.alloc (.cells #[.int .i64 s.th,.int .i64 s.pl,.int .u8 s.wh.wn,.int .u8 s.wh.vb,.int .u8 s.wh.wm,.int .i64 s.wh.ct,.int .u8 s.wh.su,.int .u8 s.wh.tr,.int .u8 s.wh.mr,.string s.wh.nm] 64):=⟨_,rfl⟩
 obtain⟨W4,hW4⟩:∃ W,W=W3.alloc (.cells #[.int .i64 o.th,.int .i64 o.pl,.int .u8 o.wh.wn,.int .u8 o.wh.vb,.int .u8 o.wh.wm,.int .i64 o.wh.ct,.int .u8 o.wh.su,.int .u8 o.wh.tr,.int .u8 o.wh.mr,.string o.wh.nm] 64):=⟨_,rfl⟩
 have s1:W1.heap.size=w.heap.size+1:=by rw[hW1,World.size_alloc]
 have s2:W2.heap.size=w.heap.size+1+1:=by rw[hW2,World.size_alloc,s1]
 have s3:W3.heap.size=w.heap.size+1+1+1:=by rw[hW3,World.size_alloc,s2]
 have g1:w.grownBy W1 none:=by rw[hW1];exact World.grownBy_alloc _ _ none
 have g2:W1.grownBy W2 none:=by rw[hW2];exact World.grownBy_alloc _ _ none
 have g3:W2.grownBy W3 none:=by rw[hW3];exact World.grownBy_alloc _ _ none
 have g4:W3.grownBy W4 none:=by rw[hW4];exact World.grownBy_alloc _ _ none
 have HS:Hid (AkS w W4 w.heap.size (w.heap.size+1) (w.heap.size+1+1) (w.heap.size+1+1+1) (.slice pt m a) (.slice pf l b) (.slice pt' m' a') (.slice pf' l' b') s o):=by
  have t1:nI W1 w.heap.size (.slice pt m a) (.slice pf l b):=by rw[hW1];exact ak _ _ _
  have t2:nI W2 (w.heap.size+1) (.slice pt' m' a') (.slice pf' l' b'):=by rw[←s1,hW2];exact ak _ _ _
  have t3:SdB W3 (w.heap.size+1+1) s:=by rw[←s2,hW3];exact ak _ _ _
  have t4:SdB W4 (w.heap.size+1+1+1) o:=by rw[←s3,hW4];exact ak _ _ _
  exact⟨ai g4 (ai g3 (ai g2 t1 (by simp)) (by simp)) (by simp),ai g4 (ai g3 t2 (by simp)) (by simp),ai g4 t3 (by simp),t4,aa g1 (aa g2 (aa g3 g4))⟩
 have HH:Hid (wa w nB (.slice pt m a) (.slice pf l b) (.slice pt' m' a') (.slice pf' l' b') r n cd ts F∧∀ s,(abF r n cd ts F s).length≤2048):=⟨H,hI⟩
 unfold sdv
 clear H hI g1 g2 g3 g4
 go_enter Tryz.func20,Tryz.ntmps20
 go_upto_region 1 with fail
 rw[←hW1,←hW2,←hW3,←hW4]
 try simp only[s1,s2,s3]
 clear hW1 hW2 hW3 hW4 s1 s2 s3
 obtain⟨B,hB⟩:∃ B,B=w.heap.size:=⟨_,rfl⟩
 have HB:Hid (B=w.heap.size):=hB
 rw[←hB] at HS
 simp only[←hB]
 obtain⟨n1,hn1⟩:∃ x,x=B+1:=⟨_,rfl⟩
 obtain⟨n2,hn2⟩:∃ x,x=n1+1:=⟨_,rfl⟩
 obtain⟨n3,hn3⟩:∃ x,x=n2+1:=⟨_,rfl⟩
 rw[←hn1,←hn2,←hn3] at HS
 simp only[←hn1,←hn2,←hn3]
 clear hn1 hn2 hn3
 obtain⟨q1,hq1⟩:∃ q,q=lkE r n cd ts F [s]:=⟨_,rfl⟩
 obtain⟨q2,hq2⟩:∃ q,q=lkE r n cd ts F [s,o]:=⟨_,rfl⟩
 obtain⟨I,hI⟩:∃ I,I=abF r n cd ts F s:=⟨_,rfl⟩
 obtain⟨P,hP⟩:∃ P,P=apF r n cd ts F s:=⟨_,rfl⟩
 obtain⟨d,hd⟩:∃ d,d=dpF r n cd ts F s o:=⟨_,rfl⟩
 have HQ:Hid (q1=lkE r n cd ts F [s]∧q2=lkE r n cd ts F [s,o]∧I=abF r n cd ts F s∧P=apF r n cd ts F s∧d=dpF r n cd ts F s o):=⟨hq1,hq2,hI,hP,hd⟩
 have Hsm:Hid (I.length≤2048∧P.length≤4200):=⟨by rw[hI];exact HH.out.2 s,by rw[hP];exact HH.out.1.fi s⟩
 clear hq1 hq2 hI hP hd hB
 -- About,twice
 have C1:=HH.out.1.pab W4 s HS.out.gr
 rw[←HQ.out.1,←HQ.out.2.2.1] at C1
 unfold AbP sdv at C1
 obtain⟨c0,c1⟩:=gE HS.out.u
 obtain⟨x0,x1,x2,x3,x4,x5,x6,x7,x8,x9⟩:=bl HS.out.s
 go_wp2_with fail
 refine C1.mono ?_
 rintro e1 w1 ⟨v1,rfl,g1,o1⟩
 obtain⟨p1,k1,rfl,-⟩:=bz o1
 have HS1:Hid (AkS w w1 B n1 n2 n3 (.slice pt m a) (.slice pf l b) (.slice pt' m' a') (.slice pf' l' b') s o):=HS.out.keep g1
 have HI1:Hid (aQ w1 B (.slice p1 I.length k1) I):=aT o1 (by rw[HB.out];exact HS.out.gr.size)
 clear C1 g1 o1 HS c0 c1 x0 x1 x2 x3 x4 x5 x6 x7 x8 x9
 have C2:=HH.out.1.rab w1 s HS1.out.gr
 rw[←HQ.out.1,←HQ.out.2.2.1] at C2
 unfold AbP sdv at C2
 obtain⟨c0,c1⟩:=gE HS1.out.t
 obtain⟨x0,x1,x2,x3,x4,x5,x6,x7,x8,x9⟩:=bl HS1.out.s
 go_wp2_with fail
 refine C2.mono ?_
 rintro e2 w2 ⟨v2,rfl,g2,o2⟩
 obtain⟨p2,k2,rfl,-⟩:=bz o2
 have HS2:Hid (AkS w w2 B n1 n2 n3 (.slice pt m a) (.slice pf l b) (.slice pt' m' a') (.slice pf' l' b') s o):=HS1.out.keep g2
 have HI2:Hid (aQ w2 B (.slice p1 I.length k1) I∧aQ w2 0 (.slice p2 I.length k2) I):=⟨ar HI1.out g2,aT o2 (Nat.zero_le _)⟩
 clear C2 g2 o2 HS1 HI1 c0 c1 x0 x1 x2 x3 x4 x5 x6 x7 x8 x9
 -- Apply,twice
 have C3:=HH.out.1.pap w2 s HS2.out.gr
 rw[←HQ.out.1,←HQ.out.2.2.2.1] at C3
 unfold FPl sdv at C3
 obtain⟨c0,c1⟩:=gE HS2.out.u
 obtain⟨x0,x1,x2,x3,x4,x5,x6,x7,x8,x9⟩:=bl HS2.out.s
 go_wp2_with fail
 refine C3.mono ?_
 rintro e3 w3 ⟨v3,rfl,g3,o3⟩
 obtain⟨p3,k3,rfl⟩:=aB.Own.form o3
 have HS3:Hid (AkS w w3 B n1 n2 n3 (.slice pt m a) (.slice pf l b) (.slice pt' m' a') (.slice pf' l' b') s o):=HS2.out.keep g3
 have HI3:Hid (aQ w3 B (.slice p1 I.length k1) I∧aQ w3 0 (.slice p2 I.length k2) I∧feR.Own 122 w3 B (.slice p3 P.length k3) P):=⟨ar HI2.out.1 g3,ar HI2.out.2 g3,aT o3 (by rw[HB.out];exact HS2.out.gr.size)⟩
 clear C3 g3 o3 HS2 HI2 c0 c1 x0 x1 x2 x3 x4 x5 x6 x7 x8 x9
 have C4:=HH.out.1.rap w3 s HS3.out.gr
 rw[←HQ.out.1,←HQ.out.2.2.2.1] at C4
 unfold FPl sdv at C4
 obtain⟨c0,c1⟩:=gE HS3.out.t
 obtain⟨x0,x1,x2,x3,x4,x5,x6,x7,x8,x9⟩:=bl HS3.out.s
 go_wp2_with fail
 refine C4.mono ?_
 rintro e4 w4 ⟨v4,rfl,g4,o4⟩
 obtain⟨p4,k4,rfl⟩:=aB.Own.form o4
 have HS4:Hid (AkS w w4 B n1 n2 n3 (.slice pt m a) (.slice pf l b) (.slice pt' m' a') (.slice pf' l' b') s o):=HS3.out.keep g4
 have HI4:Hid (aQ w4 B (.slice p1 I.length k1) I∧aQ w4 0 (.slice p2 I.length k2) I∧feR.Own 122 w4 B (.slice p3 P.length k3) P∧feR.Own 122 w4 0 (.slice p4 P.length k4) P):=⟨ar HI3.out.1 g4,ar HI3.out.2.1 g4,ar HI3.out.2.2 g4,aT o4 (Nat.zero_le _)⟩
 clear C4 g4 o4 HS3 HI3 c0 c1 x0 x1 x2 x3 x4 x5 x6 x7 x8 x9
 -- Depends,twice
 have C5:=HH.out.1.pdp w4 s o HS4.out.gr
 rw[←HQ.out.2.1,←HQ.out.2.2.2.2] at C5
 unfold DpP sdv at C5
 obtain⟨c0,c1⟩:=gE HS4.out.u
 obtain⟨x0,x1,x2,x3,x4,x5,x6,x7,x8,x9⟩:=bl HS4.out.s
 obtain⟨y0,y1,y2,y3,y4,y5,y6,y7,y8,y9⟩:=bl HS4.out.o
 go_wp2_with fail
 refine C5.mono ?_
 rintro e5 w5 ⟨rfl,g5⟩
 have HS5:Hid (AkS w w5 B n1 n2 n3 (.slice pt m a) (.slice pf l b) (.slice pt' m' a') (.slice pf' l' b') s o):=HS4.out.keep g5
 have HI5:Hid (aQ w5 B (.slice p1 I.length k1) I∧aQ w5 0 (.slice p2 I.length k2) I∧feR.Own 122 w5 B (.slice p3 P.length k3) P∧feR.Own 122 w5 0 (.slice p4 P.length k4) P):=⟨ar HI4.out.1 g5,ar HI4.out.2.1 g5,ar HI4.out.2.2.1 g5,ar HI4.out.2.2.2 g5⟩
 clear C5 g5 HS4 HI4 c0 c1 x0 x1 x2 x3 x4 x5 x6 x7 x8 x9 y0 y1 y2 y3 y4 y5 y6 y7 y8 y9
 have C6:=HH.out.1.rdp w5 s o HS5.out.gr
 rw[←HQ.out.2.1,←HQ.out.2.2.2.2] at C6
 unfold DpP sdv at C6
 obtain⟨c0,c1⟩:=gE HS5.out.t
 obtain⟨x0,x1,x2,x3,x4,x5,x6,x7,x8,x9⟩:=bl HS5.out.s
 obtain⟨y0,y1,y2,y3,y4,y5,y6,y7,y8,y9⟩:=bl HS5.out.o
 go_wp2_with fail
 refine C6.mono ?_
 rintro e6 w6 ⟨rfl,g6⟩
 have HI6:Hid (aQ w6 B (.slice p1 I.length k1) I∧aQ w6 0 (.slice p2 I.length k2) I∧feR.Own 122 w6 B (.slice p3 P.length k3) P∧feR.Own 122 w6 0 (.slice p4 P.length k4) P∧w.grownBy w6 none):=⟨ar HI5.out.1 g6,ar HI5.out.2.1 g6,ar HI5.out.2.2.1 g6,ar HI5.out.2.2.2 g6,aa HS5.out.gr g6⟩
 clear C6 g6 HS5 HI5 c0 c1 x0 x1 x2 x3 x4 x5 x6 x7 x8 x9 y0 y1 y2 y3 y4 y5 y6 y7 y8 y9 HQ HH
 have e1:(q1 == q1)=true:=by simp
 have e2:(q2 == q2)=true:=by simp
 have e3:(d == d)=true:=by simp
 have C7:=xl HI6.out.1 HI6.out.2.1
 go_wp2_with fail
 refine C7.mono ?_
 rintro e7 w7 ⟨rfl,g7⟩
 have HI7:Hid (aQ w7 B (.slice p1 I.length k1) I∧feR.Own 122 w7 B (.slice p3 P.length k3) P∧feR.Own 122 w7 0 (.slice p4 P.length k4) P∧w.grownBy w7 none):=⟨ar HI6.out.1 g7,ar HI6.out.2.2.1 g7,ar HI6.out.2.2.2.1 g7,aa HI6.out.2.2.2.2 g7⟩
 clear C7 g7 HI6
 have C8:=jz (.slice p3 P.length k3) (.slice p4 P.length k4) P w7 (aB.Own.at HI7.out.2.1) (aB.Own.at HI7.out.2.2.1) (by have:=Hsm.out.2;unfold aZ;omega)
 go_wp2_with fail
 refine C8.mono ?_
 rintro e8 w8 ⟨rfl,g8⟩
 have HI8:Hid (aQ w8 B (.slice p1 I.length k1) I∧feR.Own 122 w8 B (.slice p3 P.length k3) P∧w.grownBy w8 none):=⟨ar HI7.out.1 g8,ar HI7.out.2.1 g8,aa HI7.out.2.2.2 g8⟩
 clear C8 g8 HI7 e1 e2 e3
 obtain⟨V,hV⟩:∃ V,V=(w8.alloc (.cells #[.slice p1 I.length k1] 143)).alloc (.cells #[.slice p3 P.length k3] 27):=⟨_,rfl⟩
 have HV:Hid (w8.grownBy V none∧V.heap[w8.heap.size]?=some (.cells #[.slice p1 I.length k1] 143 (0,0))∧V.heap[w8.heap.size+1]?=some (.cells #[.slice p3 P.length k3] 27 (0,0))):=by
  rw[hV]
  exact⟨am (World.grownBy_alloc _ _ none) _,jj _ _ _ _ _,aL _ _ _ _⟩
 go_wp2_with fail
 rw[←hV]
 refine bodyPost_ret (v:=.tuple #[.slice (some ⟨w8.heap.size,0,none⟩) 1 1,.slice (some ⟨w8.heap.size+1,0,none⟩) 1 1,.bool true]) (by simp[results,Tryz.results20,go_sem]) rfl ⟨_,_,p1,k1,p3,k3,I,P,rfl,aa HI8.out.2.2 HV.out.1,HV.out.2.1,HV.out.2.2,by rw[←HB.out];exact ar HI8.out.1 HV.out.1,by rw[←HB.out];exact ar HI8.out.2.1 HV.out.1,HI8.out.2.2.size,Nat.le_succ_of_le HI8.out.2.2.size⟩
def kU:aB Int:=⟨1,fun z=>[.int .i64 z],fun _=>rfl,fun x v h=>by rw[List.mem_singleton.1 h];rfl,by decide⟩
theorem uY:∀ l:List Int,kU.cs l=ints l
 | []=>rfl
 | x :: l=>congrArg (Value.int .i64 x :: ·) (uY l)
theorem yk {w:World} {b:Nat} {v:Value} {l:List Int}:kU.Own 3 w b v l↔w.ownsRow b 3 1 v l.length (ints l):=by
 unfold aB.Own
 rw[uY]
 exact Iff.rfl
theorem kQ {w:World} {base:Nat} {v:Value} {l:List Int} (h:kU.Own 3 w base v l):(jA v).v=v∧(jA v).okI w∧(jA v).a=v.ownBlock:=by
 unfold aB.Own at h
 rcases h.2 with ⟨e,h0⟩ | ⟨g,cap,cur,e,hb,hh,hn,hm,hs,ht⟩
 ·rw[e]
  exact⟨rfl,Or.inl ⟨rfl,rfl,rfl⟩,rfl⟩
 ·rw[e]
  exact⟨rfl,Or.inr ⟨g,rfl,hn,hm,cur,hh,by rw[hs];exact Nat.mul_one _⟩,rfl⟩
theorem ug {w0 w:World} {g c n:Nat} {Q:List (Nat×Value×List Int)} (g0:w0.grownBy w none) (h:Rws kU 3 w Q) (hb:∀ a∈Q,w0.heap.size≤a.1) (hn:Q.length=n) (h0:0<n) (h3:n≤100) (hA:∀ (j:Nat) a,Q.reverse[j]?=some a→w.cell? ⟨g,j,none⟩=some a.2.1):Calls Tryz.prog 24 #[.slice (some ⟨g,0,none⟩) n c] w fun e w'=>e=.returned (.bool true)∧w0.grownBy w' none∧∀ {base e size n:Nat} {v:Value} {xs:List Value},(3:TypeId)≠e→w.ownsRow base e size v n xs→w'.ownsRow base e size v n xs:=by
 subst hn
 obtain⟨P,hP⟩:∃ P,P=Q.reverse:=⟨_,rfl⟩
 have hm:∀ a,a∈P↔a∈Q:=fun a=>by rw[hP,List.mem_reverse]
 have hp:P.Pairwise fun a b=>∀ x,a.2.1.ownBlock=some x→x<b.1:=by rw[hP,List.pairwise_reverse];exact h.ap
 obtain⟨T,hT⟩:∃ T,T=P.map fun a=>jA a.2.1:=⟨_,rfl⟩
 have hl:Q.length=T.length:=by rw[hT,List.length_map,hP,List.length_reverse]
 rw[←hP] at hA
 rw[hl] at h0 h3 ⊢
 have key:∀ (j:Nat) x,T[j]?=some x→∃ a,P[j]?=some a∧a∈Q∧x=jA a.2.1:=fun j x hx=>by
  rw[hT,List.getElem?_map] at hx
  cases e:P[j]? with
  | none=>rw[e] at hx;cases hx
  | some a=>rw[e] at hx;exact⟨a,rfl,(hm a).1 (List.mem_of_getElem? e),(Option.some.inj hx).symm⟩
 clear hT hl hP
 have dif:∀ (i j:Nat) (x y:Lst) (t:Nat),i<j→T[i]?=some x→T[j]?=some y→x.a=some t→y.a=some t→False:=fun i j x y t hij hi hj hx hy=>by
  obtain⟨a,ea,ma,rfl⟩:=key i x hi
  obtain⟨b,eb,mb,rfl⟩:=key j y hj
  have q1:=(List.getElem?_eq_some_iff.1 ea)
  have q2:=(List.getElem?_eq_some_iff.1 eb)
  have z:=List.pairwise_iff_getElem.1 hp i j q1.1 q2.1 hij t (by rw[q1.2,←(kQ (h.all a ma)).2.2];exact hx)
  rw[q2.2] at z
  have u:=((h.all b mb).lt t (by rw[←(kQ (h.all b mb)).2.2];exact hy)).1
  omega
 have C:=sR g c T w h0 h3 (fun j x hx=>by
  obtain⟨a,ea,ma,rfl⟩:=key j x hx
  rw[hA j a ea,(kQ (h.all a ma)).1]) (fun x hx=>by
  obtain⟨j,hj⟩:=List.getElem?_of_mem hx
  obtain⟨a,ea,ma,rfl⟩:=key j x hj
  exact(kQ (h.all a ma)).2.1) (fun i j x y t hi hj hx hy=>by
  rcases Nat.lt_trichotomy i j with z | z | z
  ·exact(dif i j x y t z hi hj hx hy).elim
  ·exact z
  ·exact(dif j i y x t z hj hi hy hx).elim)
 refine C.mono fun e w' q=>⟨q.1,Kpt.new g0 q.2 (fun t ht=>?_),fun hne ho=>pG q.2 (fun t ht=>?_) hne ho⟩
 ·unfold aU at ht
  obtain⟨x,hx,e⟩:=List.mem_filterMap.1 ht
  obtain⟨j,hj⟩:=List.getElem?_of_mem hx
  obtain⟨a,ea,ma,rfl⟩:=key j x hj
  have u:=((h.all a ma).lt t (by rw[←(kQ (h.all a ma)).2.2];exact e)).1
  have y:=hb a ma
  omega
 ·unfold aU at ht
  obtain⟨x,hx,e⟩:=List.mem_filterMap.1 ht
  obtain⟨j,hj⟩:=List.getElem?_of_mem hx
  obtain⟨a,ea,ma,rfl⟩:=key j x hj
  rcases (kQ (h.all a ma)).2.1 with ⟨q1,_⟩ | ⟨g',q1,_,_,cs,q2,_⟩
  ·rw[q1] at e;cases e
  ·rw[q1] at e
   cases e
   exact⟨cs,q2⟩
theorem tY (p:Option Addr) (c:Nat) (w:World):Calls Tryz.prog 24 #[.slice p 0 c] w fun e w'=>e=.returned (.bool true)∧w.grownBy w' none:=by
 go_enter Tryz.func24,Tryz.ntmps24
 go_wp2_with fail
 go_loopw [3,4] (fun v i wr=>v=.slice none 0 0∧i=.int .i64 0∧w.grownBy wr none) (fun _ _ _=>0)
 case atStart=>exact⟨rfl,rfl,ay _ _⟩
 case round =>
  obtain⟨rfl,rfl,G⟩:=hrel
  go_wp2_with fail
  go_loopw [5] (fun i wq=>i=.int .i64 0∧w.grownBy wq none) (fun _ _=>0)
  case atStart=>exact⟨rfl,G⟩
  case round =>
   clear G
   obtain⟨rfl,G⟩:=hrel
   go_wp2_with fail
   go_loopw [7] (fun i wq=>i=.int .i64 0∧w.grownBy wq none) (fun _ _=>0)
   case atStart=>exact⟨rfl,G⟩
   case round =>
    clear G
    obtain⟨rfl,G⟩:=hrel
    go_wp2_with fail
    go_ret
    exact⟨rfl,G⟩
abbrev Sxc:=Option Addr×Nat×Nat
def sxv (x:Sxc):Value:=.slice x.1 x.2.1 x.2.2
def slR:aB Sxc:=⟨1,fun x=>[sxv x],fun _=>rfl,fun x v h=>by rw[List.mem_singleton.1 h];rfl,by decide⟩
theorem uR:∀ (l:List Sxc) (j:Nat) (x:Sxc),l[j]?=some x→(slR.cs l)[j]?=some (sxv x)
 | [],j,x,h=>by simp at h
 | y :: l,0,x,h=>by simp at h;subst h;rfl
 | y :: l,j+1,x,h=>uR l j x (by simpa using h)
def toQ {α:Type} (a:Nat×Sxc×List α):Nat×Value×List α:=(a.1,sxv a.2.1,a.2.2)
structure Bx {α:Type} (R:aB α) (T TE:TypeId) (U:World) (b:Nat) (v:Value) (C:List (Nat×Sxc×List α)):Prop where
 r:Rws R T U (C.map toQ)
 o:slR.Own TE U b v (C.map fun a=>a.2.1).reverse
 lo:∀ a∈C,b≤a.1
theorem Bx.keep {α:Type} {R:aB α} {T TE:TypeId} {U V:World} {b:Nat} {v:Value} {C:List (Nat×Sxc×List α)} (h:Bx R T TE U b v C) (g:U.grownBy V none):Bx R T TE V b v C:=⟨h.r.keep g,ar h.o g,h.lo⟩
theorem Bx.form {α:Type} {R:aB α} {T TE:TypeId} {U:World} {b:Nat} {v:Value} {C:List (Nat×Sxc×List α)} (h:Bx R T TE U b v C):∃ p c,v=.slice p C.length c:=by
 obtain⟨p,c,e⟩:=aB.Own.form h.o
 rw[List.length_reverse,List.length_map] at e
 exact⟨p,c,e⟩
theorem Bx.past {α:Type} {R:aB α} {T TE:TypeId} {U V:World} {b:Nat} {v:Value} {C:List (Nat×Sxc×List α)} (h:Bx R T TE U b v C) {b' E n k:Nat} {v':Value} {xs:List Value} (o:U.ownsRow b' E k v' n xs) (g:U.grownBy V v'.ownBlock) (h1:E≠T) (h2:E≠TE):Bx R T TE V b v C:=⟨⟨fun a ha=>bw (h.r.all a ha) o h1 g,h.r.ap⟩,bw h.o o h2 g,h.lo⟩
theorem Bx.more {α:Type} {R:aB α} {T TE:TypeId} {U V W:World} {b:Nat} {v v':Value} {C:List (Nat×Sxc×List α)} {x:Sxc} {l:List α} (h:Bx R T TE U b v C) (g:U.grownBy V none) (o:R.Own T V U.heap.size (sxv x) l) (hb:b≤U.heap.size) (hne:TE≠T) (g2:V.grownBy W v.ownBlock) (o2:W.ownsRow b TE 1 v' (C.length+1) (slR.cs (C.map fun a=>a.2.1).reverse++[sxv x])):Bx R T TE W b v' ((U.heap.size,x,l) :: C):=by
 have ho:V.ownsRow b TE 1 v (C.map fun a=>a.2.1).reverse.length (slR.cs (C.map fun a=>a.2.1).reverse):=ar h.o g
 have hr:=h.r.cons g o
 refine⟨⟨fun a ha=>bw (hr.all a ha) ho hne g2,hr.ap⟩,?_,fun a ha=>?_⟩
 ·unfold aB.Own
  rw[List.map_cons,List.reverse_cons,slR.app,List.length_append,List.length_reverse,List.length_map]
  exact o2
 ·rcases List.mem_cons.1 ha with e | e
  ·rw[e];exact hb
  ·exact h.lo a e
theorem Bx.cells {α:Type} {R:aB α} {T TE:TypeId} {U:World} {b g n c:Nat} {C:List (Nat×Sxc×List α)} (h:Bx R T TE U b (.slice (some ⟨g,0,none⟩) n c) C) (h0:0<C.length):∀ (j:Nat) a,(C.map toQ).reverse[j]?=some a→U.cell? ⟨g,j,none⟩=some a.2.1:=fun j a ha=>by
 obtain⟨g',c',e,-,-,-,-,hc⟩:=cc h.o (by rw[List.length_reverse,List.length_map];exact h0)
 cases e
 have hl:=(List.getElem?_eq_some_iff.1 ha).1
 rw[List.length_reverse,List.length_map] at hl
 rw[(hc j (by rw[List.length_reverse,List.length_map];show j<_*1;omega)).1]
 rw[←List.map_reverse,List.getElem?_map] at ha
 cases q:C.reverse[j]? with
 | none=>rw[q] at ha;cases ha
 | some y =>
  rw[q] at ha
  cases ha
  exact uR _ j y.2.1 (by rw[←List.map_reverse,List.getElem?_map,q];rfl)
theorem Rws.other {α:Type} {R:aB α} {T:TypeId} {U V:World} {Q:List (Nat×Value×List α)} (h:Rws R T U Q) {b' E n k:Nat} {v':Value} {xs:List Value} (o:U.ownsRow b' E k v' n xs) (hne:E≠T) (g:U.grownBy V v'.ownBlock):Rws R T V Q:=⟨fun a ha=>bw (h.all a ha) o hne g,h.ap⟩
theorem Bx.more2 {α:Type} {R:aB α} {T TE:TypeId} {U V V2 W:World} {b:Nat} {v v':Value} {C:List (Nat×Sxc×List α)} {x:Sxc} {l:List α} (h:Bx R T TE U b v C) (g:U.grownBy V none) (o:R.Own T V U.heap.size (sxv x) l) (hb:b≤U.heap.size) (hne:TE≠T) {b' E n k:Nat} {v2:Value} {xs:List Value} (oe:V.ownsRow b' E k v2 n xs) (ge:V.grownBy V2 v2.ownBlock) (h1:E≠T) (h2:E≠TE) (g2:V2.grownBy W v.ownBlock) (o2:W.ownsRow b TE 1 v' (C.length+1) (slR.cs (C.map fun a=>a.2.1).reverse++[sxv x])):Bx R T TE W b v' ((U.heap.size,x,l) :: C):=by
 have ho:V2.ownsRow b TE 1 v (C.map fun a=>a.2.1).reverse.length (slR.cs (C.map fun a=>a.2.1).reverse):=bw (ar h.o g) oe h2 ge
 have hr:=(h.r.cons g o).other oe h1 ge
 refine⟨hr.other ho hne g2,?_,fun a ha=>?_⟩
 ·unfold aB.Own
  rw[List.map_cons,List.reverse_cons,slR.app,List.length_append,List.length_reverse,List.length_map]
  exact o2
 ·rcases List.mem_cons.1 ha with e | e
  ·rw[e];exact hb
  ·exact h.lo a e
theorem Bx.row {α:Type} {R:aB α} {T TE:TypeId} {U:World} {b:Nat} {v:Value} {C:List (Nat×Sxc×List α)} (h:Bx R T TE U b v C):U.ownsRow b TE 1 v C.length (slR.cs (C.map fun a=>a.2.1).reverse):=by
 have o:=h.o
 unfold aB.Own at o
 rw[List.length_reverse,List.length_map] at o
 exact o
theorem vk {U:World} {g:Nat} {TE:TypeId} {cs:Array Value} (x:List Sxc) (h:U.heap[g]?=some (.cells cs TE (0,0))) (hcs:cs.toList=slR.cs x) (hl:x.length≤maxLen):slR.Own TE U g (.slice (some ⟨g,0,none⟩) x.length x.length) x :=
 ⟨slR.len x,Or.inr ⟨g,x.length,cs,rfl,Nat.le_refl _,h,Nat.le_refl _,hl,by rw[←Array.length_toList,hcs,slR.len] <;> rfl,by rw[hcs,List.take_of_length_le (by rw[slR.len];exact Nat.le_refl _)]⟩⟩
theorem Bx.via {α:Type} {R:aB α} {T TE:TypeId} {U V:World} {b:Nat} {v:Value} {C:List (Nat×Sxc×List α)} {E:TypeId} (h:Bx R T TE U b v C) (k:∀ {base e size n:Nat} {v:Value} {xs:List Value},E≠e→U.ownsRow base e size v n xs→V.ownsRow base e size v n xs) (h1:E≠T) (h2:E≠TE):Bx R T TE V b v C:=⟨⟨fun a ha=>k h1 (h.r.all a ha),h.r.ap⟩,k h2 h.o,h.lo⟩
theorem Rws.via {α:Type} {R:aB α} {T:TypeId} {U V:World} {Q:List (Nat×Value×List α)} {E:TypeId} (h:Rws R T U Q) (k:∀ {base e size n:Nat} {v:Value} {xs:List Value},E≠e→U.ownsRow base e size v n xs→V.ownsRow base e size v n xs) (h1:E≠T):Rws R T V Q:=⟨fun a ha=>k h1 (h.all a ha),h.ap⟩
theorem Bx.slc {α:Type} {R:aB α} {T TE:TypeId} {U:World} {b:Nat} {v:Value} {C:List (Nat×Sxc×List α)} (h:Bx R T TE U b v C) (h0:0<C.length):∃ g c,v=.slice (some ⟨g,0,none⟩) C.length c:=by
 obtain⟨g,c,e,-⟩:=cc h.row h0
 exact⟨g,c,e⟩
theorem uw {w0 U:World} {TE:TypeId} {b:Nat} {p:Option Addr} {c:Nat} {C:List (Nat×Sxc×List Int)} (g0:w0.grownBy U none) (h:Bx kU 3 TE U b (.slice p C.length c) C) (hb:w0.heap.size≤b) (h3:C.length≤100):Calls Tryz.prog 24 #[.slice p C.length c] U fun e w'=>e=.returned (.bool true)∧w0.grownBy w' none∧∀ {base e size n:Nat} {v:Value} {xs:List Value},(3:TypeId)≠e→U.ownsRow base e size v n xs→w'.ownsRow base e size v n xs:=by
 rcases Nat.eq_zero_or_pos C.length with h0 | h0
 ·rw[h0]
  exact(tY p c U).mono fun e w' q=>⟨q.1,aa g0 q.2,fun _ o=>ar o q.2⟩
 ·obtain⟨g,c',e⟩:=h.slc h0
  rw[e] at h ⊢
  exact ug (n:=C.length) g0 h.r (fun a ha=>by obtain⟨x,hx,rfl⟩:=List.mem_map.1 ha;exact Nat.le_trans hb (h.lo x hx)) (List.length_map _) h0 h3 (h.cells h0)
theorem uH {w0 U:World} {TE:TypeId} {b:Nat} {p:Option Addr} {c:Nat} {C:List (Nat×Sxc×List Fe)} (g0:w0.grownBy U none) (h:Bx feR 122 TE U b (.slice p C.length c) C) (hb:w0.heap.size≤b) (h0:0<C.length) (h3:C.length≤40):Calls Tryz.prog 25 #[.slice p C.length c] U fun e w'=>e=.returned (.bool true)∧w0.grownBy w' none∧∀ {base e size n:Nat} {v:Value} {xs:List Value},122≠e→U.ownsRow base e size v n xs→w'.ownsRow base e size v n xs:=by
 obtain⟨g,c',e⟩:=h.slc h0
 rw[e] at h ⊢
 exact uv (n:=C.length) g0 h.r (fun a ha=>by obtain⟨x,hx,rfl⟩:=List.mem_map.1 ha;exact Nat.le_trans hb (h.lo x hx)) (List.length_map _) h0 h3 (h.cells h0)












end Go.Proofs.YtjmepebbcnhalaaGreat
namespace Go.Proofs.YtjmepebbcnhalaaGreat
open Go.RowKit

open Go.Shelf






set_option maxRecDepth 100000
set_option maxHeartbeats 4000000
theorem mo (va vb:Value) (l:List Sd) (w:World) (A:sdR.At w va l) (B:sdR.At w vb l) (hsm:lim l.length):Calls Tryz.prog 17 #[va,vb] w fun e w'=>e=.returned (.bool true)∧w.grownBy w' none:=by
 obtain⟨pa,ca,rfl⟩:=A.form
 obtain⟨pb,cb,rfl⟩:=B.form
 have HA:Hid (sdR.At w (.slice pa l.length ca) l):=A
 have HB:Hid (sdR.At w (.slice pb l.length cb) l):=B
 have hnq:=qj
 have hgq:=pR
 clear A B
 go_enter Tryz.func17,Tryz.ntmps17
 go_wp2_with fail
 go_loopw [5] (fun x5 wr=>∃ k:Nat,k≤l.length∧x5=.int .i64 (k:Int)∧w.grownBy wr none) (fun x5 _=>l.length - (intOf x5).toNat)
 case atStart=>exact⟨0,Nat.zero_le _,rfl,ay _ _⟩
 case round =>
  obtain⟨k,hk,rfl,G⟩:=hrel
  obtain⟨U,hU⟩:∃ U,U=wr:=⟨_,rfl⟩
  subst hU
  have HG:Hid (w.grownBy U none):=G
  clear G
  rcases (show k<l.length∨k=l.length from by omega) with hkl | hke
  ·have k0:(0:Int)≤(k:Int):=by omega
   have k1:(k:Int)<(l.length:Int):=by omega
   obtain⟨ga,oa,xa,ea,Ra⟩:=dW (HA.out.keep HG.out) hkl
   cases ea
   obtain⟨gb,ob,xb,eb,Rb⟩:=dW (HB.out.keep HG.out) hkl
   cases eb
   obtain⟨x,hx⟩:∃ x,x=l[k]:=⟨_,rfl⟩
   rw[←hx] at Ra Rb
   obtain⟨a0,a1,a2,a3,a4,a5,a6,a7,a8,a9⟩:=bq Ra
   obtain⟨b0,b1,b2,b3,b4,b5,b6,b7,b8,b9⟩:=bq Rb
   clear hx Ra Rb
   go_upto_region 6 with fail
   go_quiet (fail)
   go_wp2_with fail
   go_roundw
   case rel=>exact⟨k+1,hkl,by first | rfl | (rw[hsm.wrap hkl];rfl),aa HG.out (aD _ _ _)⟩
   case measure=>first | exact au hkl | (rw[hsm.wrap hkl];exact au hkl)
  ·have k1:¬(k:Int)<(l.length:Int):=by omega
   clear hke
   go_wp2_with fail
   go_ret
   exact⟨rfl,HG.out⟩
theorem vG {w:World} {base:Nat} {v:Value} {l:List Sd} (h:dR w base v l):lim l.length:=by
 unfold dR aB.Own at h
 obtain⟨_,_,_,hm⟩:=bz h
 exact hm
end Go.Proofs.YtjmepebbcnhalaaGreat
