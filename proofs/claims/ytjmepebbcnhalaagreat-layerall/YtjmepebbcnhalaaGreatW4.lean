import Derived.Test.YtjmepebbcnhalaaGreatW3
import Derived.Deep.Cut
namespace Go.Proofs.YtjmepebbcnhalaaGreat
set_option maxRecDepth 100000
set_option maxHeartbeats 8000000
open Go.RowKit
theorem xJ {k:Int} (h:1≤k∧k≤3):((oG k).toList == [])=false:=by
 rcases (show k=1∨k=2∨k=3 by omega) with rfl | rfl | rfl <;> rw[Lib.toList_data] <;> rfl
theorem zm {k:Int} (h:¬(1≤k∧k≤3)):((oG k).toList == [])=true:=by
 have h1:¬k=1:=by omega
 have h2:¬k=2:=by omega
 have h3:¬k=3:=by omega
 rw[Lib.toList_data]
 simp[oG,h1,h2,h3]
theorem Cj {k:Int} (h:1≤k∧k≤6):sB k=true:=by simp[sB,h]
theorem D0 {k:Int} (h:¬(1≤k∧k≤6)):sB k=false:=by simp only[sB];by_cases a:1≤k <;> by_cases b:k≤6 <;> simp[a,b];exact absurd ⟨a,b⟩ h
theorem tF {k m:Int} (h:0≤k∧k≤m):wI k m=true:=by simp[wI,h]
theorem A7 {k m:Int} (h:¬(0≤k∧k≤m)):wI k m=false:=by simp only[wI];by_cases a:0≤k <;> by_cases b:k≤m <;> simp[a,b];exact absurd ⟨a,b⟩ h
def Two (c:Cd):Prop:=¬(1≤c.su∧c.su≤6)∨¬(1≤c.kd∧c.kd≤3)
def Thr (c:Cd):Prop:=¬(0≤c.co∧c.co≤10)∨¬(0≤c.po∧c.po≤99)∨¬(0≤c.he∧c.he≤99)
def Fit (c:Cd):Prop:=dN c=false∨bR c.tr=false∨(c.kd=2∧c.tk=true)
theorem oo {c:Cd} (h:aR c.nm.data.toList=false):fH c=4:=if_pos h
theorem jV {c:Cd} (n1:¬aR c.nm.data.toList=false) (h:Two c):fH c=8:=(if_neg n1).trans (if_pos h)
theorem i8 {c:Cd} (n1:¬aR c.nm.data.toList=false) (n2:¬Two c) (h:Thr c):fH c=2:=(if_neg n1).trans ((if_neg n2).trans (if_pos h))
theorem dv {c:Cd} (n1:¬aR c.nm.data.toList=false) (n2:¬Two c) (n3:¬Thr c) (h:Fit c):fH c=8:=(if_neg n1).trans ((if_neg n2).trans ((if_neg n3).trans (if_pos h)))
theorem gM {c:Cd} (n1:¬aR c.nm.data.toList=false) (n2:¬Two c) (n3:¬Thr c) (n4:¬Fit c) (h:4<c.ps.length):fH c=3:=(if_neg n1).trans ((if_neg n2).trans ((if_neg n3).trans ((if_neg n4).trans (if_pos h))))
theorem fK {c:Cd} (n1:¬aR c.nm.data.toList=false) (n2:¬Two c) (n3:¬Thr c) (n4:¬Fit c) (n5:¬4<c.ps.length):fH c=dQ c.kd c.ps:=(if_neg n1).trans ((if_neg n2).trans ((if_neg n3).trans ((if_neg n4).trans (if_neg n5))))
theorem tO (h:Hd) (v:Value) (ps:List Pt) (w:World) (hp:bY w v ps) (hm:aZ ps.length):Calls Tryz.prog 111 #[cv h v] w fun e w'=>e=.returned (.int .i64 (fH (h.with ps)))∧w.grownBy w' none:=by
 obtain⟨nm,su,kd,co,po,he,tr,tk⟩:=h
 have HP:Hid (bY w v ps):=hp
 obtain⟨a,c,rfl⟩:=hp.form
 clear hp
 obtain⟨C,hC⟩:∃ C,C=Hd.with ⟨nm,su,kd,co,po,he,tr,tk⟩ ps:=⟨_,rfl⟩
 rw[←hC]
 have E1:nm=C.nm:=by rw[hC];rfl
 have E2:su=C.su:=by rw[hC];rfl
 have E3:kd=C.kd:=by rw[hC];rfl
 have E4:co=C.co:=by rw[hC];rfl
 have E5:po=C.po:=by rw[hC];rfl
 have E6:he=C.he:=by rw[hC];rfl
 have E7:tr=C.tr:=by rw[hC];rfl
 have E8:tk=C.tk:=by rw[hC];rfl
 have E9:ps=C.ps:=by rw[hC];rfl
 have HC:Hid (C=Hd.with ⟨nm,su,kd,co,po,he,tr,tk⟩ ps):=hC
 have H1:Hid (nm=C.nm∧su=C.su∧kd=C.kd∧co=C.co∧po=C.po∧he=C.he∧tr=C.tr∧tk=C.tk∧ps=C.ps):=⟨E1,E2,E3,E4,E5,E6,E7,E8,E9⟩
 obtain⟨res,hres⟩:∃ res,fH C=res:=⟨_,rfl⟩
 have HR:Hid (fH C=res):=hres
 rw[hres]
 clear hC E1 E2 E3 E4 E5 E6 E7 E8 E9 hres
 unfold cv
 simp only
 go_enter Tryz.func111,Tryz.ntmps111
 go_wp2_with fail
 refine(tH nm _).mono ?_
 rintro e w9 ⟨rfl,rfl⟩
 cases h1:aR nm.data.toList with
 | false =>
  go_wp2
  go_ret
  exact⟨aK (by rw[←HR.out];exact(oo (by rw[←H1.out.1];exact h1)).symm),World.grownBy_alloc _ _ none⟩
 | true =>
  have n1:Hid (¬aR C.nm.data.toList=false):=by unfold Hid;rw[←H1.out.1,h1];simp
  clear h1
  go_wp2_with fail
  refine(vU su _).mono ?_
  rintro e w9 ⟨rfl,rfl⟩
  by_cases hs:1≤su∧su≤6
  case neg =>
   rw[D0 hs]
   have T:Hid (Two C):=Or.inl (by rw[←H1.out.2.1];exact hs)
   clear hs
   go_wp2
   go_ret
   exact⟨aK (by rw[←HR.out];exact(jV n1.out T.out).symm),World.grownBy_alloc _ _ none⟩
  rw[Cj hs]
  have HS:Hid (1≤C.su∧C.su≤6):=by unfold Hid;rw[←H1.out.2.1];exact hs
  clear hs
  go_wp2_with fail
  refine(xm kd _).mono ?_
  rintro e w9 ⟨rfl,rfl⟩
  by_cases hk:1≤kd∧kd≤3
  case neg =>
   have kn:=zm hk
   have T:Hid (Two C):=Or.inr (by rw[←H1.out.2.2.1];exact hk)
   clear hk
   go_wp2
   go_ret
   exact⟨aK (by rw[←HR.out];exact(jV n1.out T.out).symm),World.grownBy_alloc _ _ none⟩
  have kn:=xJ hk
  have n2:Hid (¬Two C):=by unfold Hid Two;simp only[not_or,Decidable.not_not];exact⟨HS.out,by rw[←H1.out.2.2.1];exact hk⟩
  clear hk HS
  go_wp2_with fail
  refine(iW co 10 _).mono ?_
  rintro e w9 ⟨rfl,rfl⟩
  by_cases hx:0≤co∧co≤10
  case neg =>
   rw[A7 hx]
   have T:Hid (Thr C):=Or.inl (by rw[←H1.out.2.2.2.1];exact hx)
   clear hx
   go_wp2
   go_ret
   exact⟨aK (by rw[←HR.out];exact(i8 n1.out n2.out T.out).symm),World.grownBy_alloc _ _ none⟩
  rw[tF hx]
  have Xco:Hid (0≤C.co∧C.co≤10):=by unfold Hid;rw[←H1.out.2.2.2.1];exact hx
  clear hx
  go_wp2_with fail
  refine(iW po 99 _).mono ?_
  rintro e w9 ⟨rfl,rfl⟩
  by_cases hx:0≤po∧po≤99
  case neg =>
   rw[A7 hx]
   have T:Hid (Thr C):=Or.inr (Or.inl (by rw[←H1.out.2.2.2.2.1];exact hx))
   clear hx
   go_wp2
   go_ret
   exact⟨aK (by rw[←HR.out];exact(i8 n1.out n2.out T.out).symm),World.grownBy_alloc _ _ none⟩
  rw[tF hx]
  have Xpo:Hid (0≤C.po∧C.po≤99):=by unfold Hid;rw[←H1.out.2.2.2.2.1];exact hx
  clear hx
  go_wp2_with fail
  refine(iW he 99 _).mono ?_
  rintro e w9 ⟨rfl,rfl⟩
  by_cases hx:0≤he∧he≤99
  case neg =>
   rw[A7 hx]
   have T:Hid (Thr C):=Or.inr (Or.inr (by rw[←H1.out.2.2.2.2.2.1];exact hx))
   clear hx
   go_wp2
   go_ret
   exact⟨aK (by rw[←HR.out];exact(i8 n1.out n2.out T.out).symm),World.grownBy_alloc _ _ none⟩
  rw[tF hx]
  have Xhe:Hid (0≤C.he∧C.he≤99):=by unfold Hid;rw[←H1.out.2.2.2.2.2.1];exact hx
  clear hx
  have n3:Hid (¬Thr C):=by unfold Hid Thr;simp only[not_or,Decidable.not_not];exact⟨Xco.out,Xpo.out,Xhe.out⟩
  clear Xco Xpo Xhe
  go_wp2_with fail
  refine(xN ⟨nm,su,kd,co,po,he,tr,tk⟩ _ _).mono ?_
  rintro e w1 ⟨rfl,g1⟩
  simp only
  have C1:Hid (CAt w1 w.heap.size ⟨nm,su,kd,co,po,he,tr,tk⟩ (.slice a ps.length c)):=CAt.keep (ak w (ccs ⟨nm,su,kd,co,po,he,tr,tk⟩ (.slice a ps.length c)) 111) g1
  have G1:Hid (w.grownBy w1 none):=aa (World.grownBy_alloc _ _ none) g1
  clear g1
  obtain⟨c0,c1,c2,c3,c4,c5,c6,c7,c8⟩:=C1.out.cells
  simp only at c0 c1 c2 c3 c4 c5 c6 c7 c8
  have F:Hid (dN C=fOk kd po he):=by unfold Hid;rw[yg,←H1.out.2.2.1,←H1.out.2.2.2.2.1,←H1.out.2.2.2.2.2.1]
  cases hf:fOk kd po he with
  | false =>
   have T:Hid (Fit C):=Or.inl (F.out.trans hf)
   go_wp2
   go_ret
   exact⟨aK (by rw[←HR.out];exact(dv n1.out n2.out n3.out T.out).symm),G1.out⟩
  | true =>
   have F1:Hid (¬dN C=false):=by unfold Hid;rw[F.out,hf];simp
   clear hf F
   go_wp2_with fail
   refine(fI tr _).mono ?_
   rintro e w9 ⟨rfl,h9⟩
   obtain rfl:w1=w9:=h9.symm
   cases ht:bR tr with
   | false =>
    have T:Hid (Fit C):=Or.inr (Or.inl (by rw[←H1.out.2.2.2.2.2.2.1];exact ht))
    go_wp2
    go_ret
    exact⟨aK (by rw[←HR.out];exact(dv n1.out n2.out n3.out T.out).symm),G1.out⟩
   | true =>
    have F2:Hid (¬bR C.tr=false):=by unfold Hid;rw[←H1.out.2.2.2.2.2.2.1,ht];simp
    clear ht
    by_cases hk2:kd=2
    ·cases htk:tk with
     | true =>
      have T:Hid (Fit C):=Or.inr (Or.inr ⟨by rw[←H1.out.2.2.1];exact hk2,by rw[←H1.out.2.2.2.2.2.2.2.1];exact htk⟩)
      rw[htk] at c7
      rw[hk2] at c2
      go_wp2
      go_ret
      exact⟨aK (by rw[←HR.out];exact(dv n1.out n2.out n3.out T.out).symm),G1.out⟩
     | false =>
      have n4:Hid (¬Fit C):=by
       unfold Hid Fit
       rintro (h | h | ⟨_,h⟩)
       ·exact F1.out h
       ·exact F2.out h
       ·rw[←H1.out.2.2.2.2.2.2.2.1,htk] at h
        cases h
      rw[htk] at c7
      rw[hk2] at c2
      clear F1 F2
      by_cases hl:4<ps.length
      ·have hl':(4:Int)<(ps.length:Int):=by omega
       have T:Hid (4<C.ps.length):=by unfold Hid;rw[←H1.out.2.2.2.2.2.2.2.2];exact hl
       clear hl
       go_wp2
       go_ret
       exact⟨aK (by rw[←HR.out];exact(gM n1.out n2.out n3.out n4.out T.out).symm),G1.out⟩
      ·have hl':¬(4:Int)<(ps.length:Int):=by omega
       have T:Hid (¬4<C.ps.length):=by unfold Hid;rw[←H1.out.2.2.2.2.2.2.2.2];exact hl
       clear hl
       go_wp2_with fail
       refine(iZ ⟨nm,su,2,co,po,he,tr,false⟩ _ ps _ (HP.out.keep G1.out) hm).mono ?_
       rintro e w3 ⟨rfl,g3⟩
       have E:dQ 2 ps=res:=by rw[←hk2,←HR.out,fK n1.out n2.out n3.out n4.out T.out,←H1.out.2.2.1,←H1.out.2.2.2.2.2.2.2.2]
       simp only
       rw[E]
       clear E
       go_wp2
       go_ret
       exact⟨rfl,aa G1.out g3⟩
    ·have k9:=cE hk2
     have n4:Hid (¬Fit C):=by
      unfold Hid Fit
      rintro (h | h | ⟨h,_⟩)
      ·exact F1.out h
      ·exact F2.out h
      ·rw[←H1.out.2.2.1] at h
       exact hk2 h
     clear F1 F2 hk2
     by_cases hl:4<ps.length
     ·have hl':(4:Int)<(ps.length:Int):=by omega
      have T:Hid (4<C.ps.length):=by unfold Hid;rw[←H1.out.2.2.2.2.2.2.2.2];exact hl
      clear hl
      go_wp2
      go_ret
      exact⟨aK (by rw[←HR.out];exact(gM n1.out n2.out n3.out n4.out T.out).symm),G1.out⟩
     ·have hl':¬(4:Int)<(ps.length:Int):=by omega
      have T:Hid (¬4<C.ps.length):=by unfold Hid;rw[←H1.out.2.2.2.2.2.2.2.2];exact hl
      clear hl
      go_wp2_with fail
      refine(iZ ⟨nm,su,kd,co,po,he,tr,tk⟩ _ ps _ (HP.out.keep G1.out) hm).mono ?_
      rintro e w3 ⟨rfl,g3⟩
      have E:dQ kd ps=res:=by rw[←HR.out,fK n1.out n2.out n3.out n4.out T.out,←H1.out.2.2.1,←H1.out.2.2.2.2.2.2.2.2]
      simp only
      rw[E]
      clear E
      go_wp2
      go_ret
      exact⟨rfl,aa G1.out g3⟩
set_option maxHeartbeats 1000000
theorem CAt.keepR {w w':World} {b:Nat} {h:Hd} {v:Value} {r:Option Nat} (k:CAt w b h v) (g:w.grownBy w' r) (hr:some b≠r):CAt w' b h v:=ai g k hr
theorem nZ (h:Hd) (v:Value) (ps:List Pt) (w:World) (hp:bY w v ps) (hb:ps.length*40≤140737488355328):Calls Tryz.prog 180 #[cv h v] w fun e w'=>∃ u,e=.returned (cv h u)∧bA w' w.heap.size u ps∧w.grownBy w' none:=by
 obtain⟨i0,hi,hz0,hz1,hz2⟩:=lq Tryz.info62
 obtain⟨W2,hW2⟩:∃ W2,W2=(w.alloc (.cells (ccs h v) 111)).alloc (.cells (ccs Hd.none (.slice none 0 0)) 111):=⟨_,rfl⟩
 have G2:w.grownBy W2 none:=by rw[hW2];exact am (World.grownBy_alloc _ _ none) _
 have A2:CAt W2 w.heap.size h v:=by rw[hW2];exact CAt.keep (ak w _ _) (World.grownBy_alloc _ _ none)
 have Z2:CAt W2 (w.heap.size+1) Hd.none (.slice none 0 0):=by
  have:=ak (w.alloc (.cells (ccs h v) 111)) (ccs Hd.none (.slice none 0 0)) 111
  rw[World.size_alloc] at this
  rw[hW2]
  exact this
 have HA2:Hid (CAt W2 w.heap.size h v):=A2
 have HZ2:Hid (CAt W2 (w.heap.size+1) Hd.none (.slice none 0 0)):=Z2
 have HG2:Hid (w.grownBy W2 none):=G2
 have hs2:w.heap.size+2≤W2.heap.size:=by have:=bn Z2;omega
 have HB:Hid (ps.length*40≤140737488355328):=hb
 unfold ccs Hd.none at hW2
 clear G2 A2 Z2 hb
 rcases hp with ⟨rfl,rfl⟩ | ⟨ad,cap,rfl,hc,hcell⟩
 ·unfold cv
  go_enter Tryz.func180,Tryz.ntmps180
  go_upto_region 1 with fail
  rw[←hW2]
  clear hW2
  obtain⟨c0,c1,c2,c3,c4,c5,c6,c7,c8⟩:=HA2.out.cells
  have cf:=fun i=>HA2.out.free i
  obtain⟨z0,z1,z2,z3,z4,z5,z6,z7,z8⟩:=HZ2.out.cells
  have zf:=fun i=>HZ2.out.free i
  simp only[Hd.none] at z0 z1 z2 z3 z4 z5 z6 z7 z8
  go_wp2_with fail
  refine bodyPost_ret (v:=cv h (.slice none 0 0)) (by simp[results,Tryz.results180,go_sem,z0,z1,z2,z3,z4,z5,z6,z7,z8,cv]) rfl ⟨.slice none 0 0,rfl,bA.nil _ _,?_⟩
  exact az (az HG2.out (aw _ _ 8 _) (fun x e=>by cases e;exact Nat.le_refl _)) (gu _ (w.heap.size+1) _ _ _ _ _ _ _ _ _) (fun x e=>by cases e;omega)
 ·have HS:Hid (∀ j u,(cZ ps)[j]?=some u→W2.cell? (ad.add j)=some u):=fun j u hu=>HG2.out.cell (hcell j u hu) (by simp)
  clear hcell hc
  unfold cv
  go_enter Tryz.func180,Tryz.ntmps180
  go_upto_region 1 with fail
  rw[←hW2]
  clear hW2
  obtain⟨c0,c1,c2,c3,c4,c5,c6,c7,c8⟩:=HA2.out.cells
  go_upto_region 2 with (at_builtin;refine wpList_append_own_at _ rfl (.const (.slice none 0 0)) (.tmp 4) 109 rfl W2.heap.size 62 i0 _ 8 40 Tryz.underlying109 hi hz0 hz1 hz2 rfl (by decide) _ 0 [] rfl (bA.nil W2 _) ad ps.length cap (cZ ps) rfl (f8 ps) HS.out (iq ps) (by have:=HB.out;unfold maxLen;omega) (by rw[Nat.zero_add];exact HB.out) (Nat.le_refl _) ?_;intro v5 w5 o5 g5 _ _;rw[Nat.zero_add,List.nil_append] at o5;have O5:bA w5 W2.heap.size v5 ps:=o5;obtain⟨a5,k5,rfl⟩:=O5.at.form;have HO5:Hid (bA w5 W2.heap.size (.slice a5 ps.length k5) ps):=O5;have A5:=HA2.out.keep g5;have Z5:=HZ2.out.keep g5;have af:=fun i=>A5.free i;have a8:=A5.cells.2.2.2.2.2.2.2.2;have HA5:Hid (CAt w5 w.heap.size h (.slice (some ad) ps.length cap)):=A5;have HZ5:Hid (CAt w5 (w.heap.size+1) Hd.none (.slice none 0 0)):=Z5;have HG5:Hid (w.grownBy w5 none):=aa HG2.out g5;clear O5 A5 Z5 o5 c0 c1 c2 c3 c4 c5 c6 c7 c8)
  have A6:CAt (w5.setCell ⟨w.heap.size,8,none⟩ (.slice a5 ps.length k5)) w.heap.size h (.slice a5 ps.length k5):=aF HA5.out 8 _
  have Z6:CAt (w5.setCell ⟨w.heap.size,8,none⟩ (.slice a5 ps.length k5)) (w.heap.size+1) Hd.none (.slice none 0 0):=HZ5.out.keepR (aw _ _ _ _) (by simp)
  have HO6:Hid (bA (w5.setCell ⟨w.heap.size,8,none⟩ (.slice a5 ps.length k5)) W2.heap.size (.slice a5 ps.length k5) ps):=HO5.out.keep (aw _ _ _ _) (fun x e=>by cases e;omega)
  have HG6:Hid (w.grownBy (w5.setCell ⟨w.heap.size,8,none⟩ (.slice a5 ps.length k5)) none):=az HG5.out (aw _ _ _ _) (fun x e=>by cases e;exact Nat.le_refl _)
  clear HA5 HZ5 HO5 HG5 af a8
  obtain⟨W6,hW6⟩:∃ W6,W6=w5.setCell ⟨w.heap.size,8,none⟩ (.slice a5 ps.length k5):=⟨_,rfl⟩
  rw[←hW6] at A6 Z6 HO6 HG6 ⊢
  clear hW6
  obtain⟨c0,c1,c2,c3,c4,c5,c6,c7,c8⟩:=A6.cells
  obtain⟨z0,z1,z2,z3,z4,z5,z6,z7,z8⟩:=Z6.cells
  have zf:=fun i=>Z6.free i
  simp only[Hd.none] at z0 z1 z2 z3 z4 z5 z6 z7 z8
  have HF:Hid (bA (((((((((W6.setCell ⟨w.heap.size+1,0,none⟩ (.string h.nm)).setCell ⟨w.heap.size+1,1,none⟩ (.int .u8 h.su)).setCell ⟨w.heap.size+1,2,none⟩ (.int .u8 h.kd)).setCell ⟨w.heap.size+1,3,none⟩ (.int .i64 h.co)).setCell ⟨w.heap.size+1,4,none⟩ (.int .i64 h.po)).setCell ⟨w.heap.size+1,5,none⟩ (.int .i64 h.he)).setCell ⟨w.heap.size+1,6,none⟩ (.int .u16 h.tr)).setCell ⟨w.heap.size+1,7,none⟩ (.bool h.tk)).setCell ⟨w.heap.size+1,8,none⟩ (.slice a5 ps.length k5)) w.heap.size (.slice a5 ps.length k5) ps):=(HO6.out.keep (gu _ (w.heap.size+1) _ _ _ _ _ _ _ _ _) (fun x e=>by cases e;omega)).big (by omega)
  clear A6 Z6 HO6
  go_wp2
  refine bodyPost_ret (v:=cv h (.slice a5 ps.length k5)) (by simp[results,Tryz.results180,go_sem,z0,z1,z2,z3,z4,z5,z6,z7,z8,cv]) rfl ⟨.slice a5 ps.length k5,rfl,HF.out,?_⟩
  exact az HG6.out (gu _ (w.heap.size+1) _ _ _ _ _ _ _ _ _) (fun x e=>by cases e;omega)
end Go.Proofs.YtjmepebbcnhalaaGreat
