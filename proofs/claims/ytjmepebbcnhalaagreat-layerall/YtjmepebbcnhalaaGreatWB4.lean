/-
  
-/
import Derived.Test.YtjmepebbcnhalaaGreatW5
namespace Go.Proofs.YtjmepebbcnhalaaGreat
set_option maxRecDepth 100000
set_option maxHeartbeats 4000000
open Go.RowKit

def MAt (w:World) (g o:Nat) (ms:List Mk):Prop:=∀ (j:Nat) m,ms[j]?=some m→M4 w g (o+j*4) m
theorem MAt.keep {w w':World} {g o:Nat} {ms:List Mk} (h:MAt w g o ms) (k:w.grownBy w' none):MAt w' g o ms:=fun j m hm=>(h j m hm).keep k
theorem BkJ.marks {w:World} {b:Nat} {es:List Ent} {junk:List Value} {p:Pl} (h:BkJ w b es junk p):MAt w b 588 p.mks:=fun _ _ hm=>h.mark hm
def du (ms:List Mk):List ByteArray:=ms.map fun m=>m.nm
theorem kx {ms:List Mk} {k:Nat} {m:Mk} (h:ms[k]?=some m):(du ms)[k]?=some m.nm:=by simp[du,h]
theorem nW (m:Mk) (x:Nat) (s:ByteArray) (w:World) (hx:w.cell? ⟨x,0,none⟩=some (.string s)):Calls Tryz.prog 187 #[mv m,.pointer (some ⟨x,0,none⟩)] w fun e w'=>e=.returned (.bool (decide (m.nm=s)))∧w.grownBy w' none:=by
 obtain⟨mi,nm,po,he⟩:=m
 unfold mv
 simp only
 have hx':(w.alloc (.cells #[.int .u8 mi,.string nm,.int .i64 po,.int .i64 he] 115)).cell? ⟨x,0,none⟩=some (.string s):=(World.grownBy_alloc _ _ none).cell hx (by simp)
 by_cases e:nm=s
 ·have k:=gI e
  rw[decide_eq_true e]
  clear e hx
  go_enter Tryz.func187,Tryz.ntmps187
  go_wp2
  go_ret
  exact⟨rfl,World.grownBy_alloc _ _ none⟩
 ·have k:=iE e
  rw[decide_eq_false e]
  clear e hx
  go_enter Tryz.func187,Tryz.ntmps187
  go_wp2
  go_ret
  exact⟨rfl,World.grownBy_alloc _ _ none⟩
theorem um (g o cap:Nat) (ms:List Mk) (x:Nat) (s:ByteArray) (w:World) (hE:MAt w g o ms) (hx:w.cell? ⟨x,0,none⟩=some (.string s)) (hm:ms.length≤64):Calls Tryz.prog 250 #[.slice (some ⟨g,o,none⟩) ms.length cap,.func (.func 187) #[] #[.pointer (some ⟨x,0,none⟩)]] w fun e w'=>e=.returned (.int .i64 (pos (du ms) s))∧w.grownBy w' none:=by
 have HE:Hid (MAt w g o ms):=hE
 have HX:Hid (w.cell? ⟨x,0,none⟩=some (.string s)):=hx
 have hm':aZ ms.length:=by unfold aZ;omega
 clear hE hx hm
 go_enter Tryz.func250,Tryz.ntmps250
 go_wp2_with fail
 go_loopw [8] (fun i wr=>∃ k:Nat,k≤ms.length∧i=.int .i64 k∧zg (du ms) s k∧w.grownBy wr none) (fun i _=>ms.length - (intOf i).toNat)
 case atStart=>exact⟨0,Nat.zero_le _,rfl,fun j e hj=>by omega,ay _ _⟩
 case round =>
  obtain⟨k,hk,rfl,R,G⟩:=hrel
  have HG:Hid (w.grownBy wr none):=G
  have HR:Hid (zg (du ms) s k):=R
  clear G R
  rcases (show k=ms.length∨k<ms.length from by omega) with hke | hlt
  ·have HP:Hid (pos (du ms) s=-1):=mB _ _ fun j x hx=>HR.out j x (hke ▸ (by have:=(List.getElem?_eq_some_iff.1 hx).1;simpa [du] using this)) hx
   clear HR
   subst hke
   go_wp2
   go_ret
   exact⟨aK HP.out.symm,HG.out⟩
  ·have hlt':(k:Int)<(ms.length:Int):=by omega
   have hk0:(0:Int)≤(k:Int):=by omega
   have hw:=hm'.wrap hlt
   obtain⟨m,hq0⟩:∃ m,ms[k]?=some m:=⟨_,List.getElem?_eq_getElem hlt⟩
   obtain⟨d0,d1,d2,d3⟩:=(HE.out k m hq0).keep HG.out
   have HK:Hid (wr.cell? ⟨x,0,none⟩=some (.string s)):=HG.out.cell HX.out (by simp)
   by_cases hq:m.nm=s
   ·have HP:Hid (pos (du ms) s=k):=by subst hq;exact pZ _ _ _ (kx hq0) HR.out
    have hd:decide (m.nm=s)=true:=decide_eq_true hq
    clear HR hq0 hq
    go_wp2_with (first | (go_at_call 187;refine(nW m x s _ HK.out).mono ?_;rintro e1 w1 ⟨rfl,g1⟩;rw[hd]) | fail)
    go_ret
    exact⟨aK HP.out.symm,aa HG.out g1⟩
   ·have HN:Hid (zg (du ms) s (k+1)):=xP HR.out (kx hq0) hq
    have hd:decide (m.nm=s)=false:=decide_eq_false hq
    clear HR hq0 hq
    go_wp2_with (first | (go_at_call 187;refine(nW m x s _ HK.out).mono ?_;rintro e1 w1 ⟨rfl,g1⟩;rw[hd]) | fail)
    go_roundw
    case rel=>exact⟨k+1,hlt,by first | rfl | (rw[hw];rfl),HN.out,aa HG.out g1⟩
    case measure=>first | exact au hlt | (rw[hw];exact au hlt)
theorem nJ (g o cap:Nat) (ms:List Mk) (x:Nat) (s:ByteArray) (w:World) (hE:MAt w g o ms) (hx:w.cell? ⟨x,0,none⟩=some (.string s)) (hm:ms.length≤64):Calls Tryz.prog 186 #[.slice (some ⟨g,o,none⟩) ms.length cap,.func (.func 187) #[] #[.pointer (some ⟨x,0,none⟩)]] w fun e w'=>e=.returned (.bool (decide (0≤pos (du ms) s)))∧w.grownBy w' none:=by
 go_enter Tryz.func186,Tryz.ntmps186
 go_wp2_with (first | (go_at_call 250;refine(um g o cap ms x s _ hE hx hm).mono ?_;rintro e w1 ⟨rfl,g1⟩) | fail)
 go_ret
 exact⟨rfl,g1⟩
theorem rD (b:Nat) (es:List Ent) (p:Pl) (s:ByteArray) (w:World) (hB:dH w b es p):Calls Tryz.prog 123 #[.pointer (some ⟨b,0,none⟩),.string s] w fun e w'=>e=.returned (.bool (decide (0≤pos (du p.mks) s)))∧w.grownBy w' none:=by
 have hmf:∀ fn bound caps ww,(Instr.makeFunc fn bound caps).run Tryz.prog ww=.ok (.func fn bound caps) ww:=fun _ _ _ _=>rfl
 obtain⟨junk,J⟩:=hB
 have J1:=J.keep (World.grownBy_alloc w (.cells #[.string s] 9) none)
 have HC:=nJ b 588 5 p.mks w.heap.size s _ J1.marks (ae (ak w #[.string s] 9) 0) (by rw[J.five];decide)
 rw[J.five] at HC
 clear J J1
 go_enter Tryz.func123,Tryz.ntmps123
 go_wp2_with (first | (go_at_call 186;refine HC.mono ?_;rintro e w2 ⟨rfl,g2⟩) | fail)
 go_ret
 exact⟨rfl,aa (World.grownBy_alloc _ _ none) g2⟩
theorem jp:∀ (ms:List Mk) (n:Nat) (m:Mk),n<ms.length→((((fu ms).set (n*4) (.int .u8 m.mi)).set (n*4+1) (.string m.nm)).set (n*4+2) (.int .i64 m.po)).set (n*4+3) (.int .i64 m.he)=fu (ms.set n m)
 | [],n,m,h=>by simp at h
 | q :: r,0,m,h=>by simp[fu,mvs]
 | q :: r,n+1,m,h=>by
  have ih:=jp r n m (by simpa using h)
  rw[show (n+1)*4=n*4+1+1+1+1 by omega,show n*4+1+1+1+1+1=n*4+1+1+1+1+1 by rfl,show n*4+1+1+1+1+2=n*4+2+1+1+1+1 by omega,show n*4+1+1+1+1+3=n*4+3+1+1+1+1 by omega]
  simp only[fu,mvs,List.cons_append,List.nil_append,List.set_cons_succ]
  rw[ih]
theorem BkJ.setTail {w:World} {b:Nat} {es:List Ent} {junk:List Value} {p:Pl} {cs:List Value} (f1:es.length*9+junk.length=576) (f2:p.nms.length=9) (h:w.heap[b]?=some (.cells (aG es++(junk++(.bool true :: .bool p.shut :: .int .i64 (es.length:Int) :: (p.nms.map Value.string++cs)))).toArray 196 (0,0))) (i:Nat) (x:Value):(w.setCell ⟨b,588+i,none⟩ x).heap[b]?=some (.cells (aG es++(junk++(.bool true :: .bool p.shut :: .int .i64 (es.length:Int) :: (p.nms.map Value.string++cs.set i x)))).toArray 196 (0,0)):=by
 rw[aF h]
 congr 2
 rw[List.setIfInBounds_toArray]
 congr 1
 rw[List.set_append_right _ _ (by rw[aO];omega),List.set_append_right _ _ (by rw[aO];omega),aO]
 rw[show 588+i - es.length*9 - junk.length=9+i+1+1+1 by omega]
 simp only[List.set_cons_succ]
 rw[List.set_append_right _ _ (by simp[f2]),List.length_map,f2,show 9+i - 9=i by omega]
theorem gh (w:World) (r:Option Nat):w.grownBy w.drew r:=⟨rfl,rfl,rfl,Nat.le_refl _,fun _ _ _=>rfl⟩
def st4 (w:World) (b o:Nat) (m:Mk):World:=(((w.setCell ⟨b,o,none⟩ (.int .u8 m.mi)).setCell ⟨b,o+1,none⟩ (.string m.nm)).setCell ⟨b,o+2,none⟩ (.int .i64 m.po)).setCell ⟨b,o+3,none⟩ (.int .i64 m.he)
theorem od (w:World) (b o:Nat) (m:Mk):w.grownBy (st4 w b o m) (some b):=(((aw _ b _ _).trans (aw _ b _ _)).trans (aw _ b _ _)).trans (aw _ b _ _)
theorem BkJ.setM {w:World} {b:Nat} {es:List Ent} {junk:List Value} {p:Pl} (h:BkJ w b es junk p) {n:Nat} (hn:n<5) (m:Mk):BkJ (st4 w b (588+n*4) m) b es junk { p with mks:=p.mks.set n m }:=by
 refine⟨?_,h.fit,h.nine,by simpa using h.five⟩
 have e:=BkJ.setTail h.fit h.nine (BkJ.setTail h.fit h.nine (BkJ.setTail h.fit h.nine (BkJ.setTail h.fit h.nine (cs:=fu p.mks) h.lies (n*4) (.int .u8 m.mi)) (n*4+1) (.string m.nm)) (n*4+2) (.int .i64 m.po)) (n*4+3) (.int .i64 m.he)
 rw[jp _ _ _ (by rw[h.five];exact hn)] at e
 exact e
def moM (p:Pl) (t:Int):Mk:=if t<5 then p.mks.getD t.toNat Mk.none else Mk.none
def maE (p:Pl) (m:Mk):Int:=if p.shut=true then 7 else if m.mi<1∨4<m.mi∨fF m.po=false∨fF m.he=false then 2 else if aR m.nm.data.toList=false then 4 else if ¬(p.mks.getD m.mi.toNat Mk.none).nm=⟨#[]⟩∨0≤pos (du p.mks) m.nm then 5 else 0
def maP (p:Pl) (m:Mk):Pl:=if maE p m=0 then { p with mks:=p.mks.set m.mi.toNat m } else p
theorem Ac (b:Nat) (es:List Ent) (p:Pl) (m:Mk) (w:World) (hB:dH w b es p):Calls Tryz.prog 53 #[.pointer (some ⟨b,0,none⟩),mv m] w fun e w'=>e=.returned (.int .i64 (maE p m))∧dH w' b es (maP p m)∧w.grownBy w' (some b):=by
 obtain⟨junk,J⟩:=hB
 obtain⟨mi,nm,po,he⟩:=m
 obtain⟨W1,hW1⟩:∃ W1,W1=w.alloc (.cells #[.int .u8 mi,.string nm,.int .i64 po,.int .i64 he] 115):=⟨_,rfl⟩
 have HG1:Hid (w.grownBy W1 none):=by rw[hW1];exact World.grownBy_alloc _ _ none
 have A:W1.heap[w.heap.size]?=some (.cells #[.int .u8 mi,.string nm,.int .i64 po,.int .i64 he] 115 (0,0)):=by rw[hW1];exact ak w _ _
 have HA:Hid (W1.heap[w.heap.size]?=some (.cells #[.int .u8 mi,.string nm,.int .i64 po,.int .i64 he] 115 (0,0))):=A
 have hbs:b<w.heap.size:=bn J.lies
 have J1:=J.keep HG1.out
 have HJ:Hid (BkJ W1 b es junk p):=J1
 have HR:=iH b es.length p W1 J1.flags
 have HI:=tH nm
 have K1:=mI po
 have K2:=mI he
 have a0:=ae A 0
 have a1:=ae A 1
 have a2:=ae A 2
 have a3:=ae A 3
 have af:=fun i=>aA A i
 have HE:Hid (w.grownBy W1 (some b)):=aV HG1.out (ay _ _)
 clear A J
 unfold mv
 cases hs:p.shut with
 | true =>
  have e1:maE p ⟨mi,nm,po,he⟩=7:=if_pos hs
  have e2:maP p ⟨mi,nm,po,he⟩=p:=if_neg (by rw[e1];decide)
  rw[e1,e2]
  rw[hs] at HR
  clear e1 e2 J1
  go_enter Tryz.func53,Tryz.ntmps53
  go_upto_region 1 with fail
  rw[←hW1]
  clear hW1
  go_wp2_with (first | (go_at_call 110;refine HR.mono ?_;rintro e w1 ⟨rfl,h1⟩;obtain rfl:W1=w1:=h1.symm) | fail)
  go_ret
  exact⟨rfl,⟨junk,HJ.out⟩,HE.out⟩
 | false =>
  rw[hs] at HR
  by_cases ht:mi<1∨4<mi∨fF po=false∨fF he=false
  ·have e1:maE p ⟨mi,nm,po,he⟩=2:=by unfold maE;rw[if_neg (by simp[hs]),if_pos ht]
   have e2:maP p ⟨mi,nm,po,he⟩=p:=if_neg (by rw[e1];decide)
   rw[e1,e2]
   clear e1 e2 J1
   rcases (show mi<1∨(1≤mi∧4<mi)∨(1≤mi∧mi≤4∧fF po=false)∨(1≤mi∧mi≤4∧fF po=true∧fF he=false) by
    by_cases q1:mi<1
    ·exact Or.inl q1
    ·by_cases q2:4<mi
     ·exact Or.inr (Or.inl ⟨by omega,q2⟩)
     ·cases q3:fF po with
      | false=>exact Or.inr (Or.inr (Or.inl ⟨by omega,by omega,rfl⟩))
      | true =>
       cases q4:fF he with
       | false=>exact Or.inr (Or.inr (Or.inr ⟨by omega,by omega,rfl,rfl⟩))
       | true=>rw[q3,q4] at ht;simp at ht;omega) with h | ⟨h,h'⟩ | ⟨h,h',k⟩ | ⟨h,h',k,k'⟩
   all_goals
    clear ht
    go_enter Tryz.func53,Tryz.ntmps53
    go_upto_region 1 with fail
    rw[←hW1]
    clear hW1
    go_wp2_with (first | (go_at_call 110;refine HR.mono ?_;rintro e w1 ⟨rfl,h1⟩;obtain rfl:W1=w1:=h1.symm) | (go_at_call 121;first | (refine(K1 _).mono ?_;rintro e w1 ⟨rfl,h1⟩;obtain rfl:W1=w1:=h1.symm;rw[k];clear K1) | (refine(K2 _).mono ?_;rintro e w1 ⟨rfl,h1⟩;obtain rfl:W1=w1:=h1.symm;rw[k'])) | fail)
    go_ret
    exact⟨rfl,⟨junk,HJ.out⟩,HE.out⟩
  ·have t1:1≤mi:=by omega
   have t4:mi≤4:=by omega
   have k:fF po=true:=by cases h:fF po with
    | true=>rfl
    | false=>exact absurd (Or.inr (Or.inr (Or.inl h))) ht
   have k':fF he=true:=by cases h:fF he with
    | true=>rfl
    | false=>exact absurd (Or.inr (Or.inr (Or.inr h))) ht
   cases hn:aR nm.data.toList with
   | false =>
    have e1:maE p ⟨mi,nm,po,he⟩=4:=by unfold maE;rw[if_neg (by simp[hs]),if_neg ht,if_pos hn]
    have e2:maP p ⟨mi,nm,po,he⟩=p:=if_neg (by rw[e1];decide)
    rw[e1,e2]
    clear e1 e2 J1 ht
    go_enter Tryz.func53,Tryz.ntmps53
    go_upto_region 1 with fail
    rw[←hW1]
    clear hW1
    go_wp2_with (first | (go_at_call 110;refine HR.mono ?_;rintro e w1 ⟨rfl,h1⟩;obtain rfl:W1=w1:=h1.symm) | (go_at_call 121;first | (refine(K1 _).mono ?_;rintro e w1 ⟨rfl,h1⟩;obtain rfl:W1=w1:=h1.symm;rw[k];clear K1) | (refine(K2 _).mono ?_;rintro e w1 ⟨rfl,h1⟩;obtain rfl:W1=w1:=h1.symm;rw[k'])) | (go_at_call 122;refine(HI _).mono ?_;rintro e w1 ⟨rfl,h1⟩;obtain rfl:W1=w1:=h1.symm;rw[hn]) | fail)
    go_ret
    exact⟨rfl,⟨junk,HJ.out⟩,HE.out⟩
   | true =>
    have hsz:nm.size≤281474976710656:=by rw[Lib.size_eq];exact Nat.le_trans (iu hn).2 (by omega)
    obtain⟨n,rfl⟩:=Int.eq_ofNat_of_zero_le (show 0≤mi by omega)
    have n5:n<5:=by omega
    obtain⟨_,c,_,_⟩:=J1.mark (t:=n) (getD_some (d:=Mk.none) (by rw[J1.five];exact n5))
    have H4:maE p ⟨(n:Int),nm,po,he⟩=if ¬(p.mks.getD n Mk.none).nm=⟨#[]⟩∨0≤pos (du p.mks) nm then 5 else 0:=by unfold maE;rw[if_neg (by simp[hs]),if_neg ht,if_neg (by simp[hn])];rfl
    have t5':(n:Int)<5:=by omega
    have t0':(0:Int)≤(n:Int):=by omega
    have HM:=rD b es p nm
    obtain⟨x,hx⟩:∃ x,(p.mks.getD n Mk.none).nm=x:=⟨_,rfl⟩
    rw[hx] at c H4
    clear ht J1
    by_cases hx0:x=⟨#[]⟩
    ·have he':(x.toList == [])=true:=by rw[hx0];kernel_rfl
     have he2:(x.toList != [])=false:=by simp[bne,he']
     by_cases hq:0≤pos (du p.mks) nm
     ·have e1:maE p ⟨(n:Int),nm,po,he⟩=5:=by rw[H4,if_pos (Or.inr hq)]
      have e2:maP p ⟨(n:Int),nm,po,he⟩=p:=if_neg (by rw[e1];decide)
      rw[e1,e2]
      rw[decide_eq_true hq] at HM
      clear e1 e2 H4 hx hx0 hq
      go_enter Tryz.func53,Tryz.ntmps53
      go_upto_region 1 with fail
      rw[←hW1]
      clear hW1
      go_upto_region 8 with (first | (go_at_call 110;refine HR.mono ?_;rintro e w1 ⟨rfl,h1⟩;obtain rfl:W1=w1:=h1.symm) | (go_at_call 121;first | (refine(K1 _).mono ?_;rintro e w1 ⟨rfl,h1⟩;obtain rfl:W1=w1:=h1.symm;rw[k];clear K1) | (refine(K2 _).mono ?_;rintro e w1 ⟨rfl,h1⟩;obtain rfl:W1=w1:=h1.symm;rw[k'])) | (go_at_call 122;refine(HI _).mono ?_;rintro e w1 ⟨rfl,h1⟩;obtain rfl:W1=w1:=h1.symm;rw[hn]) | fail)
      go_region_with (first | (go_at_call 123;refine(HM _ (by first | exact⟨junk,HJ.out⟩ | exact⟨junk,HJ.out.keep (aD _ 1 none)⟩)).mono ?_;rintro e w2 ⟨rfl,g2⟩) | fail)
      all_goals go_wp2
      all_goals go_ret
      all_goals exact⟨rfl,⟨junk,HJ.out.keep (aa (aD _ 1 none) g2)⟩,aV (aa HG1.out (aa (aD _ 1 none) g2)) (ay _ _)⟩
     ·have e1:maE p ⟨(n:Int),nm,po,he⟩=0:=by rw[H4,if_neg (by simp[hx0];omega)]
      have e2:maP p ⟨(n:Int),nm,po,he⟩={ p with mks:=p.mks.set n ⟨(n:Int),nm,po,he⟩ }:=if_pos e1
      rw[e1,e2]
      rw[decide_eq_false hq] at HM
      clear e1 e2 H4 hx hx0 hq
      go_enter Tryz.func53,Tryz.ntmps53
      go_upto_region 1 with fail
      rw[←hW1]
      clear hW1
      go_upto_region 8 with (first | (go_at_call 110;refine HR.mono ?_;rintro e w1 ⟨rfl,h1⟩;obtain rfl:W1=w1:=h1.symm) | (go_at_call 121;first | (refine(K1 _).mono ?_;rintro e w1 ⟨rfl,h1⟩;obtain rfl:W1=w1:=h1.symm;rw[k];clear K1) | (refine(K2 _).mono ?_;rintro e w1 ⟨rfl,h1⟩;obtain rfl:W1=w1:=h1.symm;rw[k'])) | (go_at_call 122;refine(HI _).mono ?_;rintro e w1 ⟨rfl,h1⟩;obtain rfl:W1=w1:=h1.symm;rw[hn]) | fail)
      go_region_with (first | (go_at_call 123;refine(HM _ (by first | exact⟨junk,HJ.out⟩ | exact⟨junk,HJ.out.keep (aD _ 1 none)⟩)).mono ?_;rintro e w2 ⟨rfl,g2⟩) | fail)
      all_goals
       have HG2:Hid (W1.grownBy w2 none):=aa (aD _ 1 none) g2
       have A2:=ai HG2.out HA.out (by simp)
       have z1:=ae A2 1
       have zf:=fun i=>aA A2 i
       have HA2:Hid (w2.heap[w.heap.size]?=some (.cells #[.int .u8 (n:Int),.string nm,.int .i64 po,.int .i64 he] 115 (0,0))):=A2
       clear A2 a0 a1 a2 a3 af c
       go_upto_region 11 with (first | (go_at_call 124;refine(kT nm hsz _).mono ?_;rintro e w3 ⟨rfl,g3⟩;have A3:=ai g3 HA2.out (by simp);have y1:=ae A3 1;have yf:=fun i=>aA A3 i;have HA3:Hid (w3.heap[w.heap.size]?=some (.cells #[.int .u8 (n:Int),.string nm,.int .i64 po,.int .i64 he] 115 (0,0))):=A3;have HG3:Hid (W1.grownBy w3 none):=aa HG2.out g3;clear A3 z1 zf) | fail)
       obtain⟨W4,hW4⟩:∃ W4,W4=w3.setCell ⟨w.heap.size,1,none⟩ (.string nm):=⟨_,rfl⟩
       have A4:W4.heap[w.heap.size]?=some (.cells #[.int .u8 (n:Int),.string nm,.int .i64 po,.int .i64 he] 115 (0,0)):=by rw[hW4];exact aF HA3.out 1 (.string nm)
       have J4:BkJ W4 b es junk p:=by rw[hW4];exact(HJ.out.keep HG3.out).keepR (aw _ _ _ _) (by simp;omega)
       have HG4:Hid (w.grownBy W4 none):=by rw[hW4];exact az (aa HG1.out HG3.out) (aw _ _ _ _) (fun x e=>by cases e;exact Nat.le_refl _)
       rw[←hW4]
       clear hW4 y1 yf
       have v0:=ae A4 0
       have v1:=ae A4 1
       have v2:=ae A4 2
       have v3:=ae A4 3
       obtain⟨d0,d1,d2,d3⟩:=J4.mark (t:=n) (getD_some (d:=Mk.none) (by rw[J4.five];exact n5))
       have df:=fun i=>J4.free i
       have HJ4:Hid (BkJ W4 b es junk p):=J4
       clear J4 A4
       go_region
       go_wp2
       go_ret
       have F1:=(HJ4.out.setM n5 ⟨(n:Int),nm,po,he⟩).keep (ag _)
       have F2:=aV HG4.out ((od W4 b (588+n*4) ⟨(n:Int),nm,po,he⟩).trans (gh _ _))
       unfold st4 at F1 F2
       exact⟨rfl,⟨junk,F1⟩,F2⟩
    ·have he':=vZ hx0
     have he2:(x.toList != [])=true:=by simp[bne,he']
     have e1:maE p ⟨(n:Int),nm,po,he⟩=5:=by rw[H4,if_pos (Or.inl hx0)]
     have e2:maP p ⟨(n:Int),nm,po,he⟩=p:=if_neg (by rw[e1];decide)
     rw[e1,e2]
     clear e1 e2 H4 hx hx0
     go_enter Tryz.func53,Tryz.ntmps53
     go_upto_region 1 with fail
     rw[←hW1]
     clear hW1
     go_upto_region 8 with (first | (go_at_call 110;refine HR.mono ?_;rintro e w1 ⟨rfl,h1⟩;obtain rfl:W1=w1:=h1.symm) | (go_at_call 121;first | (refine(K1 _).mono ?_;rintro e w1 ⟨rfl,h1⟩;obtain rfl:W1=w1:=h1.symm;rw[k];clear K1) | (refine(K2 _).mono ?_;rintro e w1 ⟨rfl,h1⟩;obtain rfl:W1=w1:=h1.symm;rw[k'])) | (go_at_call 122;refine(HI _).mono ?_;rintro e w1 ⟨rfl,h1⟩;obtain rfl:W1=w1:=h1.symm;rw[hn]) | fail)
     go_quiet (fail)
     go_wp2
     go_ret
     exact⟨rfl,⟨junk,HJ.out.keep (aD _ _ none)⟩,aV HG1.out (aD _ _ _)⟩
end Go.Proofs.YtjmepebbcnhalaaGreat
