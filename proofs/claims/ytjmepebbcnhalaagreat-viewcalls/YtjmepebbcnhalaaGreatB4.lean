/-

-/
import Derived.Test.YtjmepebbcnhalaaGreatV4
namespace Go.Proofs.YtjmepebbcnhalaaGreat
set_option maxRecDepth 100000
set_option maxHeartbeats 4000000
open Go.RowKit
variable {w w':World} {g o b:Nat} {es:List Ent} {junk:List Value} {p:Pl}

def MAt (w:World) (g o:Nat) (ms:List Mk):Prop:=∀ (j:Nat) m,ms[j]?=some m→M4 w g (o+j*4) m
theorem MAt.keep {ms:List Mk} (h:MAt w g o ms) (k:w.grownBy w' none):MAt w' g o ms:=fun j m hm=>(h j m hm).keep k
theorem BkJ.marks (h:BkJ w b es junk p):MAt w b 588 p.mks:=fun _ _ hm=>h.mark hm
def dw (ms:List Mk):List ByteArray:=ms.map fun m=>m.nm
theorem l9 {ms:List Mk} {k:Nat} {m:Mk} (h:ms[k]?=some m):(dw ms)[k]?=some m.nm:=by simp[dw,h]
theorem qm (m:Mk) (x:Nat) (s:ByteArray) (w:World) (hx:w.cell? ⟨x,0,none⟩=some (.string s)):Calls Tryz.prog 187 #[mv m,.pointer (some ⟨x,0,none⟩)] w fun e w'=>e=.returned (.bool (decide (m.nm=s)))∧w.grownBy w' none:=by
 obtain⟨mi,nm,po,he⟩:=m
 unfold mv
 simp only
 have hx':(w.alloc (.cells #[.int .u8 mi,.string nm,.int .i64 po,.int .i64 he] 115)).cell? ⟨x,0,none⟩=some (.string s):=QG.cell hx (by simp)
 by_cases e:nm=s
 ·have k:=gU e
  rw[Qy e]
  clear e hx
  go_enter Tryz.func187,Tryz.ntmps187
  go_wp2
  go_ret
  exact⟨rfl,QG⟩
 ·have k:=j6 e
  rw[Qx e]
  clear e hx
  go_enter Tryz.func187,Tryz.ntmps187
  go_wp2
  go_ret
  exact⟨rfl,QG⟩
theorem un (g o cap:Nat) (ms:List Mk) (x:Nat) (s:ByteArray) (w:World) (hE:MAt w g o ms) (hx:w.cell? ⟨x,0,none⟩=some (.string s)) (hm:ms.length≤64):Calls Tryz.prog 250 #[.slice (some ⟨g,o,none⟩) ms.length cap,.func (.func 187) #[] #[.pointer (some ⟨x,0,none⟩)]] w fun e w'=>e=.returned (.int .i64 (pos (dw ms) s))∧w.grownBy w' none:=by
 have HE:Hid (MAt w g o ms):=hE
 have HX:Hid (w.cell? ⟨x,0,none⟩=some (.string s)):=hx
 have hm':ba ms.length:=by unfold ba;omega
 clear hE hx hm
 go_enter Tryz.func250,Tryz.ntmps250
 go_wp2_with fail
 go_loopw [8] (fun i wr=>∃ k:Nat,k≤ms.length∧i=.int .i64 k∧BR (dw ms) s k∧w.grownBy wr none) (fun i _=>ms.length - (intOf i).toNat)
 case atStart=>exact⟨0,Q0 _,rfl,fun j e hj=>by omega,ay _ _⟩
 case round =>
  obtain⟨k,hk,rfl,R,G⟩:=hrel
  have HG:Hid (w.grownBy wr none):=G
  have HR:Hid (BR (dw ms) s k):=R
  clear G R
  rcases (show k=ms.length∨k<ms.length from by omega) with hke | hlt
  ·have HP:Hid (pos (dw ms) s=-1):=nP _ _ fun j x hx=>HR.out j x (hke ▸ (by have:=(Qh hx).1;simpa [dw] using this)) hx
   clear HR
   subst hke
   go_wp2
   go_ret
   exact⟨aM HP.out.symm,HG.out⟩
  ·have hlt':(k:Int)<(ms.length:Int):=by omega
   have hk0:(0:Int)≤(k:Int):=by omega
   have hw:=hm'.wrap hlt
   obtain⟨m,hq0⟩:∃ m,ms[k]?=some m:=⟨_,Qg hlt⟩
   obtain⟨d0,d1,d2,d3⟩:=(HE.out k m hq0).keep HG.out
   have HK:Hid (wr.cell? ⟨x,0,none⟩=some (.string s)):=HG.out.cell HX.out (by simp)
   by_cases hq:m.nm=s
   ·have HP:Hid (pos (dw ms) s=k):=by subst hq;exact qT _ _ _ (l9 hq0) HR.out
    have hd:decide (m.nm=s)=true:=Qy hq
    clear HR hq0 hq
    go_wp2_with (first | (go_at_call 187;refine(qm m x s _ HK.out).mono ?_;rintro e1 w1 ⟨rfl,g1⟩;rw[hd]) | fail)
    go_ret
    exact⟨aM HP.out.symm,ae HG.out g1⟩
   ·have HN:Hid (BR (dw ms) s (k+1)):=zr HR.out (l9 hq0) hq
    have hd:decide (m.nm=s)=false:=Qx hq
    clear HR hq0 hq
    go_wp2_with (first | (go_at_call 187;refine(qm m x s _ HK.out).mono ?_;rintro e1 w1 ⟨rfl,g1⟩;rw[hd]) | fail)
    go_roundw
    case rel=>exact⟨k+1,hlt,by first | rfl | (rw[hw];rfl),HN.out,ae HG.out g1⟩
    case measure=>first | exact aA hlt | (rw[hw];exact aA hlt)
theorem pB (g o cap:Nat) (ms:List Mk) (x:Nat) (s:ByteArray) (w:World) (hE:MAt w g o ms) (hx:w.cell? ⟨x,0,none⟩=some (.string s)) (hm:ms.length≤64):Calls Tryz.prog 186 #[.slice (some ⟨g,o,none⟩) ms.length cap,.func (.func 187) #[] #[.pointer (some ⟨x,0,none⟩)]] w fun e w'=>e=.returned (.bool (decide (0≤pos (dw ms) s)))∧w.grownBy w' none:=by
 go_enter Tryz.func186,Tryz.ntmps186
 go_wp2_with (first | (go_at_call 250;refine(un g o cap ms x s _ hE hx hm).mono ?_;rintro e w1 ⟨rfl,g1⟩) | fail)
 go_ret
 exact⟨rfl,g1⟩
theorem tI (b:Nat) (es:List Ent) (p:Pl) (s:ByteArray) (w:World) (hB:dt w b es p):Calls Tryz.prog 123 #[.pointer (some ⟨b,0,none⟩),.string s] w fun e w'=>e=.returned (.bool (decide (0≤pos (dw p.mks) s)))∧w.grownBy w' none:=by
 have hmf:∀ fn bound caps ww,(Instr.makeFunc fn bound caps).run Tryz.prog ww=.ok (.func fn bound caps) ww:=fun _ _ _ _=>rfl
 obtain⟨junk,J⟩:=hB
 have J1:=J.keep (World.grownBy_alloc w (.cells #[.string s] 9) none)
 have HC:=pB b 588 5 p.mks w.heap.size s _ J1.marks (aa (ak w #[.string s] 9) 0) (by rw[J.five];decide)
 rw[J.five] at HC
 clear J J1
 go_enter Tryz.func123,Tryz.ntmps123
 go_wp2_with (first | (go_at_call 186;refine HC.mono ?_;rintro e w2 ⟨rfl,g2⟩) | fail)
 go_ret
 exact⟨rfl,ae QG g2⟩
theorem jL:∀ (ms:List Mk) (n:Nat) (m:Mk),n<ms.length→((((fA ms).set (n*4) (.int .u8 m.mi)).set (n*4+1) (.string m.nm)).set (n*4+2) (.int .i64 m.po)).set (n*4+3) (.int .i64 m.he)=fA (ms.set n m)
 | [],n,m,h=>by simp at h
 | q :: r,0,m,h=>by simp[fA,mvs]
 | q :: r,n+1,m,h=>by
  have ih:=jL r n m (by simpa using h)
  rw[show (n+1)*4=n*4+1+1+1+1 by omega,show n*4+1+1+1+1+1=n*4+1+1+1+1+1 by rfl,show n*4+1+1+1+1+2=n*4+2+1+1+1+1 by omega,show n*4+1+1+1+1+3=n*4+3+1+1+1+1 by omega]
  simp only[fA,mvs,List.cons_append,List.nil_append,List.set_cons_succ]
  rw[ih]
theorem BkJ.setTail {cs:List Value} (f1:es.length*9+junk.length=576) (f2:p.nms.length=9) (h:w.heap[b]?=some (.cells (aD es++(junk++(.bool true :: .bool p.shut :: .int .i64 (es.length:Int) :: (p.nms.map Value.string++cs)))).toArray 196 (0,0))) (i:Nat) (x:Value):(w.setCell ⟨b,588+i,none⟩ x).heap[b]?=some (.cells (aD es++(junk++(.bool true :: .bool p.shut :: .int .i64 (es.length:Int) :: (p.nms.map Value.string++cs.set i x)))).toArray 196 (0,0)):=by
 rw[aC h]
 congr 2
 rw[List.setIfInBounds_toArray]
 congr 1
 rw[List.set_append_right _ _ (by rw[aN];omega),List.set_append_right _ _ (by rw[aN];omega),aN]
 rw[show 588+i - es.length*9 - junk.length=9+i+1+1+1 by omega]
 simp only[List.set_cons_succ]
 rw[List.set_append_right _ _ (by simp[f2]),List.length_map,f2,show 9+i - 9=i by omega]
theorem gw (w:World) (r:Option Nat):w.grownBy w.drew r:=⟨rfl,rfl,rfl,Qj _,fun _ _ _=>rfl⟩
def st4 (w:World) (b o:Nat) (m:Mk):World:=(((w.setCell ⟨b,o,none⟩ (.int .u8 m.mi)).setCell ⟨b,o+1,none⟩ (.string m.nm)).setCell ⟨b,o+2,none⟩ (.int .i64 m.po)).setCell ⟨b,o+3,none⟩ (.int .i64 m.he)
theorem qn (w:World) (b o:Nat) (m:Mk):w.grownBy (st4 w b o m) (some b):=(((aj _ b _ _).trans (aj _ b _ _)).trans (aj _ b _ _)).trans (aj _ b _ _)
theorem BkJ.setM (h:BkJ w b es junk p) {n:Nat} (hn:n<5) (m:Mk):BkJ (st4 w b (588+n*4) m) b es junk { p with mks:=p.mks.set n m }:=by
 refine⟨?_,h.fit,h.nine,by simpa using h.five⟩
 have e:=BkJ.setTail h.fit h.nine (BkJ.setTail h.fit h.nine (BkJ.setTail h.fit h.nine (BkJ.setTail h.fit h.nine (cs:=fA p.mks) h.lies (n*4) (.int .u8 m.mi)) (n*4+1) (.string m.nm)) (n*4+2) (.int .i64 m.po)) (n*4+3) (.int .i64 m.he)
 rw[jL _ _ _ (by rw[h.five];exact hn)] at e
 exact e
def moM (p:Pl) (t:Int):Mk:=if t<5 then p.mks.getD t.toNat Mk.none else Mk.none
def moB (p:Pl) (t:Int):Bool:=!decide ((moM p t).nm=⟨#[]⟩)
def maE (p:Pl) (m:Mk):Int:=if p.shut=true then 7 else if m.mi<1∨4<m.mi∨fF m.po=false∨fF m.he=false then 2 else if aT m.nm.data.toList=false then 4 else if ¬(p.mks.getD m.mi.toNat Mk.none).nm=⟨#[]⟩∨0≤pos (dw p.mks) m.nm then 5 else 0
def maP (p:Pl) (m:Mk):Pl:=if maE p m=0 then { p with mks:=p.mks.set m.mi.toNat m } else p
theorem iz (b:Nat) (es:List Ent) (p:Pl) (t:Int) (h0:0≤t∧t≤255) (w:World) (hB:dt w b es p):Calls Tryz.prog 223 #[.pointer (some ⟨b,0,none⟩),.int .u8 t] w fun e w'=>e=.returned (.tuple #[mv (moM p t),.bool (moB p t)])∧w.grownBy w' none:=by
 obtain⟨junk,J⟩:=hB
 obtain⟨W1,hW1⟩:=Qe (w.alloc (.cells #[.int .u8 0,.string ⟨#[]⟩,.int .i64 0,.int .i64 0] 115))
 have G1:w.grownBy W1 none:=by rw[hW1];exact QG
 have J1:=J.keep G1
 have A:W1.heap[w.heap.size]?=some (.cells #[.int .u8 0,.string ⟨#[]⟩,.int .i64 0,.int .i64 0] 115 (0,0)):=by rw[hW1];exact ak w #[.int .u8 0,.string ⟨#[]⟩,.int .i64 0,.int .i64 0] 115
 have hS1:W1.heap.size=w.heap.size+1:=by rw[hW1];simp
 have HF:Hid (fu W1 b es.length p):=J1.flags
 have HG1:Hid (w.grownBy W1 none):=G1
 obtain⟨n,rfl⟩:=Int.eq_ofNat_of_zero_le h0.1
 have hw:IntKind.i64.wrap (n:Int)=(n:Int):=by rw[IntKind.wrap_i64];omega
 have c0:=aa A 0
 have c1:=aa A 1
 have c2:=aa A 2
 have c3:=aa A 3
 have cf:=fun i=>au A i
 have HA:Hid (W1.heap[w.heap.size]?=some (.cells #[.int .u8 0,.string ⟨#[]⟩,.int .i64 0,.int .i64 0] 115 (0,0))):=A
 clear A
 by_cases h9:n<5
 ·have e1:moM p (n:Int)=p.mks.getD n Mk.none:=by unfold moM;rw[if_pos (by omega)];rfl
  have h9':(n:Int)<5:=by omega
  have h0':(0:Int)≤(n:Int):=by omega
  obtain⟨d0,d1,d2,d3⟩:=J1.mark (t:=n) (getD_some (d:=Mk.none) (by rw[J.five];exact h9))
  unfold moB
  rw[e1]
  clear e1
  obtain⟨m,hm⟩:∃ m,p.mks.getD n Mk.none=m:=⟨_,rfl⟩
  rw[hm] at d0 d1 d2 d3 ⊢
  clear hm J J1 h0 h9
  obtain⟨mi,nm,po,he⟩:=m
  simp only at d0 d1 d2 d3 ⊢
  obtain⟨W2,hW2⟩:=Qe (W1.alloc (.cells #[.int .u8 mi,.string nm,.int .i64 po,.int .i64 he] 115))
  have G2:w.grownBy W2 none:=by
   rw[hW2]
   exact al HG1.out _
  have B2:W2.heap[w.heap.size]?=some (.cells #[.int .u8 0,.string ⟨#[]⟩,.int .i64 0,.int .i64 0] 115 (0,0)):=by
   rw[hW2]
   exact ag QG HA.out (by simp)
  have C2:W2.heap[w.heap.size+1]?=some (.cells #[.int .u8 mi,.string nm,.int .i64 po,.int .i64 he] 115 (0,0)):=by
   rw[hW2]
   have a0:=ak W1 #[.int .u8 mi,.string nm,.int .i64 po,.int .i64 he] 115
   rw[hS1] at a0
   exact a0
  have HG2:Hid (w.grownBy W2 none):=G2
  have HB2:Hid (W2.heap[w.heap.size]?=some (.cells #[.int .u8 0,.string ⟨#[]⟩,.int .i64 0,.int .i64 0] 115 (0,0))):=B2
  have HC2:Hid (W2.heap[w.heap.size+1]?=some (.cells #[.int .u8 mi,.string nm,.int .i64 po,.int .i64 he] 115 (0,0))):=C2
  clear G2 B2 C2
  by_cases hq:nm=⟨#[]⟩
  all_goals
   first | (have he':(nm.toList == [])=true:=by rw[hq];kernel_rfl) | (have he':=qu hq)
   first | rw[Qy hq] | rw[Qx hq]
   clear hq
   go_enter Tryz.func223,Tryz.ntmps223
   go_upto_region 1 with fail
   rw[←hW1]
   clear hW1
   go_upto_region 4 with (first | (go_at_call 128;refine(dj b es.length p _ HF.out).mono ?_;rintro e w1 ⟨rfl,h1⟩;obtain rfl:W1=w1:=h1.symm) | fail)
   rw[←hW2]
   clear hW2 c0 c1 c2 c3 cf d0 d1 d2 d3 HA HF HG1
   have x0:=aa HB2.out 0
   have x1:=aa HB2.out 1
   have x2:=aa HB2.out 2
   have x3:=aa HB2.out 3
   have xf:=fun i=>au HB2.out i
   have y0:=aa HC2.out 0
   have y1:=aa HC2.out 1
   have y2:=aa HC2.out 2
   have y3:=aa HC2.out 3
   go_region
   go_wp2
   refine bodyPost_ret (v:=.tuple #[mv ⟨mi,nm,po,he⟩,.bool _]) (by simp[results,Tryz.results223,go_sem,mv,x0,x1,x2,x3]) rfl ⟨rfl,?_⟩
   exact ar HG2.out (((((aj _ _ _ _).trans (aj _ _ _ _)).trans (aj _ _ _ _)).trans (aj _ _ _ _)).trans (aF _ 1 _)) (fun x e=>by cases e;exact Qj _)
 ·have e1:moM p (n:Int)=Mk.none:=if_neg (by omega)
  have e2:moB p (n:Int)=false:=by unfold moB;rw[e1];rfl
  have h9':5≤(n:Int):=by omega
  rw[e1,e2]
  clear J J1 h0 h9 e1 e2
  go_enter Tryz.func223,Tryz.ntmps223
  go_upto_region 1 with fail
  rw[←hW1]
  clear hW1
  go_wp2_with (first | (go_at_call 128;refine(dj b es.length p _ HF.out).mono ?_;rintro e w1 ⟨rfl,h1⟩;obtain rfl:W1=w1:=h1.symm) | fail)
  refine bodyPost_ret (v:=.tuple #[mv Mk.none,.bool false]) (by simp[results,Tryz.results223,go_sem,mv,Mk.none,c0,c1,c2,c3]) rfl ⟨rfl,?_⟩
  exact ar HG1.out ((((aj _ _ _ _).trans (aj _ _ _ _)).trans (aj _ _ _ _)).trans (aj _ _ _ _)) (fun x e=>by cases e;exact Qj _)
theorem BN (b:Nat) (es:List Ent) (p:Pl) (m:Mk) (w:World) (hB:dt w b es p):Calls Tryz.prog 53 #[.pointer (some ⟨b,0,none⟩),mv m] w fun e w'=>e=.returned (.int .i64 (maE p m))∧dt w' b es (maP p m)∧w.grownBy w' (some b):=by
 obtain⟨junk,J⟩:=hB
 obtain⟨mi,nm,po,he⟩:=m
 obtain⟨W1,hW1⟩:=Qe (w.alloc (.cells #[.int .u8 mi,.string nm,.int .i64 po,.int .i64 he] 115))
 have HG1:Hid (w.grownBy W1 none):=by rw[hW1];exact QG
 have A:W1.heap[w.heap.size]?=some (.cells #[.int .u8 mi,.string nm,.int .i64 po,.int .i64 he] 115 (0,0)):=by rw[hW1];exact ak w _ _
 have HA:Hid (W1.heap[w.heap.size]?=some (.cells #[.int .u8 mi,.string nm,.int .i64 po,.int .i64 he] 115 (0,0))):=A
 have hbs:b<w.heap.size:=aZ J.lies
 have J1:=J.keep HG1.out
 have HJ:Hid (BkJ W1 b es junk p):=J1
 have HR:=j4 b es.length p W1 J1.flags
 have HI:=vk nm
 have K1:=oM po
 have K2:=oM he
 have a0:=aa A 0
 have a1:=aa A 1
 have a2:=aa A 2
 have a3:=aa A 3
 have af:=fun i=>au A i
 have HE:Hid (w.grownBy W1 (some b)):=aW HG1.out (ay _ _)
 clear A J
 unfold mv
 cases hs:p.shut with
 | true =>
  have e1:maE p ⟨mi,nm,po,he⟩=7:=if_pos hs
  have e2:maP p ⟨mi,nm,po,he⟩=p:=if_neg (by rw[e1];decide)
  rw[e1,e2]
  rw[hs] at HR
  clear e1 e2 J1
  go_enter Tryz.func53,Tryz.ntmps53
  go_upto_region 1 with fail
  rw[←hW1]
  clear hW1
  go_wp2_with (first | (go_at_call 110;refine HR.mono ?_;rintro e w1 ⟨rfl,h1⟩;obtain rfl:W1=w1:=h1.symm) | fail)
  go_ret
  exact⟨rfl,⟨junk,HJ.out⟩,HE.out⟩
 | false =>
  rw[hs] at HR
  by_cases ht:mi<1∨4<mi∨fF po=false∨fF he=false
  ·have e1:maE p ⟨mi,nm,po,he⟩=2:=by unfold maE;rw[if_neg (by simp[hs]),if_pos ht]
   have e2:maP p ⟨mi,nm,po,he⟩=p:=if_neg (by rw[e1];decide)
   rw[e1,e2]
   clear e1 e2 J1
   rcases (show mi<1∨(1≤mi∧4<mi)∨(1≤mi∧mi≤4∧fF po=false)∨(1≤mi∧mi≤4∧fF po=true∧fF he=false) by
    by_cases q1:mi<1
    ·exact Or.inl q1
    ·by_cases q2:4<mi
     ·exact Or.inr (Or.inl ⟨by omega,q2⟩)
     ·cases q3:fF po with
      | false=>exact Or.inr (Or.inr (Or.inl ⟨by omega,by omega,rfl⟩))
      | true =>
       cases q4:fF he with
       | false=>exact Or.inr (Or.inr (Or.inr ⟨by omega,by omega,rfl,rfl⟩))
       | true=>rw[q3,q4] at ht;simp at ht;omega) with h | ⟨h,h'⟩ | ⟨h,h',k⟩ | ⟨h,h',k,k'⟩
   all_goals
    clear ht
    go_enter Tryz.func53,Tryz.ntmps53
    go_upto_region 1 with fail
    rw[←hW1]
    clear hW1
    go_wp2_with (first | (go_at_call 110;refine HR.mono ?_;rintro e w1 ⟨rfl,h1⟩;obtain rfl:W1=w1:=h1.symm) | (go_at_call 121;first | (refine(K1 _).mono ?_;rintro e w1 ⟨rfl,h1⟩;obtain rfl:W1=w1:=h1.symm;rw[k];clear K1) | (refine(K2 _).mono ?_;rintro e w1 ⟨rfl,h1⟩;obtain rfl:W1=w1:=h1.symm;rw[k'])) | fail)
    go_ret
    exact⟨rfl,⟨junk,HJ.out⟩,HE.out⟩
  ·have t1:1≤mi:=by omega
   have t4:mi≤4:=by omega
   have k:fF po=true:=by cases h:fF po with
    | true=>rfl
    | false=>exact absurd (Or.inr (Or.inr (Or.inl h))) ht
   have k':fF he=true:=by cases h:fF he with
    | true=>rfl
    | false=>exact absurd (Or.inr (Or.inr (Or.inr h))) ht
   cases hn:aT nm.data.toList with
   | false =>
    have e1:maE p ⟨mi,nm,po,he⟩=4:=by unfold maE;rw[if_neg (by simp[hs]),if_neg ht,if_pos hn]
    have e2:maP p ⟨mi,nm,po,he⟩=p:=if_neg (by rw[e1];decide)
    rw[e1,e2]
    clear e1 e2 J1 ht
    go_enter Tryz.func53,Tryz.ntmps53
    go_upto_region 1 with fail
    rw[←hW1]
    clear hW1
    go_wp2_with (first | (go_at_call 110;refine HR.mono ?_;rintro e w1 ⟨rfl,h1⟩;obtain rfl:W1=w1:=h1.symm) | (go_at_call 121;first | (refine(K1 _).mono ?_;rintro e w1 ⟨rfl,h1⟩;obtain rfl:W1=w1:=h1.symm;rw[k];clear K1) | (refine(K2 _).mono ?_;rintro e w1 ⟨rfl,h1⟩;obtain rfl:W1=w1:=h1.symm;rw[k'])) | (go_at_call 122;refine(HI _).mono ?_;rintro e w1 ⟨rfl,h1⟩;obtain rfl:W1=w1:=h1.symm;rw[hn]) | fail)
    go_ret
    exact⟨rfl,⟨junk,HJ.out⟩,HE.out⟩
   | true =>
    have hsz:nm.size≤281474976710656:=by rw[Lib.size_eq];exact Ql (iu hn).2 (by omega)
    obtain⟨n,rfl⟩:=Int.eq_ofNat_of_zero_le (show 0≤mi by omega)
    have n5:n<5:=by omega
    obtain⟨_,c,_,_⟩:=J1.mark (t:=n) (getD_some (d:=Mk.none) (by rw[J1.five];exact n5))
    have H4:maE p ⟨(n:Int),nm,po,he⟩=if ¬(p.mks.getD n Mk.none).nm=⟨#[]⟩∨0≤pos (dw p.mks) nm then 5 else 0:=by unfold maE;rw[if_neg (by simp[hs]),if_neg ht,if_neg (by simp[hn])];rfl
    have t5':(n:Int)<5:=by omega
    have t0':(0:Int)≤(n:Int):=by omega
    have HM:=tI b es p nm
    obtain⟨x,hx⟩:∃ x,(p.mks.getD n Mk.none).nm=x:=⟨_,rfl⟩
    rw[hx] at c H4
    clear ht J1
    by_cases hx0:x=⟨#[]⟩
    ·have he':(x.toList == [])=true:=by rw[hx0];kernel_rfl
     have he2:(x.toList != [])=false:=by simp[bne,he']
     by_cases hq:0≤pos (dw p.mks) nm
     ·have e1:maE p ⟨(n:Int),nm,po,he⟩=5:=by rw[H4,if_pos (Or.inr hq)]
      have e2:maP p ⟨(n:Int),nm,po,he⟩=p:=if_neg (by rw[e1];decide)
      rw[e1,e2]
      rw[Qy hq] at HM
      clear e1 e2 H4 hx hx0 hq
      go_enter Tryz.func53,Tryz.ntmps53
      go_upto_region 1 with fail
      rw[←hW1]
      clear hW1
      go_upto_region 8 with (first | (go_at_call 110;refine HR.mono ?_;rintro e w1 ⟨rfl,h1⟩;obtain rfl:W1=w1:=h1.symm) | (go_at_call 121;first | (refine(K1 _).mono ?_;rintro e w1 ⟨rfl,h1⟩;obtain rfl:W1=w1:=h1.symm;rw[k];clear K1) | (refine(K2 _).mono ?_;rintro e w1 ⟨rfl,h1⟩;obtain rfl:W1=w1:=h1.symm;rw[k'])) | (go_at_call 122;refine(HI _).mono ?_;rintro e w1 ⟨rfl,h1⟩;obtain rfl:W1=w1:=h1.symm;rw[hn]) | fail)
      go_region_with (first | (go_at_call 123;refine(HM _ (by first | exact⟨junk,HJ.out⟩ | exact⟨junk,HJ.out.keep (aF _ 1 none)⟩)).mono ?_;rintro e w2 ⟨rfl,g2⟩) | fail)
      all_goals go_wp2
      all_goals go_ret
      all_goals exact⟨rfl,⟨junk,HJ.out.keep (ae (aF _ 1 none) g2)⟩,aW (ae HG1.out (ae (aF _ 1 none) g2)) (ay _ _)⟩
     ·have e1:maE p ⟨(n:Int),nm,po,he⟩=0:=by rw[H4,if_neg (by simp[hx0];omega)]
      have e2:maP p ⟨(n:Int),nm,po,he⟩={ p with mks:=p.mks.set n ⟨(n:Int),nm,po,he⟩ }:=if_pos e1
      rw[e1,e2]
      rw[Qx hq] at HM
      clear e1 e2 H4 hx hx0 hq
      go_enter Tryz.func53,Tryz.ntmps53
      go_upto_region 1 with fail
      rw[←hW1]
      clear hW1
      go_upto_region 8 with (first | (go_at_call 110;refine HR.mono ?_;rintro e w1 ⟨rfl,h1⟩;obtain rfl:W1=w1:=h1.symm) | (go_at_call 121;first | (refine(K1 _).mono ?_;rintro e w1 ⟨rfl,h1⟩;obtain rfl:W1=w1:=h1.symm;rw[k];clear K1) | (refine(K2 _).mono ?_;rintro e w1 ⟨rfl,h1⟩;obtain rfl:W1=w1:=h1.symm;rw[k'])) | (go_at_call 122;refine(HI _).mono ?_;rintro e w1 ⟨rfl,h1⟩;obtain rfl:W1=w1:=h1.symm;rw[hn]) | fail)
      go_region_with (first | (go_at_call 123;refine(HM _ (by first | exact⟨junk,HJ.out⟩ | exact⟨junk,HJ.out.keep (aF _ 1 none)⟩)).mono ?_;rintro e w2 ⟨rfl,g2⟩) | fail)
      all_goals
       have HG2:Hid (W1.grownBy w2 none):=ae (aF _ 1 none) g2
       have A2:=ag HG2.out HA.out (by simp)
       have z1:=aa A2 1
       have zf:=fun i=>au A2 i
       have HA2:Hid (w2.heap[w.heap.size]?=some (.cells #[.int .u8 (n:Int),.string nm,.int .i64 po,.int .i64 he] 115 (0,0))):=A2
       clear A2 a0 a1 a2 a3 af c
       go_upto_region 11 with (first | (go_at_call 124;refine(lH nm hsz _).mono ?_;rintro e w3 ⟨rfl,g3⟩;have A3:=ag g3 HA2.out (by simp);have y1:=aa A3 1;have yf:=fun i=>au A3 i;have HA3:Hid (w3.heap[w.heap.size]?=some (.cells #[.int .u8 (n:Int),.string nm,.int .i64 po,.int .i64 he] 115 (0,0))):=A3;have HG3:Hid (W1.grownBy w3 none):=ae HG2.out g3;clear A3 z1 zf) | fail)
       obtain⟨W4,hW4⟩:=Qe (w3.setCell ⟨w.heap.size,1,none⟩ (.string nm))
       have A4:W4.heap[w.heap.size]?=some (.cells #[.int .u8 (n:Int),.string nm,.int .i64 po,.int .i64 he] 115 (0,0)):=by rw[hW4];exact aC HA3.out 1 (.string nm)
       have J4:BkJ W4 b es junk p:=by rw[hW4];exact(HJ.out.keep HG3.out).keepR (aj _ _ _ _) (by simp;omega)
       have HG4:Hid (w.grownBy W4 none):=by rw[hW4];exact ar (ae HG1.out HG3.out) (aj _ _ _ _) (fun x e=>by cases e;exact Qj _)
       rw[←hW4]
       clear hW4 y1 yf
       have v0:=aa A4 0
       have v1:=aa A4 1
       have v2:=aa A4 2
       have v3:=aa A4 3
       obtain⟨d0,d1,d2,d3⟩:=J4.mark (t:=n) (getD_some (d:=Mk.none) (by rw[J4.five];exact n5))
       have df:=fun i=>J4.free i
       have HJ4:Hid (BkJ W4 b es junk p):=J4
       clear J4 A4
       go_region
       go_wp2
       go_ret
       have F1:=(HJ4.out.setM n5 ⟨(n:Int),nm,po,he⟩).keep (ai _)
       have F2:=aW HG4.out ((qn W4 b (588+n*4) ⟨(n:Int),nm,po,he⟩).trans (gw _ _))
       unfold st4 at F1 F2
       exact⟨rfl,⟨junk,F1⟩,F2⟩
    ·have he':=qu hx0
     have he2:(x.toList != [])=true:=by simp[bne,he']
     have e1:maE p ⟨(n:Int),nm,po,he⟩=5:=by rw[H4,if_pos (Or.inl hx0)]
     have e2:maP p ⟨(n:Int),nm,po,he⟩=p:=if_neg (by rw[e1];decide)
     rw[e1,e2]
     clear e1 e2 H4 hx hx0
     go_enter Tryz.func53,Tryz.ntmps53
     go_upto_region 1 with fail
     rw[←hW1]
     clear hW1
     go_upto_region 8 with (first | (go_at_call 110;refine HR.mono ?_;rintro e w1 ⟨rfl,h1⟩;obtain rfl:W1=w1:=h1.symm) | (go_at_call 121;first | (refine(K1 _).mono ?_;rintro e w1 ⟨rfl,h1⟩;obtain rfl:W1=w1:=h1.symm;rw[k];clear K1) | (refine(K2 _).mono ?_;rintro e w1 ⟨rfl,h1⟩;obtain rfl:W1=w1:=h1.symm;rw[k'])) | (go_at_call 122;refine(HI _).mono ?_;rintro e w1 ⟨rfl,h1⟩;obtain rfl:W1=w1:=h1.symm;rw[hn]) | fail)
     go_quiet (fail)
     go_wp2
     go_ret
     exact⟨rfl,⟨junk,HJ.out.keep (aF _ _ none)⟩,aW HG1.out (aF _ _ _)⟩
end Go.Proofs.YtjmepebbcnhalaaGreat
