/-
  
-/
import Derived.Test.YtjmepebbcnhalaaGreatW0
import Derived.Test.YtjmepebbcnhalaaGreatW50
namespace Go.Proofs.YtjmepebbcnhalaaGreat
set_option maxRecDepth 100000
set_option maxHeartbeats 2000000
open Go.RowKit

def lN (w:World) (g cap:Nat):Prop:=∃ cs,w.heap[g]?=some (.cells cs 3 (0,0))∧cs.size=cap
theorem lN.cell {w:World} {g cap:Nat} (h:lN w g cap) {i:Nat} (hi:i<cap):∃ u,w.cell? ⟨g,i,none⟩=some u:=by
 obtain⟨cs,h1,h2⟩:=h
 exact⟨_,by rw[ae h1];exact Array.getElem?_eq_getElem (by omega)⟩
theorem lN.free {w:World} {g cap:Nat} (h:lN w g cap) (i:Nat):w.frozen? ⟨g,i,none⟩=false:=by
 obtain⟨cs,h1,h2⟩:=h
 exact aA h1 i
def mkI (i k:Int):Int:=wrap64 (wrap64 (wrap64 (-1000003*i) - k) - 5)
theorem nY (i k:Int) (w:World):Calls Tryz.prog 83 #[.int .i64 i,.int .i64 k] w fun e w'=>e=.returned (.int .i64 (mkI i k))∧w.grownBy w' none:=by
 go_enter Tryz.func83,Tryz.ntmps83
 go_wp2
 go_ret
 exact⟨rfl,ay _ _⟩
def Lst.okI (w:World) (x:Lst):Prop:=(x.a=none∧x.n=0∧x.cap=0)∨∃ g,x.a=some g∧x.n≤x.cap∧lim x.cap∧lN w g x.cap
def MkI (w:World) (T:List Lst) (i k:Nat):Prop:=∀ (j:Nat) (x:Lst) (g:Nat),T[j]?=some x→x.a=some g→∃ cs,w.heap[g]?=some (.cells cs 3 (0,0))∧cs.size=x.cap∧∀ m,m<x.cap→(j<i∨(j=i∧m<k))→cs[m]?=some (.int .i64 (mkI j m))
theorem MkI.keep {w w':World} {T:List Lst} {i k:Nat} (M:MkI w T i k) (g:w.grownBy w' none):MkI w' T i k:=fun j x b hj hb=>by
 obtain⟨cs,h1,h2⟩:=M j x b hj hb
 exact⟨cs,ai g h1 (by simp),h2⟩
theorem xC {w w':World} {T:List Lst} (D:∀ x∈T,x.okI w) (g:w.grownBy w' none):MkI w' T 0 0:=fun j x b hj hb=>by
 rcases D x (List.mem_of_getElem? hj) with ⟨h,_⟩ | ⟨g',h,_,_,cs,h1,h2⟩
 ·rw[h] at hb;cases hb
 ·rw[h] at hb
  obtain rfl:=Option.some.inj hb
  exact⟨cs,ai g h1 (by simp),h2,fun m _ h=>by omega⟩
theorem MkI.room {w:World} {T:List Lst} {i k j g:Nat} {x:Lst} (M:MkI w T i k) (hj:T[j]?=some x) (hg:x.a=some g):lN w g x.cap:=by
 obtain⟨cs,h1,h2,_⟩:=M j x g hj hg
 exact⟨cs,h1,h2⟩
theorem MkI.read {w:World} {T:List Lst} {g:Nat} {j:Nat} {x:Lst} (M:MkI w T T.length 0) (hj:T[j]?=some x) (hg:x.a=some g) {m:Nat} (hm:m<x.cap):w.cell? ⟨g,m,none⟩=some (.int .i64 (mkI j m)):=by
 obtain⟨cs,h1,h2,h3⟩:=M j x g hj hg
 rw[ae h1]
 exact h3 m hm (Or.inl (List.getElem?_eq_some_iff.1 hj).1)
def pH (w:World) (g o:Nat) (z:Int):World:=w.setCell ⟨g,o,none⟩ (.int .i64 z)
theorem sL {w:World} {g:Nat} {cs:Array Value} (h:w.heap[g]?=some (.cells cs 3 (0,0))) (o:Nat) (z:Int):(pH w g o z).heap[g]?=some (.cells (cs.setIfInBounds o (.int .i64 z)) 3 (0,0)):=aF h _ _
theorem mO (w:World) (g o:Nat) (z:Int):w.grownBy (pH w g o z) (some g):=aw _ _ _ _
theorem MkI.step {w:World} {T:List Lst} {i k g:Nat} {x:Lst} (M:MkI w T i k) (hD:qB T) (hi:T[i]?=some x) (hg:x.a=some g) (hk:k<x.cap):MkI (pH w g k (mkI i k)) T i (k+1):=fun j y b hj hb=>by
 obtain⟨cs,h1,h2,h3⟩:=M j y b hj hb
 by_cases e:b=g
 ·subst e
  obtain rfl:=hD j i y x b hj hi hb hg
  obtain rfl:y=x:=Option.some.inj (hj.symm.trans hi)
  refine⟨_,sL h1 _ _,by simpa using h2,fun m hm h=>?_⟩
  rw[Array.getElem?_setIfInBounds]
  by_cases em:k=m
  ·subst em
   rw[if_pos rfl,if_pos (by omega)]
  ·rw[if_neg em]
   exact h3 m hm (by omega)
 ·refine⟨cs,ai (mO w g _ _) h1 (by simpa using e),h2,fun m hm h=>h3 m hm ?_⟩
  by_cases ej:j=i
  ·subst ej
   obtain rfl:y=x:=Option.some.inj (hj.symm.trans hi)
   rw[hg] at hb
   exact absurd (Option.some.inj hb).symm e
  ·omega
theorem MkI.next {w:World} {T:List Lst} {i k:Nat} {x:Lst} (M:MkI w T i k) (hi:T[i]?=some x) (hk:x.cap≤k):MkI w T (i+1) 0:=fun j y b hj hb=>by
 obtain⟨cs,h1,h2,h3⟩:=M j y b hj hb
 refine⟨cs,h1,h2,fun m hm h=>h3 m hm ?_⟩
 by_cases e:j=i
 ·subst e
  obtain rfl:y=x:=Option.some.inj (hj.symm.trans hi)
  omega
 ·omega
theorem Tryz.infoI:(Tryz.prog.info? 143).map (fun i=>(i.zero,i.size,i.bytes))=some (some (.slice none 0 0),1,24):=by kernel_rfl
theorem sy {w:World} {base:Nat} {v:Value} {T:List Lst} (h:w.ownsRow base 143 1 v T.length (bC T)) (h0:0<T.length):∃ g cap,v=.slice (some ⟨g,0,none⟩) T.length cap∧base≤g∧(∀ (j:Nat) x,T[j]?=some x→w.cell? ⟨g,j,none⟩=some x.f)∧∃ cs,w.heap[g]?=some (.cells cs 143 (0,0)):=by
 obtain⟨h1,h2⟩:=h
 rcases h2 with ⟨rfl,e⟩ | ⟨g,cap,cur,rfl,hg0,hh,hn,hm,hs,ht⟩
 ·omega
 ·refine⟨g,cap,rfl,hg0,fun j x hj=>?_,cur,hh⟩
  have hl:=(List.getElem?_eq_some_iff.1 hj).1
  have e:(bC T)[j]?=some x.f:=by unfold bC;rw[List.getElem?_map,hj];rfl
  rw[ae hh,←e,←ht,List.getElem?_take,if_pos (by omega)]
  simp
def sP (ga k g xc:Nat) (w:World):Prop:=w.cell? ⟨ga,k,none⟩=some (.slice (some ⟨g,0,none⟩) xc xc)
theorem sP.c {ga k g xc:Nat} {w:World} (h:sP ga k g xc w):w.cell? ⟨ga,k,none⟩=some (.slice (some ⟨g,0,none⟩) xc xc):=h
def oN (ga k g xc m:Nat) (w:World):Prop:=w.cell? ⟨ga,k,none⟩=some (.slice (some ⟨g,0,none⟩) xc xc)∧w.cell? ⟨g,m,none⟩=some (.int .i64 (mkI k m))
theorem oN.c {ga k g xc m:Nat} {w:World} (h:oN ga k g xc m w):w.cell? ⟨ga,k,none⟩=some (.slice (some ⟨g,0,none⟩) xc xc):=h.1
theorem oN.p {ga k g xc m:Nat} {w:World} (h:oN ga k g xc m w):w.cell? ⟨g,m,none⟩=some (.int .i64 (mkI k m)):=h.2
theorem sR (gt ct:Nat) (T:List Lst) (w:World) (h0:0<T.length) (h3:T.length≤100) (RT:∀ (j:Nat) x,T[j]?=some x→w.cell? ⟨gt,j,none⟩=some x.v) (D:∀ x∈T,x.okI w) (hD:qB T):Calls Tryz.prog 24 #[.slice (some ⟨gt,0,none⟩) T.length ct] w fun e w'=>e=.returned (.bool true)∧Kpt (aU T) w w':=by
 obtain⟨i0,hi,hz0,hz1,hz2⟩:=info_parts Tryz.infoI
 have HRT:Hid (∀ (j:Nat) x,T[j]?=some x→w.cell? ⟨gt,j,none⟩=some x.v):=RT
 have HD:Hid (∀ x∈T,x.okI w):=D
 have HDF:Hid (qB T):=hD
 have hgt:gt<w.heap.size:=World.block_lt_of_cell? _ _ (RT 0 _ (List.getElem?_eq_getElem h0))
 clear RT D hD
 go_enter Tryz.func24,Tryz.ntmps24
 go_wp2_with fail
 go_loopw [3,4] (fun v i wr=>∃ (k:Nat) (q:Option Addr) (cp:Nat),k≤T.length∧i=.int .i64 k∧v=.slice q k cp∧wr.ownsRow w.heap.size 143 1 v k (bC (T.take k))∧w.grownBy wr none) (fun _ i _=>T.length - (intOf i).toNat)
 case atStart=>exact⟨0,none,0,Nat.zero_le _,rfl,rfl,World.ownsRow_nil _ _ _ _,ay _ _⟩
 case round =>
  obtain⟨k,q,cp,hk,rfl,rfl,O,G⟩:=hrel
  by_cases hlt:k<T.length
  ·obtain⟨x,hx⟩:∃ x,T[k]?=some x:=⟨_,List.getElem?_eq_getElem hlt⟩
   have hsn:=iJ hx
   have ck:=G.cell (HRT.out k x hx) (by simp)
   have hok:=HD.out x (List.mem_of_getElem? hx)
   have CK:Hid (∀ X,w.grownBy X none→X.cell? ⟨gt,k,none⟩=some x.v):=fun X hX=>hX.cell (HRT.out k x hx) (by simp)
   have hlt':(k:Int)<(T.length:Int):=by omega
   have hk0:(0:Int)≤(k:Int):=by omega
   have hb:=kB O
   have hz:w.heap.size≤wr.heap.size:=G.size
   clear hx
   obtain⟨xa,xn,xc⟩:=x
   simp only[Lst.v,Lst.f] at hsn ck CK
   rcases hok with ⟨ea,en,ec⟩ | ⟨g,ea,en,ec,_⟩
   ·simp only at ea en ec
    subst ea
    subst en
    subst ec
    simp only[Option.map_none] at hsn ck CK
    have HS:Hid (bC (T.take (k+1))=bC (T.take k)++[.slice none 0 0]):=hsn
    have CK2:Hid (∀ X,w.grownBy X none→X.cell? ⟨gt,k,none⟩=some (.slice none 0 0)):=CK.out
    have Ga:w.grownBy (wr.alloc (Obj.cells #[.slice none 0 0] 143)).drew none:=aa (am G _) (ag _)
    have Gd:w.grownBy wr.drew none:=aa G (ag _)
    clear hsn CK
    go_wp2_with fail
    go_region_held3 (fun w'=>w'.cell? ⟨gt,k,none⟩=some (.slice none 0 0)) (first | exact CK2.out _ G5 | exact CK2.out _ Ga | exact CK2.out _ Gd) ((refine step_append_lies _ (by rfl) (.tmp 15) (.tmp 26) 51 (by rfl) w.heap.size 143 i0 (.slice none 0 0) 1 24 Tryz.underlying51 hi hz0 hz1 hz2 (by rfl) (by decide) (.slice q k cp) k (bC (T.take k)) (by rfl) (by exact O.alloc _) ⟨wr.heap.size,0,none⟩ 1 1 [.slice none 0 0] (by rfl) (by rfl) (cell_one_new _ _ _) (fun x hx=>by simp at hx;subst hx;rfl) (by omega) (fC (by omega)) (by omega) (by simp;omega) (wr.heap.size+1) (by simp) ?_;intro g5 cap5 w5 O5 gr5 hat5 hlt5;have G5:=az Ga gr5 hb))
    rw[←HS.out] at O5
    clear hat5 hlt5 gr5 Ga Gd CK2 O G ck hb
    go_wp2_with fail
    go_roundw
    case rel=>exact⟨k+1,_,_,by omega,by go_num,rfl,O5,G5⟩
    case measure=>simp[intOf];omega
   ·simp only at ea en ec
    subst ea
    simp only[Option.map_some] at hsn ck CK
    have hn0:(0:Int)≤(xc:Int):=by omega
    have hn1:(xc:Int)≤(xc:Int):=Int.le_refl _
    clear ec en
    have HS:Hid (bC (T.take (k+1))=bC (T.take k)++[.slice (some ⟨g,0,none⟩) xc xc]):=hsn
    have CK2:Hid (∀ X,w.grownBy X none→X.cell? ⟨gt,k,none⟩=some (.slice (some ⟨g,0,none⟩) xn xc)):=CK.out
    have Ga:w.grownBy (wr.alloc (Obj.cells #[.slice (some ⟨g,0,none⟩) xc xc] 143)).drew none:=aa (am G _) (ag _)
    have Gd:w.grownBy wr.drew none:=aa G (ag _)
    clear hsn CK
    go_wp2_with fail
    go_region_held3 (fun w'=>w'.cell? ⟨gt,k,none⟩=some (.slice (some ⟨g,0,none⟩) xn xc)) (first | exact CK2.out _ G5 | exact CK2.out _ Ga | exact CK2.out _ Gd) ((refine step_append_lies _ (by rfl) (.tmp 15) (.tmp 26) 51 (by rfl) w.heap.size 143 i0 (.slice none 0 0) 1 24 Tryz.underlying51 hi hz0 hz1 hz2 (by rfl) (by decide) (.slice q k cp) k (bC (T.take k)) (by rfl) (by exact O.alloc _) ⟨wr.heap.size,0,none⟩ 1 1 [.slice (some ⟨g,0,none⟩) xc xc] (by rfl) (by rfl) (cell_one_new _ _ _) (fun x hx=>by simp at hx;subst hx;rfl) (by omega) (fC (by omega)) (by omega) (by simp;omega) (wr.heap.size+1) (by simp) ?_;intro g5 cap5 w5 O5 gr5 hat5 hlt5;have G5:=az Ga gr5 hb))
    rw[←HS.out] at O5
    clear hat5 hlt5 gr5 Ga Gd CK2 O G ck hb
    go_wp2_with fail
    go_roundw
    case rel=>exact⟨k+1,_,_,by omega,by go_num,rfl,O5,G5⟩
    case measure=>simp[intOf];omega
  ·have ek:k=T.length:=by omega
   subst ek
   rw[List.take_of_length_le (Nat.le_refl _)] at O
   obtain⟨ga,capa,ea,hga,RA,cA⟩:=sy O h0
   obtain⟨rfl,rfl⟩:q=some ⟨ga,0,none⟩∧cp=capa:=by simpa using ea
   obtain⟨wz,hwz⟩:∃ wz,wz=wr:=⟨_,rfl⟩
   subst hwz
   have hga2:ga ∉ aU T:=fun h=>by
    obtain⟨x,hx,e⟩:=List.mem_filterMap.1 h
    rcases HD.out x hx with ⟨h,_⟩ | ⟨g',h,_,_,cs,h1,_⟩
    ·rw[h] at e;cases e
    ·rw[h] at e
     obtain rfl:=Option.some.inj e
     have:=bn h1
     omega
   have M:=xC HD.out G
   have HR:Hid (∀ X,Kpt (aU T) wz X→∀ (j:Nat) x,T[j]?=some x→X.cell? ⟨ga,j,none⟩=some x.f):=fun X hX j x hj=>hX.cell (RA j x hj) hga2
   have HL:Hid (∀ (j:Nat) x,T[j]?=some x→lim x.cap):=fun j x hj=>by
    rcases HD.out x (List.mem_of_getElem? hj) with ⟨_,_,h⟩ | ⟨_,_,_,h,_⟩
    ·rw[h];exact Nat.zero_le _
    ·exact h
   have HN:Hid (∀ (j:Nat) x,T[j]?=some x→x.a=none→x.cap=0):=fun j x hj ha=>by
    rcases HD.out x (List.mem_of_getElem? hj) with ⟨_,_,h⟩ | ⟨_,h,_⟩
    ·exact h
    ·rw[h] at ha;cases ha
   have K0:Kpt (aU T) wz wz:=Kpt.refl _ _
   have HGz:Hid (w.grownBy wz none):=G
   clear RA cA ea O HRT hlt hk G
   go_wp2_with fail
   go_loopw [5] (fun i wq=>∃ k:Nat,k≤T.length∧i=.int .i64 k∧MkI wq T k 0∧Kpt (aU T) wz wq) (fun i _=>T.length - (intOf i).toNat)
   case atStart=>exact⟨0,Nat.zero_le _,rfl,M,K0⟩
   case round =>
    clear M K0
    obtain⟨k,hk,rfl,M,KQ⟩:=hrel
    by_cases hlt:k<T.length
    ·obtain⟨x,hx⟩:∃ x,T[k]?=some x:=⟨_,List.getElem?_eq_getElem hlt⟩
     have hlim:=HL.out k x hx
     have hnil:=HN.out k x hx
     have hlt':(k:Int)<(T.length:Int):=by omega
     have hk0:(0:Int)≤(k:Int):=by omega
     have hwk:wrap64 ((k:Int)+1)=(k:Int)+1:=by unfold wrap64;omega
     obtain⟨xa,xn,xc⟩:=x
     simp only at hlim hnil
     cases xa with
     | none =>
      obtain rfl:=hnil rfl
      have M2:=M.next hx (Nat.zero_le _)
      have ck:∀ X,Kpt (aU T) wz X→X.cell? ⟨ga,k,none⟩=some (.slice none 0 0):=fun X hX=>HR.out X hX k _ hx
      have c1:=ck wr KQ
      have HM2:Hid (MkI wr T (k+1) 0):=M2
      have HKQ:Hid (Kpt (aU T) wz wr):=KQ
      obtain⟨wx,hwx⟩:∃ wx,wx=wr:=⟨_,rfl⟩
      subst hwx
      clear hx M M2 KQ ck hnil hlim hk
      go_wp2_with fail
      go_loopw [6] (fun i wp=>i=.int .i64 0∧wp=wx) (fun _ _=>0)
      case atStart=>exact⟨rfl,rfl⟩
      case round =>
       obtain⟨rfl,rfl⟩:=hrel
       go_wp2_with fail
       go_roundw
       case rel=>exact⟨k+1,hlt,by first | rfl | (rw[hwk];rfl),HM2.out,HKQ.out⟩
       case measure=>first | exact au hlt | (rw[hwk];exact au hlt)
     | some g =>
      have HXK:Hid (T[k]?=some ⟨some g,xn,xc⟩):=hx
      have HLIM:Hid (lim xc):=hlim
      clear hx hnil hlim hk
      go_wp2_with fail
      go_loopw [6] (fun i wp=>∃ m:Nat,m≤xc∧i=.int .i64 m∧MkI wp T k m∧Kpt (aU T) wz wp) (fun i _=>xc - (intOf i).toNat)
      case atStart=>exact⟨0,Nat.zero_le _,rfl,M,KQ⟩
      case round =>
       clear M KQ
       obtain⟨m,hm,rfl,M,KP⟩:=hrel
       have ck:wr.cell? ⟨ga,k,none⟩=some (.slice (some ⟨g,0,none⟩) xc xc):=HR.out wr KP k _ HXK.out
       have HM:Hid (MkI wr T k m):=M
       have HKP:Hid (Kpt (aU T) wz wr):=KP
       clear M KP
       by_cases hml:m<xc
       ·have hm0:(0:Int)≤(m:Int):=by omega
        have hm1:(m:Int)<(xc:Int):=by omega
        have hwm:=HLIM.out.wrap hml
        clear hm
        go_wp2_with fail
        have S0:sP ga k g xc wr.drew:=ck
        refine wp_region_held_drew (S:=sP ga k g xc) (by kernel_rfl) S0 (fun hHeld=>?_)
        clear hHeld
        refine QZ 0 rfl ?_
        go_frame
        refine QZ 1 rfl ?_
        go_frame
        refine QZ 2 rfl ?_
        go_frame
        refine QT 3 rfl (by intro w0 hSw;have hSc:=sP.c hSw;go_simp;try with_reducible rfl) ?_
        go_frame
        refine QZ 4 rfl ?_
        go_frame
        refine QZ 5 rfl ?_
        go_frame
        refine QZ 6 rfl ?_
        go_frame
        refine QR 7 rfl (fun K hK=>?_)
        go_simp
        go_at_call 83
        refine(nY _ _ _).mono ?_
        rintro e w3 ⟨rfl,g3⟩
        have g3':wr.grownBy w3 none:=aa (ag _) g3
        have KP3:=HKP.out.grow g3'
        have M3:=HM.out.keep g3'
        have S1:sP ga k g xc w3:=HR.out w3 KP3 k _ HXK.out
        refine hK.out _ _ S1 (fun hHeld2=>?_)
        clear hK K hHeld2 g3 g3'
        (try go_frame)
        refine QZ 8 rfl ?_
        go_frame
        have RM:lN w3 g xc:=M3.room HXK.out rfl
        obtain⟨v0,e0⟩:=RM.cell hml
        have ef:=fun i=>RM.free i
        refine QR 9 rfl (fun K hK=>?_)
        go_simp
        have K4:Kpt (aU T) wz (pH w3 g m (mkI k m)):=KP3.trans (Kpt.of_grown (mO w3 g m (mkI k m))) (fun y hy=>Or.inl (by
         have:y=g:=by simpa using hy
         rw[this]
         exact js HXK.out rfl))
        have M4:MkI (pH w3 g m (mkI k m)) T k (m+1):=M3.step HDF.out HXK.out rfl hml
        have S4:sP ga k g xc (pH w3 g m (mkI k m)):=HR.out _ K4 k _ HXK.out
        have HK4:Hid (Kpt (aU T) wz (pH w3 g m (mkI k m))):=K4
        have HM4:Hid (MkI (pH w3 g m (mkI k m)) T k (m+1)):=M4
        clear RM e0 ef KP3 M3 S1 S0 K4 M4
        unfold pH at S4 HK4 HM4
        refine hK.out _ _ S4 (fun hHeld2=>?_)
        clear hK K hHeld2 S4
        refine QD ?_
        go_wp2_with fail
        go_roundw
        case rel=>exact⟨m+1,hml,by first | rfl | (rw[hwm];rfl),HM4.out,HK4.out⟩
        case measure=>first | exact au hml | (rw[hwm];exact au hml)
       ·have hml':¬(m:Int)<(xc:Int):=by omega
        have HM2:Hid (MkI wr T (k+1) 0):=HM.out.next HXK.out (Nat.le_of_not_lt hml)
        clear hm
        go_wp2_with fail
        go_roundw
        case rel=>exact⟨k+1,hlt,by first | rfl | (rw[hwk];rfl),HM2.out,HKP.out⟩
        case measure=>first | exact au hlt | (rw[hwk];exact au hlt)
    ·have ek:k=T.length:=by omega
     subst ek
     obtain⟨wy,hwy⟩:∃ wy,wy=wr:=⟨_,rfl⟩
     subst hwy
     have HMY:Hid (MkI wy T T.length 0):=M
     have HKY:Hid (Kpt (aU T) wz wy):=KQ
     have HC:Hid (∀ (j:Nat) x,T[j]?=some x→wy.cell? ⟨ga,j,none⟩=some x.f):=HR.out wy KQ
     clear HR hk hlt M KQ
     go_wp2_with fail
     go_loopw [7] (fun i wq=>∃ k:Nat,k≤T.length∧i=.int .i64 k∧wy.grownBy wq none) (fun i _=>T.length - (intOf i).toNat)
     case atStart=>exact⟨0,Nat.zero_le _,rfl,ay _ _⟩
     case round =>
      obtain⟨k,hk,rfl,GQ⟩:=hrel
      by_cases hlt:k<T.length
      ·obtain⟨x,hx⟩:∃ x,T[k]?=some x:=⟨_,List.getElem?_eq_getElem hlt⟩
       have hlim:=HL.out k x hx
       have hnil:=HN.out k x hx
       have hlt':(k:Int)<(T.length:Int):=by omega
       have hk0:(0:Int)≤(k:Int):=by omega
       have hwk:wrap64 ((k:Int)+1)=(k:Int)+1:=by unfold wrap64;omega
       have hcy:=HC.out k x hx
       obtain⟨xa,xn,xc⟩:=x
       simp only at hlim hnil
       have HGQ:Hid (wy.grownBy wr none):=GQ
       cases xa with
       | none =>
        obtain rfl:=hnil rfl
        have c1:wr.cell? ⟨ga,k,none⟩=some (.slice none 0 0):=GQ.cell hcy (by simp)
        obtain⟨wx,hwx⟩:∃ wx,wx=wr:=⟨_,rfl⟩
        subst hwx
        clear hx hnil hlim hk hcy GQ
        go_wp2_with fail
        go_loopw [8] (fun i wp=>i=.int .i64 0∧wp=wx) (fun _ _=>0)
        case atStart=>exact⟨rfl,rfl⟩
        case round =>
         obtain⟨rfl,rfl⟩:=hrel
         go_wp2_with fail
         go_roundw
         case rel=>exact⟨k+1,hlt,by first | rfl | (rw[hwk];rfl),HGQ.out⟩
         case measure=>first | exact au hlt | (rw[hwk];exact au hlt)
       | some g =>
        have CK:Hid (wy.cell? ⟨ga,k,none⟩=some (.slice (some ⟨g,0,none⟩) xc xc)):=hcy
        have RD:Hid (∀ m,m<xc→wy.cell? ⟨g,m,none⟩=some (.int .i64 (mkI k m))):=fun m hm=>HMY.out.read hx rfl hm
        have HLIM:Hid (lim xc):=hlim
        obtain⟨wx,hwx⟩:∃ wx,wx=wr:=⟨_,rfl⟩
        subst hwx
        clear hx hnil hlim hk hcy GQ
        go_wp2_with fail
        go_loopw [8] (fun i wp=>∃ m:Nat,m≤xc∧i=.int .i64 m∧wy.grownBy wp none) (fun i _=>xc - (intOf i).toNat)
        case atStart=>exact⟨0,Nat.zero_le _,rfl,HGQ.out⟩
        case round =>
         obtain⟨m,hm,rfl,GP⟩:=hrel
         have ck:=GP.cell CK.out (by simp)
         have HGP:Hid (wy.grownBy wr none):=GP
         by_cases hml:m<xc
         ·have RDm:wr.cell? ⟨g,m,none⟩=some (.int .i64 (mkI k m)):=GP.cell (RD.out m hml) (by simp)
          have hm0:(0:Int)≤(m:Int):=by omega
          have hm1:(m:Int)<(xc:Int):=by omega
          have hwm:=HLIM.out.wrap hml
          clear hm GP
          go_wp2_with fail
          have S0:oN ga k g xc m wr.drew:=⟨ck,(ag wr).cell RDm (by simp)⟩
          refine wp_region_held_drew (S:=oN ga k g xc m) (by kernel_rfl) S0 (fun hHeld=>?_)
          clear hHeld
          refine QZ 0 rfl ?_
          go_frame
          refine QZ 1 rfl ?_
          go_frame
          refine QZ 2 rfl ?_
          go_frame
          refine QT 3 rfl (by intro w0 hSw;have hSc:=oN.c hSw;go_simp;try with_reducible rfl) ?_
          go_frame
          refine QZ 4 rfl ?_
          go_frame
          refine QZ 5 rfl ?_
          go_frame
          refine QT 6 rfl (by intro w0 hSw;have p0:=oN.p hSw;go_simp;try with_reducible rfl) ?_
          go_frame
          refine QZ 7 rfl ?_
          go_frame
          refine QZ 8 rfl ?_
          go_frame
          refine QR 9 rfl (fun K hK=>?_)
          go_simp
          go_at_call 83
          refine(nY _ _ _).mono ?_
          rintro e w3 ⟨rfl,g3⟩
          have G3:Hid (wy.grownBy w3 none):=aa HGP.out (aa (ag _) g3)
          have S1:oN ga k g xc m w3:=⟨G3.out.cell CK.out (by simp),G3.out.cell (RD.out m hml) (by simp)⟩
          refine hK.out _ _ S1 (fun hHeld2=>?_)
          clear hK K hHeld2 g3
          (try go_frame)
          refine QZ 10 rfl ?_
          go_frame
          refine QD ?_
          clear S0 S1
          go_wp2_with fail
          go_roundw
          case rel=>exact⟨m+1,hml,by first | rfl | (rw[hwm];rfl),G3.out⟩
          case measure=>first | exact au hml | (rw[hwm];exact au hml)
         ·have hml':¬(m:Int)<(xc:Int):=by omega
          clear hm GP
          go_wp2_with fail
          go_roundw
          case rel=>exact⟨k+1,hlt,by first | rfl | (rw[hwk];rfl),HGP.out⟩
          case measure=>first | exact au hlt | (rw[hwk];exact au hlt)
      ·have hlt':¬(k:Int)<(T.length:Int):=by omega
       clear hk hlt
       go_wp2
       go_ret
       exact⟨rfl,((Kpt.of_grown HGz.out).mono (by simp)).trans (HKY.out.trans (Kpt.of_grown GQ) (by simp)) (fun _ hx=>Or.inl hx)⟩
end Go.Proofs.YtjmepebbcnhalaaGreat
