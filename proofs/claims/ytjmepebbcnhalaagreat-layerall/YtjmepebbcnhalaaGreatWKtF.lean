/-
  
-/
import Derived.Test.YtjmepebbcnhalaaGreatW0
import Derived.Test.YtjmepebbcnhalaaGreatW48
namespace Go.Proofs.YtjmepebbcnhalaaGreat
set_option maxRecDepth 100000
set_option maxHeartbeats 2000000
open Go.RowKit

def jX (w:World) (g cap:Nat):Prop:=∃ cs,w.heap[g]?=some (.cells cs 122 (0,0))∧cs.size=cap*5
theorem jX.cell {w:World} {g cap:Nat} (h:jX w g cap) {i:Nat} (hi:i<cap*5):∃ u,w.cell? ⟨g,i,none⟩=some u:=by
 obtain⟨cs,h1,h2⟩:=h
 exact⟨_,by rw[ae h1];exact Array.getElem?_eq_getElem (by omega)⟩
theorem jX.free {w:World} {g cap:Nat} (h:jX w g cap) (i:Nat):w.frozen? ⟨g,i,none⟩=false:=by
 obtain⟨cs,h1,h2⟩:=h
 exact aA h1 i
theorem jX.five {w:World} {g cap m:Nat} (h:jX w g cap) (hm:m<cap):∃ v0 v1 v2 v3 v4,w.cell? ⟨g,m*5,none⟩=some v0∧w.cell? ⟨g,m*5+1,none⟩=some v1∧w.cell? ⟨g,m*5+2,none⟩=some v2∧w.cell? ⟨g,m*5+3,none⟩=some v3∧w.cell? ⟨g,m*5+4,none⟩=some v4:=by
 obtain⟨v0,e0⟩:=h.cell (i:=m*5) (by omega)
 obtain⟨v1,e1⟩:=h.cell (i:=m*5+1) (by omega)
 obtain⟨v2,e2⟩:=h.cell (i:=m*5+2) (by omega)
 obtain⟨v3,e3⟩:=h.cell (i:=m*5+3) (by omega)
 obtain⟨v4,e4⟩:=h.cell (i:=m*5+4) (by omega)
 exact⟨v0,v1,v2,v3,v4,e0,e1,e2,e3,e4⟩
def Lst.okF (w:World) (x:Lst):Prop:=(x.a=none∧x.n=0∧x.cap=0)∨∃ g,x.a=some g∧x.n≤x.cap∧lim x.cap∧jX w g x.cap
def iM (i k:Int):Fe:=⟨mkT i,0,0,k,0⟩
theorem nv (i k:Int) (w:World):Calls Tryz.prog 84 #[.int .i64 i,.int .i64 k] w fun e w'=>e=.returned (.agg #[.int .i64 (mkT i),.int .u8 0,.int .u16 0,.int .i64 k,.int .i64 0])∧w.grownBy w' none:=by
 go_enter Tryz.func84,Tryz.ntmps84
 go_wp2
 refine bodyPost_ret (v:=.agg #[.int .i64 (mkT i),.int .u8 0,.int .u16 0,.int .i64 k,.int .i64 0]) (by simp[results,Tryz.results84,go_sem,mkT]) rfl ⟨rfl,?_⟩
 exact World.grownBy_alloc _ _ _
def fT (w:World) (T:List Lst) (i k:Nat):Prop:=∀ (j:Nat) (x:Lst) (g:Nat),T[j]?=some x→x.a=some g→∃ cs,w.heap[g]?=some (.cells cs 122 (0,0))∧cs.size=x.cap*5∧∀ m,m<x.cap→(j<i∨(j=i∧m<k))→∀ (c:Nat) u,(fec (iM j m))[c]?=some u→cs[m*5+c]?=some u
theorem fT.keep {w w':World} {T:List Lst} {i k:Nat} (M:fT w T i k) (g:w.grownBy w' none):fT w' T i k:=fun j x b hj hb=>by
 obtain⟨cs,h1,h2⟩:=M j x b hj hb
 exact⟨cs,ai g h1 (by simp),h2⟩
theorem tt {w w':World} {T:List Lst} (D:∀ x∈T,x.okF w) (g:w.grownBy w' none):fT w' T 0 0:=fun j x b hj hb=>by
 rcases D x (List.mem_of_getElem? hj) with ⟨h,_⟩ | ⟨g',h,_,_,cs,h1,h2⟩
 ·rw[h] at hb;cases hb
 ·rw[h] at hb
  obtain rfl:=Option.some.inj hb
  exact⟨cs,ai g h1 (by simp),h2,fun m _ h=>by omega⟩
theorem fT.room {w:World} {T:List Lst} {i k j g:Nat} {x:Lst} (M:fT w T i k) (hj:T[j]?=some x) (hg:x.a=some g):jX w g x.cap:=by
 obtain⟨cs,h1,h2,_⟩:=M j x g hj hg
 exact⟨cs,h1,h2⟩
theorem fT.read {w:World} {T:List Lst} {g:Nat} {j:Nat} {x:Lst} (M:fT w T T.length 0) (hj:T[j]?=some x) (hg:x.a=some g) {m:Nat} (hm:m<x.cap):w.rangeAt g (m*5) (fec (iM j m)):=by
 obtain⟨cs,h1,h2,h3⟩:=M j x g hj hg
 have hl:=(List.getElem?_eq_some_iff.1 hj).1
 have f:=h3 m hm (Or.inl hl)
 have e:∀ c u,(fec (iM j m))[c]?=some u→w.cell? ⟨g,m*5+c,none⟩=some u:=fun c u hu=>by rw[ae h1];exact f c u hu
 exact e
def oR (w:World) (g o:Nat) (p:Fe):World:=((((w.setCell ⟨g,o,none⟩ (.int .i64 p.ho)).setCell ⟨g,o+1,none⟩ (.int .u8 p.su)).setCell ⟨g,o+2,none⟩ (.int .u16 p.tr)).setCell ⟨g,o+3,none⟩ (.int .i64 p.po)).setCell ⟨g,o+4,none⟩ (.int .i64 p.he)
def rn (cs:Array Value) (o:Nat) (p:Fe):Array Value:=((((cs.setIfInBounds o (.int .i64 p.ho)).setIfInBounds (o+1) (.int .u8 p.su)).setIfInBounds (o+2) (.int .u16 p.tr)).setIfInBounds (o+3) (.int .i64 p.po)).setIfInBounds (o+4) (.int .i64 p.he)
theorem ut {w:World} {g:Nat} {cs:Array Value} (h:w.heap[g]?=some (.cells cs 122 (0,0))) (o:Nat) (p:Fe):(oR w g o p).heap[g]?=some (.cells (rn cs o p) 122 (0,0)) :=
 aF (aF (aF (aF (aF h _ _) _ _) _ _) _ _) _ _
theorem lW (w:World) (g o:Nat) (p:Fe):w.grownBy (oR w g o p) (some g) :=
 aa (aa (aa (aa (aw _ _ _ _) (aw _ _ _ _)) (aw _ _ _ _)) (aw _ _ _ _)) (aw _ _ _ _)
theorem wU (cs:Array Value) (o:Nat) (p:Fe):(rn cs o p).size=cs.size:=by simp[rn]
theorem xj {cs:Array Value} {o i:Nat} {p:Fe} (h:i<o∨o+5≤i):(rn cs o p)[i]?=cs[i]?:=by
 unfold rn
 rw[Array.getElem?_setIfInBounds_ne (by omega),Array.getElem?_setIfInBounds_ne (by omega),Array.getElem?_setIfInBounds_ne (by omega),Array.getElem?_setIfInBounds_ne (by omega),Array.getElem?_setIfInBounds_ne (by omega)]
theorem AV {cs:Array Value} {o c:Nat} {p:Fe} {u:Value} (h:o+5≤cs.size) (hu:(fec p)[c]?=some u):(rn cs o p)[o+c]?=some u:=by
 have hc:c<5:=(List.getElem?_eq_some_iff.1 hu).1
 rcases (show c=0∨c=1∨c=2∨c=3∨c=4 from by omega) with rfl | rfl | rfl | rfl | rfl
 all_goals
  simp only[fec,List.getElem?_cons_zero,List.getElem?_cons_succ,Option.some.injEq] at hu
  subst hu
  simp[rn,Array.getElem?_setIfInBounds]
  omega
theorem fT.step {w:World} {T:List Lst} {i k g:Nat} {x:Lst} (M:fT w T i k) (hD:qB T) (hi:T[i]?=some x) (hg:x.a=some g) (hk:k<x.cap):fT (oR w g (k*5) (iM i k)) T i (k+1):=fun j y b hj hb=>by
 obtain⟨cs,h1,h2,h3⟩:=M j y b hj hb
 by_cases e:b=g
 ·subst e
  obtain rfl:=hD j i y x b hj hi hb hg
  obtain rfl:y=x:=Option.some.inj (hj.symm.trans hi)
  refine⟨rn cs (k*5) (iM j k),ut h1 _ _,by rw[wU];exact h2,fun m hm h c u hu=>?_⟩
  have hc:c<5:=(List.getElem?_eq_some_iff.1 hu).1
  by_cases em:m=k
  ·subst em
   exact AV (by omega) hu
  ·rw[xj (by omega)]
   exact h3 m hm (by omega) c u hu
 ·refine⟨cs,ai (lW w g _ _) h1 (by simpa using e),h2,fun m hm h=>h3 m hm ?_⟩
  by_cases ej:j=i
  ·subst ej
   obtain rfl:y=x:=Option.some.inj (hj.symm.trans hi)
   rw[hg] at hb
   exact absurd (Option.some.inj hb).symm e
  ·omega
theorem fT.next {w:World} {T:List Lst} {i k:Nat} {x:Lst} (M:fT w T i k) (hi:T[i]?=some x) (hk:x.cap≤k):fT w T (i+1) 0:=fun j y b hj hb=>by
 obtain⟨cs,h1,h2,h3⟩:=M j y b hj hb
 refine⟨cs,h1,h2,fun m hm h=>h3 m hm ?_⟩
 by_cases e:j=i
 ·subst e
  obtain rfl:y=x:=Option.some.inj (hj.symm.trans hi)
  omega
 ·omega
theorem Tryz.infoLF:(Tryz.prog.info? 27).map (fun i=>(i.zero,i.size,i.bytes))=some (some (.slice none 0 0),1,24):=by kernel_rfl
theorem sF {w:World} {base:Nat} {v:Value} {T:List Lst} (h:w.ownsRow base 27 1 v T.length (bC T)) (h0:0<T.length):∃ g cap,v=.slice (some ⟨g,0,none⟩) T.length cap∧base≤g∧(∀ (j:Nat) x,T[j]?=some x→w.cell? ⟨g,j,none⟩=some x.f)∧∃ cs,w.heap[g]?=some (.cells cs 27 (0,0)):=by
 obtain⟨h1,h2⟩:=h
 rcases h2 with ⟨rfl,e⟩ | ⟨g,cap,cur,rfl,hg0,hh,hn,hm,hs,ht⟩
 ·omega
 ·refine⟨g,cap,rfl,hg0,fun j x hj=>?_,cur,hh⟩
  have hl:=(List.getElem?_eq_some_iff.1 hj).1
  have e:(bC T)[j]?=some x.f:=by unfold bC;rw[List.getElem?_map,hj];rfl
  rw[ae hh,←e,←ht,List.getElem?_take,if_pos (by omega)]
  simp
def sZ (ga k g xc:Nat) (w:World):Prop:=w.cell? ⟨ga,k,none⟩=some (.slice (some ⟨g,0,none⟩) xc xc)
theorem sZ.c {ga k g xc:Nat} {w:World} (h:sZ ga k g xc w):w.cell? ⟨ga,k,none⟩=some (.slice (some ⟨g,0,none⟩) xc xc):=h
def qf (ga k g xc m:Nat) (w:World):Prop:=w.cell? ⟨ga,k,none⟩=some (.slice (some ⟨g,0,none⟩) xc xc)∧w.rangeAt g (m*5) (fec (iM k m))
theorem qf.c {ga k g xc m:Nat} {w:World} (h:qf ga k g xc m w):w.cell? ⟨ga,k,none⟩=some (.slice (some ⟨g,0,none⟩) xc xc):=h.1
theorem qf.p {ga k g xc m:Nat} {w:World} (h:qf ga k g xc m w):w.rangeAt g (m*5) (fec (iM k m)):=h.2
theorem tS (gt ct:Nat) (T:List Lst) (w:World) (h0:0<T.length) (h3:T.length≤40) (RT:∀ (j:Nat) x,T[j]?=some x→w.cell? ⟨gt,j,none⟩=some x.v) (D:∀ x∈T,x.okF w) (hD:qB T):Calls Tryz.prog 25 #[.slice (some ⟨gt,0,none⟩) T.length ct] w fun e w'=>e=.returned (.bool true)∧Kpt (aU T) w w':=by
 obtain⟨i0,hi,hz0,hz1,hz2⟩:=info_parts Tryz.infoLF
 have HRT:Hid (∀ (j:Nat) x,T[j]?=some x→w.cell? ⟨gt,j,none⟩=some x.v):=RT
 have HD:Hid (∀ x∈T,x.okF w):=D
 have HDF:Hid (qB T):=hD
 have hgt:gt<w.heap.size:=World.block_lt_of_cell? _ _ (RT 0 _ (List.getElem?_eq_getElem h0))
 clear RT D hD
 go_enter Tryz.func25,Tryz.ntmps25
 go_wp2_with fail
 go_loopw [3,4] (fun v i wr=>∃ (k:Nat) (q:Option Addr) (cp:Nat),k≤T.length∧i=.int .i64 k∧v=.slice q k cp∧wr.ownsRow w.heap.size 27 1 v k (bC (T.take k))∧w.grownBy wr none) (fun _ i _=>T.length - (intOf i).toNat)
 case atStart=>exact⟨0,none,0,Nat.zero_le _,rfl,rfl,World.ownsRow_nil _ _ _ _,ay _ _⟩
 case round =>
  obtain⟨k,q,cp,hk,rfl,rfl,O,G⟩:=hrel
  by_cases hlt:k<T.length
  ·obtain⟨x,hx⟩:∃ x,T[k]?=some x:=⟨_,List.getElem?_eq_getElem hlt⟩
   have hsn:=iJ hx
   have ck:=G.cell (HRT.out k x hx) (by simp)
   have hok:=HD.out x (List.mem_of_getElem? hx)
   have CK:Hid (∀ X,w.grownBy X none→X.cell? ⟨gt,k,none⟩=some x.v):=fun X hX=>hX.cell (HRT.out k x hx) (by simp)
   have hlt':(k:Int)<(T.length:Int):=by omega
   have hk0:(0:Int)≤(k:Int):=by omega
   have hb:=kB O
   have hz:w.heap.size≤wr.heap.size:=G.size
   clear hx
   obtain⟨xa,xn,xc⟩:=x
   simp only[Lst.v,Lst.f] at hsn ck CK
   rcases hok with ⟨ea,en,ec⟩ | ⟨g,ea,en,ec,_⟩
   ·simp only at ea en ec
    subst ea
    subst en
    subst ec
    simp only[Option.map_none] at hsn ck CK
    have HS:Hid (bC (T.take (k+1))=bC (T.take k)++[.slice none 0 0]):=hsn
    have CK2:Hid (∀ X,w.grownBy X none→X.cell? ⟨gt,k,none⟩=some (.slice none 0 0)):=CK.out
    have Ga:w.grownBy (wr.alloc (Obj.cells #[.slice none 0 0] 27)).drew none:=aa (am G _) (ag _)
    have Gd:w.grownBy wr.drew none:=aa G (ag _)
    clear hsn CK
    go_wp2_with fail
    go_region_held3 (fun w'=>w'.cell? ⟨gt,k,none⟩=some (.slice none 0 0)) (first | exact CK2.out _ G5 | exact CK2.out _ Ga | exact CK2.out _ Gd) ((refine step_append_lies _ (by rfl) (.tmp 15) (.tmp 26) 52 (by rfl) w.heap.size 27 i0 (.slice none 0 0) 1 24 Tryz.underlying52 hi hz0 hz1 hz2 (by rfl) (by decide) (.slice q k cp) k (bC (T.take k)) (by rfl) (by exact O.alloc _) ⟨wr.heap.size,0,none⟩ 1 1 [.slice none 0 0] (by rfl) (by rfl) (cell_one_new _ _ _) (fun x hx=>by simp at hx;subst hx;rfl) (by omega) (fC (by omega)) (by omega) (by simp;omega) (wr.heap.size+1) (by simp) ?_;intro g5 cap5 w5 O5 gr5 hat5 hlt5;have G5:=az Ga gr5 hb))
    rw[←HS.out] at O5
    clear hat5 hlt5 gr5 Ga Gd CK2 O G ck hb
    go_wp2_with fail
    go_roundw
    case rel=>exact⟨k+1,_,_,by omega,by go_num,rfl,O5,G5⟩
    case measure=>simp[intOf];omega
   ·simp only at ea en ec
    subst ea
    simp only[Option.map_some] at hsn ck CK
    have hn0:(0:Int)≤(xc:Int):=by omega
    have hn1:(xc:Int)≤(xc:Int):=Int.le_refl _
    clear ec en
    have HS:Hid (bC (T.take (k+1))=bC (T.take k)++[.slice (some ⟨g,0,none⟩) xc xc]):=hsn
    have CK2:Hid (∀ X,w.grownBy X none→X.cell? ⟨gt,k,none⟩=some (.slice (some ⟨g,0,none⟩) xn xc)):=CK.out
    have Ga:w.grownBy (wr.alloc (Obj.cells #[.slice (some ⟨g,0,none⟩) xc xc] 27)).drew none:=aa (am G _) (ag _)
    have Gd:w.grownBy wr.drew none:=aa G (ag _)
    clear hsn CK
    go_wp2_with fail
    go_region_held3 (fun w'=>w'.cell? ⟨gt,k,none⟩=some (.slice (some ⟨g,0,none⟩) xn xc)) (first | exact CK2.out _ G5 | exact CK2.out _ Ga | exact CK2.out _ Gd) ((refine step_append_lies _ (by rfl) (.tmp 15) (.tmp 26) 52 (by rfl) w.heap.size 27 i0 (.slice none 0 0) 1 24 Tryz.underlying52 hi hz0 hz1 hz2 (by rfl) (by decide) (.slice q k cp) k (bC (T.take k)) (by rfl) (by exact O.alloc _) ⟨wr.heap.size,0,none⟩ 1 1 [.slice (some ⟨g,0,none⟩) xc xc] (by rfl) (by rfl) (cell_one_new _ _ _) (fun x hx=>by simp at hx;subst hx;rfl) (by omega) (fC (by omega)) (by omega) (by simp;omega) (wr.heap.size+1) (by simp) ?_;intro g5 cap5 w5 O5 gr5 hat5 hlt5;have G5:=az Ga gr5 hb))
    rw[←HS.out] at O5
    clear hat5 hlt5 gr5 Ga Gd CK2 O G ck hb
    go_wp2_with fail
    go_roundw
    case rel=>exact⟨k+1,_,_,by omega,by go_num,rfl,O5,G5⟩
    case measure=>simp[intOf];omega
  ·have ek:k=T.length:=by omega
   subst ek
   rw[List.take_of_length_le (Nat.le_refl _)] at O
   obtain⟨ga,capa,ea,hga,RA,cA⟩:=sF O h0
   obtain⟨rfl,rfl⟩:q=some ⟨ga,0,none⟩∧cp=capa:=by simpa using ea
   obtain⟨wz,hwz⟩:∃ wz,wz=wr:=⟨_,rfl⟩
   subst hwz
   have hga2:ga ∉ aU T:=fun h=>by
    obtain⟨x,hx,e⟩:=List.mem_filterMap.1 h
    rcases HD.out x hx with ⟨h,_⟩ | ⟨g',h,_,_,cs,h1,_⟩
    ·rw[h] at e;cases e
    ·rw[h] at e
     obtain rfl:=Option.some.inj e
     have:=bn h1
     omega
   have M:=tt HD.out G
   have HR:Hid (∀ X,Kpt (aU T) wz X→∀ (j:Nat) x,T[j]?=some x→X.cell? ⟨ga,j,none⟩=some x.f):=fun X hX j x hj=>hX.cell (RA j x hj) hga2
   have HL:Hid (∀ (j:Nat) x,T[j]?=some x→lim x.cap):=fun j x hj=>by
    rcases HD.out x (List.mem_of_getElem? hj) with ⟨_,_,h⟩ | ⟨_,_,_,h,_⟩
    ·rw[h];exact Nat.zero_le _
    ·exact h
   have HN:Hid (∀ (j:Nat) x,T[j]?=some x→x.a=none→x.cap=0):=fun j x hj ha=>by
    rcases HD.out x (List.mem_of_getElem? hj) with ⟨_,_,h⟩ | ⟨_,h,_⟩
    ·exact h
    ·rw[h] at ha;cases ha
   have K0:Kpt (aU T) wz wz:=Kpt.refl _ _
   have HGz:Hid (w.grownBy wz none):=G
   clear RA cA ea O HRT hlt hk G
   go_wp2_with fail
   go_loopw [5] (fun i wq=>∃ k:Nat,k≤T.length∧i=.int .i64 k∧fT wq T k 0∧Kpt (aU T) wz wq) (fun i _=>T.length - (intOf i).toNat)
   case atStart=>exact⟨0,Nat.zero_le _,rfl,M,K0⟩
   case round =>
    clear M K0
    obtain⟨k,hk,rfl,M,KQ⟩:=hrel
    by_cases hlt:k<T.length
    ·obtain⟨x,hx⟩:∃ x,T[k]?=some x:=⟨_,List.getElem?_eq_getElem hlt⟩
     have hlim:=HL.out k x hx
     have hnil:=HN.out k x hx
     have hlt':(k:Int)<(T.length:Int):=by omega
     have hk0:(0:Int)≤(k:Int):=by omega
     have hwk:wrap64 ((k:Int)+1)=(k:Int)+1:=by unfold wrap64;omega
     obtain⟨xa,xn,xc⟩:=x
     simp only at hlim hnil
     cases xa with
     | none =>
      obtain rfl:=hnil rfl
      have M2:=M.next hx (Nat.zero_le _)
      have ck:∀ X,Kpt (aU T) wz X→X.cell? ⟨ga,k,none⟩=some (.slice none 0 0):=fun X hX=>HR.out X hX k _ hx
      have c1:=ck wr KQ
      have HM2:Hid (fT wr T (k+1) 0):=M2
      have HKQ:Hid (Kpt (aU T) wz wr):=KQ
      obtain⟨wx,hwx⟩:∃ wx,wx=wr:=⟨_,rfl⟩
      subst hwx
      clear hx M M2 KQ ck hnil hlim hk
      go_wp2_with fail
      go_loopw [6] (fun i wp=>i=.int .i64 0∧wp=wx) (fun _ _=>0)
      case atStart=>exact⟨rfl,rfl⟩
      case round =>
       obtain⟨rfl,rfl⟩:=hrel
       go_wp2_with fail
       go_roundw
       case rel=>exact⟨k+1,hlt,by first | rfl | (rw[hwk];rfl),HM2.out,HKQ.out⟩
       case measure=>first | exact au hlt | (rw[hwk];exact au hlt)
     | some g =>
      have HXK:Hid (T[k]?=some ⟨some g,xn,xc⟩):=hx
      have HLIM:Hid (lim xc):=hlim
      clear hx hnil hlim hk
      go_wp2_with fail
      go_loopw [6] (fun i wp=>∃ m:Nat,m≤xc∧i=.int .i64 m∧fT wp T k m∧Kpt (aU T) wz wp) (fun i _=>xc - (intOf i).toNat)
      case atStart=>exact⟨0,Nat.zero_le _,rfl,M,KQ⟩
      case round =>
       clear M KQ
       obtain⟨m,hm,rfl,M,KP⟩:=hrel
       have ck:wr.cell? ⟨ga,k,none⟩=some (.slice (some ⟨g,0,none⟩) xc xc):=HR.out wr KP k _ HXK.out
       have HM:Hid (fT wr T k m):=M
       have HKP:Hid (Kpt (aU T) wz wr):=KP
       clear M KP
       by_cases hml:m<xc
       ·have hm0:(0:Int)≤(m:Int):=by omega
        have hm1:(m:Int)<(xc:Int):=by omega
        have hwm:=HLIM.out.wrap hml
        clear hm
        go_wp2_with fail
        have S0:sZ ga k g xc wr.drew:=ck
        refine wp_region_held_drew (S:=sZ ga k g xc) (by kernel_rfl) S0 (fun hHeld=>?_)
        clear hHeld
        refine QZ 0 rfl ?_
        go_frame
        refine QZ 1 rfl ?_
        go_frame
        refine QZ 2 rfl ?_
        go_frame
        refine QT 3 rfl (by intro w0 hSw;have hSc:=sZ.c hSw;go_simp;try with_reducible rfl) ?_
        go_frame
        refine QZ 4 rfl ?_
        go_frame
        refine QZ 5 rfl ?_
        go_frame
        refine QZ 6 rfl ?_
        go_frame
        refine QR 7 rfl (fun K hK=>?_)
        go_simp
        go_at_call 84
        refine(nv _ _ _).mono ?_
        rintro e w3 ⟨rfl,g3⟩
        have g3':wr.grownBy w3 none:=aa (ag _) g3
        have KP3:=HKP.out.grow g3'
        have M3:=HM.out.keep g3'
        have S1:sZ ga k g xc w3:=HR.out w3 KP3 k _ HXK.out
        refine hK.out _ _ S1 (fun hHeld2=>?_)
        clear hK K hHeld2 g3 g3'
        (try go_frame)
        refine QZ 8 rfl ?_
        go_frame
        have RM:jX w3 g xc:=M3.room HXK.out rfl
        obtain⟨v0,v1,v2,v3,v4,e0,e1,e2,e3,e4⟩:=RM.five hml
        have ef:=fun i=>RM.free i
        refine QR 9 rfl (fun K hK=>?_)
        go_simp
        have K4:Kpt (aU T) wz (oR w3 g (m*5) (iM k m)):=KP3.trans (Kpt.of_grown (lW w3 g (m*5) (iM k m))) (fun y hy=>Or.inl (by
         have:y=g:=by simpa using hy
         rw[this]
         exact js HXK.out rfl))
        have M4:fT (oR w3 g (m*5) (iM k m)) T k (m+1):=M3.step HDF.out HXK.out rfl hml
        have S4:sZ ga k g xc (oR w3 g (m*5) (iM k m)):=HR.out _ K4 k _ HXK.out
        have HK4:Hid (Kpt (aU T) wz (oR w3 g (m*5) (iM k m))):=K4
        have HM4:Hid (fT (oR w3 g (m*5) (iM k m)) T k (m+1)):=M4
        clear RM e0 e1 e2 e3 e4 ef KP3 M3 S1 S0 K4 M4
        unfold oR iM at S4 HK4 HM4
        refine hK.out _ _ S4 (fun hHeld2=>?_)
        clear hK K hHeld2 S4
        refine QD ?_
        go_wp2_with fail
        go_roundw
        case rel=>exact⟨m+1,hml,by first | rfl | (rw[hwm];rfl),HM4.out,HK4.out⟩
        case measure=>first | exact au hml | (rw[hwm];exact au hml)
       ·have hml':¬(m:Int)<(xc:Int):=by omega
        have HM2:Hid (fT wr T (k+1) 0):=HM.out.next HXK.out (Nat.le_of_not_lt hml)
        clear hm
        go_wp2_with fail
        go_roundw
        case rel=>exact⟨k+1,hlt,by first | rfl | (rw[hwk];rfl),HM2.out,HKP.out⟩
        case measure=>first | exact au hlt | (rw[hwk];exact au hlt)
    ·have ek:k=T.length:=by omega
     subst ek
     obtain⟨wy,hwy⟩:∃ wy,wy=wr:=⟨_,rfl⟩
     subst hwy
     have HMY:Hid (fT wy T T.length 0):=M
     have HKY:Hid (Kpt (aU T) wz wy):=KQ
     have HC:Hid (∀ (j:Nat) x,T[j]?=some x→wy.cell? ⟨ga,j,none⟩=some x.f):=HR.out wy KQ
     clear HR hk hlt M KQ
     go_wp2_with fail
     go_loopw [7] (fun i wq=>∃ k:Nat,k≤T.length∧i=.int .i64 k∧wy.grownBy wq none) (fun i _=>T.length - (intOf i).toNat)
     case atStart=>exact⟨0,Nat.zero_le _,rfl,ay _ _⟩
     case round =>
      obtain⟨k,hk,rfl,GQ⟩:=hrel
      by_cases hlt:k<T.length
      ·obtain⟨x,hx⟩:∃ x,T[k]?=some x:=⟨_,List.getElem?_eq_getElem hlt⟩
       have hlim:=HL.out k x hx
       have hnil:=HN.out k x hx
       have hlt':(k:Int)<(T.length:Int):=by omega
       have hk0:(0:Int)≤(k:Int):=by omega
       have hwk:wrap64 ((k:Int)+1)=(k:Int)+1:=by unfold wrap64;omega
       have hcy:=HC.out k x hx
       obtain⟨xa,xn,xc⟩:=x
       simp only at hlim hnil
       have HGQ:Hid (wy.grownBy wr none):=GQ
       cases xa with
       | none =>
        obtain rfl:=hnil rfl
        have c1:wr.cell? ⟨ga,k,none⟩=some (.slice none 0 0):=GQ.cell hcy (by simp)
        obtain⟨wx,hwx⟩:∃ wx,wx=wr:=⟨_,rfl⟩
        subst hwx
        clear hx hnil hlim hk hcy GQ
        go_wp2_with fail
        go_loopw [8] (fun i wp=>i=.int .i64 0∧wp=wx) (fun _ _=>0)
        case atStart=>exact⟨rfl,rfl⟩
        case round =>
         obtain⟨rfl,rfl⟩:=hrel
         go_wp2_with fail
         go_roundw
         case rel=>exact⟨k+1,hlt,by first | rfl | (rw[hwk];rfl),HGQ.out⟩
         case measure=>first | exact au hlt | (rw[hwk];exact au hlt)
       | some g =>
        have CK:Hid (wy.cell? ⟨ga,k,none⟩=some (.slice (some ⟨g,0,none⟩) xc xc)):=hcy
        have RD:Hid (∀ m,m<xc→wy.rangeAt g (m*5) (fec (iM k m))):=fun m hm=>HMY.out.read hx rfl hm
        have HLIM:Hid (lim xc):=hlim
        obtain⟨wx,hwx⟩:∃ wx,wx=wr:=⟨_,rfl⟩
        subst hwx
        clear hx hnil hlim hk hcy GQ
        go_wp2_with fail
        go_loopw [8] (fun i wp=>∃ m:Nat,m≤xc∧i=.int .i64 m∧wy.grownBy wp none) (fun i _=>xc - (intOf i).toNat)
        case atStart=>exact⟨0,Nat.zero_le _,rfl,HGQ.out⟩
        case round =>
         obtain⟨m,hm,rfl,GP⟩:=hrel
         have ck:=GP.cell CK.out (by simp)
         have HGP:Hid (wy.grownBy wr none):=GP
         by_cases hml:m<xc
         ·have RDm:wr.rangeAt g (m*5) (fec (iM k m)):=ba (RD.out m hml) GP
          have hm0:(0:Int)≤(m:Int):=by omega
          have hm1:(m:Int)<(xc:Int):=by omega
          have hwm:=HLIM.out.wrap hml
          have nq:=vh (mkT k) 0 0 m 0
          have ng:=uU
          clear hm GP
          go_wp2_with fail
          have S0:qf ga k g xc m wr.drew:=⟨ck,ba RDm (ag _)⟩
          refine wp_region_held_drew (S:=qf ga k g xc m) (by kernel_rfl) S0 (fun hHeld=>?_)
          clear hHeld
          refine QZ 0 rfl ?_
          go_frame
          refine QZ 1 rfl ?_
          go_frame
          refine QZ 2 rfl ?_
          go_frame
          refine QT 3 rfl (by intro w0 hSw;have hSc:=qf.c hSw;go_simp;try with_reducible rfl) ?_
          go_frame
          refine QZ 4 rfl ?_
          go_frame
          refine QZ 5 rfl ?_
          go_frame
          refine QT 6 rfl (by intro w0 hSw;obtain⟨p0,p1,p2,p3,p4⟩:=bJ (qf.p hSw);simp only[iM] at p0 p1 p2 p3 p4;go_simp;try with_reducible rfl) ?_
          go_frame
          refine QZ 7 rfl ?_
          go_frame
          refine QZ 8 rfl ?_
          go_frame
          refine QR 9 rfl (fun K hK=>?_)
          go_simp
          go_at_call 84
          refine(nv _ _ _).mono ?_
          rintro e w3 ⟨rfl,g3⟩
          have G3:Hid (wy.grownBy w3 none):=aa HGP.out (aa (ag _) g3)
          have S1:qf ga k g xc m w3:=⟨G3.out.cell CK.out (by simp),ba (RD.out m hml) G3.out⟩
          refine hK.out _ _ S1 (fun hHeld2=>?_)
          clear hK K hHeld2 g3
          (try go_frame)
          refine QZ 10 rfl ?_
          go_frame
          refine QD ?_
          clear S0 S1
          go_wp2_with fail
          go_roundw
          case rel=>exact⟨m+1,hml,by first | rfl | (rw[hwm];rfl),G3.out⟩
          case measure=>first | exact au hml | (rw[hwm];exact au hml)
         ·have hml':¬(m:Int)<(xc:Int):=by omega
          clear hm GP
          go_wp2_with fail
          go_roundw
          case rel=>exact⟨k+1,hlt,by first | rfl | (rw[hwk];rfl),HGP.out⟩
          case measure=>first | exact au hlt | (rw[hwk];exact au hlt)
      ·have hlt':¬(k:Int)<(T.length:Int):=by omega
       clear hk hlt
       go_wp2
       go_ret
       exact⟨rfl,((Kpt.of_grown HGz.out).mono (by simp)).trans (HKY.out.trans (Kpt.of_grown GQ) (by simp)) (fun _ hx=>Or.inl hx)⟩
end Go.Proofs.YtjmepebbcnhalaaGreat
