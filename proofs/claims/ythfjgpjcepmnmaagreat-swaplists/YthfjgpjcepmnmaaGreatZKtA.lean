/-
  ApartStandings of lists that lie in blocks of their own answers true: each place holds what was written there.
-/
import Derived.Test.YthfjgpjcepmnmaaGreatZ0
import Derived.Test.YthfjgpjcepmnmaaGreatZ51
namespace Go.Proofs.YthfjgpjcepmnmaaGreat
set_option maxRecDepth 100000
set_option maxHeartbeats 2000000
open Go.RowKit

def RoomD (w:World) (g cap:Nat):Prop:=∃ cs,w.heap[g]?=some (.cells cs 40 (0,0))∧cs.size=cap*10
theorem RoomD.cell {w:World} {g cap:Nat} (h:RoomD w g cap) {i:Nat} (hi:i<cap*10):∃ u,w.cell? ⟨g,i,none⟩=some u:=by
 obtain⟨cs,h1,h2⟩:=h
 exact⟨_,by rw[block_cell h1];exact Array.getElem?_eq_getElem (by omega)⟩
theorem RoomD.free {w:World} {g cap:Nat} (h:RoomD w g cap) (i:Nat):w.frozen? ⟨g,i,none⟩=false:=by
 obtain⟨cs,h1,h2⟩:=h
 exact block_free h1 i
theorem RoomD.ten {w:World} {g cap m:Nat} (h:RoomD w g cap) (hm:m<cap):∃ v0 v1 v2 v3 v4 v5 v6 v7 v8 v9,w.cell? ⟨g,m*10,none⟩=some v0∧w.cell? ⟨g,m*10+1,none⟩=some v1∧w.cell? ⟨g,m*10+2,none⟩=some v2∧w.cell? ⟨g,m*10+3,none⟩=some v3∧w.cell? ⟨g,m*10+4,none⟩=some v4∧w.cell? ⟨g,m*10+5,none⟩=some v5∧w.cell? ⟨g,m*10+6,none⟩=some v6∧w.cell? ⟨g,m*10+7,none⟩=some v7∧w.cell? ⟨g,m*10+8,none⟩=some v8∧w.cell? ⟨g,m*10+9,none⟩=some v9:=by
 obtain⟨v0,e0⟩:=h.cell (i:=m*10) (by omega)
 obtain⟨v1,e1⟩:=h.cell (i:=m*10+1) (by omega)
 obtain⟨v2,e2⟩:=h.cell (i:=m*10+2) (by omega)
 obtain⟨v3,e3⟩:=h.cell (i:=m*10+3) (by omega)
 obtain⟨v4,e4⟩:=h.cell (i:=m*10+4) (by omega)
 obtain⟨v5,e5⟩:=h.cell (i:=m*10+5) (by omega)
 obtain⟨v6,e6⟩:=h.cell (i:=m*10+6) (by omega)
 obtain⟨v7,e7⟩:=h.cell (i:=m*10+7) (by omega)
 obtain⟨v8,e8⟩:=h.cell (i:=m*10+8) (by omega)
 obtain⟨v9,e9⟩:=h.cell (i:=m*10+9) (by omega)
 exact⟨v0,v1,v2,v3,v4,v5,v6,v7,v8,v9,e0,e1,e2,e3,e4,e5,e6,e7,e8,e9⟩
def Lst.okD (w:World) (x:Lst):Prop:=(x.a=none∧x.n=0∧x.cap=0)∨∃ g,x.a=some g∧x.n≤x.cap∧lim x.cap∧RoomD w g x.cap
def mkT (i:Int):Int:=wrap64 (wrap64 (-i) - 1)
def mkSd (i k:Int):Sd:=⟨mkT i,k,⟨0,0,0,0,0,0,0,⟨#[]⟩⟩⟩
theorem markD_any (i k:Int) (w:World):Calls Tryz.prog 80 #[.int .i64 i,.int .i64 k] w fun e w'=>e=.returned (.agg #[.int .i64 (mkT i),.int .i64 k,.int .u8 0,.int .u8 0,.int .u8 0,.int .i64 0,.int .u8 0,.int .u8 0,.int .u8 0,.string ⟨#[]⟩])∧w.grownBy w' none:=by
 go_enter Tryz.func80,Tryz.ntmps80
 go_wp2
 refine bodyPost_ret (v:=.agg #[.int .i64 (mkT i),.int .i64 k,.int .u8 0,.int .u8 0,.int .u8 0,.int .i64 0,.int .u8 0,.int .u8 0,.int .u8 0,.string ⟨#[]⟩]) (by simp[results,Tryz.results80,go_sem,mkT]) rfl ⟨rfl,?_⟩
 exact World.grownBy_alloc _ _ _
def MkSt (w:World) (T:List Lst) (i k:Nat):Prop:=∀ (j:Nat) (x:Lst) (g:Nat),T[j]?=some x→x.a=some g→∃ cs,w.heap[g]?=some (.cells cs 40 (0,0))∧cs.size=x.cap*10∧∀ m,m<x.cap→(j<i∨(j=i∧m<k))→∀ (c:Nat) u,(sdc (mkSd j m))[c]?=some u→cs[m*10+c]?=some u
theorem MkSt.keep {w w':World} {T:List Lst} {i k:Nat} (M:MkSt w T i k) (g:w.grownBy w' none):MkSt w' T i k:=fun j x b hj hb=>by
 obtain⟨cs,h1,h2⟩:=M j x b hj hb
 exact⟨cs,grown_keep g h1 (by simp),h2⟩
theorem mkSt_start {w w':World} {T:List Lst} (D:∀ x∈T,x.okD w) (g:w.grownBy w' none):MkSt w' T 0 0:=fun j x b hj hb=>by
 rcases D x (List.mem_of_getElem? hj) with ⟨h,_⟩ | ⟨g',h,_,_,cs,h1,h2⟩
 ·rw[h] at hb;cases hb
 ·rw[h] at hb
  obtain rfl:=Option.some.inj hb
  exact⟨cs,grown_keep g h1 (by simp),h2,fun m _ h=>by omega⟩
theorem MkSt.room {w:World} {T:List Lst} {i k j g:Nat} {x:Lst} (M:MkSt w T i k) (hj:T[j]?=some x) (hg:x.a=some g):RoomD w g x.cap:=by
 obtain⟨cs,h1,h2,_⟩:=M j x g hj hg
 exact⟨cs,h1,h2⟩
theorem MkSt.read {w:World} {T:List Lst} {g:Nat} {j:Nat} {x:Lst} (M:MkSt w T T.length 0) (hj:T[j]?=some x) (hg:x.a=some g) {m:Nat} (hm:m<x.cap):w.rangeAt g (m*10) (sdc (mkSd j m)):=by
 obtain⟨cs,h1,h2,h3⟩:=M j x g hj hg
 have hl:=(List.getElem?_eq_some_iff.1 hj).1
 have f:=h3 m hm (Or.inl hl)
 have e:∀ c u,(sdc (mkSd j m))[c]?=some u→w.cell? ⟨g,m*10+c,none⟩=some u:=fun c u hu=>by rw[block_cell h1];exact f c u hu
 exact e
def put10 (w:World) (g o:Nat) (p:Sd):World:=(((((((((w.setCell ⟨g,o,none⟩ (.int .i64 p.th)).setCell ⟨g,o+1,none⟩ (.int .i64 p.pl)).setCell ⟨g,o+2,none⟩ (.int .u8 p.wh.wn)).setCell ⟨g,o+3,none⟩ (.int .u8 p.wh.vb)).setCell ⟨g,o+4,none⟩ (.int .u8 p.wh.wm)).setCell ⟨g,o+5,none⟩ (.int .i64 p.wh.ct)).setCell ⟨g,o+6,none⟩ (.int .u8 p.wh.su)).setCell ⟨g,o+7,none⟩ (.int .u8 p.wh.tr)).setCell ⟨g,o+8,none⟩ (.int .u8 p.wh.mr)).setCell ⟨g,o+9,none⟩ (.string p.wh.nm)
def arr10 (cs:Array Value) (o:Nat) (p:Sd):Array Value:=(((((((((cs.setIfInBounds o (.int .i64 p.th)).setIfInBounds (o+1) (.int .i64 p.pl)).setIfInBounds (o+2) (.int .u8 p.wh.wn)).setIfInBounds (o+3) (.int .u8 p.wh.vb)).setIfInBounds (o+4) (.int .u8 p.wh.wm)).setIfInBounds (o+5) (.int .i64 p.wh.ct)).setIfInBounds (o+6) (.int .u8 p.wh.su)).setIfInBounds (o+7) (.int .u8 p.wh.tr)).setIfInBounds (o+8) (.int .u8 p.wh.mr)).setIfInBounds (o+9) (.string p.wh.nm)
theorem put10_block {w:World} {g:Nat} {cs:Array Value} (h:w.heap[g]?=some (.cells cs 40 (0,0))) (o:Nat) (p:Sd):(put10 w g o p).heap[g]?=some (.cells (arr10 cs o p) 40 (0,0)) :=
 block_set (block_set (block_set (block_set (block_set (block_set (block_set (block_set (block_set (block_set h _ _) _ _) _ _) _ _) _ _) _ _) _ _) _ _) _ _) _ _
theorem put10_grown (w:World) (g o:Nat) (p:Sd):w.grownBy (put10 w g o p) (some g) :=
 grown_trans (grown_trans (grown_trans (grown_trans (grown_trans (grown_trans (grown_trans (grown_trans (grown_trans (grown_set _ _ _ _) (grown_set _ _ _ _)) (grown_set _ _ _ _)) (grown_set _ _ _ _)) (grown_set _ _ _ _)) (grown_set _ _ _ _)) (grown_set _ _ _ _)) (grown_set _ _ _ _)) (grown_set _ _ _ _)) (grown_set _ _ _ _)
theorem arr10_size (cs:Array Value) (o:Nat) (p:Sd):(arr10 cs o p).size=cs.size:=by simp[arr10]
theorem arr10_else {cs:Array Value} {o i:Nat} {p:Sd} (h:i<o∨o+10≤i):(arr10 cs o p)[i]?=cs[i]?:=by
 unfold arr10
 rw[Array.getElem?_setIfInBounds_ne (by omega),Array.getElem?_setIfInBounds_ne (by omega),Array.getElem?_setIfInBounds_ne (by omega),Array.getElem?_setIfInBounds_ne (by omega),Array.getElem?_setIfInBounds_ne (by omega),Array.getElem?_setIfInBounds_ne (by omega),Array.getElem?_setIfInBounds_ne (by omega),Array.getElem?_setIfInBounds_ne (by omega),Array.getElem?_setIfInBounds_ne (by omega),Array.getElem?_setIfInBounds_ne (by omega)]
theorem arr10_in {cs:Array Value} {o c:Nat} {p:Sd} {u:Value} (h:o+10≤cs.size) (hu:(sdc p)[c]?=some u):(arr10 cs o p)[o+c]?=some u:=by
 have hc:c<10:=(List.getElem?_eq_some_iff.1 hu).1
 rcases (show c=0∨c=1∨c=2∨c=3∨c=4∨c=5∨c=6∨c=7∨c=8∨c=9 from by omega) with rfl | rfl | rfl | rfl | rfl | rfl | rfl | rfl | rfl | rfl
 all_goals
  simp only[sdc,List.getElem?_cons_zero,List.getElem?_cons_succ,Option.some.injEq] at hu
  subst hu
  simp[arr10,Array.getElem?_setIfInBounds]
  omega
theorem MkSt.step {w:World} {T:List Lst} {i k g:Nat} {x:Lst} (M:MkSt w T i k) (hD:Diff T) (hi:T[i]?=some x) (hg:x.a=some g) (hk:k<x.cap):MkSt (put10 w g (k*10) (mkSd i k)) T i (k+1):=fun j y b hj hb=>by
 obtain⟨cs,h1,h2,h3⟩:=M j y b hj hb
 by_cases e:b=g
 ·subst e
  obtain rfl:=hD j i y x b hj hi hb hg
  obtain rfl:y=x:=Option.some.inj (hj.symm.trans hi)
  refine⟨arr10 cs (k*10) (mkSd j k),put10_block h1 _ _,by rw[arr10_size];exact h2,fun m hm h c u hu=>?_⟩
  have hc:c<10:=(List.getElem?_eq_some_iff.1 hu).1
  by_cases em:m=k
  ·subst em
   exact arr10_in (by omega) hu
  ·rw[arr10_else (by omega)]
   exact h3 m hm (by omega) c u hu
 ·refine⟨cs,grown_keep (put10_grown w g _ _) h1 (by simpa using e),h2,fun m hm h=>h3 m hm ?_⟩
  by_cases ej:j=i
  ·subst ej
   obtain rfl:y=x:=Option.some.inj (hj.symm.trans hi)
   rw[hg] at hb
   exact absurd (Option.some.inj hb).symm e
  ·omega
theorem MkSt.next {w:World} {T:List Lst} {i k:Nat} {x:Lst} (M:MkSt w T i k) (hi:T[i]?=some x) (hk:x.cap≤k):MkSt w T (i+1) 0:=fun j y b hj hb=>by
 obtain⟨cs,h1,h2,h3⟩:=M j y b hj hb
 refine⟨cs,h1,h2,fun m hm h=>h3 m hm ?_⟩
 by_cases e:j=i
 ·subst e
  obtain rfl:y=x:=Option.some.inj (hj.symm.trans hi)
  omega
 ·omega
theorem Tryz.infoLD:(Tryz.prog.info? 27).map (fun i=>(i.zero,i.size,i.bytes))=some (some (.slice none 0 0),1,24):=by kernel_rfl
theorem rowD_of_own {w:World} {base:Nat} {v:Value} {T:List Lst} (h:w.ownsRow base 27 1 v T.length (fcells T)) (h0:0<T.length):∃ g cap,v=.slice (some ⟨g,0,none⟩) T.length cap∧base≤g∧(∀ (j:Nat) x,T[j]?=some x→w.cell? ⟨g,j,none⟩=some x.f)∧∃ cs,w.heap[g]?=some (.cells cs 27 (0,0)):=by
 obtain⟨h1,h2⟩:=h
 rcases h2 with ⟨rfl,e⟩ | ⟨g,cap,cur,rfl,hg0,hh,hn,hm,hs,ht⟩
 ·omega
 ·refine⟨g,cap,rfl,hg0,fun j x hj=>?_,cur,hh⟩
  have hl:=(List.getElem?_eq_some_iff.1 hj).1
  have e:(fcells T)[j]?=some x.f:=by unfold fcells;rw[List.getElem?_map,hj];rfl
  rw[block_cell hh,←e,←ht,List.getElem?_take,if_pos (by omega)]
  simp
def S12D (ga k g xc:Nat) (w:World):Prop:=w.cell? ⟨ga,k,none⟩=some (.slice (some ⟨g,0,none⟩) xc xc)
theorem S12D.c {ga k g xc:Nat} {w:World} (h:S12D ga k g xc w):w.cell? ⟨ga,k,none⟩=some (.slice (some ⟨g,0,none⟩) xc xc):=h
def S19D (ga k g xc m:Nat) (w:World):Prop:=w.cell? ⟨ga,k,none⟩=some (.slice (some ⟨g,0,none⟩) xc xc)∧w.rangeAt g (m*10) (sdc (mkSd k m))
theorem S19D.c {ga k g xc m:Nat} {w:World} (h:S19D ga k g xc m w):w.cell? ⟨ga,k,none⟩=some (.slice (some ⟨g,0,none⟩) xc xc):=h.1
theorem S19D.p {ga k g xc m:Nat} {w:World} (h:S19D ga k g xc m w):w.rangeAt g (m*10) (sdc (mkSd k m)):=h.2
theorem apartD_any (gt ct:Nat) (T:List Lst) (w:World) (h0:0<T.length) (h3:T.length≤40) (RT:∀ (j:Nat) x,T[j]?=some x→w.cell? ⟨gt,j,none⟩=some x.v) (D:∀ x∈T,x.okD w) (hD:Diff T):Calls Tryz.prog 26 #[.slice (some ⟨gt,0,none⟩) T.length ct] w fun e w'=>e=.returned (.bool true)∧Kpt (blocks T) w w':=by
 obtain⟨i0,hi,hz0,hz1,hz2⟩:=info_parts Tryz.infoLD
 have HRT:Hid (∀ (j:Nat) x,T[j]?=some x→w.cell? ⟨gt,j,none⟩=some x.v):=RT
 have HD:Hid (∀ x∈T,x.okD w):=D
 have HDF:Hid (Diff T):=hD
 have hgt:gt<w.heap.size:=World.block_lt_of_cell? _ _ (RT 0 _ (List.getElem?_eq_getElem h0))
 clear RT D hD
 go_enter Tryz.func26,Tryz.ntmps26
 go_wp2_with fail
 go_loopw [3,4] (fun v i wr=>∃ (k:Nat) (q:Option Addr) (cp:Nat),k≤T.length∧i=.int .i64 k∧v=.slice q k cp∧wr.ownsRow w.heap.size 27 1 v k (fcells (T.take k))∧w.grownBy wr none) (fun _ i _=>T.length - (intOf i).toNat)
 case atStart=>exact⟨0,none,0,Nat.zero_le _,rfl,rfl,World.ownsRow_nil _ _ _ _,grown_refl _ _⟩
 case round =>
  obtain⟨k,q,cp,hk,rfl,rfl,O,G⟩:=hrel
  by_cases hlt:k<T.length
  ·obtain⟨x,hx⟩:∃ x,T[k]?=some x:=⟨_,List.getElem?_eq_getElem hlt⟩
   have hsn:=fcells_snoc hx
   have ck:=G.cell (HRT.out k x hx) (by simp)
   have hok:=HD.out x (List.mem_of_getElem? hx)
   have CK:Hid (∀ X,w.grownBy X none→X.cell? ⟨gt,k,none⟩=some x.v):=fun X hX=>hX.cell (HRT.out k x hx) (by simp)
   have hlt':(k:Int)<(T.length:Int):=by omega
   have hk0:(0:Int)≤(k:Int):=by omega
   have hb:=own_above O
   have hz:w.heap.size≤wr.heap.size:=G.size
   clear hx
   obtain⟨xa,xn,xc⟩:=x
   simp only[Lst.v,Lst.f] at hsn ck CK
   rcases hok with ⟨ea,en,ec⟩ | ⟨g,ea,en,ec,_⟩
   ·simp only at ea en ec
    subst ea
    subst en
    subst ec
    simp only[Option.map_none] at hsn ck CK
    have HS:Hid (fcells (T.take (k+1))=fcells (T.take k)++[.slice none 0 0]):=hsn
    have CK2:Hid (∀ X,w.grownBy X none→X.cell? ⟨gt,k,none⟩=some (.slice none 0 0)):=CK.out
    have Ga:w.grownBy (wr.alloc (Obj.cells #[.slice none 0 0] 27)).drew none:=grown_trans (grown_push G _) (grown_drew _)
    have Gd:w.grownBy wr.drew none:=grown_trans G (grown_drew _)
    clear hsn CK
    go_wp2_with fail
    go_region_held3 (fun w'=>w'.cell? ⟨gt,k,none⟩=some (.slice none 0 0)) (first | exact CK2.out _ G5 | exact CK2.out _ Ga | exact CK2.out _ Gd) ((refine step_append_lies _ (by rfl) (.tmp 15) (.tmp 26) 86 (by rfl) w.heap.size 27 i0 (.slice none 0 0) 1 24 Tryz.underlying86 hi hz0 hz1 hz2 (by rfl) (by decide) (.slice q k cp) k (fcells (T.take k)) (by rfl) (by exact O.alloc _) ⟨wr.heap.size,0,none⟩ 1 1 [.slice none 0 0] (by rfl) (by rfl) (cell_one_new _ _ _) (fun x hx=>by simp at hx;subst hx;rfl) (by omega) (small_len (by omega)) (by omega) (by simp;omega) (wr.heap.size+1) (by simp) ?_;intro g5 cap5 w5 O5 gr5 hat5 hlt5;have G5:=grown_own Ga gr5 hb))
    rw[←HS.out] at O5
    clear hat5 hlt5 gr5 Ga Gd CK2 O G ck hb
    go_wp2_with fail
    go_roundw
    case rel=>exact⟨k+1,_,_,by omega,by go_num,rfl,O5,G5⟩
    case measure=>simp[intOf];omega
   ·simp only at ea en ec
    subst ea
    simp only[Option.map_some] at hsn ck CK
    have hn0:(0:Int)≤(xc:Int):=by omega
    have hn1:(xc:Int)≤(xc:Int):=Int.le_refl _
    clear ec en
    have HS:Hid (fcells (T.take (k+1))=fcells (T.take k)++[.slice (some ⟨g,0,none⟩) xc xc]):=hsn
    have CK2:Hid (∀ X,w.grownBy X none→X.cell? ⟨gt,k,none⟩=some (.slice (some ⟨g,0,none⟩) xn xc)):=CK.out
    have Ga:w.grownBy (wr.alloc (Obj.cells #[.slice (some ⟨g,0,none⟩) xc xc] 27)).drew none:=grown_trans (grown_push G _) (grown_drew _)
    have Gd:w.grownBy wr.drew none:=grown_trans G (grown_drew _)
    clear hsn CK
    go_wp2_with fail
    go_region_held3 (fun w'=>w'.cell? ⟨gt,k,none⟩=some (.slice (some ⟨g,0,none⟩) xn xc)) (first | exact CK2.out _ G5 | exact CK2.out _ Ga | exact CK2.out _ Gd) ((refine step_append_lies _ (by rfl) (.tmp 15) (.tmp 26) 86 (by rfl) w.heap.size 27 i0 (.slice none 0 0) 1 24 Tryz.underlying86 hi hz0 hz1 hz2 (by rfl) (by decide) (.slice q k cp) k (fcells (T.take k)) (by rfl) (by exact O.alloc _) ⟨wr.heap.size,0,none⟩ 1 1 [.slice (some ⟨g,0,none⟩) xc xc] (by rfl) (by rfl) (cell_one_new _ _ _) (fun x hx=>by simp at hx;subst hx;rfl) (by omega) (small_len (by omega)) (by omega) (by simp;omega) (wr.heap.size+1) (by simp) ?_;intro g5 cap5 w5 O5 gr5 hat5 hlt5;have G5:=grown_own Ga gr5 hb))
    rw[←HS.out] at O5
    clear hat5 hlt5 gr5 Ga Gd CK2 O G ck hb
    go_wp2_with fail
    go_roundw
    case rel=>exact⟨k+1,_,_,by omega,by go_num,rfl,O5,G5⟩
    case measure=>simp[intOf];omega
  ·have ek:k=T.length:=by omega
   subst ek
   rw[List.take_of_length_le (Nat.le_refl _)] at O
   obtain⟨ga,capa,ea,hga,RA,cA⟩:=rowD_of_own O h0
   obtain⟨rfl,rfl⟩:q=some ⟨ga,0,none⟩∧cp=capa:=by simpa using ea
   obtain⟨wz,hwz⟩:∃ wz,wz=wr:=⟨_,rfl⟩
   subst hwz
   have hga2:ga ∉ blocks T:=fun h=>by
    obtain⟨x,hx,e⟩:=List.mem_filterMap.1 h
    rcases HD.out x hx with ⟨h,_⟩ | ⟨g',h,_,_,cs,h1,_⟩
    ·rw[h] at e;cases e
    ·rw[h] at e
     obtain rfl:=Option.some.inj e
     have:=block_lt h1
     omega
   have M:=mkSt_start HD.out G
   have HR:Hid (∀ X,Kpt (blocks T) wz X→∀ (j:Nat) x,T[j]?=some x→X.cell? ⟨ga,j,none⟩=some x.f):=fun X hX j x hj=>hX.cell (RA j x hj) hga2
   have HL:Hid (∀ (j:Nat) x,T[j]?=some x→lim x.cap):=fun j x hj=>by
    rcases HD.out x (List.mem_of_getElem? hj) with ⟨_,_,h⟩ | ⟨_,_,_,h,_⟩
    ·rw[h];exact Nat.zero_le _
    ·exact h
   have HN:Hid (∀ (j:Nat) x,T[j]?=some x→x.a=none→x.cap=0):=fun j x hj ha=>by
    rcases HD.out x (List.mem_of_getElem? hj) with ⟨_,_,h⟩ | ⟨_,h,_⟩
    ·exact h
    ·rw[h] at ha;cases ha
   have K0:Kpt (blocks T) wz wz:=Kpt.refl _ _
   have HGz:Hid (w.grownBy wz none):=G
   clear RA cA ea O HRT hlt hk G
   go_wp2_with fail
   go_loopw [5] (fun i wq=>∃ k:Nat,k≤T.length∧i=.int .i64 k∧MkSt wq T k 0∧Kpt (blocks T) wz wq) (fun i _=>T.length - (intOf i).toNat)
   case atStart=>exact⟨0,Nat.zero_le _,rfl,M,K0⟩
   case round =>
    clear M K0
    obtain⟨k,hk,rfl,M,KQ⟩:=hrel
    by_cases hlt:k<T.length
    ·obtain⟨x,hx⟩:∃ x,T[k]?=some x:=⟨_,List.getElem?_eq_getElem hlt⟩
     have hlim:=HL.out k x hx
     have hnil:=HN.out k x hx
     have hlt':(k:Int)<(T.length:Int):=by omega
     have hk0:(0:Int)≤(k:Int):=by omega
     have hwk:wrap64 ((k:Int)+1)=(k:Int)+1:=by unfold wrap64;omega
     obtain⟨xa,xn,xc⟩:=x
     simp only at hlim hnil
     cases xa with
     | none =>
      obtain rfl:=hnil rfl
      have M2:=M.next hx (Nat.zero_le _)
      have ck:∀ X,Kpt (blocks T) wz X→X.cell? ⟨ga,k,none⟩=some (.slice none 0 0):=fun X hX=>HR.out X hX k _ hx
      have c1:=ck wr KQ
      have HM2:Hid (MkSt wr T (k+1) 0):=M2
      have HKQ:Hid (Kpt (blocks T) wz wr):=KQ
      obtain⟨wx,hwx⟩:∃ wx,wx=wr:=⟨_,rfl⟩
      subst hwx
      clear hx M M2 KQ ck hnil hlim hk
      go_wp2_with fail
      go_loopw [6] (fun i wp=>i=.int .i64 0∧wp=wx) (fun _ _=>0)
      case atStart=>exact⟨rfl,rfl⟩
      case round =>
       obtain⟨rfl,rfl⟩:=hrel
       go_wp2_with fail
       go_roundw
       case rel=>exact⟨k+1,hlt,by first | rfl | (rw[hwk];rfl),HM2.out,HKQ.out⟩
       case measure=>first | exact meas_next hlt | (rw[hwk];exact meas_next hlt)
     | some g =>
      have HXK:Hid (T[k]?=some ⟨some g,xn,xc⟩):=hx
      have HLIM:Hid (lim xc):=hlim
      clear hx hnil hlim hk
      go_wp2_with fail
      go_loopw [6] (fun i wp=>∃ m:Nat,m≤xc∧i=.int .i64 m∧MkSt wp T k m∧Kpt (blocks T) wz wp) (fun i _=>xc - (intOf i).toNat)
      case atStart=>exact⟨0,Nat.zero_le _,rfl,M,KQ⟩
      case round =>
       clear M KQ
       obtain⟨m,hm,rfl,M,KP⟩:=hrel
       have ck:wr.cell? ⟨ga,k,none⟩=some (.slice (some ⟨g,0,none⟩) xc xc):=HR.out wr KP k _ HXK.out
       have HM:Hid (MkSt wr T k m):=M
       have HKP:Hid (Kpt (blocks T) wz wr):=KP
       clear M KP
       by_cases hml:m<xc
       ·have hm0:(0:Int)≤(m:Int):=by omega
        have hm1:(m:Int)<(xc:Int):=by omega
        have hwm:=HLIM.out.wrap hml
        clear hm
        go_wp2_with fail
        have S0:S12D ga k g xc wr.drew:=ck
        refine wp_region_held_drew (S:=S12D ga k g xc) (by kernel_rfl) S0 (fun hHeld=>?_)
        clear hHeld
        refine QZ 0 rfl ?_
        go_frame
        refine QZ 1 rfl ?_
        go_frame
        refine QZ 2 rfl ?_
        go_frame
        refine QT 3 rfl (by intro w0 hSw;have hSc:=S12D.c hSw;go_simp;try with_reducible rfl) ?_
        go_frame
        refine QZ 4 rfl ?_
        go_frame
        refine QZ 5 rfl ?_
        go_frame
        refine QZ 6 rfl ?_
        go_frame
        refine QR 7 rfl (fun K hK=>?_)
        go_simp
        go_at_call 80
        refine(markD_any _ _ _).mono ?_
        rintro e w3 ⟨rfl,g3⟩
        have g3':wr.grownBy w3 none:=grown_trans (grown_drew _) g3
        have KP3:=HKP.out.grow g3'
        have M3:=HM.out.keep g3'
        have S1:S12D ga k g xc w3:=HR.out w3 KP3 k _ HXK.out
        refine hK.out _ _ S1 (fun hHeld2=>?_)
        clear hK K hHeld2 g3 g3'
        (try go_frame)
        refine QZ 8 rfl ?_
        go_frame
        have RM:RoomD w3 g xc:=M3.room HXK.out rfl
        obtain⟨v0,v1,v2,v3,v4,v5,v6,v7,v8,v9,e0,e1,e2,e3,e4,e5,e6,e7,e8,e9⟩:=RM.ten hml
        have ef:=fun i=>RM.free i
        refine QR 9 rfl (fun K hK=>?_)
        go_simp
        have K4:Kpt (blocks T) wz (put10 w3 g (m*10) (mkSd k m)):=KP3.trans (Kpt.of_grown (put10_grown w3 g (m*10) (mkSd k m))) (fun y hy=>Or.inl (by
         have:y=g:=by simpa using hy
         rw[this]
         exact mem_blocks HXK.out rfl))
        have M4:MkSt (put10 w3 g (m*10) (mkSd k m)) T k (m+1):=M3.step HDF.out HXK.out rfl hml
        have S4:S12D ga k g xc (put10 w3 g (m*10) (mkSd k m)):=HR.out _ K4 k _ HXK.out
        have HK4:Hid (Kpt (blocks T) wz (put10 w3 g (m*10) (mkSd k m))):=K4
        have HM4:Hid (MkSt (put10 w3 g (m*10) (mkSd k m)) T k (m+1)):=M4
        clear RM e0 e1 e2 e3 e4 e5 e6 e7 e8 e9 ef KP3 M3 S1 S0 K4 M4
        unfold put10 mkSd at S4 HK4 HM4
        refine hK.out _ _ S4 (fun hHeld2=>?_)
        clear hK K hHeld2 S4
        refine QD ?_
        go_wp2_with fail
        go_roundw
        case rel=>exact⟨m+1,hml,by first | rfl | (rw[hwm];rfl),HM4.out,HK4.out⟩
        case measure=>first | exact meas_next hml | (rw[hwm];exact meas_next hml)
       ·have hml':¬(m:Int)<(xc:Int):=by omega
        have HM2:Hid (MkSt wr T (k+1) 0):=HM.out.next HXK.out (Nat.le_of_not_lt hml)
        clear hm
        go_wp2_with fail
        go_roundw
        case rel=>exact⟨k+1,hlt,by first | rfl | (rw[hwk];rfl),HM2.out,HKP.out⟩
        case measure=>first | exact meas_next hlt | (rw[hwk];exact meas_next hlt)
    ·have ek:k=T.length:=by omega
     subst ek
     obtain⟨wy,hwy⟩:∃ wy,wy=wr:=⟨_,rfl⟩
     subst hwy
     have HMY:Hid (MkSt wy T T.length 0):=M
     have HKY:Hid (Kpt (blocks T) wz wy):=KQ
     have HC:Hid (∀ (j:Nat) x,T[j]?=some x→wy.cell? ⟨ga,j,none⟩=some x.f):=HR.out wy KQ
     clear HR hk hlt M KQ
     go_wp2_with fail
     go_loopw [7] (fun i wq=>∃ k:Nat,k≤T.length∧i=.int .i64 k∧wy.grownBy wq none) (fun i _=>T.length - (intOf i).toNat)
     case atStart=>exact⟨0,Nat.zero_le _,rfl,grown_refl _ _⟩
     case round =>
      obtain⟨k,hk,rfl,GQ⟩:=hrel
      by_cases hlt:k<T.length
      ·obtain⟨x,hx⟩:∃ x,T[k]?=some x:=⟨_,List.getElem?_eq_getElem hlt⟩
       have hlim:=HL.out k x hx
       have hnil:=HN.out k x hx
       have hlt':(k:Int)<(T.length:Int):=by omega
       have hk0:(0:Int)≤(k:Int):=by omega
       have hwk:wrap64 ((k:Int)+1)=(k:Int)+1:=by unfold wrap64;omega
       have hcy:=HC.out k x hx
       obtain⟨xa,xn,xc⟩:=x
       simp only at hlim hnil
       have HGQ:Hid (wy.grownBy wr none):=GQ
       cases xa with
       | none =>
        obtain rfl:=hnil rfl
        have c1:wr.cell? ⟨ga,k,none⟩=some (.slice none 0 0):=GQ.cell hcy (by simp)
        obtain⟨wx,hwx⟩:∃ wx,wx=wr:=⟨_,rfl⟩
        subst hwx
        clear hx hnil hlim hk hcy GQ
        go_wp2_with fail
        go_loopw [8] (fun i wp=>i=.int .i64 0∧wp=wx) (fun _ _=>0)
        case atStart=>exact⟨rfl,rfl⟩
        case round =>
         obtain⟨rfl,rfl⟩:=hrel
         go_wp2_with fail
         go_roundw
         case rel=>exact⟨k+1,hlt,by first | rfl | (rw[hwk];rfl),HGQ.out⟩
         case measure=>first | exact meas_next hlt | (rw[hwk];exact meas_next hlt)
       | some g =>
        have CK:Hid (wy.cell? ⟨ga,k,none⟩=some (.slice (some ⟨g,0,none⟩) xc xc)):=hcy
        have RD:Hid (∀ m,m<xc→wy.rangeAt g (m*10) (sdc (mkSd k m))):=fun m hm=>HMY.out.read hx rfl hm
        have HLIM:Hid (lim xc):=hlim
        obtain⟨wx,hwx⟩:∃ wx,wx=wr:=⟨_,rfl⟩
        subst hwx
        clear hx hnil hlim hk hcy GQ
        go_wp2_with fail
        go_loopw [8] (fun i wp=>∃ m:Nat,m≤xc∧i=.int .i64 m∧wy.grownBy wp none) (fun i _=>xc - (intOf i).toNat)
        case atStart=>exact⟨0,Nat.zero_le _,rfl,HGQ.out⟩
        case round =>
         obtain⟨m,hm,rfl,GP⟩:=hrel
         have ck:=GP.cell CK.out (by simp)
         have HGP:Hid (wy.grownBy wr none):=GP
         by_cases hml:m<xc
         ·have RDm:wr.rangeAt g (m*10) (sdc (mkSd k m)):=rangeAt_keep (RD.out m hml) GP
          have hm0:(0:Int)≤(m:Int):=by omega
          have hm1:(m:Int)<(xc:Int):=by omega
          have hwm:=HLIM.out.wrap hml
          have nq:=neq_sdF (mkSd k m)
          simp only[mkSd] at nq
          have ng:=eqg_sdL
          clear hm GP
          go_wp2_with fail
          have S0:S19D ga k g xc m wr.drew:=⟨ck,rangeAt_keep RDm (grown_drew _)⟩
          refine wp_region_held_drew (S:=S19D ga k g xc m) (by kernel_rfl) S0 (fun hHeld=>?_)
          clear hHeld
          refine QZ 0 rfl ?_
          go_frame
          refine QZ 1 rfl ?_
          go_frame
          refine QZ 2 rfl ?_
          go_frame
          refine QT 3 rfl (by intro w0 hSw;have hSc:=S19D.c hSw;go_simp;try with_reducible rfl) ?_
          go_frame
          refine QZ 4 rfl ?_
          go_frame
          refine QZ 5 rfl ?_
          go_frame
          refine QT 6 rfl (by intro w0 hSw;obtain⟨p0,p1,p2,p3,p4,p5,p6,p7,p8,p9⟩:=sd_cells (S19D.p hSw);simp only[mkSd] at p0 p1 p2 p3 p4 p5 p6 p7 p8 p9;go_simp;try with_reducible rfl) ?_
          go_frame
          refine QZ 7 rfl ?_
          go_frame
          refine QZ 8 rfl ?_
          go_frame
          refine QR 9 rfl (fun K hK=>?_)
          go_simp
          go_at_call 80
          refine(markD_any _ _ _).mono ?_
          rintro e w3 ⟨rfl,g3⟩
          have G3:Hid (wy.grownBy w3 none):=grown_trans HGP.out (grown_trans (grown_drew _) g3)
          have S1:S19D ga k g xc m w3:=⟨G3.out.cell CK.out (by simp),rangeAt_keep (RD.out m hml) G3.out⟩
          refine hK.out _ _ S1 (fun hHeld2=>?_)
          clear hK K hHeld2 g3
          (try go_frame)
          refine QZ 10 rfl ?_
          go_frame
          refine QD ?_
          clear S0 S1
          go_wp2_with fail
          go_roundw
          case rel=>exact⟨m+1,hml,by first | rfl | (rw[hwm];rfl),G3.out⟩
          case measure=>first | exact meas_next hml | (rw[hwm];exact meas_next hml)
         ·have hml':¬(m:Int)<(xc:Int):=by omega
          clear hm GP
          go_wp2_with fail
          go_roundw
          case rel=>exact⟨k+1,hlt,by first | rfl | (rw[hwk];rfl),HGP.out⟩
          case measure=>first | exact meas_next hlt | (rw[hwk];exact meas_next hlt)
      ·have hlt':¬(k:Int)<(T.length:Int):=by omega
       clear hk hlt
       go_wp2
       go_ret
       exact⟨rfl,((Kpt.of_grown HGz.out).mono (by simp)).trans (HKY.out.trans (Kpt.of_grown GQ) (by simp)) (fun _ hx=>Or.inl hx)⟩
end Go.Proofs.YthfjgpjcepmnmaaGreat
