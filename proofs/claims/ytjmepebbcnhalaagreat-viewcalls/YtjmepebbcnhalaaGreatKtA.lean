/-

-/
import Derived.Test.YtjmepebbcnhalaaGreatV49
namespace Go.Proofs.YtjmepebbcnhalaaGreat
set_option maxRecDepth 100000
set_option maxHeartbeats 2000000
open Go.RowKit
variable {w w':World} {g cap i j o base ga xc:Nat} {T:List Lst} {cs:Array Value} {u v:Value}

def ko (w:World) (g cap:Nat):Prop:=∃ cs,w.heap[g]?=some (.cells cs 64 (0,0))∧cs.size=cap*10
theorem ko.cell (h:ko w g cap) {i:Nat} (hi:i<cap*10):∃ u,w.cell? ⟨g,i,none⟩=some u:=by
 obtain⟨cs,h1,h2⟩:=h
 exact⟨_,by rw[aa h1];exact Array.getElem?_eq_getElem (by omega)⟩
theorem ko.free (h:ko w g cap) (i:Nat):w.frozen? ⟨g,i,none⟩=false:=by
 obtain⟨cs,h1,h2⟩:=h
 exact au h1 i
theorem ko.ten {m:Nat} (h:ko w g cap) (hm:m<cap):∃ v0 v1 v2 v3 v4 v5 v6 v7 v8 v9,w.cell? ⟨g,m*10,none⟩=some v0∧w.cell? ⟨g,m*10+1,none⟩=some v1∧w.cell? ⟨g,m*10+2,none⟩=some v2∧w.cell? ⟨g,m*10+3,none⟩=some v3∧w.cell? ⟨g,m*10+4,none⟩=some v4∧w.cell? ⟨g,m*10+5,none⟩=some v5∧w.cell? ⟨g,m*10+6,none⟩=some v6∧w.cell? ⟨g,m*10+7,none⟩=some v7∧w.cell? ⟨g,m*10+8,none⟩=some v8∧w.cell? ⟨g,m*10+9,none⟩=some v9:=by
 obtain⟨v0,e0⟩:=h.cell (i:=m*10) (by omega)
 obtain⟨v1,e1⟩:=h.cell (i:=m*10+1) (by omega)
 obtain⟨v2,e2⟩:=h.cell (i:=m*10+2) (by omega)
 obtain⟨v3,e3⟩:=h.cell (i:=m*10+3) (by omega)
 obtain⟨v4,e4⟩:=h.cell (i:=m*10+4) (by omega)
 obtain⟨v5,e5⟩:=h.cell (i:=m*10+5) (by omega)
 obtain⟨v6,e6⟩:=h.cell (i:=m*10+6) (by omega)
 obtain⟨v7,e7⟩:=h.cell (i:=m*10+7) (by omega)
 obtain⟨v8,e8⟩:=h.cell (i:=m*10+8) (by omega)
 obtain⟨v9,e9⟩:=h.cell (i:=m*10+9) (by omega)
 exact⟨v0,v1,v2,v3,v4,v5,v6,v7,v8,v9,e0,e1,e2,e3,e4,e5,e6,e7,e8,e9⟩
def Lst.okD (w:World) (x:Lst):Prop:=(x.a=none∧x.n=0∧x.cap=0)∨∃ g,x.a=some g∧x.n≤x.cap∧lim x.cap∧ko w g x.cap
def mkT (i:Int):Int:=wrap64 (wrap64 (-i) - 1)
def ik (i k:Int):Sd:=⟨mkT i,k,⟨0,0,0,0,0,0,0,⟨#[]⟩⟩⟩
theorem qi (i k:Int) (w:World):Calls Tryz.prog 85 #[.int .i64 i,.int .i64 k] w fun e w'=>e=.returned (.agg #[.int .i64 (mkT i),.int .i64 k,.int .u8 0,.int .u8 0,.int .u8 0,.int .i64 0,.int .u8 0,.int .u8 0,.int .u8 0,.string ⟨#[]⟩])∧w.grownBy w' none:=by
 go_enter Tryz.func85,Tryz.ntmps85
 go_wp2
 refine bodyPost_ret (v:=.agg #[.int .i64 (mkT i),.int .i64 k,.int .u8 0,.int .u8 0,.int .u8 0,.int .i64 0,.int .u8 0,.int .u8 0,.int .u8 0,.string ⟨#[]⟩]) (by simp[results,Tryz.results85,go_sem,mkT]) rfl ⟨rfl,?_⟩
 exact World.grownBy_alloc _ _ _
def gn (w:World) (T:List Lst) (i k:Nat):Prop:=∀ (j:Nat) (x:Lst) (g:Nat),T[j]?=some x→x.a=some g→∃ cs,w.heap[g]?=some (.cells cs 64 (0,0))∧cs.size=x.cap*10∧∀ m,m<x.cap→(j<i∨(j=i∧m<k))→∀ (c:Nat) u,(sdc (ik j m))[c]?=some u→cs[m*10+c]?=some u
theorem gn.keep {k:Nat} (M:gn w T i k) (g:w.grownBy w' none):gn w' T i k:=fun j x b hj hb=>by
 obtain⟨cs,h1,h2⟩:=M j x b hj hb
 exact⟨cs,ag g h1 (by simp),h2⟩
theorem wD (D:∀ x∈T,x.okD w) (g:w.grownBy w' none):gn w' T 0 0:=fun j x b hj hb=>by
 rcases D x (Qm hj) with ⟨h,_⟩ | ⟨g',h,_,_,cs,h1,h2⟩
 ·rw[h] at hb;cases hb
 ·rw[h] at hb
  obtain rfl:=Option.some.inj hb
  exact⟨cs,ag g h1 (by simp),h2,fun m _ h=>by omega⟩
theorem gn.room {k:Nat} {x:Lst} (M:gn w T i k) (hj:T[j]?=some x) (hg:x.a=some g):ko w g x.cap:=by
 obtain⟨cs,h1,h2,_⟩:=M j x g hj hg
 exact⟨cs,h1,h2⟩
theorem gn.read {x:Lst} (M:gn w T T.length 0) (hj:T[j]?=some x) (hg:x.a=some g) {m:Nat} (hm:m<x.cap):w.rangeAt g (m*10) (sdc (ik j m)):=by
 obtain⟨cs,h1,h2,h3⟩:=M j x g hj hg
 have hl:=(Qh hj).1
 have f:=h3 m hm (Or.inl hl)
 have e:∀ c u,(sdc (ik j m))[c]?=some u→w.cell? ⟨g,m*10+c,none⟩=some u:=fun c u hu=>by rw[aa h1];exact f c u hu
 exact e
def kq (w:World) (g o:Nat) (p:Sd):World:=(((((((((w.setCell ⟨g,o,none⟩ (.int .i64 p.th)).setCell ⟨g,o+1,none⟩ (.int .i64 p.pl)).setCell ⟨g,o+2,none⟩ (.int .u8 p.wh.wn)).setCell ⟨g,o+3,none⟩ (.int .u8 p.wh.vb)).setCell ⟨g,o+4,none⟩ (.int .u8 p.wh.wm)).setCell ⟨g,o+5,none⟩ (.int .i64 p.wh.ct)).setCell ⟨g,o+6,none⟩ (.int .u8 p.wh.su)).setCell ⟨g,o+7,none⟩ (.int .u8 p.wh.tr)).setCell ⟨g,o+8,none⟩ (.int .u8 p.wh.mr)).setCell ⟨g,o+9,none⟩ (.string p.wh.nm)
def lV (cs:Array Value) (o:Nat) (p:Sd):Array Value:=(((((((((cs.setIfInBounds o (.int .i64 p.th)).setIfInBounds (o+1) (.int .i64 p.pl)).setIfInBounds (o+2) (.int .u8 p.wh.wn)).setIfInBounds (o+3) (.int .u8 p.wh.vb)).setIfInBounds (o+4) (.int .u8 p.wh.wm)).setIfInBounds (o+5) (.int .i64 p.wh.ct)).setIfInBounds (o+6) (.int .u8 p.wh.su)).setIfInBounds (o+7) (.int .u8 p.wh.tr)).setIfInBounds (o+8) (.int .u8 p.wh.mr)).setIfInBounds (o+9) (.string p.wh.nm)
theorem ss (h:w.heap[g]?=some (.cells cs 64 (0,0))) (o:Nat) (p:Sd):(kq w g o p).heap[g]?=some (.cells (lV cs o p) 64 (0,0)) :=
 aC (aC (aC (aC (aC (aC (aC (aC (aC (aC h _ _) _ _) _ _) _ _) _ _) _ _) _ _) _ _) _ _) _ _
theorem lS (w:World) (g o:Nat) (p:Sd):w.grownBy (kq w g o p) (some g) :=
 ae (ae (ae (ae (ae (ae (ae (ae (ae (aj _ _ _ _) (aj _ _ _ _)) (aj _ _ _ _)) (aj _ _ _ _)) (aj _ _ _ _)) (aj _ _ _ _)) (aj _ _ _ _)) (aj _ _ _ _)) (aj _ _ _ _)) (aj _ _ _ _)
theorem uY (cs:Array Value) (o:Nat) (p:Sd):(lV cs o p).size=cs.size:=by simp[lV]
theorem uj {p:Sd} (h:i<o∨o+10≤i):(lV cs o p)[i]?=cs[i]?:=by
 unfold lV
 rw[Array.getElem?_setIfInBounds_ne (by omega),Array.getElem?_setIfInBounds_ne (by omega),Array.getElem?_setIfInBounds_ne (by omega),Array.getElem?_setIfInBounds_ne (by omega),Array.getElem?_setIfInBounds_ne (by omega),Array.getElem?_setIfInBounds_ne (by omega),Array.getElem?_setIfInBounds_ne (by omega),Array.getElem?_setIfInBounds_ne (by omega),Array.getElem?_setIfInBounds_ne (by omega),Array.getElem?_setIfInBounds_ne (by omega)]
theorem B7 {c:Nat} {p:Sd} (h:o+10≤cs.size) (hu:(sdc p)[c]?=some u):(lV cs o p)[o+c]?=some u:=by
 have hc:c<10:=(Qh hu).1
 rcases (show c=0∨c=1∨c=2∨c=3∨c=4∨c=5∨c=6∨c=7∨c=8∨c=9 from by omega) with rfl | rfl | rfl | rfl | rfl | rfl | rfl | rfl | rfl | rfl
 all_goals
  simp only[sdc,List.getElem?_cons_zero,List.getElem?_cons_succ,Option.some.injEq] at hu
  subst hu
  simp[lV,Array.getElem?_setIfInBounds]
  omega
theorem gn.step {k:Nat} {x:Lst} (M:gn w T i k) (hD:yP T) (hi:T[i]?=some x) (hg:x.a=some g) (hk:k<x.cap):gn (kq w g (k*10) (ik i k)) T i (k+1):=fun j y b hj hb=>by
 obtain⟨cs,h1,h2,h3⟩:=M j y b hj hb
 by_cases e:b=g
 ·subst e
  obtain rfl:=hD j i y x b hj hi hb hg
  obtain rfl:y=x:=Option.some.inj (hj.symm.trans hi)
  refine⟨lV cs (k*10) (ik j k),ss h1 _ _,by rw[uY];exact h2,fun m hm h c u hu=>?_⟩
  have hc:c<10:=(Qh hu).1
  by_cases em:m=k
  ·subst em
   exact B7 (by omega) hu
  ·rw[uj (by omega)]
   exact h3 m hm (by omega) c u hu
 ·refine⟨cs,ag (lS w g _ _) h1 (by simpa using e),h2,fun m hm h=>h3 m hm ?_⟩
  by_cases ej:j=i
  ·subst ej
   obtain rfl:y=x:=Option.some.inj (hj.symm.trans hi)
   rw[hg] at hb
   exact absurd (Option.some.inj hb).symm e
  ·omega
theorem gn.next {k:Nat} {x:Lst} (M:gn w T i k) (hi:T[i]?=some x) (hk:x.cap≤k):gn w T (i+1) 0:=fun j y b hj hb=>by
 obtain⟨cs,h1,h2,h3⟩:=M j y b hj hb
 refine⟨cs,h1,h2,fun m hm h=>h3 m hm ?_⟩
 by_cases e:j=i
 ·subst e
  obtain rfl:y=x:=Option.some.inj (hj.symm.trans hi)
  omega
 ·omega
theorem Tryz.infoLD:(Tryz.prog.info? 30).map (fun i=>(i.zero,i.size,i.bytes))=some (some (.slice none 0 0),1,24):=by kernel_rfl
theorem tl (h:w.ownsRow base 30 1 v T.length (cX T)) (h0:0<T.length):∃ g cap,v=.slice (some ⟨g,0,none⟩) T.length cap∧base≤g∧(∀ (j:Nat) x,T[j]?=some x→w.cell? ⟨g,j,none⟩=some x.f)∧∃ cs,w.heap[g]?=some (.cells cs 30 (0,0)):=by
 obtain⟨h1,h2⟩:=h
 rcases h2 with ⟨rfl,e⟩ | ⟨g,cap,cur,rfl,hg0,hh,hn,hm,hs,ht⟩
 ·omega
 ·refine⟨g,cap,rfl,hg0,fun j x hj=>?_,cur,hh⟩
  have hl:=(Qh hj).1
  have e:(cX T)[j]?=some x.f:=by unfold cX;rw[List.getElem?_map,hj];rfl
  rw[aa hh,←e,←ht,List.getElem?_take,if_pos (by omega)]
  simp
def uQ (ga k g xc:Nat) (w:World):Prop:=w.cell? ⟨ga,k,none⟩=some (.slice (some ⟨g,0,none⟩) xc xc)
theorem uQ.c {k:Nat} (h:uQ ga k g xc w):w.cell? ⟨ga,k,none⟩=some (.slice (some ⟨g,0,none⟩) xc xc):=h
def qJ (ga k g xc m:Nat) (w:World):Prop:=w.cell? ⟨ga,k,none⟩=some (.slice (some ⟨g,0,none⟩) xc xc)∧w.rangeAt g (m*10) (sdc (ik k m))
theorem qJ.c {k m:Nat} (h:qJ ga k g xc m w):w.cell? ⟨ga,k,none⟩=some (.slice (some ⟨g,0,none⟩) xc xc):=h.1
theorem qJ.p {k m:Nat} (h:qJ ga k g xc m w):w.rangeAt g (m*10) (sdc (ik k m)):=h.2
theorem uU (gt ct:Nat) (T:List Lst) (w:World) (h0:0<T.length) (h3:T.length≤40) (RT:∀ (j:Nat) x,T[j]?=some x→w.cell? ⟨gt,j,none⟩=some x.v) (D:∀ x∈T,x.okD w) (hD:yP T):Calls Tryz.prog 26 #[.slice (some ⟨gt,0,none⟩) T.length ct] w fun e w'=>e=.returned (.bool true)∧Kpt (bL T) w w':=by
 obtain⟨i0,hi,hz0,hz1,hz2⟩:=info_parts Tryz.infoLD
 have HRT:Hid (∀ (j:Nat) x,T[j]?=some x→w.cell? ⟨gt,j,none⟩=some x.v):=RT
 have HD:Hid (∀ x∈T,x.okD w):=D
 have HDF:Hid (yP T):=hD
 have hgt:gt<w.heap.size:=World.block_lt_of_cell? _ _ (RT 0 _ (Qg h0))
 clear RT D hD
 go_enter Tryz.func26,Tryz.ntmps26
 go_wp2_with fail
 go_loopw [3,4] (fun v i wr=>∃ (k:Nat) (q:Option Addr) (cp:Nat),k≤T.length∧i=.int .i64 k∧v=.slice q k cp∧wr.ownsRow w.heap.size 30 1 v k (cX (T.take k))∧w.grownBy wr none) (fun _ i _=>T.length - (intOf i).toNat)
 case atStart=>exact⟨0,none,0,Q0 _,rfl,rfl,World.ownsRow_nil _ _ _ _,ay _ _⟩
 case round =>
  obtain⟨k,q,cp,hk,rfl,rfl,O,G⟩:=hrel
  by_cases hlt:k<T.length
  ·obtain⟨x,hx⟩:∃ x,T[k]?=some x:=⟨_,Qg hlt⟩
   have hsn:=lR hx
   have ck:=G.cell (HRT.out k x hx) (by simp)
   have hok:=HD.out x (Qm hx)
   have CK:Hid (∀ X,w.grownBy X none→X.cell? ⟨gt,k,none⟩=some x.v):=fun X hX=>hX.cell (HRT.out k x hx) (by simp)
   have hlt':(k:Int)<(T.length:Int):=by omega
   have hk0:(0:Int)≤(k:Int):=by omega
   have hb:=qt O
   have hz:w.heap.size≤wr.heap.size:=G.size
   clear hx
   obtain⟨xa,xn,xc⟩:=x
   simp only[Lst.v,Lst.f] at hsn ck CK
   rcases hok with ⟨ea,en,ec⟩ | ⟨g,ea,en,ec,_⟩
   ·simp only at ea en ec
    subst ea
    subst en
    subst ec
    simp only[Option.map_none] at hsn ck CK
    have HS:Hid (cX (T.take (k+1))=cX (T.take k)++[.slice none 0 0]):=hsn
    have CK2:Hid (∀ X,w.grownBy X none→X.cell? ⟨gt,k,none⟩=some (.slice none 0 0)):=CK.out
    have Ga:w.grownBy (wr.alloc (Obj.cells #[.slice none 0 0] 30)).drew none:=ae (al G _) (ai _)
    have Gd:w.grownBy wr.drew none:=ae G (ai _)
    clear hsn CK
    go_wp2_with fail
    go_region_held3 (fun w'=>w'.cell? ⟨gt,k,none⟩=some (.slice none 0 0)) (first | exact CK2.out _ G5 | exact CK2.out _ Ga | exact CK2.out _ Gd) ((refine step_append_lies _ (by rfl) (.tmp 15) (.tmp 26) 69 (by rfl) w.heap.size 30 i0 (.slice none 0 0) 1 24 Tryz.underlying69 hi hz0 hz1 hz2 (by rfl) (by decide) (.slice q k cp) k (cX (T.take k)) (by rfl) (by exact O.alloc _) ⟨wr.heap.size,0,none⟩ 1 1 [.slice none 0 0] (by rfl) (by rfl) (cell_one_new _ _ _) (fun x hx=>by simp at hx;subst hx;rfl) (by omega) (js (by omega)) (by omega) (by simp;omega) (wr.heap.size+1) (by simp) ?_;intro g5 cap5 w5 O5 gr5 hat5 hlt5;have G5:=ar Ga gr5 hb))
    rw[←HS.out] at O5
    clear hat5 hlt5 gr5 Ga Gd CK2 O G ck hb
    go_wp2_with fail
    go_roundw
    case rel=>exact⟨k+1,_,_,by omega,by go_num,rfl,O5,G5⟩
    case measure=>simp[intOf];omega
   ·simp only at ea en ec
    subst ea
    simp only[Option.map_some] at hsn ck CK
    have hn0:(0:Int)≤(xc:Int):=by omega
    have hn1:(xc:Int)≤(xc:Int):=Int.le_refl _
    clear ec en
    have HS:Hid (cX (T.take (k+1))=cX (T.take k)++[.slice (some ⟨g,0,none⟩) xc xc]):=hsn
    have CK2:Hid (∀ X,w.grownBy X none→X.cell? ⟨gt,k,none⟩=some (.slice (some ⟨g,0,none⟩) xn xc)):=CK.out
    have Ga:w.grownBy (wr.alloc (Obj.cells #[.slice (some ⟨g,0,none⟩) xc xc] 30)).drew none:=ae (al G _) (ai _)
    have Gd:w.grownBy wr.drew none:=ae G (ai _)
    clear hsn CK
    go_wp2_with fail
    go_region_held3 (fun w'=>w'.cell? ⟨gt,k,none⟩=some (.slice (some ⟨g,0,none⟩) xn xc)) (first | exact CK2.out _ G5 | exact CK2.out _ Ga | exact CK2.out _ Gd) ((refine step_append_lies _ (by rfl) (.tmp 15) (.tmp 26) 69 (by rfl) w.heap.size 30 i0 (.slice none 0 0) 1 24 Tryz.underlying69 hi hz0 hz1 hz2 (by rfl) (by decide) (.slice q k cp) k (cX (T.take k)) (by rfl) (by exact O.alloc _) ⟨wr.heap.size,0,none⟩ 1 1 [.slice (some ⟨g,0,none⟩) xc xc] (by rfl) (by rfl) (cell_one_new _ _ _) (fun x hx=>by simp at hx;subst hx;rfl) (by omega) (js (by omega)) (by omega) (by simp;omega) (wr.heap.size+1) (by simp) ?_;intro g5 cap5 w5 O5 gr5 hat5 hlt5;have G5:=ar Ga gr5 hb))
    rw[←HS.out] at O5
    clear hat5 hlt5 gr5 Ga Gd CK2 O G ck hb
    go_wp2_with fail
    go_roundw
    case rel=>exact⟨k+1,_,_,by omega,by go_num,rfl,O5,G5⟩
    case measure=>simp[intOf];omega
  ·have ek:k=T.length:=by omega
   subst ek
   rw[List.take_of_length_le (Qj _)] at O
   obtain⟨ga,capa,ea,hga,RA,cA⟩:=tl O h0
   obtain⟨rfl,rfl⟩:q=some ⟨ga,0,none⟩∧cp=capa:=by simpa using ea
   obtain⟨wz,hwz⟩:=Qe (wr)
   subst hwz
   have hga2:ga ∉ bL T:=fun h=>by
    obtain⟨x,hx,e⟩:=List.mem_filterMap.1 h
    rcases HD.out x hx with ⟨h,_⟩ | ⟨g',h,_,_,cs,h1,_⟩
    ·rw[h] at e;cases e
    ·rw[h] at e
     obtain rfl:=Option.some.inj e
     have:=aZ h1
     omega
   have M:=wD HD.out G
   have HR:Hid (∀ X,Kpt (bL T) wz X→∀ (j:Nat) x,T[j]?=some x→X.cell? ⟨ga,j,none⟩=some x.f):=fun X hX j x hj=>hX.cell (RA j x hj) hga2
   have HL:Hid (∀ (j:Nat) x,T[j]?=some x→lim x.cap):=fun j x hj=>by
    rcases HD.out x (Qm hj) with ⟨_,_,h⟩ | ⟨_,_,_,h,_⟩
    ·rw[h];exact Q0 _
    ·exact h
   have HN:Hid (∀ (j:Nat) x,T[j]?=some x→x.a=none→x.cap=0):=fun j x hj ha=>by
    rcases HD.out x (Qm hj) with ⟨_,_,h⟩ | ⟨_,h,_⟩
    ·exact h
    ·rw[h] at ha;cases ha
   have K0:Kpt (bL T) wz wz:=Kpt.refl _ _
   have HGz:Hid (w.grownBy wz none):=G
   clear RA cA ea O HRT hlt hk G
   go_wp2_with fail
   go_loopw [5] (fun i wq=>∃ k:Nat,k≤T.length∧i=.int .i64 k∧gn wq T k 0∧Kpt (bL T) wz wq) (fun i _=>T.length - (intOf i).toNat)
   case atStart=>exact⟨0,Q0 _,rfl,M,K0⟩
   case round =>
    clear M K0
    obtain⟨k,hk,rfl,M,KQ⟩:=hrel
    by_cases hlt:k<T.length
    ·obtain⟨x,hx⟩:∃ x,T[k]?=some x:=⟨_,Qg hlt⟩
     have hlim:=HL.out k x hx
     have hnil:=HN.out k x hx
     have hlt':(k:Int)<(T.length:Int):=by omega
     have hk0:(0:Int)≤(k:Int):=by omega
     have hwk:wrap64 ((k:Int)+1)=(k:Int)+1:=by unfold wrap64;omega
     obtain⟨xa,xn,xc⟩:=x
     simp only at hlim hnil
     cases xa with
     | none =>
      obtain rfl:=hnil rfl
      have M2:=M.next hx (Q0 _)
      have ck:∀ X,Kpt (bL T) wz X→X.cell? ⟨ga,k,none⟩=some (.slice none 0 0):=fun X hX=>HR.out X hX k _ hx
      have c1:=ck wr KQ
      have HM2:Hid (gn wr T (k+1) 0):=M2
      have HKQ:Hid (Kpt (bL T) wz wr):=KQ
      obtain⟨wx,hwx⟩:=Qe (wr)
      subst hwx
      clear hx M M2 KQ ck hnil hlim hk
      go_wp2_with fail
      go_loopw [6] (fun i wp=>i=.int .i64 0∧wp=wx) (fun _ _=>0)
      case atStart=>exact⟨rfl,rfl⟩
      case round =>
       obtain⟨rfl,rfl⟩:=hrel
       go_wp2_with fail
       go_roundw
       case rel=>exact⟨k+1,hlt,by first | rfl | (rw[hwk];rfl),HM2.out,HKQ.out⟩
       case measure=>first | exact aA hlt | (rw[hwk];exact aA hlt)
     | some g =>
      have HXK:Hid (T[k]?=some ⟨some g,xn,xc⟩):=hx
      have HLIM:Hid (lim xc):=hlim
      clear hx hnil hlim hk
      go_wp2_with fail
      go_loopw [6] (fun i wp=>∃ m:Nat,m≤xc∧i=.int .i64 m∧gn wp T k m∧Kpt (bL T) wz wp) (fun i _=>xc - (intOf i).toNat)
      case atStart=>exact⟨0,Q0 _,rfl,M,KQ⟩
      case round =>
       clear M KQ
       obtain⟨m,hm,rfl,M,KP⟩:=hrel
       have ck:wr.cell? ⟨ga,k,none⟩=some (.slice (some ⟨g,0,none⟩) xc xc):=HR.out wr KP k _ HXK.out
       have HM:Hid (gn wr T k m):=M
       have HKP:Hid (Kpt (bL T) wz wr):=KP
       clear M KP
       by_cases hml:m<xc
       ·have hm0:(0:Int)≤(m:Int):=by omega
        have hm1:(m:Int)<(xc:Int):=by omega
        have hwm:=HLIM.out.wrap hml
        clear hm
        go_wp2_with fail
        have S0:uQ ga k g xc wr.drew:=ck
        refine wp_region_held_drew (S:=uQ ga k g xc) (by kernel_rfl) S0 (fun hHeld=>?_)
        clear hHeld
        refine QZ 0 rfl ?_
        go_frame
        refine QZ 1 rfl ?_
        go_frame
        refine QZ 2 rfl ?_
        go_frame
        refine QT 3 rfl (by intro w0 hSw;have hSc:=uQ.c hSw;go_simp;try with_reducible rfl) ?_
        go_frame
        refine QZ 4 rfl ?_
        go_frame
        refine QZ 5 rfl ?_
        go_frame
        refine QZ 6 rfl ?_
        go_frame
        refine QR 7 rfl (fun K hK=>?_)
        go_simp
        go_at_call 85
        refine(qi _ _ _).mono ?_
        rintro e w3 ⟨rfl,g3⟩
        have g3':wr.grownBy w3 none:=ae (ai _) g3
        have KP3:=HKP.out.grow g3'
        have M3:=HM.out.keep g3'
        have S1:uQ ga k g xc w3:=HR.out w3 KP3 k _ HXK.out
        refine hK.out _ _ S1 (fun hHeld2=>?_)
        clear hK K hHeld2 g3 g3'
        (try go_frame)
        refine QZ 8 rfl ?_
        go_frame
        have RM:ko w3 g xc:=M3.room HXK.out rfl
        obtain⟨v0,v1,v2,v3,v4,v5,v6,v7,v8,v9,e0,e1,e2,e3,e4,e5,e6,e7,e8,e9⟩:=RM.ten hml
        have ef:=fun i=>RM.free i
        refine QR 9 rfl (fun K hK=>?_)
        go_simp
        have K4:Kpt (bL T) wz (kq w3 g (m*10) (ik k m)):=KP3.trans (Kpt.of_grown (lS w3 g (m*10) (ik k m))) (fun y hy=>Or.inl (by
         have:y=g:=by simpa using hy
         rw[this]
         exact ol HXK.out rfl))
        have M4:gn (kq w3 g (m*10) (ik k m)) T k (m+1):=M3.step HDF.out HXK.out rfl hml
        have S4:uQ ga k g xc (kq w3 g (m*10) (ik k m)):=HR.out _ K4 k _ HXK.out
        have HK4:Hid (Kpt (bL T) wz (kq w3 g (m*10) (ik k m))):=K4
        have HM4:Hid (gn (kq w3 g (m*10) (ik k m)) T k (m+1)):=M4
        clear RM e0 e1 e2 e3 e4 e5 e6 e7 e8 e9 ef KP3 M3 S1 S0 K4 M4
        unfold kq ik at S4 HK4 HM4
        refine hK.out _ _ S4 (fun hHeld2=>?_)
        clear hK K hHeld2 S4
        refine QD ?_
        go_wp2_with fail
        go_roundw
        case rel=>exact⟨m+1,hml,by first | rfl | (rw[hwm];rfl),HM4.out,HK4.out⟩
        case measure=>first | exact aA hml | (rw[hwm];exact aA hml)
       ·have hml':¬(m:Int)<(xc:Int):=by omega
        have HM2:Hid (gn wr T (k+1) 0):=HM.out.next HXK.out (Nat.le_of_not_lt hml)
        clear hm
        go_wp2_with fail
        go_roundw
        case rel=>exact⟨k+1,hlt,by first | rfl | (rw[hwk];rfl),HM2.out,HKP.out⟩
        case measure=>first | exact aA hlt | (rw[hwk];exact aA hlt)
    ·have ek:k=T.length:=by omega
     subst ek
     obtain⟨wy,hwy⟩:=Qe (wr)
     subst hwy
     have HMY:Hid (gn wy T T.length 0):=M
     have HKY:Hid (Kpt (bL T) wz wy):=KQ
     have HC:Hid (∀ (j:Nat) x,T[j]?=some x→wy.cell? ⟨ga,j,none⟩=some x.f):=HR.out wy KQ
     clear HR hk hlt M KQ
     go_wp2_with fail
     go_loopw [7] (fun i wq=>∃ k:Nat,k≤T.length∧i=.int .i64 k∧wy.grownBy wq none) (fun i _=>T.length - (intOf i).toNat)
     case atStart=>exact⟨0,Q0 _,rfl,ay _ _⟩
     case round =>
      obtain⟨k,hk,rfl,GQ⟩:=hrel
      by_cases hlt:k<T.length
      ·obtain⟨x,hx⟩:∃ x,T[k]?=some x:=⟨_,Qg hlt⟩
       have hlim:=HL.out k x hx
       have hnil:=HN.out k x hx
       have hlt':(k:Int)<(T.length:Int):=by omega
       have hk0:(0:Int)≤(k:Int):=by omega
       have hwk:wrap64 ((k:Int)+1)=(k:Int)+1:=by unfold wrap64;omega
       have hcy:=HC.out k x hx
       obtain⟨xa,xn,xc⟩:=x
       simp only at hlim hnil
       have HGQ:Hid (wy.grownBy wr none):=GQ
       cases xa with
       | none =>
        obtain rfl:=hnil rfl
        have c1:wr.cell? ⟨ga,k,none⟩=some (.slice none 0 0):=GQ.cell hcy (by simp)
        obtain⟨wx,hwx⟩:=Qe (wr)
        subst hwx
        clear hx hnil hlim hk hcy GQ
        go_wp2_with fail
        go_loopw [8] (fun i wp=>i=.int .i64 0∧wp=wx) (fun _ _=>0)
        case atStart=>exact⟨rfl,rfl⟩
        case round =>
         obtain⟨rfl,rfl⟩:=hrel
         go_wp2_with fail
         go_roundw
         case rel=>exact⟨k+1,hlt,by first | rfl | (rw[hwk];rfl),HGQ.out⟩
         case measure=>first | exact aA hlt | (rw[hwk];exact aA hlt)
       | some g =>
        have CK:Hid (wy.cell? ⟨ga,k,none⟩=some (.slice (some ⟨g,0,none⟩) xc xc)):=hcy
        have RD:Hid (∀ m,m<xc→wy.rangeAt g (m*10) (sdc (ik k m))):=fun m hm=>HMY.out.read hx rfl hm
        have HLIM:Hid (lim xc):=hlim
        obtain⟨wx,hwx⟩:=Qe (wr)
        subst hwx
        clear hx hnil hlim hk hcy GQ
        go_wp2_with fail
        go_loopw [8] (fun i wp=>∃ m:Nat,m≤xc∧i=.int .i64 m∧wy.grownBy wp none) (fun i _=>xc - (intOf i).toNat)
        case atStart=>exact⟨0,Q0 _,rfl,HGQ.out⟩
        case round =>
         obtain⟨m,hm,rfl,GP⟩:=hrel
         have ck:=GP.cell CK.out (by simp)
         have HGP:Hid (wy.grownBy wr none):=GP
         by_cases hml:m<xc
         ·have RDm:wr.rangeAt g (m*10) (sdc (ik k m)):=aS (RD.out m hml) GP
          have hm0:(0:Int)≤(m:Int):=by omega
          have hm1:(m:Int)<(xc:Int):=by omega
          have hwm:=HLIM.out.wrap hml
          have nq:=wX (ik k m)
          simp only[ik] at nq
          have ng:=wV
          clear hm GP
          go_wp2_with fail
          have S0:qJ ga k g xc m wr.drew:=⟨ck,aS RDm (ai _)⟩
          refine wp_region_held_drew (S:=qJ ga k g xc m) (by kernel_rfl) S0 (fun hHeld=>?_)
          clear hHeld
          refine QZ 0 rfl ?_
          go_frame
          refine QZ 1 rfl ?_
          go_frame
          refine QZ 2 rfl ?_
          go_frame
          refine QT 3 rfl (by intro w0 hSw;have hSc:=qJ.c hSw;go_simp;try with_reducible rfl) ?_
          go_frame
          refine QZ 4 rfl ?_
          go_frame
          refine QZ 5 rfl ?_
          go_frame
          refine QT 6 rfl (by intro w0 hSw;obtain⟨p0,p1,p2,p3,p4,p5,p6,p7,p8,p9⟩:=bN (qJ.p hSw);simp only[ik] at p0 p1 p2 p3 p4 p5 p6 p7 p8 p9;go_simp;try with_reducible rfl) ?_
          go_frame
          refine QZ 7 rfl ?_
          go_frame
          refine QZ 8 rfl ?_
          go_frame
          refine QR 9 rfl (fun K hK=>?_)
          go_simp
          go_at_call 85
          refine(qi _ _ _).mono ?_
          rintro e w3 ⟨rfl,g3⟩
          have G3:Hid (wy.grownBy w3 none):=ae HGP.out (ae (ai _) g3)
          have S1:qJ ga k g xc m w3:=⟨G3.out.cell CK.out (by simp),aS (RD.out m hml) G3.out⟩
          refine hK.out _ _ S1 (fun hHeld2=>?_)
          clear hK K hHeld2 g3
          (try go_frame)
          refine QZ 10 rfl ?_
          go_frame
          refine QD ?_
          clear S0 S1
          go_wp2_with fail
          go_roundw
          case rel=>exact⟨m+1,hml,by first | rfl | (rw[hwm];rfl),G3.out⟩
          case measure=>first | exact aA hml | (rw[hwm];exact aA hml)
         ·have hml':¬(m:Int)<(xc:Int):=by omega
          clear hm GP
          go_wp2_with fail
          go_roundw
          case rel=>exact⟨k+1,hlt,by first | rfl | (rw[hwk];rfl),HGP.out⟩
          case measure=>first | exact aA hlt | (rw[hwk];exact aA hlt)
      ·have hlt':¬(k:Int)<(T.length:Int):=by omega
       clear hk hlt
       go_wp2
       go_ret
       exact⟨rfl,((Kpt.of_grown HGz.out).mono (by simp)).trans (HKY.out.trans (Kpt.of_grown GQ) (by simp)) (fun _ hx=>Or.inl hx)⟩
end Go.Proofs.YtjmepebbcnhalaaGreat
