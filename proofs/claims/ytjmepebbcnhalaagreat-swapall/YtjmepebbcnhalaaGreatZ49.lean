import Derived.Deep.AppendLies
import Derived.Test.YtjmepebbcnhalaaGreatZKtL
namespace Go.Proofs.YtjmepebbcnhalaaGreat
open Tryz
open Go.RowKit
variable {w w':World} {g cap m j k base size i o:Nat} {xs:List Value} {cs:Array Value} {u:Value}
structure Kpt (S:List Nat) (w w':World):Prop where
 os:w'.os=w.os
 tape:w'.tape=w.tape
 output:w'.output=w.output
 size:w.heap.size≤w'.heap.size
 block:∀ k,k<w.heap.size→k ∉ S→w'.heap[k]?=w.heap[k]?
theorem Kpt.refl (S:List Nat) (w:World):Kpt S w w:=⟨rfl,rfl,rfl,Qj _,fun _ _ _=>rfl⟩
theorem Kpt.trans {S T:List Nat} {a b c:World} (h:Kpt S a b) (k:Kpt T b c) (hT:∀ x,x∈T→x∈S∨a.heap.size≤x):Kpt S a c :=
 ⟨k.os.trans h.os,k.tape.trans h.tape,k.output.trans h.output,Ql h.size k.size,fun i hi hs=>(k.block i (Qal hi h.size) (fun e=>by rcases hT i e with h1 | h1;exact hs h1;omega)).trans (h.block i hi hs)⟩
theorem Kpt.of_grown {r:Option Nat} (h:w.grownBy w' r):Kpt r.toList w w' :=
 ⟨h.os,h.tape,h.output,h.size,fun k hk hs=>h.block k hk (fun e=>hs (by rw[←e];simp))⟩
theorem Kpt.mono {S T:List Nat} {a b:World} (h:Kpt S a b) (hS:∀ x,x∈S→x∈T):Kpt T a b :=
 ⟨h.os,h.tape,h.output,h.size,fun k hk hs=>h.block k hk (fun e=>hs (hS k e))⟩
theorem Kpt.cell {S:List Nat} {a b:World} (h:Kpt S a b) {p:Addr} {v:Value} (hc:a.cell? p=some v) (hp:p.block ∉ S):b.cell? p=some v:=by
 rw[World.cell?_of_block (h.block p.block (Qbj _ _ hc) hp)];exact hc
theorem Kpt.grow {S:List Nat} {a b c:World} (h:Kpt S a b) (g:b.grownBy c none):Kpt S a c:=h.trans (Kpt.of_grown g) (by simp)
theorem Kpt.new {S:List Nat} {a b c:World} (g:a.grownBy b none) (h:Kpt S b c) (hS:∀ x,x∈S→a.heap.size≤x):a.grownBy c none :=
 ⟨h.os.trans g.os,h.tape.trans g.tape,h.output.trans g.output,Ql g.size h.size,fun k hk _=>(h.block k (Qal hk g.size) (fun e=>by have:=hS k e;omega)).trans (g.block k hk (by simp))⟩
theorem fL.eight (h:fL w g cap) (hm:m<cap):∃ v0 v1 v2 v3 v4 v5 v6 v7,w.cell? ⟨g,m*8,none⟩=some v0∧w.cell? ⟨g,m*8+1,none⟩=some v1∧w.cell? ⟨g,m*8+2,none⟩=some v2∧w.cell? ⟨g,m*8+3,none⟩=some v3∧w.cell? ⟨g,m*8+4,none⟩=some v4∧w.cell? ⟨g,m*8+5,none⟩=some v5∧w.cell? ⟨g,m*8+6,none⟩=some v6∧w.cell? ⟨g,m*8+7,none⟩=some v7:=by
 obtain⟨v0,e0⟩:=h.cell (i:=m*8) (by omega);obtain⟨v1,e1⟩:=h.cell (i:=m*8+1) (by omega);obtain⟨v2,e2⟩:=h.cell (i:=m*8+2) (by omega);obtain⟨v3,e3⟩:=h.cell (i:=m*8+3) (by omega);obtain⟨v4,e4⟩:=h.cell (i:=m*8+4) (by omega);obtain⟨v5,e5⟩:=h.cell (i:=m*8+5) (by omega);obtain⟨v6,e6⟩:=h.cell (i:=m*8+6) (by omega);obtain⟨v7,e7⟩:=h.cell (i:=m*8+7) (by omega);exact⟨v0,v1,v2,v3,v4,v5,v6,v7,e0,e1,e2,e3,e4,e5,e6,e7⟩
structure Lst where
 a:Option Nat
 n:Nat
 cap:Nat
def Lst.v (x:Lst):Value:=.slice (x.a.map fun g=>⟨g,0,none⟩) x.n x.cap
def Lst.f (x:Lst):Value:=.slice (x.a.map fun g=>⟨g,0,none⟩) x.cap x.cap
def Lst.ok (w:World) (x:Lst):Prop:=(x.a=none∧x.n=0∧x.cap=0)∨∃ g,x.a=some g∧x.n≤x.cap∧lim x.cap∧fL w g x.cap
def eR (T:List Lst):List Nat:=T.filterMap Lst.a
theorem vG {T:List Lst} {x:Lst} (h:T[j]?=some x) (hg:x.a=some g):g∈eR T:=List.mem_filterMap.2 ⟨x,Qm h,hg⟩
def GC (T:List Lst):Prop:=∀ (i j:Nat) (x y:Lst) (g:Nat),T[i]?=some x→T[j]?=some y→x.a=some g→y.a=some g→i=j
def fE (T:List Lst):List Value:=T.map Lst.f
theorem uf {T:List Lst} {x:Lst} (h:T[k]?=some x):fE (T.take (k+1))=fE (T.take k)++[x.f]:=by
 rw[Qat,h];simp[fE]
theorem Aa {e:TypeId} {n:Nat} {v:Value} (h:w.ownsRow base e size v n xs):∀ x,v.ownBlock=some x→base≤x:=by
 obtain⟨h1,h2⟩:=h;intro x hx
 rcases h2 with ⟨rfl,_⟩ | ⟨g,cap,cur,rfl,hg0,_⟩
 ·simp[Value.ownBlock] at hx
 ·simp[Value.ownBlock] at hx;omega
theorem qP {n:Nat} (h:n≤4294967296):n≤maxLen:=by unfold maxLen;omega
set_option maxRecDepth 100000
set_option maxHeartbeats 2000000
def kT (w:World) (g cap:Nat):Prop:=∃ cs,w.heap[g]?=some (.cells cs 64 (0,0))∧cs.size=cap*10
theorem kT.cell (h:kT w g cap) {i:Nat} (hi:i<cap*10):∃ u,w.cell? ⟨g,i,none⟩=some u:=by
 obtain⟨cs,h1,h2⟩:=h;exact⟨_,by rw[ae h1];exact Qbz (by omega)⟩
theorem kT.free (h:kT w g cap) (i:Nat):w.frozen? ⟨g,i,none⟩=false:=by
 obtain⟨cs,h1,h2⟩:=h;exact aq h1 i
theorem kT.ten (h:kT w g cap) (hm:m<cap):∃ v0 v1 v2 v3 v4 v5 v6 v7 v8 v9,w.cell? ⟨g,m*10,none⟩=some v0∧w.cell? ⟨g,m*10+1,none⟩=some v1∧w.cell? ⟨g,m*10+2,none⟩=some v2∧w.cell? ⟨g,m*10+3,none⟩=some v3∧w.cell? ⟨g,m*10+4,none⟩=some v4∧w.cell? ⟨g,m*10+5,none⟩=some v5∧w.cell? ⟨g,m*10+6,none⟩=some v6∧w.cell? ⟨g,m*10+7,none⟩=some v7∧w.cell? ⟨g,m*10+8,none⟩=some v8∧w.cell? ⟨g,m*10+9,none⟩=some v9:=by
 obtain⟨v0,e0⟩:=h.cell (i:=m*10) (by omega);obtain⟨v1,e1⟩:=h.cell (i:=m*10+1) (by omega);obtain⟨v2,e2⟩:=h.cell (i:=m*10+2) (by omega);obtain⟨v3,e3⟩:=h.cell (i:=m*10+3) (by omega);obtain⟨v4,e4⟩:=h.cell (i:=m*10+4) (by omega);obtain⟨v5,e5⟩:=h.cell (i:=m*10+5) (by omega);obtain⟨v6,e6⟩:=h.cell (i:=m*10+6) (by omega);obtain⟨v7,e7⟩:=h.cell (i:=m*10+7) (by omega);obtain⟨v8,e8⟩:=h.cell (i:=m*10+8) (by omega);obtain⟨v9,e9⟩:=h.cell (i:=m*10+9) (by omega);exact⟨v0,v1,v2,v3,v4,v5,v6,v7,v8,v9,e0,e1,e2,e3,e4,e5,e6,e7,e8,e9⟩
def Lst.okD (w:World) (x:Lst):Prop:=(x.a=none∧x.n=0∧x.cap=0)∨∃ g,x.a=some g∧x.n≤x.cap∧lim x.cap∧kT w g x.cap
def mkT (i:Int):Int:=wrap64 (wrap64 (-i) - 1)
def j4 (i k:Int):Sd:=⟨mkT i,k,⟨0,0,0,0,0,0,0,⟨#[]⟩⟩⟩
theorem qU (i k:Int) (w:World):Calls prog 85 #[.int .i64 i,.int .i64 k] w fun e w'=>e=.returned (.agg #[.int .i64 (mkT i),.int .i64 k,.int .u8 0,.int .u8 0,.int .u8 0,.int .i64 0,.int .u8 0,.int .u8 0,.int .u8 0,.string ⟨#[]⟩])∧w.grownBy w' none:=by
 go_enter func85,ntmps85;go_wp2;refine bodyPost_ret (v:=.agg #[.int .i64 (mkT i),.int .i64 k,.int .u8 0,.int .u8 0,.int .u8 0,.int .i64 0,.int .u8 0,.int .u8 0,.int .u8 0,.string ⟨#[]⟩]) (by simp[results,results85,go_sem,mkT]) rfl ⟨rfl,?_⟩;exact Qa0 _ _ _
def gZ (w:World) (T:List Lst) (i k:Nat):Prop:=∀ (j:Nat) (x:Lst) (g:Nat),T[j]?=some x→x.a=some g→∃ cs,w.heap[g]?=some (.cells cs 64 (0,0))∧cs.size=x.cap*10∧∀ m,m<x.cap→(j<i∨(j=i∧m<k))→∀ (c:Nat) u,(sdc (j4 j m))[c]?=some u→cs[m*10+c]?=some u
theorem gZ.keep {T:List Lst} (M:gZ w T i k) (g:w.grownBy w' none):gZ w' T i k:=fun j x b hj hb=>by
 obtain⟨cs,h1,h2⟩:=M j x b hj hb;exact⟨cs,ag g h1 (by simp),h2⟩
theorem yg {T:List Lst} (D:∀ x∈T,x.okD w) (g:w.grownBy w' none):gZ w' T 0 0:=fun j x b hj hb=>by
 rcases D x (Qm hj) with ⟨h,_⟩ | ⟨g',h,_,_,cs,h1,h2⟩
 ·rw[h] at hb;cases hb
 ·rw[h] at hb;obtain rfl:=Qa1 hb;exact⟨cs,ag g h1 (by simp),h2,fun m _ h=>by omega⟩
theorem gZ.room {T:List Lst} {x:Lst} (M:gZ w T i k) (hj:T[j]?=some x) (hg:x.a=some g):kT w g x.cap:=by
 obtain⟨cs,h1,h2,_⟩:=M j x g hj hg;exact⟨cs,h1,h2⟩
theorem gZ.read {T:List Lst} {x:Lst} (M:gZ w T T.length 0) (hj:T[j]?=some x) (hg:x.a=some g) {m:Nat} (hm:m<x.cap):w.rangeAt g (m*10) (sdc (j4 j m)):=by
 obtain⟨cs,h1,h2,h3⟩:=M j x g hj hg;have hl:=(Qh hj).1;have f:=h3 m hm (Or.inl hl);have e:∀ c u,(sdc (j4 j m))[c]?=some u→w.cell? ⟨g,m*10+c,none⟩=some u:=fun c u hu=>by rw[ae h1];exact f c u hu
 exact e
def kI (w:World) (g o:Nat) (p:Sd):World:=(((((((((w.setCell ⟨g,o,none⟩ (.int .i64 p.th)).setCell ⟨g,o+1,none⟩ (.int .i64 p.pl)).setCell ⟨g,o+2,none⟩ (.int .u8 p.wh.wn)).setCell ⟨g,o+3,none⟩ (.int .u8 p.wh.vb)).setCell ⟨g,o+4,none⟩ (.int .u8 p.wh.wm)).setCell ⟨g,o+5,none⟩ (.int .i64 p.wh.ct)).setCell ⟨g,o+6,none⟩ (.int .u8 p.wh.su)).setCell ⟨g,o+7,none⟩ (.int .u8 p.wh.tr)).setCell ⟨g,o+8,none⟩ (.int .u8 p.wh.mr)).setCell ⟨g,o+9,none⟩ (.string p.wh.nm)
def lZ (cs:Array Value) (o:Nat) (p:Sd):Array Value:=(((((((((cs.setIfInBounds o (.int .i64 p.th)).setIfInBounds (o+1) (.int .i64 p.pl)).setIfInBounds (o+2) (.int .u8 p.wh.wn)).setIfInBounds (o+3) (.int .u8 p.wh.vb)).setIfInBounds (o+4) (.int .u8 p.wh.wm)).setIfInBounds (o+5) (.int .i64 p.wh.ct)).setIfInBounds (o+6) (.int .u8 p.wh.su)).setIfInBounds (o+7) (.int .u8 p.wh.tr)).setIfInBounds (o+8) (.int .u8 p.wh.mr)).setIfInBounds (o+9) (.string p.wh.nm)
theorem tm (h:w.heap[g]?=some (.cells cs 64 (0,0))) (o:Nat) (p:Sd):(kI w g o p).heap[g]?=some (.cells (lZ cs o p) 64 (0,0)) :=
 au (au (au (au (au (au (au (au (au (au h _ _) _ _) _ _) _ _) _ _) _ _) _ _) _ _) _ _) _ _
theorem mj (w:World) (g o:Nat) (p:Sd):w.grownBy (kI w g o p) (some g) :=
 aa (aa (aa (aa (aa (aa (aa (aa (aa (al _ _ _ _) (al _ _ _ _)) (al _ _ _ _)) (al _ _ _ _)) (al _ _ _ _)) (al _ _ _ _)) (al _ _ _ _)) (al _ _ _ _)) (al _ _ _ _)) (al _ _ _ _)
theorem wi (cs:Array Value) (o:Nat) (p:Sd):(lZ cs o p).size=cs.size:=by simp[lZ]
theorem xq {p:Sd} (h:i<o∨o+10≤i):(lZ cs o p)[i]?=cs[i]?:=by
 unfold lZ;rw[Qao (by omega),Qao (by omega),Qao (by omega),Qao (by omega),Qao (by omega),Qao (by omega),Qao (by omega),Qao (by omega),Qao (by omega),Qao (by omega)]
theorem DJ {c:Nat} {p:Sd} (h:o+10≤cs.size) (hu:(sdc p)[c]?=some u):(lZ cs o p)[o+c]?=some u:=by
 have hc:c<10:=(Qh hu).1
 rcases (show c=0∨c=1∨c=2∨c=3∨c=4∨c=5∨c=6∨c=7∨c=8∨c=9 from by omega) with rfl | rfl | rfl | rfl | rfl | rfl | rfl | rfl | rfl | rfl
 all_goals
  simp only[sdc,List.getElem?_cons_zero,List.getElem?_cons_succ,Option.some.injEq] at hu;subst hu;simp[lZ,Array.getElem?_setIfInBounds];omega
theorem gZ.step {T:List Lst} {x:Lst} (M:gZ w T i k) (hD:GC T) (hi:T[i]?=some x) (hg:x.a=some g) (hk:k<x.cap):gZ (kI w g (k*10) (j4 i k)) T i (k+1):=fun j y b hj hb=>by
 obtain⟨cs,h1,h2,h3⟩:=M j y b hj hb;by_cases e:b=g
 ·subst e;obtain rfl:=hD j i y x b hj hi hb hg;obtain rfl:y=x:=Qa1 (hj.symm.trans hi);refine⟨lZ cs (k*10) (j4 j k),tm h1 _ _,by rw[wi];exact h2,fun m hm h c u hu=>?_⟩;have hc:c<10:=(Qh hu).1;by_cases em:m=k
  ·subst em;exact DJ (by omega) hu
  ·rw[xq (by omega)];exact h3 m hm (by omega) c u hu
 ·refine⟨cs,ag (mj w g _ _) h1 (by simpa using e),h2,fun m hm h=>h3 m hm ?_⟩;by_cases ej:j=i
  ·subst ej;obtain rfl:y=x:=Qa1 (hj.symm.trans hi);rw[hg] at hb;exact absurd (Qa1 hb).symm e
  ·omega
theorem gZ.next {T:List Lst} {x:Lst} (M:gZ w T i k) (hi:T[i]?=some x) (hk:x.cap≤k):gZ w T (i+1) 0:=fun j y b hj hb=>by
 obtain⟨cs,h1,h2,h3⟩:=M j y b hj hb;refine⟨cs,h1,h2,fun m hm h=>h3 m hm ?_⟩;by_cases e:j=i
 ·subst e;obtain rfl:y=x:=Qa1 (hj.symm.trans hi);omega
 ·omega
theorem infoLD:(prog.info? 30).map (fun i=>(i.zero,i.size,i.bytes))=some (some (.slice none 0 0),1,24):=by kernel_rfl
theorem ul {v:Value} {T:List Lst} (h:w.ownsRow base 30 1 v T.length (fE T)) (h0:0<T.length):∃ g cap,v=.slice (some ⟨g,0,none⟩) T.length cap∧base≤g∧(∀ (j:Nat) x,T[j]?=some x→w.cell? ⟨g,j,none⟩=some x.f)∧∃ cs,w.heap[g]?=some (.cells cs 30 (0,0)):=by
 obtain⟨h1,h2⟩:=h
 rcases h2 with ⟨rfl,e⟩ | ⟨g,cap,cur,rfl,hg0,hh,hn,hm,hs,ht⟩
 ·omega
 ·refine⟨g,cap,rfl,hg0,fun j x hj=>?_,cur,hh⟩;have hl:=(Qh hj).1;have e:(fE T)[j]?=some x.f:=by unfold fE;rw[Qak,hj];rfl
  rw[ae hh,←e,←ht,Qd9,if_pos (by omega)];simp
def vU (ga k g xc:Nat) (w:World):Prop:=w.cell? ⟨ga,k,none⟩=some (.slice (some ⟨g,0,none⟩) xc xc)
theorem vU.c {ga xc:Nat} (h:vU ga k g xc w):w.cell? ⟨ga,k,none⟩=some (.slice (some ⟨g,0,none⟩) xc xc):=h
def rX (ga k g xc m:Nat) (w:World):Prop:=w.cell? ⟨ga,k,none⟩=some (.slice (some ⟨g,0,none⟩) xc xc)∧w.rangeAt g (m*10) (sdc (j4 k m))
theorem rX.c {ga xc:Nat} (h:rX ga k g xc m w):w.cell? ⟨ga,k,none⟩=some (.slice (some ⟨g,0,none⟩) xc xc):=h.1
theorem rX.p {ga xc:Nat} (h:rX ga k g xc m w):w.rangeAt g (m*10) (sdc (j4 k m)):=h.2
theorem xF (gt ct:Nat) (T:List Lst) (w:World) (h0:0<T.length) (h3:T.length≤40) (RT:∀ (j:Nat) x,T[j]?=some x→w.cell? ⟨gt,j,none⟩=some x.v) (D:∀ x∈T,x.okD w) (hD:GC T):Calls prog 26 #[.slice (some ⟨gt,0,none⟩) T.length ct] w fun e w'=>e=.returned (.bool true)∧Kpt (eR T) w w':=by
 obtain⟨i0,hi,hz0,hz1,hz2⟩:=info_parts infoLD;have HRT:QH (∀ (j:Nat) x,T[j]?=some x→w.cell? ⟨gt,j,none⟩=some x.v):=RT;have HD:QH (∀ x∈T,x.okD w):=D;have HDF:QH (GC T):=hD;have hgt:gt<w.heap.size:=Qbj _ _ (RT 0 _ (Qg h0));clear RT D hD;go_enter func26,ntmps26;go_wp2_with fail;go_loopw [3,4] (fun v i wr=>∃ (k:Nat) (q:Option Addr) (cp:Nat),k≤T.length∧i=.int .i64 k∧v=.slice q k cp∧wr.ownsRow w.heap.size 30 1 v k (fE (T.take k))∧w.grownBy wr none) (fun _ i _=>T.length - (intOf i).toNat)
 case atStart=>exact⟨0,none,0,Q0 _,rfl,rfl,World.ownsRow_nil _ _ _ _,aw _ _⟩
 case round =>
  obtain⟨k,q,cp,hk,rfl,rfl,O,G⟩:=hrel;by_cases hlt:k<T.length
  ·obtain⟨x,hx⟩:∃ x,T[k]?=some x:=⟨_,Qg hlt⟩
   have hsn:=uf hx;have ck:=G.cell (HRT.o k x hx) (by simp);have hok:=HD.o x (Qm hx);have CK:QH (∀ X,w.grownBy X none→X.cell? ⟨gt,k,none⟩=some x.v):=fun X hX=>hX.cell (HRT.o k x hx) (by simp);have hlt':(k:Int)<(T.length:Int):=(by omega);have hk0:(0:Int)≤(k:Int):=(by omega);have hb:=Aa O;have hz:w.heap.size≤wr.heap.size:=G.size;clear hx;obtain⟨xa,xn,xc⟩:=x;simp only[Lst.v,Lst.f] at hsn ck CK
   rcases hok with ⟨ea,en,ec⟩ | ⟨g,ea,en,ec,_⟩
   ·simp only at ea en ec;subst ea;subst en;subst ec;simp only[Option.map_none] at hsn ck CK;have HS:QH (fE (T.take (k+1))=fE (T.take k)++[.slice none 0 0]):=hsn;have CK2:QH (∀ X,w.grownBy X none→X.cell? ⟨gt,k,none⟩=some (.slice none 0 0)):=CK.o;have Ga:w.grownBy (wr.alloc (Obj.cells #[.slice none 0 0] 30)).drew none:=aa (am G _) (ai _);have Gd:w.grownBy wr.drew none:=aa G (ai _);clear hsn CK;go_wp2_with fail;go_region_held3 (fun w'=>w'.cell? ⟨gt,k,none⟩=some (.slice none 0 0)) (first | exact CK2.o _ G5 | exact CK2.o _ Ga | exact CK2.o _ Gd) ((refine step_append_lies _ (by rfl) (.tmp 15) (.tmp 26) 69 (by rfl) w.heap.size 30 i0 (.slice none 0 0) 1 24 underlying69 hi hz0 hz1 hz2 (by rfl) (by decide) (.slice q k cp) k (fE (T.take k)) (by rfl) (by exact O.alloc _) ⟨wr.heap.size,0,none⟩ 1 1 [.slice none 0 0] (by rfl) (by rfl) (cell_one_new _ _ _) (fun x hx=>by simp at hx;subst hx;rfl) (by omega) (qP (by omega)) (by omega) (by simp;omega) (wr.heap.size+1) (by simp) ?_;intro g5 cap5 w5 O5 gr5 hat5 hlt5;have G5:=ak Ga gr5 hb));rw[←HS.o] at O5;clear hat5 hlt5 gr5 Ga Gd CK2 O G ck hb;go_wp2_with fail;go_roundw
    case rel=>exact⟨k+1,_,_,by omega,by go_num,rfl,O5,G5⟩
    case measure=>simp[intOf];omega
   ·simp only at ea en ec;subst ea;simp only[Option.map_some] at hsn ck CK;have hn0:(0:Int)≤(xc:Int):=(by omega);have hn1:(xc:Int)≤(xc:Int):=Int.le_refl _;clear ec en;have HS:QH (fE (T.take (k+1))=fE (T.take k)++[.slice (some ⟨g,0,none⟩) xc xc]):=hsn;have CK2:QH (∀ X,w.grownBy X none→X.cell? ⟨gt,k,none⟩=some (.slice (some ⟨g,0,none⟩) xn xc)):=CK.o;have Ga:w.grownBy (wr.alloc (Obj.cells #[.slice (some ⟨g,0,none⟩) xc xc] 30)).drew none:=aa (am G _) (ai _);have Gd:w.grownBy wr.drew none:=aa G (ai _);clear hsn CK;go_wp2_with fail;go_region_held3 (fun w'=>w'.cell? ⟨gt,k,none⟩=some (.slice (some ⟨g,0,none⟩) xn xc)) (first | exact CK2.o _ G5 | exact CK2.o _ Ga | exact CK2.o _ Gd) ((refine step_append_lies _ (by rfl) (.tmp 15) (.tmp 26) 69 (by rfl) w.heap.size 30 i0 (.slice none 0 0) 1 24 underlying69 hi hz0 hz1 hz2 (by rfl) (by decide) (.slice q k cp) k (fE (T.take k)) (by rfl) (by exact O.alloc _) ⟨wr.heap.size,0,none⟩ 1 1 [.slice (some ⟨g,0,none⟩) xc xc] (by rfl) (by rfl) (cell_one_new _ _ _) (fun x hx=>by simp at hx;subst hx;rfl) (by omega) (qP (by omega)) (by omega) (by simp;omega) (wr.heap.size+1) (by simp) ?_;intro g5 cap5 w5 O5 gr5 hat5 hlt5;have G5:=ak Ga gr5 hb));rw[←HS.o] at O5;clear hat5 hlt5 gr5 Ga Gd CK2 O G ck hb;go_wp2_with fail;go_roundw
    case rel=>exact⟨k+1,_,_,by omega,by go_num,rfl,O5,G5⟩
    case measure=>simp[intOf];omega
  ·have ek:k=T.length:=(by omega);subst ek;rw[Qba (Qj _)] at O;obtain⟨ga,capa,ea,hga,RA,cA⟩:=ul O h0;obtain⟨rfl,rfl⟩:q=some ⟨ga,0,none⟩∧cp=capa:=(by simpa using ea);obtain⟨wz,hwz⟩:=Qe (wr);subst hwz
   have hga2:ga ∉ eR T:=fun h=>by
    obtain⟨x,hx,e⟩:=List.mem_filterMap.1 h
    rcases HD.o x hx with ⟨h,_⟩ | ⟨g',h,_,_,cs,h1,_⟩
    ·rw[h] at e;cases e
    ·rw[h] at e;obtain rfl:=Qa1 e;have:=aY h1;omega
   have M:=yg HD.o G;have HR:QH (∀ X,Kpt (eR T) wz X→∀ (j:Nat) x,T[j]?=some x→X.cell? ⟨ga,j,none⟩=some x.f):=fun X hX j x hj=>hX.cell (RA j x hj) hga2
   have HL:QH (∀ (j:Nat) x,T[j]?=some x→lim x.cap):=fun j x hj=>by
    rcases HD.o x (Qm hj) with ⟨_,_,h⟩ | ⟨_,_,_,h,_⟩
    ·rw[h];exact Q0 _
    ·exact h
   have HN:QH (∀ (j:Nat) x,T[j]?=some x→x.a=none→x.cap=0):=fun j x hj ha=>by
    rcases HD.o x (Qm hj) with ⟨_,_,h⟩ | ⟨_,h,_⟩
    ·exact h
    ·rw[h] at ha;cases ha
   have K0:Kpt (eR T) wz wz:=Kpt.refl _ _;have HGz:QH (w.grownBy wz none):=G;clear RA cA ea O HRT hlt hk G;go_wp2_with fail;go_loopw [5] (fun i wq=>∃ k:Nat,k≤T.length∧i=.int .i64 k∧gZ wq T k 0∧Kpt (eR T) wz wq) (fun i _=>T.length - (intOf i).toNat)
   case atStart=>exact⟨0,Q0 _,rfl,M,K0⟩
   case round =>
    clear M K0;obtain⟨k,hk,rfl,M,KQ⟩:=hrel;by_cases hlt:k<T.length
    ·obtain⟨x,hx⟩:∃ x,T[k]?=some x:=⟨_,Qg hlt⟩
     have hlim:=HL.o k x hx;have hnil:=HN.o k x hx;have hlt':(k:Int)<(T.length:Int):=(by omega);have hk0:(0:Int)≤(k:Int):=(by omega);have hwk:wrap64 ((k:Int)+1)=(k:Int)+1:=(by unfold wrap64;omega);obtain⟨xa,xn,xc⟩:=x;simp only at hlim hnil;cases xa with
     | none =>
      obtain rfl:=hnil rfl;have M2:=M.next hx (Q0 _);have ck:∀ X,Kpt (eR T) wz X→X.cell? ⟨ga,k,none⟩=some (.slice none 0 0):=fun X hX=>HR.o X hX k _ hx;have c1:=ck wr KQ;have HM2:QH (gZ wr T (k+1) 0):=M2;have HKQ:QH (Kpt (eR T) wz wr):=KQ;obtain⟨wx,hwx⟩:=Qe (wr);subst hwx;clear hx M M2 KQ ck hnil hlim hk;go_wp2_with fail;go_loopw [6] (fun i wp=>i=.int .i64 0∧wp=wx) (fun _ _=>0)
      case atStart=>exact⟨rfl,rfl⟩
      case round =>
       obtain⟨rfl,rfl⟩:=hrel;go_wp2_with fail;go_roundw
       case rel=>exact⟨k+1,hlt,by first | rfl | (rw[hwk];rfl),HM2.o,HKQ.o⟩
       case measure=>first | exact aD hlt | (rw[hwk];exact aD hlt)
     | some g =>
      have HXK:QH (T[k]?=some ⟨some g,xn,xc⟩):=hx;have HLIM:QH (lim xc):=hlim;clear hx hnil hlim hk;go_wp2_with fail;go_loopw [6] (fun i wp=>∃ m:Nat,m≤xc∧i=.int .i64 m∧gZ wp T k m∧Kpt (eR T) wz wp) (fun i _=>xc - (intOf i).toNat)
      case atStart=>exact⟨0,Q0 _,rfl,M,KQ⟩
      case round =>
       clear M KQ;obtain⟨m,hm,rfl,M,KP⟩:=hrel;have ck:wr.cell? ⟨ga,k,none⟩=some (.slice (some ⟨g,0,none⟩) xc xc):=HR.o wr KP k _ HXK.o;have HM:QH (gZ wr T k m):=M;have HKP:QH (Kpt (eR T) wz wr):=KP;clear M KP;by_cases hml:m<xc
       ·have hm0:(0:Int)≤(m:Int):=(by omega);have hm1:(m:Int)<(xc:Int):=(by omega);have hwm:=HLIM.o.wrap hml;clear hm;go_wp2_with fail;have S0:vU ga k g xc wr.drew:=ck;refine wp_region_held_drew (S:=vU ga k g xc) (by kernel_rfl) S0 (fun hHeld=>?_);clear hHeld;refine QZ 0 rfl ?_;go_frame;refine QZ 1 rfl ?_;go_frame;refine QZ 2 rfl ?_;go_frame;refine QT 3 rfl (by intro w0 hSw;have hSc:=vU.c hSw;go_simp;try with_reducible rfl) ?_;go_frame;refine QZ 4 rfl ?_;go_frame;refine QZ 5 rfl ?_;go_frame;refine QZ 6 rfl ?_;go_frame;refine QR 7 rfl (fun K hK=>?_);go_simp;go_at_call 85;refine(qU _ _ _).mono ?_;rintro e w3 ⟨rfl,g3⟩;have g3':wr.grownBy w3 none:=aa (ai _) g3;have KP3:=HKP.o.grow g3';have M3:=HM.o.keep g3';have S1:vU ga k g xc w3:=HR.o w3 KP3 k _ HXK.o;refine hK.out _ _ S1 (fun hHeld2=>?_);clear hK K hHeld2 g3 g3';(try go_frame);refine QZ 8 rfl ?_;go_frame;have RM:kT w3 g xc:=M3.room HXK.o rfl;obtain⟨v0,v1,v2,v3,v4,v5,v6,v7,v8,v9,e0,e1,e2,e3,e4,e5,e6,e7,e8,e9⟩:=RM.ten hml;have ef:=fun i=>RM.free i;refine QR 9 rfl (fun K hK=>?_);go_simp
        have K4:Kpt (eR T) wz (kI w3 g (m*10) (j4 k m)):=KP3.trans (Kpt.of_grown (mj w3 g (m*10) (j4 k m))) (fun y hy=>Or.inl (by
         have:y=g:=(by simpa using hy);rw[this]
         exact vG HXK.o rfl))
        have M4:gZ (kI w3 g (m*10) (j4 k m)) T k (m+1):=M3.step HDF.o HXK.o rfl hml;have S4:vU ga k g xc (kI w3 g (m*10) (j4 k m)):=HR.o _ K4 k _ HXK.o;have HK4:QH (Kpt (eR T) wz (kI w3 g (m*10) (j4 k m))):=K4;have HM4:QH (gZ (kI w3 g (m*10) (j4 k m)) T k (m+1)):=M4;clear RM e0 e1 e2 e3 e4 e5 e6 e7 e8 e9 ef KP3 M3 S1 S0 K4 M4;unfold kI j4 at S4 HK4 HM4;refine hK.out _ _ S4 (fun hHeld2=>?_);clear hK K hHeld2 S4;refine QD ?_;go_wp2_with fail;go_roundw
        case rel=>exact⟨m+1,hml,by first | rfl | (rw[hwm];rfl),HM4.o,HK4.o⟩
        case measure=>first | exact aD hml | (rw[hwm];exact aD hml)
       ·have hml':¬(m:Int)<(xc:Int):=(by omega);have HM2:QH (gZ wr T (k+1) 0):=HM.o.next HXK.o (Qac hml);clear hm;go_wp2_with fail;go_roundw
        case rel=>exact⟨k+1,hlt,by first | rfl | (rw[hwk];rfl),HM2.o,HKP.o⟩
        case measure=>first | exact aD hlt | (rw[hwk];exact aD hlt)
    ·have ek:k=T.length:=(by omega);subst ek;obtain⟨wy,hwy⟩:=Qe (wr);subst hwy;have HMY:QH (gZ wy T T.length 0):=M;have HKY:QH (Kpt (eR T) wz wy):=KQ;have HC:QH (∀ (j:Nat) x,T[j]?=some x→wy.cell? ⟨ga,j,none⟩=some x.f):=HR.o wy KQ;clear HR hk hlt M KQ;go_wp2_with fail;go_loopw [7] (fun i wq=>∃ k:Nat,k≤T.length∧i=.int .i64 k∧wy.grownBy wq none) (fun i _=>T.length - (intOf i).toNat)
     case atStart=>exact⟨0,Q0 _,rfl,aw _ _⟩
     case round =>
      obtain⟨k,hk,rfl,GQ⟩:=hrel;by_cases hlt:k<T.length
      ·obtain⟨x,hx⟩:∃ x,T[k]?=some x:=⟨_,Qg hlt⟩
       have hlim:=HL.o k x hx;have hnil:=HN.o k x hx;have hlt':(k:Int)<(T.length:Int):=(by omega);have hk0:(0:Int)≤(k:Int):=(by omega);have hwk:wrap64 ((k:Int)+1)=(k:Int)+1:=(by unfold wrap64;omega);have hcy:=HC.o k x hx;obtain⟨xa,xn,xc⟩:=x;simp only at hlim hnil;have HGQ:QH (wy.grownBy wr none):=GQ;cases xa with
       | none =>
        obtain rfl:=hnil rfl;have c1:wr.cell? ⟨ga,k,none⟩=some (.slice none 0 0):=GQ.cell hcy (by simp);obtain⟨wx,hwx⟩:=Qe (wr);subst hwx;clear hx hnil hlim hk hcy GQ;go_wp2_with fail;go_loopw [8] (fun i wp=>i=.int .i64 0∧wp=wx) (fun _ _=>0)
        case atStart=>exact⟨rfl,rfl⟩
        case round =>
         obtain⟨rfl,rfl⟩:=hrel;go_wp2_with fail;go_roundw
         case rel=>exact⟨k+1,hlt,by first | rfl | (rw[hwk];rfl),HGQ.o⟩
         case measure=>first | exact aD hlt | (rw[hwk];exact aD hlt)
       | some g =>
        have CK:QH (wy.cell? ⟨ga,k,none⟩=some (.slice (some ⟨g,0,none⟩) xc xc)):=hcy;have RD:QH (∀ m,m<xc→wy.rangeAt g (m*10) (sdc (j4 k m))):=fun m hm=>HMY.o.read hx rfl hm;have HLIM:QH (lim xc):=hlim;obtain⟨wx,hwx⟩:=Qe (wr);subst hwx;clear hx hnil hlim hk hcy GQ;go_wp2_with fail;go_loopw [8] (fun i wp=>∃ m:Nat,m≤xc∧i=.int .i64 m∧wy.grownBy wp none) (fun i _=>xc - (intOf i).toNat)
        case atStart=>exact⟨0,Q0 _,rfl,HGQ.o⟩
        case round =>
         obtain⟨m,hm,rfl,GP⟩:=hrel;have ck:=GP.cell CK.o (by simp);have HGP:QH (wy.grownBy wr none):=GP;by_cases hml:m<xc
         ·have RDm:wr.rangeAt g (m*10) (sdc (j4 k m)):=bQ (RD.o m hml) GP;have hm0:(0:Int)≤(m:Int):=(by omega);have hm1:(m:Int)<(xc:Int):=(by omega);have hwm:=HLIM.o.wrap hml;have nq:=sk (j4 k m);simp only[j4] at nq;have ng:=rG;clear hm GP;go_wp2_with fail;have S0:rX ga k g xc m wr.drew:=⟨ck,bQ RDm (ai _)⟩
          refine wp_region_held_drew (S:=rX ga k g xc m) (by kernel_rfl) S0 (fun hHeld=>?_);clear hHeld;refine QZ 0 rfl ?_;go_frame;refine QZ 1 rfl ?_;go_frame;refine QZ 2 rfl ?_;go_frame;refine QT 3 rfl (by intro w0 hSw;have hSc:=rX.c hSw;go_simp;try with_reducible rfl) ?_;go_frame;refine QZ 4 rfl ?_;go_frame;refine QZ 5 rfl ?_;go_frame;refine QT 6 rfl (by intro w0 hSw;obtain⟨p0,p1,p2,p3,p4,p5,p6,p7,p8,p9⟩:=bu (rX.p hSw);simp only[j4] at p0 p1 p2 p3 p4 p5 p6 p7 p8 p9;go_simp;try with_reducible rfl) ?_;go_frame;refine QZ 7 rfl ?_;go_frame;refine QZ 8 rfl ?_;go_frame;refine QR 9 rfl (fun K hK=>?_);go_simp;go_at_call 85;refine(qU _ _ _).mono ?_;rintro e w3 ⟨rfl,g3⟩;have G3:QH (wy.grownBy w3 none):=aa HGP.o (aa (ai _) g3);have S1:rX ga k g xc m w3:=⟨G3.o.cell CK.o (by simp),bQ (RD.o m hml) G3.o⟩
          refine hK.out _ _ S1 (fun hHeld2=>?_);clear hK K hHeld2 g3;(try go_frame);refine QZ 10 rfl ?_;go_frame;refine QD ?_;clear S0 S1;go_wp2_with fail;go_roundw
          case rel=>exact⟨m+1,hml,by first | rfl | (rw[hwm];rfl),G3.o⟩
          case measure=>first | exact aD hml | (rw[hwm];exact aD hml)
         ·have hml':¬(m:Int)<(xc:Int):=(by omega);clear hm GP;go_wp2_with fail;go_roundw
          case rel=>exact⟨k+1,hlt,by first | rfl | (rw[hwk];rfl),HGP.o⟩
          case measure=>first | exact aD hlt | (rw[hwk];exact aD hlt)
      ·have hlt':¬(k:Int)<(T.length:Int):=(by omega);clear hk hlt;go_wp2;go_ret;exact⟨rfl,((Kpt.of_grown HGz.o).mono (by simp)).trans (HKY.o.trans (Kpt.of_grown GQ) (by simp)) (fun _ hx=>Or.inl hx)⟩
