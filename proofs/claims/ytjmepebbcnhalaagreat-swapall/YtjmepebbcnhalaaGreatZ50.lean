import Derived.Test.YtjmepebbcnhalaaGreatZ49
namespace Go.Proofs.YtjmepebbcnhalaaGreat
open Tryz
set_option maxRecDepth 100000
set_option maxHeartbeats 4000000
open Go.RowKit Go.Shelf
variable {ts:List Th} {F fs:List Fe} {p:Pl} {gs:List Ent} {w w':World} {base g:Nat} {v vt vf:Value} {ok:Nat→Prop} {r n:Int} {cd:Int→Hd×List Pt} {s:Sd} {h:Hp}
theorem FZ {p:Pl}:∀ {ts:List Th} {F:List Fe},TrI F→TrI (kf (mfR p) ts F)
 | [],_,_=>fun f hf=>by simp[kf] at hf
 | t :: ts,[],_=>fun f hf=>by simp[kf] at hf
 | t :: ts,x :: F,h=>fun f hf=>by
  unfold kf at hf;rw[List.zipWith_cons_cons] at hf
  rcases Qbo.1 hf with rfl | hf
  ·have z:0≤Fe.none.tr∧Fe.none.tr<65536:=(by unfold Fe.none;decide);unfold vD;split
   ·unfold mfR;split
    ·exact h x Qaw
    ·exact z
   ·exact z
  ·exact FZ (p:=p) (ts:=ts) (F:=F) (fun f hf=>h f (Qar _ hf)) f hf
theorem GU {mf:Fe→Th→Fe}:(kf mf ts F).length≤ts.length:=by
 unfold kf;rw[List.length_zipWith];omega
theorem GZ {ow:Bool} (h:TrI fs) (hc:RgC (atC p gs)):TrI (ftR ow p gs ts fs):=by
 unfold ftR;split
 ·unfold vBR vBh;split
  ·split
   ·rename_i R hT;rw[Be];exact FZ (yC (Tab.of hT) hc (sC hc ts) _).tr
   ·exact fun f hf=>by cases hf
  ·exact fun f hf=>by cases hf
 ·exact h
theorem Eu {ow:Bool}:(ftR ow p gs ts fs).length≤ts.length∨ftR ow p gs ts fs=fs:=by
 unfold ftR;split
 ·left;unfold vBR vBh;split
  ·split
   ·rw[Be];exact GU
   ·exact Q0 _
  ·exact Q0 _
 ·exact Or.inr rfl
theorem Fh {ow:Bool} (h1:(ts.length+2)*88≤140737488355328) (h2:(fs.length+2)*32≤140737488355328):((ftR ow p gs ts fs).length+2)*32≤140737488355328:=by
 rcases Eu (ow:=ow) (p:=p) (gs:=gs) (ts:=ts) (fs:=fs) with h | h
 ·omega
 ·rw[h];exact h2
theorem C7 {l:List Sd} (h:aV w base v l):∃ x:Lst,v=x.v∧x.okD w∧x.a=v.ownBlock∧∀ g,x.a=some g→base≤g∧g<w.heap.size:=by
 unfold aV aB.Own at h
 rcases h.2 with ⟨e,h0⟩ | ⟨g,cap,cur,e,hb,hh,hn,hm,hs,ht⟩
 ·exact⟨⟨none,0,0⟩,e,Or.inl ⟨rfl,rfl,rfl⟩,by rw[e];rfl,fun g hg=>by cases hg⟩
 ·exact⟨⟨some g,l.length,cap⟩,e,Or.inr ⟨g,rfl,hn,hm,cur,hh,hs⟩,by rw[e];rfl,fun g' hg=>by cases hg;exact⟨hb,aY hh⟩⟩
theorem EE {w0:World} {b1 b2:Nat} {v1 v2:Value} {xs ys:List Sd} (g0:w0.grownBy w none) (o1:aV w b1 v1 xs) (o2:aV w b2 v2 ys) (h1:w0.heap.size≤b1) (h2:w0.heap.size≤b2) (hd:∀ x,v1.ownBlock=some x→x<b2) (hA:w.heap[g]?=some (.cells #[v1,v2] 30 (0,0))):Calls prog 26 #[.slice (some ⟨g,0,none⟩) 2 2] w fun e w'=>e=.returned (.bool true)∧w0.grownBy w' none:=by
 obtain⟨x,ex,kx,bx,rx⟩:=C7 o1;obtain⟨y,ey,ky,bY,ry⟩:=C7 o2;refine(xF g 2 [x,y] w (by simp) (by simp) (fun j z hz=>?_) (fun z hz=>?_) (fun i j a b t hi hj ha hb=>?_)).mono fun e w' h=>⟨h.1,Kpt.new g0 h.2 (fun t ht=>?_)⟩
 ·rcases j with _ | _ | j
  ·cases hz;rw[ae hA,←ex];rfl
  ·cases hz;rw[ae hA,←ey];rfl
  ·simp at hz
 ·rcases Qbo.1 hz with rfl | hz
  ·exact kx
  ·rw[Qby.1 hz];exact ky
 ·have key:∀ t,x.a=some t→y.a=some t→False:=fun t h3 h4=>by
   have h5:=hd t (by rw[←bx];exact h3);have h6:=(ry t h4).1;omega
  rcases i with _ | _ | i <;> rcases j with _ | _ | j
  ·rfl
  ·cases hi;cases hj;exact(key t ha hb).elim
  ·simp at hj
  ·cases hi;cases hj;exact(key t hb ha).elim
  ·rfl
  ·simp at hj
  ·simp at hi
  ·simp at hi
  ·simp at hi
 ·unfold eR at ht;obtain⟨z,hz,e⟩:=List.mem_filterMap.1 ht
  rcases Qbo.1 hz with rfl | hz
  ·have:=(rx t e).1;omega
  ·rw[Qby.1 hz] at e;have:=(ry t e).1;omega
theorem xx (va vb:Value) (l:List Sd) (w:World) (A:sdR.At w va l) (B:sdR.At w vb l) (hsm:lim l.length):Calls prog 17 #[va,vb] w fun e w'=>e=.returned (.bool true)∧w.grownBy w' none:=by
 obtain⟨pa,ca,rfl⟩:=A.form;obtain⟨pb,cb,rfl⟩:=B.form;have HA:QH (sdR.At w (.slice pa l.length ca) l):=A;have HB:QH (sdR.At w (.slice pb l.length cb) l):=B;have hnq:=sk;have hgq:=rG;clear A B;go_enter func17,ntmps17;go_wp2_with fail;go_loopw [5] (fun x5 wr=>∃ k:Nat,k≤l.length∧x5=.int .i64 (k:Int)∧w.grownBy wr none) (fun x5 _=>l.length - (intOf x5).toNat)
 case atStart=>exact⟨0,Q0 _,rfl,aw _ _⟩
 case round =>
  obtain⟨k,hk,rfl,G⟩:=hrel;obtain⟨U,hU⟩:=Qe (wr);subst hU;have HG:QH (w.grownBy U none):=G;clear G
  rcases (show k<l.length∨k=l.length from by omega) with hkl | hke
  ·have k0:(0:Int)≤(k:Int):=(by omega);have k1:(k:Int)<(l.length:Int):=(by omega);obtain⟨ga,oa,xa,ea,Ra⟩:=eG (HA.o.keep HG.o) hkl;cases ea;obtain⟨gb,ob,xb,eb,Rb⟩:=eG (HB.o.keep HG.o) hkl;cases eb;obtain⟨x,hx⟩:=Qe (l[k]);rw[←hx] at Ra Rb;obtain⟨a0,a1,a2,a3,a4,a5,a6,a7,a8,a9⟩:=bu Ra;obtain⟨b0,b1,b2,b3,b4,b5,b6,b7,b8,b9⟩:=bu Rb;clear hx Ra Rb;go_upto_region 6 with fail;go_quiet (fail);go_wp2_with fail;go_roundw
   case rel=>exact⟨k+1,hkl,by first | rfl | (rw[hsm.wrap hkl];rfl),aa HG.o (aA _ _ _)⟩
   case measure=>first | exact aD hkl | (rw[hsm.wrap hkl];exact aD hkl)
  ·have k1:¬(k:Int)<(l.length:Int):=(by omega);clear hke;go_wp2_with fail;go_ret;exact⟨rfl,HG.o⟩
theorem ni {l:List Sd} (h:aV w base v l):lim l.length:=by
 unfold aV aB.Own at h;obtain⟨_,_,_,hm⟩:=bZ h;exact hm
theorem Dt {l:List Sd} {q:Option Nat} (h:aV w base v l) (g:w.grownBy w' q) (hq:∀ y,q=some y→y<base):aV w' base v l:=by
 unfold aV aB.Own at h ⊢;refine Qav h g ?_;cases hv:v.ownBlock with
 | none=>exact Or.inl rfl
 | some x =>
  refine Or.inr fun e=>?_;have z:=(Qa5 h x hv).1;have y:=hq x e.symm;omega
theorem Im {l:List Fe} {q:Option Nat} (h:feR.Own 122 w base v l) (g:w.grownBy w' q) (hq:∀ y,q=some y→y<base):feR.Own 122 w' base v l:=by
 unfold aB.Own at h ⊢;refine Qav h g ?_;cases hv:v.ownBlock with
 | none=>exact Or.inl rfl
 | some x =>
  refine Or.inr fun e=>?_;have z:=(Qa5 h x hv).1;have y:=hq x e.symm;omega

def qQ:Th:=⟨-99,0,0,0,0,0,0,0,0,0,false⟩
theorem wY (base g n c:Nat) (l:List Th) (w:World) (hO:thR.Own 120 w base (.slice (some ⟨g,0,none⟩) n c) l) (hn:l.length=n) (hsm:bl n):Calls prog 33 #[.slice (some ⟨g,0,none⟩) n c] w fun e w'=>e=.returned (.tuple #[])∧w.grownBy w' (some g):=by
 have HO:QH (thR.Own 120 w base (.slice (some ⟨g,0,none⟩) n c) l∧l.length=n):=⟨hO,hn⟩
 clear hO hn;go_enter func33,ntmps33;go_wp2_with fail;go_loopw [2] (fun i wr=>∃ (k:Nat) (y:List Th),k≤n∧i=.int .i64 (k:Int)∧QH (y.length=n∧thR.Own 120 wr base (.slice (some ⟨g,0,none⟩) n c) y∧w.grownBy wr (some g))) (fun i _=>n - (intOf i).toNat)
 case atStart=>exact⟨0,l,Q0 _,rfl,HO.o.2,HO.o.1,World.grownBy.refl _ _⟩
 case round =>
  obtain⟨k,y,hk,rfl,HY⟩:=hrel;obtain⟨U,hU⟩:=Qe (wr);subst hU
  rcases (show k<n∨k=n from by omega) with hkl | hke
  ·have k0:(0:Int)≤(k:Int):=(by omega);have k1:(k:Int)<(n:Int):=(by omega);have HT:QH (U.there g (k*11) 11):=aB.Own.there HY.o.2.1 HY.o.1 hkl;have HS:=aB.Own.set HY.o.2.1 HY.o.1 hkl qQ;have HS2:QH (thR.Own 120 (U.setCells g (k*11) (thR.enc qQ)) base (.slice (some ⟨g,0,none⟩) n c) (y.set k qQ)∧w.grownBy (U.setCells g (k*11) (thR.enc qQ)) (some g)):=⟨HS.1,aa HY.o.2.2 HS.2⟩
   clear HS;go_upto_region 2 with (refine wpList_store_mid rfl 120 (.tmp 12) (.tmp 11) rfl g (k*11) #[.int .i64 (-99),.int .i64 0,.int .u8 0,.int .i64 0,.int .i64 0,.int .i64 0,.int .i64 0,.int .i64 0,.int .i64 0,.int .i64 0,.bool false] rfl rfl HT.o (by kernel_rfl) (by kernel_rfl) ?_)
   obtain⟨Z,hZ⟩:=Qe (U.setCells g (k*11) (thR.enc qQ));rw[←hZ] at HS2;rw[show U.setCells g (k*11) (#[.int .i64 (-99),.int .i64 0,.int .u8 0,.int .i64 0,.int .i64 0,.int .i64 0,.int .i64 0,.int .i64 0,.int .i64 0,.int .i64 0,.bool false]:Array Value).toList=Z from by rw[hZ];rfl];clear hZ;go_wp2_with fail;go_roundw
   case rel=>exact⟨k+1,y.set k qQ,hkl,by first | rfl | (rw[hsm.wrap hkl];rfl),by rw[Qc8];exact HY.o.1,HS2.o.1,HS2.o.2⟩
   case measure=>first | exact aD hkl | (rw[hsm.wrap hkl];exact aD hkl)
  ·have k1:¬(k:Int)<(n:Int):=(by omega);clear hke;go_wp2_with fail;go_end0;exact⟨rfl,HY.o.2.2⟩
def qw:Fe:=⟨-99,0,0,0,0⟩
theorem xD (base g n c:Nat) (l:List Fe) (w:World) (hO:feR.Own 122 w base (.slice (some ⟨g,0,none⟩) n c) l) (hn:l.length=n) (hsm:bl n):Calls prog 46 #[.slice (some ⟨g,0,none⟩) n c] w fun e w'=>e=.returned (.tuple #[])∧w.grownBy w' (some g):=by
 have HO:QH (feR.Own 122 w base (.slice (some ⟨g,0,none⟩) n c) l∧l.length=n):=⟨hO,hn⟩
 clear hO hn;go_enter func46,ntmps46;go_wp2_with fail;go_loopw [2] (fun i wr=>∃ (k:Nat) (y:List Fe),k≤n∧i=.int .i64 (k:Int)∧QH (y.length=n∧feR.Own 122 wr base (.slice (some ⟨g,0,none⟩) n c) y∧w.grownBy wr (some g))) (fun i _=>n - (intOf i).toNat)
 case atStart=>exact⟨0,l,Q0 _,rfl,HO.o.2,HO.o.1,World.grownBy.refl _ _⟩
 case round =>
  obtain⟨k,y,hk,rfl,HY⟩:=hrel;obtain⟨U,hU⟩:=Qe (wr);subst hU
  rcases (show k<n∨k=n from by omega) with hkl | hke
  ·have k0:(0:Int)≤(k:Int):=(by omega);have k1:(k:Int)<(n:Int):=(by omega);have HT:QH (U.there g (k*5) 5):=aB.Own.there HY.o.2.1 HY.o.1 hkl;have HS:=aB.Own.set HY.o.2.1 HY.o.1 hkl qw;have HS2:QH (feR.Own 122 (U.setCells g (k*5) (feR.enc qw)) base (.slice (some ⟨g,0,none⟩) n c) (y.set k qw)∧w.grownBy (U.setCells g (k*5) (feR.enc qw)) (some g)):=⟨HS.1,aa HY.o.2.2 HS.2⟩
   clear HS;go_upto_region 2 with (refine wpList_store_mid rfl 122 (.tmp 12) (.tmp 11) rfl g (k*5) #[.int .i64 (-99),.int .u8 0,.int .u16 0,.int .i64 0,.int .i64 0] rfl rfl HT.o (by kernel_rfl) (by kernel_rfl) ?_)
   obtain⟨Z,hZ⟩:=Qe (U.setCells g (k*5) (feR.enc qw));rw[←hZ] at HS2;rw[show U.setCells g (k*5) (#[.int .i64 (-99),.int .u8 0,.int .u16 0,.int .i64 0,.int .i64 0]:Array Value).toList=Z from by rw[hZ];rfl];clear hZ;go_wp2_with fail;go_roundw
   case rel=>exact⟨k+1,y.set k qw,hkl,by first | rfl | (rw[hsm.wrap hkl];rfl),by rw[Qc8];exact HY.o.1,HS2.o.1,HS2.o.2⟩
   case measure=>first | exact aD hkl | (rw[hsm.wrap hkl];exact aD hkl)
  ·have k1:¬(k:Int)<(n:Int):=(by omega);clear hke;go_wp2_with fail;go_end0;exact⟨rfl,HY.o.2.2⟩

theorem mq (a:Hp) (g l:Int) (v v':Value) (U:List Sd) (w:World) (A:sdR.At w v U) (B:sdR.At w v' U) (hl:lim U.length):Calls prog 47 #[dB a v g l,dB a v' g l] w fun e w'=>e=.returned (.bool true)∧w.grownBy w' none:=by
 obtain⟨pa,ca,rfl⟩:=A.form;obtain⟨pb,cb,rfl⟩:=B.form;obtain⟨W0,hW0⟩:=Qe (w.alloc (.cells #[.int .u8 a.vb,.int .i64 a.on,.int .i64 a.ct,.int .i64 a.ho,.bool a.vn,.bool a.dr,.slice pa U.length ca,.int .i64 g,.int .i64 l] 90));obtain⟨W,hW⟩:=Qe (W0.alloc (.cells #[.int .u8 a.vb,.int .i64 a.on,.int .i64 a.ct,.int .i64 a.ho,.bool a.vn,.bool a.dr,.slice pb U.length cb,.int .i64 g,.int .i64 l] 90));have g0:w.grownBy W0 none:=by rw[hW0];exact QG
 have g1:W0.grownBy W none:=by rw[hW];exact QG
 have e0:W0.heap.size=w.heap.size+1:=by rw[hW0,Qa3]
 have HG:QH (w.grownBy W none):=aa g0 g1;have HX:QH (SwB W w.heap.size a (.slice pa U.length ca) g l):=ag g1 (by rw[hW0];exact aj w _ _) (by simp);have HY:QH (SwB W (w.heap.size+1) a (.slice pb U.length cb) g l):=by rw[←e0,hW];exact aj _ _ _
 have C:=xx (.slice pa U.length ca) (.slice pb U.length cb) U W (A.keep HG.o) (B.keep HG.o) hl;have hW':W=(w.alloc (.cells #[.int .u8 a.vb,.int .i64 a.on,.int .i64 a.ct,.int .i64 a.ho,.bool a.vn,.bool a.dr,.slice pa U.length ca,.int .i64 g,.int .i64 l] 90)).alloc (.cells #[.int .u8 a.vb,.int .i64 a.on,.int .i64 a.ct,.int .i64 a.ho,.bool a.vn,.bool a.dr,.slice pb U.length cb,.int .i64 g,.int .i64 l] 90):=by rw[hW,hW0]
 unfold dB;clear A B hW0 hW g0 g1 e0;go_enter func47,ntmps47;go_upto_region 1 with fail;rw[←hW'];clear hW';obtain⟨n0,hn0⟩:=Qe (w.heap.size);simp only[←hn0] at HX HY ⊢;obtain⟨n1,hn1⟩:=Qe (n0+1);simp only[←hn1] at HY ⊢;clear hn0 hn1;obtain⟨x0,x1,x2,x3,x4,x5,x6,x7,x8⟩:=bt HX.o;obtain⟨y0,y1,y2,y3,y4,y5,y6,y7,y8⟩:=bt HY.o;have hq1:=FC a;have hgq:=wW;go_wp2_with fail;refine C.mono ?_;rintro e1 w1 ⟨rfl,q1⟩;have H1:QH (W.grownBy w1 none):=q1;clear C q1 x0 x1 x2 x3 x4 x5 x6 x7 x8 y0 y1 y2 y3 y4 y5 y6 y7 y8 hq1 hgq;obtain⟨x0,x1,x2,x3,x4,x5,x6,x7,x8⟩:=bt (ag H1.o HX.o (by simp));obtain⟨y0,y1,y2,y3,y4,y5,y6,y7,y8⟩:=bt (ag H1.o HY.o (by simp));have d1:(g == g)=true:=by simp
 have d2:(l == l)=true:=by simp
 go_wp2_with fail;go_ret;exact⟨by simp,aa HG.o H1.o⟩
theorem RIn.few {r:Nat} (_:RIn ok w r v p gs vt vf ts F) (hb:bgE (aX p ts.length) (gs.length:Int) (atC p gs) ts F 1=0):ts.length≤2048:=by
 obtain⟨h1,_⟩:=lC hb;exact(Bf h1).2
theorem ua (e:¬(bgE r n cd ts F 1=0∧aK ts h=true)):hJ r n cd ts F s h=false:=by
 unfold hJ;rw[Qx (fun z=>e (uU z)),Qai]
theorem xK (e:bgE r n cd ts F 1=0∧aK ts h=true):laE r n cd ts F h=0:=by
 unfold laE;rw[if_pos e.1,if_pos e.2]
theorem D8 (e:bgE r n cd ts F 1=0∧aK ts h=true) (hs:s∈swT r n cd ts F):hJ r n cd ts F s h=i6 cd ts F s h:=by
 unfold hJ;rw[Qy (xK e),lT.2 hs,Qah,Qah]
theorem Ch (hs:∀ k:Nat,¬(swT r n cd ts F)[k]?=some s):hJ r n cd ts F s h=false:=by
 unfold hJ
 have e:l9 (swT r n cd ts F) s=false:=by
  cases z:l9 (swT r n cd ts F) s with
  | false=>rfl
  | true=>obtain⟨k,hk⟩:=Qcy (lT.1 z);exact absurd hk (hs k)
 rw[e,Qai,Qcu]
theorem sr (ok:Nat→Prop) (r:Nat) (v:Value) (p:Pl) (gs:List Ent) (vt vf:Value) (ts:List Th) (F:List Fe) (s:Sd) (h:Hp) (w:World) (I:RIn ok w r v p gs vt vf ts F):Calls prog 44 #[.pointer (some ⟨r,0,none⟩),vt,vf,sdv s,hpv h] w fun e w'=>e=.returned (.bool (hJ (aX p ts.length) (gs.length:Int) (atC p gs) ts F s h))∧w.grownBy w' none:=by
 obtain⟨pt,ct,rfl⟩:=I.th.form;obtain⟨pf,cf,rfl⟩:=I.fe.form;obtain⟨W0,hW0⟩:=Qe (w.alloc (.cells #[.int .i64 s.th,.int .i64 s.pl,.int .u8 s.wh.wn,.int .u8 s.wh.vb,.int .u8 s.wh.wm,.int .i64 s.wh.ct,.int .u8 s.wh.su,.int .u8 s.wh.tr,.int .u8 s.wh.mr,.string s.wh.nm] 64));obtain⟨W1,hW1⟩:=Qe (W0.alloc (.cells #[.int .u8 h.vb,.int .i64 h.on,.int .i64 h.ct,.int .i64 h.ho,.bool h.vn,.bool h.dr] 87));have g0:w.grownBy W0 none:=by rw[hW0];exact QG
 have g1:W0.grownBy W1 none:=by rw[hW1];exact QG
 have e0:W0.heap.size=w.heap.size+1:=by rw[hW0,Qa3]
 have HG1:QH (w.grownBy W1 none):=aa g0 g1;have HS:QH (SdB W1 w.heap.size s):=ag g1 (by rw[hW0];exact aj w _ _) (by simp);have HH:QH (HpB W1 (w.heap.size+1) h):=by rw[←e0,hW1];exact aj _ _ _
 have HI:QH (RIn ok W1 r v p gs (.slice pt ts.length ct) (.slice pf F.length cf) ts F):=I.keep HG1.o;have C1:=jd ok r v p gs _ _ ts F W1 HI.o;have hW1':W1=(w.alloc (.cells #[.int .i64 s.th,.int .i64 s.pl,.int .u8 s.wh.wn,.int .u8 s.wh.vb,.int .u8 s.wh.wm,.int .i64 s.wh.ct,.int .u8 s.wh.su,.int .u8 s.wh.tr,.int .u8 s.wh.mr,.string s.wh.nm] 64)).alloc (.cells #[.int .u8 h.vb,.int .i64 h.on,.int .i64 h.ct,.int .i64 h.ho,.bool h.vn,.bool h.dr] 87):=by rw[hW1,hW0]
 unfold hpv sdv;clear I hW0 hW1 g0 g1 e0;go_enter func44,ntmps44;go_upto_region 1 with fail;rw[←hW1'];clear hW1';obtain⟨n0,hn0⟩:=Qe (w.heap.size);simp only[←hn0] at HH HS ⊢;obtain⟨n1,hn1⟩:=Qe (n0+1);simp only[←hn1] at HH ⊢;clear hn0 hn1;obtain⟨L,hL⟩:=Qe (swT (aX p ts.length) (gs.length:Int) (atC p gs) ts F);obtain⟨q,hq⟩:=Qe (bgE (aX p ts.length) (gs.length:Int) (atC p gs) ts F 1);have HL:QH (L=swT (aX p ts.length) (gs.length:Int) (atC p gs) ts F∧q=bgE (aX p ts.length) (gs.length:Int) (atC p gs) ts F 1):=⟨hL,hq⟩
 rw[←hL,←hq] at C1;clear hL hq;go_wp2_with fail;refine C1.mono ?_;rintro e2 w2 ⟨vL,rfl,oL,g2⟩;have HLm:QH (lim L.length):=ni oL;have HAL:QH (sdR.At w2 vL L∧W1.grownBy w2 none):=⟨aB.Own.at oL,g2⟩
 obtain⟨pL,cL,rfl⟩:=aB.Own.form oL;clear C1 oL g2;by_cases hq0:q=0
 case neg =>
  have k0:(q != 0)=true:=by simpa using hq0
  have HE:QH (hJ (aX p ts.length) (gs.length:Int) (atC p gs) ts F s h=false):=ua (fun z=>hq0 (HL.o.2.trans z.1));clear hq0;go_wp2_with fail;go_ret;exact⟨aI HE.o.symm,aa HG1.o HAL.o.2⟩
 case pos =>
  have k0:(q != 0)=false:=by rw[hq0];rfl
  have hbg:=HL.o.2.symm.trans hq0;obtain⟨R,hR,hI⟩:=HI.o.sw hbg;have HIw:QH (∀ Y,W1.grownBy Y none→RSw ok Y r v p gs (.slice pt ts.length ct) (.slice pf F.length cf) ts F R):=fun Y g=>hI.keep g;have HSo:QH (∀ x∈L,qr F x):=fun x hx=>by rw[HL.o.1,kl hbg hR] at hx;exact(nO hI.tab hI.good hx).1
  have HBG:QH (bgE (aX p ts.length) (gs.length:Int) (atC p gs) ts F 1=0):=hbg;have C2:=jY (.slice pt ts.length ct) ts h w2 (HI.o.th.keep HAL.o.2) hI.few;unfold hpv at C2;clear hq0 hbg hR hI;obtain⟨x0,x1,x2,x3,x4,x5⟩:=aJ (ag HAL.o.2 HH.o (by simp));go_wp2_with fail;refine C2.mono ?_;rintro e3 w3 ⟨rfl,g3⟩;have H3:QH (W1.grownBy w3 none):=aa HAL.o.2 g3;have HA3:QH (sdR.At w3 (.slice pL L.length cL) L):=HAL.o.1.keep g3;clear C2 g3 x0 x1 x2 x3 x4 x5 HAL;cases hm:aK ts h with
  | false =>
   have HE:QH (hJ (aX p ts.length) (gs.length:Int) (atC p gs) ts F s h=false):=ua (fun z=>by rw[hm] at z;cases z.2);clear hm;go_wp2_with fail;go_ret;exact⟨aI HE.o.symm,aa HG1.o H3.o⟩
  | true =>
   have HM:QH (aK ts h=true):=hm;clear hm;go_wp2_with fail;go_loopw [13] (fun i wr=>∃ (j:Nat),j≤L.length∧i=.int .i64 (j:Int)∧QH (w3.grownBy wr none)∧QH (∀ k,k<j→¬L[k]?=some s)) (fun i _=>L.length - (intOf i).toNat)
   case atStart=>exact⟨0,Q0 _,rfl,aw _ _,fun k hk=>absurd hk (Qbh _)⟩
   case round =>
    obtain⟨j,hj,rfl,HJ,HN⟩:=hrel;obtain⟨Y,hY⟩:=Qe (wr);subst hY;by_cases hjl:j<L.length
    ·have j1:(j:Int)<(L.length:Int):=Int.ofNat_lt.2 hjl;have j0:(0:Int)≤(j:Int):=(by omega);have hwj:=HLm.o.wrap hjl;have HMj:QH (L.length - (intOf (.int .i64 ((j:Int)+1))).toNat<L.length - (intOf (.int .i64 (j:Int))).toNat):=cj hjl;obtain⟨y,hy⟩:∃ y,L[j]?=some y:=⟨_,Qg hjl⟩
     obtain⟨gL,oL,cL2,eL,rL⟩:=eG (HA3.o.keep HJ.o) hjl;injection eL with eL eL2 eL3;clear eL2 eL3;subst eL;rw[show L[j]=y from (Qh hy).2] at rL;obtain⟨d0,d1,d2,d3,d4,d5,d6,d7,d8,d9⟩:=bu rL;obtain⟨r0,r1,r2,r3,r4,r5,r6,r7,r8,r9⟩:=aQ (ag (aa H3.o HJ.o) HS.o (by simp));have hgq:=yq;have Hjl:QH (j<L.length):=hjl;have hq1:=Fo y s;by_cases hys:y=s
     ·rw[show eM y s=true from fH.2 hys] at hq1;have HE:QH (hJ (aX p ts.length) (gs.length:Int) (atC p gs) ts F s h=i6 (atC p gs) ts F s h):=D8 ⟨HBG.o,HM.o⟩ (by rw[←HL.o.1];exact Qm (by rw[←hys];exact hy));have HOk:QH (qr F s):=HSo.o s (Qm (by rw[←hys];exact hy));clear hys hy rL hjl hj;go_upto_region 7 with fail;go_quiet (fail);clear d0 d1 d2 d3 d4 d5 d6 d7 d8 d9 r0 r1 r2 r3 r4 r5 r6 r7 r8 r9 hq1 hgq;obtain⟨Y1,hY1⟩:=Qe (Y.drewN nq);have HY1:QH (W1.grownBy Y1 none):=(by rw[hY1];exact aa (aa H3.o HJ.o) (aA _ _ _));rw[←hY1];clear hY1;obtain⟨r0,r1,r2,r3,r4,r5,r6,r7,r8,r9⟩:=aQ (ag HY1.o HS.o (by simp));obtain⟨x0,x1,x2,x3,x4,x5⟩:=aJ (ag HY1.o HH.o (by simp));have C3:=l8 ok r v p gs _ _ ts F R s h Y1 (HIw.o _ HY1.o) HOk.o HM.o;unfold hpv sdv at C3;go_wp2_with fail;refine C3.mono ?_;rintro e4 w4 ⟨rfl,g4⟩;have H4:QH (w.grownBy w4 none):=aa HG1.o (aa HY1.o g4);clear C3 g4;go_wp2_with fail;go_ret;exact⟨aI HE.o.symm,H4.o⟩
     ·rw[BD hys] at hq1
      have HN2:QH (∀ k,k<j+1→¬L[k]?=some s):=fun k hk z=>by
       rcases Nat.lt_or_eq_of_le (Nat.le_of_lt_succ hk) with h1 | h1
       ·exact HN.o k h1 z
       ·rw[h1,hy] at z;exact hys (Qa1 z)
      clear hys hy rL hjl hj;go_upto_region 7 with fail;go_quiet (fail);clear d0 d1 d2 d3 d4 d5 d6 d7 d8 d9 r0 r1 r2 r3 r4 r5 r6 r7 r8 r9 hq1 hgq;go_wp2_with fail;go_roundw
      case rel=>exact⟨j+1,Hjl.o,by first | rfl | (rw[hwj];rfl) | go_num,aa HJ.o (aA _ _ _),HN2.o⟩
      case measure=>first | exact HMj.o | (rw[hwj];exact HMj.o)
    ·have j1:¬(j:Int)<(L.length:Int):=by omega
     have HE:QH (hJ (aX p ts.length) (gs.length:Int) (atC p gs) ts F s h=false):=Ch (fun k hk=>by
      rw[←HL.o.1] at hk
      exact HN.o k (by have:=(Qh hk).1;omega) hk)
     clear hjl hj;go_wp2_with fail;go_ret;exact⟨aI HE.o.symm,aa HG1.o (aa H3.o HJ.o)⟩
