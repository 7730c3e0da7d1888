import Derived.Test.YtjmepebbcnhalaaGreatZ41
namespace Go.Proofs.YtjmepebbcnhalaaGreat
open Tryz
set_option maxRecDepth 100000
set_option maxHeartbeats 4000000
open Go.RowKit Go.Shelf
variable {c b g k:Nat} {w w':World} {bv vt vf vl:Value} {n:Int} {cd:Int→Hd×List Pt} {ts:List Th} {F:List Fe} {s:Sd} {h:Hp}
def lf (s o:Sd):Bool:=decide (o.th=s.th) && decide (o.pl=s.pl)
theorem FG (s o:Sd) (b:Nat) (w:World) (S:SdB w b s):Calls prog 232 #[.agg (sdc o).toArray,.pointer (some ⟨b,0,none⟩)] w fun e w'=>e=.returned (.bool (lf s o))∧w.grownBy w' none:=by
 obtain⟨V,hV⟩:=Qe (w.alloc (.cells #[.int .i64 o.th,.int .i64 o.pl,.int .u8 o.wh.wn,.int .u8 o.wh.vb,.int .u8 o.wh.wm,.int .i64 o.wh.ct,.int .u8 o.wh.su,.int .u8 o.wh.tr,.int .u8 o.wh.mr,.string o.wh.nm] 64));have HG:QH (w.grownBy V none):=by rw[hV];exact QG
 have HO:QH (SdB V w.heap.size o):=by rw[hV];exact aj w _ _
 have HS:QH (SdB V b s):=ag HG.o S (by simp);unfold sdc;clear S;go_enter func232,ntmps232;go_upto_region 1 with fail;rw[←hV];clear hV;obtain⟨n0,hn0⟩:=Qe (w.heap.size);simp only[←hn0] at HO ⊢;clear hn0;obtain⟨s0,s1,-⟩:=aQ HS.o;obtain⟨o0,o1,-⟩:=aQ HO.o;by_cases h1:o.th=s.th
 ·have k1:(o.th == s.th)=true:=by rw[h1];exact beq_self_eq_true _
  have HR:QH (lf s o=(o.pl == s.pl)):=by show _=_;unfold lf;rw[Qy h1,Qah,dY]
  clear h1;go_wp2;go_ret;exact⟨aI HR.o.symm,HG.o⟩
 ·have k1:(o.th == s.th)=false:=by simpa using h1
  have HR:QH (lf s o=false):=by show _=_;unfold lf;rw[Qx h1,Qai]
  clear h1;go_wp2;go_ret;exact⟨aI HR.o.symm,HG.o⟩
theorem yZ (p:Option Addr) (c:Nat) (fv:Value) (w:World):Calls prog 267 #[.slice p 0 c,fv] w fun e w'=>e=.returned (.int .i64 (-1))∧w'=w:=by
 go_enter func267,ntmps267;go_wp2_with fail;refine wp_loop_rounds 1 ?_;rw[rounds_succ];go_wp2;go_ret;exact⟨rfl,rfl⟩
theorem B6 (p:Option Addr) (c:Nat) (fv:Value) (w:World):Calls prog 231 #[.slice p 0 c,fv] w fun e w'=>e=.returned (.bool false)∧w'=w:=by
 have C:=yZ p c fv w;go_enter func231,ntmps231;go_wp2_with fail;refine C.mono ?_;rintro e1 w1 ⟨rfl,rfl⟩;go_wp2_with fail;go_ret;exact⟨rfl,rfl⟩
theorem DA (v:Value) (S:List Sd) (n:Nat) (s:Sd) (w:World) (A:sdR.At w v S) (c:SdB w n s):Calls prog 231 #[v,.func (.func 232) #[] #[.pointer (some ⟨n,0,none⟩)]] w fun e w'=>e=.returned (.bool (fl S s))∧w.grownBy w' none:=by
 by_cases h0:S.length=0
 ·have e1:S=[]:=List.length_eq_zero_iff.1 h0;subst e1;obtain⟨p,cap,rfl⟩:=A.form;refine(B6 p cap _ w).mono ?_;rintro e w' ⟨rfl,rfl⟩;exact⟨rfl,aw _ _⟩
 ·obtain⟨p,cap,e1,hmx,hA⟩:=A;obtain⟨g,off,e2,hR⟩:=hA (Qc5 h0);subst e2;subst e1
  haveI:Inhabited Sd:=⟨Sd.none⟩
  have eg:∀ args w,(callFunc 232 args).run prog w=.ok (.enter 232 args) w:=enters_of func232 (by kernel_rfl) rfl;have hb:g<w.heap.size:=Qbj _ _ (bu (hR 0 S[0] (Qg (Qc5 h0)))).1
  have hS:=AnyQ.slices_ContainsFunc cntD 10 isAgg64 sizeOf64 sdc (fun _=>rfl) (fun y=>lf s y) 232 #[.pointer (some ⟨n,0,none⟩)] eg g off S.length cap S w
   (fun W x hW=>(FG s x n W (by have:=hW.block n (aY c);show W.heap[n]?=_;rw[this];exact c)).mono fun e w' q=>⟨q.1,hW.trans ((jp q.2).mono hW.size)⟩)
   (Qj _) (by unfold maxLen at hmx;omega) hb (fun j hj i u hu=>by
    have q:=hR j S[j] (Qg hj) i u;rw[show S[j]! = S[j] from by simp[hj]] at hu
    exact q hu)
  change Calls prog 231 _ _ _ at hS;refine hS.mono ?_;rintro e w' ⟨rfl,hb'⟩;refine⟨aI ?_,⟨hb'.os,hb'.tape,hb'.output,hb'.size,fun k hk _=>hb'.block k hk⟩⟩;rw[Qas];rfl
theorem rB (v:Value) (S:List Sd) (s:Sd) (w:World) (A:sdR.At w v S):Calls prog 165 #[v,sdv s] w fun e w'=>e=.returned (.bool (fl S s))∧w.grownBy w' none:=by
 have hmf:∀ (fn:Fn) (first cap:Array Value) (w:World),(Instr.makeFunc fn first cap).run prog w=.ok (.func fn first cap) w:=fun _ _ _ _=>rfl;obtain⟨V,hV⟩:=Qe (w.alloc (.cells #[.int .i64 s.th,.int .i64 s.pl,.int .u8 s.wh.wn,.int .u8 s.wh.vb,.int .u8 s.wh.wm,.int .i64 s.wh.ct,.int .u8 s.wh.su,.int .u8 s.wh.tr,.int .u8 s.wh.mr,.string s.wh.nm] 64));have HG:QH (w.grownBy V none):=by rw[hV];exact QG
 have HS:QH (SdB V w.heap.size s):=by rw[hV];exact aj w _ _
 have C:=DA v S w.heap.size s V (A.keep HG.o) HS.o;obtain⟨pv,cv,rfl⟩:=A.form;unfold sdv;clear A;go_enter func165,ntmps165;go_upto_region 1 with fail;rw[←hV];clear hV;go_wp2_with fail;refine C.mono ?_;rintro e1 w1 ⟨rfl,g1⟩;have HG1:QH (V.grownBy w1 none):=g1;clear C g1;go_wp2_with fail;go_ret;exact⟨rfl,aa HG.o HG1.o⟩
end Go.Proofs.YtjmepebbcnhalaaGreat
namespace Go.Proofs.YtjmepebbcnhalaaGreat
open Tryz
set_option maxRecDepth 100000
set_option maxHeartbeats 4000000
open Go.RowKit
variable {c b g k:Nat} {w w':World} {bv vt vf vl:Value} {n:Int} {cd:Int→Hd×List Pt} {ts:List Th} {F:List Fe} {s:Sd} {h:Hp}
theorem bB (b:World) (c:Nat) (v0 v1 v2 v3 v4 v5 v6 v7 v8 v9:Value):b.grownBy ((((((((((b.setCell ⟨c,0,none⟩ v0).setCell ⟨c,1,none⟩ v1).setCell ⟨c,2,none⟩ v2).setCell ⟨c,3,none⟩ v3).setCell ⟨c,4,none⟩ v4).setCell ⟨c,5,none⟩ v5).setCell ⟨c,6,none⟩ v6).setCell ⟨c,7,none⟩ v7).setCell ⟨c,8,none⟩ v8).setCell ⟨c,9,none⟩ v9) (some c):=((((((((((al _ _ _ _).trans (al _ _ _ _)).trans (al _ _ _ _)).trans (al _ _ _ _)).trans (al _ _ _ _)).trans (al _ _ _ _)).trans (al _ _ _ _)).trans (al _ _ _ _)).trans (al _ _ _ _)).trans (al _ _ _ _))
theorem mx {a b:World} (h:a.grownBy b none) (hc:a.heap.size≤c) (v0 v1 v2 v3 v4 v5 v6 v7 v8 v9:Value):a.grownBy ((((((((((b.setCell ⟨c,0,none⟩ v0).setCell ⟨c,1,none⟩ v1).setCell ⟨c,2,none⟩ v2).setCell ⟨c,3,none⟩ v3).setCell ⟨c,4,none⟩ v4).setCell ⟨c,5,none⟩ v5).setCell ⟨c,6,none⟩ v6).setCell ⟨c,7,none⟩ v7).setCell ⟨c,8,none⟩ v8).setCell ⟨c,9,none⟩ v9) none:=ak h (bB b c v0 v1 v2 v3 v4 v5 v6 v7 v8 v9) (fun y e=>by cases e;exact hc)
theorem fY {b:World} {x:Sd} (s:Sd) (H:SdB b c x):SdB ((((((((((b.setCell ⟨c,0,none⟩ (.int .i64 s.th)).setCell ⟨c,1,none⟩ (.int .i64 s.pl)).setCell ⟨c,2,none⟩ (.int .u8 s.wh.wn)).setCell ⟨c,3,none⟩ (.int .u8 s.wh.vb)).setCell ⟨c,4,none⟩ (.int .u8 s.wh.wm)).setCell ⟨c,5,none⟩ (.int .i64 s.wh.ct)).setCell ⟨c,6,none⟩ (.int .u8 s.wh.su)).setCell ⟨c,7,none⟩ (.int .u8 s.wh.tr)).setCell ⟨c,8,none⟩ (.int .u8 s.wh.mr)).setCell ⟨c,9,none⟩ (.string s.wh.nm)) c s:=by
 unfold SdB at H ⊢;have h0:=au H 0 (.int .i64 s.th);have h1:=au h0 1 (.int .i64 s.pl);have h2:=au h1 2 (.int .u8 s.wh.wn);have h3:=au h2 3 (.int .u8 s.wh.vb);have h4:=au h3 4 (.int .u8 s.wh.wm);have h5:=au h4 5 (.int .i64 s.wh.ct);have h6:=au h5 6 (.int .u8 s.wh.su);have h7:=au h6 7 (.int .u8 s.wh.tr);have h8:=au h7 8 (.int .u8 s.wh.mr);have h9:=au h8 9 (.string s.wh.nm);simp only[List.setIfInBounds_toArray,List.set_cons_zero,List.set_cons_succ] at h9;exact h9
def hpa (h:Hp):Array Value:=#[.int .u8 h.vb,.int .i64 h.on,.int .i64 h.ct,.int .i64 h.ho,.bool h.vn,.bool h.dr]
def sda (s:Sd):Array Value:=#[.int .i64 s.th,.int .i64 s.pl,.int .u8 s.wh.wn,.int .u8 s.wh.vb,.int .u8 s.wh.wm,.int .i64 s.wh.ct,.int .u8 s.wh.su,.int .u8 s.wh.tr,.int .u8 s.wh.mr,.string s.wh.nm]
theorem qG {a:Nat} (h:b≤a) (h':c<b):a≠c:=by omega
theorem iU (h:SdB w g Sd.none):w.cell? ⟨g,0,none⟩=some (.int .i64 0)∧w.cell? ⟨g,1,none⟩=some (.int .i64 0)∧w.cell? ⟨g,2,none⟩=some (.int .u8 0)∧w.cell? ⟨g,3,none⟩=some (.int .u8 0)∧w.cell? ⟨g,4,none⟩=some (.int .u8 0)∧w.cell? ⟨g,5,none⟩=some (.int .i64 0)∧w.cell? ⟨g,6,none⟩=some (.int .u8 0)∧w.cell? ⟨g,7,none⟩=some (.int .u8 0)∧w.cell? ⟨g,8,none⟩=some (.int .u8 0)∧w.cell? ⟨g,9,none⟩=some (.string ⟨#[]⟩):=aQ h
def qr (F:List Fe) (s:Sd):Prop:=∃ (z:Nat) (g:Fe),s.th=(z:Int)+1∧F[z]?=some g∧(g.ho=0∨g.ho=1)∧16≤s.wh.vb∧s.wh.vb≤19
structure NIn (w:World) (bv vt vf vl:Value) (n:Int) (cd:Int→Hd×List Pt) (ts:List Th) (F:List Fe) (L:List Sd):Prop where
 at1:thR.At w vt ts
 at2:feR.At w vf F
 at3:sdR.At w vl L
 card:jP w bv n cd
 len:ts.length=F.length
 few:ts.length≤2048
 be:∀ (j:Nat) t,ts[j]?=some t→1≤t.card∧t.card≤n
 ok:∀ s∈L,qr F s
theorem NIn.keep {L:List Sd} (h:NIn w bv vt vf vl n cd ts F L) (q:w.grownBy w' none):NIn w' bv vt vf vl n cd ts F L:=⟨h.at1.keep q,h.at2.keep q,h.at3.keep q,h.card.keep q,h.len,h.few,h.be,h.ok⟩
theorem NIn.one {L:List Sd} (h:NIn w bv vt vf vl n cd ts F L) (hs:qr F s):∃ z g,AIn w bv vt vf n cd ts F s z g∧g.ho=hoN F s.th∧16≤s.wh.vb∧s.wh.vb≤19:=by
 obtain⟨z,g,a,b,c,d,e⟩:=hs;exact⟨z,g,⟨h.at1,h.at2,h.card,a,b,c,h.len,h.few,h.be⟩,(kb a b).symm,d,e⟩
def gR (F:List Fe) (s:Sd) (h:Hp):Hp:=fX s (hoN F s.th) h
def mA (F:List Fe) (h:Hp):Option Sd→Hp
 | none=>Hp.none
 | some s=>gR F s h
def mK:Option Sd→Sd
 | none=>Sd.none
 | some s=>s
theorem pP {p:Sd→Bool} {L:List Sd} (h:(L.take k).find? p=none) (hs:L[k]?=some s) (hp:p s=false):(L.take (k+1)).find? p=none:=by
 rw[Qat,hs,Qdc,h];simp[hp]
theorem ri {p:Sd→Bool} {L:List Sd} (h:(L.take k).find? p=none) (hs:L[k]?=some s) (hp:p s=true):L.find? p=some s:=by
 have hk:=(Qh hs)
 obtain⟨hk1,hk2⟩:=hk;rw[←Qcw k L,Qdc,h,Qb7 hk1,hk2];simp[hp]
theorem BY {k n:Nat} (h:k<n) (hn:n≤maxLen):wrap64 ((k:Int)+1)=(k:Int)+1:=by unfold maxLen at hn;unfold wrap64;omega
theorem rp (bv vt vf vl vu:Value) (n:Int) (cd:Int→Hd×List Pt) (ts:List Th) (F:List Fe) (L S:List Sd) (h:Hp) (w:World) (I:NIn w bv vt vf vl n cd ts F L) (AU:sdR.At w vu S) (hm:aK ts h=true):Calls prog 99 #[dn bv vt vf vl,hpv h,vu] w fun e w'=>e=.returned (.tuple #[hpv (mA F h (gU cd ts F L h S)),sdv (mK (gU cd ts F L h S)),.bool (gU cd ts F L h S).isSome])∧w.grownBy w' none:=by
 obtain⟨pt,ct,rfl⟩:=I.at1.form;obtain⟨pf,cf,rfl⟩:=I.at2.form;obtain⟨pl,cl,rfl⟩:=I.at3.form;obtain⟨pu,cu,rfl⟩:=AU.form;have HLn:QH (L.length≤maxLen):=by obtain⟨_,_,_,q,_⟩:=I.at3;exact q
 obtain⟨A0,hA0⟩:=Qe (w.alloc (.cells #[bv,.slice pt ts.length ct,.slice pf F.length cf,.slice pl L.length cl] 175));obtain⟨A1,hA1⟩:=Qe (A0.alloc (.cells #[.int .u8 h.vb,.int .i64 h.on,.int .i64 h.ct,.int .i64 h.ho,.bool h.vn,.bool h.dr] 87));obtain⟨A2,hA2⟩:=Qe (A1.alloc (.cells #[.int .u8 0,.int .i64 0,.int .i64 0,.int .i64 0,.bool false,.bool false] 87));obtain⟨V,hV⟩:=Qe (A2.alloc (.cells #[.int .i64 0,.int .i64 0,.int .u8 0,.int .u8 0,.int .u8 0,.int .i64 0,.int .u8 0,.int .u8 0,.int .u8 0,.string ⟨#[]⟩] 64));have g0:w.grownBy A0 none:=by rw[hA0];exact QG
 have g1:A0.grownBy A1 none:=by rw[hA1];exact QG
 have g2:A1.grownBy A2 none:=by rw[hA2];exact QG
 have g3:A2.grownBy V none:=by rw[hV];exact QG
 have e0:A0.heap.size=w.heap.size+1:=by rw[hA0,Qa3]
 have e1:A1.heap.size=w.heap.size+1+1:=by rw[hA1,Qa3,e0]
 have e2:A2.heap.size=w.heap.size+1+1+1:=by rw[hA2,Qa3,e1]
 have HG:QH (w.grownBy V none):=aa (aa (aa g0 g1) g2) g3;have HC:QH (dg V w.heap.size bv (.slice pt ts.length ct) (.slice pf F.length cf) (.slice pl L.length cl)):=ag (aa (aa g1 g2) g3) (by rw[hA0];exact aj w _ _) (by simp);have HH:QH (HpB V (w.heap.size+1) h):=ag (aa g2 g3) (by rw[←e0,hA1];exact aj _ _ _) (by simp);have HZ:QH (HpB V (w.heap.size+1+1) Hp.none):=ag g3 (by rw[←e1,hA2];exact aj _ _ _) (by simp);have HY:QH (SdB V (w.heap.size+1+1+1) Sd.none):=by rw[←e2,hV];exact aj _ _ _
 have HI:QH (NIn V bv (.slice pt ts.length ct) (.slice pf F.length cf) (.slice pl L.length cl) n cd ts F L∧sdR.At V (.slice pu S.length cu) S∧aK ts h=true):=⟨I.keep HG.o,AU.keep HG.o,hm⟩
 have hV':V=(((w.alloc (.cells #[bv,.slice pt ts.length ct,.slice pf F.length cf,.slice pl L.length cl] 175)).alloc (.cells #[.int .u8 h.vb,.int .i64 h.on,.int .i64 h.ct,.int .i64 h.ho,.bool h.vn,.bool h.dr] 87)).alloc (.cells #[.int .u8 0,.int .i64 0,.int .i64 0,.int .i64 0,.bool false,.bool false] 87)).alloc (.cells #[.int .i64 0,.int .i64 0,.int .u8 0,.int .u8 0,.int .u8 0,.int .i64 0,.int .u8 0,.int .u8 0,.int .u8 0,.string ⟨#[]⟩] 64):=by rw[hV,hA2,hA1,hA0]
 unfold dn hpv;clear I AU hm hA0 hA1 hA2 hV g0 g1 g2 g3 e0 e1 e2;go_enter func99,ntmps99;go_upto_region 1 with fail;rw[←hV'];clear hV';obtain⟨n0,hn0⟩:=Qe (w.heap.size);have Hn0:QH (w.heap.size≤n0):=by rw[hn0];exact Qj _
 simp only[←hn0] at HC HH HZ HY ⊢;obtain⟨n1,hn1⟩:=Qe (n0+1);simp only[←hn1] at HH HZ HY ⊢;obtain⟨n2,hn2⟩:=Qe (n1+1);simp only[←hn2] at HZ HY ⊢;obtain⟨n3,hn3⟩:=Qe (n2+1);simp only[←hn3] at HY ⊢;have Hne:QH ((n0≠n2∧n0≠n3∧n1≠n2∧n1≠n3∧n2≠n3)∧w.heap.size≤n2∧w.heap.size≤n3∧n3<V.heap.size∧n2<V.heap.size):=⟨⟨by omega,by omega,by omega,by omega,by omega⟩,by have:=Hn0.o;omega,by have:=Hn0.o;omega,aY HY.o,aY HZ.o⟩
 clear hn0 hn1 hn2 hn3;obtain⟨c0,c1,c2,c3⟩:=bg HC.o;obtain⟨x0,x1,x2,x3,x4,x5⟩:=aJ HH.o;go_wp2_with fail;go_loopw [14] (fun i wr=>∃ k:Nat,k≤L.length∧i=.int .i64 (k:Int)∧QH ((L.take k).find? (kL cd ts F h S)=none∧V.grownBy wr none)) (fun i _=>L.length - (intOf i).toNat)
 case atStart=>exact⟨0,Q0 _,rfl,rfl,aw _ _⟩
 case round =>
  obtain⟨k,hk',rfl,HK⟩:=hrel;obtain⟨U,hU⟩:=Qe (wr);subst hU;by_cases hlt:k<L.length
  ·have i1:(k:Int)<(L.length:Int):=Int.ofNat_lt.2 hlt;have hwk:=BY (k:=k) hlt HLn.o;have HM:QH (L.length - (intOf (.int .i64 ((k:Int)+1))).toNat<L.length - (intOf (.int .i64 (k:Int))).toNat):=cj hlt;obtain⟨s,hs⟩:∃ s,L[k]?=some s:=⟨_,Qg hlt⟩
   obtain⟨gL,oL,cL,eL,-⟩:=eG HI.o.1.at3 hlt;injection eL with eL eL2 eL3;clear eL2 eL3;subst eL;obtain⟨d0,d1,d2,d3,d4,d5,d6,d7,d8,d9⟩:=bu (dy (HI.o.1.at3.keep HK.o.2) hs);have c0:=HK.o.2.cell c0 (by simp);have c1:=HK.o.2.cell c1 (by simp);have c2:=HK.o.2.cell c2 (by simp);have c3:=HK.o.2.cell c3 (by simp);obtain⟨X,hX⟩:=Qe (U.alloc (.cells #[.int .i64 s.th,.int .i64 s.pl,.int .u8 s.wh.wn,.int .u8 s.wh.vb,.int .u8 s.wh.wm,.int .i64 s.wh.ct,.int .u8 s.wh.su,.int .u8 s.wh.tr,.int .u8 s.wh.mr,.string s.wh.nm] 64));have HX:QH (SdB X U.heap.size s∧V.grownBy X none∧V.heap.size≤U.heap.size):=⟨by rw[hX];exact aj _ _ _,by rw[hX];exact am HK.o.2 _,HK.o.2.size⟩
   obtain⟨z,g,hA,hgo,hv1,hv2⟩:=(HI.o.1.keep HX.o.2.1).one (HI.o.1.ok s (Qm hs));have Hs:QH (L[k]?=some s∧k+1≤L.length∧(L.take k).find? (kL cd ts F h S)=none):=⟨hs,hlt,HK.o.1⟩
   have CA:=rB (.slice pu S.length cu) S s X (HI.o.2.1.keep HX.o.2.1);have CS:∀ Y,X.grownBy Y none→Calls prog 107 #[dn bv (.slice pt ts.length ct) (.slice pf F.length cf) (.slice (some ⟨gL,oL,none⟩) L.length cl),sdv s,hpv h] Y fun e w'=>e=.returned (.bool (i6 cd ts F s h))∧Y.grownBy w' none:=fun Y q=>oG bv _ _ _ n cd ts F s z g h Y (hA.keep q) HI.o.2.2;have CB:∀ Y,X.grownBy Y none→Calls prog 166 #[dn bv (.slice pt ts.length ct) (.slice pf F.length cf) (.slice (some ⟨gL,oL,none⟩) L.length cl),hpv h,sdv s] Y fun e w'=>e=.returned (hpv (gR F s h))∧Y.grownBy w' none:=fun Y q=>by unfold gR;rw[←hgo];exact tB bv _ _ _ n cd ts F s z g h Y (hA.keep q) ⟨hv1,hv2⟩
   unfold sdv at CA;unfold dn sdv hpv at CS CB;clear hk' hlt hs HK hA hgo hv1 hv2;go_upto_region 4 with fail;rw[←hX];obtain⟨n4,hn4⟩:=Qe (U.heap.size);rw[←hn4] at HX ⊢;clear hX hn4 d0 d1 d2 d3 d4 d5 d6 d7 d8 d9;have c0:=HX.o.2.1.cell (bg HC.o).1 (by simp);have c1:=HX.o.2.1.cell (bg HC.o).2.1 (by simp);have c2:=HX.o.2.1.cell (bg HC.o).2.2.1 (by simp);have c3:=HX.o.2.1.cell (bg HC.o).2.2.2 (by simp);obtain⟨d0,d1,d2,d3,d4,d5,d6,d7,d8,d9⟩:=aQ HX.o.1;obtain⟨a,ha⟩:=Qe (fl S s);have Ha:QH (a=fl S s):=ha;rw[←ha] at CA;clear ha;go_wp2_with fail;refine CA.mono ?_;rintro e1 w1 ⟨rfl,g1⟩;have H1:QH (X.grownBy w1 none∧V.grownBy w1 none):=⟨g1,aa HX.o.2.1 g1⟩
   clear CA g1 c0 c1 c2 c3 d0 d1 d2 d3 d4 d5 d6 d7 d8 d9;cases a with
   | true =>
    have HN:QH ((L.take (k+1)).find? (kL cd ts F h S)=none):=pP Hs.o.2.2 Hs.o.1 (by unfold kL;rw[←Ha.o];rfl);go_wp2_with fail;go_roundw
    case rel=>exact⟨k+1,Hs.o.2.1,by first | rfl | (rw[hwk];rfl) | go_num,HN.o,H1.o.2⟩
    case measure=>first | exact HM.o | (rw[hwk];exact HM.o)
   | false =>
    have HC1:QH (dg w1 n0 bv (.slice pt ts.length ct) (.slice pf F.length cf) (.slice (some ⟨gL,oL,none⟩) L.length cl)):=ag H1.o.2 HC.o (by simp);have HH1:QH (HpB w1 n1 h):=ag H1.o.2 HH.o (by simp);have HS1:QH (SdB w1 n4 s):=ag H1.o.1 HX.o.1 (by simp);obtain⟨c0,c1,c2,c3⟩:=bg HC1.o;obtain⟨x0,x1,x2,x3,x4,x5⟩:=aJ HH1.o;obtain⟨d0,d1,d2,d3,d4,d5,d6,d7,d8,d9⟩:=aQ HS1.o;have CS1:=CS w1 H1.o.1;obtain⟨b,hb⟩:=Qe (i6 cd ts F s h);have Hb:QH (kL cd ts F h S s=b):=(by show _=_;unfold kL;rw[←Ha.o,hb];rfl);rw[←hb] at CS1;clear hb CS;go_wp2_with fail;refine CS1.mono ?_;rintro e2 w2 ⟨rfl,g2⟩;have H2:QH (X.grownBy w2 none∧V.grownBy w2 none):=⟨aa H1.o.1 g2,aa H1.o.2 g2⟩
    clear CS1 g2 c0 c1 c2 c3 d0 d1 d2 d3 d4 d5 d6 d7 d8 d9 x0 x1 x2 x3 x4 x5;cases b with
    | false =>
     have HN:QH ((L.take (k+1)).find? (kL cd ts F h S)=none):=pP Hs.o.2.2 Hs.o.1 Hb.o;go_wp2_with fail;go_roundw
     case rel=>exact⟨k+1,Hs.o.2.1,by first | rfl | (rw[hwk];rfl) | go_num,HN.o,H2.o.2⟩
     case measure=>first | exact HM.o | (rw[hwk];exact HM.o)
    | true =>
     have HF:QH (gU cd ts F L h S=some s):=ri Hs.o.2.2 Hs.o.1 Hb.o;have HS2:QH (dg w2 n0 bv (.slice pt ts.length ct) (.slice pf F.length cf) (.slice (some ⟨gL,oL,none⟩) L.length cl)∧HpB w2 n1 h∧SdB w2 n4 s):=⟨ag H2.o.2 HC.o (by simp),ag H2.o.2 HH.o (by simp),ag H2.o.1 HX.o.1 (by simp)⟩
     have HZ2:QH (HpB w2 n2 Hp.none∧SdB w2 n3 Sd.none):=⟨ag H2.o.2 HZ.o (by simp),ag H2.o.2 HY.o (by simp)⟩
     have Hn4:QH (n4≠n2∧n4≠n3):=⟨qG HX.o.2.2 Hne.o.2.2.2.2,qG HX.o.2.2 Hne.o.2.2.2.1⟩
     obtain⟨bh,hbh⟩:=Qe (gR F s h);have Hbh:QH (bh=gR F s h):=hbh;rw[←hbh] at CB;have CB2:=CB w2.drew (aa H2.o.1 (ai _));clear CB hbh Hb Ha;go_upto_region 5 with fail;refine wp_region_held_drew (S:=fun w'=>dg w' n0 bv (.slice pt ts.length ct) (.slice pf F.length cf) (.slice (some ⟨gL,oL,none⟩) L.length cl)∧HpB w' n1 h∧SdB w' n4 s) (by kernel_rfl) (HS2.o) (fun hHeld=>?_);refine QT 0 rfl (by intro w0 hSw;obtain⟨c0,c1,c2,c3⟩:=bg hSw.1;go_simp;try with_reducible rfl) ?_;go_frame;refine QT 1 rfl (by intro w0 hSw;obtain⟨x0,x1,x2,x3,x4,x5⟩:=aJ hSw.2.1;go_simp;try with_reducible rfl) ?_;go_frame;refine QT 2 rfl (by intro w0 hSw;obtain⟨d0,d1,d2,d3,d4,d5,d6,d7,d8,d9⟩:=aQ hSw.2.2;go_simp;try with_reducible rfl) ?_;go_frame;refine QT 4 rfl (by intro w0 hSw;obtain⟨d0,d1,d2,d3,d4,d5,d6,d7,d8,d9⟩:=aQ hSw.2.2;go_simp;try with_reducible rfl) ?_;go_frame;refine QR 3 rfl (fun K hK=>?_);go_simp;go_at_call 166;refine(CB2).mono ?_;rintro e5 w5 ⟨rfl,g5⟩;have HG5:QH (w2.grownBy w5 none):=aa (ai _) g5;have HS5:QH (dg w5 n0 bv (.slice pt ts.length ct) (.slice pf F.length cf) (.slice (some ⟨gL,oL,none⟩) L.length cl)∧HpB w5 n1 h∧SdB w5 n4 s):=⟨ag HG5.o HS2.o.1 (by simp),ag HG5.o HS2.o.2.1 (by simp),ag HG5.o HS2.o.2.2 (by simp)⟩
     have HZ5:QH (HpB w5 n2 Hp.none∧SdB w5 n3 Sd.none):=⟨ag HG5.o HZ2.o.1 (by simp),ag HG5.o HZ2.o.2 (by simp)⟩
     obtain⟨z0,z1,z2,z3,z4,z5⟩:=cD HZ5.o.1;have zf:=fun i=>aq HZ5.o.1 i;clear g5 CB2;refine hK.out _ _ (HS5.o) (fun hHeld2=>?_);clear hK K;(try go_frame);refine QR 5 rfl (fun K9 hK=>?_);go_simp;refine hK.out _ _ (⟨ag (aU _ _ _ _ _ _ _ _) HS5.o.1 (fun q=>Hne.o.1.1 (Qa1 q)),ag (aU _ _ _ _ _ _ _ _) HS5.o.2.1 (fun q=>Hne.o.1.2.2.1 (Qa1 q)),ag (aU _ _ _ _ _ _ _ _) HS5.o.2.2 (fun q=>Hn4.o.1 (Qa1 q))⟩) (fun hHeld3=>?_);clear hK K9;(try go_frame);obtain⟨Y,hY⟩:=Qe ((((((w5.setCell ⟨n2,0,none⟩ (.int .u8 bh.vb)).setCell ⟨n2,1,none⟩ (.int .i64 bh.on)).setCell ⟨n2,2,none⟩ (.int .i64 bh.ct)).setCell ⟨n2,3,none⟩ (.int .i64 bh.ho)).setCell ⟨n2,4,none⟩ (.bool bh.vn)).setCell ⟨n2,5,none⟩ (.bool bh.dr));rw[←hY]
     have HY5:QH (HpB Y n2 bh∧SdB Y n3 Sd.none∧w.grownBy Y none∧(dg Y n0 bv (.slice pt ts.length ct) (.slice pf F.length cf) (.slice (some ⟨gL,oL,none⟩) L.length cl)∧HpB Y n1 h∧SdB Y n4 s)):=by
      rw[hY];exact⟨fb bh HZ5.o.1,ag (aU _ _ _ _ _ _ _ _) HZ5.o.2 (fun q=>Hne.o.1.2.2.2.2 (Qa1 q).symm),bk (aa (aa HG.o H2.o.2) HG5.o) Hne.o.2.1 _ _ _ _ _ _,⟨ag (aU _ _ _ _ _ _ _ _) HS5.o.1 (fun q=>Hne.o.1.1 (Qa1 q)),ag (aU _ _ _ _ _ _ _ _) HS5.o.2.1 (fun q=>Hne.o.1.2.2.1 (Qa1 q)),ag (aU _ _ _ _ _ _ _ _) HS5.o.2.2 (fun q=>Hn4.o.1 (Qa1 q))⟩⟩
     clear hY z0 z1 z2 z3 z4 z5 zf hHeld hHeld2 hHeld3;obtain⟨z0,z1,z2,z3,z4,z5,z6,z7,z8,z9⟩:=iU HY5.o.2.1;have zf:=fun i=>aq HY5.o.2.1 i;refine QR 6 rfl (fun K9 hK=>?_);go_simp;refine hK.out _ _ (⟨ag (bB _ _ _ _ _ _ _ _ _ _ _ _) HY5.o.2.2.2.1 (fun q=>Hne.o.1.2.1 (Qa1 q)),ag (bB _ _ _ _ _ _ _ _ _ _ _ _) HY5.o.2.2.2.2.1 (fun q=>Hne.o.1.2.2.2.1 (Qa1 q)),ag (bB _ _ _ _ _ _ _ _ _ _ _ _) HY5.o.2.2.2.2.2 (fun q=>Hn4.o.2 (Qa1 q))⟩) (fun hHeld3=>?_);clear hK K9;(try go_frame);obtain⟨Q,hQ⟩:=Qe ((((((((((Y.setCell ⟨n3,0,none⟩ (.int .i64 s.th)).setCell ⟨n3,1,none⟩ (.int .i64 s.pl)).setCell ⟨n3,2,none⟩ (.int .u8 s.wh.wn)).setCell ⟨n3,3,none⟩ (.int .u8 s.wh.vb)).setCell ⟨n3,4,none⟩ (.int .u8 s.wh.wm)).setCell ⟨n3,5,none⟩ (.int .i64 s.wh.ct)).setCell ⟨n3,6,none⟩ (.int .u8 s.wh.su)).setCell ⟨n3,7,none⟩ (.int .u8 s.wh.tr)).setCell ⟨n3,8,none⟩ (.int .u8 s.wh.mr)).setCell ⟨n3,9,none⟩ (.string s.wh.nm));rw[←hQ]
     have HQ:QH (HpB Q n2 bh∧SdB Q n3 s∧w.grownBy Q none∧(dg Q n0 bv (.slice pt ts.length ct) (.slice pf F.length cf) (.slice (some ⟨gL,oL,none⟩) L.length cl)∧HpB Q n1 h∧SdB Q n4 s)):=by
      rw[hQ];exact⟨ag (bB _ _ _ _ _ _ _ _ _ _ _ _) HY5.o.1 (fun q=>Hne.o.1.2.2.2.2 (Qa1 q)),fY s HY5.o.2.1,mx HY5.o.2.2.1 Hne.o.2.2.1 _ _ _ _ _ _ _ _ _ _,⟨ag (bB _ _ _ _ _ _ _ _ _ _ _ _) HY5.o.2.2.2.1 (fun q=>Hne.o.1.2.1 (Qa1 q)),ag (bB _ _ _ _ _ _ _ _ _ _ _ _) HY5.o.2.2.2.2.1 (fun q=>Hne.o.1.2.2.2.1 (Qa1 q)),ag (bB _ _ _ _ _ _ _ _ _ _ _ _) HY5.o.2.2.2.2.2 (fun q=>Hn4.o.2 (Qa1 q))⟩⟩
     have hHeld9:=HQ.o.2.2.2;clear hQ z0 z1 z2 z3 z4 z5 z6 z7 z8 z9 zf;refine QZ 7 rfl ?_;go_frame;refine QD ?_;obtain⟨z0,z1,z2,z3,z4,z5⟩:=aJ HQ.o.1;obtain⟨d0,d1,d2,d3,d4,d5,d6,d7,d8,d9⟩:=aQ HQ.o.2.1;go_wp2_with fail;refine bodyPost_ret (v:=.tuple #[hpv bh,sdv s,.bool true]) (by simp[results,results99,go_sem,hpv,sdv,z0,z1,z2,z3,z4,z5,d0,d1,d2,d3,d4,d5,d6,d7,d8,d9]) rfl ⟨by rw[HF.o,Hbh.o];rfl,HQ.o.2.2.1⟩
  ·obtain rfl:k=L.length:=Qag hk' (Qac hlt);have i1:¬(L.length:Int)<(L.length:Int):=Qb3 _;have HF:QH (gU cd ts F L h S=none∧HpB U n2 Hp.none∧SdB U n3 Sd.none∧w.grownBy U none):=⟨by have:=HK.o.1;rw[Qas] at this;exact this,ag HK.o.2 HZ.o (by simp),ag HK.o.2 HY.o (by simp),aa HG.o HK.o.2⟩
   clear hk' hlt HK c0 c1 c2 c3 x0 x1 x2 x3 x4 x5;obtain⟨W5,hW5⟩:=Qe (U.setRow n2 (hpa Hp.none));have H5:QH (HpB W5 n2 Hp.none∧SdB W5 n3 Sd.none∧w.grownBy W5 none):=⟨by rw[hW5];exact setRow_heap U n2 _ _ _ _ HF.o.2.1,by rw[hW5];exact ag (az _ _ _) HF.o.2.2.1 (fun q=>Hne.o.1.2.2.2.2 (Qa1 q).symm),by rw[hW5];exact ak HF.o.2.2.2 (az _ _ _) (fun y e=>by cases e;exact Hne.o.2.1)⟩
   obtain⟨W6,hW6⟩:=Qe (W5.setRow n3 (sda Sd.none));have H6:QH (HpB W6 n2 Hp.none∧SdB W6 n3 Sd.none∧w.grownBy W6 none):=⟨by rw[hW6];exact ag (az _ _ _) H5.o.1 (fun q=>Hne.o.1.2.2.2.2 (Qa1 q)),by rw[hW6];exact setRow_heap W5 n3 _ _ _ _ H5.o.2.1,by rw[hW6];exact ak H5.o.2.2 (az _ _ _) (fun y e=>by cases e;exact Hne.o.2.2.1)⟩
   go_upto_region 7 with fail;go_wp2_with (first | (refine wpList_store_row rfl 87 (.tmp 6) (.tmp 34) rfl n2 (hpa Hp.none) rfl rfl 87 _ HF.o.2.1 (by kernel_rfl) rfl (by simp[hpa,Value.oneCell']) ?_) | (refine wpList_store_row rfl 64 (.tmp 7) (.tmp 35) rfl n3 (sda Sd.none) rfl rfl 64 _ (by rw[←hW5];exact H5.o.2.1) (by kernel_rfl) rfl (by simp[sda,Value.oneCell']) ?_))
   rw[←hW5,←hW6];obtain⟨y0,y1,y2,y3,y4,y5⟩:=cD H6.o.1;obtain⟨z0,z1,z2,z3,z4,z5,z6,z7,z8,z9⟩:=iU H6.o.2.1;refine bodyPost_ret (v:=.tuple #[hpv Hp.none,sdv Sd.none,.bool false]) (by simp[results,results99,go_sem,hpv,sdv,Hp.none,Sd.none,Pt.none,y0,y1,y2,y3,y4,y5,z0,z1,z2,z3,z4,z5,z6,z7,z8,z9]) rfl ⟨by rw[HF.o.1];rfl,H6.o.2.2⟩
set_option maxHeartbeats 2000000
open Go.Shelf
theorem nT (x y:Hp) (w:World):(Op.equalIn 10000 87 (.agg (hpa x)) (.agg (hpa y))).run prog w=.ok (decide (x=y)) w:=by
 have hS:prog.underlying 87=some (.struct (prog.fieldsOf 87)):=by kernel_rfl
 have hp:prog.stoodInHeld 87=false:=by kernel_rfl
 have u3:=underlying3;have i3:=isAgg3;have z3:=sizeOf3;have u4:=underlying4;have i4:=isAgg4;have z4:=sizeOf4;have u24:=underlying56;have i24:=isAgg56;have z24:=sizeOf56;rw[show (10000:Nat)=9999+1 from rfl,run_equalIn_agg w 9999 87 _ _ hS hp];simp only[Program.fieldsOf,underlying87,hpa];go_simp
 rcases x with ⟨x0,x1,x2,x3,x4,x5⟩
 rcases y with ⟨y0,y1,y2,y3,y4,y5⟩
 simp only;by_cases h0:x0=y0
 case neg=>simp[h0]
 simp only[h0];by_cases h1:x1=y1
 case neg=>simp[h1]
 simp only[h1];by_cases h2:x2=y2
 case neg=>simp[h2]
 simp only[h2];by_cases h3:x3=y3
 case neg=>simp[h3]
 simp only[h3];by_cases h4:x4=y4
 case neg=>simp[h4]
 simp only[h4];by_cases h5:x5=y5
 case neg=>simp[h5]
 simp[h5]
theorem DO (x y:Hp) (w:World):(binOp .neq 87 (.agg (hpa x)) (.agg (hpa y))).run prog w=.ok (.bool (!decide (x=y))) w:=by
 rw[run_neq_struct,nT];rfl
theorem wW (op:BinOp) (x y:Operand) (xs ys:Array Value) (w:World):(eqGuard op 87 x y (.agg xs) (.agg ys)).run prog w=.ok () w:=run_eqGuard_agg w op 87 x y xs ys (by kernel_rfl)
structure Ss where
 af:Hp
 us:List Sd
 go:Int
 li:Int
def Ss.begin (h:Hp):Ss:=⟨h,[],0,0⟩
def Ss.none:Ss:=⟨Hp.none,[],0,0⟩
def Ss.more (F:List Fe) (h0:Hp) (x:Ss) (s:Sd):Ss:=⟨gR F s x.af,x.us++[s],if h0.vb=6 then s.wh.ct else x.go,if h0.vb=3 then s.wh.ct else x.li⟩
def ld (cd:Int→Hd×List Pt) (ts:List Th) (F:List Fe) (L:List Sd) (h0:Hp):Nat→Ss→Ss
 | 0,x=>x
 | m+1,x=>if x.af=Hp.none then x else match gU cd ts F L x.af x.us with
  | none=>x
  | some s=>ld cd ts F L h0 m (x.more F h0 s)
def ci (L us:List Sd):Nat:=(L.filter fun s=>!fl us s).length
theorem BZ (us:List Sd) (s:Sd):fl (us++[s]) s=true:=by unfold fl;simp
theorem uK {us:List Sd} {o:Sd} (h:fl us o=true):fl (us++[s]) o=true:=by unfold fl at *;rw[List.any_append,h,Qdh]
theorem yr (us:List Sd) (s:Sd):∀ L:List Sd,ci L (us++[s])≤ci L us
 | []=>Qj _
 | o :: L=>by
  have:=yr us s L;unfold ci at *;cases h:fl us o with
  | true=>rw[Qb2,Qb2,uK h,h];simpa using this
  | false =>
   cases h2:fl (us++[s]) o with
   | true=>rw[Qb2,Qb2,h,h2];simp;omega
   | false=>rw[Qb2,Qb2,h,h2];simp;omega
theorem ku {us:List Sd} {s:Sd} (hs:fl us s=false):∀ {L:List Sd},s∈L→ci L (us++[s])<ci L us
 | o :: L,h=>by
  rcases Qbo.1 h with rfl | h
  ·have:=yr us s L;unfold ci at *;rw[Qb2,Qb2,hs,BZ];simp;omega
  ·have ih:=ku hs h;unfold ci at *;cases h1:fl us o with
   | true=>rw[Qb2,Qb2,uK h1,h1];simpa using ih
   | false =>
    cases h2:fl (us++[s]) o with
    | true=>rw[Qb2,Qb2,h1,h2];simp;omega
    | false=>rw[Qb2,Qb2,h1,h2];simp;omega
theorem mW {L us:List Sd} (e:gU cd ts F L h us=some s):s∈L∧fl us s=false∧i6 cd ts F s h=true:=by
 unfold gU at e;have h1:=List.find?_some e;unfold kL at h1;simp only[Bool.and_eq_true,Bool.not_eq_true'] at h1;exact⟨List.mem_of_find?_eq_some e,h1.1,h1.2⟩
theorem lB {L:List Sd} {h0:Hp} (m:Nat) {x:Ss} {s:Sd} (hz:¬x.af=Hp.none) (h:gU cd ts F L x.af x.us=some s):ld cd ts F L h0 (m+1) x=ld cd ts F L h0 m (x.more F h0 s):=by
 show (if x.af=Hp.none then x else match gU cd ts F L x.af x.us with
  | none=>x
  | some s=>ld cd ts F L h0 m (x.more F h0 s))=_
 rw[if_neg hz,h]
theorem lK {cd:Int→Hd×List Pt} {ts:List Th} {F:List Fe} {L:List Sd} {h0:Hp}:∀ (m:Nat) (x:Ss),ci L x.us≤m→ld cd ts F L h0 m x=ld cd ts F L h0 (ci L x.us) x
 | 0,x,h=>by rw[Nat.le_zero.1 h]
 | m+1,x,h=>by
  by_cases hz:x.af=Hp.none
  ·have:∀ k,ld cd ts F L h0 k x=x:=fun k=>by cases k with | zero=>rfl | succ k=>unfold ld;rw[if_pos hz]
   rw[this,this]
  ·cases hn:gU cd ts F L x.af x.us with
   | none =>
    have:∀ k,ld cd ts F L h0 k x=x:=fun k=>by cases k with | zero=>rfl | succ k=>unfold ld;rw[if_neg hz,hn]
    rw[this,this]
   | some s =>
    obtain⟨h1,h2,_⟩:=mW hn;have hlt:=ku h2 h1;obtain⟨k,hk⟩:∃ k,ci L x.us=k+1:=⟨ci L x.us - 1,by omega⟩
    rw[hk];rw[lB m hz hn,lB k hz hn];have e1:(x.more F h0 s).us=x.us++[s]:=rfl;rw[lK m _ (by rw[e1];omega),←lK k _ (by rw[e1];omega)]
def dm (cd:Int→Hd×List Pt) (ts:List Th) (F:List Fe) (L:List Sd) (h0:Hp) (x:Ss):Ss:=ld cd ts F L h0 (ci L x.us) x
theorem qW {L:List Sd} {h0:Hp} {x:Ss} (h:x.af=Hp.none):dm cd ts F L h0 x=x:=by
 unfold dm;cases ci L x.us with
 | zero=>rfl
 | succ k=>unfold ld;rw[if_pos h]
theorem uZ {L:List Sd} {h0:Hp} {x:Ss} (h:gU cd ts F L x.af x.us=none):dm cd ts F L h0 x=x:=by
 unfold dm;cases ci L x.us with
 | zero=>rfl
 | succ k =>
  unfold ld;by_cases hz:x.af=Hp.none
  ·rw[if_pos hz]
  ·rw[if_neg hz,h]
theorem nC {L:List Sd} {h0:Hp} {x:Ss} (hz:¬x.af=Hp.none) (h:gU cd ts F L x.af x.us=some s):dm cd ts F L h0 x=dm cd ts F L h0 (x.more F h0 s):=by
 obtain⟨h1,h2,_⟩:=mW h;have hlt:=ku h2 h1;obtain⟨k,hk⟩:∃ k,ci L x.us=k+1:=⟨ci L x.us - 1,by omega⟩
 unfold dm;rw[hk,lB k hz h];have e1:(x.more F h0 s).us=x.us++[s]:=rfl;exact lK k _ (by rw[e1];omega)
