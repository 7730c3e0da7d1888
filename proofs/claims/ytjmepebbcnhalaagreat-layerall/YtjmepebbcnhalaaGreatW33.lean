import Derived.Test.YtjmepebbcnhalaaGreatW32
import Derived.Test.YtjmepebbcnhalaaGreatW7
import Derived.Test.YtjmepebbcnhalaaGreatW3
import Derived.Shelf.SlicesQ.Index
namespace Go.Proofs.YtjmepebbcnhalaaGreat
set_option maxRecDepth 100000
set_option maxHeartbeats 4000000
open Go.RowKit Go.Shelf
def xS (x y:Se):Int:=orV (Lib.compareInt (x.ro:Int) (y.ro:Int)) (Lib.compareInt x.s.pl y.s.pl)
theorem lr {a b:Int}:Lib.compareInt a b<0↔a<b:=by
 unfold Lib.compareInt
 by_cases h1:a<b
 ·simp[h1]
 ·by_cases h2:b<a <;> simp[h1,h2]
theorem oE {a b:Int}:Lib.compareInt a b=0↔a=b:=by
 unfold Lib.compareInt
 by_cases h1:a<b
 ·simp[h1];omega
 ·by_cases h2:b<a
  ·simp[h1,h2];omega
  ·simp[h1,h2];omega
theorem ltS (x y:Se):ltOf xS x y=decide (x.ro<y.ro∨x.ro=y.ro∧x.s.pl<y.s.pl):=by
 unfold ltOf xS orV
 by_cases h:Lib.compareInt (x.ro:Int) (y.ro:Int)=0
 ·rw[if_pos h]
  have h1:=oE.1 h
  refine decide_eq_decide.2 ⟨fun q=>Or.inr ⟨by omega,lr.1 q⟩,fun q=>lr.2 ?_⟩
  omega
 ·rw[if_neg h]
  have h1:¬(x.ro:Int)=y.ro:=fun q=>h (oE.2 q)
  refine decide_eq_decide.2 ⟨fun q=>Or.inl (by have:=lr.1 q;omega),fun q=>lr.2 ?_⟩
  omega
theorem swoS:Go.Sort.SWO (ltOf xS) where
 irrefl x:=by rw[ltS];simp
 trans x y z h1 h2:=by rw[ltS] at *;simp at *;omega
 ntrans x y z h1 h2:=by rw[ltS] at *;simp at *;omega
theorem AP (x y:Se) (W:World):Calls Tryz.prog 61 #[.agg (sec x).toArray,.agg (sec y).toArray] W fun e w'=>e=.returned (.int .i64 (xS x y))∧∃ q os',w'=Go.Sort.grow (W.drewN q) os':=by
 have hcon:=fun a b W'=>AnyG.cmp_Compare_int Tryz.cmpL a b W'
 change ∀ a b W',Calls Tryz.prog 135 _ _ _ at hcon
 unfold xS
 obtain⟨W2,hW2⟩:∃ W2,W2=(W.alloc (.cells (sec x).toArray 131)).alloc (.cells (sec y).toArray 131):=⟨_,rfl⟩
 have A2:SeB W2 W.heap.size x:=by rw[hW2];exact ai (World.grownBy_alloc _ _ none) (ak W _ _) (by simp)
 have Z2:SeB W2 (W.heap.size+1) y:=by rw[hW2];exact aL _ _ _ _
 have HW:Hid (W2=(W.alloc (.cells (sec x).toArray 131)).alloc (.cells (sec y).toArray 131)):=hW2
 obtain⟨-,x1,-,-,-,-,-,-,-,-,x10⟩:=dU A2
 obtain⟨-,y1,-,-,-,-,-,-,-,-,y10⟩:=dU Z2
 clear A2 Z2
 unfold sec at hW2 ⊢
 go_enter Tryz.func61,Tryz.ntmps61
 go_upto_region 1 with fail
 rw[←hW2]
 clear hW2
 go_region_held3 (fun w'=>w'.cell? ⟨W.heap.size,1,none⟩=some (.int .i64 x.s.pl)∧w'.cell? ⟨W.heap.size,10,none⟩=some (.int .i64 (x.ro:Int))∧w'.cell? ⟨W.heap.size+1,1,none⟩=some (.int .i64 y.s.pl)∧w'.cell? ⟨W.heap.size+1,10,none⟩=some (.int .i64 (y.ro:Int))) (first | exact⟨x1,x10,y1,y10⟩ | go_keep) (first | (go_at_call 135;refine(hcon _ _ _).mono ?_;rintro e w3 ⟨rfl,rfl⟩) | (go_at_call 134;refine(yz _ _ _ _ (by exact ae (ak _ _ _) 0) (by exact ae (ak _ _ _) 1)).mono ?_;rintro e w3 ⟨rfl,rfl⟩))
 go_wp2
 go_ret
 exact⟨rfl,1,_,by rw[HW.out,Go.Sort.alloc_eq_grow,Go.Sort.alloc_eq_grow,Go.Sort.alloc_eq_grow,Go.Sort.grow_grow,Go.Sort.grow_grow];rfl⟩
def inS (a b:Se):Prop:=a.ro<b.ro∨a.ro=b.ro∧a.s.pl≤b.s.pl
theorem nK (g cap:Nat) (L:List Se) (base:Nat) (w:World) (O:dB w base (.slice (some ⟨g,0,none⟩) L.length cap) L) (hl:L.length≤4096):Calls Tryz.prog 60 #[.slice (some ⟨g,0,none⟩) L.length cap,.func (.func 61) #[] #[]] w fun e w'=>e=.returned (.tuple #[])∧∃ L',L'.Perm L∧L'.Pairwise inS∧dB w' base (.slice (some ⟨g,0,none⟩) L.length cap) L'∧w.grownBy w' (some g):=by
 haveI:Inhabited Se:=⟨Se.none⟩
 have eg:∀ args w,(callFunc 61 args).run Tryz.prog w=.ok (.enter 61 args) w:=enters_of Tryz.func61 (by kernel_rfl) rfl
 have hS:=BF Tryz.sortS seR 131 Tryz.isAgg131 Tryz.sizeOf131 xS swoS 61 eg (fun x y W=>AP x y W) base g cap L w O (by omega)
 change Calls Tryz.prog 60 _ _ _ at hS
 refine hS.mono ?_
 rintro e w' ⟨rfl,L',hp,hs,o,q⟩
 exact⟨rfl,L',hp,hs.imp (fun h=>by rw[ltS] at h;unfold inS;simp at h;omega),o,q⟩
set_option maxHeartbeats 2000000
theorem nH (a0 a1 a2 a3 a4 a5 a6:Int) (s:ByteArray) (b0 b1 b2 b3 b4 b5 b6:Int) (t:ByteArray) (w:World):(Op.equalIn 9999 62 (.agg #[.int .u8 a0,.int .u8 a1,.int .u8 a2,.int .i64 a3,.int .u8 a4,.int .u8 a5,.int .u8 a6,.string s]) (.agg #[.int .u8 b0,.int .u8 b1,.int .u8 b2,.int .i64 b3,.int .u8 b4,.int .u8 b5,.int .u8 b6,.string t])).run Tryz.prog w=.ok (bN (⟨a0,a1,a2,a3,a4,a5,a6,s⟩:Pt) ⟨b0,b1,b2,b3,b4,b5,b6,t⟩) w:=by
 unfold bN
 have hS:Tryz.prog.underlying 62=some (.struct (Tryz.prog.fieldsOf 62)):=by kernel_rfl
 have hp:Tryz.prog.stoodInHeld 62=false:=by kernel_rfl
 have u3:=Tryz.underlying3
 have i3:=Tryz.isAgg3
 have z3:=Tryz.sizeOf3
 have u9:=Tryz.underlying9
 have i9:=Tryz.isAgg9
 have z9:=Tryz.sizeOf9
 have u23:=Tryz.underlying55
 have i23:=Tryz.isAgg55
 have z23:=Tryz.sizeOf55
 have u24:=Tryz.underlying56
 have i24:=Tryz.isAgg56
 have z24:=Tryz.sizeOf56
 have u25:=Tryz.underlying57
 have i25:=Tryz.isAgg57
 have z25:=Tryz.sizeOf57
 have u26:=Tryz.underlying58
 have i26:=Tryz.isAgg58
 have z26:=Tryz.sizeOf58
 have u27:=Tryz.underlying59
 have i27:=Tryz.isAgg59
 have z27:=Tryz.sizeOf59
 have u28:=Tryz.underlying60
 have i28:=Tryz.isAgg60
 have z28:=Tryz.sizeOf60
 rw[show (9999:Nat)=9998+1 from rfl,run_equalIn_agg w 9998 62 _ _ hS hp]
 simp only[Program.fieldsOf,Tryz.underlying62]
 go_simp
 by_cases h0:a0=b0
 case neg=>simp[h0]
 simp only[h0]
 by_cases h1:a1=b1
 case neg=>simp[h1]
 simp only[h1]
 by_cases h2:a2=b2
 case neg=>simp[h2]
 simp only[h2]
 by_cases h3:a3=b3
 case neg=>simp[h3]
 simp only[h3]
 by_cases h4:a4=b4
 case neg=>simp[h4]
 simp only[h4]
 by_cases h5:a5=b5
 case neg=>simp[h5]
 simp only[h5]
 by_cases h6:a6=b6
 case neg=>simp[h6]
 simp only[h6]
 by_cases h7:s=t
 case neg=>simp[h7];exact fun e=>h7 (fD e)
 simp[h7]
def fW (a b:Sd):Bool:=decide (a.th=b.th) && (decide (a.pl=b.pl) && bN a.wh b.wh)
theorem kK {a b:Sd}:fW a b=true↔a=b:=by
 rcases a with ⟨a1,a2,a3⟩
 rcases b with ⟨b1,b2,b3⟩
 unfold fW
 constructor
 ·intro h
  simp only[Bool.and_eq_true,decide_eq_true_eq] at h
  obtain⟨h1,h2,h3⟩:=h
  rw[h1,h2]
  by_cases q:a3=b3
  ·rw[q]
  ·rw[lQ q] at h3;cases h3
 ·intro h
  injection h with h1 h2 h3
  simp[h1,h2,wb h3]
theorem lU (x y:Sd) (w:World):(Op.equalIn 10000 64 (.agg (sdc x).toArray) (.agg (sdc y).toArray)).run Tryz.prog w=.ok (fW x y) w:=by
 unfold fW
 have hS:Tryz.prog.underlying 64=some (.struct (Tryz.prog.fieldsOf 64)):=by kernel_rfl
 have hp:Tryz.prog.stoodInHeld 64=false:=by kernel_rfl
 have u3:=Tryz.underlying3
 have i3:=Tryz.isAgg3
 have z3:=Tryz.sizeOf3
 have iA:=Tryz.isAgg62
 have zA:=Tryz.sizeOf62
 have h4:=nH x.wh.wn x.wh.vb x.wh.wm x.wh.ct x.wh.su x.wh.tr x.wh.mr x.wh.nm y.wh.wn y.wh.vb y.wh.wm y.wh.ct y.wh.su y.wh.tr y.wh.mr y.wh.nm
 rw[show (10000:Nat)=9999+1 from rfl,run_equalIn_agg w 9999 64 _ _ hS hp]
 simp only[Program.fieldsOf,Tryz.underlying64,sdc]
 go_simp
 by_cases hc:x.th=y.th
 case neg=>simp[hc]
 simp only[hc]
 by_cases ho:x.pl=y.pl
 case neg=>simp[ho]
 simp only[ho,if_true]
 show (if bN x.wh y.wh=false then Result.ok false w else Result.ok true w)=Result.ok (true && (true && bN x.wh y.wh)) w
 cases bN x.wh y.wh <;> rfl
theorem BP:EqlAt Tryz.prog 64 (fun x=>.agg (sdc x).toArray) fW:=⟨fun x y w=>by rw[run_eql_struct,lU];rfl,GuardAt.agg _ (by kernel_rfl)⟩
theorem sc (v:Value) (S:List Sd) (x:Sd) (w:World) (A:sdR.At w v S) (h0:0<S.length):Calls Tryz.prog 63 #[v,.agg (sdc x).toArray] w fun e w'=>e=.returned (.int .i64 (Lib.idxBy fW S x))∧w.grownBy w' none:=by
 haveI:Inhabited Sd:=⟨Sd.none⟩
 obtain⟨p,cap,rfl,hm,hA⟩:=A
 obtain⟨g,off,rfl,hR⟩:=hA h0
 have hS:=AnyQ.slices_Index Tryz.indexS 10 Tryz.isAgg64 Tryz.sizeOf64 sdc (fun _=>rfl) fW BP g off S.length cap S x w (Nat.le_refl _) (by unfold maxLen at hm;omega) (fun j hj i v hv=>hR j _ (by rw[getElem!_pos S j hj];exact List.getElem?_eq_getElem hj) i v hv)
 change Calls Tryz.prog 63 _ _ _ at hS
 refine hS.mono ?_
 rintro e w' ⟨rfl,q,rfl⟩
 rw[List.take_length]
 exact⟨rfl,aa (World.grownBy_alloc w _ none) (aD _ q _)⟩
set_option maxHeartbeats 4000000
def nk (w:World) (r n:Int) (cd:Int→Hd×List Pt) (ts:List Th) (fs:List Fe) (S:List Sd) (e:Ending) (w':World):Prop:=∃ p,e=.returned (.tuple #[.int .i64 p,.int .i64 (lkE r n cd ts fs S)])∧w.grownBy w' none∧(lkE r n cd ts fs S≠0→p=0)∧∀ R L,r=0→bi n cd ts fs=some R→aN R S []=some L→if L=[] then p=-1 else ∃ L':List Se,L'.Perm L∧L'.Pairwise inS∧p=Lib.idxBy fW S (L'.getD (bX R (aq R fs) L') Se.none).s
theorem AM {X:List Rv} {L L':List Se} (hp:L'.Perm L) (h:∀ e∈L,e.ro<X.length):∀ i,i<L'.length→(L'.getD i Se.none).ro<X.length:=zZ fun e he=>h e (hp.mem_iff.1 he)
theorem vW (bv vt vf vs:Value) (r n:Int) (cd:Int→Hd×List Pt) (ts:List Th) (fs:List Fe) (S:List Sd) (w:World) (I:LIn w bv vt vf r n cd ts fs) (A:sdR.At w vs S) (hl:S.length≤4096):Calls Tryz.prog 11 #[bv,vt,vf,vs] w (nk w r n cd ts fs S):=by
 obtain⟨pt,ct,rfl⟩:=I.things.form
 obtain⟨pf,cf,rfl⟩:=I.feats.form
 obtain⟨ps,cs,rfl⟩:=A.form
 have HLk:=gU bv _ _ _ r n cd ts fs S w I A hl
 unfold fR tbv at HLk
 have HI:Hid (LIn w bv (.slice pt ts.length ct) (.slice pf fs.length cf) r n cd ts fs):=I
 have HA:Hid (sdR.At w (.slice ps S.length cs) S∧S.length≤4096):=⟨A,hl⟩
 clear I A hl
 go_enter Tryz.func11,Tryz.ntmps11
 go_wp2_with fail
 refine HLk.mono ?_
 rintro e2 w2 ⟨p1,m1,c1,p2,m2,c2,p3,m3,c3,rfl,g2,h2⟩
 obtain⟨q,hq⟩:∃ q,q=lkE r n cd ts fs S:=⟨_,rfl⟩
 have Hq:Hid (q=lkE r n cd ts fs S):=hq
 rw[←hq]
 obtain⟨V,hV⟩:∃ V,V=w2.alloc (.cells #[.slice p1 m1 c1,.slice p2 m2 c2] 125):=⟨_,rfl⟩
 have HGV:Hid (w.grownBy V none):=by rw[hV];exact am g2 _
 have HBt:Hid (TbB V w2.heap.size (.slice p1 m1 c1) (.slice p2 m2 c2)):=by rw[hV];exact ak _ _ _
 have H2:Hid (∀ R L,r=0→bi n cd ts fs=some R→aN R S []=some L→∃ X,rws X=R∧TbO V w.heap.size (.slice p1 m1 c1) (.slice p2 m2 c2) X (aq R fs)∧dB V w.heap.size (.slice p3 m3 c3) L):=fun R L a b c=>by
  obtain⟨X,x1,x2,x3,x4⟩:=h2 R L a b c
  have g:=World.grownBy_alloc w2 (.cells #[.slice p1 m1 c1,.slice p2 m2 c2] 125) none
  exact⟨X,x1,by rw[hV];exact x2.grow g,by rw[hV];exact ar x4 g⟩
 clear HLk g2 h2 hq
 go_upto_region 2 with fail
 rw[←hV]
 obtain⟨nb,hnb⟩:∃ nb,nb=w2.heap.size:=⟨_,rfl⟩
 rw[←hnb] at HBt ⊢
 clear hV hnb
 by_cases hq0:q=0
 ·have e1:(q != 0)=false:=by simpa using hq0
  obtain⟨hr0,R,L,hR,hL⟩:=kP (Hq.out.symm.trans hq0)
  obtain⟨X,hX,hT,hS⟩:=H2.out R _ hr0 hR hL
  have hro:∀ e∈L,e.ro<X.length:=gO S [] L (fun e he=>by cases he) (by rw[hX];exact hL)
  have hlen:L.length=S.length:=by have:=gN S [] L hL;simpa using this
  have HRL:Hid (rws X=R∧bi n cd ts fs=some R∧aN R S []=some L∧lkE r n cd ts fs S=0):=⟨hX,hR,hL,Hq.out.symm.trans hq0⟩
  have HTV:Hid (TbO V w.heap.size (.slice p1 m1 c1) (.slice p2 m2 c2) X (aq R fs)):=hT
  have Hro:Hid (∀ e∈L,e.ro<X.length):=hro
  have Hlen:Hid (L.length=S.length):=hlen
  by_cases h0:L.length=0
  ·obtain rfl:L=[]:=List.length_eq_zero_iff.1 h0
   obtain⟨a3,b3,e3⟩:=aB.Own.form hS
   cases e3
   clear hq0 hr0 hR hL hX hT hS hro hlen H2 h0
   go_wp2_with fail
   go_ret2
   refine⟨-1,by rw[HRL.out.2.2.2];rfl,HGV.out,fun h=>absurd HRL.out.2.2.2 h,fun R' L' _ a b=>?_⟩
   rw[HRL.out.2.1] at a
   cases a
   rw[HRL.out.2.2.1] at b
   cases b
   rw[if_pos rfl]
  ·obtain⟨g,cap,e3,hgB,-,-,-,-⟩:=cc hS (Nat.pos_of_ne_zero h0)
   cases e3
   have HSo:Hid (dB V w.heap.size (.slice (some ⟨g,0,none⟩) L.length c3) L):=hS
   have CS:=nK g c3 L w.heap.size V hS (by rw[hlen];exact HA.out.2)
   have H0:Hid (0<L.length):=Nat.pos_of_ne_zero h0
   have HgB:Hid (w.heap.size≤g):=hgB
   have h0':((L.length:Int) == 0)=false:=by simpa using h0
   clear hq0 hr0 hR hL hX hT hS hro hlen H2 h0 hgB
   go_wp2_with fail
   refine CS.mono ?_
   rintro e4 w4 ⟨rfl,L',hp,hs,o4,g4⟩
   have HLs:Hid (L'.Perm L∧L'.Pairwise inS):=⟨hp,hs⟩
   have hll:L'.length=L.length:=hp.length_eq
   rw[←hll] at o4 ⊢
   have HT4:Hid (TbO w4 w.heap.size (.slice p1 m1 c1) (.slice p2 m2 c2) X (aq R fs)):=HTV.out.block HSo.out g4 (by decide) (by decide) (by decide)
   have HB4:Hid (TbB w4 nb (.slice p1 m1 c1) (.slice p2 m2 c2)):=mp HBt.out HSo.out g4 (by decide)
   have HG4:Hid (w.grownBy w4 none):=az HGV.out g4 (fun y e=>by cases e;exact HgB.out)
   have HO4:Hid (dB w4 w.heap.size (.slice (some ⟨g,0,none⟩) L'.length c3) L'):=o4
   have HNx:=ow _ _ (.slice (some ⟨g,0,none⟩) L'.length c3) X (aq R fs) L' w4 HT4.out.at (aB.Own.at HO4.out) (AM hp Hro.out) (by rw[hll,Hlen.out];exact HA.out.2)
   unfold tbv at HNx
   obtain⟨p,hp'⟩:∃ p,p=bX (rws X) (aq R fs) L':=⟨_,rfl⟩
   have hpl:p<L'.length:=by rw[hp'];exact jU (List.length_pos_iff.1 (by rw[hll];exact H0.out))
   rw[←hp'] at HNx
   have Hp:Hid (p=bX (rws X) (aq R fs) L'):=hp'
   have Hpl:Hid (p<L'.length):=hpl
   have hpl':(p:Int)<(L'.length:Int):=Int.ofNat_lt.2 hpl
   obtain⟨t0,t1⟩:=bH HB4.out
   have Hll:Hid (L'.length=L.length):=hll
   clear hp hs hll hp' hpl o4 g4 CS
   go_wp2_with fail
   refine HNx.mono ?_
   rintro e5 w5 ⟨rfl,g5⟩
   obtain⟨g6,off6,cap6,e6,RR⟩:=SeAt.there (aB.Own.at (ar HO4.out g5)) Hpl.out
   cases e6
   simp only[Nat.zero_add] at RR
   obtain⟨e,he⟩:∃ e,e=L'.getD p Se.none:=⟨_,rfl⟩
   rw[←he] at RR
   have He:Hid (e=L'.getD p Se.none):=he
   obtain⟨s0,s1,s2,s3,s4,s5,s6,s7,s8,s9,s10⟩:=dJ RR
   have HG5:Hid (w.grownBy w5 none):=aa HG4.out g5
   obtain⟨Y,hY⟩:∃ Y,Y=w5.alloc (.cells #[.int .i64 e.s.th,.int .i64 e.s.pl,.int .u8 e.s.wh.wn,.int .u8 e.s.wh.vb,.int .u8 e.s.wh.wm,.int .i64 e.s.wh.ct,.int .u8 e.s.wh.su,.int .u8 e.s.wh.tr,.int .u8 e.s.wh.mr,.string e.s.wh.nm,.int .i64 (e.ro:Int)] 131):=⟨_,rfl⟩
   have HGY:Hid (w.grownBy Y none):=by rw[hY];exact am HG5.out _
   have HBe:Hid (SeB Y w5.heap.size e):=by rw[hY];exact ak _ _ _
   have CI:=sc _ S e.s Y (HA.out.1.keep HGY.out) (by rw[←Hlen.out];exact H0.out)
   unfold sdc at CI
   clear HNx g5 RR he t0 t1
   go_upto_region 8 with fail
   rw[←hY]
   obtain⟨nc,hnc⟩:∃ nc,nc=w5.heap.size:=⟨_,rfl⟩
   rw[←hnc] at HBe ⊢
   clear hY hnc s0 s1 s2 s3 s4 s5 s6 s7 s8 s9 s10
   obtain⟨o0,o1,o2,o3,o4,o5,o6,o7,o8,o9,o10⟩:=dU HBe.out
   go_wp2_with fail
   refine CI.mono ?_
   rintro e8 w8 ⟨rfl,g8⟩
   have HG8:Hid (w.grownBy w8 none):=aa HGY.out g8
   clear g8 CI o0 o1 o2 o3 o4 o5 o6 o7 o8 o9 o10
   go_wp2_with fail
   go_ret2
   refine⟨_,by rw[HRL.out.2.2.2];rfl,HG8.out,fun h=>absurd HRL.out.2.2.2 h,fun R' L2 _ a b=>?_⟩
   rw[HRL.out.2.1] at a
   cases a
   rw[HRL.out.2.2.1] at b
   cases b
   rw[if_neg (fun q=>by rw[q] at H0;exact absurd H0.out (Nat.lt_irrefl 0))]
   exact⟨L',HLs.out.1,HLs.out.2,by rw[He.out,Hp.out,HRL.out.1]⟩
 ·have e1:(q != 0)=true:=by simpa using hq0
  have Hq0:Hid (q≠0):=hq0
  clear hq0
  go_wp2_with fail
  go_ret2
  exact⟨0,by rw[←Hq.out];rfl,HGV.out,fun _=>rfl,fun R L a b c=>absurd (by rw[Hq.out,a];exact eE b c) Hq0.out⟩
theorem Ci {ok:Nat→Prop} {w:World} {b:Nat} {es:List Ent} {p:Pl} (B:dV ok w b es p) (c:Int):(atC p es c).2.length≤4:=by
 unfold atC
 split
 ·split
  ·rename_i e he
   exact B.parts e (List.mem_of_getElem? he)
  ·exact Nat.zero_le _
 ·exact Nat.zero_le _
theorem jY.of {ok:Nat→Prop} {w:World} {b:Nat} {es:List Ent} {p:Pl} (B:dV ok w b es p):jY w (.pointer (some ⟨b,0,none⟩)) (es.length:Int) (atC p es):=by
 refine⟨fun X g=>?_,fun X t g=>⟨_,uc ok b es p t X (B.keep g)⟩,Ci B⟩
 exact(Bq b es.length (B.keep g).lies.len p X (B.keep g).lies.flags).mono fun e w' q=>⟨q.1,q.2.1⟩
theorem LIn.of' {ok:Nat→Prop} {w:World} {b:Nat} {es:List Ent} {p:Pl} {vt vf:Value} {ts:List Th} {fs:List Fe} (B:dV ok w b es p) (T:thR.At w vt ts) (F:feR.At w vf fs):LIn w (.pointer (some ⟨b,0,none⟩)) vt vf (bG p ts.length) (es.length:Int) (atC p es) ts fs:=by
 obtain⟨q,c,rfl⟩:=T.form
 refine⟨fun X g=>nQ ok b es p q ts.length c X (B.keep g),fun h=>⟨jY.of B,?_⟩,T,F⟩
 unfold bG at h
 split at h
 ·cases h
 ·omega
theorem LIn.of {ok:Nat→Prop} {w:World} {b:Nat} {es:List Ent} {p:Pl} {vt vf:Value} {ts:List Th} {fs:List Fe} (B:dV ok w b es p) (T:thR.At w vt ts) (F:feR.At w vf fs) (_:fs.length≤4096):LIn w (.pointer (some ⟨b,0,none⟩)) vt vf (bG p ts.length) (es.length:Int) (atC p es) ts fs:=LIn.of' B T F
theorem LIn.no {w:World} {v vt vf:Value} {ts:List Th} {fs:List Fe} (B:nN w v) (T:thR.At w vt ts) (F:feR.At w vf fs):LIn w v vt vf 1 0 (fun _=>(Hd.none,[])) ts fs:=by
 obtain⟨q,c,rfl⟩:=T.form
 exact⟨fun X g=>rh v q ts.length c X (B.keep g),fun h=>absurd h (by decide),T,F⟩
def eZ (cd:Int→Hd×List Pt):List (Th×Fe)→Nat→List Rw
 | [],_=>[]
 | (t,_) :: r,i=>if t.place=4 then ⟨(i:Int)+1,t.stamp,(cd t.card).1,(cd t.card).2⟩ :: eZ cd r (i+1) else eZ cd r (i+1)
theorem ic {cd:Int→Hd×List Pt} {t:Th} {f:Fe} {r:List (Th×Fe)} {i:Nat} (h:¬t.place=4):eZ cd ((t,f) :: r) i=eZ cd r (i+1):=by
 rw[eZ,if_neg h]
theorem eD {cd:Int→Hd×List Pt} {t:Th} {f:Fe} {r:List (Th×Fe)} {i:Nat} (h:t.place=4):eZ cd ((t,f) :: r) i=⟨(i:Int)+1,t.stamp,(cd t.card).1,(cd t.card).2⟩ :: eZ cd r (i+1):=by
 rw[eZ,if_pos h]
theorem kz {n:Int} {cd:Int→Hd×List Pt}:∀ (l:List (Th×Fe)) (i:Nat) (acc A:List Rw),dE n cd l i acc=some A→A=acc++eZ cd l i∧∀ x∈l,x.1.place=4→aY x.1 x.2=true
 | [],i,acc,A,h=>by
  simp only[dE,Option.some.injEq] at h
  subst h
  exact⟨(List.append_nil _).symm,fun x hx=>by cases hx⟩
 | (t,f) :: r,i,acc,A,h=>by
  unfold dE at h
  split at h
  ·cases h
  ·split at h
   ·rename_i hp
    obtain⟨e,q⟩:=kz r (i+1) acc A h
    refine⟨?_,fun x hx h4=>?_⟩
    ·rw[e,ic hp]
    ·rcases List.mem_cons.1 hx with rfl | hx
     ·exact absurd h4 hp
     ·exact q x hx h4
   ·rename_i hp
    have hp':t.place=4:=Decidable.of_not_not hp
    split at h
    ·cases h
    ·rename_i hm
     split at h
     ·cases h
     ·obtain⟨e,q⟩:=kz r (i+1) _ A h
      refine⟨?_,fun x hx h4=>?_⟩
      ·rw[e,eD hp',List.append_assoc,List.singleton_append]
      ·rcases List.mem_cons.1 hx with rfl | hx
       ·have h2:¬aY t f=false:=fun q=>hm (Or.inr q)
        cases h3:aY t f with
        | true=>rfl
        | false=>exact absurd h3 h2
       ·exact q x hx h4
theorem kM {n:Int} {cd:Int→Hd×List Pt}:∀ (l l':List (Th×Fe)) (i:Nat) (acc:List Rw),l.length=l'.length→(∀ (j:Nat) t f t' f',l[j]?=some (t,f)→l'[j]?=some (t',f')→t=t'∧(t.place=4→aY t f=aY t f'))→dE n cd l i acc=dE n cd l' i acc
 | [],[],_,_,_,_=>rfl
 | [],_ :: _,_,_,h,_=>by cases h
 | _ :: _,[],_,_,h,_=>by cases h
 | (t,f) :: r,(t',f') :: r',i,acc,h,q=>by
  obtain⟨rfl,q0⟩:=q 0 t f t' f' rfl rfl
  have q1:∀ (j:Nat) a b c d,r[j]?=some (a,b)→r'[j]?=some (c,d)→a=c∧(a.place=4→aY a b=aY a d):=fun j a b c d h1 h2=>q (j+1) a b c d h1 h2
  have hl:r.length=r'.length:=by simpa using h
  unfold dE
  rw[kM r r' (i+1) acc hl q1,kM r r' (i+1) _ hl q1]
  by_cases hp:t.place=4
  ·rw[q0 hp]
  ·simp only[if_pos hp]
theorem tG {cd:Int→Hd×List Pt}:∀ (l:List (Th×Fe)) (i:Nat),(∀ r∈eZ cd l i,(i:Int)<r.nu∧r.nu≤(i:Int)+l.length)∧(eZ cd l i).Pairwise fun a b=>a.nu<b.nu
 | [],i=>⟨fun r h=>(by cases h),List.Pairwise.nil⟩
 | (t,f) :: l,i=>by
  obtain⟨h1,h2⟩:=tG (cd:=cd) l (i+1)
  simp only[List.length_cons]
  by_cases hp:t.place=4
  ·rw[eD hp]
   refine⟨fun r hr=>?_,List.Pairwise.cons (fun r hr=>?_) h2⟩
   ·rcases List.mem_cons.1 hr with rfl | hr
    ·exact⟨by show (i:Int)<(i:Int)+1;omega,by show (i:Int)+1≤_;omega⟩
    ·have:=h1 r hr;omega
   ·have:=h1 r hr
    show (i:Int)+1<r.nu
    omega
  ·rw[ic hp]
   exact⟨fun r hr=>by have:=h1 r hr;omega,h2⟩
theorem vH {cd:Int→Hd×List Pt}:∀ (l:List (Th×Fe)) (i j:Nat) (t:Th) (f:Fe),l[j]?=some (t,f)→t.place=4→∃ r∈eZ cd l i,r.nu=(i:Int)+j+1
 | [],i,j,t,f,h,_=>by simp at h
 | (t',f') :: l,i,0,t,f,h,h4=>by
  simp at h
  obtain⟨rfl,rfl⟩:=h
  rw[eD h4]
  exact⟨_,List.mem_cons_self,by show (i:Int)+1=_;omega⟩
 | (t',f') :: l,i,j+1,t,f,h,h4=>by
  obtain⟨r,hr,e⟩:=vH (cd:=cd) l (i+1) j t f (by simpa using h) h4
  refine⟨r,?_,by rw[e];omega⟩
  by_cases hp:t'.place=4
  ·rw[eD hp];exact List.mem_cons_of_mem _ hr
  ·rw[ic hp];exact hr
theorem iC {cd:Int→Hd×List Pt}:∀ (l:List (Th×Fe)) (i:Nat) (r:Rw),r∈eZ cd l i→∃ (j:Nat) (t:Th) (f:Fe),l[j]?=some (t,f)∧t.place=4∧r=⟨(i:Int)+j+1,t.stamp,(cd t.card).1,(cd t.card).2⟩
 | [],i,r,h=>by cases h
 | (t,f) :: l,i,r,h=>by
  by_cases hp:t.place=4
  ·rw[eD hp] at h
   rcases List.mem_cons.1 h with rfl | h
   ·exact⟨0,t,f,rfl,hp,by simp⟩
   ·obtain⟨j,a,b,h1,h2,h3⟩:=iC l (i+1) r h
    exact⟨j+1,a,b,by simpa using h1,h2,by rw[h3];simp only[Rw.mk.injEq,and_true];omega⟩
  ·rw[ic hp] at h
   obtain⟨j,a,b,h1,h2,h3⟩:=iC l (i+1) r h
   exact⟨j+1,a,b,by simpa using h1,h2,by rw[h3];simp only[Rw.mk.injEq,and_true];omega⟩
structure Tab (n:Int) (cd:Int→Hd×List Pt) (ts:List Th) (fs:List Fe) (R:List Rw):Prop where
 tab:bi n cd ts fs=some R
 len:ts.length=fs.length
 perm:R.Perm (eZ cd (ts.zip fs) 0)
 nod:(R.map Rw.nu).Nodup
 nu:∀ r∈R,1≤r.nu∧r.nu≤(fs.length:Int)
 may:∀ (j:Nat) t f,ts[j]?=some t→fs[j]?=some f→t.place=4→aY t f=true
 few:R.length≤16
theorem mY {n:Int} {cd:Int→Hd×List Pt}:∀ (l:List (Th×Fe)) (i:Nat) (acc A:List Rw),acc.length≤16→dE n cd l i acc=some A→A.length≤16
 | [],i,acc,A,h0,h=>by
  simp only[dE,Option.some.injEq] at h
  subst h
  exact h0
 | (t,f) :: r,i,acc,A,h0,h=>by
  unfold dE at h
  split at h
  ·cases h
  ·split at h
   ·exact mY r (i+1) acc A h0 h
   ·split at h
    ·cases h
    ·rename_i hm
     split at h
     ·cases h
     ·exact mY r (i+1) _ A (by rw[List.length_append,List.length_singleton];have:¬acc.length=16:=fun q=>hm (Or.inl q);omega) h
theorem dY {ts:List Th} {fs:List Fe} {j:Nat} {t:Th} {f:Fe}:(ts.zip fs)[j]?=some (t,f)↔ts[j]?=some t∧fs[j]?=some f:=by
 rw[List.getElem?_zip_eq_some]
theorem Tab.of {n:Int} {cd:Int→Hd×List Pt} {ts:List Th} {fs:List Fe} {R:List Rw} (h:bi n cd ts fs=some R):Tab n cd ts fs R:=by
 have h':=h
 unfold bi at h
 split at h
 ·rename_i hl
  split at h
  ·rename_i acc ha
   split at h
   ·cases h
    obtain⟨e,q⟩:=kz _ _ _ _ ha
    rw[List.nil_append] at e
    have hp:(sortR acc).Perm (eZ cd (ts.zip fs) 0):=by rw[←e];exact List.mergeSort_perm _ _
    obtain⟨n1,n2⟩:=tG (cd:=cd) (ts.zip fs) 0
    refine⟨h',hl,hp,?_,fun r hr=>?_,fun j t f a b c=>?_,?_⟩
    ·rw[(hp.map Rw.nu).nodup_iff]
     exact List.Pairwise.map _ (fun a b q=>by omega) n2
    ·have:=n1 r (hp.mem_iff.1 hr)
     rw[List.length_zip] at this
     omega
    ·exact q (t,f) (List.mem_of_getElem? (dY.2 ⟨a,b⟩)) c
    ·rw[hp.length_eq,←e];exact mY _ _ _ _ (Nat.zero_le _) ha
   ·cases h
  ·cases h
 ·cases h
theorem Tab.turn {n:Int} {cd:Int→Hd×List Pt} {ts:List Th} {fs fs':List Fe} {R:List Rw} (h:Tab n cd ts fs R) (hl:fs'.length=fs.length) (hm:∀ (j:Nat) t f,ts[j]?=some t→fs'[j]?=some f→t.place=4→aY t f=true):Tab n cd ts fs' R:=by
 refine Tab.of ?_
 have e:dE n cd (ts.zip fs') 0 []=dE n cd (ts.zip fs) 0 []:=by
  refine kM _ _ _ _ (by rw[List.length_zip,List.length_zip,hl]) fun j t f t' f' a b=>?_
  obtain⟨a1,a2⟩:=dY.1 a
  obtain⟨b1,b2⟩:=dY.1 b
  rw[a1] at b1
  cases b1
  exact⟨rfl,fun h4=>by rw[hm j t f a1 a2 h4,h.may j t f' a1 b2 h4]⟩
 have:=h.tab
 unfold bi at this ⊢
 rw[hl,e]
 exact this
theorem Tab.has {n:Int} {cd:Int→Hd×List Pt} {ts:List Th} {fs:List Fe} {R:List Rw} (h:Tab n cd ts fs R) {j:Nat} {t:Th} (ht:ts[j]?=some t) (h4:t.place=4):∃ i,i<R.length∧(R.getD i Rw.none).nu=(j:Int)+1:=by
 have hj:j<ts.length:=(List.getElem?_eq_some_iff.1 ht).1
 obtain⟨f,hf⟩:∃ f,fs[j]?=some f:=⟨_,List.getElem?_eq_getElem (by rw[←h.len];exact hj)⟩
 obtain⟨r,hr,e⟩:=vH (cd:=cd) (ts.zip fs) 0 j t f (dY.2 ⟨ht,hf⟩) h4
 obtain⟨i,hi,e2⟩:=List.getElem_of_mem (h.perm.mem_iff.2 hr)
 exact⟨i,hi,by rw[aC hi,e2,e];simp⟩
theorem Tab.from {n:Int} {cd:Int→Hd×List Pt} {ts:List Th} {fs:List Fe} {R:List Rw} (h:Tab n cd ts fs R) {r:Rw} (hr:r∈R):∃ (j:Nat) (t:Th),ts[j]?=some t∧t.place=4∧r.nu=(j:Int)+1∧r.st=t.stamp:=by
 obtain⟨j,t,f,a,b,c⟩:=iC _ _ _ (h.perm.mem_iff.1 hr)
 exact⟨j,t,(dY.1 a).1,b,by rw[c];simp,by rw[c]⟩
theorem jt {R:List Rw} (h:(R.map Rw.nu).Nodup) {i k:Nat} (hi:i<R.length) (hk:k<R.length) (e:(R.getD i Rw.none).nu=(R.getD k Rw.none).nu):i=k:=by
 rw[aC hi,aC hk] at e
 have h':=List.pairwise_iff_getElem.1 h
 rcases Nat.lt_trichotomy i k with q | q | q
 ·exact absurd (by rw[List.getElem_map,List.getElem_map];exact e) (h' i k (by simpa using hi) (by simpa using hk) q)
 ·exact q
 ·exact absurd (by rw[List.getElem_map,List.getElem_map];exact e.symm) (h' k i (by simpa using hk) (by simpa using hi) q)
theorem fY {fs:List Fe} {R:List Rw} {F:List Fe} (hn:(R.map Rw.nu).Nodup) (hb:∀ r∈R,1≤r.nu∧r.nu≤(fs.length:Int)):∀ m,m≤R.length→(∀ i,i<m→(jm fs R F m)[((R.getD i Rw.none).nu - 1).toNat]?=some (F.getD i Fe.none))∧∀ j:Nat,(∀ i,i<m→(R.getD i Rw.none).nu≠(j:Int)+1)→(jm fs R F m)[j]?=fs[j]?
 | 0,_=>⟨fun i h=>absurd h (Nat.not_lt_zero _),fun j _=>rfl⟩
 | m+1,h=>by
  obtain⟨q1,q2⟩:=fY (F:=F) hn hb m (by omega)
  have hbm:=hb _ (List.getElem_mem (show m<R.length by omega))
  rw[←aC (d:=Rw.none) (show m<R.length by omega)] at hbm
  rw[kV]
  refine⟨fun i hi=>?_,fun j hj=>?_⟩
  ·by_cases e:i=m
   ·subst e
    rw[List.getElem?_set_self (by rw[gW];omega)]
   ·have hbi:=hb _ (List.getElem_mem (show i<R.length by omega))
    rw[←aC (d:=Rw.none) (show i<R.length by omega)] at hbi
    have hne:(R.getD m Rw.none).nu≠(R.getD i Rw.none).nu:=fun q=>e (jt hn (by omega) (by omega) q.symm)
    rw[List.getElem?_set_ne (by omega)]
    exact q1 i (by omega)
  ·rw[List.getElem?_set_ne (by have:=hj m (by omega);omega)]
   exact q2 j fun i hi=>hj i (by omega)
theorem iB (fs:List Fe) (R:List Rw) (F:List Fe):(cJ fs R F).length=fs.length:=gW fs R F _
theorem eo (R:List Rw) (fs:List Fe):(aq R fs).length=R.length:=List.length_map _
theorem Tab.pick {n:Int} {cd:Int→Hd×List Pt} {ts:List Th} {fs:List Fe} {R:List Rw} (h:Tab n cd ts fs R) {F:List Fe} (hF:F.length=R.length):aq R (cJ fs R F)=F:=by
 refine List.ext_getElem? fun i=>?_
 by_cases hi:i<R.length
 ·unfold aq
  rw[List.getElem?_map,List.getElem?_eq_getElem hi,Option.map_some,←aC (d:=Rw.none) hi]
  have:=(fY (F:=F) h.nod h.nu R.length (Nat.le_refl _)).1 i hi
  unfold cJ
  rw[List.getD_eq_getElem?_getD,this,Option.getD_some,aC (show i<F.length by omega),List.getElem?_eq_getElem]
 ·rw[List.getElem?_eq_none (by rw[eo];omega),List.getElem?_eq_none (by omega)]
theorem Tab.lay2 {n:Int} {cd:Int→Hd×List Pt} {ts:List Th} {fs:List Fe} {R:List Rw} (h:Tab n cd ts fs R) (A B:List Fe):cJ (cJ fs R A) R B=cJ fs R B:=by
 refine List.ext_getElem? fun j=>?_
 have a1:=fY (fs:=cJ fs R A) (F:=B) h.nod (by rw[iB];exact h.nu) R.length (Nat.le_refl _)
 have a2:=fY (fs:=fs) (F:=B) h.nod h.nu R.length (Nat.le_refl _)
 have a3:=fY (fs:=fs) (F:=A) h.nod h.nu R.length (Nat.le_refl _)
 by_cases q:∃ i,i<R.length∧(R.getD i Rw.none).nu=(j:Int)+1
 ·obtain⟨i,hi,e⟩:=q
  have e1:=a1.1 i hi
  have e2:=a2.1 i hi
  rw[e,show ((j:Int)+1 - 1).toNat=j by omega] at e1 e2
  exact e1.trans e2.symm
 ·have hq:∀ i,i<R.length→(R.getD i Rw.none).nu≠(j:Int)+1:=fun i hi e=>q ⟨i,hi,e⟩
  exact(a1.2 j hq).trans ((a3.2 j hq).trans (a2.2 j hq).symm)
def rQ (F:List Fe):Prop:=∀ f∈F,fG f.ho=true∧bR f.tr=true
theorem Tab.good {n:Int} {cd:Int→Hd×List Pt} {ts:List Th} {fs:List Fe} {R:List Rw} (h:Tab n cd ts fs R):rQ (aq R fs):=fun f hf=>by
 unfold aq at hf
 obtain⟨r,hr,e⟩:=List.mem_map.1 hf
 obtain⟨j,t,a,b,c,_⟩:=h.from hr
 have hj:j<ts.length:=(List.getElem?_eq_some_iff.1 a).1
 have hj':j<fs.length:=by rw[←h.len];exact hj
 rw[c,show ((j:Int)+1 - 1).toNat=j by omega,aC hj'] at e
 have:=h.may j t _ a (List.getElem?_eq_getElem hj') b
 rw[e] at this
 unfold aY at this
 simp only[Bool.and_eq_true] at this
 exact⟨this.1.2,this.2⟩
theorem Tab.back {n:Int} {cd:Int→Hd×List Pt} {ts:List Th} {fs:List Fe} {R:List Rw} (h:Tab n cd ts fs R) {F:List Fe} (hF:F.length=R.length) (hg:rQ F):Tab n cd ts (cJ fs R F) R:=by
 refine h.turn (iB _ _ _) fun j t f a b h4=>?_
 obtain⟨i,hi,e⟩:=h.has a h4
 have e1:=(fY (F:=F) h.nod h.nu R.length (Nat.le_refl _)).1 i hi
 rw[e,show ((j:Int)+1 - 1).toNat=j by omega] at e1
 have b':(jm fs R F R.length)[j]?=some f:=b
 rw[e1] at b'
 cases b'
 have hj:j<ts.length:=(List.getElem?_eq_some_iff.1 a).1
 have hs:=h.may j t _ a (List.getElem?_eq_getElem (by rw[←h.len];exact hj)) h4
 obtain⟨g1,g2⟩:=hg (F.getD i Fe.none) (by rw[aC (show i<F.length by omega)];exact List.getElem_mem _)
 unfold aY at hs ⊢
 simp only[Bool.and_eq_true] at hs ⊢
 exact⟨⟨hs.1.1,g1⟩,g2⟩
theorem wV {R:List Rw} {F:List Fe} {e:Se} {i:Nat} (h:i<F.length):(aP R F e).getD i Fe.none=fB R F e i:=by
 unfold aP
 rw[aC (by simpa using h)]
 simp
theorem ke {R:List Rw} {F:List Fe} {k:Int} {e:Se} (h:e∈cU R F k):e.ro<R.length∧e.s.th=(R.getD e.ro Rw.none).nu∧∃ j,j<(R.getD e.ro Rw.none).ps.length∧e.s.pl=(j:Int)∧e.s.wh=(R.getD e.ro Rw.none).ps.getD j Pt.none∧e.s.wh.wn=5∧lay e.s.wh.vb=k:=by
 unfold cU hJ at h
 rw[List.mem_flatMap] at h
 obtain⟨i,hi,h⟩:=h
 rw[List.mem_range] at hi
 unfold iG at h
 split at h
 ·cases h
 ·unfold eN at h
  rw[List.mem_filterMap] at h
  obtain⟨j,hj,h⟩:=h
  rw[List.mem_range] at hj
  split at h
  ·rename_i hc
   cases h
   exact⟨hi,rfl,j,hj,rfl,rfl,hc.1,hc.2⟩
  ·cases h
theorem tA (p:Pt):bN p p=true:=by unfold bN;simp
theorem yZ {R:List Rw} (h:(R.map Rw.nu).Nodup) {i:Nat} (hi:i<R.length):eO R (R.getD i Rw.none).nu=some i:=by
 unfold eO
 rw[List.findIdx?_eq_some_iff_getElem]
 refine⟨hi,by rw[aC hi];simp,fun j hj q=>?_⟩
 have e:(R.getD j Rw.none).nu=(R.getD i Rw.none).nu:=by rw[aC (show j<R.length by omega)];simpa using q
 exact absurd (jt h (by omega) hi e) (by omega)
theorem lR {R:List Rw} {F:List Fe} {k:Int} {e:Se} (hn:(R.map Rw.nu).Nodup) (h:e∈cU R F k):bj R e.s=some e:=by
 obtain⟨h1,h2,j,h3,h4,h5,h6,h7⟩:=ke h
 unfold bj
 rw[h2,yZ hn h1]
 simp only
 rw[if_pos]
 unfold cQ
 rw[h4,h6,show ((j:Int)).toNat=j by omega,←h5,tA,decide_eq_true (show (0:Int)≤(j:Int) by omega),decide_eq_true (show (j:Int)<((R.getD e.ro Rw.none).ps.length:Int) by omega)]
 rfl
def jB (a b:Se):Prop:=a.ro<b.ro∨a.ro=b.ro∧a.s.pl<b.s.pl
theorem Ct (R:List Rw) (F:List Fe) (k:Int):(cU R F k).Pairwise jB:=by
 unfold cU hJ
 rw[List.flatMap_def,List.pairwise_flatten]
 refine⟨fun l hl=>?_,?_⟩
 ·obtain⟨i,hi,rfl⟩:=List.mem_map.1 hl
  unfold iG
  split
  ·exact List.Pairwise.nil
  ·unfold eN
   refine List.Pairwise.filterMap _ (R:=fun a b:Nat=>a<b) (fun a a' haa b hb b' hb'=>?_) List.pairwise_lt_range
   split at hb
   ·split at hb'
    ·cases hb;cases hb'
     exact Or.inr ⟨rfl,by show (a:Int)<(a':Int);omega⟩
    ·cases hb'
   ·cases hb
 ·refine List.Pairwise.map _ (R:=fun a b:Nat=>a<b) (fun a b hab=>?_) List.pairwise_lt_range
  intro x hx y hy
  have ro:∀ {i:Nat} {x:Se},x∈iG R F k i→x.ro=i:=fun {i x} h=>by
   unfold iG at h
   split at h
   ·cases h
   ·exact vq h
  exact Or.inl (by rw[ro hx,ro hy];exact hab)
theorem yL {R:List Rw} {F:List Fe} {k:Int} {a b:Se} (hn:(R.map Rw.nu).Nodup) (ha:a∈cU R F k) (hb:b∈cU R F k) (h:¬(a.ro=b.ro∧a.s.pl=b.s.pl)):dn a b=false:=by
 obtain⟨a1,a2,_,_,_,_,_,a7⟩:=ke ha
 obtain⟨b1,b2,_,_,_,_,_,b7⟩:=ke hb
 rw[fZ (fun q=>h ⟨?_,q.2⟩),a7,b7]
 ·simp
 ·exact jt hn a1 b1 (by rw[←a2,←b2];exact q.1)
theorem rW {R:List Rw}:∀ (L acc:List Se),(∀ e∈L,bj R e.s=some e)→(L.Pairwise fun a b=>dn b a=false)→(∀ a∈acc,∀ b∈L,dn b a=false)→aN R (L.map Se.s) acc=some (acc++L)
 | [],acc,_,_,_=>by simp[aN]
 | e :: L,acc,h1,h2,h3=>by
  rw[List.map_cons]
  unfold aN
  rw[h1 e List.mem_cons_self]
  simp only
  rw[if_pos (by
   unfold dz
   rw[List.all_eq_true]
   intro o ho
   rw[h3 o ho e List.mem_cons_self]
   rfl)]
  rw[List.pairwise_cons] at h2
  rw[rW L (acc++[e]) (fun x hx=>h1 x (List.mem_cons_of_mem _ hx)) h2.2 (fun a ha b hb=>by
   rcases List.mem_append.1 ha with ha | ha
   ·exact h3 a ha b (List.mem_cons_of_mem _ hb)
   ·rw[List.mem_singleton] at ha
    subst ha
    exact h2.1 b hb),List.append_assoc,List.singleton_append]
theorem sw {R:List Rw} {F:List Fe} {k:Int} {L:List Se} (hn:(R.map Rw.nu).Nodup) (h:∀ e∈L,e∈cU R F k) (hp:L.Pairwise fun a b=>¬(a.ro=b.ro∧a.s.pl=b.s.pl)):aN R (L.map Se.s) []=some L:=by
 have:=rW (R:=R) L [] (fun e he=>lR hn (h e he)) (List.Pairwise.imp_of_mem (fun {a b} ha hb q=>yL hn (h b hb) (h a ha) (fun z=>q ⟨z.1.symm,z.2.symm⟩)) hp) (fun a ha=>by cases ha)
 simpa using this
end Go.Proofs.YtjmepebbcnhalaaGreat
