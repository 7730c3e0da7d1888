import Derived.Test.YtjmepebbcnhalaaGreatZ21
import Derived.Deep.RegionLaw
import Derived.Lib.SliceRun
namespace Go.Proofs.YtjmepebbcnhalaaGreat
open Tryz
open Go.RowKit
variable {r n nu:Int} {cd:Int→Hd×List Pt} {ts:List Th} {fs F:List Fe} {R:List Rw} {ps:List Pt} {m k base size b:Nat} {e:Se} {X:List Rv} {L:List Se} {w w':World} {v vr vf vt:Value} {xs:List Value} {cs:Array Value} {ok:Nat→Prop} {es:List Ent} {p:Pl}
def Ba (w:World) (r n:Int) (cd:Int→Hd×List Pt) (ts:List Th) (fs:List Fe) (s:Sd) (e:Ending) (w':World):Prop:=∃ p m c,e=.returned (.tuple #[.slice p m c,.int .i64 (lkE r n cd ts fs [s])])∧w.grownBy w' none∧(lkE r n cd ts fs [s]≠0→m=0∧p=none∧c=0)∧∀ R d,r=0→bI n cd ts fs=some R→cH R [s] []=some [d]→bm w' w.heap.size (.slice p m c) (fC R (bC R (ay R fs) d))
def zr (w:World) (r n:Int) (cd:Int→Hd×List Pt) (ts:List Th) (fs:List Fe) (s:Sd) (e:Ending) (w':World):Prop:=∃ p m c,e=.returned (.tuple #[.slice p m c,.int .i64 (lkE r n cd ts fs [s])])∧w.grownBy w' none∧(lkE r n cd ts fs [s]≠0→m=0∧p=none∧c=0)∧∀ R d,r=0→bI n cd ts fs=some R→cH R [s] []=some [d]→cJ w' w.heap.size (.slice p m c) (ei fs R (bK R (ay R fs) d))
def zS:Array Value:=#[.int .i64 0,.int .i64 0,.int .u8 0,.int .u8 0,.int .u8 0,.int .i64 0,.int .u8 0,.int .u8 0,.int .u8 0,.string ⟨#[]⟩,.int .i64 0]
set_option maxRecDepth 100000
set_option maxHeartbeats 4000000
def aV (w:World) (base:Nat) (v:Value) (L:List Sd):Prop:=sdR.Own 64 w base v L
theorem linfoD:(prog.info? 64).map (fun i=>(i.zero,i.size,i.bytes))=some (some (.agg #[.int .i64 0,.int .i64 0,.int .u8 0,.int .u8 0,.int .u8 0,.int .i64 0,.int .u8 0,.int .u8 0,.int .u8 0,.string ⟨#[]⟩]),10,56):=by kernel_rfl
theorem oW (Z:World) (s:Sd):Src (Z.alloc (.cells (sdc s).toArray 64)) (.slice (some ⟨Z.heap.size,0,none⟩) 1 1) 1 10 (sdc s):=jx (cs:=(sdc s).toArray) (aj Z _ _) rfl 1
theorem vH {n:Nat} (h:n≤4096):n+1≤maxLen∧(n+1)*56≤140737488355328:=by unfold maxLen;omega
theorem lD {k:Int} (h:bgE r n cd ts fs k=0):r=0∧(1≤k∧k≤5)∧∃ R,bI n cd ts fs=some R:=by
 unfold bgE at h;split at h
 ·rename_i h0;split at h
  ·rename_i h1;obtain⟨a,R,b⟩:=rW h0;exact⟨a,h1,R,b⟩
  ·cases h
 ·rename_i h0;exact absurd h h0
theorem rQ {k:Int} (h:bI n cd ts fs=some R) (hk:1≤k∧k≤5):bgE 0 n cd ts fs k=0:=by
 unfold bgE;rw[if_pos (ks h),if_pos hk]
theorem EZ {k:Int} {ro:Nat} (h:e∈fD k nu ro ps m):e.ro=ro:=by
 unfold fD at h;obtain⟨i,_,q⟩:=List.mem_filterMap.1 h;split at q
 ·cases q;rfl
 ·cases q
theorem DK {k:Int} (h4:∀ x∈X,x.r.ps.length≤4) (h16:X.length≤16):(dI (rws X) F k).length≤64:=by
 unfold dI
 have:=jt (R:=rws X) (F:=F) (k:=k) (fun i=>by
  by_cases h:i<X.length
  ·rw[jD h];exact h4 _ (Qab h)
  ·rw[Qa2,Qan (by rw[fP];omega)];exact Q0 _) (rws X).length
 rw[fP] at this ⊢;omega
def fU (w:World) (r n:Int) (cd:Int→Hd×List Pt) (ts:List Th) (fs:List Fe) (k:Int) (e:Ending) (w':World):Prop:=∃ p m c,e=.returned (.tuple #[.slice p m c,.int .i64 (bgE r n cd ts fs k)])∧w.grownBy w' none∧(bgE r n cd ts fs k≠0→m=0∧p=none∧c=0)∧∀ R,r=0→1≤k∧k≤5→bI n cd ts fs=some R→aV w' w.heap.size (.slice p m c) ((dI R (ay R fs) k).map Se.s)
theorem Cy (h:k<L.length):(L.take (k+1)).map Se.s=(L.take k).map Se.s++[(L.getD k Se.none).s]:=by
 rw[aG h,Qat,Qg h,Qbb];rfl
theorem sN (bv vt vf:Value) (r n:Int) (cd:Int→Hd×List Pt) (ts:List Th) (fs:List Fe) (k:Int) (w:World) (I:LIn w bv vt vf r n cd ts fs):Calls prog 13 #[bv,vt,vf,.int .i64 k] w (fU w r n cd ts fs k):=by
 obtain⟨i0,hi,hz0,hz1,hz2⟩:=info_parts linfoD;obtain⟨pt,ct,rfl⟩:=I.things.form;obtain⟨pf,cf,rfl⟩:=I.feats.form;have HBg:=vZ bv _ _ r n cd ts fs k w I;unfold ki tbv at HBg;have HI:QH (LIn w bv (.slice pt ts.length ct) (.slice pf fs.length cf) r n cd ts fs):=I;clear I;go_enter func13,ntmps13;go_wp2_with fail;refine HBg.mono ?_;rintro e2 w2 ⟨p1,m1,c1,p2,m2,c2,p3,m3,c3,rfl,g2,h2⟩;obtain⟨q,hq⟩:=Qe (bgE r n cd ts fs k);have Hq:QH (q=bgE r n cd ts fs k):=hq;rw[←hq];obtain⟨V,hV⟩:=Qe (w2.alloc (.cells #[.slice p1 m1 c1,.slice p2 m2 c2] 125));have HGV:QH (w.grownBy V none):=by rw[hV];exact am g2 _
 have HBt:QH (TbB V w2.heap.size (.slice p1 m1 c1) (.slice p2 m2 c2)):=by rw[hV];exact aj _ _ _
 have H2:QH (∀ R,r=0→1≤k∧k≤5→bI n cd ts fs=some R→∃ X,rws X=R∧TbO V w.heap.size (.slice p1 m1 c1) (.slice p2 m2 c2) X (ay R fs)∧(∀ x∈X,1≤x.r.nu∧x.r.nu≤(fs.length:Int))∧iO V w.heap.size (.slice p3 m3 c3) (dI R (ay R fs) k)):=fun R a b c=>by
  obtain⟨X,x1,x2,x3,x4⟩:=h2 R a b c;have g:=Qa0 w2 (.cells #[.slice p1 m1 c1,.slice p2 m2 c2] 125) none;exact⟨X,x1,by rw[hV];exact x2.grow g,x3,by rw[hV];exact aC x4 g⟩
 have Hw2:QH (w.heap.size≤w2.heap.size):=g2.size;clear HBg g2 h2 hq;go_upto_region 2 with fail;rw[←hV];obtain⟨nb,hnb⟩:=Qe (w2.heap.size);rw[←hnb] at HBt Hw2 ⊢;clear hV hnb;by_cases hq0:q=0
 ·have e1:(q != 0)=false:=by simpa using hq0
  obtain⟨hr0,hk0,R,hR⟩:=lD (Hq.o.symm.trans hq0);obtain⟨X,hX,hT,hnu,hS⟩:=H2.o R hr0 hk0 hR;have HRL:QH (rws X=R∧bI n cd ts fs=some R∧bgE r n cd ts fs k=0):=⟨hX,hR,Hq.o.symm.trans hq0⟩
  obtain⟨L,hL⟩:=Qe (dI R (ay R fs) k);have hLl:L.length≤64:=by rw[hL,←hX];exact DK (fun x hx=>(hT.parts x hx).2) hT.few
  rw[←hL] at hS;have HS:QH (seR.At V (.slice p3 m3 c3) L):=aB.Own.at hS;have HL:QH (L=dI R (ay R fs) k):=hL;have Hm3:QH (m3=L.length):=by obtain⟨a,b,e⟩:=aB.Own.form hS;injection e
  rw[Hm3.o] at HS;rw[Hm3.o];have Hll:QH (L.length≤64):=hLl;clear hq0 hr0 hk0 hR hX hT hnu hS H2 hL hLl;go_wp2_with fail;go_loopw [13,30] (fun v i wr=>∃ j:Nat,j≤L.length∧i=.int .i64 (j:Int)∧aV wr V.heap.size v ((L.take j).map Se.s)∧V.grownBy wr none) (fun _ i _=>L.length - (intOf i).toNat)
  case atStart=>exact⟨0,Q0 _,rfl,aB.Own.nil _ _ _ _,aw _ _⟩
  case round =>
   obtain⟨j,hj,rfl,O,G⟩:=hrel;obtain⟨U,hU⟩:=Qe (wr);subst hU;obtain⟨pq,cq,rfl⟩:=O.form;have HG:QH (V.grownBy U none):=G;by_cases hlt:j<L.length
   ·obtain⟨g,off,cap,e1,RR⟩:=SeAt.there (HS.o.keep G) hlt;cases e1;obtain⟨e,he⟩:=Qe (L.getD j Se.none);rw[←he] at RR;obtain⟨c0,c1',c2',c3',c4,c5,c6,c7,c8,c9,c10⟩:=uL RR;obtain⟨Y,hY⟩:=Qe (U.alloc (.cells #[.int .i64 e.s.th,.int .i64 e.s.pl,.int .u8 e.s.wh.wn,.int .u8 e.s.wh.vb,.int .u8 e.s.wh.wm,.int .i64 e.s.wh.ct,.int .u8 e.s.wh.su,.int .u8 e.s.wh.tr,.int .u8 e.s.wh.mr,.string e.s.wh.nm,.int .i64 (e.ro:Int)] 131));have HGY:QH (U.grownBy Y none):=(by rw[hY];exact QG);have HBe:QH (SeB Y U.heap.size e):=(by rw[hY];exact aj _ _ _);have hDl:((L.take j).map Se.s).length=j:=(by rw[Qa9,Qam,Qbv (Qaf hlt)]);have HNx:QH ((L.take (j+1)).map Se.s=(L.take j).map Se.s++[e.s]):=(by show _=_;rw[Cy hlt,←he]);obtain⟨D,hD⟩:=Qe ((L.take j).map Se.s);rw[←hD] at O HNx hDl ⊢;have HOY:QH (Y.ownsRow V.heap.size 64 10 (.slice pq D.length cq) D.length (sdR.cs D)):=O.grow HGY.o;have HLn:QH (D.length+1≤maxLen∧(D.length+1)*56≤140737488355328):=vH (by rw[hDl];exact Ql (Qaf hlt) (Ql Hll.o (by decide)));have hlt':(j:Int)<L.length:=Int.ofNat_lt.2 hlt;have Hlt:QH (j<L.length):=hlt;have hwk:=aR (k:=j) (Ql (Qaf hlt) (Ql Hll.o (by decide)));have HM:QH (L.length - (intOf (.int .i64 ((j:Int)+1))).toNat<L.length - (intOf (.int .i64 (j:Int))).toNat):=cj hlt;clear he RR O G hD hDl hlt hj;go_upto_region 8 with fail;rw[←hY];obtain⟨nc,hnc⟩:=Qe (U.heap.size);rw[←hnc] at HBe ⊢;clear hY hnc c0 c1' c2' c3' c4 c5 c6 c7 c8 c9 c10;obtain⟨o0,o1,o2,o3,o4,o5,o6,o7,o8,o9,o10⟩:=pH HBe.o;go_wp2_with (at_builtin;refine br (by rfl) (.tmp 34) (.tmp 37) 30 rfl V.heap.size 64 i0 _ 10 56 underlying30 hi hz0 hz1 hz2 rfl (by decide) _ D.length (sdR.cs D) rfl (Qaq HOY.o _) _ 1 (sdc e.s) rfl (oW Y e.s) (fx _) HLn.o.1 HLn.o.2 (by rw[Qa3];exact Qca (aa HG.o HGY.o).size) ?_;intro v8 w8 o8 g8 _;have HO8:QH _:=o8;have HG8:QH _:=g8;clear o8 g8)
    have HS8:QH (aV w8 V.heap.size v8 (D++[e.s])∧V.grownBy w8 none):=⟨aB.more HO8.o rfl,ak (am (aa HG.o HGY.o) _) HG8.o (fun y e=>(Qa5 HOY.o y e).1)⟩
    clear HO8 HG8;go_roundw
    case rel=>exact⟨j+1,Hlt.o,by first | rfl | (rw[hwk];rfl) | go_num,by rw[HNx.o];exact HS8.o.1,HS8.o.2⟩
    case measure=>first | exact HM.o | (rw[hwk];exact HM.o)
   ·obtain rfl:j=L.length:=Qag hj (Qac hlt);rw[Qas] at O ⊢;have HF:QH (aV U V.heap.size (.slice pq (L.map Se.s).length cq) (L.map Se.s)):=O;clear O G hlt hj;go_wp2_with fail;go_ret2;refine⟨_,_,_,by rw[HRL.o.2.2];rfl,aa HGV.o HG.o,fun h=>absurd HRL.o.2.2 h,fun R' _ _ a=>?_⟩;rw[HRL.o.2.1] at a;cases a;have o:=bj HF.o HGV.o.size;rw[HL.o] at o;rw[HL.o];exact o
 ·have e1:(q != 0)=true:=by simpa using hq0
  have Hq0:QH (q≠0):=hq0;clear hq0;go_wp2_with fail;go_ret2;exact⟨none,0,0,by rw[←Hq.o];rfl,HGV.o,fun _=>⟨rfl,rfl,rfl⟩,fun R a b c=>absurd (by rw[Hq.o,a];exact rQ c b) Hq0.o⟩
theorem bO {e n:Nat} {t:TypeId} {fr:Nat×Nat} (h:w.ownsRow base e size v n xs) (g:w.grownBy w' (some b)) (hb:w.heap[b]?=some (.cells cs t fr)) (hne:t≠e):w'.ownsRow base e size v n xs:=by
 refine Qav h g ?_;cases hv:v.ownBlock with
 | none=>exact Or.inl rfl
 | some y=>exact Or.inr fun q=>bD h hb hne (by rw[hv,←q])
theorem TbO.block {b' t n:Nat} (h:TbO w base vr vf X F) (o:w.ownsRow b' t size v n xs) (g:w.grownBy w' v.ownBlock) (h1:t≠230) (h2:t≠62) (h3:t≠122):TbO w' base vr vf X F:=⟨dS h.rows o h1 g,fun x hx=>⟨dS (h.parts x hx).1 o h2 g,(h.parts x hx).2⟩,dS h.fs o h3 g,h.len,h.few⟩
theorem az (w:World) (g:Nat) (cs:Array Value):w.grownBy (w.setRow g cs) (some g) :=
 ⟨rfl,rfl,rfl,by simp[World.setRow],fun k _ hk=>setRow_other w g k cs (fun e=>hk (by rw[e]))⟩
def DM:Value→Nat
 | .slice _ n _=>n
 | _=>0
def jZ (R:List Rw) (fs:List Fe) (k:Int):List Fe×List Se:=uX R (dI R (ay R fs) k).length (ay R fs) (dI R (ay R fs) k) []
theorem Bb {n:Nat} {A:List Se} (h:L≠[]):uX R (n+1) F L A=uX R n (bK R F (L.getD (eO R F L) Se.none)) (L.eraseIdx (eO R F L)) (A++[L.getD (eO R F L) Se.none]):=by
 rw[uX,if_neg h]
def kw (w:World) (r n:Int) (cd:Int→Hd×List Pt) (ts:List Th) (fs:List Fe) (k:Int) (e:Ending) (w':World):Prop:=∃ p m c p' m' c',e=.returned (.tuple #[.slice p m c,.slice p' m' c',.int .i64 (bgE r n cd ts fs k)])∧w.grownBy w' none∧(bgE r n cd ts fs k≠0→m=0∧p=none∧m'=0∧p'=none∧c=0∧c'=0)∧∀ R,r=0→1≤k∧k≤5→bI n cd ts fs=some R→cJ w' w.heap.size (.slice p m c) (ei fs R (jZ R fs k).1)∧aV w' w.heap.size (.slice p' m' c') ((jZ R fs k).2.map Se.s)
open Go.Shelf
def inS (a b:Se):Prop:=a.ro<b.ro∨a.ro=b.ro∧a.s.pl≤b.s.pl
set_option maxHeartbeats 2000000
theorem qm (a0 a1 a2 a3 a4 a5 a6:Int) (s:ByteArray) (b0 b1 b2 b3 b4 b5 b6:Int) (t:ByteArray) (w:World):(Op.equalIn 9999 62 (.agg #[.int .u8 a0,.int .u8 a1,.int .u8 a2,.int .i64 a3,.int .u8 a4,.int .u8 a5,.int .u8 a6,.string s]) (.agg #[.int .u8 b0,.int .u8 b1,.int .u8 b2,.int .i64 b3,.int .u8 b4,.int .u8 b5,.int .u8 b6,.string t])).run prog w=.ok (f9 (⟨a0,a1,a2,a3,a4,a5,a6,s⟩:Pt) ⟨b0,b1,b2,b3,b4,b5,b6,t⟩) w:=by
 unfold f9;have hS:prog.underlying 62=some (.struct (prog.fieldsOf 62)):=by kernel_rfl
 have hp:prog.stoodInHeld 62=false:=by kernel_rfl
 have u3:=underlying3;have i3:=isAgg3;have z3:=sizeOf3;have u9:=underlying9;have i9:=isAgg9;have z9:=sizeOf9;have u23:=underlying55;have i23:=isAgg55;have z23:=sizeOf55;have u24:=underlying56;have i24:=isAgg56;have z24:=sizeOf56;have u25:=underlying57;have i25:=isAgg57;have z25:=sizeOf57;have u26:=underlying58;have i26:=isAgg58;have z26:=sizeOf58;have u27:=underlying59;have i27:=isAgg59;have z27:=sizeOf59;have u28:=underlying60;have i28:=isAgg60;have z28:=sizeOf60;rw[show (9999:Nat)=9998+1 from rfl,run_equalIn_agg w 9998 62 _ _ hS hp];simp only[Program.fieldsOf,underlying62];go_simp;by_cases h0:a0=b0
 case neg=>simp[h0]
 simp only[h0];by_cases h1:a1=b1
 case neg=>simp[h1]
 simp only[h1];by_cases h2:a2=b2
 case neg=>simp[h2]
 simp only[h2];by_cases h3:a3=b3
 case neg=>simp[h3]
 simp only[h3];by_cases h4:a4=b4
 case neg=>simp[h4]
 simp only[h4];by_cases h5:a5=b5
 case neg=>simp[h5]
 simp only[h5];by_cases h6:a6=b6
 case neg=>simp[h6]
 simp only[h6];by_cases h7:s=t
 case neg=>simp[h7];exact fun e=>h7 (iG e)
 simp[h7]
def eM (a b:Sd):Bool:=decide (a.th=b.th) && (decide (a.pl=b.pl) && f9 a.wh b.wh)
theorem fH {a b:Sd}:eM a b=true↔a=b:=by
 rcases a with ⟨a1,a2,a3⟩
 rcases b with ⟨b1,b2,b3⟩
 unfold eM;constructor
 ·intro h;simp only[Bool.and_eq_true,decide_eq_true_eq] at h;obtain⟨h1,h2,h3⟩:=h;rw[h1,h2];by_cases q:a3=b3
  ·rw[q]
  ·rw[BG q] at h3;cases h3
 ·intro h;injection h with h1 h2 h3;simp[h1,h2,zl h3]
theorem qd (x y:Sd) (w:World):(Op.equalIn 10000 64 (.agg (sdc x).toArray) (.agg (sdc y).toArray)).run prog w=.ok (eM x y) w:=by
 unfold eM;have hS:prog.underlying 64=some (.struct (prog.fieldsOf 64)):=by kernel_rfl
 have hp:prog.stoodInHeld 64=false:=by kernel_rfl
 have u3:=underlying3;have i3:=isAgg3;have z3:=sizeOf3;have iA:=isAgg62;have zA:=sizeOf62;have h4:=qm x.wh.wn x.wh.vb x.wh.wm x.wh.ct x.wh.su x.wh.tr x.wh.mr x.wh.nm y.wh.wn y.wh.vb y.wh.wm y.wh.ct y.wh.su y.wh.tr y.wh.mr y.wh.nm;rw[show (10000:Nat)=9999+1 from rfl,run_equalIn_agg w 9999 64 _ _ hS hp];simp only[Program.fieldsOf,underlying64,sdc];go_simp;by_cases hc:x.th=y.th
 case neg=>simp[hc]
 simp only[hc];by_cases ho:x.pl=y.pl
 case neg=>simp[ho]
 simp only[ho,if_true];show (if f9 x.wh y.wh=false then Result.ok false w else Result.ok true w)=Result.ok (true && (true && f9 x.wh y.wh)) w;cases f9 x.wh y.wh <;> rfl
theorem DW:EqlAt prog 64 (fun x=>.agg (sdc x).toArray) eM:=⟨fun x y w=>by rw[run_eql_struct,qd];rfl,GuardAt.agg _ (by kernel_rfl)⟩
theorem uu (v:Value) (S:List Sd) (x:Sd) (w:World) (A:sdR.At w v S) (h0:0<S.length):Calls prog 63 #[v,.agg (sdc x).toArray] w fun e w'=>e=.returned (.int .i64 (Lib.idxBy eM S x))∧w.grownBy w' none:=by
 haveI:Inhabited Sd:=⟨Sd.none⟩
 obtain⟨p,cap,rfl,hm,hA⟩:=A;obtain⟨g,off,rfl,hR⟩:=hA h0;have hS:=AnyQ.slices_Index indexS 10 isAgg64 sizeOf64 sdc (fun _=>rfl) eM DW g off S.length cap S x w (Qj _) (by unfold maxLen at hm;omega) (fun j hj i v hv=>hR j _ (by rw[getElem!_pos S j hj];exact Qg hj) i v hv);change Calls prog 63 _ _ _ at hS;refine hS.mono ?_;rintro e w' ⟨rfl,q,rfl⟩;rw[Qas];exact⟨rfl,aa (Qa0 w _ none) (aA _ q _)⟩
def CX (w:World) (r n:Int) (cd:Int→Hd×List Pt) (ts:List Th) (fs:List Fe) (S:List Sd) (e:Ending) (w':World):Prop:=∃ p,e=.returned (.tuple #[.int .i64 p,.int .i64 (lkE r n cd ts fs S)])∧w.grownBy w' none∧(lkE r n cd ts fs S≠0→p=0)∧∀ R L,r=0→bI n cd ts fs=some R→cH R S []=some L→if L=[] then p=-1 else ∃ L':List Se,L'.Perm L∧L'.Pairwise inS∧p=Lib.idxBy eM S (L'.getD (eO R (ay R fs) L') Se.none).s
theorem Gy (B:eD ok w b es p) (c:Int):(atC p es c).2.length≤4:=by
 unfold atC;split
 ·split
  ·rename_i e he;exact B.parts e (Qm he)
  ·exact Q0 _
 ·exact Q0 _
theorem jQ.of (B:eD ok w b es p):jQ w (.pointer (some ⟨b,0,none⟩)) (es.length:Int) (atC p es):=by
 refine⟨fun X g=>?_,fun X t g=>⟨_,oj ok b es p t X (B.keep g)⟩,Gy B⟩;exact(EU b es.length (B.keep g).lies.len p X (B.keep g).lies.flags).mono fun e w' q=>⟨q.1,q.2.1⟩
theorem LIn.of' (B:eD ok w b es p) (T:thR.At w vt ts) (F:feR.At w vf fs):LIn w (.pointer (some ⟨b,0,none⟩)) vt vf (aX p ts.length) (es.length:Int) (atC p es) ts fs:=by
 obtain⟨q,c,rfl⟩:=T.form;refine⟨fun X g=>ql ok b es p q ts.length c X (B.keep g),fun h=>⟨jQ.of B,?_⟩,T,F⟩;unfold aX at h;split at h
 ·cases h
 ·omega
theorem LIn.of (B:eD ok w b es p) (T:thR.At w vt ts) (F:feR.At w vf fs) (_:fs.length≤4096):LIn w (.pointer (some ⟨b,0,none⟩)) vt vf (aX p ts.length) (es.length:Int) (atC p es) ts fs:=LIn.of' B T F
theorem LIn.no (B:pE w v) (T:thR.At w vt ts) (F:feR.At w vf fs):LIn w v vt vf 1 0 (fun _=>(Hd.none,[])) ts fs:=by
 obtain⟨q,c,rfl⟩:=T.form;exact⟨fun X g=>ub v q ts.length c X (B.keep g),fun h=>absurd h (by decide),T,F⟩
