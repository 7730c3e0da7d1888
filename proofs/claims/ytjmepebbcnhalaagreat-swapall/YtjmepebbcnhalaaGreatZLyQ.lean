/-

-/
import Derived.Test.YtjmepebbcnhalaaGreatZ18
namespace Go.Proofs.YtjmepebbcnhalaaGreat
open Tryz
set_option maxRecDepth 100000
set_option maxHeartbeats 4000000
open Go.RowKit
variable {w w' wr:World} {bv v vr vf:Value} {n:Int} {cd:Int→Hd×List Pt} {B k base size b n0:Nat} {X:List Rv} {xs:List Value} {F fs:List Fe} {ts:List Th}

structure jQ (w:World) (bv:Value) (n:Int) (cd:Int→Hd×List Pt):Prop where
 len:∀ X,w.grownBy X none→Calls prog 251 #[bv] X fun e w'=>e=.returned (.int .i64 n)∧X.grownBy w' none
 card:∀ X t,w.grownBy X none→∃ x,Calls prog 192 #[bv,thv t] X (dw (cd t.card).1 (cd t.card).2 x X)
 few:∀ c,(cd c).2.length≤4
theorem jQ.keep (h:jQ w bv n cd) (g:w.grownBy w' none):jQ w' bv n cd:=⟨fun X q=>h.len X (aa g q),fun X t q=>h.card X t (aa g q),h.few⟩
structure RwS (w wr:World) (B k:Nat) (v:Value) (X:List Rv):Prop where
 own:BO wr B v X
 ps:∀ x∈X,bJ wr B x.u x.r.ps∧x.r.ps.length≤4
 nu:∀ x∈X,1≤x.r.nu∧x.r.nu≤(k:Int)
 few:X.length≤16
 gr:w.grownBy wr none
theorem RwS.grow {wr':World} (h:RwS w wr B k v X) (g:wr.grownBy wr' none):RwS w wr' B k v X:=⟨h.own.grow g,fun x hx=>⟨aC (h.ps x hx).1 g,(h.ps x hx).2⟩,h.nu,h.few,aa h.gr g⟩
theorem RwS.next (h:RwS w wr B k v X):RwS w wr B (k+1) v X:=⟨h.own,h.ps,fun x hx=>⟨(h.nu x hx).1,by have:=(h.nu x hx).2;omega⟩,h.few,h.gr⟩
theorem linfoR:(prog.info? 230).map (fun i=>(i.zero,i.size,i.bytes))=some (some (.agg #[.int .i64 0,.int .i64 0,.string ⟨#[]⟩,.int .u8 0,.int .u8 0,.int .i64 0,.int .i64 0,.int .i64 0,.int .u16 0,.bool false,.slice none 0 0]),11,96):=by kernel_rfl
theorem I6 (Z:World) (x:Rv):Src (Z.alloc (.cells (rvc x).toArray 230)) (.slice (some ⟨Z.heap.size,0,none⟩) 1 1) 1 11 (rvc x):=jx (cs:=(rvc x).toArray) (aj Z _ _) rfl 1
theorem iy {e n:Nat} (h:w.ownsRow base e size v n xs):∀ y,v.ownBlock=some y→∃ cs fr,w.heap[y]?=some (.cells cs e fr):=fun y hy=>by
 rcases h.2 with ⟨e1,_⟩ | ⟨g,cap,cur,e1,_,hh,_⟩
 ·rw[e1] at hy;cases hy
 ·rw[e1] at hy;cases hy;exact⟨_,_,hh⟩
theorem dS {base' e e' size' n n':Nat} {v':Value} {xs':List Value} (h:w.ownsRow base e size v n xs) (h':w.ownsRow base' e' size' v' n' xs') (hne:e'≠e) (g:w.grownBy w' v'.ownBlock):w'.ownsRow base e size v n xs:=by
 refine Qav h g ?_;cases hv:v.ownBlock with
 | none=>exact Or.inl rfl
 | some y =>
  refine Or.inr fun q=>?_;obtain⟨cs,fr,hb⟩:=iy h' y q.symm;exact bD h hb hne (by rw[hv])
theorem ib {e n:Nat} (h:w.ownsRow base e size v n xs) (g:w.grownBy w' (some b)) (hb:b<base):w'.ownsRow base e size v n xs:=by
 refine Qav h g ?_;cases hv:v.ownBlock with
 | none=>exact Or.inl rfl
 | some y=>exact Or.inr fun q=>by have:=(Qa5 h y hv).1;have q2:y=b:=Qa1 q;omega
structure TbO (w:World) (base:Nat) (vr vf:Value) (X:List Rv) (F:List Fe):Prop where
 rows:BO w base vr X
 parts:∀ x∈X,bJ w base x.u x.r.ps∧x.r.ps.length≤4
 fs:cJ w base vf F
 len:F.length=X.length
 few:X.length≤16
theorem TbO.at (h:TbO w base vr vf X F):jj w vr vf X F:=⟨aB.Own.at h.rows,fun x hx=>⟨(h.parts x hx).1.at,(h.parts x hx).2⟩,aB.Own.at h.fs,h.len,h.few⟩
theorem TbO.grow (h:TbO w base vr vf X F) (g:w.grownBy w' none):TbO w' base vr vf X F:=⟨aC h.rows g,fun x hx=>⟨aC (h.parts x hx).1 g,(h.parts x hx).2⟩,aC h.fs g,h.len,h.few⟩
theorem TbO.far (h:TbO w base vr vf X F) (g:w.grownBy w' (some b)) (hb:b<base):TbO w' base vr vf X F:=⟨ib h.rows g hb,fun x hx=>⟨ib (h.parts x hx).1 g hb,(h.parts x hx).2⟩,ib h.fs g hb,h.len,h.few⟩
theorem TbO.big {base':Nat} (h:TbO w base vr vf X F) (hb:base'≤base):TbO w base' vr vf X F:=⟨bj h.rows hb,fun x hx=>⟨bj (h.parts x hx).1 hb,(h.parts x hx).2⟩,bj h.fs hb,h.len,h.few⟩
def nv (n:Int) (cd:Int→Hd×List Pt) (ts:List Th) (fs:List Fe) (k:Nat) (X:List Rv):Prop:=dW n cd ((ts.zip fs).drop k) k (rws X)=dW n cd (ts.zip fs) 0 []
theorem BA (h:k<ts.length) (e:ts.length=fs.length):(ts.zip fs).drop k=(ts[k],fs[k]) :: (ts.zip fs).drop (k+1):=by
 rw[Qb7 (by rw[Qcl];omega),List.getElem_zip]
theorem nv.step {k:Nat} (h:nv n cd ts fs k X) (hk:k<ts.length) (e:ts.length=fs.length):dW n cd (ts.zip fs) 0 []=(if cR n ts[k]=false then none else if ts[k].place≠4 then dW n cd ((ts.zip fs).drop (k+1)) (k+1) (rws X) else if (rws X).length=16∨bq ts[k] fs[k]=false then none else if (cd ts[k].card).1.kd=2 then none else dW n cd ((ts.zip fs).drop (k+1)) (k+1) (rws X++[⟨(k:Int)+1,ts[k].stamp,(cd ts[k].card).1,(cd ts[k].card).2⟩])):=by
 unfold nv at h;rw[BA hk e] at h;rw[←h];rfl
def fR (w:World) (n:Int) (cd:Int→Hd×List Pt) (ts:List Th) (fs:List Fe) (e:Ending) (w':World):Prop:=∃ p1 m1 c1 p2 m2 c2 b,e=.returned (.tuple #[tbv (.slice p1 m1 c1) (.slice p2 m2 c2),.bool b])∧w.grownBy w' none ∧
 ((b=false∧(ts.length≠fs.length∨dW n cd (ts.zip fs) 0 []=none)) ∨
  ∃ acc X,ts.length=fs.length∧dW n cd (ts.zip fs) 0 []=some acc∧(rws X).Perm acc∧((rws X).Pairwise fun a b=>a.st≤b.st)∧b=dif (bG (rws X))∧TbO w' w.heap.size (.slice p1 m1 c1) (.slice p2 m2 c2) X (ay (rws X) fs)∧∀ x∈X,1≤x.r.nu∧x.r.nu≤(fs.length:Int))
theorem fR.no (g:w.grownBy w' none) (h:ts.length≠fs.length∨dW n cd (ts.zip fs) 0 []=none):fR w n cd ts fs (.returned (.tuple #[.agg #[.slice none 0 0,.slice none 0 0],.bool false])) w':=⟨none,0,0,none,0,0,false,rfl,g,Or.inl ⟨rfl,h⟩⟩
theorem fA (h:TbB w n0 (.slice none 0 0) (.slice none 0 0)):w.cell? ⟨n0,0,none⟩=some (.slice none 0 0)∧w.cell? ⟨n0,1,none⟩=some (.slice none 0 0):=iV h
theorem yd {n:Nat} (h:n<16):n+1≤maxLen∧(n+1)*96≤140737488355328:=by unfold maxLen;omega
theorem Ib {m:Int} (h:∀ x∈X,1≤x.r.nu∧x.r.nu≤m) {i:Nat} (hi:i<X.length):1≤((rws X).getD i Rw.none).nu∧((rws X).getD i Rw.none).nu≤m:=by rw[jD hi];exact h _ (Qab hi)
theorem Ds (bv vt vf:Value) (n:Int) (cd:Int→Hd×List Pt) (ts:List Th) (fs:List Fe) (w:World) (B:jQ w bv n cd) (A:thR.At w vt ts) (C:feR.At w vf fs) (hl:ts.length≤2048):Calls prog 130 #[bv,vt,vf] w (fR w n cd ts fs):=by
 obtain⟨i0,hi,hz0,hz1,hz2⟩:=info_parts linfoR;obtain⟨pt,ct,rfl⟩:=A.form;obtain⟨pf,cf,rfl⟩:=C.form;obtain⟨W1,hW1⟩:=Qe (w.alloc (.cells #[.slice none 0 0,.slice none 0 0] 125));have HG1:QH (w.grownBy W1 none):=by rw[hW1];exact QG
 have HR:QH (TbB W1 w.heap.size (.slice none 0 0) (.slice none 0 0)):=by rw[hW1];exact aj w _ _
 have HB:QH (jQ W1 bv n cd):=B.keep HG1.o;have HA:QH (thR.At W1 (.slice pt ts.length ct) ts):=A.keep HG1.o;have HC:QH (feR.At W1 (.slice pf fs.length cf) fs):=C.keep HG1.o;have Hl:QH (ts.length≤2048):=hl;have Hm:QH (ts.length=fs.length→fs.length≤4096):=fun e=>by omega
 clear A B C hl;go_enter func130,ntmps130;go_upto_region 1 with fail;rw[←hW1];clear hW1;obtain⟨n0,h0⟩:=Qe (w.heap.size);have Hn0:QH (w.heap.size≤n0∧n0<W1.heap.size):=⟨by rw[h0];exact Qj _,by rw[h0];exact aY HR.o⟩
 simp only[←h0] at HR ⊢;clear h0;by_cases he:ts.length=fs.length
 ·have e1:((ts.length:Int) != (fs.length:Int))=false:=by rw[he];simp
  have He:QH (ts.length=fs.length):=he;clear he;go_wp2_with fail;clear e1;go_loopw [8,21] (fun v i wr=>∃ (k:Nat) (X:List Rv),k≤ts.length∧i=.int .i64 (k:Int)∧QH (RwS W1 wr W1.heap.size k v X)∧QH (nv n cd ts fs k X)) (fun _ i _=>ts.length - (intOf i).toNat)
  case atStart=>exact⟨0,[],Q0 _,rfl,⟨aB.Own.nil _ _ _ _,fun x hx=>(by cases hx),fun x hx=>(by cases hx),Q0 _,aw _ _⟩,rfl⟩
  case round =>
   obtain⟨k,X,hk,rfl,HS,HI⟩:=hrel;obtain⟨U,hU⟩:=Qe (wr);subst hU;obtain⟨q,cq,rfl⟩:=HS.o.own.form;by_cases hlt:k<ts.length
   ·have hkf:k<fs.length:=(by rw[←He.o];exact hlt);obtain⟨g,off,cap,e1,R⟩:=bz (HA.o.keep HS.o.gr) hlt;cases e1;obtain⟨gf,fof,fcap,e2,RF⟩:=dh (HC.o.keep HS.o.gr) hkf;cases e2;have HStep:QH (_=_):=HI.o.step hlt He.o;obtain⟨t,ht⟩:=Qe (ts[k]);obtain⟨f,hf⟩:=Qe (fs[k]);rw[←ht,←hf] at HStep;rw[←ht] at R;rw[←hf] at RF;obtain⟨c0,c1,c2,c3,c4,c5,c6,c7,c8,c9,c10⟩:=aZ R;obtain⟨V,hV⟩:=Qe (U.alloc (.cells #[.int .i64 t.card,.int .i64 t.owner,.int .u8 t.place,.int .i64 t.stamp,.int .i64 t.hurt,.int .i64 t.m0,.int .i64 t.m1,.int .i64 t.m2,.int .i64 t.m3,.int .i64 t.done,.bool t.fresh] 120));have HGV:QH (U.grownBy V none):=(by rw[hV];exact QG);have HBt:QH (ThB V U.heap.size t):=(by rw[hV];exact aj _ _ _);have HSV:QH (RwS W1 V W1.heap.size k (.slice q X.length cq) X):=HS.o.grow HGV.o;have HRF:QH (V.rangeAt gf (fof+k*5) (fec f)):=bQ RF HGV.o;have HMb:=xW bv t n V (fun Y g=>HB.o.len Y (aa HSV.o.gr g));obtain⟨mb,hmb⟩:=Qe (cR n t);rw[←hmb] at HMb HStep;unfold thv at HMb;have hlt':(k:Int)<ts.length:=Int.ofNat_lt.2 hlt;have hkf':(k:Int)<fs.length:=Int.ofNat_lt.2 hkf;have hwk:=aR (k:=k) (Ql (Qaf hlt) (Ql Hl.o (by decide)));have Hlt:QH (k<ts.length):=hlt;have HM:QH (ts.length - (intOf (.int .i64 ((k:Int)+1))).toNat<ts.length - (intOf (.int .i64 (k:Int))).toNat):=cj hlt;clear R RF ht hf hmb hlt hkf hk HS HI;go_upto_region 7 with fail;rw[←hV];obtain⟨nb,hnb⟩:=Qe (U.heap.size);rw[←hnb] at HBt ⊢;clear hV hnb c0 c1 c2 c3 c4 c5 c6 c7 c8 c9 c10;obtain⟨x0,x1,x2,x3,x4,x5,x6,x7,x8,x9,x10⟩:=dD HBt.o;go_wp2_with fail;refine HMb.mono ?_;rintro e4 w4 ⟨rfl,g4⟩;have HG4:QH (V.grownBy w4 none):=g4;have HS4:QH (RwS W1 w4 W1.heap.size k (.slice q X.length cq) X):=HSV.o.grow g4;have HB4:QH (ThB w4 nb t):=ag g4 HBt.o (by simp);have HR4:QH (TbB w4 n0 (.slice none 0 0) (.slice none 0 0)):=ag HS4.o.gr HR.o (by simp);clear g4 HMb x0 x1 x2 x3 x4 x5 x6 x7 x8 x9 x10;cases mb with
    | false =>
     have HX:QH (dW n cd (ts.zip fs) 0 []=none):=(by show _=_;rw[HStep.o,if_pos rfl]);obtain⟨r0,r1⟩:=fA HR4.o;have rf:=fun i=>aq HR4.o i;go_wp2_with fail;refine bodyPost_ret (v:=.tuple #[.agg #[.slice none 0 0,.slice none 0 0],.bool false]) (by simp[results,results130,go_sem,r0,r1]) rfl (fR.no ?_ (Or.inr HX.o));exact ar (ar (aa HG1.o HS4.o.gr) Hn0.o.1 _ _) Hn0.o.1 _ _
    | true =>
     have x2:=(dD HB4.o).2.2.1;by_cases hp:t.place=4
     ·have e4:(t.place != 4)=false:=(by simpa using hp);have Hp:QH (t.place=4):=hp;clear hp;go_upto_region 10 with fail;clear x2;obtain⟨x0,x1,x2,x3,x4,x5,x6,x7,x8,x9,x10⟩:=dD HB4.o;obtain⟨f0,f1,f2,f3,f4⟩:=bP (bQ HRF.o HG4.o);by_cases h16:X.length=16
      ·have e5:((X.length:Int) == 16)=true:=(by rw[h16];rfl);have HX:QH (dW n cd (ts.zip fs) 0 []=none):=(by show _=_;rw[HStep.o,if_neg (by decide),if_neg (fun q=>q Hp.o),if_pos (Or.inl (by rw[fP];exact h16))]);clear h16 x0 x1 x2 x3 x4 x5 x6 x7 x8 x9 x10 f0 f1 f2 f3 f4;refine wp_region_held_drew (S:=fun w'=>w4.grownBy w' none) (by kernel_rfl) (ai _) (fun hHeld=>?_);refine QZ 0 rfl ?_;go_frame;refine QZ 1 rfl ?_;go_frame;refine QZ 2 rfl ?_;go_frame;refine QZ 3 rfl ?_;go_frame;refine QN 4 rfl ?_;go_frame;refine QN 5 rfl ?_;go_frame;refine QN 6 rfl ?_;go_frame;refine QN 7 rfl ?_;go_frame;refine QN 8 rfl ?_;go_frame;refine QR 9 rfl (fun K hK=>?_);rw[if_neg (Bool.eq_false_iff.1 (by rfl))];refine hK.out _ _ (by assumption) (fun hHeld2=>?_);clear hK K;(try go_frame);refine QN 10 rfl ?_;go_frame;refine QZ 11 rfl ?_;go_frame;refine QZ 12 rfl ?_;go_frame;refine QD ?_;obtain⟨D4,hD4⟩:=Qe (w4.drew);have HRZ:QH (TbB D4 n0 (.slice none 0 0) (.slice none 0 0)):=(by rw[hD4];exact HR4.o);have HGZ:QH (W1.grownBy D4 none):=(by rw[hD4];exact aa HS4.o.gr (ai _));rw[←hD4];clear hHeld hD4;obtain⟨r0,r1⟩:=fA HRZ.o;have rf:=fun i=>aq HRZ.o i;go_wp2_with fail;refine bodyPost_ret (v:=.tuple #[.agg #[.slice none 0 0,.slice none 0 0],.bool false]) (by simp[results,results130,go_sem,r0,r1]) rfl (fR.no ?_ (Or.inr HX.o));exact ar (ar (aa HG1.o HGZ.o) Hn0.o.1 _ _) Hn0.o.1 _ _
      ·have e5:((X.length:Int) == 16)=false:=(by simp;omega);have Hx16:QH (X.length<16):=(by have:=HS4.o.few;show _<_;omega);have HMl:=ur t f w4.drew;obtain⟨ml,hml⟩:=Qe (bq t f);rw[←hml] at HMl HStep;unfold thv fev at HMl;clear hml h16;refine wp_region_held_drew (S:=fun w'=>w4.grownBy w' none) (by kernel_rfl) (ai _) (fun hHeld=>?_);refine QZ 0 rfl ?_;go_frame;refine QZ 1 rfl ?_;go_frame;refine QZ 2 rfl ?_;go_frame;refine QZ 3 rfl ?_;go_frame;refine QT 4 rfl (by intro w0 hSw;have x0:=QK hSw x0;have x1:=QK hSw x1;have x2:=QK hSw x2;have x3:=QK hSw x3;have x4:=QK hSw x4;have x5:=QK hSw x5;have x6:=QK hSw x6;have x7:=QK hSw x7;have x8:=QK hSw x8;have x9:=QK hSw x9;have x10:=QK hSw x10;go_simp;try with_reducible rfl) ?_;go_frame;refine QZ 5 rfl ?_;go_frame;refine QZ 6 rfl ?_;go_frame;refine QZ 7 rfl ?_;go_frame;refine QT 8 rfl (by intro w0 hSw;have f0:=QK hSw f0;have f1:=QK hSw f1;have f2:=QK hSw f2;have f3:=QK hSw f3;have f4:=QK hSw f4;go_simp;try with_reducible rfl) ?_;go_frame;refine QR 9 rfl (fun K hK=>?_);rw[if_pos (by rfl)];go_simp;go_at_call 191;refine(HMl).mono ?_;rintro e5' w5 ⟨rfl,g5⟩;have HG5:QH (w4.grownBy w5 none):=aa (ai _) g5;clear g5 HMl;refine hK.out _ _ (HG5.o) (fun hHeld2=>?_);clear hK K;(try go_frame);refine QZ 10 rfl ?_;go_frame;refine QZ 11 rfl ?_;go_frame;refine QZ 12 rfl ?_;go_frame;refine QD ?_;clear hHeld hHeld2 x0 x1 x2 x3 x4 x5 x6 x7 x8 x9 x10 f0 f1 f2 f3 f4;cases ml with
       | false =>
        have HX:QH (dW n cd (ts.zip fs) 0 []=none):=(by show _=_;rw[HStep.o,if_neg (by decide),if_neg (fun q=>q Hp.o),if_pos (Or.inr rfl)]);have HRZ:QH (TbB w5 n0 (.slice none 0 0) (.slice none 0 0)):=ag HG5.o HR4.o (by simp);have HGZ:QH (W1.grownBy w5 none):=aa HS4.o.gr HG5.o;obtain⟨r0,r1⟩:=fA HRZ.o;have rf:=fun i=>aq HRZ.o i;go_wp2_with fail;refine bodyPost_ret (v:=.tuple #[.agg #[.slice none 0 0,.slice none 0 0],.bool false]) (by simp[results,results130,go_sem,r0,r1]) rfl (fR.no ?_ (Or.inr HX.o));exact ar (ar (aa HG1.o HGZ.o) Hn0.o.1 _ _) Hn0.o.1 _ _
       | true =>
        have HB5:QH (ThB w5 nb t):=ag HG5.o HB4.o (by simp);have HS5:QH (RwS W1 w5 W1.heap.size k (.slice q X.length cq) X):=HS4.o.grow HG5.o;obtain⟨x,HCd⟩:=HB.o.card w5 t HS5.o.gr;have hfew:=HB.o.few t.card;obtain⟨h,hh⟩:=Qe ((cd t.card).1);obtain⟨ps,hps⟩:=Qe ((cd t.card).2);rw[←hh,←hps] at HCd;rw[←hh,←hps] at HStep;rw[←hps] at hfew;have Hfew:QH (ps.length≤4):=hfew;unfold dw cv thv at HCd;obtain⟨x0,x1,x2,x3,x4,x5,x6,x7,x8,x9,x10⟩:=dD HB5.o;clear hh hps hfew;go_wp2_with fail;refine HCd.mono ?_;rintro e6 w6 ⟨u,rfl,o6,g6⟩;obtain⟨a2,k2,rfl⟩:=o6.at.form;obtain⟨V7,hV7⟩:=Qe (w6.alloc (.cells #[.string h.nm,.int .u8 h.su,.int .u8 h.kd,.int .i64 h.co,.int .i64 h.po,.int .i64 h.he,.int .u16 h.tr,.bool h.tk,.slice a2 ps.length k2] 111));have HG7:QH (w5.grownBy V7 none):=(by rw[hV7];exact am g6 _);have HS7:QH (RwS W1 V7 W1.heap.size k (.slice q X.length cq) X):=HS5.o.grow HG7.o;have HPO:QH (bJ V7 W1.heap.size (.slice a2 ps.length k2) ps):=(by show bJ _ _ _ _;rw[hV7];exact bj (aC o6 QG) HS5.o.gr.size);have HK7:QH (V7.heap[w6.heap.size]?=some (.cells #[.string h.nm,.int .u8 h.su,.int .u8 h.kd,.int .i64 h.co,.int .i64 h.po,.int .i64 h.he,.int .u16 h.tr,.bool h.tk,.slice a2 ps.length k2] 111 (0,0))):=(by rw[hV7];exact aj _ _ _);have HB7:QH (ThB V7 nb t):=ag HG7.o HB5.o (by simp);have HR7:QH (TbB V7 n0 (.slice none 0 0) (.slice none 0 0)):=ag HS7.o.gr HR.o (by simp);clear HCd o6 g6 x0 x1 x2 x3 x4 x5 x6 x7 x8 x9 x10;go_upto_region 13 with fail;rw[←hV7];obtain⟨nc,hnc⟩:=Qe (w6.heap.size);rw[←hnc] at HK7 ⊢;clear hV7 hnc;have d2:=QS (ae HK7.o 2) (.int .u8 h.kd) rfl;by_cases hkd:h.kd=2
        ·have HX:QH (dW n cd (ts.zip fs) 0 []=none):=(by show _=_;rw[HStep.o,if_neg (by decide),if_neg (fun q=>q Hp.o),if_neg (fun q=>by rcases q with q | q;(rw[fP] at q;have:=Hx16.o;omega);cases q),if_pos hkd]);have e7:(h.kd == 2)=true:=(by simpa using hkd);have HRZ:QH (TbB V7 n0 (.slice none 0 0) (.slice none 0 0)):=HR7.o;have HGZ:QH (W1.grownBy V7 none):=HS7.o.gr;clear hkd;obtain⟨r0,r1⟩:=fA HRZ.o;have rf:=fun i=>aq HRZ.o i;go_wp2_with fail;refine bodyPost_ret (v:=.tuple #[.agg #[.slice none 0 0,.slice none 0 0],.bool false]) (by simp[results,results130,go_sem,r0,r1]) rfl (fR.no ?_ (Or.inr HX.o));exact ar (ar (aa HG1.o HGZ.o) Hn0.o.1 _ _) Hn0.o.1 _ _
        ·have e7:(h.kd == 2)=false:=(by simpa using hkd);obtain⟨xr,hxr⟩:∃ xr:Rv,xr=⟨⟨(k:Int)+1,t.stamp,h,ps⟩,a2,k2⟩:=⟨_,rfl⟩
         have HX:QH (nv n cd ts fs (k+1) (X++[xr])):=by
          show dW _ _ _ _ _=_;rw[HStep.o,if_neg (by decide),if_neg (fun q=>q Hp.o),if_neg (fun q=>by rcases q with q | q;(rw[fP] at q;have:=Hx16.o;omega);cases q),if_neg hkd];unfold rws;rw[Qbb,hxr];rfl
         have HLn:QH (X.length+1≤maxLen∧(X.length+1)*96≤140737488355328):=yd Hx16.o;have HO7:QH (V7.ownsRow W1.heap.size 230 11 (.slice q X.length cq) X.length (rvR.cs X)):=HS7.o.own;have HXr:QH (rvc xr=[.int .i64 ((k:Int)+1),.int .i64 t.stamp,.string h.nm,.int .u8 h.su,.int .u8 h.kd,.int .i64 h.co,.int .i64 h.po,.int .i64 h.he,.int .u16 h.tr,.bool h.tk,.slice a2 ps.length k2]):=(by rw[hxr];rfl);have HSrc:QH (Src (V7.alloc (.cells #[.int .i64 ((k:Int)+1),.int .i64 t.stamp,.string h.nm,.int .u8 h.su,.int .u8 h.kd,.int .i64 h.co,.int .i64 h.po,.int .i64 h.he,.int .u16 h.tr,.bool h.tk,.slice a2 ps.length k2] 230)) (.slice (some ⟨V7.heap.size,0,none⟩) 1 1) 1 11 (rvc xr)):=(by rw[hxr];exact I6 V7 _);have d0:=QS (ae HK7.o 0) (.string h.nm) rfl;have d1:=QS (ae HK7.o 1) (.int .u8 h.su) rfl;have d3:=QS (ae HK7.o 3) (.int .i64 h.co) rfl;have d4:=QS (ae HK7.o 4) (.int .i64 h.po) rfl;have d5:=QS (ae HK7.o 5) (.int .i64 h.he) rfl;have d6:=QS (ae HK7.o 6) (.int .u16 h.tr) rfl;have d7:=QS (ae HK7.o 7) (.bool h.tk) rfl;have d8:=QS (ae HK7.o 8) (.slice a2 ps.length k2) rfl;have y3:=(dD HB7.o).2.2.2.1;have Hxr:QH (xr=⟨⟨(k:Int)+1,t.stamp,h,ps⟩,a2,k2⟩):=hxr;clear hkd hxr;go_wp2_with (at_builtin;refine br (by rfl) (.tmp 60) (.tmp 67) 123 rfl W1.heap.size 230 i0 _ 11 96 underlying123 hi hz0 hz1 hz2 rfl (by decide) _ X.length (rvR.cs X) rfl (Qaq HO7.o _) _ 1 (rvc xr) rfl HSrc.o (uc xr) HLn.o.1 HLn.o.2 (by rw[Qa3];exact Qca HS7.o.gr.size) ?_;intro v8 w8 o8 g8 _;have HO8:QH _:=o8;have HG8:QH _:=g8;clear o8 g8)
         have HS8:QH (RwS W1 w8 W1.heap.size (k+1) v8 (X++[xr])):=by
          have hs9:=HS7.o.grow (Qa0 V7 (.cells #[.int .i64 ((k:Int)+1),.int .i64 t.stamp,.string h.nm,.int .u8 h.su,.int .u8 h.kd,.int .i64 h.co,.int .i64 h.po,.int .i64 h.he,.int .u16 h.tr,.bool h.tk,.slice a2 ps.length k2] 230) none);refine⟨aB.more HO8.o rfl,fun x hx=>?_,fun x hx=>?_,by rw[Qa,Qax];have:=Hx16.o;omega,ak (am HS7.o.gr _) HG8.o (fun y e=>(Qa5 HO7.o y e).1)⟩
          ·rcases Qd2.1 hx with hx | hx
           ·exact⟨dS (hs9.ps x hx).1 hs9.own (by decide) HG8.o,(hs9.ps x hx).2⟩
           ·rw[Qby.1 hx,Hxr.o];exact⟨dS (aC HPO.o QG) hs9.own (by decide) HG8.o,Hfew.o⟩
          ·rcases Qd2.1 hx with hx | hx
           ·have:=HS7.o.nu x hx;exact⟨this.1,by have:=this.2;omega⟩
           ·rw[Qby.1 hx,Hxr.o];exact⟨by show (1:Int)≤(k:Int)+1;omega,by show (k:Int)+1≤_;omega⟩
         clear HO8 HG8;go_roundw
         case rel=>exact⟨k+1,X++[xr],Hlt.o,by first | rfl | (rw[hwk];rfl) | go_num,HS8.o,HX.o⟩
         case measure=>first | exact HM.o | (rw[hwk];exact HM.o)
     ·have e4:(t.place != 4)=true:=(by simpa using hp);have HX:QH (nv n cd ts fs (k+1) X):=(by show dW _ _ _ _ _=_;rw[HStep.o,if_neg (by decide),if_pos hp]);clear hp;go_wp2_with fail;go_roundw
      case rel=>exact⟨k+1,X,Hlt.o,by first | rfl | (rw[hwk];rfl) | go_num,HS4.o.next,HX.o⟩
      case measure=>first | exact HM.o | (rw[hwk];exact HM.o)
   ·obtain rfl:k=ts.length:=Qag hk (Qac hlt)
    have HX:QH (dW n cd (ts.zip fs) 0 []=some (rws X)):=by
     have q:=HI.o;unfold nv at q;rw[Qbl (by rw[Qcl,He.o];simp)] at q;exact q.symm
    have HSo:=sF _ X W1.heap.size U HS.o.own HS.o.few;have HU:QH (RwS W1 U W1.heap.size ts.length (.slice q X.length cq) X):=HS.o;clear HS HI hlt hk;go_wp2_with fail;refine HSo.mono ?_;rintro e5 w5 ⟨rfl,X',hp,hso,o5,g5⟩;have HP:QH (X'.Perm X):=hp;have Hso:QH ((rws X').Pairwise fun a b=>a.st≤b.st):=(by show List.Pairwise _ _;unfold rws;rw[Qbm];exact hso);have hlen:X'.length=X.length:=hp.length_eq;have HG5:QH (W1.grownBy w5 none):=ak HU.o.gr g5 (fun y e=>(Qa5 HU.o.own y e).1);have HO5:QH (BO w5 W1.heap.size (.slice q X.length cq) X'):=o5;have HPs:QH (∀ x∈X',bJ w5 W1.heap.size x.u x.r.ps∧x.r.ps.length≤4):=fun x hx=>⟨dS (HU.o.ps x (hp.mem_iff.1 hx)).1 HU.o.own (by decide) g5,(HU.o.ps x (hp.mem_iff.1 hx)).2⟩
    have HNu:QH (∀ x∈X',1≤x.r.nu∧x.r.nu≤(fs.length:Int)):=fun x hx=>by rw[←He.o];exact HU.o.nu x (hp.mem_iff.1 hx)
    have H16:QH (X'.length≤16):=(by show _≤_;rw[hlen];exact HU.o.few);have HPk:=AI (.slice q X.length cq) _ X' fs w5 o5.at (HC.o.keep HG5.o) (fun i hi=>Ib HNu.o hi) (Hm.o He.o) H16.o;clear HSo hp hso o5 g5 hlen;go_wp2_with fail;refine HPk.mono ?_;rintro e6 w6 ⟨v6,rfl,o6,g6⟩;have HG6:QH (w5.grownBy w6 none):=g6;have HO6:QH (cJ w6 w5.heap.size v6 (ay (rws X') fs)):=o6;obtain⟨p6,c6,rfl⟩:=o6.form;have HSt:=sP (.slice q X.length cq) X' w6 (HO5.o.at.keep g6) H16.o;obtain⟨dd,hdd⟩:=Qe (dif (bG (rws X')));have Hdd:QH (dd=dif (bG (rws X'))):=hdd;rw[←hdd] at HSt;obtain⟨pn,hpn⟩:=Qe ((ay (rws X') fs).length);rw[←hpn] at HO6 ⊢;have HO6':QH (w6.ownsRow w5.heap.size 122 5 (.slice p6 pn c6) (ay (rws X') fs).length (feR.cs (ay (rws X') fs))):=HO6.o;clear HPk o6 g6 hdd hpn;go_wp2_with fail;refine HSt.mono ?_;rintro e7 w7 ⟨rfl,g7⟩;have HG7:QH (w6.grownBy w7 none):=g7;have HGW:QH (W1.grownBy w7 none):=aa HG5.o (aa HG6.o g7);obtain⟨r0,r1⟩:=fA (show TbB w7 n0 _ _ from ag HGW.o HR.o (by simp));have rf:=fun i=>aq (show TbB w7 n0 _ _ from ag HGW.o HR.o (by simp)) i;clear HSt g7;go_wp2_with fail;refine bodyPost_ret (v:=.tuple #[.agg #[.slice q X.length cq,.slice p6 pn c6],.bool dd]) (by simp[results,results130,go_sem,r0,r1]) rfl ⟨_,_,_,_,_,_,dd,rfl,?_,Or.inr ⟨rws X,X',He.o,HX.o,?_,Hso.o,Hdd.o,?_,HNu.o⟩⟩
    ·exact ar (ar (aa HG1.o HGW.o) Hn0.o.1 _ _) Hn0.o.1 _ _
    ·exact HP.o.map _
    ·have q1:=aa (al w7 n0 0 (.slice q X.length cq)) (al (w7.setCell ⟨n0,0,none⟩ (.slice q X.length cq)) n0 1 (.slice p6 pn c6));have q67:=aa HG6.o HG7.o;exact⟨bj (ib (aC HO5.o q67) q1 Hn0.o.2) HG1.o.size,fun x hx=>⟨bj (ib (aC (HPs.o x hx).1 q67) q1 Hn0.o.2) HG1.o.size,(HPs.o x hx).2⟩,bj (ib (aC HO6'.o HG7.o) q1 (Qal Hn0.o.2 HG5.o.size)) (Ql HG1.o.size HG5.o.size),by unfold ay;rw[Qa9,fP],H16.o⟩
 ·have e1:((ts.length:Int) != (fs.length:Int))=true:=by simp;omega
  obtain⟨r0,r1⟩:=fA HR.o;have rf:=fun i=>aq HR.o i;have He:QH (ts.length≠fs.length):=he;clear he;go_wp2_with fail;refine bodyPost_ret (v:=.tuple #[.agg #[.slice none 0 0,.slice none 0 0],.bool false]) (by simp[results,results130,go_sem,r0,r1]) rfl (fR.no ?_ (Or.inl He.o));exact ar (ar HG1.o Hn0.o.1 _ _) Hn0.o.1 _ _
