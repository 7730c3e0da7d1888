import Derived.Test.YtjmepebbcnhalaaGreatZ20
namespace Go.Proofs.YtjmepebbcnhalaaGreat
open Tryz
set_option maxRecDepth 100000
set_option maxHeartbeats 4000000
open Go.RowKit
variable {R:List Rw} {S:List Sd} {k:Nat} {L:List Se} {w w':World} {n r:Int} {cd:Int→Hd×List Pt} {ts:List Th} {fs:List Fe} {bv vt vf:Value}
def Aq (R:List Rw) (S:List Sd) (k:Nat) (L:List Se):Prop:=cH R (S.drop k) L=cH R S []
theorem Aq.step (h:Aq R S k L) (hk:k<S.length):cH R S []=(match dZ R S[k] with | some e=>if eV e L then cH R (S.drop (k+1)) (L++[e]) else none | none=>none):=by
 unfold Aq at h;rw[Qb7 hk] at h;rw[←h];rfl
theorem vv {n:Nat} (h:n≤4096):n+1≤maxLen∧(n+1)*64≤140737488355328:=by unfold maxLen;omega
def lG (w:World) (R:List Rw) (S:List Sd) (e:Ending) (w':World):Prop:=∃ p m c b,e=.returned (.tuple #[.slice p m c,.bool b])∧w.grownBy w' none∧b=(cH R S []).isSome∧∀ L,cH R S []=some L→iO w' w.heap.size (.slice p m c) L
theorem lG.no (h:cH R S []=none) (g:w.grownBy w' none):lG w R S (.returned (.tuple #[.slice none 0 0,.bool false])) w':=⟨none,0,0,false,rfl,g,by rw[h];rfl,fun L q=>by rw[h] at q;cases q⟩
theorem zz (vr vf v:Value) (X:List Rv) (F:List Fe) (S:List Sd) (w:World) (T:jj w vr vf X F) (A:sdR.At w v S) (hl:S.length≤4096):Calls prog 131 #[tbv vr vf,v] w (lG w (rws X) S):=by
 obtain⟨i0,hi,hz0,hz1,hz2⟩:=info_parts linfoS;obtain⟨pr,cr,rfl⟩:=T.rows.form;obtain⟨pf,cf,rfl⟩:=T.fs.form;obtain⟨pl,cl,rfl⟩:=A.form;obtain⟨W1,hW1⟩:=Qe (w.alloc (.cells #[.slice pr X.length cr,.slice pf F.length cf] 125));have HG1:QH (w.grownBy W1 none):=by rw[hW1];exact QG
 have HB:QH (TbB W1 w.heap.size (.slice pr X.length cr) (.slice pf F.length cf)):=by rw[hW1];exact aj w _ _
 have HT:QH (jj W1 (.slice pr X.length cr) (.slice pf F.length cf) X F):=T.keep HG1.o;have HA:QH (sdR.At W1 (.slice pl S.length cl) S):=A.keep HG1.o;have Hl:QH (S.length≤4096):=hl;unfold tbv;clear T A hl;go_enter func131,ntmps131;go_upto_region 1 with fail;rw[←hW1];clear hW1;obtain⟨n0,h0⟩:=Qe (w.heap.size);simp only[←h0] at HB ⊢;clear h0;go_wp2_with fail;go_loopw [6,13] (fun v i wr=>∃ (k:Nat) (L:List Se),k≤S.length∧i=.int .i64 (k:Int)∧QH (iO wr W1.heap.size v L∧L.length≤k∧W1.grownBy wr none)∧QH (Aq (rws X) S k L)) (fun _ i _=>S.length - (intOf i).toNat)
 case atStart=>exact⟨0,[],Q0 _,rfl,⟨aB.Own.nil _ _ _ _,Qj _,aw _ _⟩,rfl⟩
 case round =>
  obtain⟨k,L,hk,rfl,HO,HI⟩:=hrel;obtain⟨U,hU⟩:=Qe (wr);subst hU;obtain⟨q,cq,rfl⟩:=HO.o.1.form;by_cases hlt:k<S.length
  ·obtain⟨g,off,cap,e1,R⟩:=eG (HA.o.keep HO.o.2.2) hlt;cases e1;have HStep:QH (_=_):=HI.o.step hlt;obtain⟨s,hs⟩:=Qe (S[k]);rw[←hs] at R HStep;obtain⟨c0,c1,c2,c3,c4,c5,c6,c7,c8,c9⟩:=bu R;obtain⟨V,hV⟩:=Qe (U.alloc (.cells #[.int .i64 s.th,.int .i64 s.pl,.int .u8 s.wh.wn,.int .u8 s.wh.vb,.int .u8 s.wh.wm,.int .i64 s.wh.ct,.int .u8 s.wh.su,.int .u8 s.wh.tr,.int .u8 s.wh.mr,.string s.wh.nm] 64));have HGV:QH (U.grownBy V none):=(by rw[hV];exact QG);have HBs:QH (SdB V U.heap.size s):=(by rw[hV];exact aj _ _ _);have HOV:QH (iO V W1.heap.size (.slice q L.length cq) L∧L.length≤k∧W1.grownBy V none):=⟨HO.o.1.grow HGV.o,HO.o.2.1,aa HO.o.2.2 HGV.o⟩
   have hlt':(k:Int)<S.length:=Int.ofNat_lt.2 hlt;have Hlt:QH (k<S.length):=hlt;have hwk:=aR (k:=k) (Ql (Qaf hlt) Hl.o);have HM:QH (S.length - (intOf (.int .i64 ((k:Int)+1))).toNat<S.length - (intOf (.int .i64 (k:Int))).toNat):=cj hlt;have HFd:=zZ _ _ X F s V (HT.o.keep HOV.o.2.2);unfold lN tbv sdv at HFd;obtain⟨a0,a1⟩:=iV (show TbB V n0 _ _ from ag HOV.o.2.2 HB.o (by simp));clear hs R hlt hk HO HI;go_upto_region 5 with fail;rw[←hV];obtain⟨nb,hnb⟩:=Qe (U.heap.size);rw[←hnb] at HBs ⊢;clear hV hnb c0 c1 c2 c3 c4 c5 c6 c7 c8 c9;obtain⟨s0,s1,s2,s3,s4,s5,s6,s7,s8,s9⟩:=aQ HBs.o;cases hff:dZ (rws X) s with
   | none =>
    have HX:QH (cH (rws X) S []=none):=(by show _=_;rw[HStep.o,hff]);rw[hff] at HFd;unfold sev at HFd;simp only[Option.getD_none,Option.isSome_none] at HFd;clear hff;go_wp2_with (go_at_call 197;refine HFd.mono ?_;rintro e5 w5 ⟨rfl,g5⟩;have HG5:QH (V.grownBy w5 none):=g5;clear HFd g5 a0 a1 s0 s1 s2 s3 s4 s5 s6 s7 s8 s9)
    go_ret2;exact lG.no HX.o (am (aa HG1.o (aa HOV.o.2.2 HG5.o)) _)
   | some e =>
    rw[hff] at HFd;unfold sev at HFd;simp only[Option.getD_some,Option.isSome_some] at HFd;have HSt2:QH (cH (rws X) S []=if eV e L then cH (rws X) (S.drop (k+1)) (L++[e]) else none):=(by show _=_;rw[HStep.o,hff]);clear hff;go_wp2_with fail;refine HFd.mono ?_;rintro e5 w5 ⟨rfl,g5⟩;obtain⟨V6,hV6⟩:=Qe (w5.alloc (.cells #[.int .i64 e.s.th,.int .i64 e.s.pl,.int .u8 e.s.wh.wn,.int .u8 e.s.wh.vb,.int .u8 e.s.wh.wm,.int .i64 e.s.wh.ct,.int .u8 e.s.wh.su,.int .u8 e.s.wh.tr,.int .u8 e.s.wh.mr,.string e.s.wh.nm,.int .i64 (e.ro:Int)] 131));have HG6:QH (V.grownBy V6 none):=(by rw[hV6];exact am g5 _);have HO6:QH (iO V6 W1.heap.size (.slice q L.length cq) L∧L.length≤k∧W1.grownBy V6 none):=⟨HOV.o.1.grow HG6.o,HOV.o.2.1,aa HOV.o.2.2 HG6.o⟩
    have HBe:QH (SeB V6 w5.heap.size e):=(by rw[hV6];exact aj _ _ _);have HJ:=xA e (.slice q L.length cq) L V6 HO6.o.1.at (Ql HOV.o.2.1 (Ql (Qaf Hlt.o) Hl.o));obtain⟨jb,hjb⟩:=Qe (eV e L);rw[←hjb] at HJ HSt2;unfold sev at HJ;clear HFd g5 a0 a1 s0 s1 s2 s3 s4 s5 s6 s7 s8 s9 hjb;go_upto_region 6 with fail;rw[←hV6];obtain⟨nc,hnc⟩:=Qe (w5.heap.size);rw[←hnc] at HBe ⊢;clear hV6 hnc;obtain⟨o0,o1,o2,o3,o4,o5,o6,o7,o8,o9,o10⟩:=pH HBe.o;cases jb with
    | false =>
     have HX:QH (cH (rws X) S []=none):=HSt2.o;go_wp2_with (go_at_call 198;refine HJ.mono ?_;rintro e7 w7 ⟨rfl,g7⟩;have HG7:QH (V6.grownBy w7 none):=g7;clear HJ g7 o0 o1 o2 o3 o4 o5 o6 o7 o8 o9 o10)
     go_ret2;exact lG.no HX.o (aa HG1.o (aa HO6.o.2.2 HG7.o))
    | true =>
     have HX:QH (Aq (rws X) S (k+1) (L++[e])):=HSt2.o.symm;go_wp2_with fail;refine HJ.mono ?_;rintro e7 w7 ⟨rfl,g7⟩;have HG7:QH (V6.grownBy w7 none):=g7;have HO7:QH (w7.ownsRow W1.heap.size 131 11 (.slice q L.length cq) L.length (seR.cs L)):=HO6.o.1.grow g7;have HGW:QH (W1.grownBy w7 none):=aa HO6.o.2.2 g7;have HBe7:QH (SeB w7 nc e):=ag g7 HBe.o (by simp);have HLn:QH (L.length+1≤maxLen∧(L.length+1)*64≤140737488355328):=vv (Ql HOV.o.2.1 (Ql (Qaf Hlt.o) Hl.o));clear HJ g7 o0 o1 o2 o3 o4 o5 o6 o7 o8 o9 o10;obtain⟨o0,o1,o2,o3,o4,o5,o6,o7,o8,o9,o10⟩:=pH HBe7.o;go_wp2_with (at_builtin;refine br (by rfl) (.tmp 31) (.tmp 33) 126 rfl W1.heap.size 131 i0 _ 11 64 underlying126 hi hz0 hz1 hz2 rfl (by decide) _ L.length (seR.cs L) rfl (Qaq HO7.o _) _ 1 (sec e) rfl (DX w7 e) (nJ _) HLn.o.1 HLn.o.2 (by rw[Qa3];exact Qca HGW.o.size) ?_;intro v8 w8 o8 g8 _;have HO8:QH _:=o8;have HG8:QH _:=g8;clear o8 g8)
     have HS8:QH (iO w8 W1.heap.size v8 (L++[e])∧(L++[e]).length≤k+1∧W1.grownBy w8 none):=⟨aB.more HO8.o rfl,by rw[Qa,Qax];exact Nat.succ_le_succ HOV.o.2.1,ak (am HGW.o _) HG8.o (fun y e=>(Qa5 HO7.o y e).1)⟩
     clear HO8 HG8;go_roundw
     case rel=>exact⟨k+1,L++[e],Hlt.o,by first | rfl | (rw[hwk];rfl) | go_num,HS8.o,HX.o⟩
     case measure=>first | exact HM.o | (rw[hwk];exact HM.o)
  ·obtain rfl:k=S.length:=Qag hk (Qac hlt)
   have HX:QH (cH (rws X) S []=some L):=by
    have q:=HI.o;unfold Aq at q;rw[Qbf] at q;exact q.symm
   clear HI hlt hk;go_wp2_with fail;go_ret2;exact⟨_,_,_,true,rfl,aa HG1.o HO.o.2.2,by rw[HX.o];rfl,fun L' q=>by rw[HX.o] at q;cases q;exact bj HO.o.1 HG1.o.size⟩
theorem rg {R:List Rw}:∀ (S:List Sd) (L L':List Se),cH R S L=some L'→L'.length=L.length+S.length
 | [],L,L',q=>by cases q;rfl
 | s :: S,L,L',q=>by
  rw[cH] at q;cases hf:dZ R s with
  | none=>rw[hf] at q;cases q
  | some d =>
   rw[hf] at q;simp only at q;split at q
   ·rw[rg S (L++[d]) L' q,Qa,Qax,Qau];omega
   ·cases q
theorem yM {R:List Rw}:∀ (S:List Sd) (L L':List Se),cH R S L=some L'→L'.map Se.s=L.map Se.s++S
 | [],L,L',q=>by cases q;simp
 | s :: S,L,L',q=>by
  rw[cH] at q;cases hf:dZ R s with
  | none=>rw[hf] at q;cases q
  | some d =>
   rw[hf] at q;simp only at q;split at q
   ·have hs:d.s=s:=by
     unfold dZ at hf;cases hr:iB R s.th with
     | none=>rw[hr] at hf;cases hf
     | some i =>
      rw[hr] at hf;simp only at hf;split at hf
      ·cases hf;rfl
      ·cases hf
    rw[yM S (L++[d]) L' q,Qbb,Qb8];simp[hs]
   ·cases q
theorem rI:∀ {l:List Int},(l.Pairwise fun a b=>a≤b)→dif l=true→l.Pairwise fun a b=>a<b
 | [],_,_=>List.Pairwise.nil
 | [a],_,_=>List.pairwise_singleton _ _
 | a :: b :: l,h,d=>by
  rw[kC] at d;simp at d;have h2:=rI (Qbq.1 h).2 d.2;refine Qbq.2 ⟨fun c hc=>?_,h2⟩;have hab:a<b:=by have:=(Qbq.1 h).1 b Qaw;omega
  rcases Qbo.1 hc with rfl | hc
  ·exact hab
  ·have:=(Qbq.1 h2).1 c hc;omega
theorem wR {l m:List Int} (hp:l.Perm m) (hl:l.Pairwise fun a b=>a≤b) (hm:m.Pairwise fun a b=>a≤b):l=m :=
 hp.eq_of_pairwise (fun a b _ _ h1 h2=>by omega) hl hm
theorem GJ {l m:List Rw} (hp:l.Perm m) (hl:l.Pairwise fun a b=>a.st<b.st) (hm:m.Pairwise fun a b=>a.st<b.st):l=m :=
 hp.eq_of_pairwise (fun a b _ _ h1 h2=>by omega) hl hm
theorem tq (acc:List Rw):(sortR acc).Pairwise fun a b=>a.st≤b.st:=by
 have:=List.pairwise_mergeSort (le:=fun (x y:Rw)=>decide (x.st≤y.st)) (fun a b c h1 h2=>by simp at *;omega) (fun a b=>by simp;omega) acc;exact this.imp fun h=>by simpa using h
theorem iE (h:R.Pairwise fun a b=>a.st≤b.st):(bG R).Pairwise fun a b=>a≤b:=by unfold bG;rw[Qbm];exact h
theorem Gl {acc:List Rw} (he:ts.length=fs.length) (ha:dW n cd (ts.zip fs) 0 []=some acc) (hp:R.Perm acc) (hs:R.Pairwise fun a b=>a.st≤b.st):bI n cd ts fs=if dif (bG R) then some R else none:=by
 unfold bI;rw[if_pos he,ha];simp only;have h1:=tq acc;have h2:(sortR acc).Perm acc:=Qd1 _ _;have e1:bG (sortR acc)=bG R:=wR ((h2.trans hp.symm).map _) (iE h1) (iE hs);rw[e1];cases hd:dif (bG R) with
 | false=>rfl
 | true =>
  rw[if_pos rfl,if_pos rfl]
  congr 1
  refine GJ (h2.trans hp.symm) ?_ ?_
  ·have:=rI (iE h1) (by rw[e1];exact hd);unfold bG at this;rwa [Qbm] at this
  ·have:=rI (iE hs) hd;unfold bG at this;rwa [Qbm] at this
theorem D9 (h:ts.length≠fs.length∨dW n cd (ts.zip fs) 0 []=none):bI n cd ts fs=none:=by
 unfold bI;by_cases he:ts.length=fs.length
 ·rw[if_pos he]
  rcases h with h | h
  ·exact absurd he h
  ·rw[h]
 ·rw[if_neg he]
theorem fR.tab {e:Ending} (h:fR w n cd ts fs e w'):∃ p1 m1 c1 p2 m2 c2,e=.returned (.tuple #[tbv (.slice p1 m1 c1) (.slice p2 m2 c2),.bool (bI n cd ts fs).isSome])∧w.grownBy w' none∧∀ R,bI n cd ts fs=some R→∃ X,rws X=R∧TbO w' w.heap.size (.slice p1 m1 c1) (.slice p2 m2 c2) X (ay R fs)∧∀ x∈X,1≤x.r.nu∧x.r.nu≤(fs.length:Int):=by
 obtain⟨p1,m1,c1,p2,m2,c2,b,rfl,g,h⟩:=h
 rcases h with ⟨rfl,h⟩ | ⟨acc,X,he,ha,hp,hs,rfl,T,hn⟩
 ·refine⟨p1,m1,c1,p2,m2,c2,by rw[D9 h];rfl,g,fun R q=>?_⟩;rw[D9 h] at q;cases q
 ·have ht:=Gl he ha hp hs;cases hd:dif (bG (rws X)) with
  | false =>
   rw[hd] at ht;refine⟨p1,m1,c1,p2,m2,c2,by rw[ht];rfl,g,fun R q=>?_⟩;rw[ht] at q;cases q
  | true =>
   rw[hd] at ht;refine⟨p1,m1,c1,p2,m2,c2,by rw[ht];rfl,g,fun R q=>?_⟩;rw[ht] at q;cases q;exact⟨X,rfl,T,hn⟩
def lkE (r:Int) (n:Int) (cd:Int→Hd×List Pt) (ts:List Th) (fs:List Fe) (S:List Sd):Int:=if r=0 then (match bI n cd ts fs with | none=>2 | some R=>match cH R S [] with | none=>2 | some _=>0) else r
theorem vJ (h:r≠0):lkE r n cd ts fs S=r:=if_neg h
theorem rP (h:bI n cd ts fs=none):lkE 0 n cd ts fs S=2:=by unfold lkE;rw[if_pos rfl,h]
theorem Dk (h:bI n cd ts fs=some R) (h2:cH R S []=none):lkE 0 n cd ts fs S=2:=by unfold lkE;rw[if_pos rfl,h];simp only;rw[h2]
theorem lI (h:bI n cd ts fs=some R) (h2:cH R S []=some L):lkE 0 n cd ts fs S=0:=by unfold lkE;rw[if_pos rfl,h];simp only;rw[h2]
structure LIn (w:World) (bv vt vf:Value) (r n:Int) (cd:Int→Hd×List Pt) (ts:List Th) (fs:List Fe):Prop where
 ref:∀ X,w.grownBy X none→Calls prog 129 #[bv,vt] X fun e w'=>e=.returned (.int .i64 r)∧X.grownBy w' none
 book:r=0→jQ w bv n cd∧ts.length≤2048
 things:thR.At w vt ts
 feats:feR.At w vf fs
theorem LIn.keep (h:LIn w bv vt vf r n cd ts fs) (g:w.grownBy w' none):LIn w' bv vt vf r n cd ts fs:=⟨fun X q=>h.ref X (aa g q),fun q=>⟨(h.book q).1.keep g,(h.book q).2⟩,h.things.keep g,h.feats.keep g⟩
theorem Bp (h:bI n cd ts fs=some R):ts.length=fs.length:=by
 unfold bI at h;split at h
 ·assumption
 ·cases h
theorem LIn.few (h:LIn w bv vt vf r n cd ts fs) (hr:r=0) (hR:bI n cd ts fs=some R):fs.length≤4096:=by
 have a:=Bp hR;have b:=(h.book hr).2;omega
def ko (w:World) (r n:Int) (cd:Int→Hd×List Pt) (ts:List Th) (fs:List Fe) (S:List Sd) (e:Ending) (w':World):Prop:=∃ p1 m1 c1 p2 m2 c2 p3 m3 c3,e=.returned (.tuple #[tbv (.slice p1 m1 c1) (.slice p2 m2 c2),.slice p3 m3 c3,.int .i64 (lkE r n cd ts fs S)])∧w.grownBy w' none∧∀ R L,r=0→bI n cd ts fs=some R→cH R S []=some L→∃ X,rws X=R∧TbO w' w.heap.size (.slice p1 m1 c1) (.slice p2 m2 c2) X (ay R fs)∧(∀ x∈X,1≤x.r.nu∧x.r.nu≤(fs.length:Int))∧iO w' w.heap.size (.slice p3 m3 c3) L
theorem ko.no {q:Int} (h:lkE r n cd ts fs S=q) (hq:q≠0) (g:w.grownBy w' none):ko w r n cd ts fs S (.returned (.tuple #[.agg #[.slice none 0 0,.slice none 0 0],.slice none 0 0,.int .i64 q])) w':=⟨none,0,0,none,0,0,none,0,0,by rw[h];rfl,g,fun R L h0 h1 h2=>by rw[h0,lI h1 h2] at h;exact absurd h.symm hq⟩
theorem A9 (bv vt vf vs:Value) (r n:Int) (cd:Int→Hd×List Pt) (ts:List Th) (fs:List Fe) (S:List Sd) (w:World) (I:LIn w bv vt vf r n cd ts fs) (A:sdR.At w vs S) (hl:S.length≤4096):Calls prog 59 #[bv,vt,vf,vs] w (ko w r n cd ts fs S):=by
 obtain⟨pt,ct,rfl⟩:=I.things.form;obtain⟨pf,cf,rfl⟩:=I.feats.form;obtain⟨pl,cl,rfl⟩:=A.form;obtain⟨W1,hW1⟩:=Qe (w.alloc (.cells #[.slice none 0 0,.slice none 0 0] 125));have HG1:QH (w.grownBy W1 none):=by rw[hW1];exact QG
 have HR:QH (TbB W1 w.heap.size (.slice none 0 0) (.slice none 0 0)):=by rw[hW1];exact aj w _ _
 have HI:QH (LIn W1 bv (.slice pt ts.length ct) (.slice pf fs.length cf) r n cd ts fs):=I.keep HG1.o;have HA:QH (sdR.At W1 (.slice pl S.length cl) S):=A.keep HG1.o;have Hl:QH (S.length≤4096):=hl;have HRf:=HI.o.ref W1 (aw _ _);clear I A hl;go_enter func59,ntmps59;go_upto_region 1 with fail;rw[←hW1];clear hW1;obtain⟨n0,h0⟩:=Qe (w.heap.size);have Hn0:QH (w.heap.size≤n0∧n0<W1.heap.size):=⟨by rw[h0];exact Qj _,by rw[h0];exact aY HR.o⟩
 simp only[←h0] at HR ⊢;clear h0;go_wp2_with fail;refine HRf.mono ?_;rintro e2 w2 ⟨rfl,g2⟩;have HG2:QH (W1.grownBy w2 none):=g2;have HR2:QH (TbB w2 n0 (.slice none 0 0) (.slice none 0 0)):=ag g2 HR.o (by simp);clear HRf g2;by_cases hr:r=0
 ·obtain⟨hB,hts⟩:=HI.o.book hr;have HLy:=Ds bv _ _ n cd ts fs w2 (hB.keep HG2.o) (HI.o.things.keep HG2.o) (HI.o.feats.keep HG2.o) hts;have e1:(r != 0)=false:=by simpa using hr
  have Hr:QH (r=0):=hr;clear hr hB hts;go_wp2_with fail;refine HLy.mono ?_;intro e3 w3 Q3;obtain⟨p1,m1,c1,p2,m2,c2,rfl,g3,h3⟩:=Q3.tab;unfold tbv;obtain⟨V,hV⟩:=Qe (w3.alloc (.cells #[.slice p1 m1 c1,.slice p2 m2 c2] 125));have HG3:QH (w2.grownBy V none):=by rw[hV];exact am g3 _
  have HBt:QH (TbB V w3.heap.size (.slice p1 m1 c1) (.slice p2 m2 c2)):=by rw[hV];exact aj _ _ _
  have HRV:QH (TbB V n0 (.slice none 0 0) (.slice none 0 0)):=ag HG3.o HR2.o (by simp);have HGW:QH (W1.grownBy V none):=aa HG2.o HG3.o
  have H3:QH (∀ R,bI n cd ts fs=some R→∃ X,rws X=R∧TbO V w2.heap.size (.slice p1 m1 c1) (.slice p2 m2 c2) X (ay R fs)∧∀ x∈X,1≤x.r.nu∧x.r.nu≤(fs.length:Int)):=fun R q=>by
   obtain⟨X,a,b,c⟩:=h3 R q;exact⟨X,a,b.grow (by rw[hV];exact QG),c⟩
  clear HLy Q3 g3 h3;cases ht:bI n cd ts fs with
  | none =>
   have HX:QH (lkE r n cd ts fs S=2):=(by rw[Hr.o];exact rP ht);clear ht;go_upto_region 5 with fail;rw[←hV];obtain⟨r0,r1⟩:=fA HRV.o;have rf:=fun i=>aq HRV.o i;clear hV;go_wp2_with fail;refine bodyPost_ret (v:=.tuple #[.agg #[.slice none 0 0,.slice none 0 0],.slice none 0 0,.int .i64 2]) (by simp[results,results59,go_sem,r0,r1]) rfl (ko.no HX.o (by decide) ?_);exact ar (ar (aa HG1.o HGW.o) Hn0.o.1 _ _) Hn0.o.1 _ _
  | some R =>
   obtain⟨X,hX,hT,hnu⟩:=H3.o R ht;have HT:QH (rws X=R∧TbO V w2.heap.size (.slice p1 m1 c1) (.slice p2 m2 c2) X (ay R fs)∧∀ x∈X,1≤x.r.nu∧x.r.nu≤(fs.length:Int)):=⟨hX,hT,hnu⟩
   have HLi:=zz _ _ _ X (ay R fs) S V hT.at (HA.o.keep HGW.o) Hl.o;unfold lG tbv at HLi;have Ht:QH (bI n cd ts fs=some R):=ht;rw[hX] at HLi;clear ht H3 hX hT hnu;go_upto_region 5 with fail;rw[←hV];obtain⟨nc,hnc⟩:=Qe (w3.heap.size);rw[←hnc] at HBt ⊢;clear hV hnc;obtain⟨t0,t1⟩:=iV HBt.o;go_wp2_with fail;refine HLi.mono ?_;rintro e5 w5 ⟨p3,m3,c3,b5,rfl,g5,hb5,h5⟩;have HG5:QH (V.grownBy w5 none):=g5;have H5:QH (∀ L,cH R S []=some L→iO w5 V.heap.size (.slice p3 m3 c3) L):=h5;have HR5:QH (TbB w5 n0 (.slice none 0 0) (.slice none 0 0)):=ag g5 HRV.o (by simp);have HB5:QH (TbB w5 nc (.slice p1 m1 c1) (.slice p2 m2 c2)):=ag g5 HBt.o (by simp);have HGw5:QH (w.grownBy w5 none):=aa HG1.o (aa HGW.o g5);clear HLi g5 h5 t0 t1;obtain⟨r0,r1⟩:=fA HR5.o;have rf:=fun i=>aq HR5.o i;cases hls:cH R S [] with
   | none =>
    rw[hls] at hb5;subst hb5;have HX:QH (lkE r n cd ts fs S=2):=(by rw[Hr.o];exact Dk Ht.o hls);clear hls;simp only[Option.isSome_none];go_wp2_with fail;refine bodyPost_ret (v:=.tuple #[.agg #[.slice none 0 0,.slice none 0 0],.slice none 0 0,.int .i64 2]) (by simp[results,results59,go_sem,r0,r1]) rfl (ko.no HX.o (by decide) ?_);exact ar (ar HGw5.o Hn0.o.1 _ _) Hn0.o.1 _ _
   | some L =>
    rw[hls] at hb5;subst hb5;have HX:QH (lkE r n cd ts fs S=0):=(by rw[Hr.o];exact lI Ht.o hls);have Hls:QH (cH R S []=some L):=hls;clear hls;simp only[Option.isSome_some];obtain⟨t0,t1⟩:=iV HB5.o;have Hnc:QH (n0<V.heap.size∧w.heap.size≤V.heap.size):=⟨Qal Hn0.o.2 HGW.o.size,Ql HG1.o.size HGW.o.size⟩
    go_wp2_with fail;refine bodyPost_ret (v:=.tuple #[.agg #[.slice p1 m1 c1,.slice p2 m2 c2],.slice p3 m3 c3,.int .i64 0]) (by simp[results,results59,go_sem,r0,r1]) rfl ⟨p1,m1,c1,p2,m2,c2,p3,m3,c3,by rw[HX.o];rfl,?_,fun R' L' _ q1 q2=>?_⟩
    ·exact ar (ar HGw5.o Hn0.o.1 _ _) Hn0.o.1 _ _
    ·rw[Ht.o] at q1;cases q1;rw[Hls.o] at q2;cases q2;have q1:=aa (al w5 n0 0 (.slice p1 m1 c1)) (al (w5.setCell ⟨n0,0,none⟩ (.slice p1 m1 c1)) n0 1 (.slice p2 m2 c2));refine⟨X,HT.o.1,?_,HT.o.2.2,bj (ib (H5.o L Hls.o) q1 Hnc.o.1) Hnc.o.2⟩;exact((HT.o.2.1.grow HG5.o).far q1 (Qal Hn0.o.2 HG2.o.size)).big (Ql HG1.o.size HG2.o.size)
 ·have e1:(r != 0)=true:=by simpa using hr
  have HX:QH (lkE r n cd ts fs S=r):=vJ hr;have Hr:QH (r≠0):=hr;clear hr;obtain⟨r0,r1⟩:=fA HR2.o;have rf:=fun i=>aq HR2.o i;go_wp2_with fail;refine bodyPost_ret (v:=.tuple #[.agg #[.slice none 0 0,.slice none 0 0],.slice none 0 0,.int .i64 r]) (by simp[results,results59,go_sem,r0,r1]) rfl (ko.no HX.o Hr.o ?_);exact ar (ar (aa HG1.o HG2.o) Hn0.o.1 _ _) Hn0.o.1 _ _
def bgE (r n:Int) (cd:Int→Hd×List Pt) (ts:List Th) (fs:List Fe) (k:Int):Int:=if lkE r n cd ts fs []=0 then (if 1≤k∧k≤5 then 0 else 2) else lkE r n cd ts fs []
def ki (w:World) (r n:Int) (cd:Int→Hd×List Pt) (ts:List Th) (fs:List Fe) (k:Int) (e:Ending) (w':World):Prop:=∃ p1 m1 c1 p2 m2 c2 p3 m3 c3,e=.returned (.tuple #[tbv (.slice p1 m1 c1) (.slice p2 m2 c2),.slice p3 m3 c3,.int .i64 (bgE r n cd ts fs k)])∧w.grownBy w' none∧∀ R,r=0→1≤k∧k≤5→bI n cd ts fs=some R→∃ X,rws X=R∧TbO w' w.heap.size (.slice p1 m1 c1) (.slice p2 m2 c2) X (ay R fs)∧(∀ x∈X,1≤x.r.nu∧x.r.nu≤(fs.length:Int))∧iO w' w.heap.size (.slice p3 m3 c3) (dI R (ay R fs) k)
theorem rW (h:lkE r n cd ts fs []=0):r=0∧∃ R,bI n cd ts fs=some R:=by
 unfold lkE at h;split at h
 ·rename_i h0;refine⟨h0,?_⟩;cases ht:bI n cd ts fs with
  | none=>rw[ht] at h;cases h
  | some R=>exact⟨R,rfl⟩
 ·rename_i h0;exact absurd h h0
theorem ks (h:bI n cd ts fs=some R):lkE 0 n cd ts fs []=0:=lI (L:=[]) h rfl
theorem ki.no {k:Int} {q:Int} (h:bgE r n cd ts fs k=q) (hq:q≠0) (g:w.grownBy w' none):ki w r n cd ts fs k (.returned (.tuple #[.agg #[.slice none 0 0,.slice none 0 0],.slice none 0 0,.int .i64 q])) w':=⟨none,0,0,none,0,0,none,0,0,by rw[h];rfl,g,fun R h0 h1 h2=>by unfold bgE at h;rw[h0,if_pos (ks h2),if_pos h1] at h;exact absurd h.symm hq⟩
theorem vZ (bv vt vf:Value) (r n:Int) (cd:Int→Hd×List Pt) (ts:List Th) (fs:List Fe) (k:Int) (w:World) (I:LIn w bv vt vf r n cd ts fs):Calls prog 67 #[bv,vt,vf,.int .i64 k] w (ki w r n cd ts fs k):=by
 obtain⟨pt,ct,rfl⟩:=I.things.form;obtain⟨pf,cf,rfl⟩:=I.feats.form;obtain⟨W1,hW1⟩:=Qe (w.alloc (.cells #[.slice none 0 0,.slice none 0 0] 125));have HG1:QH (w.grownBy W1 none):=by rw[hW1];exact QG
 have HR:QH (TbB W1 w.heap.size (.slice none 0 0) (.slice none 0 0)):=by rw[hW1];exact aj w _ _
 have HLk:=A9 bv _ _ (.slice none 0 0) r n cd ts fs [] W1 (I.keep HG1.o) (aB.At.nil _ _) (Q0 _);unfold ko tbv at HLk;clear I;go_enter func67,ntmps67;go_upto_region 1 with fail;rw[←hW1];clear hW1;obtain⟨n0,h0⟩:=Qe (w.heap.size);have Hn0:QH (w.heap.size≤n0∧n0<W1.heap.size):=⟨by rw[h0];exact Qj _,by rw[h0];exact aY HR.o⟩
 simp only[←h0] at HR ⊢;clear h0;go_wp2_with fail;refine HLk.mono ?_;rintro e2 w2 ⟨p1,m1,c1,p2,m2,c2,p3,m3,c3,rfl,g2,h2⟩;obtain⟨q,hq⟩:=Qe (lkE r n cd ts fs []);have Hq:QH (q=lkE r n cd ts fs []):=hq;rw[←hq];obtain⟨V,hV⟩:=Qe (w2.alloc (.cells #[.slice p1 m1 c1,.slice p2 m2 c2] 125));have HGV:QH (W1.grownBy V none):=by rw[hV];exact am g2 _
 have HBt:QH (TbB V w2.heap.size (.slice p1 m1 c1) (.slice p2 m2 c2)):=by rw[hV];exact aj _ _ _
 have HRV:QH (TbB V n0 (.slice none 0 0) (.slice none 0 0)):=ag HGV.o HR.o (by simp)
 have H2:QH (∀ R,r=0→bI n cd ts fs=some R→∃ X,rws X=R∧TbO V W1.heap.size (.slice p1 m1 c1) (.slice p2 m2 c2) X (ay R fs)∧∀ x∈X,1≤x.r.nu∧x.r.nu≤(fs.length:Int)):=fun R a b=>by
  obtain⟨X,x1,x2,x3,_⟩:=h2 R [] a b rfl;exact⟨X,x1,x2.grow (by rw[hV];exact QG),x3⟩
 have Hsz:QH (W1.heap.size≤w2.heap.size):=g2.size;clear HLk g2 h2 hq;go_upto_region 2 with fail;rw[←hV];obtain⟨nb,hnb⟩:=Qe (w2.heap.size);rw[←hnb] at HBt ⊢;have Hnb:QH (some nb≠some n0):=by show _≠_;rw[hnb];intro q;have:=Qa1 q;have:=Hn0.o.2;have:=Hsz.o;omega
 clear hV hnb;obtain⟨r0,r1⟩:=fA HRV.o;have rf:=fun i=>aq HRV.o i;by_cases hq0:q=0
 ·have e1:(q != 0)=false:=by simpa using hq0
  obtain⟨hr0,R,hR⟩:=rW (Hq.o.symm.trans hq0);obtain⟨X,hX,hT,hnu⟩:=H2.o R hr0 hR;have HT:QH (rws X=R∧TbO V W1.heap.size (.slice p1 m1 c1) (.slice p2 m2 c2) X (ay R fs)∧∀ x∈X,1≤x.r.nu∧x.r.nu≤(fs.length:Int)):=⟨hX,hT,hnu⟩
  have HtR:QH (bI n cd ts fs=some R):=hR;have Hq0:QH (lkE r n cd ts fs []=0):=Hq.o.symm.trans hq0;clear hr0 hX hT hnu hR H2 hq0;by_cases hk1:k<1
  ·have HX:QH (bgE r n cd ts fs k=2):=(by show _=_;unfold bgE;rw[if_pos Hq0.o,if_neg (by omega)]);go_wp2_with fail;refine bodyPost_ret (v:=.tuple #[.agg #[.slice none 0 0,.slice none 0 0],.slice none 0 0,.int .i64 2]) (by simp[results,results67,go_sem,r0,r1]) rfl (ki.no HX.o (by decide) ?_);exact ar (ar (aa HG1.o HGV.o) Hn0.o.1 _ _) Hn0.o.1 _ _
  ·have e2:decide (k<1)=false:=Qx hk1;by_cases hk2:5<k
   ·have HX:QH (bgE r n cd ts fs k=2):=(by show _=_;unfold bgE;rw[if_pos Hq0.o,if_neg (by omega)]);clear hk1;go_wp2_with fail;refine bodyPost_ret (v:=.tuple #[.agg #[.slice none 0 0,.slice none 0 0],.slice none 0 0,.int .i64 2]) (by simp[results,results67,go_sem,r0,r1]) rfl (ki.no HX.o (by decide) ?_);exact ar (ar (aa HG1.o HGV.o) Hn0.o.1 _ _) Hn0.o.1 _ _
   ·have e3:decide (5<k)=false:=Qx hk2;have HX:QH (bgE r n cd ts fs k=0):=(by show _=_;unfold bgE;rw[if_pos Hq0.o,if_pos (by omega)]);have HE:=ru _ _ X (ay R fs) k V.drew (HT.o.2.1.at.keep (ai _));unfold tbv at HE;obtain⟨t0,t1⟩:=iV HBt.o;have dd:some nb≠some n0:=Hnb.o;clear hk1 hk2;go_upto_region 6 with fail;refine wp_region_held_drew (S:=fun w'=>V.grownBy w' (some n0)) (by kernel_rfl) (dK _ _) (fun hHeld=>?_);refine QT 0 rfl (by intro w0 hSw;have t0:=hSw.cell t0 dd;have t1:=hSw.cell t1 dd;go_simp;try with_reducible rfl) ?_;go_frame;refine QT 1 rfl (by intro w0 hSw;have t0:=hSw.cell t0 dd;have t1:=hSw.cell t1 dd;go_simp;try with_reducible rfl) ?_;go_frame;refine QZ 2 rfl ?_;go_frame;refine QR 3 rfl (fun K hK=>?_);go_simp;go_at_call 142;refine(HE).mono ?_;rintro e5 w5 ⟨v5,rfl,o5,g5⟩;obtain⟨p5,c5,rfl⟩:=o5.form;have HG5:QH (V.grownBy w5 none):=aa (ai _) g5;have HO5:QH (iO w5 V.heap.size (.slice p5 (dI (rws X) (ay R fs) k).length c5) (dI (rws X) (ay R fs) k)):=o5;obtain⟨m5,hm5⟩:=Qe ((dI (rws X) (ay R fs) k).length);rw[←hm5] at HO5 ⊢;have HO5':QH (w5.ownsRow V.heap.size 131 11 (.slice p5 m5 c5) (dI (rws X) (ay R fs) k).length (seR.cs (dI (rws X) (ay R fs) k))):=HO5.o;have HR5:QH (TbB w5 n0 (.slice none 0 0) (.slice none 0 0)):=ag HG5.o HRV.o (by simp);clear g5 o5 HE hm5 t0 t1 r0 r1 rf;obtain⟨r0,r1⟩:=fA HR5.o;have rf:=fun i=>aq HR5.o i;refine hK.out _ _ (fI HG5.o _) (fun hHeld2=>?_);clear hK K;(try go_frame);refine QR 4 rfl (fun K9 hK=>?_);go_simp;refine hK.out _ _ (aa (fI HG5.o _) (aa (al _ _ _ _) (al _ _ _ _))) (fun hHeld3=>?_);clear hK K9;(try go_frame);refine QZ 5 rfl ?_;go_frame;refine QZ 6 rfl ?_;go_frame;refine QD ?_;go_wp2_with fail;refine bodyPost_ret (v:=.tuple #[.agg #[.slice p1 m1 c1,.slice p2 m2 c2],.slice p5 m5 c5,.int .i64 0]) (by simp[results,results67,go_sem,r0,r1]) rfl ⟨p1,m1,c1,p2,m2,c2,p5,m5,c5,by rw[HX.o];rfl,?_,fun R' _ _ q1=>?_⟩
    ·exact ar (ar (aa HG1.o (aa HGV.o HG5.o)) Hn0.o.1 _ _) Hn0.o.1 _ _
    ·rw[HtR.o] at q1;cases q1;have q1:=aa (al w5 n0 0 (.slice p1 m1 c1)) (al (w5.setCell ⟨n0,0,none⟩ (.slice p1 m1 c1)) n0 1 (.slice p2 m2 c2));refine⟨X,HT.o.1,((HT.o.2.1.grow HG5.o).far q1 Hn0.o.2).big HG1.o.size,HT.o.2.2,?_⟩;rw[←HT.o.1];rw[HT.o.1];rw[show ay R fs=ay R fs from rfl];have q2:=bj (ib HO5'.o q1 (Qal Hn0.o.2 HGV.o.size)) (Ql HG1.o.size HGV.o.size);rw[HT.o.1] at q2;exact q2
 ·have e1:(q != 0)=true:=by simpa using hq0
  have HX:QH (bgE r n cd ts fs k=q):=by show _=_;unfold bgE;rw[if_neg (by rw[←Hq.o];exact hq0)];exact Hq.o.symm
  have Hq0:QH (q≠0):=hq0;clear hq0;go_wp2_with fail;refine bodyPost_ret (v:=.tuple #[.agg #[.slice none 0 0,.slice none 0 0],.slice none 0 0,.int .i64 q]) (by simp[results,results67,go_sem,r0,r1]) rfl (ki.no HX.o Hq0.o ?_);exact ar (ar (aa HG1.o HGV.o) Hn0.o.1 _ _) Hn0.o.1 _ _
