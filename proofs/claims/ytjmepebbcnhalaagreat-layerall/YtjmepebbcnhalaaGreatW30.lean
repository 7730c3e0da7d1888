import Derived.Test.YtjmepebbcnhalaaGreatWLyV
import Derived.Test.YtjmepebbcnhalaaGreatW0
namespace Go.Proofs.YtjmepebbcnhalaaGreat
set_option maxRecDepth 100000
set_option maxHeartbeats 4000000
open Go.RowKit
def rE (R:List Rw) (S:List Sd) (k:Nat) (L:List Se):Prop:=aN R (S.drop k) L=aN R S []
theorem rE.step {R:List Rw} {S:List Sd} {k:Nat} {L:List Se} (h:rE R S k L) (hk:k<S.length):aN R S []=(match bj R S[k] with | some e=>if dz e L then aN R (S.drop (k+1)) (L++[e]) else none | none=>none):=by
 unfold rE at h
 rw[List.drop_eq_getElem_cons hk] at h
 rw[←h]
 rfl
theorem A9 {X:List Rv} {s:Sd} {e:Se} (h:bj (rws X) s=some e):e.ro<X.length∧e.s=s:=by
 unfold bj at h
 cases hr:eO (rws X) s.th with
 | none=>rw[hr] at h;cases h
 | some i =>
  rw[hr] at h
  simp only at h
  split at h
  ·cases h
   exact⟨sb hr,rfl⟩
  ·cases h
theorem tv {n:Nat} (h:n≤4096):n+1≤maxLen∧(n+1)*64≤140737488355328:=by unfold maxLen;omega
def kN (w:World) (R:List Rw) (S:List Sd) (e:Ending) (w':World):Prop:=∃ p m c b,e=.returned (.tuple #[.slice p m c,.bool b])∧w.grownBy w' none∧b=(aN R S []).isSome∧∀ L,aN R S []=some L→dB w' w.heap.size (.slice p m c) L
theorem kN.no {w w':World} {R:List Rw} {S:List Sd} (h:aN R S []=none) (g:w.grownBy w' none):kN w R S (.returned (.tuple #[.slice none 0 0,.bool false])) w':=⟨none,0,0,false,rfl,g,by rw[h];rfl,fun L q=>by rw[h] at q;cases q⟩
theorem vQ (vr vf v:Value) (X:List Rv) (F:List Fe) (S:List Sd) (w:World) (T:dS w vr vf X F) (A:sdR.At w v S) (hl:S.length≤4096):Calls Tryz.prog 131 #[tbv vr vf,v] w (kN w (rws X) S):=by
 obtain⟨i0,hi,hz0,hz1,hz2⟩:=info_parts Tryz.linfoS
 obtain⟨pr,cr,rfl⟩:=T.rows.form
 obtain⟨pf,cf,rfl⟩:=T.fs.form
 obtain⟨pl,cl,rfl⟩:=A.form
 obtain⟨W1,hW1⟩:∃ W1,W1=w.alloc (.cells #[.slice pr X.length cr,.slice pf F.length cf] 125):=⟨_,rfl⟩
 have HG1:Hid (w.grownBy W1 none):=by rw[hW1];exact World.grownBy_alloc _ _ none
 have HB:Hid (TbB W1 w.heap.size (.slice pr X.length cr) (.slice pf F.length cf)):=by rw[hW1];exact ak w _ _
 have HT:Hid (dS W1 (.slice pr X.length cr) (.slice pf F.length cf) X F):=T.keep HG1.out
 have HA:Hid (sdR.At W1 (.slice pl S.length cl) S):=A.keep HG1.out
 have Hl:Hid (S.length≤4096):=hl
 unfold tbv
 clear T A hl
 go_enter Tryz.func131,Tryz.ntmps131
 go_upto_region 1 with fail
 rw[←hW1]
 clear hW1
 obtain⟨n0,h0⟩:∃ n0,n0=w.heap.size:=⟨_,rfl⟩
 simp only[←h0] at HB ⊢
 clear h0
 go_wp2_with fail
 go_loopw [6,13] (fun v i wr=>∃ (k:Nat) (L:List Se),k≤S.length∧i=.int .i64 (k:Int)∧Hid (dB wr W1.heap.size v L∧L.length≤k∧W1.grownBy wr none)∧Hid (rE (rws X) S k L)) (fun _ i _=>S.length - (intOf i).toNat)
 case atStart=>exact⟨0,[],Nat.zero_le _,rfl,⟨aB.Own.nil _ _ _ _,Nat.le_refl _,ay _ _⟩,rfl⟩
 case round =>
  obtain⟨k,L,hk,rfl,HO,HI⟩:=hrel
  obtain⟨U,hU⟩:∃ U,U=wr:=⟨_,rfl⟩
  subst hU
  obtain⟨q,cq,rfl⟩:=HO.out.1.form
  by_cases hlt:k<S.length
  ·obtain⟨g,off,cap,e1,R⟩:=dW (HA.out.keep HO.out.2.2) hlt
   cases e1
   have HStep:Hid (_=_):=HI.out.step hlt
   obtain⟨s,hs⟩:∃ s,s=S[k]:=⟨_,rfl⟩
   rw[←hs] at R HStep
   obtain⟨c0,c1,c2,c3,c4,c5,c6,c7,c8,c9⟩:=bq R
   obtain⟨V,hV⟩:∃ V,V=U.alloc (.cells #[.int .i64 s.th,.int .i64 s.pl,.int .u8 s.wh.wn,.int .u8 s.wh.vb,.int .u8 s.wh.wm,.int .i64 s.wh.ct,.int .u8 s.wh.su,.int .u8 s.wh.tr,.int .u8 s.wh.mr,.string s.wh.nm] 64):=⟨_,rfl⟩
   have HGV:Hid (U.grownBy V none):=by rw[hV];exact World.grownBy_alloc _ _ none
   have HBs:Hid (SdB V U.heap.size s):=by rw[hV];exact ak _ _ _
   have HOV:Hid (dB V W1.heap.size (.slice q L.length cq) L∧L.length≤k∧W1.grownBy V none):=⟨HO.out.1.grow HGV.out,HO.out.2.1,aa HO.out.2.2 HGV.out⟩
   have hlt':(k:Int)<S.length:=Int.ofNat_lt.2 hlt
   have Hlt:Hid (k<S.length):=hlt
   have hwk:=aW (k:=k) (Nat.le_trans (Nat.le_of_lt hlt) Hl.out)
   have HM:Hid (S.length - (intOf (.int .i64 ((k:Int)+1))).toNat<S.length - (intOf (.int .i64 (k:Int))).toNat):=bQ hlt
   have HFd:=xK _ _ X F s V (HT.out.keep HOV.out.2.2)
   unfold kW tbv sdv at HFd
   obtain⟨a0,a1⟩:=bH (show TbB V n0 _ _ from ai HOV.out.2.2 HB.out (by simp))
   clear hs R hlt hk HO HI
   go_upto_region 5 with fail
   rw[←hV]
   obtain⟨nb,hnb⟩:∃ nb,nb=U.heap.size:=⟨_,rfl⟩
   rw[←hnb] at HBs ⊢
   clear hV hnb c0 c1 c2 c3 c4 c5 c6 c7 c8 c9
   obtain⟨s0,s1,s2,s3,s4,s5,s6,s7,s8,s9⟩:=bl HBs.out
   cases hff:bj (rws X) s with
   | none =>
    have HX:Hid (aN (rws X) S []=none):=by show _=_;rw[HStep.out,hff]
    rw[hff] at HFd
    unfold sev at HFd
    simp only[Option.getD_none,Option.isSome_none] at HFd
    clear hff
    go_wp2_with (go_at_call 197;refine HFd.mono ?_;rintro e5 w5 ⟨rfl,g5⟩;have HG5:Hid (V.grownBy w5 none):=g5;clear HFd g5 a0 a1 s0 s1 s2 s3 s4 s5 s6 s7 s8 s9)
    go_ret2
    exact kN.no HX.out (am (aa HG1.out (aa HOV.out.2.2 HG5.out)) _)
   | some e =>
    rw[hff] at HFd
    unfold sev at HFd
    simp only[Option.getD_some,Option.isSome_some] at HFd
    have HSt2:Hid (aN (rws X) S []=if dz e L then aN (rws X) (S.drop (k+1)) (L++[e]) else none):=by show _=_;rw[HStep.out,hff]
    clear hff
    go_wp2_with fail
    refine HFd.mono ?_
    rintro e5 w5 ⟨rfl,g5⟩
    obtain⟨V6,hV6⟩:∃ V6,V6=w5.alloc (.cells #[.int .i64 e.s.th,.int .i64 e.s.pl,.int .u8 e.s.wh.wn,.int .u8 e.s.wh.vb,.int .u8 e.s.wh.wm,.int .i64 e.s.wh.ct,.int .u8 e.s.wh.su,.int .u8 e.s.wh.tr,.int .u8 e.s.wh.mr,.string e.s.wh.nm,.int .i64 (e.ro:Int)] 131):=⟨_,rfl⟩
    have HG6:Hid (V.grownBy V6 none):=by rw[hV6];exact am g5 _
    have HO6:Hid (dB V6 W1.heap.size (.slice q L.length cq) L∧L.length≤k∧W1.grownBy V6 none):=⟨HOV.out.1.grow HG6.out,HOV.out.2.1,aa HOV.out.2.2 HG6.out⟩
    have HBe:Hid (SeB V6 w5.heap.size e):=by rw[hV6];exact ak _ _ _
    have HJ:=tm e (.slice q L.length cq) L V6 HO6.out.1.at (Nat.le_trans HOV.out.2.1 (Nat.le_trans (Nat.le_of_lt Hlt.out) Hl.out))
    obtain⟨jb,hjb⟩:∃ jb,jb=dz e L:=⟨_,rfl⟩
    rw[←hjb] at HJ HSt2
    unfold sev at HJ
    clear HFd g5 a0 a1 s0 s1 s2 s3 s4 s5 s6 s7 s8 s9 hjb
    go_upto_region 6 with fail
    rw[←hV6]
    obtain⟨nc,hnc⟩:∃ nc,nc=w5.heap.size:=⟨_,rfl⟩
    rw[←hnc] at HBe ⊢
    clear hV6 hnc
    obtain⟨o0,o1,o2,o3,o4,o5,o6,o7,o8,o9,o10⟩:=dU HBe.out
    cases jb with
    | false =>
     have HX:Hid (aN (rws X) S []=none):=HSt2.out
     go_wp2_with (go_at_call 198;refine HJ.mono ?_;rintro e7 w7 ⟨rfl,g7⟩;have HG7:Hid (V6.grownBy w7 none):=g7;clear HJ g7 o0 o1 o2 o3 o4 o5 o6 o7 o8 o9 o10)
     go_ret2
     exact kN.no HX.out (aa HG1.out (aa HO6.out.2.2 HG7.out))
    | true =>
     have HX:Hid (rE (rws X) S (k+1) (L++[e])):=HSt2.out.symm
     go_wp2_with fail
     refine HJ.mono ?_
     rintro e7 w7 ⟨rfl,g7⟩
     have HG7:Hid (V6.grownBy w7 none):=g7
     have HO7:Hid (w7.ownsRow W1.heap.size 131 11 (.slice q L.length cq) L.length (seR.cs L)):=HO6.out.1.grow g7
     have HGW:Hid (W1.grownBy w7 none):=aa HO6.out.2.2 g7
     have HBe7:Hid (SeB w7 nc e):=ai g7 HBe.out (by simp)
     have HLn:Hid (L.length+1≤maxLen∧(L.length+1)*64≤140737488355328):=tv (Nat.le_trans HOV.out.2.1 (Nat.le_trans (Nat.le_of_lt Hlt.out) Hl.out))
     clear HJ g7 o0 o1 o2 o3 o4 o5 o6 o7 o8 o9 o10
     obtain⟨o0,o1,o2,o3,o4,o5,o6,o7,o8,o9,o10⟩:=dU HBe7.out
     go_wp2_with (at_builtin;refine aX (by rfl) (.tmp 31) (.tmp 33) 126 rfl W1.heap.size 131 i0 _ 11 64 Tryz.underlying126 hi hz0 hz1 hz2 rfl (by decide) _ L.length (seR.cs L) rfl (World.ownsRow.alloc HO7.out _) _ 1 (sec e) rfl (zt w7 e) (mn _) HLn.out.1 HLn.out.2 (by rw[World.size_alloc];exact Nat.le_succ_of_le HGW.out.size) ?_;intro v8 w8 o8 g8 _;have HO8:Hid _:=o8;have HG8:Hid _:=g8;clear o8 g8)
     have HS8:Hid (dB w8 W1.heap.size v8 (L++[e])∧(L++[e]).length≤k+1∧W1.grownBy w8 none):=⟨aB.more HO8.out rfl,by rw[List.length_append,List.length_singleton];exact Nat.succ_le_succ HOV.out.2.1,az (am HGW.out _) HG8.out (fun y e=>(World.ownsRow.lt HO7.out y e).1)⟩
     clear HO8 HG8
     go_roundw
     case rel=>exact⟨k+1,L++[e],Hlt.out,by first | rfl | (rw[hwk];rfl) | go_num,HS8.out,HX.out⟩
     case measure=>first | exact HM.out | (rw[hwk];exact HM.out)
  ·obtain rfl:k=S.length:=Nat.le_antisymm hk (Nat.le_of_not_lt hlt)
   have HX:Hid (aN (rws X) S []=some L):=by
    have q:=HI.out
    unfold rE at q
    rw[List.drop_length] at q
    exact q.symm
   clear HI hlt hk
   go_wp2_with fail
   go_ret2
   exact⟨_,_,_,true,rfl,aa HG1.out HO.out.2.2,by rw[HX.out];rfl,fun L' q=>by rw[HX.out] at q;cases q;exact aT HO.out.1 HG1.out.size⟩
theorem gO {X:List Rv}:∀ (S:List Sd) (L L':List Se),(∀ e∈L,e.ro<X.length)→aN (rws X) S L=some L'→∀ e∈L',e.ro<X.length
 | [],L,L',h,q,e,he=>by cases q;exact h e he
 | s :: S,L,L',h,q,e,he=>by
  rw[aN] at q
  cases hf:bj (rws X) s with
  | none=>rw[hf] at q;cases q
  | some d =>
   rw[hf] at q
   simp only at q
   split at q
   ·exact gO S (L++[d]) L' (fun e' he'=>by
     rcases List.mem_append.1 he' with h1 | h1
     ·exact h e' h1
     ·rw[List.mem_singleton.1 h1];exact(A9 hf).1) q e he
   ·cases q
theorem gN {R:List Rw}:∀ (S:List Sd) (L L':List Se),aN R S L=some L'→L'.length=L.length+S.length
 | [],L,L',q=>by cases q;rfl
 | s :: S,L,L',q=>by
  rw[aN] at q
  cases hf:bj R s with
  | none=>rw[hf] at q;cases q
  | some d =>
   rw[hf] at q
   simp only at q
   split at q
   ·rw[gN S (L++[d]) L' q,List.length_append,List.length_singleton,List.length_cons]
    omega
   ·cases q
theorem qn {R:List Rw}:∀ (S:List Sd) (L L':List Se),aN R S L=some L'→L'.map Se.s=L.map Se.s++S
 | [],L,L',q=>by cases q;simp
 | s :: S,L,L',q=>by
  rw[aN] at q
  cases hf:bj R s with
  | none=>rw[hf] at q;cases q
  | some d =>
   rw[hf] at q
   simp only at q
   split at q
   ·have hs:d.s=s:=by
     unfold bj at hf
     cases hr:eO R s.th with
     | none=>rw[hr] at hf;cases hf
     | some i =>
      rw[hr] at hf
      simp only at hf
      split at hf
      ·cases hf;rfl
      ·cases hf
    rw[qn S (L++[d]) L' q,List.map_append,List.append_assoc]
    simp[hs]
   ·cases q
theorem oZ:∀ {l:List Int},(l.Pairwise fun a b=>a≤b)→dif l=true→l.Pairwise fun a b=>a<b
 | [],_,_=>List.Pairwise.nil
 | [a],_,_=>List.pairwise_singleton _ _
 | a :: b :: l,h,d=>by
  rw[jJ] at d
  simp at d
  have h2:=oZ (List.pairwise_cons.1 h).2 d.2
  refine List.pairwise_cons.2 ⟨fun c hc=>?_,h2⟩
  have hab:a<b:=by have:=(List.pairwise_cons.1 h).1 b List.mem_cons_self;omega
  rcases List.mem_cons.1 hc with rfl | hc
  ·exact hab
  ·have:=(List.pairwise_cons.1 h2).1 c hc
   omega
theorem ti {l m:List Int} (hp:l.Perm m) (hl:l.Pairwise fun a b=>a≤b) (hm:m.Pairwise fun a b=>a≤b):l=m :=
 hp.eq_of_pairwise (fun a b _ _ h1 h2=>by omega) hl hm
theorem Cr {l m:List Rw} (hp:l.Perm m) (hl:l.Pairwise fun a b=>a.st<b.st) (hm:m.Pairwise fun a b=>a.st<b.st):l=m :=
 hp.eq_of_pairwise (fun a b _ _ h1 h2=>by omega) hl hm
theorem rY (acc:List Rw):(sortR acc).Pairwise fun a b=>a.st≤b.st:=by
 have:=List.pairwise_mergeSort (le:=fun (x y:Rw)=>decide (x.st≤y.st)) (fun a b c h1 h2=>by simp at *;omega) (fun a b=>by simp;omega) acc
 exact this.imp fun h=>by simpa using h
theorem i7 {R:List Rw} (h:R.Pairwise fun a b=>a.st≤b.st):(bm R).Pairwise fun a b=>a≤b:=by unfold bm;rw[List.pairwise_map];exact h
theorem BZ {n:Int} {cd:Int→Hd×List Pt} {ts:List Th} {fs:List Fe} {acc R:List Rw} (he:ts.length=fs.length) (ha:dE n cd (ts.zip fs) 0 []=some acc) (hp:R.Perm acc) (hs:R.Pairwise fun a b=>a.st≤b.st):bi n cd ts fs=if dif (bm R) then some R else none:=by
 unfold bi
 rw[if_pos he,ha]
 simp only
 have h1:=rY acc
 have h2:(sortR acc).Perm acc:=List.mergeSort_perm _ _
 have e1:bm (sortR acc)=bm R:=ti ((h2.trans hp.symm).map _) (i7 h1) (i7 hs)
 rw[e1]
 cases hd:dif (bm R) with
 | false=>rfl
 | true =>
  rw[if_pos rfl,if_pos rfl]
  congr 1
  refine Cr (h2.trans hp.symm) ?_ ?_
  ·have:=oZ (i7 h1) (by rw[e1];exact hd)
   unfold bm at this
   rwa [List.pairwise_map] at this
  ·have:=oZ (i7 hs) hd
   unfold bm at this
   rwa [List.pairwise_map] at this
theorem zc {n:Int} {cd:Int→Hd×List Pt} {ts:List Th} {fs:List Fe} (h:ts.length≠fs.length∨dE n cd (ts.zip fs) 0 []=none):bi n cd ts fs=none:=by
 unfold bi
 by_cases he:ts.length=fs.length
 ·rw[if_pos he]
  rcases h with h | h
  ·exact absurd he h
  ·rw[h]
 ·rw[if_neg he]
theorem fj.tab {w w':World} {n:Int} {cd:Int→Hd×List Pt} {ts:List Th} {fs:List Fe} {e:Ending} (h:fj w n cd ts fs e w'):∃ p1 m1 c1 p2 m2 c2,e=.returned (.tuple #[tbv (.slice p1 m1 c1) (.slice p2 m2 c2),.bool (bi n cd ts fs).isSome])∧w.grownBy w' none∧∀ R,bi n cd ts fs=some R→∃ X,rws X=R∧TbO w' w.heap.size (.slice p1 m1 c1) (.slice p2 m2 c2) X (aq R fs)∧∀ x∈X,1≤x.r.nu∧x.r.nu≤(fs.length:Int):=by
 obtain⟨p1,m1,c1,p2,m2,c2,b,rfl,g,h⟩:=h
 rcases h with ⟨rfl,h⟩ | ⟨acc,X,he,ha,hp,hs,rfl,T,hn⟩
 ·refine⟨p1,m1,c1,p2,m2,c2,by rw[zc h];rfl,g,fun R q=>?_⟩
  rw[zc h] at q
  cases q
 ·have ht:=BZ he ha hp hs
  cases hd:dif (bm (rws X)) with
  | false =>
   rw[hd] at ht
   refine⟨p1,m1,c1,p2,m2,c2,by rw[ht];rfl,g,fun R q=>?_⟩
   rw[ht] at q
   cases q
  | true =>
   rw[hd] at ht
   refine⟨p1,m1,c1,p2,m2,c2,by rw[ht];rfl,g,fun R q=>?_⟩
   rw[ht] at q
   cases q
   exact⟨X,rfl,T,hn⟩
def lkE (r:Int) (n:Int) (cd:Int→Hd×List Pt) (ts:List Th) (fs:List Fe) (S:List Sd):Int:=if r=0 then (match bi n cd ts fs with | none=>2 | some R=>match aN R S [] with | none=>2 | some _=>0) else r
theorem mg {r n:Int} {cd:Int→Hd×List Pt} {ts:List Th} {fs:List Fe} {S:List Sd} (h:r≠0):lkE r n cd ts fs S=r:=if_neg h
theorem jG {n:Int} {cd:Int→Hd×List Pt} {ts:List Th} {fs:List Fe} {S:List Sd} (h:bi n cd ts fs=none):lkE 0 n cd ts fs S=2:=by unfold lkE;rw[if_pos rfl,h]
theorem gD {n:Int} {cd:Int→Hd×List Pt} {ts:List Th} {fs:List Fe} {S:List Sd} {R:List Rw} (h:bi n cd ts fs=some R) (h2:aN R S []=none):lkE 0 n cd ts fs S=2:=by unfold lkE;rw[if_pos rfl,h];simp only;rw[h2]
theorem eE {n:Int} {cd:Int→Hd×List Pt} {ts:List Th} {fs:List Fe} {S:List Sd} {R:List Rw} {L:List Se} (h:bi n cd ts fs=some R) (h2:aN R S []=some L):lkE 0 n cd ts fs S=0:=by unfold lkE;rw[if_pos rfl,h];simp only;rw[h2]
structure LIn (w:World) (bv vt vf:Value) (r n:Int) (cd:Int→Hd×List Pt) (ts:List Th) (fs:List Fe):Prop where
 ref:∀ X,w.grownBy X none→Calls Tryz.prog 129 #[bv,vt] X fun e w'=>e=.returned (.int .i64 r)∧X.grownBy w' none
 book:r=0→jY w bv n cd∧ts.length≤2048
 things:thR.At w vt ts
 feats:feR.At w vf fs
theorem LIn.keep {w w':World} {bv vt vf:Value} {r n:Int} {cd:Int→Hd×List Pt} {ts:List Th} {fs:List Fe} (h:LIn w bv vt vf r n cd ts fs) (g:w.grownBy w' none):LIn w' bv vt vf r n cd ts fs:=⟨fun X q=>h.ref X (aa g q),fun q=>⟨(h.book q).1.keep g,(h.book q).2⟩,h.things.keep g,h.feats.keep g⟩
theorem zC {n:Int} {cd:Int→Hd×List Pt} {ts:List Th} {fs:List Fe} {R:List Rw} (h:bi n cd ts fs=some R):ts.length=fs.length:=by
 unfold bi at h
 split at h
 ·assumption
 ·cases h
theorem LIn.few {w:World} {bv vt vf:Value} {r n:Int} {cd:Int→Hd×List Pt} {ts:List Th} {fs:List Fe} {R:List Rw} (h:LIn w bv vt vf r n cd ts fs) (hr:r=0) (hR:bi n cd ts fs=some R):fs.length≤4096:=by
 have a:=zC hR
 have b:=(h.book hr).2
 omega
def fR (w:World) (r n:Int) (cd:Int→Hd×List Pt) (ts:List Th) (fs:List Fe) (S:List Sd) (e:Ending) (w':World):Prop:=∃ p1 m1 c1 p2 m2 c2 p3 m3 c3,e=.returned (.tuple #[tbv (.slice p1 m1 c1) (.slice p2 m2 c2),.slice p3 m3 c3,.int .i64 (lkE r n cd ts fs S)])∧w.grownBy w' none∧∀ R L,r=0→bi n cd ts fs=some R→aN R S []=some L→∃ X,rws X=R∧TbO w' w.heap.size (.slice p1 m1 c1) (.slice p2 m2 c2) X (aq R fs)∧(∀ x∈X,1≤x.r.nu∧x.r.nu≤(fs.length:Int))∧dB w' w.heap.size (.slice p3 m3 c3) L
theorem fR.no {w w':World} {r n:Int} {cd:Int→Hd×List Pt} {ts:List Th} {fs:List Fe} {S:List Sd} {q:Int} (h:lkE r n cd ts fs S=q) (hq:q≠0) (g:w.grownBy w' none):fR w r n cd ts fs S (.returned (.tuple #[.agg #[.slice none 0 0,.slice none 0 0],.slice none 0 0,.int .i64 q])) w':=⟨none,0,0,none,0,0,none,0,0,by rw[h];rfl,g,fun R L h0 h1 h2=>by rw[h0,eE h1 h2] at h;exact absurd h.symm hq⟩
theorem gU (bv vt vf vs:Value) (r n:Int) (cd:Int→Hd×List Pt) (ts:List Th) (fs:List Fe) (S:List Sd) (w:World) (I:LIn w bv vt vf r n cd ts fs) (A:sdR.At w vs S) (hl:S.length≤4096):Calls Tryz.prog 59 #[bv,vt,vf,vs] w (fR w r n cd ts fs S):=by
 obtain⟨pt,ct,rfl⟩:=I.things.form
 obtain⟨pf,cf,rfl⟩:=I.feats.form
 obtain⟨pl,cl,rfl⟩:=A.form
 obtain⟨W1,hW1⟩:∃ W1,W1=w.alloc (.cells #[.slice none 0 0,.slice none 0 0] 125):=⟨_,rfl⟩
 have HG1:Hid (w.grownBy W1 none):=by rw[hW1];exact World.grownBy_alloc _ _ none
 have HR:Hid (TbB W1 w.heap.size (.slice none 0 0) (.slice none 0 0)):=by rw[hW1];exact ak w _ _
 have HI:Hid (LIn W1 bv (.slice pt ts.length ct) (.slice pf fs.length cf) r n cd ts fs):=I.keep HG1.out
 have HA:Hid (sdR.At W1 (.slice pl S.length cl) S):=A.keep HG1.out
 have Hl:Hid (S.length≤4096):=hl
 have HRf:=HI.out.ref W1 (ay _ _)
 clear I A hl
 go_enter Tryz.func59,Tryz.ntmps59
 go_upto_region 1 with fail
 rw[←hW1]
 clear hW1
 obtain⟨n0,h0⟩:∃ n0,n0=w.heap.size:=⟨_,rfl⟩
 have Hn0:Hid (w.heap.size≤n0∧n0<W1.heap.size):=⟨by rw[h0];exact Nat.le_refl _,by rw[h0];exact bn HR.out⟩
 simp only[←h0] at HR ⊢
 clear h0
 go_wp2_with fail
 refine HRf.mono ?_
 rintro e2 w2 ⟨rfl,g2⟩
 have HG2:Hid (W1.grownBy w2 none):=g2
 have HR2:Hid (TbB w2 n0 (.slice none 0 0) (.slice none 0 0)):=ai g2 HR.out (by simp)
 clear HRf g2
 by_cases hr:r=0
 ·obtain⟨hB,hts⟩:=HI.out.book hr
  have HLy:=yw bv _ _ n cd ts fs w2 (hB.keep HG2.out) (HI.out.things.keep HG2.out) (HI.out.feats.keep HG2.out) hts
  have e1:(r != 0)=false:=by simpa using hr
  have Hr:Hid (r=0):=hr
  clear hr hB hts
  go_wp2_with fail
  refine HLy.mono ?_
  intro e3 w3 Q3
  obtain⟨p1,m1,c1,p2,m2,c2,rfl,g3,h3⟩:=Q3.tab
  unfold tbv
  obtain⟨V,hV⟩:∃ V,V=w3.alloc (.cells #[.slice p1 m1 c1,.slice p2 m2 c2] 125):=⟨_,rfl⟩
  have HG3:Hid (w2.grownBy V none):=by rw[hV];exact am g3 _
  have HBt:Hid (TbB V w3.heap.size (.slice p1 m1 c1) (.slice p2 m2 c2)):=by rw[hV];exact ak _ _ _
  have HRV:Hid (TbB V n0 (.slice none 0 0) (.slice none 0 0)):=ai HG3.out HR2.out (by simp)
  have HGW:Hid (W1.grownBy V none):=aa HG2.out HG3.out
  have H3:Hid (∀ R,bi n cd ts fs=some R→∃ X,rws X=R∧TbO V w2.heap.size (.slice p1 m1 c1) (.slice p2 m2 c2) X (aq R fs)∧∀ x∈X,1≤x.r.nu∧x.r.nu≤(fs.length:Int)):=fun R q=>by
   obtain⟨X,a,b,c⟩:=h3 R q
   exact⟨X,a,b.grow (by rw[hV];exact World.grownBy_alloc _ _ none),c⟩
  clear HLy Q3 g3 h3
  cases ht:bi n cd ts fs with
  | none =>
   have HX:Hid (lkE r n cd ts fs S=2):=by rw[Hr.out];exact jG ht
   clear ht
   go_upto_region 5 with fail
   rw[←hV]
   obtain⟨r0,r1⟩:=eu HRV.out
   have rf:=fun i=>aA HRV.out i
   clear hV
   go_wp2_with fail
   refine bodyPost_ret (v:=.tuple #[.agg #[.slice none 0 0,.slice none 0 0],.slice none 0 0,.int .i64 2]) (by simp[results,Tryz.results59,go_sem,r0,r1]) rfl (fR.no HX.out (by decide) ?_)
   exact aj (aj (aa HG1.out HGW.out) Hn0.out.1 _ _) Hn0.out.1 _ _
  | some R =>
   obtain⟨X,hX,hT,hnu⟩:=H3.out R ht
   have HT:Hid (rws X=R∧TbO V w2.heap.size (.slice p1 m1 c1) (.slice p2 m2 c2) X (aq R fs)∧∀ x∈X,1≤x.r.nu∧x.r.nu≤(fs.length:Int)):=⟨hX,hT,hnu⟩
   have HLi:=vQ _ _ _ X (aq R fs) S V hT.at (HA.out.keep HGW.out) Hl.out
   unfold kN tbv at HLi
   have Ht:Hid (bi n cd ts fs=some R):=ht
   rw[hX] at HLi
   clear ht H3 hX hT hnu
   go_upto_region 5 with fail
   rw[←hV]
   obtain⟨nc,hnc⟩:∃ nc,nc=w3.heap.size:=⟨_,rfl⟩
   rw[←hnc] at HBt ⊢
   clear hV hnc
   obtain⟨t0,t1⟩:=bH HBt.out
   go_wp2_with fail
   refine HLi.mono ?_
   rintro e5 w5 ⟨p3,m3,c3,b5,rfl,g5,hb5,h5⟩
   have HG5:Hid (V.grownBy w5 none):=g5
   have H5:Hid (∀ L,aN R S []=some L→dB w5 V.heap.size (.slice p3 m3 c3) L):=h5
   have HR5:Hid (TbB w5 n0 (.slice none 0 0) (.slice none 0 0)):=ai g5 HRV.out (by simp)
   have HB5:Hid (TbB w5 nc (.slice p1 m1 c1) (.slice p2 m2 c2)):=ai g5 HBt.out (by simp)
   have HGw5:Hid (w.grownBy w5 none):=aa HG1.out (aa HGW.out g5)
   clear HLi g5 h5 t0 t1
   obtain⟨r0,r1⟩:=eu HR5.out
   have rf:=fun i=>aA HR5.out i
   cases hls:aN R S [] with
   | none =>
    rw[hls] at hb5
    subst hb5
    have HX:Hid (lkE r n cd ts fs S=2):=by rw[Hr.out];exact gD Ht.out hls
    clear hls
    simp only[Option.isSome_none]
    go_wp2_with fail
    refine bodyPost_ret (v:=.tuple #[.agg #[.slice none 0 0,.slice none 0 0],.slice none 0 0,.int .i64 2]) (by simp[results,Tryz.results59,go_sem,r0,r1]) rfl (fR.no HX.out (by decide) ?_)
    exact aj (aj HGw5.out Hn0.out.1 _ _) Hn0.out.1 _ _
   | some L =>
    rw[hls] at hb5
    subst hb5
    have HX:Hid (lkE r n cd ts fs S=0):=by rw[Hr.out];exact eE Ht.out hls
    have Hls:Hid (aN R S []=some L):=hls
    clear hls
    simp only[Option.isSome_some]
    obtain⟨t0,t1⟩:=bH HB5.out
    have Hnc:Hid (n0<V.heap.size∧w.heap.size≤V.heap.size):=⟨Nat.lt_of_lt_of_le Hn0.out.2 HGW.out.size,Nat.le_trans HG1.out.size HGW.out.size⟩
    go_wp2_with fail
    refine bodyPost_ret (v:=.tuple #[.agg #[.slice p1 m1 c1,.slice p2 m2 c2],.slice p3 m3 c3,.int .i64 0]) (by simp[results,Tryz.results59,go_sem,r0,r1]) rfl ⟨p1,m1,c1,p2,m2,c2,p3,m3,c3,by rw[HX.out];rfl,?_,fun R' L' _ q1 q2=>?_⟩
    ·exact aj (aj HGw5.out Hn0.out.1 _ _) Hn0.out.1 _ _
    ·rw[Ht.out] at q1
     cases q1
     rw[Hls.out] at q2
     cases q2
     have q1:=aa (aw w5 n0 0 (.slice p1 m1 c1)) (aw (w5.setCell ⟨n0,0,none⟩ (.slice p1 m1 c1)) n0 1 (.slice p2 m2 c2))
     refine⟨X,HT.out.1,?_,HT.out.2.2,aT (gn (H5.out L Hls.out) q1 Hnc.out.1) Hnc.out.2⟩
     exact((HT.out.2.1.grow HG5.out).far q1 (Nat.lt_of_lt_of_le Hn0.out.2 HG2.out.size)).big (Nat.le_trans HG1.out.size HG2.out.size)
 ·have e1:(r != 0)=true:=by simpa using hr
  have HX:Hid (lkE r n cd ts fs S=r):=mg hr
  have Hr:Hid (r≠0):=hr
  clear hr
  obtain⟨r0,r1⟩:=eu HR2.out
  have rf:=fun i=>aA HR2.out i
  go_wp2_with fail
  refine bodyPost_ret (v:=.tuple #[.agg #[.slice none 0 0,.slice none 0 0],.slice none 0 0,.int .i64 r]) (by simp[results,Tryz.results59,go_sem,r0,r1]) rfl (fR.no HX.out Hr.out ?_)
  exact aj (aj (aa HG1.out HG2.out) Hn0.out.1 _ _) Hn0.out.1 _ _
def bgE (r n:Int) (cd:Int→Hd×List Pt) (ts:List Th) (fs:List Fe) (k:Int):Int:=if lkE r n cd ts fs []=0 then (if 1≤k∧k≤5 then 0 else 2) else lkE r n cd ts fs []
def iN (w:World) (r n:Int) (cd:Int→Hd×List Pt) (ts:List Th) (fs:List Fe) (k:Int) (e:Ending) (w':World):Prop:=∃ p1 m1 c1 p2 m2 c2 p3 m3 c3,e=.returned (.tuple #[tbv (.slice p1 m1 c1) (.slice p2 m2 c2),.slice p3 m3 c3,.int .i64 (bgE r n cd ts fs k)])∧w.grownBy w' none∧∀ R,r=0→1≤k∧k≤5→bi n cd ts fs=some R→∃ X,rws X=R∧TbO w' w.heap.size (.slice p1 m1 c1) (.slice p2 m2 c2) X (aq R fs)∧(∀ x∈X,1≤x.r.nu∧x.r.nu≤(fs.length:Int))∧dB w' w.heap.size (.slice p3 m3 c3) (cU R (aq R fs) k)
theorem ib {r n:Int} {cd:Int→Hd×List Pt} {ts:List Th} {fs:List Fe} (h:lkE r n cd ts fs []=0):r=0∧∃ R,bi n cd ts fs=some R:=by
 unfold lkE at h
 split at h
 ·rename_i h0
  refine⟨h0,?_⟩
  cases ht:bi n cd ts fs with
  | none=>rw[ht] at h;cases h
  | some R=>exact⟨R,rfl⟩
 ·rename_i h0
  exact absurd h h0
theorem eI {n:Int} {cd:Int→Hd×List Pt} {ts:List Th} {fs:List Fe} {R:List Rw} (h:bi n cd ts fs=some R):lkE 0 n cd ts fs []=0:=eE (L:=[]) h rfl
theorem iN.no {w w':World} {r n:Int} {cd:Int→Hd×List Pt} {ts:List Th} {fs:List Fe} {k:Int} {q:Int} (h:bgE r n cd ts fs k=q) (hq:q≠0) (g:w.grownBy w' none):iN w r n cd ts fs k (.returned (.tuple #[.agg #[.slice none 0 0,.slice none 0 0],.slice none 0 0,.int .i64 q])) w':=⟨none,0,0,none,0,0,none,0,0,by rw[h];rfl,g,fun R h0 h1 h2=>by unfold bgE at h;rw[h0,if_pos (eI h2),if_pos h1] at h;exact absurd h.symm hq⟩
theorem mN (bv vt vf:Value) (r n:Int) (cd:Int→Hd×List Pt) (ts:List Th) (fs:List Fe) (k:Int) (w:World) (I:LIn w bv vt vf r n cd ts fs):Calls Tryz.prog 67 #[bv,vt,vf,.int .i64 k] w (iN w r n cd ts fs k):=by
 obtain⟨pt,ct,rfl⟩:=I.things.form
 obtain⟨pf,cf,rfl⟩:=I.feats.form
 obtain⟨W1,hW1⟩:∃ W1,W1=w.alloc (.cells #[.slice none 0 0,.slice none 0 0] 125):=⟨_,rfl⟩
 have HG1:Hid (w.grownBy W1 none):=by rw[hW1];exact World.grownBy_alloc _ _ none
 have HR:Hid (TbB W1 w.heap.size (.slice none 0 0) (.slice none 0 0)):=by rw[hW1];exact ak w _ _
 have HLk:=gU bv _ _ (.slice none 0 0) r n cd ts fs [] W1 (I.keep HG1.out) (aB.At.nil _ _) (Nat.zero_le _)
 unfold fR tbv at HLk
 clear I
 go_enter Tryz.func67,Tryz.ntmps67
 go_upto_region 1 with fail
 rw[←hW1]
 clear hW1
 obtain⟨n0,h0⟩:∃ n0,n0=w.heap.size:=⟨_,rfl⟩
 have Hn0:Hid (w.heap.size≤n0∧n0<W1.heap.size):=⟨by rw[h0];exact Nat.le_refl _,by rw[h0];exact bn HR.out⟩
 simp only[←h0] at HR ⊢
 clear h0
 go_wp2_with fail
 refine HLk.mono ?_
 rintro e2 w2 ⟨p1,m1,c1,p2,m2,c2,p3,m3,c3,rfl,g2,h2⟩
 obtain⟨q,hq⟩:∃ q,q=lkE r n cd ts fs []:=⟨_,rfl⟩
 have Hq:Hid (q=lkE r n cd ts fs []):=hq
 rw[←hq]
 obtain⟨V,hV⟩:∃ V,V=w2.alloc (.cells #[.slice p1 m1 c1,.slice p2 m2 c2] 125):=⟨_,rfl⟩
 have HGV:Hid (W1.grownBy V none):=by rw[hV];exact am g2 _
 have HBt:Hid (TbB V w2.heap.size (.slice p1 m1 c1) (.slice p2 m2 c2)):=by rw[hV];exact ak _ _ _
 have HRV:Hid (TbB V n0 (.slice none 0 0) (.slice none 0 0)):=ai HGV.out HR.out (by simp)
 have H2:Hid (∀ R,r=0→bi n cd ts fs=some R→∃ X,rws X=R∧TbO V W1.heap.size (.slice p1 m1 c1) (.slice p2 m2 c2) X (aq R fs)∧∀ x∈X,1≤x.r.nu∧x.r.nu≤(fs.length:Int)):=fun R a b=>by
  obtain⟨X,x1,x2,x3,_⟩:=h2 R [] a b rfl
  exact⟨X,x1,x2.grow (by rw[hV];exact World.grownBy_alloc _ _ none),x3⟩
 have Hsz:Hid (W1.heap.size≤w2.heap.size):=g2.size
 clear HLk g2 h2 hq
 go_upto_region 2 with fail
 rw[←hV]
 obtain⟨nb,hnb⟩:∃ nb,nb=w2.heap.size:=⟨_,rfl⟩
 rw[←hnb] at HBt ⊢
 have Hnb:Hid (some nb≠some n0):=by show _≠_;rw[hnb];intro q;have:=Option.some.inj q;have:=Hn0.out.2;have:=Hsz.out;omega
 clear hV hnb
 obtain⟨r0,r1⟩:=eu HRV.out
 have rf:=fun i=>aA HRV.out i
 by_cases hq0:q=0
 ·have e1:(q != 0)=false:=by simpa using hq0
  obtain⟨hr0,R,hR⟩:=ib (Hq.out.symm.trans hq0)
  obtain⟨X,hX,hT,hnu⟩:=H2.out R hr0 hR
  have HT:Hid (rws X=R∧TbO V W1.heap.size (.slice p1 m1 c1) (.slice p2 m2 c2) X (aq R fs)∧∀ x∈X,1≤x.r.nu∧x.r.nu≤(fs.length:Int)):=⟨hX,hT,hnu⟩
  have HtR:Hid (bi n cd ts fs=some R):=hR
  have Hq0:Hid (lkE r n cd ts fs []=0):=Hq.out.symm.trans hq0
  clear hr0 hX hT hnu hR H2 hq0
  by_cases hk1:k<1
  ·have HX:Hid (bgE r n cd ts fs k=2):=by show _=_;unfold bgE;rw[if_pos Hq0.out,if_neg (by omega)]
   go_wp2_with fail
   refine bodyPost_ret (v:=.tuple #[.agg #[.slice none 0 0,.slice none 0 0],.slice none 0 0,.int .i64 2]) (by simp[results,Tryz.results67,go_sem,r0,r1]) rfl (iN.no HX.out (by decide) ?_)
   exact aj (aj (aa HG1.out HGV.out) Hn0.out.1 _ _) Hn0.out.1 _ _
  ·have e2:decide (k<1)=false:=decide_eq_false hk1
   by_cases hk2:5<k
   ·have HX:Hid (bgE r n cd ts fs k=2):=by show _=_;unfold bgE;rw[if_pos Hq0.out,if_neg (by omega)]
    clear hk1
    go_wp2_with fail
    refine bodyPost_ret (v:=.tuple #[.agg #[.slice none 0 0,.slice none 0 0],.slice none 0 0,.int .i64 2]) (by simp[results,Tryz.results67,go_sem,r0,r1]) rfl (iN.no HX.out (by decide) ?_)
    exact aj (aj (aa HG1.out HGV.out) Hn0.out.1 _ _) Hn0.out.1 _ _
   ·have e3:decide (5<k)=false:=decide_eq_false hk2
    have HX:Hid (bgE r n cd ts fs k=0):=by show _=_;unfold bgE;rw[if_pos Hq0.out,if_pos (by omega)]
    have HE:=oV _ _ X (aq R fs) k V.drew (HT.out.2.1.at.keep (ag _))
    unfold tbv at HE
    obtain⟨t0,t1⟩:=bH HBt.out
    have dd:some nb≠some n0:=Hnb.out
    clear hk1 hk2
    go_upto_region 6 with fail
    refine wp_region_held_drew (S:=fun w'=>V.grownBy w' (some n0)) (by kernel_rfl) (bP _ _) (fun hHeld=>?_)
    refine QT 0 rfl (by intro w0 hSw;have t0:=hSw.cell t0 dd;have t1:=hSw.cell t1 dd;go_simp;try with_reducible rfl) ?_
    go_frame
    refine QT 1 rfl (by intro w0 hSw;have t0:=hSw.cell t0 dd;have t1:=hSw.cell t1 dd;go_simp;try with_reducible rfl) ?_
    go_frame
    refine QZ 2 rfl ?_
    go_frame
    refine QR 3 rfl (fun K hK=>?_)
    go_simp
    go_at_call 142
    refine(HE).mono ?_
    rintro e5 w5 ⟨v5,rfl,o5,g5⟩
    obtain⟨p5,c5,rfl⟩:=o5.form
    have HG5:Hid (V.grownBy w5 none):=aa (ag _) g5
    have HO5:Hid (dB w5 V.heap.size (.slice p5 (cU (rws X) (aq R fs) k).length c5) (cU (rws X) (aq R fs) k)):=o5
    obtain⟨m5,hm5⟩:∃ m5,m5=(cU (rws X) (aq R fs) k).length:=⟨_,rfl⟩
    rw[←hm5] at HO5 ⊢
    have HO5':Hid (w5.ownsRow V.heap.size 131 11 (.slice p5 m5 c5) (cU (rws X) (aq R fs) k).length (seR.cs (cU (rws X) (aq R fs) k))):=HO5.out
    have HR5:Hid (TbB w5 n0 (.slice none 0 0) (.slice none 0 0)):=ai HG5.out HRV.out (by simp)
    clear g5 o5 HE hm5 t0 t1 r0 r1 rf
    obtain⟨r0,r1⟩:=eu HR5.out
    have rf:=fun i=>aA HR5.out i
    refine hK.out _ _ (dq HG5.out _) (fun hHeld2=>?_)
    clear hK K
    (try go_frame)
    refine QR 4 rfl (fun K9 hK=>?_)
    go_simp
    refine hK.out _ _ (aa (dq HG5.out _) (aa (aw _ _ _ _) (aw _ _ _ _))) (fun hHeld3=>?_)
    clear hK K9
    (try go_frame)
    refine QZ 5 rfl ?_
    go_frame
    refine QZ 6 rfl ?_
    go_frame
    refine QD ?_
    go_wp2_with fail
    refine bodyPost_ret (v:=.tuple #[.agg #[.slice p1 m1 c1,.slice p2 m2 c2],.slice p5 m5 c5,.int .i64 0]) (by simp[results,Tryz.results67,go_sem,r0,r1]) rfl ⟨p1,m1,c1,p2,m2,c2,p5,m5,c5,by rw[HX.out];rfl,?_,fun R' _ _ q1=>?_⟩
    ·exact aj (aj (aa HG1.out (aa HGV.out HG5.out)) Hn0.out.1 _ _) Hn0.out.1 _ _
    ·rw[HtR.out] at q1
     cases q1
     have q1:=aa (aw w5 n0 0 (.slice p1 m1 c1)) (aw (w5.setCell ⟨n0,0,none⟩ (.slice p1 m1 c1)) n0 1 (.slice p2 m2 c2))
     refine⟨X,HT.out.1,((HT.out.2.1.grow HG5.out).far q1 Hn0.out.2).big HG1.out.size,HT.out.2.2,?_⟩
     rw[←HT.out.1]
     rw[HT.out.1]
     rw[show aq R fs=aq R fs from rfl]
     have q2:=aT (gn HO5'.out q1 (Nat.lt_of_lt_of_le Hn0.out.2 HGV.out.size)) (Nat.le_trans HG1.out.size HGV.out.size)
     rw[HT.out.1] at q2
     exact q2
 ·have e1:(q != 0)=true:=by simpa using hq0
  have HX:Hid (bgE r n cd ts fs k=q):=by show _=_;unfold bgE;rw[if_neg (by rw[←Hq.out];exact hq0)];exact Hq.out.symm
  have Hq0:Hid (q≠0):=hq0
  clear hq0
  go_wp2_with fail
  refine bodyPost_ret (v:=.tuple #[.agg #[.slice none 0 0,.slice none 0 0],.slice none 0 0,.int .i64 q]) (by simp[results,Tryz.results67,go_sem,r0,r1]) rfl (iN.no HX.out Hq0.out ?_)
  exact aj (aj (aa HG1.out HGV.out) Hn0.out.1 _ _) Hn0.out.1 _ _
end Go.Proofs.YtjmepebbcnhalaaGreat
