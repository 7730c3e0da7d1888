import Derived.Test.YtjmepebbcnhalaaGreatV27
namespace Go.Proofs.YtjmepebbcnhalaaGreat
set_option maxRecDepth 100000
set_option maxHeartbeats 4000000
open Go.RowKit
variable {R:List Rw} {S:List Sd} {L:List Se} {s:Sd} {e:Se} {w w':World} {n r q k:Int} {cd:Int→Hd×List Pt} {ts:List Th} {fs:List Fe} {vt vf:Value}
def xW (R:List Rw) (S:List Sd) (k:Nat) (L:List Se):Prop:=bn R (S.drop k) L=bn R S []
theorem xW.step {k:Nat} (h:xW R S k L) (hk:k<S.length):bn R S []=(match bH R S[k] with | some e=>if dV e L then bn R (S.drop (k+1)) (L++[e]) else none | none=>none):=by
 unfold xW at h
 rw[List.drop_eq_getElem_cons hk] at h
 rw[←h]
 rfl
theorem Ac {X:List Rv} (h:bH (rws X) s=some e):e.ro<X.length∧e.s=s:=by
 unfold bH at h
 cases hr:eV (rws X) s.th with
 | none=>rw[hr] at h;cases h
 | some i =>
  rw[hr] at h
  simp only at h
  split at h
  ·cases h
   exact⟨tn hr,rfl⟩
  ·cases h
theorem wd {n:Nat} (h:n≤4096):n+1≤maxLen∧(n+1)*64≤140737488355328:=by unfold maxLen;omega
def lI (w:World) (R:List Rw) (S:List Sd) (e:Ending) (w':World):Prop:=∃ p m c b,e=.returned (.tuple #[.slice p m c,.bool b])∧w.grownBy w' none∧b=(bn R S []).isSome∧∀ L,bn R S []=some L→eG w' w.heap.size (.slice p m c) L
theorem lI.no (h:bn R S []=none) (g:w.grownBy w' none):lI w R S (.returned (.tuple #[.slice none 0 0,.bool false])) w':=⟨none,0,0,false,rfl,g,by rw[h];rfl,fun L q=>by rw[h] at q;cases q⟩
theorem yw (vr vf v:Value) (X:List Rv) (F:List Fe) (S:List Sd) (w:World) (T:dX w vr vf X F) (A:sdR.At w v S) (hl:S.length≤4096):Calls Tryz.prog 131 #[tbv vr vf,v] w (lI w (rws X) S):=by
 obtain⟨i0,hi,hz0,hz1,hz2⟩:=info_parts Tryz.linfoS
 obtain⟨pr,cr,rfl⟩:=T.rows.form
 obtain⟨pf,cf,rfl⟩:=T.fs.form
 obtain⟨pl,cl,rfl⟩:=A.form
 obtain⟨W1,hW1⟩:=Qe (w.alloc (.cells #[.slice pr X.length cr,.slice pf F.length cf] 125))
 have HG1:Hid (w.grownBy W1 none):=by rw[hW1];exact QG
 have HB:Hid (TbB W1 w.heap.size (.slice pr X.length cr) (.slice pf F.length cf)):=by rw[hW1];exact ak w _ _
 have HT:Hid (dX W1 (.slice pr X.length cr) (.slice pf F.length cf) X F):=T.keep HG1.out
 have HA:Hid (sdR.At W1 (.slice pl S.length cl) S):=A.keep HG1.out
 have Hl:Hid (S.length≤4096):=hl
 unfold tbv
 clear T A hl
 go_enter Tryz.func131,Tryz.ntmps131
 go_upto_region 1 with fail
 rw[←hW1]
 clear hW1
 obtain⟨n0,h0⟩:=Qe (w.heap.size)
 simp only[←h0] at HB ⊢
 clear h0
 go_wp2_with fail
 go_loopw [6,13] (fun v i wr=>∃ (k:Nat) (L:List Se),k≤S.length∧i=.int .i64 (k:Int)∧Hid (eG wr W1.heap.size v L∧L.length≤k∧W1.grownBy wr none)∧Hid (xW (rws X) S k L)) (fun _ i _=>S.length - (intOf i).toNat)
 case atStart=>exact⟨0,[],Q0 _,rfl,⟨az.Own.nil _ _ _ _,Qj _,ay _ _⟩,rfl⟩
 case round =>
  obtain⟨k,L,hk,rfl,HO,HI⟩:=hrel
  obtain⟨U,hU⟩:=Qe (wr)
  subst hU
  obtain⟨q,cq,rfl⟩:=HO.out.1.form
  by_cases hlt:k<S.length
  ·obtain⟨g,off,cap,e1,R⟩:=gP (HA.out.keep HO.out.2.2) hlt
   cases e1
   have HStep:Hid (_=_):=HI.out.step hlt
   obtain⟨s,hs⟩:=Qe (S[k])
   rw[←hs] at R HStep
   obtain⟨c0,c1,c2,c3,c4,c5,c6,c7,c8,c9⟩:=bN R
   obtain⟨V,hV⟩:=Qe (U.alloc (.cells #[.int .i64 s.th,.int .i64 s.pl,.int .u8 s.wh.wn,.int .u8 s.wh.vb,.int .u8 s.wh.wm,.int .i64 s.wh.ct,.int .u8 s.wh.su,.int .u8 s.wh.tr,.int .u8 s.wh.mr,.string s.wh.nm] 64))
   have HGV:Hid (U.grownBy V none):=by rw[hV];exact QG
   have HBs:Hid (SdB V U.heap.size s):=by rw[hV];exact ak _ _ _
   have HOV:Hid (eG V W1.heap.size (.slice q L.length cq) L∧L.length≤k∧W1.grownBy V none):=⟨HO.out.1.grow HGV.out,HO.out.2.1,ae HO.out.2.2 HGV.out⟩
   have hlt':(k:Int)<S.length:=Int.ofNat_lt.2 hlt
   have Hlt:Hid (k<S.length):=hlt
   have hwk:=aK (k:=k) (Ql (Nat.le_of_lt hlt) Hl.out)
   have HM:Hid (S.length - (intOf (.int .i64 ((k:Int)+1))).toNat<S.length - (intOf (.int .i64 (k:Int))).toNat):=bj hlt
   have HFd:=yW _ _ X F s V (HT.out.keep HOV.out.2.2)
   unfold kW tbv sdv at HFd
   obtain⟨a0,a1⟩:=bP (show TbB V n0 _ _ from ag HOV.out.2.2 HB.out (by simp))
   clear hs R hlt hk HO HI
   go_upto_region 5 with fail
   rw[←hV]
   obtain⟨nb,hnb⟩:=Qe (U.heap.size)
   rw[←hnb] at HBs ⊢
   clear hV hnb c0 c1 c2 c3 c4 c5 c6 c7 c8 c9
   obtain⟨s0,s1,s2,s3,s4,s5,s6,s7,s8,s9⟩:=bS HBs.out
   cases hff:bH (rws X) s with
   | none =>
    have HX:Hid (bn (rws X) S []=none):=by show _=_;rw[HStep.out,hff]
    rw[hff] at HFd
    unfold sev at HFd
    simp only[Option.getD_none,Option.isSome_none] at HFd
    clear hff
    go_wp2_with (go_at_call 197;refine HFd.mono ?_;rintro e5 w5 ⟨rfl,g5⟩;have HG5:Hid (V.grownBy w5 none):=g5;clear HFd g5 a0 a1 s0 s1 s2 s3 s4 s5 s6 s7 s8 s9)
    go_ret2
    exact lI.no HX.out (al (ae HG1.out (ae HOV.out.2.2 HG5.out)) _)
   | some e =>
    rw[hff] at HFd
    unfold sev at HFd
    simp only[Option.getD_some,Option.isSome_some] at HFd
    have HSt2:Hid (bn (rws X) S []=if dV e L then bn (rws X) (S.drop (k+1)) (L++[e]) else none):=by show _=_;rw[HStep.out,hff]
    clear hff
    go_wp2_with fail
    refine HFd.mono ?_
    rintro e5 w5 ⟨rfl,g5⟩
    obtain⟨V6,hV6⟩:=Qe (w5.alloc (.cells #[.int .i64 e.s.th,.int .i64 e.s.pl,.int .u8 e.s.wh.wn,.int .u8 e.s.wh.vb,.int .u8 e.s.wh.wm,.int .i64 e.s.wh.ct,.int .u8 e.s.wh.su,.int .u8 e.s.wh.tr,.int .u8 e.s.wh.mr,.string e.s.wh.nm,.int .i64 (e.ro:Int)] 131))
    have HG6:Hid (V.grownBy V6 none):=by rw[hV6];exact al g5 _
    have HO6:Hid (eG V6 W1.heap.size (.slice q L.length cq) L∧L.length≤k∧W1.grownBy V6 none):=⟨HOV.out.1.grow HG6.out,HOV.out.2.1,ae HOV.out.2.2 HG6.out⟩
    have HBe:Hid (SeB V6 w5.heap.size e):=by rw[hV6];exact ak _ _ _
    have HJ:=we e (.slice q L.length cq) L V6 HO6.out.1.at (Ql HOV.out.2.1 (Ql (Nat.le_of_lt Hlt.out) Hl.out))
    obtain⟨jb,hjb⟩:=Qe (dV e L)
    rw[←hjb] at HJ HSt2
    unfold sev at HJ
    clear HFd g5 a0 a1 s0 s1 s2 s3 s4 s5 s6 s7 s8 s9 hjb
    go_upto_region 6 with fail
    rw[←hV6]
    obtain⟨nc,hnc⟩:=Qe (w5.heap.size)
    rw[←hnc] at HBe ⊢
    clear hV6 hnc
    obtain⟨o0,o1,o2,o3,o4,o5,o6,o7,o8,o9,o10⟩:=fh HBe.out
    cases jb with
    | false =>
     have HX:Hid (bn (rws X) S []=none):=HSt2.out
     go_wp2_with (go_at_call 198;refine HJ.mono ?_;rintro e7 w7 ⟨rfl,g7⟩;have HG7:Hid (V6.grownBy w7 none):=g7;clear HJ g7 o0 o1 o2 o3 o4 o5 o6 o7 o8 o9 o10)
     go_ret2
     exact lI.no HX.out (ae HG1.out (ae HO6.out.2.2 HG7.out))
    | true =>
     have HX:Hid (xW (rws X) S (k+1) (L++[e])):=HSt2.out.symm
     go_wp2_with fail
     refine HJ.mono ?_
     rintro e7 w7 ⟨rfl,g7⟩
     have HG7:Hid (V6.grownBy w7 none):=g7
     have HO7:Hid (w7.ownsRow W1.heap.size 131 11 (.slice q L.length cq) L.length (seR.cs L)):=HO6.out.1.grow g7
     have HGW:Hid (W1.grownBy w7 none):=ae HO6.out.2.2 g7
     have HBe7:Hid (SeB w7 nc e):=ag g7 HBe.out (by simp)
     have HLn:Hid (L.length+1≤maxLen∧(L.length+1)*64≤140737488355328):=wd (Ql HOV.out.2.1 (Ql (Nat.le_of_lt Hlt.out) Hl.out))
     clear HJ g7 o0 o1 o2 o3 o4 o5 o6 o7 o8 o9 o10
     obtain⟨o0,o1,o2,o3,o4,o5,o6,o7,o8,o9,o10⟩:=fh HBe7.out
     go_wp2_with (at_builtin;refine bE (by rfl) (.tmp 31) (.tmp 33) 126 rfl W1.heap.size 131 i0 _ 11 64 Tryz.underlying126 hi hz0 hz1 hz2 rfl (by decide) _ L.length (seR.cs L) rfl (World.ownsRow.alloc HO7.out _) _ 1 (sec e) rfl (B9 w7 e) (ni _) HLn.out.1 HLn.out.2 (by rw[World.size_alloc];exact Nat.le_succ_of_le HGW.out.size) ?_;intro v8 w8 o8 g8 _;have HO8:Hid _:=o8;have HG8:Hid _:=g8;clear o8 g8)
     have HS8:Hid (eG w8 W1.heap.size v8 (L++[e])∧(L++[e]).length≤k+1∧W1.grownBy w8 none):=⟨az.more HO8.out rfl,by rw[Qa,List.length_singleton];exact Nat.succ_le_succ HOV.out.2.1,ar (al HGW.out _) HG8.out (fun y e=>(World.ownsRow.lt HO7.out y e).1)⟩
     clear HO8 HG8
     go_roundw
     case rel=>exact⟨k+1,L++[e],Hlt.out,by first | rfl | (rw[hwk];rfl) | go_num,HS8.out,HX.out⟩
     case measure=>first | exact HM.out | (rw[hwk];exact HM.out)
  ·obtain rfl:k=S.length:=Nat.le_antisymm hk (Nat.le_of_not_lt hlt)
   have HX:Hid (bn (rws X) S []=some L):=by
    have q:=HI.out
    unfold xW at q
    rw[List.drop_length] at q
    exact q.symm
   clear HI hlt hk
   go_wp2_with fail
   go_ret2
   exact⟨_,_,_,true,rfl,ae HG1.out HO.out.2.2,by rw[HX.out];rfl,fun L' q=>by rw[HX.out] at q;cases q;exact aP HO.out.1 HG1.out.size⟩
theorem oB {X:List Rv}:∀ (S:List Sd) (L L':List Se),(∀ e∈L,e.ro<X.length)→bn (rws X) S L=some L'→∀ e∈L',e.ro<X.length
 | [],L,L',h,q,e,he=>by cases q;exact h e he
 | s :: S,L,L',h,q,e,he=>by
  rw[bn] at q
  cases hf:bH (rws X) s with
  | none=>rw[hf] at q;cases q
  | some d =>
   rw[hf] at q
   simp only at q
   split at q
   ·exact oB S (L++[d]) L' (fun e' he'=>by
     rcases List.mem_append.1 he' with h1 | h1
     ·exact h e' h1
     ·rw[List.mem_singleton.1 h1];exact(Ac hf).1) q e he
   ·cases q
theorem kY {R:List Rw}:∀ (S:List Sd) (L L':List Se),bn R S L=some L'→L'.length=L.length+S.length
 | [],L,L',q=>by cases q;rfl
 | s :: S,L,L',q=>by
  rw[bn] at q
  cases hf:bH R s with
  | none=>rw[hf] at q;cases q
  | some d =>
   rw[hf] at q
   simp only at q
   split at q
   ·rw[kY S (L++[d]) L' q,Qa,List.length_singleton,List.length_cons]
    omega
   ·cases q
theorem xD {R:List Rw}:∀ (S:List Sd) (L L':List Se),bn R S L=some L'→L'.map Se.s=L.map Se.s++S
 | [],L,L',q=>by cases q;simp
 | s :: S,L,L',q=>by
  rw[bn] at q
  cases hf:bH R s with
  | none=>rw[hf] at q;cases q
  | some d =>
   rw[hf] at q
   simp only at q
   split at q
   ·have hs:d.s=s:=by
     unfold bH at hf
     cases hr:eV R s.th with
     | none=>rw[hr] at hf;cases hf
     | some i =>
      rw[hr] at hf
      simp only at hf
      split at hf
      ·cases hf;rfl
      ·cases hf
    rw[xD S (L++[d]) L' q,List.map_append,List.append_assoc]
    simp[hs]
   ·cases q
theorem qU:∀ {l:List Int},(l.Pairwise fun a b=>a≤b)→dif l=true→l.Pairwise fun a b=>a<b
 | [],_,_=>List.Pairwise.nil
 | [a],_,_=>List.pairwise_singleton _ _
 | a :: b :: l,h,d=>by
  rw[kr] at d
  simp at d
  have h2:=qU (List.pairwise_cons.1 h).2 d.2
  refine List.pairwise_cons.2 ⟨fun c hc=>?_,h2⟩
  have hab:a<b:=by have:=(List.pairwise_cons.1 h).1 b List.mem_cons_self;omega
  rcases List.mem_cons.1 hc with rfl | hc
  ·exact hab
  ·have:=(List.pairwise_cons.1 h2).1 c hc
   omega
theorem ug {l m:List Int} (hp:l.Perm m) (hl:l.Pairwise fun a b=>a≤b) (hm:m.Pairwise fun a b=>a≤b):l=m :=
 hp.eq_of_pairwise (fun a b _ _ h1 h2=>by omega) hl hm
theorem F9 {l m:List Rw} (hp:l.Perm m) (hl:l.Pairwise fun a b=>a.st<b.st) (hm:m.Pairwise fun a b=>a.st<b.st):l=m :=
 hp.eq_of_pairwise (fun a b _ _ h1 h2=>by omega) hl hm
theorem sC (acc:List Rw):(sortR acc).Pairwise fun a b=>a.st≤b.st:=by
 have:=List.pairwise_mergeSort (le:=fun (x y:Rw)=>decide (x.st≤y.st)) (fun a b c h1 h2=>by simp at *;omega) (fun a b=>by simp;omega) acc
 exact this.imp fun h=>by simpa using h
theorem ie (h:R.Pairwise fun a b=>a.st≤b.st):(bA R).Pairwise fun a b=>a≤b:=by unfold bA;rw[List.pairwise_map];exact h
theorem F7 {acc:List Rw} (he:ts.length=fs.length) (ha:dz n cd (ts.zip fs) 0 []=some acc) (hp:R.Perm acc) (hs:R.Pairwise fun a b=>a.st≤b.st):bw n cd ts fs=if dif (bA R) then some R else none:=by
 unfold bw
 rw[if_pos he,ha]
 simp only
 have h1:=sC acc
 have h2:(sortR acc).Perm acc:=List.mergeSort_perm _ _
 have e1:bA (sortR acc)=bA R:=ug ((h2.trans hp.symm).map _) (ie h1) (ie hs)
 rw[e1]
 cases hd:dif (bA R) with
 | false=>rfl
 | true =>
  rw[if_pos rfl,if_pos rfl]
  congr 1
  refine F9 (h2.trans hp.symm) ?_ ?_
  ·have:=qU (ie h1) (by rw[e1];exact hd)
   unfold bA at this
   rwa [List.pairwise_map] at this
  ·have:=qU (ie hs) hd
   unfold bA at this
   rwa [List.pairwise_map] at this
theorem BF (h:ts.length≠fs.length∨dz n cd (ts.zip fs) 0 []=none):bw n cd ts fs=none:=by
 unfold bw
 by_cases he:ts.length=fs.length
 ·rw[if_pos he]
  rcases h with h | h
  ·exact absurd he h
  ·rw[h]
 ·rw[if_neg he]
theorem fm.tab {e:Ending} (h:fm w n cd ts fs e w'):∃ p1 m1 c1 p2 m2 c2,e=.returned (.tuple #[tbv (.slice p1 m1 c1) (.slice p2 m2 c2),.bool (bw n cd ts fs).isSome])∧w.grownBy w' none∧∀ R,bw n cd ts fs=some R→∃ X,rws X=R∧TbO w' w.heap.size (.slice p1 m1 c1) (.slice p2 m2 c2) X (aq R fs)∧∀ x∈X,1≤x.r.nu∧x.r.nu≤(fs.length:Int):=by
 obtain⟨p1,m1,c1,p2,m2,c2,b,rfl,g,h⟩:=h
 rcases h with ⟨rfl,h⟩ | ⟨acc,X,he,ha,hp,hs,rfl,T,hn⟩
 ·refine⟨p1,m1,c1,p2,m2,c2,by rw[BF h];rfl,g,fun R q=>?_⟩
  rw[BF h] at q
  cases q
 ·have ht:=F7 he ha hp hs
  cases hd:dif (bA (rws X)) with
  | false =>
   rw[hd] at ht
   refine⟨p1,m1,c1,p2,m2,c2,by rw[ht];rfl,g,fun R q=>?_⟩
   rw[ht] at q
   cases q
  | true =>
   rw[hd] at ht
   refine⟨p1,m1,c1,p2,m2,c2,by rw[ht];rfl,g,fun R q=>?_⟩
   rw[ht] at q
   cases q
   exact⟨X,rfl,T,hn⟩
def lkE (r:Int) (n:Int) (cd:Int→Hd×List Pt) (ts:List Th) (fs:List Fe) (S:List Sd):Int:=if r=0 then (match bw n cd ts fs with | none=>2 | some R=>match bn R S [] with | none=>2 | some _=>0) else r
theorem mX (h:r≠0):lkE r n cd ts fs S=r:=if_neg h
theorem kD (h:bw n cd ts fs=none):lkE 0 n cd ts fs S=2:=by unfold lkE;rw[if_pos rfl,h]
theorem nl (h:bw n cd ts fs=some R) (h2:bn R S []=none):lkE 0 n cd ts fs S=2:=by unfold lkE;rw[if_pos rfl,h];simp only;rw[h2]
theorem gN (h:bw n cd ts fs=some R) (h2:bn R S []=some L):lkE 0 n cd ts fs S=0:=by unfold lkE;rw[if_pos rfl,h];simp only;rw[h2]
structure LIn (w:World) (bv vt vf:Value) (r n:Int) (cd:Int→Hd×List Pt) (ts:List Th) (fs:List Fe):Prop where
 ref:∀ X,w.grownBy X none→Calls Tryz.prog 129 #[bv,vt] X fun e w'=>e=.returned (.int .i64 r)∧X.grownBy w' none
 book:r=0→kQ w bv n cd∧ts.length≤2048
 things:thR.At w vt ts
 feats:feR.At w vf fs
theorem LIn.keep {bv:Value} (h:LIn w bv vt vf r n cd ts fs) (g:w.grownBy w' none):LIn w' bv vt vf r n cd ts fs:=⟨fun X q=>h.ref X (ae g q),fun q=>⟨(h.book q).1.keep g,(h.book q).2⟩,h.things.keep g,h.feats.keep g⟩
theorem BK (h:bw n cd ts fs=some R):ts.length=fs.length:=by
 unfold bw at h
 split at h
 ·assumption
 ·cases h
theorem LIn.few {bv:Value} (h:LIn w bv vt vf r n cd ts fs) (hr:r=0) (hR:bw n cd ts fs=some R):fs.length≤4096:=by
 have a:=BK hR
 have b:=(h.book hr).2
 omega
def iD (w:World) (r n:Int) (cd:Int→Hd×List Pt) (ts:List Th) (fs:List Fe) (S:List Sd) (e:Ending) (w':World):Prop:=∃ p1 m1 c1 p2 m2 c2 p3 m3 c3,e=.returned (.tuple #[tbv (.slice p1 m1 c1) (.slice p2 m2 c2),.slice p3 m3 c3,.int .i64 (lkE r n cd ts fs S)])∧w.grownBy w' none∧∀ R L,r=0→bw n cd ts fs=some R→bn R S []=some L→∃ X,rws X=R∧TbO w' w.heap.size (.slice p1 m1 c1) (.slice p2 m2 c2) X (aq R fs)∧(∀ x∈X,1≤x.r.nu∧x.r.nu≤(fs.length:Int))∧eG w' w.heap.size (.slice p3 m3 c3) L
theorem iD.no (h:lkE r n cd ts fs S=q) (hq:q≠0) (g:w.grownBy w' none):iD w r n cd ts fs S (.returned (.tuple #[.agg #[.slice none 0 0,.slice none 0 0],.slice none 0 0,.int .i64 q])) w':=⟨none,0,0,none,0,0,none,0,0,by rw[h];rfl,g,fun R L h0 h1 h2=>by rw[h0,gN h1 h2] at h;exact absurd h.symm hq⟩
theorem lp (bv vt vf vs:Value) (r n:Int) (cd:Int→Hd×List Pt) (ts:List Th) (fs:List Fe) (S:List Sd) (w:World) (I:LIn w bv vt vf r n cd ts fs) (A:sdR.At w vs S) (hl:S.length≤4096):Calls Tryz.prog 59 #[bv,vt,vf,vs] w (iD w r n cd ts fs S):=by
 obtain⟨pt,ct,rfl⟩:=I.things.form
 obtain⟨pf,cf,rfl⟩:=I.feats.form
 obtain⟨pl,cl,rfl⟩:=A.form
 obtain⟨W1,hW1⟩:=Qe (w.alloc (.cells #[.slice none 0 0,.slice none 0 0] 125))
 have HG1:Hid (w.grownBy W1 none):=by rw[hW1];exact QG
 have HR:Hid (TbB W1 w.heap.size (.slice none 0 0) (.slice none 0 0)):=by rw[hW1];exact ak w _ _
 have HI:Hid (LIn W1 bv (.slice pt ts.length ct) (.slice pf fs.length cf) r n cd ts fs):=I.keep HG1.out
 have HA:Hid (sdR.At W1 (.slice pl S.length cl) S):=A.keep HG1.out
 have Hl:Hid (S.length≤4096):=hl
 have HRf:=HI.out.ref W1 (ay _ _)
 clear I A hl
 go_enter Tryz.func59,Tryz.ntmps59
 go_upto_region 1 with fail
 rw[←hW1]
 clear hW1
 obtain⟨n0,h0⟩:=Qe (w.heap.size)
 have Hn0:Hid (w.heap.size≤n0∧n0<W1.heap.size):=⟨by rw[h0];exact Qj _,by rw[h0];exact aZ HR.out⟩
 simp only[←h0] at HR ⊢
 clear h0
 go_wp2_with fail
 refine HRf.mono ?_
 rintro e2 w2 ⟨rfl,g2⟩
 have HG2:Hid (W1.grownBy w2 none):=g2
 have HR2:Hid (TbB w2 n0 (.slice none 0 0) (.slice none 0 0)):=ag g2 HR.out (by simp)
 clear HRf g2
 by_cases hr:r=0
 ·obtain⟨hB,hts⟩:=HI.out.book hr
  have HLy:=AR bv _ _ n cd ts fs w2 (hB.keep HG2.out) (HI.out.things.keep HG2.out) (HI.out.feats.keep HG2.out) hts
  have e1:(r != 0)=false:=by simpa using hr
  have Hr:Hid (r=0):=hr
  clear hr hB hts
  go_wp2_with fail
  refine HLy.mono ?_
  intro e3 w3 Q3
  obtain⟨p1,m1,c1,p2,m2,c2,rfl,g3,h3⟩:=Q3.tab
  unfold tbv
  obtain⟨V,hV⟩:=Qe (w3.alloc (.cells #[.slice p1 m1 c1,.slice p2 m2 c2] 125))
  have HG3:Hid (w2.grownBy V none):=by rw[hV];exact al g3 _
  have HBt:Hid (TbB V w3.heap.size (.slice p1 m1 c1) (.slice p2 m2 c2)):=by rw[hV];exact ak _ _ _
  have HRV:Hid (TbB V n0 (.slice none 0 0) (.slice none 0 0)):=ag HG3.out HR2.out (by simp)
  have HGW:Hid (W1.grownBy V none):=ae HG2.out HG3.out
  have H3:Hid (∀ R,bw n cd ts fs=some R→∃ X,rws X=R∧TbO V w2.heap.size (.slice p1 m1 c1) (.slice p2 m2 c2) X (aq R fs)∧∀ x∈X,1≤x.r.nu∧x.r.nu≤(fs.length:Int)):=fun R q=>by
   obtain⟨X,a,b,c⟩:=h3 R q
   exact⟨X,a,b.grow (by rw[hV];exact QG),c⟩
  clear HLy Q3 g3 h3
  cases ht:bw n cd ts fs with
  | none =>
   have HX:Hid (lkE r n cd ts fs S=2):=by rw[Hr.out];exact kD ht
   clear ht
   go_upto_region 5 with fail
   rw[←hV]
   obtain⟨r0,r1⟩:=eJ HRV.out
   have rf:=fun i=>au HRV.out i
   clear hV
   go_wp2_with fail
   refine bodyPost_ret (v:=.tuple #[.agg #[.slice none 0 0,.slice none 0 0],.slice none 0 0,.int .i64 2]) (by simp[results,Tryz.results59,go_sem,r0,r1]) rfl (iD.no HX.out (by decide) ?_)
   exact am (am (ae HG1.out HGW.out) Hn0.out.1 _ _) Hn0.out.1 _ _
  | some R =>
   obtain⟨X,hX,hT,hnu⟩:=H3.out R ht
   have HT:Hid (rws X=R∧TbO V w2.heap.size (.slice p1 m1 c1) (.slice p2 m2 c2) X (aq R fs)∧∀ x∈X,1≤x.r.nu∧x.r.nu≤(fs.length:Int)):=⟨hX,hT,hnu⟩
   have HLi:=yw _ _ _ X (aq R fs) S V hT.at (HA.out.keep HGW.out) Hl.out
   unfold lI tbv at HLi
   have Ht:Hid (bw n cd ts fs=some R):=ht
   rw[hX] at HLi
   clear ht H3 hX hT hnu
   go_upto_region 5 with fail
   rw[←hV]
   obtain⟨nc,hnc⟩:=Qe (w3.heap.size)
   rw[←hnc] at HBt ⊢
   clear hV hnc
   obtain⟨t0,t1⟩:=bP HBt.out
   go_wp2_with fail
   refine HLi.mono ?_
   rintro e5 w5 ⟨p3,m3,c3,b5,rfl,g5,hb5,h5⟩
   have HG5:Hid (V.grownBy w5 none):=g5
   have H5:Hid (∀ L,bn R S []=some L→eG w5 V.heap.size (.slice p3 m3 c3) L):=h5
   have HR5:Hid (TbB w5 n0 (.slice none 0 0) (.slice none 0 0)):=ag g5 HRV.out (by simp)
   have HB5:Hid (TbB w5 nc (.slice p1 m1 c1) (.slice p2 m2 c2)):=ag g5 HBt.out (by simp)
   have HGw5:Hid (w.grownBy w5 none):=ae HG1.out (ae HGW.out g5)
   clear HLi g5 h5 t0 t1
   obtain⟨r0,r1⟩:=eJ HR5.out
   have rf:=fun i=>au HR5.out i
   cases hls:bn R S [] with
   | none =>
    rw[hls] at hb5
    subst hb5
    have HX:Hid (lkE r n cd ts fs S=2):=by rw[Hr.out];exact nl Ht.out hls
    clear hls
    simp only[Option.isSome_none]
    go_wp2_with fail
    refine bodyPost_ret (v:=.tuple #[.agg #[.slice none 0 0,.slice none 0 0],.slice none 0 0,.int .i64 2]) (by simp[results,Tryz.results59,go_sem,r0,r1]) rfl (iD.no HX.out (by decide) ?_)
    exact am (am HGw5.out Hn0.out.1 _ _) Hn0.out.1 _ _
   | some L =>
    rw[hls] at hb5
    subst hb5
    have HX:Hid (lkE r n cd ts fs S=0):=by rw[Hr.out];exact gN Ht.out hls
    have Hls:Hid (bn R S []=some L):=hls
    clear hls
    simp only[Option.isSome_some]
    obtain⟨t0,t1⟩:=bP HB5.out
    have Hnc:Hid (n0<V.heap.size∧w.heap.size≤V.heap.size):=⟨Nat.lt_of_lt_of_le Hn0.out.2 HGW.out.size,Ql HG1.out.size HGW.out.size⟩
    go_wp2_with fail
    refine bodyPost_ret (v:=.tuple #[.agg #[.slice p1 m1 c1,.slice p2 m2 c2],.slice p3 m3 c3,.int .i64 0]) (by simp[results,Tryz.results59,go_sem,r0,r1]) rfl ⟨p1,m1,c1,p2,m2,c2,p3,m3,c3,by rw[HX.out];rfl,?_,fun R' L' _ q1 q2=>?_⟩
    ·exact am (am HGw5.out Hn0.out.1 _ _) Hn0.out.1 _ _
    ·rw[Ht.out] at q1
     cases q1
     rw[Hls.out] at q2
     cases q2
     have q1:=ae (aj w5 n0 0 (.slice p1 m1 c1)) (aj (w5.setCell ⟨n0,0,none⟩ (.slice p1 m1 c1)) n0 1 (.slice p2 m2 c2))
     refine⟨X,HT.out.1,?_,HT.out.2.2,aP (fJ (H5.out L Hls.out) q1 Hnc.out.1) Hnc.out.2⟩
     exact((HT.out.2.1.grow HG5.out).far q1 (Nat.lt_of_lt_of_le Hn0.out.2 HG2.out.size)).big (Ql HG1.out.size HG2.out.size)
 ·have e1:(r != 0)=true:=by simpa using hr
  have HX:Hid (lkE r n cd ts fs S=r):=mX hr
  have Hr:Hid (r≠0):=hr
  clear hr
  obtain⟨r0,r1⟩:=eJ HR2.out
  have rf:=fun i=>au HR2.out i
  go_wp2_with fail
  refine bodyPost_ret (v:=.tuple #[.agg #[.slice none 0 0,.slice none 0 0],.slice none 0 0,.int .i64 r]) (by simp[results,Tryz.results59,go_sem,r0,r1]) rfl (iD.no HX.out Hr.out ?_)
  exact am (am (ae HG1.out HG2.out) Hn0.out.1 _ _) Hn0.out.1 _ _
def bgE (r n:Int) (cd:Int→Hd×List Pt) (ts:List Th) (fs:List Fe) (k:Int):Int:=if lkE r n cd ts fs []=0 then (if 1≤k∧k≤5 then 0 else 2) else lkE r n cd ts fs []
def iO (w:World) (r n:Int) (cd:Int→Hd×List Pt) (ts:List Th) (fs:List Fe) (k:Int) (e:Ending) (w':World):Prop:=∃ p1 m1 c1 p2 m2 c2 p3 m3 c3,e=.returned (.tuple #[tbv (.slice p1 m1 c1) (.slice p2 m2 c2),.slice p3 m3 c3,.int .i64 (bgE r n cd ts fs k)])∧w.grownBy w' none∧∀ R,r=0→1≤k∧k≤5→bw n cd ts fs=some R→∃ X,rws X=R∧TbO w' w.heap.size (.slice p1 m1 c1) (.slice p2 m2 c2) X (aq R fs)∧(∀ x∈X,1≤x.r.nu∧x.r.nu≤(fs.length:Int))∧eG w' w.heap.size (.slice p3 m3 c3) (cx R (aq R fs) k)
theorem kB (h:lkE r n cd ts fs []=0):r=0∧∃ R,bw n cd ts fs=some R:=by
 unfold lkE at h
 split at h
 ·rename_i h0
  refine⟨h0,?_⟩
  cases ht:bw n cd ts fs with
  | none=>rw[ht] at h;cases h
  | some R=>exact⟨R,rfl⟩
 ·rename_i h0
  exact absurd h h0
theorem gd (h:bw n cd ts fs=some R):lkE 0 n cd ts fs []=0:=gN (L:=[]) h rfl
theorem iO.no (h:bgE r n cd ts fs k=q) (hq:q≠0) (g:w.grownBy w' none):iO w r n cd ts fs k (.returned (.tuple #[.agg #[.slice none 0 0,.slice none 0 0],.slice none 0 0,.int .i64 q])) w':=⟨none,0,0,none,0,0,none,0,0,by rw[h];rfl,g,fun R h0 h1 h2=>by unfold bgE at h;rw[h0,if_pos (gd h2),if_pos h1] at h;exact absurd h.symm hq⟩
theorem mI (bv vt vf:Value) (r n:Int) (cd:Int→Hd×List Pt) (ts:List Th) (fs:List Fe) (k:Int) (w:World) (I:LIn w bv vt vf r n cd ts fs):Calls Tryz.prog 67 #[bv,vt,vf,.int .i64 k] w (iO w r n cd ts fs k):=by
 obtain⟨pt,ct,rfl⟩:=I.things.form
 obtain⟨pf,cf,rfl⟩:=I.feats.form
 obtain⟨W1,hW1⟩:=Qe (w.alloc (.cells #[.slice none 0 0,.slice none 0 0] 125))
 have HG1:Hid (w.grownBy W1 none):=by rw[hW1];exact QG
 have HR:Hid (TbB W1 w.heap.size (.slice none 0 0) (.slice none 0 0)):=by rw[hW1];exact ak w _ _
 have HLk:=lp bv _ _ (.slice none 0 0) r n cd ts fs [] W1 (I.keep HG1.out) (az.At.nil _ _) (Q0 _)
 unfold iD tbv at HLk
 clear I
 go_enter Tryz.func67,Tryz.ntmps67
 go_upto_region 1 with fail
 rw[←hW1]
 clear hW1
 obtain⟨n0,h0⟩:=Qe (w.heap.size)
 have Hn0:Hid (w.heap.size≤n0∧n0<W1.heap.size):=⟨by rw[h0];exact Qj _,by rw[h0];exact aZ HR.out⟩
 simp only[←h0] at HR ⊢
 clear h0
 go_wp2_with fail
 refine HLk.mono ?_
 rintro e2 w2 ⟨p1,m1,c1,p2,m2,c2,p3,m3,c3,rfl,g2,h2⟩
 obtain⟨q,hq⟩:=Qe (lkE r n cd ts fs [])
 have Hq:Hid (q=lkE r n cd ts fs []):=hq
 rw[←hq]
 obtain⟨V,hV⟩:=Qe (w2.alloc (.cells #[.slice p1 m1 c1,.slice p2 m2 c2] 125))
 have HGV:Hid (W1.grownBy V none):=by rw[hV];exact al g2 _
 have HBt:Hid (TbB V w2.heap.size (.slice p1 m1 c1) (.slice p2 m2 c2)):=by rw[hV];exact ak _ _ _
 have HRV:Hid (TbB V n0 (.slice none 0 0) (.slice none 0 0)):=ag HGV.out HR.out (by simp)
 have H2:Hid (∀ R,r=0→bw n cd ts fs=some R→∃ X,rws X=R∧TbO V W1.heap.size (.slice p1 m1 c1) (.slice p2 m2 c2) X (aq R fs)∧∀ x∈X,1≤x.r.nu∧x.r.nu≤(fs.length:Int)):=fun R a b=>by
  obtain⟨X,x1,x2,x3,_⟩:=h2 R [] a b rfl
  exact⟨X,x1,x2.grow (by rw[hV];exact QG),x3⟩
 have Hsz:Hid (W1.heap.size≤w2.heap.size):=g2.size
 clear HLk g2 h2 hq
 go_upto_region 2 with fail
 rw[←hV]
 obtain⟨nb,hnb⟩:=Qe (w2.heap.size)
 rw[←hnb] at HBt ⊢
 have Hnb:Hid (some nb≠some n0):=by show _≠_;rw[hnb];intro q;have:=Option.some.inj q;have:=Hn0.out.2;have:=Hsz.out;omega
 clear hV hnb
 obtain⟨r0,r1⟩:=eJ HRV.out
 have rf:=fun i=>au HRV.out i
 by_cases hq0:q=0
 ·have e1:(q != 0)=false:=by simpa using hq0
  obtain⟨hr0,R,hR⟩:=kB (Hq.out.symm.trans hq0)
  obtain⟨X,hX,hT,hnu⟩:=H2.out R hr0 hR
  have HT:Hid (rws X=R∧TbO V W1.heap.size (.slice p1 m1 c1) (.slice p2 m2 c2) X (aq R fs)∧∀ x∈X,1≤x.r.nu∧x.r.nu≤(fs.length:Int)):=⟨hX,hT,hnu⟩
  have HtR:Hid (bw n cd ts fs=some R):=hR
  have Hq0:Hid (lkE r n cd ts fs []=0):=Hq.out.symm.trans hq0
  clear hr0 hX hT hnu hR H2 hq0
  by_cases hk1:k<1
  ·have HX:Hid (bgE r n cd ts fs k=2):=by show _=_;unfold bgE;rw[if_pos Hq0.out,if_neg (by omega)]
   go_wp2_with fail
   refine bodyPost_ret (v:=.tuple #[.agg #[.slice none 0 0,.slice none 0 0],.slice none 0 0,.int .i64 2]) (by simp[results,Tryz.results67,go_sem,r0,r1]) rfl (iO.no HX.out (by decide) ?_)
   exact am (am (ae HG1.out HGV.out) Hn0.out.1 _ _) Hn0.out.1 _ _
  ·have e2:decide (k<1)=false:=Qx hk1
   by_cases hk2:5<k
   ·have HX:Hid (bgE r n cd ts fs k=2):=by show _=_;unfold bgE;rw[if_pos Hq0.out,if_neg (by omega)]
    clear hk1
    go_wp2_with fail
    refine bodyPost_ret (v:=.tuple #[.agg #[.slice none 0 0,.slice none 0 0],.slice none 0 0,.int .i64 2]) (by simp[results,Tryz.results67,go_sem,r0,r1]) rfl (iO.no HX.out (by decide) ?_)
    exact am (am (ae HG1.out HGV.out) Hn0.out.1 _ _) Hn0.out.1 _ _
   ·have e3:decide (5<k)=false:=Qx hk2
    have HX:Hid (bgE r n cd ts fs k=0):=by show _=_;unfold bgE;rw[if_pos Hq0.out,if_pos (by omega)]
    have HE:=rN _ _ X (aq R fs) k V.drew (HT.out.2.1.at.keep (ai _))
    unfold tbv at HE
    obtain⟨t0,t1⟩:=bP HBt.out
    have dd:some nb≠some n0:=Hnb.out
    clear hk1 hk2
    go_upto_region 6 with fail
    refine wp_region_held_drew (S:=fun w'=>V.grownBy w' (some n0)) (by kernel_rfl) (aX _ _) (fun hHeld=>?_)
    refine QT 0 rfl (by intro w0 hSw;have t0:=hSw.cell t0 dd;have t1:=hSw.cell t1 dd;go_simp;try with_reducible rfl) ?_
    go_frame
    refine QT 1 rfl (by intro w0 hSw;have t0:=hSw.cell t0 dd;have t1:=hSw.cell t1 dd;go_simp;try with_reducible rfl) ?_
    go_frame
    refine QZ 2 rfl ?_
    go_frame
    refine QR 3 rfl (fun K hK=>?_)
    go_simp
    go_at_call 142
    refine(HE).mono ?_
    rintro e5 w5 ⟨v5,rfl,o5,g5⟩
    obtain⟨p5,c5,rfl⟩:=o5.form
    have HG5:Hid (V.grownBy w5 none):=ae (ai _) g5
    have HO5:Hid (eG w5 V.heap.size (.slice p5 (cx (rws X) (aq R fs) k).length c5) (cx (rws X) (aq R fs) k)):=o5
    obtain⟨m5,hm5⟩:=Qe ((cx (rws X) (aq R fs) k).length)
    rw[←hm5] at HO5 ⊢
    have HO5':Hid (w5.ownsRow V.heap.size 131 11 (.slice p5 m5 c5) (cx (rws X) (aq R fs) k).length (seR.cs (cx (rws X) (aq R fs) k))):=HO5.out
    have HR5:Hid (TbB w5 n0 (.slice none 0 0) (.slice none 0 0)):=ag HG5.out HRV.out (by simp)
    clear g5 o5 HE hm5 t0 t1 r0 r1 rf
    obtain⟨r0,r1⟩:=eJ HR5.out
    have rf:=fun i=>au HR5.out i
    refine hK.out _ _ (bZ HG5.out _) (fun hHeld2=>?_)
    clear hK K
    (try go_frame)
    refine QR 4 rfl (fun K9 hK=>?_)
    go_simp
    refine hK.out _ _ (ae (bZ HG5.out _) (ae (aj _ _ _ _) (aj _ _ _ _))) (fun hHeld3=>?_)
    clear hK K9
    (try go_frame)
    refine QZ 5 rfl ?_
    go_frame
    refine QZ 6 rfl ?_
    go_frame
    refine QD ?_
    go_wp2_with fail
    refine bodyPost_ret (v:=.tuple #[.agg #[.slice p1 m1 c1,.slice p2 m2 c2],.slice p5 m5 c5,.int .i64 0]) (by simp[results,Tryz.results67,go_sem,r0,r1]) rfl ⟨p1,m1,c1,p2,m2,c2,p5,m5,c5,by rw[HX.out];rfl,?_,fun R' _ _ q1=>?_⟩
    ·exact am (am (ae HG1.out (ae HGV.out HG5.out)) Hn0.out.1 _ _) Hn0.out.1 _ _
    ·rw[HtR.out] at q1
     cases q1
     have q1:=ae (aj w5 n0 0 (.slice p1 m1 c1)) (aj (w5.setCell ⟨n0,0,none⟩ (.slice p1 m1 c1)) n0 1 (.slice p2 m2 c2))
     refine⟨X,HT.out.1,((HT.out.2.1.grow HG5.out).far q1 Hn0.out.2).big HG1.out.size,HT.out.2.2,?_⟩
     rw[←HT.out.1]
     rw[HT.out.1]
     rw[show aq R fs=aq R fs from rfl]
     have q2:=aP (fJ HO5'.out q1 (Nat.lt_of_lt_of_le Hn0.out.2 HGV.out.size)) (Ql HG1.out.size HGV.out.size)
     rw[HT.out.1] at q2
     exact q2
 ·have e1:(q != 0)=true:=by simpa using hq0
  have HX:Hid (bgE r n cd ts fs k=q):=by show _=_;unfold bgE;rw[if_neg (by rw[←Hq.out];exact hq0)];exact Hq.out.symm
  have Hq0:Hid (q≠0):=hq0
  clear hq0
  go_wp2_with fail
  refine bodyPost_ret (v:=.tuple #[.agg #[.slice none 0 0,.slice none 0 0],.slice none 0 0,.int .i64 q]) (by simp[results,Tryz.results67,go_sem,r0,r1]) rfl (iO.no HX.out Hq0.out ?_)
  exact am (am (ae HG1.out HGV.out) Hn0.out.1 _ _) Hn0.out.1 _ _
end Go.Proofs.YtjmepebbcnhalaaGreat
