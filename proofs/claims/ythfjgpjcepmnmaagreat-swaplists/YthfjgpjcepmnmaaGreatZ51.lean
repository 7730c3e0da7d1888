/-
  The kit's lists of things,features,standings: lent,copied,the same,kept.
  ApartParts of lists that lie in blocks of their own answers true: each place holds what was written there.
-/
import Derived.Test.YthfjgpjcepmnmaaGreatZ37
import Derived.Test.YthfjgpjcepmnmaaGreatZ50
import Derived.Laws.MakeOwn
import Derived.OwnWalk
import Derived.Test.YthfjgpjcepmnmaaGreatZ22
import Derived.Deep.AppendLies
import Derived.Deep.RegionHeld3
import Derived.Maps.RangeWalk
namespace Go.Proofs.YthfjgpjcepmnmaaGreat
set_option maxRecDepth 100000
set_option maxHeartbeats 4000000
open Go.RowKit Go.Shelf
theorem small_by {n b:Nat} (hb:8≤b) (h:(n+2)*b≤140737488355328):Small n∧n+2≤maxLen∧n+2≤17592186044416:=by
 have h1:(n+2)*8≤(n+2)*b:=Nat.mul_le_mul_left _ hb
 have h2:n+2≤17592186044416:=by omega
 exact⟨by unfold Small;omega,by unfold maxLen;omega,h2⟩
theorem two_Src {α:Type} (R:RecT α) (T:TypeId) (Z:World) (x:α):Src (Z.alloc (.cells (R.enc x++R.enc x).toArray T)) (.slice (some ⟨Z.heap.size,0,none⟩) 2 2) 2 R.k (R.cs [x,x]):=by
 have h:=lit_Src (m:=2) (size:=R.k) (cs:=(R.enc x++R.enc x).toArray) (alloc_at Z (R.enc x++R.enc x).toArray T) (by simp[R.hk];omega) 2
 have e:(R.enc x++R.enc x).toArray.toList=R.cs [x,x]:=by show R.enc x++R.enc x=R.enc x++(R.enc x++[]);rw[List.append_nil]
 rw[e] at h
 exact h
theorem RecT.join {α:Type} {R:RecT α} {T:TypeId} {w:World} {base n m:Nat} {v:Value} {l l':List α} (h:w.ownsRow base T R.k v (n+m) (R.cs l++R.cs l')) (hn:n=l.length) (hm:m=l'.length):R.Own T w base v (l++l'):=by
 unfold RecT.Own
 rw[List.length_append,←hn,←hm,R.app]
 exact h
theorem neq_thL (t:Th) (w:World):(binOp .neq 100 (.agg #[.int .i64 t.card,.int .i64 t.owner,.int .u8 t.place,.int .i64 t.stamp,.int .i64 t.hurt,.int .i64 t.m0,.int .i64 t.m1,.int .i64 t.m2,.int .i64 t.m3,.int .i64 t.done,.bool t.fresh]) (.agg #[.int .i64 t.card,.int .i64 t.owner,.int .u8 t.place,.int .i64 t.stamp,.int .i64 t.hurt,.int .i64 t.m0,.int .i64 t.m1,.int .i64 t.m2,.int .i64 t.m3,.int .i64 t.done,.bool t.fresh])).run Tryz.prog w=.ok (.bool false) w:=by
 rw[neq_th,show samet _ _=true from samet_iff.2 rfl]
 rfl
theorem neq_sdF (s:Sd) (w:World):(binOp .neq 40 (.agg #[.int .i64 s.th,.int .i64 s.pl,.int .u8 s.wh.wn,.int .u8 s.wh.vb,.int .u8 s.wh.wm,.int .i64 s.wh.ct,.int .u8 s.wh.su,.int .u8 s.wh.tr,.int .u8 s.wh.mr,.string s.wh.nm]) (.agg #[.int .i64 s.th,.int .i64 s.pl,.int .u8 s.wh.wn,.int .u8 s.wh.vb,.int .u8 s.wh.wm,.int .i64 s.wh.ct,.int .u8 s.wh.su,.int .u8 s.wh.tr,.int .u8 s.wh.mr,.string s.wh.nm])).run Tryz.prog w=.ok (.bool false) w:=neq_sdL s w
def z77Th:Th:=⟨-77,0,0,0,0,0,0,0,0,0,false⟩
theorem copyTh_big (v:Value) (l:List Th) (w:World) (h:thR.At w v l) (hb:(l.length+2)*88≤140737488355328):Calls Tryz.prog 35 #[v] w fun e w'=>∃ v',e=.returned v'∧thR.Own 100 w' w.heap.size v' l∧w.grownBy w' none:=by
 obtain⟨i0,hi,hz0,hz1,hz2⟩:=info_parts Tryz.linfoT
 have HS:Hid (Src w v l.length 11 (thR.cs l)):=h.src
 have hsm:=small_by (by decide) hb
 obtain⟨n,hn⟩:∃ n,n=l.length:=⟨_,rfl⟩
 have HN:Hid (n=l.length):=hn
 have HL:Hid (0+n≤maxLen∧(0+n)*88≤140737488355328):=by show _∧_;have:=hsm.2.1;exact⟨by omega,by omega⟩
 rw[←hn] at HS
 clear h hb hn hsm
 go_enter Tryz.func35,Tryz.ntmps35
 go_wp2_with (at_builtin;refine lwpl_app (by rfl) (.tmp 4) (.tmp 5) 23 rfl w.heap.size 100 i0 _ 11 88 Tryz.underlying23 hi hz0 hz1 hz2 rfl (by decide) _ 0 [] rfl (RecT.Own.nil thR 100 w w.heap.size) _ n (thR.cs l) rfl HS.out (thR.ones l) HL.out.1 HL.out.2 (Nat.le_refl _) ?_;intro v3 w3 o3 g3 _;have HF:Hid (thR.Own 100 w3 w.heap.size v3 l∧w.grownBy w3 none):=⟨by unfold RecT.Own;rw[←HN.out];rw[Nat.zero_add,List.nil_append] at o3;exact o3,g3⟩;clear o3 g3)
 go_ret
 exact⟨_,rfl,HF.out.1,HF.out.2⟩
theorem sameTh_big (va vb:Value) (l:List Th) (w:World) (A:thR.At w va l) (B:thR.At w vb l) (hsm:Small l.length):Calls Tryz.prog 78 #[va,vb] w fun e w'=>e=.returned (.bool true)∧w.grownBy w' none:=by
 obtain⟨pa,ca,rfl⟩:=A.form
 obtain⟨pb,cb,rfl⟩:=B.form
 have HA:Hid (thR.At w (.slice pa l.length ca) l):=A
 have HB:Hid (thR.At w (.slice pb l.length cb) l):=B
 have hnq:=neq_thL
 have hgq:=eqg_th
 clear A B
 go_enter Tryz.func78,Tryz.ntmps78
 go_wp2_with fail
 go_loopw [5] (fun x5 wr=>∃ k:Nat,k≤l.length∧x5=.int .i64 (k:Int)∧w.grownBy wr none) (fun x5 _=>l.length - (intOf x5).toNat)
 case atStart=>exact⟨0,Nat.zero_le _,rfl,grown_refl _ _⟩
 case round =>
  obtain⟨k,hk,rfl,G⟩:=hrel
  obtain⟨U,hU⟩:∃ U,U=wr:=⟨_,rfl⟩
  subst hU
  have HG:Hid (w.grownBy U none):=G
  clear G
  rcases (show k<l.length∨k=l.length from by omega) with hkl | hke
  ·have k0:(0:Int)≤(k:Int):=by omega
   have k1:(k:Int)<(l.length:Int):=by omega
   obtain⟨ga,oa,xa,ea,Ra⟩:=th_there (HA.out.keep HG.out) hkl
   cases ea
   obtain⟨gb,ob,xb,eb,Rb⟩:=th_there (HB.out.keep HG.out) hkl
   cases eb
   obtain⟨x,hx⟩:∃ x,x=l[k]:=⟨_,rfl⟩
   rw[←hx] at Ra Rb
   obtain⟨a0,a1,a2,a3,a4,a5,a6,a7,a8,a9,a10⟩:=th_cells Ra
   obtain⟨b0,b1,b2,b3,b4,b5,b6,b7,b8,b9,b10⟩:=th_cells Rb
   clear hx Ra Rb
   go_upto_region 6 with fail
   go_quiet (fail)
   go_wp2_with fail
   go_roundw
   case rel=>exact⟨k+1,hkl,by first | rfl | (rw[hsm.wrap hkl];rfl),grown_trans HG.out (grown_drewN _ _ _)⟩
   case measure=>first | exact meas_next hkl | (rw[hsm.wrap hkl];exact meas_next hkl)
  ·have k1:¬(k:Int)<(l.length:Int):=by omega
   clear hke
   go_wp2_with fail
   go_ret
   exact⟨rfl,HG.out⟩
theorem lentTh_big (v:Value) (l:List Th) (w:World) (h:thR.At w v l) (hb:(l.length+2)*88≤140737488355328):Calls Tryz.prog 18 #[v] w fun e w'=>∃ v',e=.returned v'∧thR.Own 100 w' w.heap.size v' (l++[z77Th,z77Th])∧w.grownBy w' none:=by
 obtain⟨i0,hi,hz0,hz1,hz2⟩:=info_parts Tryz.linfoT
 have HS:Hid (Src w v l.length 11 (thR.cs l)):=h.src
 have hsm:=small_by (by decide) hb
 obtain⟨p,c,rfl⟩:=h.form
 obtain⟨n,hn⟩:∃ n,n=l.length:=⟨_,rfl⟩
 have HN:Hid (n=l.length):=hn
 rw[←hn] at HS hb hsm ⊢
 have hC:Hid (wrap64 ((n:Int)+2)=((n+2:Nat):Int)):=by show _=_;have:=hsm.2.2;unfold wrap64;omega
 have hB:Hid (i0.bytes*(n+2)≤281474976710656):=by show _≤_;rw[hz2];omega
 have hM:Hid (n+2≤maxLen):=hsm.2.1
 have HL:Hid ((0+n≤maxLen∧(0+n)*88≤140737488355328)∧(n+2≤maxLen∧(n+2)*88≤140737488355328)):=by have:=hsm.2.1;exact⟨⟨by omega,by omega⟩,this,hb⟩
 clear h hb hn hsm
 go_enter Tryz.func18,Tryz.ntmps18
 go_upto_region 2 with (at_make;refine wpList_make_own _ rfl _ _ 23 rfl w.heap.size 100 i0 _ 11 Tryz.underlying23 hi hz0 hz1 .i64 .i64 _ (n+2) rfl rfl hC.out hB.out hM.out (Nat.le_refl _) ?_;intro w1 o1 g1;have HO1:Hid (w1.ownsRow w.heap.size 100 11 (.slice (some ⟨w.heap.size,0,none⟩) 0 (n+2)) 0 []):=o1;have HG1:Hid (w.grownBy w1 none):=g1;clear o1 g1)
 have HS1:Hid (Src w1 (.slice p n c) n 11 (thR.cs l)):=Src.keep HS.out HG1.out
 have Hs1:Hid (w.heap.size≤w1.heap.size):=HG1.out.size
 go_upto_region 3 with (at_builtin;refine lwpl_app (by rfl) (.tmp 8) (.tmp 9) 23 rfl w.heap.size 100 i0 _ 11 88 Tryz.underlying23 hi hz0 hz1 hz2 rfl (by decide) _ 0 [] rfl HO1.out _ n (thR.cs l) rfl HS1.out (thR.ones l) HL.out.1.1 HL.out.1.2 Hs1.out ?_;intro v2 w2 o2 g2 _;have HO2:Hid (w2.ownsRow w.heap.size 100 11 v2 n (thR.cs l)):=(by show World.ownsRow _ _ _ _ _ _ _;rw[Nat.zero_add,List.nil_append] at o2;exact o2);have HG2:Hid (w.grownBy w2 none):=grown_own HG1.out g2 (fun y e=>(World.ownsRow.lt HO1.out y e).1);clear o2 g2)
 obtain⟨p2,c2,rfl⟩:∃ p c,v2=.slice p n c:=by obtain⟨p,c,e,_⟩:=own_slice HO2.out;exact⟨p,c,e⟩
 obtain⟨Q,hQ⟩:∃ Q,Q=w2.alloc (.cells (thR.enc z77Th++thR.enc z77Th).toArray 100):=⟨_,rfl⟩
 have HQ:Hid (w2.grownBy Q none∧Src Q (.slice (some ⟨w2.heap.size,0,none⟩) 2 2) 2 11 (thR.cs [z77Th,z77Th])):=⟨by rw[hQ];exact World.grownBy_alloc _ _ none,by rw[hQ];exact two_Src thR 100 w2 z77Th⟩
 have HOQ:Hid (Q.ownsRow w.heap.size 100 11 (.slice p2 n c2) n (thR.cs l)):=own_grow HO2.out HQ.out.1
 have HsQ:Hid (w.heap.size≤Q.heap.size):=Nat.le_trans HG2.out.size HQ.out.1.size
 have hQ':Q=w2.alloc (.cells #[.int .i64 (-77),.int .i64 0,.int .u8 0,.int .i64 0,.int .i64 0,.int .i64 0,.int .i64 0,.int .i64 0,.int .i64 0,.int .i64 0,.bool false,.int .i64 (-77),.int .i64 0,.int .u8 0,.int .i64 0,.int .i64 0,.int .i64 0,.int .i64 0,.int .i64 0,.int .i64 0,.int .i64 0,.bool false] 100):=hQ
 clear hQ
 go_wp2_with (at_builtin;rw[←hQ'];refine lwpl_app (by rfl) (.tmp 11) (.tmp 14) 23 rfl w.heap.size 100 i0 _ 11 88 Tryz.underlying23 hi hz0 hz1 hz2 rfl (by decide) (.slice p2 n c2) n (thR.cs l) rfl HOQ.out (.slice (some ⟨w2.heap.size,0,none⟩) 2 2) 2 (thR.cs [z77Th,z77Th]) rfl HQ.out.2 (thR.ones _) HL.out.2.1 HL.out.2.2 HsQ.out ?_;intro v3 w3 o3 g3 _;have HF:Hid (thR.Own 100 w3 w.heap.size v3 (l++[z77Th,z77Th])∧w.grownBy w3 none):=⟨RecT.join o3 HN.out rfl,grown_own (grown_trans HG2.out HQ.out.1) g3 (fun y e=>(World.ownsRow.lt HOQ.out y e).1)⟩;clear o3 g3)
 go_ret
 exact⟨_,rfl,HF.out.1,HF.out.2⟩
theorem keptTh_big (vf vl:Value) (l:List Th) (w:World) (hf:thR.At w vf (l++[z77Th,z77Th])) (hl:thR.At w vl l) (hb:(l.length+2)*88≤140737488355328):Calls Tryz.prog 21 #[vf,vl] w fun e w'=>e=.returned (.bool true)∧w.grownBy w' none:=by
 obtain⟨i0,hi,hz0,hz1,hz2⟩:=info_parts Tryz.linfoT
 obtain⟨l2,hl2⟩:∃ l2,l2=l++[z77Th,z77Th]:=⟨_,rfl⟩
 have Hl2:Hid (l2=l++[z77Th,z77Th]):=hl2
 rw[←hl2] at hf
 have C1:=copyTh_big vl l w hl hb
 have hsm:=small_by (by decide) hb
 obtain⟨fa,fc,rfl⟩:=hf.form
 have HF:Hid (thR.At w (.slice fa l2.length fc) l2):=hf
 obtain⟨la,lc,rfl⟩:=hl.form
 obtain⟨n,hn⟩:∃ n,n=l.length:=⟨_,rfl⟩
 have HN:Hid (n=l.length):=hn
 have HL:Hid ((n+2≤maxLen∧(n+2)*88≤140737488355328)∧Small l2.length):=⟨⟨by rw[hn];exact hsm.2.1,by rw[hn];exact hb⟩,by have:=hsm.2.2;unfold Small;rw[hl2,List.length_append];show l.length+2≤_;omega⟩
 clear hf hl hb hsm hn hl2
 go_enter Tryz.func21,Tryz.ntmps21
 go_wp2_with fail
 refine C1.mono ?_
 rintro e w1 ⟨u,rfl,o1,g1⟩
 obtain⟨p2,c2,rfl⟩:=RecT.Own.form o1
 have HO1:Hid (w1.ownsRow w.heap.size 100 11 (.slice p2 l.length c2) n (thR.cs l)):=by show World.ownsRow _ _ _ _ _ _ _;rw[HN.out];exact o1
 have HG1:Hid (w.grownBy w1 none):=g1
 clear C1 o1 g1
 rw[←HN.out] at HO1 ⊢
 obtain⟨Q,hQ⟩:∃ Q,Q=w1.alloc (.cells (thR.enc z77Th++thR.enc z77Th).toArray 100):=⟨_,rfl⟩
 have HQ:Hid (w1.grownBy Q none∧Src Q (.slice (some ⟨w1.heap.size,0,none⟩) 2 2) 2 11 (thR.cs [z77Th,z77Th])):=⟨by rw[hQ];exact World.grownBy_alloc _ _ none,by rw[hQ];exact two_Src thR 100 w1 z77Th⟩
 have HOQ:Hid (Q.ownsRow w.heap.size 100 11 (.slice p2 n c2) n (thR.cs l)):=own_grow HO1.out HQ.out.1
 have HsQ:Hid (w.heap.size≤Q.heap.size):=Nat.le_trans HG1.out.size HQ.out.1.size
 have hQ':Q=w1.alloc (.cells #[.int .i64 (-77),.int .i64 0,.int .u8 0,.int .i64 0,.int .i64 0,.int .i64 0,.int .i64 0,.int .i64 0,.int .i64 0,.int .i64 0,.bool false,.int .i64 (-77),.int .i64 0,.int .u8 0,.int .i64 0,.int .i64 0,.int .i64 0,.int .i64 0,.int .i64 0,.int .i64 0,.int .i64 0,.bool false] 100):=hQ
 clear hQ
 go_wp2_with (at_builtin;rw[←hQ'];refine lwpl_app (by rfl) (.tmp 7) (.tmp 10) 23 rfl w.heap.size 100 i0 _ 11 88 Tryz.underlying23 hi hz0 hz1 hz2 rfl (by decide) (.slice p2 n c2) n (thR.cs l) rfl HOQ.out (.slice (some ⟨w1.heap.size,0,none⟩) 2 2) 2 (thR.cs [z77Th,z77Th]) rfl HQ.out.2 (thR.ones _) HL.out.1.1 HL.out.1.2 HsQ.out ?_;intro v3 w3 o3 g3 _;have H3:Hid (thR.Own 100 w3 w.heap.size v3 l2∧w.grownBy w3 none):=⟨by rw[Hl2.out];exact RecT.join o3 HN.out rfl,grown_own (grown_trans HG1.out HQ.out.1) g3 (fun y e=>(World.ownsRow.lt HOQ.out y e).1)⟩;clear o3 g3)
 have CS:=sameTh_big _ _ l2 w3 (HF.out.keep H3.out.2) (RecT.Own.at H3.out.1) HL.out.2
 refine CS.mono ?_
 rintro e w4 ⟨rfl,g4⟩
 have HG4:Hid (w.grownBy w4 none):=grown_trans H3.out.2 g4
 clear CS g4
 go_wp2_with fail
 go_ret
 exact⟨rfl,HG4.out⟩
def z77Fe:Fe:=⟨-77,0,0,0,0⟩
theorem copyFe_big (v:Value) (l:List Fe) (w:World) (h:feR.At w v l) (hb:(l.length+2)*32≤140737488355328):Calls Tryz.prog 79 #[v] w fun e w'=>∃ v',e=.returned v'∧feR.Own 65 w' w.heap.size v' l∧w.grownBy w' none:=by
 obtain⟨i0,hi,hz0,hz1,hz2⟩:=info_parts Tryz.linfoF
 have HS:Hid (Src w v l.length 5 (feR.cs l)):=h.src
 have hsm:=small_by (by decide) hb
 obtain⟨n,hn⟩:∃ n,n=l.length:=⟨_,rfl⟩
 have HN:Hid (n=l.length):=hn
 have HL:Hid (0+n≤maxLen∧(0+n)*32≤140737488355328):=by show _∧_;have:=hsm.2.1;exact⟨by omega,by omega⟩
 rw[←hn] at HS
 clear h hb hn hsm
 go_enter Tryz.func79,Tryz.ntmps79
 go_wp2_with (at_builtin;refine lwpl_app (by rfl) (.tmp 4) (.tmp 5) 24 rfl w.heap.size 65 i0 _ 5 32 Tryz.underlying24 hi hz0 hz1 hz2 rfl (by decide) _ 0 [] rfl (RecT.Own.nil feR 65 w w.heap.size) _ n (feR.cs l) rfl HS.out (feR.ones l) HL.out.1 HL.out.2 (Nat.le_refl _) ?_;intro v3 w3 o3 g3 _;have HF:Hid (feR.Own 65 w3 w.heap.size v3 l∧w.grownBy w3 none):=⟨by unfold RecT.Own;rw[←HN.out];rw[Nat.zero_add,List.nil_append] at o3;exact o3,g3⟩;clear o3 g3)
 go_ret
 exact⟨_,rfl,HF.out.1,HF.out.2⟩
theorem sameFe_big (va vb:Value) (l:List Fe) (w:World) (A:feR.At w va l) (B:feR.At w vb l) (hsm:Small l.length):Calls Tryz.prog 43 #[va,vb] w fun e w'=>e=.returned (.bool true)∧w.grownBy w' none:=by
 obtain⟨pa,ca,rfl⟩:=A.form
 obtain⟨pb,cb,rfl⟩:=B.form
 have HA:Hid (feR.At w (.slice pa l.length ca) l):=A
 have HB:Hid (feR.At w (.slice pb l.length cb) l):=B
 have hnq:=neq_feL
 have hgq:=eqg_feL
 clear A B
 go_enter Tryz.func43,Tryz.ntmps43
 go_wp2_with fail
 go_loopw [5] (fun x5 wr=>∃ k:Nat,k≤l.length∧x5=.int .i64 (k:Int)∧w.grownBy wr none) (fun x5 _=>l.length - (intOf x5).toNat)
 case atStart=>exact⟨0,Nat.zero_le _,rfl,grown_refl _ _⟩
 case round =>
  obtain⟨k,hk,rfl,G⟩:=hrel
  obtain⟨U,hU⟩:∃ U,U=wr:=⟨_,rfl⟩
  subst hU
  have HG:Hid (w.grownBy U none):=G
  clear G
  rcases (show k<l.length∨k=l.length from by omega) with hkl | hke
  ·have k0:(0:Int)≤(k:Int):=by omega
   have k1:(k:Int)<(l.length:Int):=by omega
   obtain⟨ga,oa,xa,ea,Ra⟩:=fe_there (HA.out.keep HG.out) hkl
   cases ea
   obtain⟨gb,ob,xb,eb,Rb⟩:=fe_there (HB.out.keep HG.out) hkl
   cases eb
   obtain⟨x,hx⟩:∃ x,x=l[k]:=⟨_,rfl⟩
   rw[←hx] at Ra Rb
   obtain⟨a0,a1,a2,a3,a4⟩:=fe_cells Ra
   obtain⟨b0,b1,b2,b3,b4⟩:=fe_cells Rb
   clear hx Ra Rb
   go_upto_region 6 with fail
   go_quiet (fail)
   go_wp2_with fail
   go_roundw
   case rel=>exact⟨k+1,hkl,by first | rfl | (rw[hsm.wrap hkl];rfl),grown_trans HG.out (grown_drewN _ _ _)⟩
   case measure=>first | exact meas_next hkl | (rw[hsm.wrap hkl];exact meas_next hkl)
  ·have k1:¬(k:Int)<(l.length:Int):=by omega
   clear hke
   go_wp2_with fail
   go_ret
   exact⟨rfl,HG.out⟩
theorem lentFe_big (v:Value) (l:List Fe) (w:World) (h:feR.At w v l) (hb:(l.length+2)*32≤140737488355328):Calls Tryz.prog 19 #[v] w fun e w'=>∃ v',e=.returned v'∧feR.Own 65 w' w.heap.size v' (l++[z77Fe,z77Fe])∧w.grownBy w' none:=by
 obtain⟨i0,hi,hz0,hz1,hz2⟩:=info_parts Tryz.linfoF
 have HS:Hid (Src w v l.length 5 (feR.cs l)):=h.src
 have hsm:=small_by (by decide) hb
 obtain⟨p,c,rfl⟩:=h.form
 obtain⟨n,hn⟩:∃ n,n=l.length:=⟨_,rfl⟩
 have HN:Hid (n=l.length):=hn
 rw[←hn] at HS hb hsm ⊢
 have hC:Hid (wrap64 ((n:Int)+2)=((n+2:Nat):Int)):=by show _=_;have:=hsm.2.2;unfold wrap64;omega
 have hB:Hid (i0.bytes*(n+2)≤281474976710656):=by show _≤_;rw[hz2];omega
 have hM:Hid (n+2≤maxLen):=hsm.2.1
 have HL:Hid ((0+n≤maxLen∧(0+n)*32≤140737488355328)∧(n+2≤maxLen∧(n+2)*32≤140737488355328)):=by have:=hsm.2.1;exact⟨⟨by omega,by omega⟩,this,hb⟩
 clear h hb hn hsm
 go_enter Tryz.func19,Tryz.ntmps19
 go_upto_region 2 with (at_make;refine wpList_make_own _ rfl _ _ 24 rfl w.heap.size 65 i0 _ 5 Tryz.underlying24 hi hz0 hz1 .i64 .i64 _ (n+2) rfl rfl hC.out hB.out hM.out (Nat.le_refl _) ?_;intro w1 o1 g1;have HO1:Hid (w1.ownsRow w.heap.size 65 5 (.slice (some ⟨w.heap.size,0,none⟩) 0 (n+2)) 0 []):=o1;have HG1:Hid (w.grownBy w1 none):=g1;clear o1 g1)
 have HS1:Hid (Src w1 (.slice p n c) n 5 (feR.cs l)):=Src.keep HS.out HG1.out
 have Hs1:Hid (w.heap.size≤w1.heap.size):=HG1.out.size
 go_upto_region 3 with (at_builtin;refine lwpl_app (by rfl) (.tmp 8) (.tmp 9) 24 rfl w.heap.size 65 i0 _ 5 32 Tryz.underlying24 hi hz0 hz1 hz2 rfl (by decide) _ 0 [] rfl HO1.out _ n (feR.cs l) rfl HS1.out (feR.ones l) HL.out.1.1 HL.out.1.2 Hs1.out ?_;intro v2 w2 o2 g2 _;have HO2:Hid (w2.ownsRow w.heap.size 65 5 v2 n (feR.cs l)):=(by show World.ownsRow _ _ _ _ _ _ _;rw[Nat.zero_add,List.nil_append] at o2;exact o2);have HG2:Hid (w.grownBy w2 none):=grown_own HG1.out g2 (fun y e=>(World.ownsRow.lt HO1.out y e).1);clear o2 g2)
 obtain⟨p2,c2,rfl⟩:∃ p c,v2=.slice p n c:=by obtain⟨p,c,e,_⟩:=own_slice HO2.out;exact⟨p,c,e⟩
 obtain⟨Q,hQ⟩:∃ Q,Q=w2.alloc (.cells (feR.enc z77Fe++feR.enc z77Fe).toArray 65):=⟨_,rfl⟩
 have HQ:Hid (w2.grownBy Q none∧Src Q (.slice (some ⟨w2.heap.size,0,none⟩) 2 2) 2 5 (feR.cs [z77Fe,z77Fe])):=⟨by rw[hQ];exact World.grownBy_alloc _ _ none,by rw[hQ];exact two_Src feR 65 w2 z77Fe⟩
 have HOQ:Hid (Q.ownsRow w.heap.size 65 5 (.slice p2 n c2) n (feR.cs l)):=own_grow HO2.out HQ.out.1
 have HsQ:Hid (w.heap.size≤Q.heap.size):=Nat.le_trans HG2.out.size HQ.out.1.size
 have hQ':Q=w2.alloc (.cells #[.int .i64 (-77),.int .u8 0,.int .u16 0,.int .i64 0,.int .i64 0,.int .i64 (-77),.int .u8 0,.int .u16 0,.int .i64 0,.int .i64 0] 65):=hQ
 clear hQ
 go_wp2_with (at_builtin;rw[←hQ'];refine lwpl_app (by rfl) (.tmp 11) (.tmp 14) 24 rfl w.heap.size 65 i0 _ 5 32 Tryz.underlying24 hi hz0 hz1 hz2 rfl (by decide) (.slice p2 n c2) n (feR.cs l) rfl HOQ.out (.slice (some ⟨w2.heap.size,0,none⟩) 2 2) 2 (feR.cs [z77Fe,z77Fe]) rfl HQ.out.2 (feR.ones _) HL.out.2.1 HL.out.2.2 HsQ.out ?_;intro v3 w3 o3 g3 _;have HF:Hid (feR.Own 65 w3 w.heap.size v3 (l++[z77Fe,z77Fe])∧w.grownBy w3 none):=⟨RecT.join o3 HN.out rfl,grown_own (grown_trans HG2.out HQ.out.1) g3 (fun y e=>(World.ownsRow.lt HOQ.out y e).1)⟩;clear o3 g3)
 go_ret
 exact⟨_,rfl,HF.out.1,HF.out.2⟩
theorem keptFe_big (vf vl:Value) (l:List Fe) (w:World) (hf:feR.At w vf (l++[z77Fe,z77Fe])) (hl:feR.At w vl l) (hb:(l.length+2)*32≤140737488355328):Calls Tryz.prog 22 #[vf,vl] w fun e w'=>e=.returned (.bool true)∧w.grownBy w' none:=by
 obtain⟨i0,hi,hz0,hz1,hz2⟩:=info_parts Tryz.linfoF
 obtain⟨l2,hl2⟩:∃ l2,l2=l++[z77Fe,z77Fe]:=⟨_,rfl⟩
 have Hl2:Hid (l2=l++[z77Fe,z77Fe]):=hl2
 rw[←hl2] at hf
 have C1:=copyFe_big vl l w hl hb
 have hsm:=small_by (by decide) hb
 obtain⟨fa,fc,rfl⟩:=hf.form
 have HF:Hid (feR.At w (.slice fa l2.length fc) l2):=hf
 obtain⟨la,lc,rfl⟩:=hl.form
 obtain⟨n,hn⟩:∃ n,n=l.length:=⟨_,rfl⟩
 have HN:Hid (n=l.length):=hn
 have HL:Hid ((n+2≤maxLen∧(n+2)*32≤140737488355328)∧Small l2.length):=⟨⟨by rw[hn];exact hsm.2.1,by rw[hn];exact hb⟩,by have:=hsm.2.2;unfold Small;rw[hl2,List.length_append];show l.length+2≤_;omega⟩
 clear hf hl hb hsm hn hl2
 go_enter Tryz.func22,Tryz.ntmps22
 go_wp2_with fail
 refine C1.mono ?_
 rintro e w1 ⟨u,rfl,o1,g1⟩
 obtain⟨p2,c2,rfl⟩:=RecT.Own.form o1
 have HO1:Hid (w1.ownsRow w.heap.size 65 5 (.slice p2 l.length c2) n (feR.cs l)):=by show World.ownsRow _ _ _ _ _ _ _;rw[HN.out];exact o1
 have HG1:Hid (w.grownBy w1 none):=g1
 clear C1 o1 g1
 rw[←HN.out] at HO1 ⊢
 obtain⟨Q,hQ⟩:∃ Q,Q=w1.alloc (.cells (feR.enc z77Fe++feR.enc z77Fe).toArray 65):=⟨_,rfl⟩
 have HQ:Hid (w1.grownBy Q none∧Src Q (.slice (some ⟨w1.heap.size,0,none⟩) 2 2) 2 5 (feR.cs [z77Fe,z77Fe])):=⟨by rw[hQ];exact World.grownBy_alloc _ _ none,by rw[hQ];exact two_Src feR 65 w1 z77Fe⟩
 have HOQ:Hid (Q.ownsRow w.heap.size 65 5 (.slice p2 n c2) n (feR.cs l)):=own_grow HO1.out HQ.out.1
 have HsQ:Hid (w.heap.size≤Q.heap.size):=Nat.le_trans HG1.out.size HQ.out.1.size
 have hQ':Q=w1.alloc (.cells #[.int .i64 (-77),.int .u8 0,.int .u16 0,.int .i64 0,.int .i64 0,.int .i64 (-77),.int .u8 0,.int .u16 0,.int .i64 0,.int .i64 0] 65):=hQ
 clear hQ
 go_wp2_with (at_builtin;rw[←hQ'];refine lwpl_app (by rfl) (.tmp 7) (.tmp 10) 24 rfl w.heap.size 65 i0 _ 5 32 Tryz.underlying24 hi hz0 hz1 hz2 rfl (by decide) (.slice p2 n c2) n (feR.cs l) rfl HOQ.out (.slice (some ⟨w1.heap.size,0,none⟩) 2 2) 2 (feR.cs [z77Fe,z77Fe]) rfl HQ.out.2 (feR.ones _) HL.out.1.1 HL.out.1.2 HsQ.out ?_;intro v3 w3 o3 g3 _;have H3:Hid (feR.Own 65 w3 w.heap.size v3 l2∧w.grownBy w3 none):=⟨by rw[Hl2.out];exact RecT.join o3 HN.out rfl,grown_own (grown_trans HG1.out HQ.out.1) g3 (fun y e=>(World.ownsRow.lt HOQ.out y e).1)⟩;clear o3 g3)
 have CS:=sameFe_big _ _ l2 w3 (HF.out.keep H3.out.2) (RecT.Own.at H3.out.1) HL.out.2
 refine CS.mono ?_
 rintro e w4 ⟨rfl,g4⟩
 have HG4:Hid (w.grownBy w4 none):=grown_trans H3.out.2 g4
 clear CS g4
 go_wp2_with fail
 go_ret
 exact⟨rfl,HG4.out⟩
end Go.Proofs.YthfjgpjcepmnmaaGreat
namespace Go.Proofs.YthfjgpjcepmnmaaGreat
open Go.RowKit
structure Kpt (S:List Nat) (w w':World):Prop where
 os:w'.os=w.os
 tape:w'.tape=w.tape
 output:w'.output=w.output
 size:w.heap.size≤w'.heap.size
 block:∀ k,k<w.heap.size→k ∉ S→w'.heap[k]?=w.heap[k]?
theorem Kpt.refl (S:List Nat) (w:World):Kpt S w w:=⟨rfl,rfl,rfl,Nat.le_refl _,fun _ _ _=>rfl⟩
theorem Kpt.trans {S T:List Nat} {a b c:World} (h:Kpt S a b) (k:Kpt T b c) (hT:∀ x,x∈T→x∈S∨a.heap.size≤x):Kpt S a c :=
 ⟨k.os.trans h.os,k.tape.trans h.tape,k.output.trans h.output,Nat.le_trans h.size k.size,fun i hi hs=>(k.block i (Nat.lt_of_lt_of_le hi h.size) (fun e=>by rcases hT i e with h1 | h1;exact hs h1;omega)).trans (h.block i hi hs)⟩
theorem Kpt.of_grown {w w':World} {r:Option Nat} (h:w.grownBy w' r):Kpt r.toList w w' :=
 ⟨h.os,h.tape,h.output,h.size,fun k hk hs=>h.block k hk (fun e=>hs (by rw[←e];simp))⟩
theorem Kpt.mono {S T:List Nat} {a b:World} (h:Kpt S a b) (hS:∀ x,x∈S→x∈T):Kpt T a b :=
 ⟨h.os,h.tape,h.output,h.size,fun k hk hs=>h.block k hk (fun e=>hs (hS k e))⟩
theorem Kpt.cell {S:List Nat} {a b:World} (h:Kpt S a b) {p:Addr} {v:Value} (hc:a.cell? p=some v) (hp:p.block ∉ S):b.cell? p=some v:=by
 rw[World.cell?_of_block (h.block p.block (World.block_lt_of_cell? _ _ hc) hp)];exact hc
theorem Kpt.grow {S:List Nat} {a b c:World} (h:Kpt S a b) (g:b.grownBy c none):Kpt S a c:=h.trans (Kpt.of_grown g) (by simp)
theorem Kpt.new {S:List Nat} {a b c:World} (g:a.grownBy b none) (h:Kpt S b c) (hS:∀ x,x∈S→a.heap.size≤x):a.grownBy c none :=
 ⟨h.os.trans g.os,h.tape.trans g.tape,h.output.trans g.output,Nat.le_trans g.size h.size,fun k hk _=>(h.block k (Nat.lt_of_lt_of_le hk g.size) (fun e=>by have:=hS k e;omega)).trans (g.block k hk (by simp))⟩
theorem RoomAt.eight {w:World} {g cap m:Nat} (h:RoomAt w g cap) (hm:m<cap):∃ v0 v1 v2 v3 v4 v5 v6 v7,w.cell? ⟨g,m*8,none⟩=some v0∧w.cell? ⟨g,m*8+1,none⟩=some v1∧w.cell? ⟨g,m*8+2,none⟩=some v2∧w.cell? ⟨g,m*8+3,none⟩=some v3∧w.cell? ⟨g,m*8+4,none⟩=some v4∧w.cell? ⟨g,m*8+5,none⟩=some v5∧w.cell? ⟨g,m*8+6,none⟩=some v6∧w.cell? ⟨g,m*8+7,none⟩=some v7:=by
 obtain⟨v0,e0⟩:=h.cell (i:=m*8) (by omega)
 obtain⟨v1,e1⟩:=h.cell (i:=m*8+1) (by omega)
 obtain⟨v2,e2⟩:=h.cell (i:=m*8+2) (by omega)
 obtain⟨v3,e3⟩:=h.cell (i:=m*8+3) (by omega)
 obtain⟨v4,e4⟩:=h.cell (i:=m*8+4) (by omega)
 obtain⟨v5,e5⟩:=h.cell (i:=m*8+5) (by omega)
 obtain⟨v6,e6⟩:=h.cell (i:=m*8+6) (by omega)
 obtain⟨v7,e7⟩:=h.cell (i:=m*8+7) (by omega)
 exact⟨v0,v1,v2,v3,v4,v5,v6,v7,e0,e1,e2,e3,e4,e5,e6,e7⟩
structure Lst where
 a:Option Nat
 n:Nat
 cap:Nat
def Lst.v (x:Lst):Value:=.slice (x.a.map fun g=>⟨g,0,none⟩) x.n x.cap
def Lst.f (x:Lst):Value:=.slice (x.a.map fun g=>⟨g,0,none⟩) x.cap x.cap
def Lst.ok (w:World) (x:Lst):Prop:=(x.a=none∧x.n=0∧x.cap=0)∨∃ g,x.a=some g∧x.n≤x.cap∧lim x.cap∧RoomAt w g x.cap
def blocks (T:List Lst):List Nat:=T.filterMap Lst.a
theorem mem_blocks {T:List Lst} {j g:Nat} {x:Lst} (h:T[j]?=some x) (hg:x.a=some g):g∈blocks T:=List.mem_filterMap.2 ⟨x,List.mem_of_getElem? h,hg⟩
def Diff (T:List Lst):Prop:=∀ (i j:Nat) (x y:Lst) (g:Nat),T[i]?=some x→T[j]?=some y→x.a=some g→y.a=some g→i=j
def fcells (T:List Lst):List Value:=T.map Lst.f
theorem fcells_snoc {T:List Lst} {k:Nat} {x:Lst} (h:T[k]?=some x):fcells (T.take (k+1))=fcells (T.take k)++[x.f]:=by
 rw[List.take_add_one,h]
 simp[fcells]
theorem own_above {w:World} {base:Nat} {e:TypeId} {size n:Nat} {v:Value} {xs:List Value} (h:w.ownsRow base e size v n xs):∀ x,v.ownBlock=some x→base≤x:=by
 obtain⟨h1,h2⟩:=h
 intro x hx
 rcases h2 with ⟨rfl,_⟩ | ⟨g,cap,cur,rfl,hg0,_⟩
 ·simp[Value.ownBlock] at hx
 ·simp[Value.ownBlock] at hx;omega
theorem small_len {n:Nat} (h:n≤4294967296):n≤maxLen:=by unfold maxLen;omega
end Go.Proofs.YthfjgpjcepmnmaaGreat
