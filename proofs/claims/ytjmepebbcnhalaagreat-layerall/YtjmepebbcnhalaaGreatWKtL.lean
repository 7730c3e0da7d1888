/-
  
-/
import Derived.Test.YtjmepebbcnhalaaGreatW39
import Derived.Test.YtjmepebbcnhalaaGreatW46
import Derived.Laws.MakeOwn
import Derived.OwnWalk
namespace Go.Proofs.YtjmepebbcnhalaaGreat
set_option maxRecDepth 100000
set_option maxHeartbeats 4000000
open Go.RowKit Go.Shelf

theorem eC {n b:Nat} (hb:8≤b) (h:(n+2)*b≤140737488355328):aZ n∧n+2≤maxLen∧n+2≤17592186044416:=by
 have h1:(n+2)*8≤(n+2)*b:=Nat.mul_le_mul_left _ hb
 have h2:n+2≤17592186044416:=by omega
 exact⟨by unfold aZ;omega,by unfold maxLen;omega,h2⟩
theorem j7 {α:Type} (R:aB α) (T:TypeId) (Z:World) (x:α):Src (Z.alloc (.cells (R.enc x++R.enc x).toArray T)) (.slice (some ⟨Z.heap.size,0,none⟩) 2 2) 2 R.k (R.cs [x,x]):=by
 have h:=ij (m:=2) (size:=R.k) (cs:=(R.enc x++R.enc x).toArray) (ak Z (R.enc x++R.enc x).toArray T) (by simp[R.hk];omega) 2
 have e:(R.enc x++R.enc x).toArray.toList=R.cs [x,x]:=by show R.enc x++R.enc x=R.enc x++(R.enc x++[]);rw[List.append_nil]
 rw[e] at h
 exact h
theorem aB.join {α:Type} {R:aB α} {T:TypeId} {w:World} {base n m:Nat} {v:Value} {l l':List α} (h:w.ownsRow base T R.k v (n+m) (R.cs l++R.cs l')) (hn:n=l.length) (hm:m=l'.length):R.Own T w base v (l++l'):=by
 unfold aB.Own
 rw[List.length_append,←hn,←hm,R.app]
 exact h
theorem Bm (t:Th) (w:World):(binOp .neq 120 (.agg #[.int .i64 t.card,.int .i64 t.owner,.int .u8 t.place,.int .i64 t.stamp,.int .i64 t.hurt,.int .i64 t.m0,.int .i64 t.m1,.int .i64 t.m2,.int .i64 t.m3,.int .i64 t.done,.bool t.fresh]) (.agg #[.int .i64 t.card,.int .i64 t.owner,.int .u8 t.place,.int .i64 t.stamp,.int .i64 t.hurt,.int .i64 t.m0,.int .i64 t.m1,.int .i64 t.m2,.int .i64 t.m3,.int .i64 t.done,.bool t.fresh])).run Tryz.prog w=.ok (.bool false) w:=by
 rw[BW,show oq _ _=true from wH.2 rfl]
 rfl
theorem qj (s:Sd) (w:World):(binOp .neq 64 (.agg #[.int .i64 s.th,.int .i64 s.pl,.int .u8 s.wh.wn,.int .u8 s.wh.vb,.int .u8 s.wh.wm,.int .i64 s.wh.ct,.int .u8 s.wh.su,.int .u8 s.wh.tr,.int .u8 s.wh.mr,.string s.wh.nm]) (.agg #[.int .i64 s.th,.int .i64 s.pl,.int .u8 s.wh.wn,.int .u8 s.wh.vb,.int .u8 s.wh.wm,.int .i64 s.wh.ct,.int .u8 s.wh.su,.int .u8 s.wh.tr,.int .u8 s.wh.mr,.string s.wh.nm])).run Tryz.prog w=.ok (.bool false) w:=Aj s w
def dc:Th:=⟨-77,0,0,0,0,0,0,0,0,0,false⟩
theorem ul (v:Value) (l:List Th) (w:World) (h:thR.At w v l) (hb:(l.length+2)*88≤140737488355328):Calls Tryz.prog 81 #[v] w fun e w'=>∃ v',e=.returned v'∧thR.Own 120 w' w.heap.size v' l∧w.grownBy w' none:=by
 obtain⟨i0,hi,hz0,hz1,hz2⟩:=info_parts Tryz.linfoT
 have HS:Hid (Src w v l.length 11 (thR.cs l)):=h.src
 have hsm:=eC (by decide) hb
 obtain⟨n,hn⟩:∃ n,n=l.length:=⟨_,rfl⟩
 have HN:Hid (n=l.length):=hn
 have HL:Hid (0+n≤maxLen∧(0+n)*88≤140737488355328):=by show _∧_;have:=hsm.2.1;exact⟨by omega,by omega⟩
 rw[←hn] at HS
 clear h hb hn hsm
 go_enter Tryz.func81,Tryz.ntmps81
 go_wp2_with (at_builtin;refine aX (by rfl) (.tmp 4) (.tmp 5) 26 rfl w.heap.size 120 i0 _ 11 88 Tryz.underlying26 hi hz0 hz1 hz2 rfl (by decide) _ 0 [] rfl (aB.Own.nil thR 120 w w.heap.size) _ n (thR.cs l) rfl HS.out (thR.ones l) HL.out.1 HL.out.2 (Nat.le_refl _) ?_;intro v3 w3 o3 g3 _;have HF:Hid (thR.Own 120 w3 w.heap.size v3 l∧w.grownBy w3 none):=⟨by unfold aB.Own;rw[←HN.out];rw[Nat.zero_add,List.nil_append] at o3;exact o3,g3⟩;clear o3 g3)
 go_ret
 exact⟨_,rfl,HF.out.1,HF.out.2⟩
theorem sQ (va vb:Value) (l:List Th) (w:World) (A:thR.At w va l) (B:thR.At w vb l) (hsm:aZ l.length):Calls Tryz.prog 80 #[va,vb] w fun e w'=>e=.returned (.bool true)∧w.grownBy w' none:=by
 obtain⟨pa,ca,rfl⟩:=A.form
 obtain⟨pb,cb,rfl⟩:=B.form
 have HA:Hid (thR.At w (.slice pa l.length ca) l):=A
 have HB:Hid (thR.At w (.slice pb l.length cb) l):=B
 have hnq:=Bm
 have hgq:=BH
 clear A B
 go_enter Tryz.func80,Tryz.ntmps80
 go_wp2_with fail
 go_loopw [5] (fun x5 wr=>∃ k:Nat,k≤l.length∧x5=.int .i64 (k:Int)∧w.grownBy wr none) (fun x5 _=>l.length - (intOf x5).toNat)
 case atStart=>exact⟨0,Nat.zero_le _,rfl,ay _ _⟩
 case round =>
  obtain⟨k,hk,rfl,G⟩:=hrel
  obtain⟨U,hU⟩:∃ U,U=wr:=⟨_,rfl⟩
  subst hU
  have HG:Hid (w.grownBy U none):=G
  clear G
  rcases (show k<l.length∨k=l.length from by omega) with hkl | hke
  ·have k0:(0:Int)≤(k:Int):=by omega
   have k1:(k:Int)<(l.length:Int):=by omega
   obtain⟨ga,oa,xa,ea,Ra⟩:=dw (HA.out.keep HG.out) hkl
   cases ea
   obtain⟨gb,ob,xb,eb,Rb⟩:=dw (HB.out.keep HG.out) hkl
   cases eb
   obtain⟨x,hx⟩:∃ x,x=l[k]:=⟨_,rfl⟩
   rw[←hx] at Ra Rb
   obtain⟨a0,a1,a2,a3,a4,a5,a6,a7,a8,a9,a10⟩:=dh Ra
   obtain⟨b0,b1,b2,b3,b4,b5,b6,b7,b8,b9,b10⟩:=dh Rb
   clear hx Ra Rb
   go_upto_region 6 with fail
   go_quiet (fail)
   go_wp2_with fail
   go_roundw
   case rel=>exact⟨k+1,hkl,by first | rfl | (rw[hsm.wrap hkl];rfl),aa HG.out (aD _ _ _)⟩
   case measure=>first | exact au hkl | (rw[hsm.wrap hkl];exact au hkl)
  ·have k1:¬(k:Int)<(l.length:Int):=by omega
   clear hke
   go_wp2_with fail
   go_ret
   exact⟨rfl,HG.out⟩
theorem uh (v:Value) (l:List Th) (w:World) (h:thR.At w v l) (hb:(l.length+2)*88≤140737488355328):Calls Tryz.prog 8 #[v] w fun e w'=>∃ v',e=.returned v'∧thR.Own 120 w' w.heap.size v' (l++[dc,dc])∧w.grownBy w' none:=by
 obtain⟨i0,hi,hz0,hz1,hz2⟩:=info_parts Tryz.linfoT
 have HS:Hid (Src w v l.length 11 (thR.cs l)):=h.src
 have hsm:=eC (by decide) hb
 obtain⟨p,c,rfl⟩:=h.form
 obtain⟨n,hn⟩:∃ n,n=l.length:=⟨_,rfl⟩
 have HN:Hid (n=l.length):=hn
 rw[←hn] at HS hb hsm ⊢
 have hC:Hid (wrap64 ((n:Int)+2)=((n+2:Nat):Int)):=by show _=_;have:=hsm.2.2;unfold wrap64;omega
 have hB:Hid (i0.bytes*(n+2)≤281474976710656):=by show _≤_;rw[hz2];omega
 have hM:Hid (n+2≤maxLen):=hsm.2.1
 have HL:Hid ((0+n≤maxLen∧(0+n)*88≤140737488355328)∧(n+2≤maxLen∧(n+2)*88≤140737488355328)):=by have:=hsm.2.1;exact⟨⟨by omega,by omega⟩,this,hb⟩
 clear h hb hn hsm
 go_enter Tryz.func8,Tryz.ntmps8
 go_upto_region 2 with (at_make;refine wpList_make_own _ rfl _ _ 26 rfl w.heap.size 120 i0 _ 11 Tryz.underlying26 hi hz0 hz1 .i64 .i64 _ (n+2) rfl rfl hC.out hB.out hM.out (Nat.le_refl _) ?_;intro w1 o1 g1;have HO1:Hid (w1.ownsRow w.heap.size 120 11 (.slice (some ⟨w.heap.size,0,none⟩) 0 (n+2)) 0 []):=o1;have HG1:Hid (w.grownBy w1 none):=g1;clear o1 g1)
 have HS1:Hid (Src w1 (.slice p n c) n 11 (thR.cs l)):=Src.keep HS.out HG1.out
 have Hs1:Hid (w.heap.size≤w1.heap.size):=HG1.out.size
 go_upto_region 3 with (at_builtin;refine aX (by rfl) (.tmp 8) (.tmp 9) 26 rfl w.heap.size 120 i0 _ 11 88 Tryz.underlying26 hi hz0 hz1 hz2 rfl (by decide) _ 0 [] rfl HO1.out _ n (thR.cs l) rfl HS1.out (thR.ones l) HL.out.1.1 HL.out.1.2 Hs1.out ?_;intro v2 w2 o2 g2 _;have HO2:Hid (w2.ownsRow w.heap.size 120 11 v2 n (thR.cs l)):=(by show World.ownsRow _ _ _ _ _ _ _;rw[Nat.zero_add,List.nil_append] at o2;exact o2);have HG2:Hid (w.grownBy w2 none):=az HG1.out g2 (fun y e=>(World.ownsRow.lt HO1.out y e).1);clear o2 g2)
 obtain⟨p2,c2,rfl⟩:∃ p c,v2=.slice p n c:=by obtain⟨p,c,e,_⟩:=bz HO2.out;exact⟨p,c,e⟩
 obtain⟨Q,hQ⟩:∃ Q,Q=w2.alloc (.cells (thR.enc dc++thR.enc dc).toArray 120):=⟨_,rfl⟩
 have HQ:Hid (w2.grownBy Q none∧Src Q (.slice (some ⟨w2.heap.size,0,none⟩) 2 2) 2 11 (thR.cs [dc,dc])):=⟨by rw[hQ];exact World.grownBy_alloc _ _ none,by rw[hQ];exact j7 thR 120 w2 dc⟩
 have HOQ:Hid (Q.ownsRow w.heap.size 120 11 (.slice p2 n c2) n (thR.cs l)):=ar HO2.out HQ.out.1
 have HsQ:Hid (w.heap.size≤Q.heap.size):=Nat.le_trans HG2.out.size HQ.out.1.size
 have hQ':Q=w2.alloc (.cells #[.int .i64 (-77),.int .i64 0,.int .u8 0,.int .i64 0,.int .i64 0,.int .i64 0,.int .i64 0,.int .i64 0,.int .i64 0,.int .i64 0,.bool false,.int .i64 (-77),.int .i64 0,.int .u8 0,.int .i64 0,.int .i64 0,.int .i64 0,.int .i64 0,.int .i64 0,.int .i64 0,.int .i64 0,.bool false] 120):=hQ
 clear hQ
 go_wp2_with (at_builtin;rw[←hQ'];refine aX (by rfl) (.tmp 11) (.tmp 14) 26 rfl w.heap.size 120 i0 _ 11 88 Tryz.underlying26 hi hz0 hz1 hz2 rfl (by decide) (.slice p2 n c2) n (thR.cs l) rfl HOQ.out (.slice (some ⟨w2.heap.size,0,none⟩) 2 2) 2 (thR.cs [dc,dc]) rfl HQ.out.2 (thR.ones _) HL.out.2.1 HL.out.2.2 HsQ.out ?_;intro v3 w3 o3 g3 _;have HF:Hid (thR.Own 120 w3 w.heap.size v3 (l++[dc,dc])∧w.grownBy w3 none):=⟨aB.join o3 HN.out rfl,az (aa HG2.out HQ.out.1) g3 (fun y e=>(World.ownsRow.lt HOQ.out y e).1)⟩;clear o3 g3)
 go_ret
 exact⟨_,rfl,HF.out.1,HF.out.2⟩
theorem tf (vf vl:Value) (l:List Th) (w:World) (hf:thR.At w vf (l++[dc,dc])) (hl:thR.At w vl l) (hb:(l.length+2)*88≤140737488355328):Calls Tryz.prog 21 #[vf,vl] w fun e w'=>e=.returned (.bool true)∧w.grownBy w' none:=by
 obtain⟨i0,hi,hz0,hz1,hz2⟩:=info_parts Tryz.linfoT
 obtain⟨l2,hl2⟩:∃ l2,l2=l++[dc,dc]:=⟨_,rfl⟩
 have Hl2:Hid (l2=l++[dc,dc]):=hl2
 rw[←hl2] at hf
 have C1:=ul vl l w hl hb
 have hsm:=eC (by decide) hb
 obtain⟨fa,fc,rfl⟩:=hf.form
 have HF:Hid (thR.At w (.slice fa l2.length fc) l2):=hf
 obtain⟨la,lc,rfl⟩:=hl.form
 obtain⟨n,hn⟩:∃ n,n=l.length:=⟨_,rfl⟩
 have HN:Hid (n=l.length):=hn
 have HL:Hid ((n+2≤maxLen∧(n+2)*88≤140737488355328)∧aZ l2.length):=⟨⟨by rw[hn];exact hsm.2.1,by rw[hn];exact hb⟩,by have:=hsm.2.2;unfold aZ;rw[hl2,List.length_append];show l.length+2≤_;omega⟩
 clear hf hl hb hsm hn hl2
 go_enter Tryz.func21,Tryz.ntmps21
 go_wp2_with fail
 refine C1.mono ?_
 rintro e w1 ⟨u,rfl,o1,g1⟩
 obtain⟨p2,c2,rfl⟩:=aB.Own.form o1
 have HO1:Hid (w1.ownsRow w.heap.size 120 11 (.slice p2 l.length c2) n (thR.cs l)):=by show World.ownsRow _ _ _ _ _ _ _;rw[HN.out];exact o1
 have HG1:Hid (w.grownBy w1 none):=g1
 clear C1 o1 g1
 rw[←HN.out] at HO1 ⊢
 obtain⟨Q,hQ⟩:∃ Q,Q=w1.alloc (.cells (thR.enc dc++thR.enc dc).toArray 120):=⟨_,rfl⟩
 have HQ:Hid (w1.grownBy Q none∧Src Q (.slice (some ⟨w1.heap.size,0,none⟩) 2 2) 2 11 (thR.cs [dc,dc])):=⟨by rw[hQ];exact World.grownBy_alloc _ _ none,by rw[hQ];exact j7 thR 120 w1 dc⟩
 have HOQ:Hid (Q.ownsRow w.heap.size 120 11 (.slice p2 n c2) n (thR.cs l)):=ar HO1.out HQ.out.1
 have HsQ:Hid (w.heap.size≤Q.heap.size):=Nat.le_trans HG1.out.size HQ.out.1.size
 have hQ':Q=w1.alloc (.cells #[.int .i64 (-77),.int .i64 0,.int .u8 0,.int .i64 0,.int .i64 0,.int .i64 0,.int .i64 0,.int .i64 0,.int .i64 0,.int .i64 0,.bool false,.int .i64 (-77),.int .i64 0,.int .u8 0,.int .i64 0,.int .i64 0,.int .i64 0,.int .i64 0,.int .i64 0,.int .i64 0,.int .i64 0,.bool false] 120):=hQ
 clear hQ
 go_wp2_with (at_builtin;rw[←hQ'];refine aX (by rfl) (.tmp 7) (.tmp 10) 26 rfl w.heap.size 120 i0 _ 11 88 Tryz.underlying26 hi hz0 hz1 hz2 rfl (by decide) (.slice p2 n c2) n (thR.cs l) rfl HOQ.out (.slice (some ⟨w1.heap.size,0,none⟩) 2 2) 2 (thR.cs [dc,dc]) rfl HQ.out.2 (thR.ones _) HL.out.1.1 HL.out.1.2 HsQ.out ?_;intro v3 w3 o3 g3 _;have H3:Hid (thR.Own 120 w3 w.heap.size v3 l2∧w.grownBy w3 none):=⟨by rw[Hl2.out];exact aB.join o3 HN.out rfl,az (aa HG1.out HQ.out.1) g3 (fun y e=>(World.ownsRow.lt HOQ.out y e).1)⟩;clear o3 g3)
 have CS:=sQ _ _ l2 w3 (HF.out.keep H3.out.2) (aB.Own.at H3.out.1) HL.out.2
 refine CS.mono ?_
 rintro e w4 ⟨rfl,g4⟩
 have HG4:Hid (w.grownBy w4 none):=aa H3.out.2 g4
 clear CS g4
 go_wp2_with fail
 go_ret
 exact⟨rfl,HG4.out⟩
def de:Fe:=⟨-77,0,0,0,0⟩
theorem uE (v:Value) (l:List Fe) (w:World) (h:feR.At w v l) (hb:(l.length+2)*32≤140737488355328):Calls Tryz.prog 82 #[v] w fun e w'=>∃ v',e=.returned v'∧feR.Own 122 w' w.heap.size v' l∧w.grownBy w' none:=by
 obtain⟨i0,hi,hz0,hz1,hz2⟩:=info_parts Tryz.linfoF
 have HS:Hid (Src w v l.length 5 (feR.cs l)):=h.src
 have hsm:=eC (by decide) hb
 obtain⟨n,hn⟩:∃ n,n=l.length:=⟨_,rfl⟩
 have HN:Hid (n=l.length):=hn
 have HL:Hid (0+n≤maxLen∧(0+n)*32≤140737488355328):=by show _∧_;have:=hsm.2.1;exact⟨by omega,by omega⟩
 rw[←hn] at HS
 clear h hb hn hsm
 go_enter Tryz.func82,Tryz.ntmps82
 go_wp2_with (at_builtin;refine aX (by rfl) (.tmp 4) (.tmp 5) 27 rfl w.heap.size 122 i0 _ 5 32 Tryz.underlying27 hi hz0 hz1 hz2 rfl (by decide) _ 0 [] rfl (aB.Own.nil feR 122 w w.heap.size) _ n (feR.cs l) rfl HS.out (feR.ones l) HL.out.1 HL.out.2 (Nat.le_refl _) ?_;intro v3 w3 o3 g3 _;have HF:Hid (feR.Own 122 w3 w.heap.size v3 l∧w.grownBy w3 none):=⟨by unfold aB.Own;rw[←HN.out];rw[Nat.zero_add,List.nil_append] at o3;exact o3,g3⟩;clear o3 g3)
 go_ret
 exact⟨_,rfl,HF.out.1,HF.out.2⟩
theorem jz (va vb:Value) (l:List Fe) (w:World) (A:feR.At w va l) (B:feR.At w vb l) (hsm:aZ l.length):Calls Tryz.prog 18 #[va,vb] w fun e w'=>e=.returned (.bool true)∧w.grownBy w' none:=by
 obtain⟨pa,ca,rfl⟩:=A.form
 obtain⟨pb,cb,rfl⟩:=B.form
 have HA:Hid (feR.At w (.slice pa l.length ca) l):=A
 have HB:Hid (feR.At w (.slice pb l.length cb) l):=B
 have hnq:=vh
 have hgq:=uU
 clear A B
 go_enter Tryz.func18,Tryz.ntmps18
 go_wp2_with fail
 go_loopw [5] (fun x5 wr=>∃ k:Nat,k≤l.length∧x5=.int .i64 (k:Int)∧w.grownBy wr none) (fun x5 _=>l.length - (intOf x5).toNat)
 case atStart=>exact⟨0,Nat.zero_le _,rfl,ay _ _⟩
 case round =>
  obtain⟨k,hk,rfl,G⟩:=hrel
  obtain⟨U,hU⟩:∃ U,U=wr:=⟨_,rfl⟩
  subst hU
  have HG:Hid (w.grownBy U none):=G
  clear G
  rcases (show k<l.length∨k=l.length from by omega) with hkl | hke
  ·have k0:(0:Int)≤(k:Int):=by omega
   have k1:(k:Int)<(l.length:Int):=by omega
   obtain⟨ga,oa,xa,ea,Ra⟩:=eB (HA.out.keep HG.out) hkl
   cases ea
   obtain⟨gb,ob,xb,eb,Rb⟩:=eB (HB.out.keep HG.out) hkl
   cases eb
   obtain⟨x,hx⟩:∃ x,x=l[k]:=⟨_,rfl⟩
   rw[←hx] at Ra Rb
   obtain⟨a0,a1,a2,a3,a4⟩:=bJ Ra
   obtain⟨b0,b1,b2,b3,b4⟩:=bJ Rb
   clear hx Ra Rb
   go_upto_region 6 with fail
   go_quiet (fail)
   go_wp2_with fail
   go_roundw
   case rel=>exact⟨k+1,hkl,by first | rfl | (rw[hsm.wrap hkl];rfl),aa HG.out (aD _ _ _)⟩
   case measure=>first | exact au hkl | (rw[hsm.wrap hkl];exact au hkl)
  ·have k1:¬(k:Int)<(l.length:Int):=by omega
   clear hke
   go_wp2_with fail
   go_ret
   exact⟨rfl,HG.out⟩
theorem uy (v:Value) (l:List Fe) (w:World) (h:feR.At w v l) (hb:(l.length+2)*32≤140737488355328):Calls Tryz.prog 9 #[v] w fun e w'=>∃ v',e=.returned v'∧feR.Own 122 w' w.heap.size v' (l++[de,de])∧w.grownBy w' none:=by
 obtain⟨i0,hi,hz0,hz1,hz2⟩:=info_parts Tryz.linfoF
 have HS:Hid (Src w v l.length 5 (feR.cs l)):=h.src
 have hsm:=eC (by decide) hb
 obtain⟨p,c,rfl⟩:=h.form
 obtain⟨n,hn⟩:∃ n,n=l.length:=⟨_,rfl⟩
 have HN:Hid (n=l.length):=hn
 rw[←hn] at HS hb hsm ⊢
 have hC:Hid (wrap64 ((n:Int)+2)=((n+2:Nat):Int)):=by show _=_;have:=hsm.2.2;unfold wrap64;omega
 have hB:Hid (i0.bytes*(n+2)≤281474976710656):=by show _≤_;rw[hz2];omega
 have hM:Hid (n+2≤maxLen):=hsm.2.1
 have HL:Hid ((0+n≤maxLen∧(0+n)*32≤140737488355328)∧(n+2≤maxLen∧(n+2)*32≤140737488355328)):=by have:=hsm.2.1;exact⟨⟨by omega,by omega⟩,this,hb⟩
 clear h hb hn hsm
 go_enter Tryz.func9,Tryz.ntmps9
 go_upto_region 2 with (at_make;refine wpList_make_own _ rfl _ _ 27 rfl w.heap.size 122 i0 _ 5 Tryz.underlying27 hi hz0 hz1 .i64 .i64 _ (n+2) rfl rfl hC.out hB.out hM.out (Nat.le_refl _) ?_;intro w1 o1 g1;have HO1:Hid (w1.ownsRow w.heap.size 122 5 (.slice (some ⟨w.heap.size,0,none⟩) 0 (n+2)) 0 []):=o1;have HG1:Hid (w.grownBy w1 none):=g1;clear o1 g1)
 have HS1:Hid (Src w1 (.slice p n c) n 5 (feR.cs l)):=Src.keep HS.out HG1.out
 have Hs1:Hid (w.heap.size≤w1.heap.size):=HG1.out.size
 go_upto_region 3 with (at_builtin;refine aX (by rfl) (.tmp 8) (.tmp 9) 27 rfl w.heap.size 122 i0 _ 5 32 Tryz.underlying27 hi hz0 hz1 hz2 rfl (by decide) _ 0 [] rfl HO1.out _ n (feR.cs l) rfl HS1.out (feR.ones l) HL.out.1.1 HL.out.1.2 Hs1.out ?_;intro v2 w2 o2 g2 _;have HO2:Hid (w2.ownsRow w.heap.size 122 5 v2 n (feR.cs l)):=(by show World.ownsRow _ _ _ _ _ _ _;rw[Nat.zero_add,List.nil_append] at o2;exact o2);have HG2:Hid (w.grownBy w2 none):=az HG1.out g2 (fun y e=>(World.ownsRow.lt HO1.out y e).1);clear o2 g2)
 obtain⟨p2,c2,rfl⟩:∃ p c,v2=.slice p n c:=by obtain⟨p,c,e,_⟩:=bz HO2.out;exact⟨p,c,e⟩
 obtain⟨Q,hQ⟩:∃ Q,Q=w2.alloc (.cells (feR.enc de++feR.enc de).toArray 122):=⟨_,rfl⟩
 have HQ:Hid (w2.grownBy Q none∧Src Q (.slice (some ⟨w2.heap.size,0,none⟩) 2 2) 2 5 (feR.cs [de,de])):=⟨by rw[hQ];exact World.grownBy_alloc _ _ none,by rw[hQ];exact j7 feR 122 w2 de⟩
 have HOQ:Hid (Q.ownsRow w.heap.size 122 5 (.slice p2 n c2) n (feR.cs l)):=ar HO2.out HQ.out.1
 have HsQ:Hid (w.heap.size≤Q.heap.size):=Nat.le_trans HG2.out.size HQ.out.1.size
 have hQ':Q=w2.alloc (.cells #[.int .i64 (-77),.int .u8 0,.int .u16 0,.int .i64 0,.int .i64 0,.int .i64 (-77),.int .u8 0,.int .u16 0,.int .i64 0,.int .i64 0] 122):=hQ
 clear hQ
 go_wp2_with (at_builtin;rw[←hQ'];refine aX (by rfl) (.tmp 11) (.tmp 14) 27 rfl w.heap.size 122 i0 _ 5 32 Tryz.underlying27 hi hz0 hz1 hz2 rfl (by decide) (.slice p2 n c2) n (feR.cs l) rfl HOQ.out (.slice (some ⟨w2.heap.size,0,none⟩) 2 2) 2 (feR.cs [de,de]) rfl HQ.out.2 (feR.ones _) HL.out.2.1 HL.out.2.2 HsQ.out ?_;intro v3 w3 o3 g3 _;have HF:Hid (feR.Own 122 w3 w.heap.size v3 (l++[de,de])∧w.grownBy w3 none):=⟨aB.join o3 HN.out rfl,az (aa HG2.out HQ.out.1) g3 (fun y e=>(World.ownsRow.lt HOQ.out y e).1)⟩;clear o3 g3)
 go_ret
 exact⟨_,rfl,HF.out.1,HF.out.2⟩
theorem ua (vf vl:Value) (l:List Fe) (w:World) (hf:feR.At w vf (l++[de,de])) (hl:feR.At w vl l) (hb:(l.length+2)*32≤140737488355328):Calls Tryz.prog 22 #[vf,vl] w fun e w'=>e=.returned (.bool true)∧w.grownBy w' none:=by
 obtain⟨i0,hi,hz0,hz1,hz2⟩:=info_parts Tryz.linfoF
 obtain⟨l2,hl2⟩:∃ l2,l2=l++[de,de]:=⟨_,rfl⟩
 have Hl2:Hid (l2=l++[de,de]):=hl2
 rw[←hl2] at hf
 have C1:=uE vl l w hl hb
 have hsm:=eC (by decide) hb
 obtain⟨fa,fc,rfl⟩:=hf.form
 have HF:Hid (feR.At w (.slice fa l2.length fc) l2):=hf
 obtain⟨la,lc,rfl⟩:=hl.form
 obtain⟨n,hn⟩:∃ n,n=l.length:=⟨_,rfl⟩
 have HN:Hid (n=l.length):=hn
 have HL:Hid ((n+2≤maxLen∧(n+2)*32≤140737488355328)∧aZ l2.length):=⟨⟨by rw[hn];exact hsm.2.1,by rw[hn];exact hb⟩,by have:=hsm.2.2;unfold aZ;rw[hl2,List.length_append];show l.length+2≤_;omega⟩
 clear hf hl hb hsm hn hl2
 go_enter Tryz.func22,Tryz.ntmps22
 go_wp2_with fail
 refine C1.mono ?_
 rintro e w1 ⟨u,rfl,o1,g1⟩
 obtain⟨p2,c2,rfl⟩:=aB.Own.form o1
 have HO1:Hid (w1.ownsRow w.heap.size 122 5 (.slice p2 l.length c2) n (feR.cs l)):=by show World.ownsRow _ _ _ _ _ _ _;rw[HN.out];exact o1
 have HG1:Hid (w.grownBy w1 none):=g1
 clear C1 o1 g1
 rw[←HN.out] at HO1 ⊢
 obtain⟨Q,hQ⟩:∃ Q,Q=w1.alloc (.cells (feR.enc de++feR.enc de).toArray 122):=⟨_,rfl⟩
 have HQ:Hid (w1.grownBy Q none∧Src Q (.slice (some ⟨w1.heap.size,0,none⟩) 2 2) 2 5 (feR.cs [de,de])):=⟨by rw[hQ];exact World.grownBy_alloc _ _ none,by rw[hQ];exact j7 feR 122 w1 de⟩
 have HOQ:Hid (Q.ownsRow w.heap.size 122 5 (.slice p2 n c2) n (feR.cs l)):=ar HO1.out HQ.out.1
 have HsQ:Hid (w.heap.size≤Q.heap.size):=Nat.le_trans HG1.out.size HQ.out.1.size
 have hQ':Q=w1.alloc (.cells #[.int .i64 (-77),.int .u8 0,.int .u16 0,.int .i64 0,.int .i64 0,.int .i64 (-77),.int .u8 0,.int .u16 0,.int .i64 0,.int .i64 0] 122):=hQ
 clear hQ
 go_wp2_with (at_builtin;rw[←hQ'];refine aX (by rfl) (.tmp 7) (.tmp 10) 27 rfl w.heap.size 122 i0 _ 5 32 Tryz.underlying27 hi hz0 hz1 hz2 rfl (by decide) (.slice p2 n c2) n (feR.cs l) rfl HOQ.out (.slice (some ⟨w1.heap.size,0,none⟩) 2 2) 2 (feR.cs [de,de]) rfl HQ.out.2 (feR.ones _) HL.out.1.1 HL.out.1.2 HsQ.out ?_;intro v3 w3 o3 g3 _;have H3:Hid (feR.Own 122 w3 w.heap.size v3 l2∧w.grownBy w3 none):=⟨by rw[Hl2.out];exact aB.join o3 HN.out rfl,az (aa HG1.out HQ.out.1) g3 (fun y e=>(World.ownsRow.lt HOQ.out y e).1)⟩;clear o3 g3)
 have CS:=jz _ _ l2 w3 (HF.out.keep H3.out.2) (aB.Own.at H3.out.1) HL.out.2
 refine CS.mono ?_
 rintro e w4 ⟨rfl,g4⟩
 have HG4:Hid (w.grownBy w4 none):=aa H3.out.2 g4
 clear CS g4
 go_wp2_with fail
 go_ret
 exact⟨rfl,HG4.out⟩
def dg:Sd:=⟨-77,0,Pt.none⟩
theorem n8 (v:Value) (l:List Sd) (w:World) (h:sdR.At w v l) (hb:(l.length+2)*56≤140737488355328):Calls Tryz.prog 19 #[v] w fun e w'=>∃ v',e=.returned v'∧sdR.Own 64 w' w.heap.size v' l∧w.grownBy w' none:=by
 obtain⟨i0,hi,hz0,hz1,hz2⟩:=info_parts Tryz.linfoD
 have HS:Hid (Src w v l.length 10 (sdR.cs l)):=h.src
 have hsm:=eC (by decide) hb
 obtain⟨n,hn⟩:∃ n,n=l.length:=⟨_,rfl⟩
 have HN:Hid (n=l.length):=hn
 have HL:Hid (0+n≤maxLen∧(0+n)*56≤140737488355328):=by show _∧_;have:=hsm.2.1;exact⟨by omega,by omega⟩
 rw[←hn] at HS
 clear h hb hn hsm
 go_enter Tryz.func19,Tryz.ntmps19
 go_wp2_with (at_builtin;refine aX (by rfl) (.tmp 4) (.tmp 5) 30 rfl w.heap.size 64 i0 _ 10 56 Tryz.underlying30 hi hz0 hz1 hz2 rfl (by decide) _ 0 [] rfl (aB.Own.nil sdR 64 w w.heap.size) _ n (sdR.cs l) rfl HS.out (sdR.ones l) HL.out.1 HL.out.2 (Nat.le_refl _) ?_;intro v3 w3 o3 g3 _;have HF:Hid (sdR.Own 64 w3 w.heap.size v3 l∧w.grownBy w3 none):=⟨by unfold aB.Own;rw[←HN.out];rw[Nat.zero_add,List.nil_append] at o3;exact o3,g3⟩;clear o3 g3)
 go_ret
 exact⟨_,rfl,HF.out.1,HF.out.2⟩
theorem sJ (va vb:Value) (l:List Sd) (w:World) (A:sdR.At w va l) (B:sdR.At w vb l) (hsm:aZ l.length):Calls Tryz.prog 17 #[va,vb] w fun e w'=>e=.returned (.bool true)∧w.grownBy w' none:=by
 obtain⟨pa,ca,rfl⟩:=A.form
 obtain⟨pb,cb,rfl⟩:=B.form
 have HA:Hid (sdR.At w (.slice pa l.length ca) l):=A
 have HB:Hid (sdR.At w (.slice pb l.length cb) l):=B
 have hnq:=qj
 have hgq:=pR
 clear A B
 go_enter Tryz.func17,Tryz.ntmps17
 go_wp2_with fail
 go_loopw [5] (fun x5 wr=>∃ k:Nat,k≤l.length∧x5=.int .i64 (k:Int)∧w.grownBy wr none) (fun x5 _=>l.length - (intOf x5).toNat)
 case atStart=>exact⟨0,Nat.zero_le _,rfl,ay _ _⟩
 case round =>
  obtain⟨k,hk,rfl,G⟩:=hrel
  obtain⟨U,hU⟩:∃ U,U=wr:=⟨_,rfl⟩
  subst hU
  have HG:Hid (w.grownBy U none):=G
  clear G
  rcases (show k<l.length∨k=l.length from by omega) with hkl | hke
  ·have k0:(0:Int)≤(k:Int):=by omega
   have k1:(k:Int)<(l.length:Int):=by omega
   obtain⟨ga,oa,xa,ea,Ra⟩:=dW (HA.out.keep HG.out) hkl
   cases ea
   obtain⟨gb,ob,xb,eb,Rb⟩:=dW (HB.out.keep HG.out) hkl
   cases eb
   obtain⟨x,hx⟩:∃ x,x=l[k]:=⟨_,rfl⟩
   rw[←hx] at Ra Rb
   obtain⟨a0,a1,a2,a3,a4,a5,a6,a7,a8,a9⟩:=bq Ra
   obtain⟨b0,b1,b2,b3,b4,b5,b6,b7,b8,b9⟩:=bq Rb
   clear hx Ra Rb
   go_upto_region 6 with fail
   go_quiet (fail)
   go_wp2_with fail
   go_roundw
   case rel=>exact⟨k+1,hkl,by first | rfl | (rw[hsm.wrap hkl];rfl),aa HG.out (aD _ _ _)⟩
   case measure=>first | exact au hkl | (rw[hsm.wrap hkl];exact au hkl)
  ·have k1:¬(k:Int)<(l.length:Int):=by omega
   clear hke
   go_wp2_with fail
   go_ret
   exact⟨rfl,HG.out⟩
theorem uJ (v:Value) (l:List Sd) (w:World) (h:sdR.At w v l) (hb:(l.length+2)*56≤140737488355328):Calls Tryz.prog 10 #[v] w fun e w'=>∃ v',e=.returned v'∧sdR.Own 64 w' w.heap.size v' (l++[dg,dg])∧w.grownBy w' none:=by
 obtain⟨i0,hi,hz0,hz1,hz2⟩:=info_parts Tryz.linfoD
 have HS:Hid (Src w v l.length 10 (sdR.cs l)):=h.src
 have hsm:=eC (by decide) hb
 obtain⟨p,c,rfl⟩:=h.form
 obtain⟨n,hn⟩:∃ n,n=l.length:=⟨_,rfl⟩
 have HN:Hid (n=l.length):=hn
 rw[←hn] at HS hb hsm ⊢
 have hC:Hid (wrap64 ((n:Int)+2)=((n+2:Nat):Int)):=by show _=_;have:=hsm.2.2;unfold wrap64;omega
 have hB:Hid (i0.bytes*(n+2)≤281474976710656):=by show _≤_;rw[hz2];omega
 have hM:Hid (n+2≤maxLen):=hsm.2.1
 have HL:Hid ((0+n≤maxLen∧(0+n)*56≤140737488355328)∧(n+2≤maxLen∧(n+2)*56≤140737488355328)):=by have:=hsm.2.1;exact⟨⟨by omega,by omega⟩,this,hb⟩
 clear h hb hn hsm
 go_enter Tryz.func10,Tryz.ntmps10
 go_upto_region 2 with (at_make;refine wpList_make_own _ rfl _ _ 30 rfl w.heap.size 64 i0 _ 10 Tryz.underlying30 hi hz0 hz1 .i64 .i64 _ (n+2) rfl rfl hC.out hB.out hM.out (Nat.le_refl _) ?_;intro w1 o1 g1;have HO1:Hid (w1.ownsRow w.heap.size 64 10 (.slice (some ⟨w.heap.size,0,none⟩) 0 (n+2)) 0 []):=o1;have HG1:Hid (w.grownBy w1 none):=g1;clear o1 g1)
 have HS1:Hid (Src w1 (.slice p n c) n 10 (sdR.cs l)):=Src.keep HS.out HG1.out
 have Hs1:Hid (w.heap.size≤w1.heap.size):=HG1.out.size
 go_upto_region 3 with (at_builtin;refine aX (by rfl) (.tmp 8) (.tmp 9) 30 rfl w.heap.size 64 i0 _ 10 56 Tryz.underlying30 hi hz0 hz1 hz2 rfl (by decide) _ 0 [] rfl HO1.out _ n (sdR.cs l) rfl HS1.out (sdR.ones l) HL.out.1.1 HL.out.1.2 Hs1.out ?_;intro v2 w2 o2 g2 _;have HO2:Hid (w2.ownsRow w.heap.size 64 10 v2 n (sdR.cs l)):=(by show World.ownsRow _ _ _ _ _ _ _;rw[Nat.zero_add,List.nil_append] at o2;exact o2);have HG2:Hid (w.grownBy w2 none):=az HG1.out g2 (fun y e=>(World.ownsRow.lt HO1.out y e).1);clear o2 g2)
 obtain⟨p2,c2,rfl⟩:∃ p c,v2=.slice p n c:=by obtain⟨p,c,e,_⟩:=bz HO2.out;exact⟨p,c,e⟩
 obtain⟨Q,hQ⟩:∃ Q,Q=w2.alloc (.cells (sdR.enc dg++sdR.enc dg).toArray 64):=⟨_,rfl⟩
 have HQ:Hid (w2.grownBy Q none∧Src Q (.slice (some ⟨w2.heap.size,0,none⟩) 2 2) 2 10 (sdR.cs [dg,dg])):=⟨by rw[hQ];exact World.grownBy_alloc _ _ none,by rw[hQ];exact j7 sdR 64 w2 dg⟩
 have HOQ:Hid (Q.ownsRow w.heap.size 64 10 (.slice p2 n c2) n (sdR.cs l)):=ar HO2.out HQ.out.1
 have HsQ:Hid (w.heap.size≤Q.heap.size):=Nat.le_trans HG2.out.size HQ.out.1.size
 have hQ':Q=w2.alloc (.cells #[.int .i64 (-77),.int .i64 0,.int .u8 0,.int .u8 0,.int .u8 0,.int .i64 0,.int .u8 0,.int .u8 0,.int .u8 0,.string ⟨#[]⟩,.int .i64 (-77),.int .i64 0,.int .u8 0,.int .u8 0,.int .u8 0,.int .i64 0,.int .u8 0,.int .u8 0,.int .u8 0,.string ⟨#[]⟩] 64):=hQ
 clear hQ
 go_wp2_with (at_builtin;rw[←hQ'];refine aX (by rfl) (.tmp 11) (.tmp 14) 30 rfl w.heap.size 64 i0 _ 10 56 Tryz.underlying30 hi hz0 hz1 hz2 rfl (by decide) (.slice p2 n c2) n (sdR.cs l) rfl HOQ.out (.slice (some ⟨w2.heap.size,0,none⟩) 2 2) 2 (sdR.cs [dg,dg]) rfl HQ.out.2 (sdR.ones _) HL.out.2.1 HL.out.2.2 HsQ.out ?_;intro v3 w3 o3 g3 _;have HF:Hid (sdR.Own 64 w3 w.heap.size v3 (l++[dg,dg])∧w.grownBy w3 none):=⟨aB.join o3 HN.out rfl,az (aa HG2.out HQ.out.1) g3 (fun y e=>(World.ownsRow.lt HOQ.out y e).1)⟩;clear o3 g3)
 go_ret
 exact⟨_,rfl,HF.out.1,HF.out.2⟩
theorem tN (vf vl:Value) (l:List Sd) (w:World) (hf:sdR.At w vf (l++[dg,dg])) (hl:sdR.At w vl l) (hb:(l.length+2)*56≤140737488355328):Calls Tryz.prog 23 #[vf,vl] w fun e w'=>e=.returned (.bool true)∧w.grownBy w' none:=by
 obtain⟨i0,hi,hz0,hz1,hz2⟩:=info_parts Tryz.linfoD
 obtain⟨l2,hl2⟩:∃ l2,l2=l++[dg,dg]:=⟨_,rfl⟩
 have Hl2:Hid (l2=l++[dg,dg]):=hl2
 rw[←hl2] at hf
 have C1:=n8 vl l w hl hb
 have hsm:=eC (by decide) hb
 obtain⟨fa,fc,rfl⟩:=hf.form
 have HF:Hid (sdR.At w (.slice fa l2.length fc) l2):=hf
 obtain⟨la,lc,rfl⟩:=hl.form
 obtain⟨n,hn⟩:∃ n,n=l.length:=⟨_,rfl⟩
 have HN:Hid (n=l.length):=hn
 have HL:Hid ((n+2≤maxLen∧(n+2)*56≤140737488355328)∧aZ l2.length):=⟨⟨by rw[hn];exact hsm.2.1,by rw[hn];exact hb⟩,by have:=hsm.2.2;unfold aZ;rw[hl2,List.length_append];show l.length+2≤_;omega⟩
 clear hf hl hb hsm hn hl2
 go_enter Tryz.func23,Tryz.ntmps23
 go_wp2_with fail
 refine C1.mono ?_
 rintro e w1 ⟨u,rfl,o1,g1⟩
 obtain⟨p2,c2,rfl⟩:=aB.Own.form o1
 have HO1:Hid (w1.ownsRow w.heap.size 64 10 (.slice p2 l.length c2) n (sdR.cs l)):=by show World.ownsRow _ _ _ _ _ _ _;rw[HN.out];exact o1
 have HG1:Hid (w.grownBy w1 none):=g1
 clear C1 o1 g1
 rw[←HN.out] at HO1 ⊢
 obtain⟨Q,hQ⟩:∃ Q,Q=w1.alloc (.cells (sdR.enc dg++sdR.enc dg).toArray 64):=⟨_,rfl⟩
 have HQ:Hid (w1.grownBy Q none∧Src Q (.slice (some ⟨w1.heap.size,0,none⟩) 2 2) 2 10 (sdR.cs [dg,dg])):=⟨by rw[hQ];exact World.grownBy_alloc _ _ none,by rw[hQ];exact j7 sdR 64 w1 dg⟩
 have HOQ:Hid (Q.ownsRow w.heap.size 64 10 (.slice p2 n c2) n (sdR.cs l)):=ar HO1.out HQ.out.1
 have HsQ:Hid (w.heap.size≤Q.heap.size):=Nat.le_trans HG1.out.size HQ.out.1.size
 have hQ':Q=w1.alloc (.cells #[.int .i64 (-77),.int .i64 0,.int .u8 0,.int .u8 0,.int .u8 0,.int .i64 0,.int .u8 0,.int .u8 0,.int .u8 0,.string ⟨#[]⟩,.int .i64 (-77),.int .i64 0,.int .u8 0,.int .u8 0,.int .u8 0,.int .i64 0,.int .u8 0,.int .u8 0,.int .u8 0,.string ⟨#[]⟩] 64):=hQ
 clear hQ
 go_wp2_with (at_builtin;rw[←hQ'];refine aX (by rfl) (.tmp 7) (.tmp 10) 30 rfl w.heap.size 64 i0 _ 10 56 Tryz.underlying30 hi hz0 hz1 hz2 rfl (by decide) (.slice p2 n c2) n (sdR.cs l) rfl HOQ.out (.slice (some ⟨w1.heap.size,0,none⟩) 2 2) 2 (sdR.cs [dg,dg]) rfl HQ.out.2 (sdR.ones _) HL.out.1.1 HL.out.1.2 HsQ.out ?_;intro v3 w3 o3 g3 _;have H3:Hid (sdR.Own 64 w3 w.heap.size v3 l2∧w.grownBy w3 none):=⟨by rw[Hl2.out];exact aB.join o3 HN.out rfl,az (aa HG1.out HQ.out.1) g3 (fun y e=>(World.ownsRow.lt HOQ.out y e).1)⟩;clear o3 g3)
 have CS:=sJ _ _ l2 w3 (HF.out.keep H3.out.2) (aB.Own.at H3.out.1) HL.out.2
 refine CS.mono ?_
 rintro e w4 ⟨rfl,g4⟩
 have HG4:Hid (w.grownBy w4 none):=aa H3.out.2 g4
 clear CS g4
 go_wp2_with fail
 go_ret
 exact⟨rfl,HG4.out⟩
end Go.Proofs.YtjmepebbcnhalaaGreat
