import Derived.Test.YtjmepebbcnhalaaGreatWLyB
import Derived.Maps.AppendAt
namespace Go.Proofs.YtjmepebbcnhalaaGreat
set_option maxRecDepth 100000
set_option maxHeartbeats 4000000
open Go.RowKit
def pad (l:List Bool):List Bool:=l++List.replicate (16 - l.length) false
def smc (l:List Bool):Array Value:=((pad l).map Value.bool).toArray
def smv (l:List Bool):Value:=.agg (smc l)
theorem kq {l:List Bool} (h:l.length≤16):(pad l).length=16:=by
 unfold pad
 rw[List.length_append,List.length_replicate]
 omega
theorem jR {l:List Bool} (h:l.length≤16):(smc l).size=16:=by
 unfold smc
 rw[List.size_toArray,List.length_map,kq h]
theorem Ai {α:Type}:∀ l:List α,l.length=16→∃ b0 b1 b2 b3 b4 b5 b6 b7 b8 b9 b10 b11 b12 b13 b14 b15,l=[b0,b1,b2,b3,b4,b5,b6,b7,b8,b9,b10,b11,b12,b13,b14,b15]
 | [b0,b1,b2,b3,b4,b5,b6,b7,b8,b9,b10,b11,b12,b13,b14,b15],_=>⟨b0,b1,b2,b3,b4,b5,b6,b7,b8,b9,b10,b11,b12,b13,b14,b15,rfl⟩
theorem CT {l:List Bool} (h:l.length≤16):∃ b0 b1 b2 b3 b4 b5 b6 b7 b8 b9 b10 b11 b12 b13 b14 b15,pad l=[b0,b1,b2,b3,b4,b5,b6,b7,b8,b9,b10,b11,b12,b13,b14,b15]∧smc l=#[.bool b0,.bool b1,.bool b2,.bool b3,.bool b4,.bool b5,.bool b6,.bool b7,.bool b8,.bool b9,.bool b10,.bool b11,.bool b12,.bool b13,.bool b14,.bool b15]:=by
 obtain⟨b0,b1,b2,b3,b4,b5,b6,b7,b8,b9,b10,b11,b12,b13,b14,b15,e⟩:=Ai (pad l) (kq h)
 refine⟨b0,b1,b2,b3,b4,b5,b6,b7,b8,b9,b10,b11,b12,b13,b14,b15,e,?_⟩
 unfold smc
 rw[e]
 rfl
theorem yx {l:List Bool} (h:l.length<16) (b:Bool):(pad l).set l.length b=pad (l++[b]):=by
 unfold pad
 rw[List.set_append_right _ _ (Nat.le_refl _),Nat.sub_self,List.length_append,List.length_singleton,show 16 - l.length=(16 - (l.length+1))+1 from by omega,List.replicate_succ,List.set_cons_zero,List.append_assoc]
 rfl
theorem yr {l:List Bool} (h:l.length<16) (b:Bool):(smc l).setIfInBounds l.length (.bool b)=smc (l++[b]):=by
 unfold smc
 rw[←yx h b,List.map_set]
 simp
theorem Ao {l m:List Bool} (h:l.length=m.length) (e:pad l=pad m):l=m:=by
 unfold pad at e
 rw[h] at e
 exact List.append_cancel_right e
theorem eU (R:List Rw) (F:List Fe) (s:Se) (k:Nat):(dD R F s k).length=k:=by unfold dD;simp
theorem ss (R:List Rw) (F:List Fe) (s:Se) (k:Nat):dD R F s (k+1)=dD R F s k++[di R F s k]:=by
 unfold dD
 rw[List.range_succ,List.map_append]
 rfl
theorem BY {l:List Bool} {i:Nat} (h:i<l.length):(pad l)[i]?=l[i]?:=by
 unfold pad
 exact List.getElem?_append_left h
theorem yo {l:List Bool} {i:Nat} {b:Bool} (h:l[i]?=some b):(smc l)[i]?=some (.bool b):=by
 unfold smc
 have hi:=(List.getElem?_eq_some_iff.1 h).1
 rw[List.getElem?_toArray,List.getElem?_map,BY hi,h]
 rfl
theorem wg {l:List Bool} (h:l.length≤16) {i:Nat} (hi:i<16):∃ b,(smc l)[i]?=some (.bool b):=by
 unfold smc
 rw[List.getElem?_toArray,List.getElem?_map,List.getElem?_eq_getElem (show i<(pad l).length from by rw[kq h];exact hi)]
 exact⟨_,rfl⟩
def SmB (w:World) (g:Nat) (l:List Bool):Prop:=w.heap[g]?=some (.cells (smc l) 226 (0,0))
theorem bQ {n k:Nat} (h:k<n):n - (intOf (.int .i64 ((k:Int)+1))).toNat<n - (intOf (.int .i64 (k:Int))).toNat:=by
 show n - ((k:Int)+1).toNat<n - (k:Int).toNat
 omega
theorem dL {a b:World} {g:Nat} (h:a.grownBy b none) (hg:a.heap.size≤g) (cs':Array Value):a.grownBy (b.setRow g cs') none:=az h ⟨rfl,rfl,rfl,by simp[World.setRow],fun k _ hk=>setRow_other b g k cs' (fun e=>hk (by rw[e]))⟩ (fun y e=>by cases e;exact hg)
theorem io (vr vf:Value) (X:List Rv) (F:List Fe) (e:Se) (w:World) (T:dS w vr vf X F) (hr:e.ro<X.length):Calls Tryz.prog 145 #[tbv vr vf,sev e] w fun e' w'=>e'=.returned (smv (aM (rws X) F e))∧w.grownBy w' none:=by
 obtain⟨pr,cr,rfl⟩:=T.rows.form
 obtain⟨pf,cf,rfl⟩:=T.fs.form
 obtain⟨W1,hW1⟩:∃ W1,W1=(((w.alloc (.cells #[.slice pr X.length cr,.slice pf F.length cf] 125)).alloc (.cells #[.int .i64 e.s.th,.int .i64 e.s.pl,.int .u8 e.s.wh.wn,.int .u8 e.s.wh.vb,.int .u8 e.s.wh.wm,.int .i64 e.s.wh.ct,.int .u8 e.s.wh.su,.int .u8 e.s.wh.tr,.int .u8 e.s.wh.mr,.string e.s.wh.nm,.int .i64 (e.ro:Int)] 131)).alloc (.cells #[.bool false,.bool false,.bool false,.bool false,.bool false,.bool false,.bool false,.bool false,.bool false,.bool false,.bool false,.bool false,.bool false,.bool false,.bool false,.bool false] 226)).alloc (.cells #[.bool false,.bool false,.bool false,.bool false,.bool false,.bool false,.bool false,.bool false,.bool false,.bool false,.bool false,.bool false,.bool false,.bool false,.bool false,.bool false] 226):=⟨_,rfl⟩
 have HG1:Hid (w.grownBy W1 none):=by rw[hW1];exact am (am (am (World.grownBy_alloc _ _ none) _) _) _
 have HB:Hid (TbB W1 w.heap.size (.slice pr X.length cr) (.slice pf F.length cf)):=by rw[hW1];exact ai (am (am (World.grownBy_alloc _ _ none) _) _) (ak w _ _) (by simp)
 have HS:Hid (SeB W1 (w.heap.size+1) e):=by rw[hW1];exact ai (am (World.grownBy_alloc _ _ none) _) (aL _ _ _ _) (by simp)
 have HR:Hid (W1.heap[w.heap.size+1+1]?=some (.cells #[.bool false,.bool false,.bool false,.bool false,.bool false,.bool false,.bool false,.bool false,.bool false,.bool false,.bool false,.bool false,.bool false,.bool false,.bool false,.bool false] 226 (0,0))):=by rw[hW1];exact ai (World.grownBy_alloc _ _ none) (bK _ _ _ _ _) (by simp)
 have HP:Hid (SmB W1 (w.heap.size+1+1+1) []):=by
  rw[hW1]
  have:=ak (((w.alloc (.cells #[.slice pr X.length cr,.slice pf F.length cf] 125)).alloc (.cells #[.int .i64 e.s.th,.int .i64 e.s.pl,.int .u8 e.s.wh.wn,.int .u8 e.s.wh.vb,.int .u8 e.s.wh.wm,.int .i64 e.s.wh.ct,.int .u8 e.s.wh.su,.int .u8 e.s.wh.tr,.int .u8 e.s.wh.mr,.string e.s.wh.nm,.int .i64 (e.ro:Int)] 131)).alloc (.cells #[.bool false,.bool false,.bool false,.bool false,.bool false,.bool false,.bool false,.bool false,.bool false,.bool false,.bool false,.bool false,.bool false,.bool false,.bool false,.bool false] 226)) #[.bool false,.bool false,.bool false,.bool false,.bool false,.bool false,.bool false,.bool false,.bool false,.bool false,.bool false,.bool false,.bool false,.bool false,.bool false,.bool false] 226
  rw[World.size_alloc,World.size_alloc,World.size_alloc] at this
  exact this
 have HT:Hid (dS w (.slice pr X.length cr) (.slice pf F.length cf) X F):=T
 have H16:Hid (X.length≤16):=T.few
 have Hr:Hid (e.ro<X.length):=hr
 unfold tbv sev
 clear T hr
 go_enter Tryz.func145,Tryz.ntmps145
 go_upto_region 2 with fail
 rw[←hW1]
 clear hW1
 obtain⟨n0,h0⟩:∃ n0,n0=w.heap.size:=⟨_,rfl⟩
 have HN:Hid (w.heap.size≤n0):=by show _≤_;omega
 simp only[←h0] at HB HS HR HP ⊢
 obtain⟨n1,h1⟩:∃ n1,n1=n0+1:=⟨_,rfl⟩
 simp only[←h1] at HS HR HP ⊢
 obtain⟨n2,h2⟩:∃ n2,n2=n1+1:=⟨_,rfl⟩
 simp only[←h2] at HR HP ⊢
 obtain⟨n3,h3⟩:∃ n3,n3=n2+1:=⟨_,rfl⟩
 simp only[←h3] at HP ⊢
 have HD:Hid (n0≠n3∧n1≠n3∧n2≠n3∧w.heap.size≤n3∧w.heap.size≤n2):=by have:=HN.out;show _∧_∧_∧_∧_;omega
 clear h0 h1 h2 h3
 obtain⟨b0,b1⟩:=bH HB.out
 go_wp2_with fail
 clear b0 b1
 go_loopw [6,10] (fun _ i wr=>∃ k:Nat,k≤X.length∧i=.int .i64 (k:Int)∧SmB wr n3 (dD (rws X) F e k)∧W1.grownBy wr (some n3)) (fun _ i _=>X.length - (intOf i).toNat)
 case atStart=>exact⟨0,Nat.zero_le _,rfl,HP.out,ay _ _⟩
 case round =>
  obtain⟨k,hk,rfl,P,G⟩:=hrel
  obtain⟨U,hU⟩:∃ U,U=wr:=⟨_,rfl⟩
  subst hU
  have HG:Hid (W1.grownBy U (some n3)):=G
  have HPk:Hid (SmB U n3 (dD (rws X) F e k)):=P
  have HGw:Hid (w.grownBy U none):=az HG1.out G (fun y q=>by cases q;exact HD.out.2.2.2.1)
  clear P G
  by_cases hlt:k<X.length
  ·have HC:=rG _ _ X F e k U (HT.out.keep HGw.out) hlt Hr.out
   obtain⟨ans,hans⟩:∃ ans,ans=di (rws X) F e k:=⟨_,rfl⟩
   have HA:Hid (ans=di (rws X) F e k):=hans
   rw[←hans] at HC
   unfold tbv sev at HC
   obtain⟨a0,a1⟩:=bH (show TbB U n0 _ _ from ai HG.out HB.out (by simpa using HD.out.1))
   obtain⟨s0,s1,s2,s3,s4,s5,s6,s7,s8,s9,s10⟩:=dU (show SeB U n1 e from ai HG.out HS.out (by simpa using HD.out.2.1))
   have hk16:(k:Int)<16:=by have:=H16.out;omega
   have hwk:wrap64 ((k:Int)+1)=(k:Int)+1:=by unfold wrap64;omega
   have Hlt:Hid (k<X.length):=hlt
   have hlt':(k:Int)<X.length:=by omega
   clear hans hk hlt
   go_wp2_with fail
   refine HC.mono ?_
   rintro e2 w2 ⟨rfl,g2⟩
   have HG2:Hid (U.grownBy w2 none):=g2
   have HP2:Hid (SmB w2 n3 (dD (rws X) F e k)):=ai g2 HPk.out (by simp)
   obtain⟨old,hold⟩:=wg (l:=dD (rws X) F e k) (by rw[eU];have:=H16.out;have:=Hlt.out;omega) (i:=k) (by have:=H16.out;have:=Hlt.out;omega)
   have y0:w2.cell? ⟨n3,k,none⟩=some (.bool old):=(ae HP2.out k).trans hold
   have yf:=aA HP2.out k
   clear HC g2 hold a0 a1 s0 s1 s2 s3 s4 s5 s6 s7 s8 s9 s10
   go_wp2_with fail
   go_roundw
   case rel =>
    refine⟨k+1,Hlt.out,by first | rfl | (rw[hwk];rfl) | go_num,?_,?_⟩
    ·have:=aF HP2.out k (.bool ans)
     have q:=yr (l:=dD (rws X) F e k) (by rw[eU];have:=H16.out;have:=Hlt.out;omega) ans
     rw[eU] at q
     rw[q,HA.out,←ss,←HA.out] at this
     exact this
    ·exact aa (aa HG.out ⟨HG2.out.os,HG2.out.tape,HG2.out.output,HG2.out.size,fun i hi _=>HG2.out.block i hi (by simp)⟩) (aw _ _ _ _)
   case measure=>first | exact bQ Hlt.out | (rw[hwk];exact bQ Hlt.out)
  ·obtain rfl:k=X.length:=by omega
   have ea:dD (rws X) F e X.length=aM (rws X) F e:=by unfold aM;rw[cm]
   rw[ea] at HPk
   have hl16:(aM (rws X) F e).length≤16:=by unfold aM;rw[eU,cm];exact H16.out
   obtain⟨b0,b1,b2,b3,b4,b5,b6,b7,b8,b9,b10,b11,b12,b13,b14,b15,_,esm⟩:=CT hl16
   have HE:Hid (smc (aM (rws X) F e)=#[.bool b0,.bool b1,.bool b2,.bool b3,.bool b4,.bool b5,.bool b6,.bool b7,.bool b8,.bool b9,.bool b10,.bool b11,.bool b12,.bool b13,.bool b14,.bool b15]):=esm
   unfold SmB at HPk
   rw[esm] at HPk
   have HR2:Hid (U.heap[n2]?=some (.cells #[.bool false,.bool false,.bool false,.bool false,.bool false,.bool false,.bool false,.bool false,.bool false,.bool false,.bool false,.bool false,.bool false,.bool false,.bool false,.bool false] 226 (0,0))):=ai HG.out HR.out (by simpa using HD.out.2.2.1)
   have c0:=(ae HPk.out 0).trans (show _=some (.bool b0) from rfl)
   have c1:=(ae HPk.out 1).trans (show _=some (.bool b1) from rfl)
   have c2:=(ae HPk.out 2).trans (show _=some (.bool b2) from rfl)
   have c3:=(ae HPk.out 3).trans (show _=some (.bool b3) from rfl)
   have c4:=(ae HPk.out 4).trans (show _=some (.bool b4) from rfl)
   have c5:=(ae HPk.out 5).trans (show _=some (.bool b5) from rfl)
   have c6:=(ae HPk.out 6).trans (show _=some (.bool b6) from rfl)
   have c7:=(ae HPk.out 7).trans (show _=some (.bool b7) from rfl)
   have c8:=(ae HPk.out 8).trans (show _=some (.bool b8) from rfl)
   have c9:=(ae HPk.out 9).trans (show _=some (.bool b9) from rfl)
   have c10:=(ae HPk.out 10).trans (show _=some (.bool b10) from rfl)
   have c11:=(ae HPk.out 11).trans (show _=some (.bool b11) from rfl)
   have c12:=(ae HPk.out 12).trans (show _=some (.bool b12) from rfl)
   have c13:=(ae HPk.out 13).trans (show _=some (.bool b13) from rfl)
   have c14:=(ae HPk.out 14).trans (show _=some (.bool b14) from rfl)
   have c15:=(ae HPk.out 15).trans (show _=some (.bool b15) from rfl)
   clear hl16 esm ea hlt hk
   have r0:=(ae HR2.out 0).trans (show _=some (.bool false) from rfl)
   have r1:=(ae HR2.out 1).trans (show _=some (.bool false) from rfl)
   have r2:=(ae HR2.out 2).trans (show _=some (.bool false) from rfl)
   have r3:=(ae HR2.out 3).trans (show _=some (.bool false) from rfl)
   have r4:=(ae HR2.out 4).trans (show _=some (.bool false) from rfl)
   have r5:=(ae HR2.out 5).trans (show _=some (.bool false) from rfl)
   have r6:=(ae HR2.out 6).trans (show _=some (.bool false) from rfl)
   have r7:=(ae HR2.out 7).trans (show _=some (.bool false) from rfl)
   have r8:=(ae HR2.out 8).trans (show _=some (.bool false) from rfl)
   have r9:=(ae HR2.out 9).trans (show _=some (.bool false) from rfl)
   have r10:=(ae HR2.out 10).trans (show _=some (.bool false) from rfl)
   have r11:=(ae HR2.out 11).trans (show _=some (.bool false) from rfl)
   have r12:=(ae HR2.out 12).trans (show _=some (.bool false) from rfl)
   have r13:=(ae HR2.out 13).trans (show _=some (.bool false) from rfl)
   have r14:=(ae HR2.out 14).trans (show _=some (.bool false) from rfl)
   have r15:=(ae HR2.out 15).trans (show _=some (.bool false) from rfl)
   have rf:=fun i=>aA HR2.out i
   go_wp2_with fail
   refine bodyPost_ret (v:=.agg #[.bool b0,.bool b1,.bool b2,.bool b3,.bool b4,.bool b5,.bool b6,.bool b7,.bool b8,.bool b9,.bool b10,.bool b11,.bool b12,.bool b13,.bool b14,.bool b15]) ?_ rfl ⟨?_,?_⟩
   ·simp[results,Tryz.results145,go_sem,r0,r1,r2,r3,r4,r5,r6,r7,r8,r9,r10,r11,r12,r13,r14,r15]
   ·unfold smv
    rw[HE.out]
   ·exact(aj (aj (aj (aj (aj (aj (aj (aj (aj (aj (aj (aj (aj (aj (aj (aj HGw.out HD.out.2.2.2.2 _ _) HD.out.2.2.2.2 _ _) HD.out.2.2.2.2 _ _) HD.out.2.2.2.2 _ _) HD.out.2.2.2.2 _ _) HD.out.2.2.2.2 _ _) HD.out.2.2.2.2 _ _) HD.out.2.2.2.2 _ _) HD.out.2.2.2.2 _ _) HD.out.2.2.2.2 _ _) HD.out.2.2.2.2 _ _) HD.out.2.2.2.2 _ _) HD.out.2.2.2.2 _ _) HD.out.2.2.2.2 _ _) HD.out.2.2.2.2 _ _) HD.out.2.2.2.2 _ _)
def fy (R:List Rw) (l:List Bool) (k:Nat):List Int:=(List.range k).filterMap fun i=>if l.getD i false then some (R.getD i Rw.none).nu else none
def dA (R:List Rw) (l:List Bool):List Int:=fy R l R.length
theorem rK {R:List Rw} {l:List Bool} {k:Nat} (h:l.getD k false=true):fy R l (k+1)=fy R l k++[(R.getD k Rw.none).nu]:=by
 unfold fy
 rw[List.range_succ,List.filterMap_append,List.filterMap_cons,h]
 rfl
theorem uV {R:List Rw} {l:List Bool} {k:Nat} (h:l.getD k false=false):fy R l (k+1)=fy R l k:=by
 unfold fy
 rw[List.range_succ,List.filterMap_append,List.filterMap_cons,h]
 simp
theorem iO (R:List Rw) (l:List Bool) (k:Nat):(fy R l k).length≤k:=by
 have:=List.length_filterMap_le (fun i=>if l.getD i false then some (R.getD i Rw.none).nu else none) (List.range k)
 rwa [List.length_range] at this
theorem kL (l:List Int):∀ u∈ints l,u.oneCell'=true:=fun u h=>by
 unfold ints at h
 obtain⟨z,_,rfl⟩:=List.mem_map.1 h
 rfl
def aQ (w:World) (base:Nat) (v:Value) (l:List Int):Prop:=w.ownsRow base 3 1 v l.length (ints l)
theorem aQ.form {w:World} {base:Nat} {v:Value} {l:List Int} (h:aQ w base v l):∃ p c,v=.slice p l.length c:=by
 obtain⟨p,c,e,_⟩:=bz h
 exact⟨p,c,e⟩
theorem lM (U:World) (x:Int):∀ j u,(ints [x])[j]?=some u→(U.alloc (.cells #[.int .i64 x] 3)).cell? ((⟨U.heap.size,0,none⟩:Addr).add j)=some u:=fun j u hu=>by
 rw[ii,Nat.zero_add,ae (ak _ _ _)]
 simpa [ints] using hu
theorem ky {w':World} {base n:Nat} {v:Value} {l:List Int} {x:Int} (h:w'.ownsRow base 3 1 v (n+1) (ints l++ints [x])) (hn:n=l.length):aQ w' base v (l++[x]):=by
 unfold aQ
 rw[List.length_append,List.length_singleton,show ints (l++[x])=ints l++ints [x] from by simp[ints],←hn]
 exact h
theorem Tryz.linfo3:(Tryz.prog.info? 3).map (fun i=>(i.zero,i.size,i.bytes))=some (some (.int .i64 0),1,8):=by kernel_rfl
theorem qd (vr vf:Value) (X:List Rv) (F:List Fe) (l:List Bool) (w:World) (T:dS w vr vf X F) (hl:l.length=X.length):Calls Tryz.prog 150 #[tbv vr vf,smv l] w fun e' w'=>∃ v,e'=.returned v∧aQ w' w.heap.size v (dA (rws X) l)∧w.grownBy w' none:=by
 obtain⟨i0,hi,hz0,hz1,hz2⟩:=info_parts Tryz.linfo3
 obtain⟨pr,cr,rfl⟩:=T.rows.form
 obtain⟨pf,cf,rfl⟩:=T.fs.form
 obtain⟨b0,b1,b2,b3,b4,b5,b6,b7,b8,b9,b10,b11,b12,b13,b14,b15,_,esm⟩:=CT (l:=l) (by rw[hl];exact T.few)
 have HE:Hid (smc l=#[.bool b0,.bool b1,.bool b2,.bool b3,.bool b4,.bool b5,.bool b6,.bool b7,.bool b8,.bool b9,.bool b10,.bool b11,.bool b12,.bool b13,.bool b14,.bool b15]):=esm
 obtain⟨W1,hW1⟩:∃ W1,W1=(w.alloc (.cells #[.slice pr X.length cr,.slice pf F.length cf] 125)).alloc (.cells #[.bool b0,.bool b1,.bool b2,.bool b3,.bool b4,.bool b5,.bool b6,.bool b7,.bool b8,.bool b9,.bool b10,.bool b11,.bool b12,.bool b13,.bool b14,.bool b15] 226):=⟨_,rfl⟩
 have HG1:Hid (w.grownBy W1 none):=by rw[hW1];exact am (World.grownBy_alloc _ _ none) _
 have HB:Hid (TbB W1 w.heap.size (.slice pr X.length cr) (.slice pf F.length cf)):=by rw[hW1];exact ai (World.grownBy_alloc _ _ none) (ak w _ _) (by simp)
 have HP:Hid (W1.heap[w.heap.size+1]?=some (.cells #[.bool b0,.bool b1,.bool b2,.bool b3,.bool b4,.bool b5,.bool b6,.bool b7,.bool b8,.bool b9,.bool b10,.bool b11,.bool b12,.bool b13,.bool b14,.bool b15] 226 (0,0))):=by rw[hW1];exact aL _ _ _ _
 have HT:Hid (dS w (.slice pr X.length cr) (.slice pf F.length cf) X F):=T
 have H16:Hid (X.length≤16):=T.few
 have HL:Hid (l.length=X.length):=hl
 unfold tbv smv
 rw[esm]
 clear T hl esm
 go_enter Tryz.func150,Tryz.ntmps150
 go_upto_region 2 with fail
 rw[←hW1]
 clear hW1
 obtain⟨n0,h0⟩:∃ n0,n0=w.heap.size:=⟨_,rfl⟩
 simp only[←h0] at HB HP ⊢
 obtain⟨n1,h1⟩:∃ n1,n1=n0+1:=⟨_,rfl⟩
 simp only[←h1] at HP ⊢
 clear h1
 have Hn0:Hid (n0=w.heap.size):=h0
 clear h0
 obtain⟨a0,a1⟩:=bH HB.out
 go_wp2_with fail
 clear a0 a1
 go_loopw [5,6,7,11] (fun v _ _ i wr=>∃ k:Nat,k≤X.length∧i=.int .i64 (k:Int)∧aQ wr W1.heap.size v (fy (rws X) l k)∧W1.grownBy wr none) (fun _ _ _ i _=>X.length - (intOf i).toNat)
 case atStart=>exact⟨0,Nat.zero_le _,rfl,⟨by simp[fy,ints],Or.inl ⟨rfl,rfl⟩⟩,ay _ _⟩
 case round =>
  obtain⟨k,hk,rfl,O,G⟩:=hrel
  obtain⟨U,hU⟩:∃ U,U=wr:=⟨_,rfl⟩
  subst hU
  obtain⟨q,cq,rfl⟩:=O.form
  have HG:Hid (W1.grownBy U none):=G
  have HGw:Hid (w.grownBy U none):=aa HG1.out G
  by_cases hlt:k<X.length
  ·obtain⟨g,off,cap,e1,R⟩:=(HT.out.keep HGw.out).row hlt
   injection e1 with e1 _ _
   subst e1
   obtain⟨x,hx⟩:∃ x,x=X[k]:=⟨_,rfl⟩
   rw[←hx] at R
   obtain⟨c0,c1,c2,c3,c4,c5,c6,c7,c8,c9,c10⟩:=eK R
   have en:((rws X).getD k Rw.none).nu=x.r.nu:=by rw[fA hlt,←hx]
   have hkl:k<l.length:=by rw[HL.out];exact hlt
   have HP2:=ai HG.out HP.out (by simp)
   obtain⟨b,hb⟩:∃ b,b=l.getD k false:=⟨_,rfl⟩
   have hb':l[k]?=some b:=by rw[hb,List.getD_eq_getElem?_getD,List.getElem?_eq_getElem hkl];rfl
   have y0:U.cell? ⟨n1,k,none⟩=some (.bool b):=by rw[ae HP2,←HE.out];exact yo hb'
   have hwk:wrap64 ((k:Int)+1)=(k:Int)+1:=by unfold wrap64;have:=H16.out;omega
   have HO:Hid (U.ownsRow W1.heap.size 3 1 (.slice q (fy (rws X) l k).length cq) (fy (rws X) l k).length (ints (fy (rws X) l k))):=O
   have hlen:=iO (rws X) l k
   have hyes:b=true→fy (rws X) l (k+1)=fy (rws X) l k++[x.r.nu]:=fun q=>by rw[rK (hb ▸ q),en]
   have hno:b=false→fy (rws X) l (k+1)=fy (rws X) l k:=fun q=>uV (hb ▸ q)
   obtain⟨L,hL⟩:∃ L,L=fy (rws X) l k:=⟨_,rfl⟩
   rw[←hL] at HO hlen hyes hno ⊢
   obtain⟨n,hn⟩:∃ n,n=L.length:=⟨_,rfl⟩
   rw[←hn] at HO hlen ⊢
   have HN:Hid (n=L.length):=hn
   have hlt':(k:Int)<X.length:=by omega
   have hk16:(k:Int)<16:=by have:=H16.out;omega
   have HLn:Hid (n+1≤maxLen∧(n+1)*8≤140737488355328):=by show _∧_;unfold maxLen;have:=H16.out;omega
   have HPk:Hid (k+1≤X.length):=hlt
   have HM:Hid (X.length - (intOf (.int .i64 ((k:Int)+1))).toNat<X.length - (intOf (.int .i64 (k:Int))).toNat):=bQ hlt
   have c10':U.cell? ⟨g,off+k*11+10,none⟩=some (.slice x.pa x.r.ps.length x.ca):=c10
   obtain⟨V,hV⟩:∃ V,V=U.alloc (.cells #[.int .i64 x.r.nu,.int .i64 x.r.st,.string x.r.h.nm,.int .u8 x.r.h.su,.int .u8 x.r.h.kd,.int .i64 x.r.h.co,.int .i64 x.r.h.po,.int .i64 x.r.h.he,.int .u16 x.r.h.tr,.bool x.r.h.tk,x.u] 230):=⟨_,rfl⟩
   have HGV:Hid (U.grownBy V none):=by rw[hV];exact World.grownBy_alloc _ _ none
   have HOV:Hid (V.ownsRow W1.heap.size 3 1 (.slice q n cq) n (ints L)):=ar HO.out HGV.out
   have y1:V.cell? ⟨n1,k,none⟩=some (.bool b):=HGV.out.cell y0 (by simp)
   have z0:V.cell? ⟨U.heap.size,0,none⟩=some (.int .i64 x.r.nu):=by rw[hV];exact(ae (ak _ _ _) 0).trans rfl
   clear R O G hx en hkl HP2 hb hb' hL hn hlen hk hlt c10 y0
   unfold Rv.u at hV
   go_upto_region 5 with fail
   rw[←hV]
   clear hV c0 c1 c2 c3 c4 c5 c6 c7 c8 c9 c10'
   cases b with
   | true =>
    have HY:Hid (fy (rws X) l (k+1)=L++[x.r.nu]):=hyes rfl
    clear hyes hno
    go_wp2_with (first | (at_builtin;refine wpList_append_own _ rfl (.tmp 19) (.tmp 22) 143 rfl W1.heap.size 3 i0 _ 1 8 Tryz.underlying143 hi hz0 hz1 hz2 rfl (by decide) _ n (ints L) rfl (World.ownsRow.alloc HOV.out _) ⟨V.heap.size,0,none⟩ 1 1 (ints [x.r.nu]) rfl rfl (lM _ _) (kL _) HLn.out.1 (by have:=HLn.out.2;omega) (by rw[World.size_alloc];have:=HG.out.size;have:=HGV.out.size;omega) ?_;intro v3 w3 o3 g3 _;have HO3:Hid (aQ w3 W1.heap.size v3 (L++[x.r.nu])):=ky o3 HN.out;have HG3:Hid (W1.grownBy w3 none):=az (am (aa HG.out HGV.out) _) g3 (fun y e=>(World.ownsRow.lt HO.out y e).1);clear o3 g3) | fail)
    go_roundw
    case rel=>exact⟨_,_,_,_,⟨k+1,HPk.out,rfl,by rw[HY.out];exact HO3.out,HG3.out⟩,rfl,rfl,rfl,rfl⟩
    case measure=>first | exact HM.out | (rw[hwk];exact HM.out)
   | false =>
    have HY:Hid (fy (rws X) l (k+1)=L):=hno rfl
    clear hyes hno
    go_wp2
    go_roundw
    case rel=>exact⟨k+1,HPk.out,by first | rfl | (rw[hwk];rfl) | go_num,by rw[HY.out];unfold aQ;rw[←HN.out];exact HOV.out,aa HG.out HGV.out⟩
    case measure=>first | exact HM.out | (rw[hwk];exact HM.out)
  ·obtain rfl:k=X.length:=by omega
   have HF:Hid (aQ U w.heap.size (.slice q (fy (rws X) l X.length).length cq) (dA (rws X) l)∧w.grownBy U none):=⟨by unfold dA;rw[cm];exact aT O HG1.out.size,HGw.out⟩
   clear O G
   go_wp2
   go_ret
   exact⟨_,rfl,HF.out⟩
theorem fl {P:Program} {w:World} {o:Oper} {a:Act} {K:Act→World→Prop} {Q:Exit→Act→World→Prop} (s x:Operand) (t:TypeId)
  (ho:o.op=.call { callee:=.builtin .append,args:=#[s,x],argTypes:=#[t,t] })
  (base:Nat) (e:TypeId) (i:TypeInfo) (z:Value) (size bytes:Nat) (ht:P.underlying t=some (.slice e)) (hi:P.info? e=some i) (hz:i.zero=some z)
  (hsize:i.size=size) (hby:i.bytes=bytes) (hzs:z.cells.size=size) (hsz:0<size)
  (v:Value) (n:Nat) (xs:List Value) (hs:a.eval s=v) (hown:w.ownsRow base e size v n xs)
  (ad:Addr) (m c:Nat) (news:List Value) (hx:a.eval x=.slice (some ad) m c) (hl:news.length=m*size) (hnews:∀ j u,news[j]?=some u→w.cell? (ad.add j)=some u) (h1:∀ u∈news,u.oneCell'=true)
  (h63:n+m≤maxLen) (hbytes:(n+m)*bytes≤140737488355328) (hbase:base≤w.heap.size)
  (h:∀ v' w',w'.ownsRow base e size v' (n+m) (xs++news)→w.grownBy w' v.ownBlock→(v'.ownBlock=v.ownBlock∨v'.ownBlock=some w.heap.size)→K (a.put o.dst v') w'):Oper.wp P o a w K Q:=by
 obtain⟨v',w',hr,h2,h3,_,h5⟩:=run_append_own_at (P:=P) w base t o.type e i z size bytes ht hi hz hsize hby hzs hsz v n xs hown ad m c news hl hnews h1 h63 hbytes hbase
 unfold Oper.wp execOp
 simp only[ho,resolve,invoke,builtin,Sem.run_bind,Sem.run_pure,Result.andThen_ok,List.map_toArray,List.map_cons,List.map_nil,hs,hx,hr]
 exact h v' w' h2 h3 h5
theorem aX {P:Program} {w:World} {ops:Array Oper} {rest:List Oper} {o:Oper} {a:Act} {Q:Exit→Act→World→Prop} (hw:Region.wanted o (yielded ops a.tmps)=true) (s x:Operand) (t:TypeId)
  (ho:o.op=.call { callee:=.builtin .append,args:=#[s,x],argTypes:=#[t,t] })
  (base:Nat) (e:TypeId) (i:TypeInfo) (z:Value) (size bytes:Nat) (ht:P.underlying t=some (.slice e)) (hi:P.info? e=some i) (hz:i.zero=some z)
  (hsize:i.size=size) (hby:i.bytes=bytes) (hzs:z.cells.size=size) (hsz:0<size)
  (v:Value) (n:Nat) (xs:List Value) (hs:a.eval s=v) (hown:w.ownsRow base e size v n xs)
  (vx:Value) (m:Nat) (ys:List Value) (hx:a.eval x=vx) (hsrc:Src w vx m size ys) (h1:∀ u∈ys,u.oneCell'=true)
  (h63:n+m≤maxLen) (hbytes:(n+m)*bytes≤140737488355328) (hbase:base≤w.heap.size)
  (h:∀ v' w',w'.ownsRow base e size v' (n+m) (xs++ys)→w.grownBy w' v.ownBlock→(v'.ownBlock=v.ownBlock∨v'.ownBlock=some w.heap.size)→wpList P ops Q rest (a.put o.dst v') w'):wpList P ops Q (o :: rest) a w:=by
 refine wpList_step fun K hK=>?_
 rw[if_pos hw]
 obtain⟨p,c,e1,hl,hc⟩:=hsrc
 subst e1
 by_cases h0:m=0
 ·subst h0
  have hy:ys=[]:=List.length_eq_zero_iff.1 (by omega)
  subst hy
  cases p with
  | none =>
   have hx2:a.eval x=.slice none 0 c:=hx
   have hrun:(Builtin.append_ #[t,t] o.type #[v,.slice none 0 c]).run P w=.ok v w:=by
    have:=run_append_owned_none (P:=P) (w:=w) base t o.type e i size ht hi v n xs hown
    exact this
   unfold Oper.wp
   simp[execOp,ho,resolve,invoke,builtin,hs,hx2,hrun,Result.andThen]
   exact hK _ _ (h v w (by rw[List.append_nil];exact hown) (ay _ _) (Or.inl rfl))
  | some ad =>
   exact fl s x t ho base e i z size bytes ht hi hz hsize hby hzs hsz v n xs hs hown ad 0 c [] hx (by simp) (fun j u hu=>by simp at hu) h1 h63 hbytes hbase (fun v' w' h2 h3 h4=>hK _ _ (h v' w' h2 h3 h4))
 ·obtain⟨ad,e2,hcell⟩:=hc (by omega)
  subst e2
  exact fl s x t ho base e i z size bytes ht hi hz hsize hby hzs hsz v n xs hs hown ad m c ys hx hl hcell h1 h63 hbytes hbase (fun v' w' h2 h3 h4=>hK _ _ (h v' w' h2 h3 h4))
theorem Tryz.linfoF:(Tryz.prog.info? 122).map (fun i=>(i.zero,i.size,i.bytes))=some (some (.agg #[.int .i64 0,.int .u8 0,.int .u16 0,.int .i64 0,.int .i64 0]),5,32):=by kernel_rfl
def dt (w:World) (base:Nat) (v:Value) (fs:List Fe):Prop:=feR.Own 122 w base v fs
theorem ns (v:Value) (fs:List Fe) (w:World) (h:feR.At w v fs) (hb:fs.length≤2147483648):Calls Tryz.prog 146 #[v] w fun e w'=>∃ v',e=.returned v'∧dt w' w.heap.size v' fs∧w.grownBy w' none:=by
 obtain⟨i0,hi,hz0,hz1,hz2⟩:=info_parts Tryz.linfoF
 have HS:Hid (Src w v fs.length 5 (feR.cs fs)):=h.src
 obtain⟨p,c,rfl,hm,h⟩:=h
 have q22:∀ (w:World) (a:Option Addr) (n c n' c':Nat),(binOp .eql 27 (.slice a n c) (.slice none n' c')).run Tryz.prog w=.ok (.bool a.isNone) w:=fun w a n c n' c'=>Lib.run_eql_slice_nil w _ _ a n c n' c' Tryz.underlying27
 cases p with
 | none =>
  have h0:fs=[]:=by
   refine List.length_eq_zero_iff.1 (Nat.eq_zero_of_not_pos fun q=>?_)
   obtain⟨g,off,e,_⟩:=h q
   cases e
  subst h0
  clear h hm hb HS
  go_enter Tryz.func146,Tryz.ntmps146
  go_wp2
  go_ret
  exact⟨_,rfl,aB.Own.nil _ _ _ _,ay _ _⟩
 | some ad =>
  obtain⟨n,hn⟩:∃ n,n=fs.length:=⟨_,rfl⟩
  have HN:Hid (n=fs.length):=hn
  have HL:Hid (0+n≤maxLen∧(0+n)*32≤140737488355328):=by show _∧_;unfold maxLen;omega
  rw[←hn] at HS ⊢
  clear h hm hb hn
  go_enter Tryz.func146,Tryz.ntmps146
  go_wp2_with (at_builtin;refine aX (by rfl) (.tmp 5) (.tmp 6) 27 rfl w.heap.size 122 i0 _ 5 32 Tryz.underlying27 hi hz0 hz1 hz2 rfl (by decide) _ 0 [] rfl (World.ownsRow_made w #[] 0 (Nat.le_refl _) (Nat.zero_le _) (by simp)) _ n (feR.cs fs) rfl (HS.out.keep (World.grownBy_alloc _ _ none)) (feR.ones fs) HL.out.1 HL.out.2 (by rw[World.size_alloc];omega) ?_;intro v3 w3 o3 g3 _;have HF:Hid (dt w3 w.heap.size v3 fs∧w.grownBy w3 none):=⟨by unfold dt aB.Own;rw[←HN.out];rw[Nat.zero_add,List.nil_append] at o3;exact o3,az (World.grownBy_alloc _ _ none) g3 (fun y e=>by cases e;exact Nat.le_refl _)⟩;clear o3 g3)
  go_ret
  exact⟨_,rfl,HF.out⟩
end Go.Proofs.YtjmepebbcnhalaaGreat
