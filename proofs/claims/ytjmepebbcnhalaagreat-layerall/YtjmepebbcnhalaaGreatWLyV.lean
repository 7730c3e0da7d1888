/-
  
-/
import Derived.Test.YtjmepebbcnhalaaGreatW0
import Derived.Test.YtjmepebbcnhalaaGreatWLyS
namespace Go.Proofs.YtjmepebbcnhalaaGreat
set_option maxRecDepth 100000
set_option maxHeartbeats 4000000
open Go.RowKit

theorem sb {X:List Rv} {th:Int} {i:Nat} (h:eO (rws X) th=some i):i<X.length:=by
 unfold eO at h
 have:=(List.findIdx?_eq_some_iff_getElem.1 h).1
 rwa [cm] at this
def kW (w:World) (R:List Rw) (s:Sd) (e:Ending) (w':World):Prop:=e=.returned (.tuple #[sev ((bj R s).getD Se.none),.bool (bj R s).isSome])∧w.grownBy w' none
theorem kW.no {w w':World} {R:List Rw} {s:Sd} (h:bj R s=none) (g:w.grownBy w' none):kW w R s (.returned (.tuple #[.agg #[.int .i64 0,.int .i64 0,.int .u8 0,.int .u8 0,.int .u8 0,.int .i64 0,.int .u8 0,.int .u8 0,.int .u8 0,.string ⟨#[]⟩,.int .i64 0],.bool false])) w':=⟨by rw[h];rfl,g⟩
theorem iY {a b:World} {c:Nat} (h:a.grownBy b none) (hc:a.heap.size≤c) (v0 v1 v2 v3 v4 v5 v6 v7 v8 v9 v10:Value):a.grownBy (((((((((((b.setCell ⟨c,0,none⟩ v0).setCell ⟨c,1,none⟩ v1).setCell ⟨c,2,none⟩ v2).setCell ⟨c,3,none⟩ v3).setCell ⟨c,4,none⟩ v4).setCell ⟨c,5,none⟩ v5).setCell ⟨c,6,none⟩ v6).setCell ⟨c,7,none⟩ v7).setCell ⟨c,8,none⟩ v8).setCell ⟨c,9,none⟩ v9).setCell ⟨c,10,none⟩ v10) none:=aj (aj (aj (aj (aj (aj (aj (aj (aj (aj (aj h hc _ _) hc _ _) hc _ _) hc _ _) hc _ _) hc _ _) hc _ _) hc _ _) hc _ _) hc _ _) hc _ _
theorem xK (vr vf:Value) (X:List Rv) (F:List Fe) (s:Sd) (w:World) (T:dS w vr vf X F):Calls Tryz.prog 197 #[tbv vr vf,sdv s] w (kW w (rws X) s):=by
 have hmf:∀ (fn:Fn) (first cap:Array Value) (w:World),(Instr.makeFunc fn first cap).run Tryz.prog w=.ok (.func fn first cap) w:=fun _ _ _ _=>rfl
 obtain⟨pr,cr,rfl⟩:=T.rows.form
 obtain⟨pf,cf,rfl⟩:=T.fs.form
 obtain⟨W1,hW1⟩:∃ W1,W1=((w.alloc (.cells #[.slice pr X.length cr,.slice pf F.length cf] 125)).alloc (.cells #[.int .i64 s.th,.int .i64 s.pl,.int .u8 s.wh.wn,.int .u8 s.wh.vb,.int .u8 s.wh.wm,.int .i64 s.wh.ct,.int .u8 s.wh.su,.int .u8 s.wh.tr,.int .u8 s.wh.mr,.string s.wh.nm] 64)).alloc (.cells #[.int .i64 0,.int .i64 0,.int .u8 0,.int .u8 0,.int .u8 0,.int .i64 0,.int .u8 0,.int .u8 0,.int .u8 0,.string ⟨#[]⟩,.int .i64 0] 131):=⟨_,rfl⟩
 have HG1:Hid (w.grownBy W1 none):=by rw[hW1];exact am (am (World.grownBy_alloc _ _ none) _) _
 have HB:Hid (TbB W1 w.heap.size (.slice pr X.length cr) (.slice pf F.length cf)):=by rw[hW1];exact ai (am (World.grownBy_alloc _ _ none) _) (ak w _ _) (by simp)
 have HS:Hid (SdB W1 (w.heap.size+1) s):=by rw[hW1];exact ai (World.grownBy_alloc _ _ none) (aL _ _ _ _) (by simp)
 have HR:Hid (W1.heap[w.heap.size+1+1]?=some (.cells #[.int .i64 0,.int .i64 0,.int .u8 0,.int .u8 0,.int .u8 0,.int .i64 0,.int .u8 0,.int .u8 0,.int .u8 0,.string ⟨#[]⟩,.int .i64 0] 131 (0,0))):=by rw[hW1];exact bK _ _ _ _ _
 have HT:Hid (dS W1 (.slice pr X.length cr) (.slice pf F.length cf) X F):=T.keep HG1.out
 have HIx:=nP (.slice pr X.length cr) X (w.heap.size+1) s.th W1 HT.out.rows HT.out.few (bl HS.out).1
 unfold tbv sdv
 clear T
 go_enter Tryz.func197,Tryz.ntmps197
 go_upto_region 1 with fail
 rw[←hW1]
 clear hW1
 obtain⟨n0,h0⟩:∃ n0,n0=w.heap.size:=⟨_,rfl⟩
 have HN:Hid (w.heap.size≤n0+1+1):=by show _≤_;omega
 simp only[←h0] at HB HS HR HIx ⊢
 obtain⟨n1,h1⟩:∃ n1,n1=n0+1:=⟨_,rfl⟩
 simp only[←h1] at HS HR HIx HN ⊢
 obtain⟨n2,h2⟩:∃ n2,n2=n1+1:=⟨_,rfl⟩
 simp only[←h2] at HR HN ⊢
 clear h0 h1 h2
 obtain⟨b0,b1⟩:=bH HB.out
 go_wp2_with (go_at_call 254;refine HIx.mono ?_;rintro e2 w2 ⟨rfl,g2⟩;have HG2:Hid (W1.grownBy w2 none):=g2;clear HIx g2)
 clear b0 b1 hmf
 have HR2:Hid (w2.heap[n2]?=some (.cells #[.int .i64 0,.int .i64 0,.int .u8 0,.int .u8 0,.int .u8 0,.int .i64 0,.int .u8 0,.int .u8 0,.int .u8 0,.string ⟨#[]⟩,.int .i64 0] 131 (0,0))):=ai HG2.out HR.out (by simp)
 have HGw:Hid (w.grownBy w2 none):=aa HG1.out HG2.out
 cases hrow:eO (rws X) s.th with
 | none =>
  rw[show xE (rws X) s.th=-1 from by unfold xE;rw[hrow]]
  have HX:Hid (bj (rws X) s=none):=by show _=_;unfold bj;rw[hrow]
  clear hrow
  go_upto_region 2 with fail
  refine wp_region_held_drew (S:=fun w'=>w2.grownBy w' none) (by kernel_rfl) (ag _) (fun hHeld=>?_)
  refine QZ 0 rfl ?_
  go_frame
  refine QZ 1 rfl ?_
  go_frame
  refine QZ 2 rfl ?_
  go_frame
  refine QN 3 rfl ?_
  go_frame
  refine QN 4 rfl ?_
  go_frame
  refine QN 5 rfl ?_
  go_frame
  refine QN 6 rfl ?_
  go_frame
  refine QN 7 rfl ?_
  go_frame
  refine QN 8 rfl ?_
  go_frame
  refine QN 9 rfl ?_
  go_frame
  refine QR 10 rfl (fun K hK=>?_)
  rw[if_neg (Bool.eq_false_iff.1 (by rfl))]
  refine hK.out _ _ (by assumption) (fun hHeld2=>?_)
  clear hK K
  (try go_frame)
  refine QN 11 rfl ?_
  go_frame
  refine QZ 12 rfl ?_
  go_frame
  refine QD ?_
  obtain⟨D,hD⟩:∃ D,D=w2.drew:=⟨_,rfl⟩
  have HRD:Hid (D.heap[n2]?=some (.cells #[.int .i64 0,.int .i64 0,.int .u8 0,.int .u8 0,.int .u8 0,.int .i64 0,.int .u8 0,.int .u8 0,.int .u8 0,.string ⟨#[]⟩,.int .i64 0] 131 (0,0))):=by rw[hD];exact HR2.out
  have HGD:Hid (w.grownBy D none):=by rw[hD];exact aa HGw.out (ag _)
  rw[←hD]
  clear hHeld hD
  have r0:=(ae HRD.out 0).trans (show _=some (.int .i64 0) from rfl)
  have r1:=(ae HRD.out 1).trans (show _=some (.int .i64 0) from rfl)
  have r2:=(ae HRD.out 2).trans (show _=some (.int .u8 0) from rfl)
  have r3:=(ae HRD.out 3).trans (show _=some (.int .u8 0) from rfl)
  have r4:=(ae HRD.out 4).trans (show _=some (.int .u8 0) from rfl)
  have r5:=(ae HRD.out 5).trans (show _=some (.int .i64 0) from rfl)
  have r6:=(ae HRD.out 6).trans (show _=some (.int .u8 0) from rfl)
  have r7:=(ae HRD.out 7).trans (show _=some (.int .u8 0) from rfl)
  have r8:=(ae HRD.out 8).trans (show _=some (.int .u8 0) from rfl)
  have r9:=(ae HRD.out 9).trans (show _=some (.string ⟨#[]⟩) from rfl)
  have r10:=(ae HRD.out 10).trans (show _=some (.int .i64 0) from rfl)
  have rf:=fun i=>aA HRD.out i
  go_wp2_with fail
  refine bodyPost_ret (v:=.tuple #[.agg #[.int .i64 0,.int .i64 0,.int .u8 0,.int .u8 0,.int .u8 0,.int .i64 0,.int .u8 0,.int .u8 0,.int .u8 0,.string ⟨#[]⟩,.int .i64 0],.bool false]) (by simp[results,Tryz.results197,go_sem,r0,r1,r2,r3,r4,r5,r6,r7,r8,r9,r10]) rfl (kW.no HX.out ?_)
  exact iY HGD.out HN.out _ _ _ _ _ _ _ _ _ _ _
 | some i =>
  have hi:=sb hrow
  rw[show xE (rws X) s.th=(i:Int) from by unfold xE;rw[hrow]]
  have HTw:=HT.out.keep HG2.out
  obtain⟨g,off,cap,e1,R⟩:=HTw.row hi
  cases e1
  have hps:=HTw.parts _ (List.getElem_mem hi)
  obtain⟨x,hx⟩:∃ x,x=X[i]:=⟨_,rfl⟩
  rw[←hx] at R hps
  have HX:Hid (bj (rws X) s=if cQ x.r.ps s then some ⟨s,i⟩ else none):=by show _=_;unfold bj;rw[hrow];show (if cQ ((rws X).getD i Rw.none).ps s then some (⟨s,i⟩:Se) else none)=_;rw[fA hi,←hx]
  have HH:=li x.r.h (.slice x.pa x.r.ps.length x.ca) x.r.ps s w2.drew (hps.1.keep (ag _))
  obtain⟨b,hb⟩:∃ b,b=cQ x.r.ps s:=⟨_,rfl⟩
  rw[←hb] at HH HX
  unfold cv sdv at HH
  obtain⟨c0,c1,c2',c3,c4,c5,c6,c7,c8,c9,c10⟩:=eK R
  have c10':w2.cell? ⟨g,off+i*11+10,none⟩=some (.slice x.pa x.r.ps.length x.ca):=c10
  obtain⟨b0,b1⟩:=bH (show TbB w2 n0 _ _ from ai HG2.out HB.out (by simp))
  obtain⟨s0,s1,s2,s3,s4,s5,s6,s7,s8,s9⟩:=bl (show SdB w2 n1 s from ai HG2.out HS.out (by simp))
  have hi':(i:Int)<X.length:=Int.ofNat_lt.2 hi
  have hi0:¬(i:Int)<0:=by omega
  have hi1:decide ((i:Int)<0)=false:=decide_eq_false hi0
  clear hrow hi HTw R hps hx hb c10 c0 c1
  go_upto_region 2 with fail
  refine wp_region_held_drew (S:=fun w'=>w2.grownBy w' none) (by kernel_rfl) (ag _) (fun hHeld=>?_)
  refine QZ 0 rfl ?_
  go_frame
  refine QZ 1 rfl ?_
  go_frame
  refine QZ 2 rfl ?_
  go_frame
  refine QZ 3 rfl ?_
  go_frame
  refine QT 4 rfl (by intro w0 hSw;have b0:=hSw.cell b0 (by simp);go_simp;try with_reducible rfl) ?_
  go_frame
  refine QZ 5 rfl ?_
  go_frame
  refine QZ 6 rfl ?_
  go_frame
  refine QZ 7 rfl ?_
  go_frame
  refine QT 8 rfl (by intro w0 hSw;have c2':=hSw.cell c2' (by simp);have c3:=hSw.cell c3 (by simp);have c4:=hSw.cell c4 (by simp);have c5:=hSw.cell c5 (by simp);have c6:=hSw.cell c6 (by simp);have c7:=hSw.cell c7 (by simp);have c8:=hSw.cell c8 (by simp);have c9:=hSw.cell c9 (by simp);have c10':=hSw.cell c10' (by simp);go_simp;try with_reducible rfl) ?_
  go_frame
  refine QT 9 rfl (by intro w0 hSw;have s0:=hSw.cell s0 (by simp);have s1:=hSw.cell s1 (by simp);have s2:=hSw.cell s2 (by simp);have s3:=hSw.cell s3 (by simp);have s4:=hSw.cell s4 (by simp);have s5:=hSw.cell s5 (by simp);have s6:=hSw.cell s6 (by simp);have s7:=hSw.cell s7 (by simp);have s8:=hSw.cell s8 (by simp);have s9:=hSw.cell s9 (by simp);go_simp;try with_reducible rfl) ?_
  go_frame
  refine QR 10 rfl (fun K hK=>?_)
  rw[if_pos (by rfl)]
  go_simp
  go_at_call 256
  refine(HH).mono ?_
  rintro e3 w3 ⟨rfl,g3⟩
  have HG3:Hid (w2.grownBy w3 none):=aa (ag _) g3
  clear g3 HH
  refine hK.out _ _ (HG3.out) (fun hHeld2=>?_)
  clear hK K
  (try go_frame)
  refine QZ 11 rfl ?_
  go_frame
  refine QZ 12 rfl ?_
  go_frame
  refine QD ?_
  have HR3:Hid (w3.heap[n2]?=some (.cells #[.int .i64 0,.int .i64 0,.int .u8 0,.int .u8 0,.int .u8 0,.int .i64 0,.int .u8 0,.int .u8 0,.int .u8 0,.string ⟨#[]⟩,.int .i64 0] 131 (0,0))):=ai HG3.out HR2.out (by simp)
  have HGw3:Hid (w.grownBy w3 none):=aa HGw.out HG3.out
  clear hHeld hHeld2 b0 b1 s0 s1 s2 s3 s4 s5 s6 s7 s8 s9 c2' c3 c4 c5 c6 c7 c8 c9 c10'
  cases b with
  | false =>
   have r0:=(ae HR3.out 0).trans (show _=some (.int .i64 0) from rfl)
   have r1:=(ae HR3.out 1).trans (show _=some (.int .i64 0) from rfl)
   have r2:=(ae HR3.out 2).trans (show _=some (.int .u8 0) from rfl)
   have r3:=(ae HR3.out 3).trans (show _=some (.int .u8 0) from rfl)
   have r4:=(ae HR3.out 4).trans (show _=some (.int .u8 0) from rfl)
   have r5:=(ae HR3.out 5).trans (show _=some (.int .i64 0) from rfl)
   have r6:=(ae HR3.out 6).trans (show _=some (.int .u8 0) from rfl)
   have r7:=(ae HR3.out 7).trans (show _=some (.int .u8 0) from rfl)
   have r8:=(ae HR3.out 8).trans (show _=some (.int .u8 0) from rfl)
   have r9:=(ae HR3.out 9).trans (show _=some (.string ⟨#[]⟩) from rfl)
   have r10:=(ae HR3.out 10).trans (show _=some (.int .i64 0) from rfl)
   have rf:=fun i=>aA HR3.out i
   go_wp2_with fail
   refine bodyPost_ret (v:=.tuple #[.agg #[.int .i64 0,.int .i64 0,.int .u8 0,.int .u8 0,.int .u8 0,.int .i64 0,.int .u8 0,.int .u8 0,.int .u8 0,.string ⟨#[]⟩,.int .i64 0],.bool false]) (by simp[results,Tryz.results197,go_sem,r0,r1,r2,r3,r4,r5,r6,r7,r8,r9,r10]) rfl (kW.no HX.out ?_)
   exact iY HGw3.out HN.out _ _ _ _ _ _ _ _ _ _ _
  | true =>
   obtain⟨s0,s1,s2,s3,s4,s5,s6,s7,s8,s9⟩:=bl (show SdB w3 n1 s from ai HG3.out (ai HG2.out HS.out (by simp)) (by simp))
   have HY:Hid (bj (rws X) s=some ⟨s,i⟩):=HX.out
   have r0:=(ae HR3.out 0).trans (show _=some (.int .i64 0) from rfl)
   have r1:=(ae HR3.out 1).trans (show _=some (.int .i64 0) from rfl)
   have r2:=(ae HR3.out 2).trans (show _=some (.int .u8 0) from rfl)
   have r3:=(ae HR3.out 3).trans (show _=some (.int .u8 0) from rfl)
   have r4:=(ae HR3.out 4).trans (show _=some (.int .u8 0) from rfl)
   have r5:=(ae HR3.out 5).trans (show _=some (.int .i64 0) from rfl)
   have r6:=(ae HR3.out 6).trans (show _=some (.int .u8 0) from rfl)
   have r7:=(ae HR3.out 7).trans (show _=some (.int .u8 0) from rfl)
   have r8:=(ae HR3.out 8).trans (show _=some (.int .u8 0) from rfl)
   have r9:=(ae HR3.out 9).trans (show _=some (.string ⟨#[]⟩) from rfl)
   have r10:=(ae HR3.out 10).trans (show _=some (.int .i64 0) from rfl)
   have rf:=fun i=>aA HR3.out i
   go_wp2_with fail
   refine bodyPost_ret (v:=.tuple #[.agg #[.int .i64 (⟨s,i⟩:Se).s.th,.int .i64 (⟨s,i⟩:Se).s.pl,.int .u8 (⟨s,i⟩:Se).s.wh.wn,.int .u8 (⟨s,i⟩:Se).s.wh.vb,.int .u8 (⟨s,i⟩:Se).s.wh.wm,.int .i64 (⟨s,i⟩:Se).s.wh.ct,.int .u8 (⟨s,i⟩:Se).s.wh.su,.int .u8 (⟨s,i⟩:Se).s.wh.tr,.int .u8 (⟨s,i⟩:Se).s.wh.mr,.string (⟨s,i⟩:Se).s.wh.nm,.int .i64 ((⟨s,i⟩:Se).ro:Int)],.bool true]) (by simp[results,Tryz.results197,go_sem,r0,r1,r2,r3,r4,r5,r6,r7,r8,r9,r10]) rfl ⟨?_,?_⟩
   ·rw[HY.out];rfl
   ·exact iY HGw3.out HN.out _ _ _ _ _ _ _ _ _ _ _
theorem fZ {e o:Se} (h:¬(e.s.th=o.s.th∧e.s.pl=o.s.pl)):dn e o=!decide (lay e.s.wh.vb=lay o.s.wh.vb):=by
 unfold dn
 have:(decide (e.s.th=o.s.th) && decide (e.s.pl=o.s.pl))=false:=by
  by_cases h1:e.s.th=o.s.th
  ·by_cases h2:e.s.pl=o.s.pl
   ·exact absurd ⟨h1,h2⟩ h
   ·simp[h2]
  ·simp[h1]
 rw[this]
 rfl
theorem iU {e o:Se} (h1:e.s.th=o.s.th) (h2:e.s.pl=o.s.pl):dn e o=true:=by
 unfold dn
 rw[decide_eq_true h1,decide_eq_true h2]
 rfl
theorem nd {e:Se} {L:List Se} {j:Nat} (hj:j<L.length) (h:dn e (L.getD j Se.none)=true):dz e L=false:=by
 unfold dz
 rw[List.all_eq_false]
 refine⟨L[j],List.getElem_mem hj,?_⟩
 rw[aC hj] at h
 rw[h]
 simp
theorem ol {e:Se} {L:List Se} (h:∀ j,j<L.length→dn e (L.getD j Se.none)=false):dz e L=true:=by
 unfold dz
 rw[List.all_eq_true]
 intro o ho
 obtain⟨j,hj,e1⟩:=List.mem_iff_getElem.1 ho
 have:=h j hj
 rw[aC hj,e1] at this
 rw[this]
 rfl
theorem tm (e:Se) (v:Value) (L:List Se) (w:World) (A:seR.At w v L) (hl:L.length≤4096):Calls Tryz.prog 198 #[sev e,v] w fun e' w'=>e'=.returned (.bool (dz e L))∧w.grownBy w' none:=by
 obtain⟨pl,cl,rfl⟩:=A.form
 obtain⟨W1,hW1⟩:∃ W1,W1=w.alloc (.cells #[.int .i64 e.s.th,.int .i64 e.s.pl,.int .u8 e.s.wh.wn,.int .u8 e.s.wh.vb,.int .u8 e.s.wh.wm,.int .i64 e.s.wh.ct,.int .u8 e.s.wh.su,.int .u8 e.s.wh.tr,.int .u8 e.s.wh.mr,.string e.s.wh.nm,.int .i64 (e.ro:Int)] 131):=⟨_,rfl⟩
 have HG1:Hid (w.grownBy W1 none):=by rw[hW1];exact World.grownBy_alloc _ _ none
 have HB:Hid (SeB W1 w.heap.size e):=by rw[hW1];exact ak w _ _
 have HA:Hid (seR.At W1 (.slice pl L.length cl) L):=A.keep HG1.out
 have Hl:Hid (L.length≤4096):=hl
 unfold sev
 clear A hl
 go_enter Tryz.func198,Tryz.ntmps198
 go_upto_region 1 with fail
 rw[←hW1]
 clear hW1
 obtain⟨n0,h0⟩:∃ n0,n0=w.heap.size:=⟨_,rfl⟩
 simp only[←h0] at HB ⊢
 clear h0
 go_wp2_with fail
 go_loopw [10] (fun i wr=>∃ k:Nat,k≤L.length∧i=.int .i64 (k:Int)∧(∀ j,j<k→dn e (L.getD j Se.none)=false)∧W1.grownBy wr none) (fun i _=>L.length - (intOf i).toNat)
 case atStart=>exact⟨0,Nat.zero_le _,rfl,fun i hi=>absurd hi (Nat.not_lt_zero _),ay _ _⟩
 case round =>
  obtain⟨k,hk,rfl,hfree,G⟩:=hrel
  obtain⟨U,hU⟩:∃ U,U=wr:=⟨_,rfl⟩
  subst hU
  have HF:Hid (∀ j,j<k→dn e (L.getD j Se.none)=false):=hfree
  have HG:Hid (W1.grownBy U none):=G
  clear hfree G
  by_cases hlt:k<L.length
  ·obtain⟨g,off,cap,e1,R⟩:=SeAt.there (HA.out.keep HG.out) hlt
   cases e1
   obtain⟨o,ho⟩:∃ o,o=L.getD k Se.none:=⟨_,rfl⟩
   have Ho:Hid (o=L.getD k Se.none):=ho
   rw[←ho] at R
   obtain⟨c0,c1,c2,c3,c4,c5,c6,c7,c8,c9,c10⟩:=dJ R
   obtain⟨V,hV⟩:∃ V,V=U.alloc (.cells #[.int .i64 o.s.th,.int .i64 o.s.pl,.int .u8 o.s.wh.wn,.int .u8 o.s.wh.vb,.int .u8 o.s.wh.wm,.int .i64 o.s.wh.ct,.int .u8 o.s.wh.su,.int .u8 o.s.wh.tr,.int .u8 o.s.wh.mr,.string o.s.wh.nm,.int .i64 (o.ro:Int)] 131):=⟨_,rfl⟩
   have HGV:Hid (U.grownBy V none):=by rw[hV];exact World.grownBy_alloc _ _ none
   have HBo:Hid (SeB V U.heap.size o):=by rw[hV];exact ak _ _ _
   have HBe:Hid (SeB V n0 e):=ai (aa HG.out HGV.out) HB.out (by simp)
   have hlt':(k:Int)<L.length:=Int.ofNat_lt.2 hlt
   have Hlt:Hid (k<L.length):=hlt
   have hwk:=aW (k:=k) (Nat.le_trans (Nat.le_of_lt hlt) Hl.out)
   have HM:Hid (L.length - (intOf (.int .i64 ((k:Int)+1))).toNat<L.length - (intOf (.int .i64 (k:Int))).toNat):=bQ hlt
   clear ho R hlt hk
   go_upto_region 4 with fail
   rw[←hV]
   obtain⟨nb,hnb⟩:∃ nb,nb=U.heap.size:=⟨_,rfl⟩
   rw[←hnb] at HBo ⊢
   clear hV hnb c0 c1 c2 c3 c4 c5 c6 c7 c8 c9 c10
   obtain⟨s0,s1,s2,s3,s4,s5,s6,s7,s8,s9,s10⟩:=dU HBe.out
   obtain⟨o0,o1,o2,o3,o4,o5,o6,o7,o8,o9,o10⟩:=dU HBo.out
   by_cases hag:e.s.th=o.s.th∧e.s.pl=o.s.pl
   ·have e1:(e.s.th == o.s.th)=true:=by simpa using hag.1
    have e2:(e.s.pl == o.s.pl)=true:=by simpa using hag.2
    have HX:Hid (dz e L=false):=nd Hlt.out (by rw[←Ho.out];exact iU hag.1 hag.2)
    clear hag
    go_upto_region 5 with fail
    refine wp_region_held_drew (S:=fun w'=>V.grownBy w' none) (by kernel_rfl) (ag _) (fun hHeld=>?_)
    refine QZ 0 rfl ?_
    go_frame
    refine QZ 1 rfl ?_
    go_frame
    refine QN 2 rfl ?_
    go_frame
    refine QN 3 rfl ?_
    go_frame
    refine QN 4 rfl ?_
    go_frame
    refine QN 5 rfl ?_
    go_frame
    refine QN 7 rfl ?_
    go_frame
    refine QN 8 rfl ?_
    go_frame
    refine QN 9 rfl ?_
    go_frame
    refine QN 10 rfl ?_
    go_frame
    refine QR 6 rfl (fun K hK=>?_)
    rw[if_neg (Bool.eq_false_iff.1 (by rfl))]
    refine hK.out _ _ (by assumption) (fun hHeld2=>?_)
    clear hK K
    (try go_frame)
    refine QR 11 rfl (fun K hK=>?_)
    rw[if_neg (Bool.eq_false_iff.1 (by rfl))]
    refine hK.out _ _ (by assumption) (fun hHeld2=>?_)
    clear hK K
    (try go_frame)
    refine QN 12 rfl ?_
    go_frame
    refine QZ 13 rfl ?_
    go_frame
    refine QD ?_
    go_wp2_with fail
    go_ret
    exact⟨ch HX.out.symm,aa HG1.out (aa HG.out (aa HGV.out (ag _)))⟩
   ·have HC:Hid (dn e o=!decide (lay e.s.wh.vb=lay o.s.wh.vb)):=fZ hag
    have L1:=ks e.s.wh.vb
    have L2:=ks o.s.wh.vb
    obtain⟨la,hla⟩:∃ la,la=lay e.s.wh.vb:=⟨_,rfl⟩
    obtain⟨lb,hlb⟩:∃ lb,lb=lay o.s.wh.vb:=⟨_,rfl⟩
    rw[←hla] at L1 HC
    rw[←hlb] at L2 HC
    have e0:((e.s.th == o.s.th) && (e.s.pl == o.s.pl))=false:=by
     by_cases h1:e.s.th=o.s.th
     ·have h2:¬e.s.pl=o.s.pl:=fun q=>hag ⟨h1,q⟩
      simp[h2]
     ·simp[h1]
    clear hla hlb hag
    go_cut [7] from 14 to 29 (fun x7 wc=>x7=.bool false∧wc=V)
    case first =>
     cases e1:(e.s.th == o.s.th) with
     | false =>
      go_wp2_with fail
      go_meet
      exact⟨rfl,rfl⟩
     | true =>
      have e2:(e.s.pl == o.s.pl)=false:=by rw[e1] at e0;simpa using e0
      go_wp2_with fail
      go_meet
      exact⟨rfl,rfl⟩
    case rest =>
     obtain⟨rfl,hwc⟩:=hcut
     obtain rfl:V=wc:=hwc.symm
     go_upto_region 5 with fail
     refine wp_region_held_drew (S:=fun w'=>V.grownBy w' none) (by kernel_rfl) (ag _) (fun hHeld=>?_)
     refine QZ 0 rfl ?_
     go_frame
     refine QZ 1 rfl ?_
     go_frame
     refine QZ 2 rfl ?_
     go_frame
     refine QZ 3 rfl ?_
     go_frame
     refine QZ 4 rfl ?_
     go_frame
     refine QT 5 rfl (by intro w0 hSw;have s3:=hSw.cell s3 (by simp);go_simp;try with_reducible rfl) ?_
     go_frame
     refine QZ 7 rfl ?_
     go_frame
     refine QZ 8 rfl ?_
     go_frame
     refine QZ 9 rfl ?_
     go_frame
     refine QT 10 rfl (by intro w0 hSw;have o3:=hSw.cell o3 (by simp);go_simp;try with_reducible rfl) ?_
     go_frame
     refine QR 6 rfl (fun K hK=>?_)
     rw[if_pos (by rfl)]
     go_simp
     go_at_call 213
     refine(L1 _).mono ?_
     rintro e3 w3 ⟨rfl,h3⟩
     obtain rfl:V.drew=w3:=h3.symm
     refine hK.out _ _ (ag _) (fun hHeld2=>?_)
     clear hK K
     (try go_frame)
     refine QR 11 rfl (fun K hK=>?_)
     rw[if_pos (by rfl)]
     go_simp
     go_at_call 213
     refine(L2 _).mono ?_
     rintro e4 w4 ⟨rfl,h4⟩
     obtain rfl:V.drew=w4:=h4.symm
     refine hK.out _ _ (ag _) (fun hHeld2=>?_)
     clear hK K
     (try go_frame)
     refine QZ 12 rfl ?_
     go_frame
     refine QZ 13 rfl ?_
     go_frame
     refine QD ?_
     clear hHeld hHeld2 s0 s1 s2 s3 s4 s5 s6 s7 s8 s9 s10 o0 o1 o2 o3 o4 o5 o6 o7 o8 o9 o10 L1 L2
     by_cases hab:la=lb
     ·have e5:(la != lb)=false:=by simpa using hab
      have HX:Hid (∀ j,j<k+1→dn e (L.getD j Se.none)=false):=fun j hj=>by
       by_cases q:j=k
       ·rw[q,←Ho.out,HC.out,decide_eq_true hab];rfl
       ·exact HF.out j (by omega)
      clear hab
      go_wp2_with fail
      go_roundw
      case rel=>exact⟨k+1,Hlt.out,by first | rfl | (rw[hwk];rfl) | go_num,HX.out,aa HG.out (aa HGV.out (ag _))⟩
      case measure=>first | exact HM.out | (rw[hwk];exact HM.out)
     ·have e5:(la != lb)=true:=by simpa using hab
      have HX:Hid (dz e L=false):=nd Hlt.out (by rw[←Ho.out,HC.out,decide_eq_false hab];rfl)
      clear hab
      go_wp2_with fail
      go_ret
      exact⟨ch HX.out.symm,aa HG1.out (aa HG.out (aa HGV.out (ag _)))⟩
  ·obtain rfl:k=L.length:=Nat.le_antisymm hk (Nat.le_of_not_lt hlt)
   have HX:Hid (dz e L=true):=ol HF.out
   clear hlt hk
   go_wp2_with fail
   go_ret
   exact⟨ch HX.out.symm,aa HG1.out HG.out⟩
end Go.Proofs.YtjmepebbcnhalaaGreat
