/-

-/
import Derived.Test.YtjmepebbcnhalaaGreatV15
import Derived.Laws.Tables
namespace Go.Proofs.YtjmepebbcnhalaaGreat
set_option maxRecDepth 100000
set_option maxHeartbeats 4000000
open Go.RowKit
variable {R:List Rw} {F G:List Fe} {w wr wr':World} {n0 B g cap:Nat} {vr vf:Value} {e:Se}

theorem aX (w:World) (r:Option Nat):w.grownBy w.drew r:=⟨rfl,rfl,rfl,Qj _,fun _ _ _=>rfl⟩
theorem bZ {a b:World} (h:a.grownBy b none) (r:Option Nat):a.grownBy b r:=⟨h.os,h.tape,h.output,h.size,fun i hi _=>h.block i hi (by simp)⟩
theorem sa (l:List Bool):(smc l).all (·.oneCell')=true:=all_oneCell_toArray fun u hu=>by
 obtain⟨b,_,rfl⟩:=List.mem_map.1 hu
 rfl
def gg (R:List Rw) (F:List Fe) (s:Se) (k:Nat):List Fe:=(List.range k).map (fp R F s)++F.drop k
theorem yX (R:List Rw) (F:List Fe) (s:Se):gg R F s 0=F:=by simp[gg]
theorem BC (R:List Rw) (F:List Fe) (s:Se):gg R F s F.length=aG R F s:=by simp[gg,aG]
theorem iU {s:Se} {k:Nat} (h:k≤F.length):(gg R F s k).length=F.length:=by simp[gg];omega
theorem wS {s:Se} {k:Nat} (h:k<F.length):(gg R F s k)[k]?=some (F.getD k Fe.none):=by
 unfold gg
 rw[List.getElem?_append_right (by simp)]
 simp[List.getElem?_drop,List.getD,h]
theorem qg {s:Se} {k:Nat} (h:k<F.length):(gg R F s k).set k (fp R F s k)=gg R F s (k+1):=by
 unfold gg
 rw[List.set_append_right _ _ (by simp),List.range_succ,List.map_append]
 simp only[List.length_map,List.length_range,Nat.sub_self,List.map_cons,List.map_nil,List.append_assoc,List.singleton_append]
 rw[List.drop_eq_getElem_cons h,List.set_cons_zero]
theorem xS {s:Se} {k:Nat} (h:k<F.length) (e:dq R F s k=false):gg R F s (k+1)=gg R F s k:=by
 rw[←qg h]
 refine List.ext_getElem? fun i=>?_
 by_cases hi:i=k
 ·subst hi
  rw[List.getElem?_set_self (by rw[iU (by omega)];exact h),wS h]
  unfold fp
  rw[e]
  rfl
 ·rw[List.getElem?_set_ne (fun q=>hi q.symm)]
theorem jG (R:List Rw) (F:List Fe) (s:Se):(aG R F s).length=F.length:=by simp[aG]
structure ApS (w wr:World) (n0 n1 n2 n3 B:Nat) (vr vf:Value) (e:Se) (L:List Bool) (G:List Fe):Prop where
 tb:TbB wr n0 vr vf
 se:SeB wr n1 e
 re:TbB wr n2 (.slice none 0 0) (.slice none 0 0)
 sm:SmB wr n3 L
 fo:aQ wr B vf G
 gr:w.grownBy wr none
theorem ApS.grow {n1 n2 n3:Nat} {L:List Bool} (h:ApS w wr n0 n1 n2 n3 B vr vf e L G) (g:wr.grownBy wr' none):ApS w wr' n0 n1 n2 n3 B vr vf e L G :=
 ⟨ag g h.tb (by simp),ag g h.se (by simp),ag g h.re (by simp),ag g h.sm (by simp),h.fo.grow g,ae h.gr g⟩
theorem ApS.set {n1 n2 n3 n k:Nat} {L:List Bool} (h:ApS w wr n0 n1 n2 n3 B vr (.slice (some ⟨g,0,none⟩) n cap) e L G) (hn:G.length=n) (hk:k<n) (hB:n0<B∧n1<B∧n2<B∧n3<B∧w.heap.size≤B) (f:Fe):ApS w (wr.setCells g (k*5) (fec f)) n0 n1 n2 n3 B vr (.slice (some ⟨g,0,none⟩) n cap) e L (G.set k f):=by
 obtain⟨o,q⟩:=az.Own.set h.fo hn hk f
 have hg:B≤g:=(h.fo.lt g rfl).1
 obtain⟨b0,b1,b2,b3,b4⟩:=hB
 exact⟨ag q h.tb (by simp;omega),ag q h.se (by simp;omega),ag q h.re (by simp;omega),ag q h.sm (by simp;omega),o,ar h.gr q (fun y e=>by cases e;omega)⟩
theorem jC (vr vf:Value) (X:List Rv) (F:List Fe) (e:Se) (w:World) (T:dX w vr vf X F) (hr:e.ro<X.length):Calls Tryz.prog 69 #[tbv vr vf,sev e] w fun e' w'=>∃ vf',e'=.returned (tbv vr vf')∧aQ w' w.heap.size vf' (aG (rws X) F e)∧w.grownBy w' none:=by
 obtain⟨pr,cr,rfl⟩:=T.rows.form
 obtain⟨gf,fof,fcap,e1,Rh⟩:=T.fe hr
 subst e1
 obtain⟨W1,hW1⟩:=Qe (((w.alloc (.cells #[.slice pr X.length cr,.slice (some ⟨gf,fof,none⟩) F.length fcap] 125)).alloc (.cells #[.int .i64 e.s.th,.int .i64 e.s.pl,.int .u8 e.s.wh.wn,.int .u8 e.s.wh.vb,.int .u8 e.s.wh.wm,.int .i64 e.s.wh.ct,.int .u8 e.s.wh.su,.int .u8 e.s.wh.tr,.int .u8 e.s.wh.mr,.string e.s.wh.nm,.int .i64 (e.ro:Int)] 131)).alloc (.cells #[.slice none 0 0,.slice none 0 0] 125))
 have HG1:Hid (w.grownBy W1 none):=by rw[hW1];exact al (al QG _) _
 have HB:Hid (TbB W1 w.heap.size (.slice pr X.length cr) (.slice (some ⟨gf,fof,none⟩) F.length fcap)):=by rw[hW1];exact ag (al QG _) (ak w _ _) (by simp)
 have HS:Hid (SeB W1 (w.heap.size+1) e):=by rw[hW1];exact ag QG (aO _ _ _ _) (by simp)
 have HR:Hid (TbB W1 (w.heap.size+1+1) (.slice none 0 0) (.slice none 0 0)):=by rw[hW1];exact bR _ _ _ _ _
 have HT:Hid (dX w (.slice pr X.length cr) (.slice (some ⟨gf,fof,none⟩) F.length fcap) X F):=T
 have HLF:Hid (F.length=X.length):=T.len
 have H16:Hid (X.length≤16):=T.few
 have Hr:Hid (e.ro<X.length):=hr
 have HRh:Hid (W1.rangeAt gf (fof+e.ro*5) (fec (F.getD e.ro Fe.none))):=aS Rh HG1.out
 have hrf:(e.ro:Int)<F.length:=by have:=T.len;omega
 obtain⟨ho,hho⟩:=Qe ((F.getD e.ro Fe.none).ho)
 have Hho:Hid (ho=(F.getD e.ro Fe.none).ho):=hho
 obtain⟨L,hL⟩:=Qe (aH (rws X) F e)
 have HL:Hid (L=aH (rws X) F e):=hL
 have HLl:Hid (L.length=X.length):=by show L.length=_;rw[hL];unfold aH;rw[eY,cQ]
 have HC:Hid (∀ V,w.grownBy V none→Calls Tryz.prog 145 #[.agg #[.slice pr X.length cr,.slice (some ⟨gf,fof,none⟩) F.length fcap],.agg #[.int .i64 e.s.th,.int .i64 e.s.pl,.int .u8 e.s.wh.wn,.int .u8 e.s.wh.vb,.int .u8 e.s.wh.wm,.int .i64 e.s.wh.ct,.int .u8 e.s.wh.su,.int .u8 e.s.wh.tr,.int .u8 e.s.wh.mr,.string e.s.wh.nm,.int .i64 (e.ro:Int)]] V fun e' w'=>e'=.returned (.agg (smc L))∧V.grownBy w' none):=fun V g=>by rw[hL];exact iw _ _ X F e V (T.keep g) hr
 unfold tbv sev
 clear T hr Rh hho hL
 go_enter Tryz.func69,Tryz.ntmps69
 go_upto_region 1 with fail
 rw[←hW1]
 clear hW1
 obtain⟨n0,h0⟩:=Qe (w.heap.size)
 have HN:Hid (w.heap.size≤n0):=by show _≤_;omega
 simp only[←h0] at HB HS HR ⊢
 obtain⟨n1,h1⟩:=Qe (n0+1)
 simp only[←h1] at HS HR ⊢
 obtain⟨n2,h2⟩:=Qe (n1+1)
 simp only[←h2] at HR ⊢
 have HD:Hid (n0<W1.heap.size∧n1<W1.heap.size∧n2<W1.heap.size∧n0≠n1∧n0≠n2∧w.heap.size≤n0∧w.heap.size≤n2):=⟨aZ HB.out,aZ HS.out,aZ HR.out,by omega,by omega,by omega,by omega⟩
 clear h0 h1 h2
 go_cut [5,6] from 9 to 18 (fun x5 x6 wc=>∃ n3,x5=.pointer (some ⟨n3,0,none⟩)∧x6=.int .i64 ho∧SmB wc n3 L∧W1.heap.size≤n3∧W1.grownBy wc none)
 case first =>
  obtain⟨b0,b1⟩:=bP HB.out
  obtain⟨s0,s1,s2,s3,s4,s5,s6,s7,s8,s9,s10⟩:=fh HS.out
  have g0:=(bm HRh.out).1
  rw[←Hho.out] at g0
  refine wp_region_held_drew (S:=fun w'=>W1.grownBy w' none) (by kernel_rfl) (ai _) (fun hHeld=>?_)
  refine QT 0 rfl (by intro w0 hSw;have b0:=QK hSw b0;have b1:=QK hSw b1;go_simp;try with_reducible rfl) ?_
  go_frame
  refine QT 1 rfl (by intro w0 hSw;have s0:=QK hSw s0;have s1:=QK hSw s1;have s2:=QK hSw s2;have s3:=QK hSw s3;have s4:=QK hSw s4;have s5:=QK hSw s5;have s6:=QK hSw s6;have s7:=QK hSw s7;have s8:=QK hSw s8;have s9:=QK hSw s9;have s10:=QK hSw s10;go_simp;try with_reducible rfl) ?_
  go_frame
  refine QZ 3 rfl ?_
  go_frame
  refine QT 4 rfl (by intro w0 hSw;have b1:=QK hSw b1;go_simp;try with_reducible rfl) ?_
  go_frame
  refine QZ 5 rfl ?_
  go_frame
  refine QT 6 rfl (by intro w0 hSw;have s10:=QK hSw s10;go_simp;try with_reducible rfl) ?_
  go_frame
  refine QZ 7 rfl ?_
  go_frame
  refine QZ 8 rfl ?_
  go_frame
  refine QT 9 rfl (by intro w0 hSw;have g0:=QK hSw g0;go_simp;try with_reducible rfl) ?_
  go_frame
  clear b0 b1 s0 s1 s2 s3 s4 s5 s6 s7 s8 s9 s10 g0
  refine wpAnyH_ready (rs:=[2,10]) (by kernel_rfl) (by simp) ?_
  refine AllReadyH.cons rfl (fun K9 hK=>?_) (AllReadyH.cons rfl (fun K9 hK=>?_) AllReadyH.nil)
  ·simp only[QA,QB,QC]
   go_simp
   go_at_call 145
   refine(HC.out _ (ae HG1.out (ai _))).mono ?_
   rintro e2 w2 ⟨rfl,g2⟩
   have HG2:Hid (W1.grownBy w2 none):=ae (ai _) g2
   clear g2
   refine hK.out _ _ (HG2.out) (fun hHeld2=>?_)
   clear hK K9
   (try go_frame)
   refine QR 10 rfl (fun K9 hK=>?_)
   go_simp
   refine hK.out _ _ (al HG2.out _) (fun hHeld3=>?_)
   clear hK K9
   (try go_frame)
   obtain⟨V,hV⟩:=Qe (w2.alloc (.cells #[.bool false,.bool false,.bool false,.bool false,.bool false,.bool false,.bool false,.bool false,.bool false,.bool false,.bool false,.bool false,.bool false,.bool false,.bool false,.bool false] 226))
   rw[←hV] at hHeld3 ⊢
   have HV:Hid (V.heap[w2.heap.size]?=some (.cells #[.bool false,.bool false,.bool false,.bool false,.bool false,.bool false,.bool false,.bool false,.bool false,.bool false,.bool false,.bool false,.bool false,.bool false,.bool false,.bool false] 226 (0,0))):=by rw[hV];exact ak _ _ _
   have HGV:Hid (W1.grownBy V none):=hHeld3
   clear hV
   refine QR 11 rfl (fun K9 hK=>?_)
   refine wp_store_row 226 (.tmp 5) (.tmp 11) rfl w2.heap.size (smc L) rfl rfl 226 _ HV.out ((by rw[ku (by rw[HLl.out];exact H16.out)];kernel_rfl)) ((by rw[ku (by rw[HLl.out];exact H16.out)];rfl)) (sa L) ?_
   refine hK.out _ _ (fy HGV.out (HG2.out.size) _) (fun hHeld3=>?_)
   clear hK K9
   (try go_frame)
   refine QZ 12 rfl ?_
   go_frame
   refine QD ?_
   go_wp2_with fail
   go_meet
   exact⟨w2.heap.size,rfl,rfl,setRow_heap _ _ _ _ _ _ HV.out,HG2.out.size,fy HGV.out (HG2.out.size) _⟩
  ·simp only[QA,QB,QC]
   go_simp
   refine hK.out _ _ (ae (al (ay _ _) _) (ai _)) (fun hHeld2=>?_)
   clear hK K9
   (try go_frame)
   obtain⟨V1,hV1⟩:=Qe ((W1.alloc (.cells #[.bool false,.bool false,.bool false,.bool false,.bool false,.bool false,.bool false,.bool false,.bool false,.bool false,.bool false,.bool false,.bool false,.bool false,.bool false,.bool false] 226)).drew)
   rw[←hV1] at hHeld2 ⊢
   have HV1:Hid (V1.heap[W1.heap.size]?=some (.cells #[.bool false,.bool false,.bool false,.bool false,.bool false,.bool false,.bool false,.bool false,.bool false,.bool false,.bool false,.bool false,.bool false,.bool false,.bool false,.bool false] 226 (0,0))):=by rw[hV1];exact ak W1 _ _
   clear hV1
   refine QR 2 rfl (fun K9 hK=>?_)
   go_simp
   go_at_call 145
   refine(HC.out _ (ae HG1.out hHeld2)).mono ?_
   rintro e2 V ⟨rfl,g2⟩
   have HGV:Hid (W1.grownBy V none):=ae hHeld2 g2
   have HV:Hid (V.heap[W1.heap.size]?=some (.cells #[.bool false,.bool false,.bool false,.bool false,.bool false,.bool false,.bool false,.bool false,.bool false,.bool false,.bool false,.bool false,.bool false,.bool false,.bool false,.bool false] 226 (0,0))):=ag g2 HV1.out (by simp)
   clear g2
   refine hK.out _ _ (HGV.out) (fun hHeld4=>?_)
   clear hK K9 hHeld2 HV1
   (try go_frame)
   refine QR 11 rfl (fun K9 hK=>?_)
   refine wp_store_row 226 (.tmp 5) (.tmp 11) rfl W1.heap.size (smc L) rfl rfl 226 _ HV.out ((by rw[ku (by rw[HLl.out];exact H16.out)];kernel_rfl)) ((by rw[ku (by rw[HLl.out];exact H16.out)];rfl)) (sa L) ?_
   refine hK.out _ _ (fy HGV.out (Qj _) _) (fun hHeld3=>?_)
   clear hK K9
   (try go_frame)
   refine QZ 12 rfl ?_
   go_frame
   refine QD ?_
   go_wp2_with fail
   go_meet
   exact⟨W1.heap.size,rfl,rfl,setRow_heap _ _ _ _ _ _ HV.out,Qj _,fy HGV.out (Qj _) _⟩
 case rest =>
  obtain⟨n3,rfl,rfl,hsm,hge,hg⟩:=hcut
  obtain⟨V,hV⟩:=Qe (wc)
  subst hV
  have HGV:Hid (W1.grownBy V none):=hg
  have HGw:Hid (w.grownBy V none):=ae HG1.out hg
  have HSM:Hid (SmB V n3 L):=hsm
  have Hge:Hid (W1.heap.size≤n3):=hge
  have HTV:=HT.out.keep HGw.out
  have HCl:=nC _ F V HTV.fs (by have:=HLF.out;have:=H16.out;omega)
  obtain⟨b0,b1⟩:=bP (show TbB V n0 _ _ from ag hg HB.out (by simp))
  clear hsm hge hg HTV HC
  go_wp2_with fail
  refine HCl.mono ?_
  rintro e2 w2 ⟨v2,rfl,o2,g2⟩
  obtain⟨p2,c2,rfl⟩:=o2.form
  obtain⟨g,cap,ec,hge2,-,-,-,-⟩:=cH o2 (show 0<F.length by have:=HLF.out;have:=Hr.out;omega)
  injection ec with ec1 _ ec2
  subst ec1 ec2
  have HG2:Hid (V.grownBy w2 none):=g2
  have k0:=bP (show TbB w2 n0 _ _ from ag (ae HGV.out g2) HB.out (by simp))
  obtain⟨k0,k1⟩:=k0
  have kf:=fun i=>au (show TbB w2 n0 _ _ from ag (ae HGV.out g2) HB.out (by simp)) i
  obtain⟨Y,hY⟩:=Qe (w2.setCell ⟨n0,1,none⟩ (.slice (some ⟨g,0,none⟩) F.length c2))
  have HBd:Hid (n0<V.heap.size∧n1<V.heap.size∧n2<V.heap.size∧n3<V.heap.size∧w.heap.size≤V.heap.size):=⟨by have:=HD.out;have:=HGV.out.size;omega,by have:=HD.out;have:=HGV.out.size;omega,by have:=HD.out;have:=HGV.out.size;omega,aZ HSM.out,HGw.out.size⟩
  have HA:Hid (ApS w Y n0 n1 n2 n3 V.heap.size (.slice pr X.length cr) (.slice (some ⟨g,0,none⟩) F.length c2) e L F):=by
   have q:w2.grownBy Y (some n0):=by rw[hY];exact aj _ _ _ _
   have h3:w2.heap[n0]?=some (.cells #[.slice pr X.length cr,.slice (some ⟨gf,fof,none⟩) F.length fcap] 125 (0,0)):=ag (ae HGV.out g2) HB.out (by simp)
   have hd:=HD.out
   refine⟨by rw[hY];exact aC h3 1 _,ag q (ag (ae HGV.out g2) HS.out (by simp)) (by simp;omega),ag q (ag (ae HGV.out g2) HR.out (by simp)) (by simp;omega),ag q (ag g2 HSM.out (by simp)) (by simp;have:=Hge.out;omega),World.ownsRow.kept o2 q (Or.inr (by simp[Value.ownBlock];have:=HBd.out;omega)),ar (ae HGw.out g2) q (fun y e=>by cases e;exact hd.2.2.2.2.2.1)⟩
  clear HCl o2 g2 b0 b1 HG2 HSM hge2
  go_upto_region 3 with fail
  rw[←hY]
  clear hY k0 k1 kf
  obtain⟨b0,b1⟩:=bP HA.out.tb
  go_wp2_with fail
  clear b0 b1
  go_loopw [7,8,26] (fun _ _ i wr=>∃ k:Nat,k≤F.length∧i=.int .i64 (k:Int)∧ApS w wr n0 n1 n2 n3 V.heap.size (.slice pr X.length cr) (.slice (some ⟨g,0,none⟩) F.length c2) e L (gg (rws X) F e k)) (fun _ _ i _=>F.length - (intOf i).toNat)
  case atStart=>exact⟨0,Q0 _,rfl,by rw[yX];exact HA.out⟩
  case round =>
   clear HA
   obtain⟨k,hk,rfl,A⟩:=hrel
   obtain⟨U,hU⟩:=Qe (wr)
   subst hU
   by_cases hlt:k<F.length
   ·have HA:Hid (ApS w U n0 n1 n2 n3 V.heap.size (.slice pr X.length cr) (.slice (some ⟨g,0,none⟩) F.length c2) e L (gg (rws X) F e k)):=A
    obtain⟨f,hf⟩:=Qe (F.getD k Fe.none)
    have Hf:Hid (f=F.getD k Fe.none):=hf
    have RF:∀ Z,ApS w Z n0 n1 n2 n3 V.heap.size (.slice pr X.length cr) (.slice (some ⟨g,0,none⟩) F.length c2) e L (gg (rws X) F e k)→Z.rangeAt g (k*5) (fec f):=fun Z a=>by
     obtain⟨p9,c9,e9,_,h9⟩:=a.fo.at
     obtain⟨g9,o9,e10,h10⟩:=h9 (by rw[iU hk];omega)
     rw[e10] at e9
     have q:=a.fo
     injection e9 with q1 q2 q3
     injection q1 with q1
     injection q1 with q1 q4
     have:=h10 k _ (wS hlt)
     rw[←q1,←q4,Nat.zero_add,←hf] at this
     exact this
    obtain⟨f0,f1,f2,f3,f4⟩:=bm (RF U A)
    obtain⟨U2,hU2⟩:=Qe (U.alloc (.cells #[.int .i64 f.ho,.int .u8 f.su,.int .u16 f.tr,.int .i64 f.po,.int .i64 f.he] 122))
    have HGU:Hid (U.grownBy U2 none):=by rw[hU2];exact QG
    have HA2:Hid (ApS w U2 n0 n1 n2 n3 V.heap.size (.slice pr X.length cr) (.slice (some ⟨g,0,none⟩) F.length c2) e L (gg (rws X) F e k)):=HA.out.grow HGU.out
    have HgU:Hid (g<U.heap.size):=(HA.out.fo.lt g rfl).2
    have HBf:Hid (FeB U2 U.heap.size f):=by rw[hU2];exact ak _ _ _
    obtain⟨b,hb⟩:=Qe (dq (rws X) F e k)
    have Hb:Hid (b=dq (rws X) F e k):=hb
    have hLk:L[k]?=some b:=by
     rw[HL.out,hb]
     unfold aH dH
     rw[List.getElem?_map,List.getElem?_range (by rw[cQ,←HLF.out];exact hlt)]
     rfl
    have y0:U2.cell? ⟨n3,k,none⟩=some (.bool b):=(aa HA2.out.sm k).trans (Bf hLk)
    have hk16:(k:Int)<16:=by have:=H16.out;have:=HLF.out;omega
    have hwk:wrap64 ((k:Int)+1)=(k:Int)+1:=by unfold wrap64;omega
    have hlt':(k:Int)<F.length:=by omega
    have Hlt:Hid (k<F.length):=hlt
    have HM:Hid (F.length - (intOf (.int .i64 ((k:Int)+1))).toNat<F.length - (intOf (.int .i64 (k:Int))).toNat):=bj hlt
    clear A hf RF hb hLk hlt hk HA
    go_upto_region 6 with fail
    rw[←hU2]
    obtain⟨nb,hnb⟩:=Qe (U.heap.size)
    have Hnb:Hid (nb=U.heap.size):=hnb
    rw[←hnb] at HBf ⊢
    clear hU2 hnb f0 f1 f2 f3 f4
    cases b with
    | false =>
     have HY:Hid (gg (rws X) F e (k+1)=gg (rws X) F e k):=xS Hlt.out Hb.out.symm
     go_wp2
     go_roundw
     case rel=>exact⟨k+1,Hlt.out,by first | rfl | (rw[hwk];rfl) | go_num,by rw[HY.out];exact HA2.out⟩
     case measure=>first | exact HM.out | (rw[hwk];exact HM.out)
    | true =>
     obtain⟨f2,hf2⟩:=Qe (fD f e.s.wh ho)
     have HCh:=sz f e.s.wh ho U2.drew
     rw[←hf2] at HCh
     unfold fev pv at HCh
     have HY:Hid (gg (rws X) F e (k+1)=(gg (rws X) F e k).set k f2):=by
      show _=_
      rw[←qg Hlt.out]
      congr 1
      unfold fp
      rw[←Hb.out,if_pos rfl,hf2,Hho.out,Hf.out]
     clear hf2
     have hgB:V.heap.size≤g:=(HA2.out.fo.lt g rfl).1
     have d0:some n0≠some g:=by have:=HBd.out;simp;omega
     have d1:some n1≠some g:=by have:=HBd.out;simp;omega
     have d2:some nb≠some g:=by rw[Hnb.out];have:=HgU.out;simp;omega
     obtain⟨b0,b1⟩:=bP HA2.out.tb
     obtain⟨s0,s1,s2,s3,s4,s5,s6,s7,s8,s9,s10⟩:=fh HA2.out.se
     obtain⟨f0,f1,f2',f3,f4⟩:=jH HBf.out
     clear hgB
     go_upto_region 7 with fail
     clear y0
     refine wp_region_held_drew (S:=fun w'=>U2.grownBy w' (some g)) (by kernel_rfl) (aX _ _) (fun hHeld=>?_)
     refine QZ 0 rfl ?_
     go_frame
     refine QT 1 rfl (by intro w0 hSw;have b1:=hSw.cell b1 d0;go_simp;try with_reducible rfl) ?_
     go_frame
     refine QZ 2 rfl ?_
     go_frame
     refine QT 3 rfl (by intro w0 hSw;have f0:=hSw.cell f0 d2;have f1:=hSw.cell f1 d2;have f2':=hSw.cell f2' d2;have f3:=hSw.cell f3 d2;have f4:=hSw.cell f4 d2;go_simp;try with_reducible rfl) ?_
     go_frame
     refine QZ 4 rfl ?_
     go_frame
     refine QZ 5 rfl ?_
     go_frame
     refine QT 6 rfl (by intro w0 hSw;have s2:=hSw.cell s2 d1;have s3:=hSw.cell s3 d1;have s4:=hSw.cell s4 d1;have s5:=hSw.cell s5 d1;have s6:=hSw.cell s6 d1;have s7:=hSw.cell s7 d1;have s8:=hSw.cell s8 d1;have s9:=hSw.cell s9 d1;go_simp;try with_reducible rfl) ?_
     go_frame
     refine QZ 7 rfl ?_
     go_frame
     refine QR 8 rfl (fun K hK=>?_)
     go_simp
     go_at_call 147
     refine(HCh).mono ?_
     rintro e3 w3 ⟨rfl,g3⟩
     have HG3:Hid (U2.grownBy w3 none):=ae (ai _) g3
     clear g3
     refine hK.out _ _ (bZ HG3.out _) (fun hHeld2=>?_)
     clear hK K
     (try go_frame)
     refine QZ 9 rfl ?_
     go_frame
     refine QR 10 rfl (fun K9 hK=>?_)
     have HA3:Hid (ApS w w3 n0 n1 n2 n3 V.heap.size (.slice pr X.length cr) (.slice (some ⟨g,0,none⟩) F.length c2) e L (gg (rws X) F e k)):=HA2.out.grow HG3.out
     refine wp_store_mid 122 (.tmp 43) (.tmp 42) rfl g (k*5) (fec f2).toArray rfl rfl (az.Own.there HA3.out.fo (iU (Nat.le_of_lt Hlt.out)) Hlt.out) (by kernel_rfl) (all_oneCell_toArray (nN f2)) ?_
     refine hK.out _ _ (ae (bZ HG3.out _) (az.Own.set HA3.out.fo (iU (Nat.le_of_lt Hlt.out)) Hlt.out f2).2) (fun hHeld3=>?_)
     clear hK K9
     (try go_frame)
     refine QD ?_
     have HA4:Hid (ApS w (w3.setCells g (k*5) (fec f2)) n0 n1 n2 n3 V.heap.size (.slice pr X.length cr) (.slice (some ⟨g,0,none⟩) F.length c2) e L ((gg (rws X) F e k).set k f2)):=HA3.out.set (iU (Nat.le_of_lt Hlt.out)) Hlt.out HBd.out f2
     obtain⟨Z,hZ⟩:=Qe (w3.setCells g (k*5) (fec f2))
     rw[←hZ] at HA4
     change _ at hHeld3
     clear hHeld hHeld2 hHeld3 HCh b0 b1 s0 s1 s2 s3 s4 s5 s6 s7 s8 s9 s10 f0 f1 f2' f3 f4
     rw[show w3.setCells g (k*5) (fec f2).toArray.toList=Z from hZ.symm]
     clear hZ
     go_wp2_with fail
     go_roundw
     case rel=>exact⟨k+1,Hlt.out,by first | rfl | (rw[hwk];rfl) | go_num,by rw[HY.out];exact HA4.out⟩
     case measure=>first | exact HM.out | (rw[hwk];exact HM.out)
   ·obtain rfl:k=F.length:=by omega
    rw[BC] at A
    have HA:Hid (ApS w U n0 n1 n2 n3 V.heap.size (.slice pr X.length cr) (.slice (some ⟨g,0,none⟩) F.length c2) e L (aG (rws X) F e)):=A
    obtain⟨b0,b1⟩:=bP HA.out.tb
    obtain⟨r0,r1⟩:=bP HA.out.re
    have rf:=fun i=>au HA.out.re i
    clear A hk hlt
    go_wp2_with fail
    refine bodyPost_ret (v:=.agg #[.slice pr X.length cr,.slice (some ⟨g,0,none⟩) F.length c2]) (by simp[results,Tryz.results69,go_sem,r0,r1]) rfl ⟨_,rfl,?_,?_⟩
    ·have hd:=HD.out
     have hb:=HBd.out
     exact World.ownsRow.kept (aP HA.out.fo hb.2.2.2.2) (ae (aj _ n2 _ _) (aj _ n2 _ _)) (Or.inr (by have:=(HA.out.fo.lt g rfl).1;simp[Value.ownBlock];omega))
    ·exact am (am HA.out.gr HD.out.2.2.2.2.2.2 _ _) HD.out.2.2.2.2.2.2 _ _
end Go.Proofs.YtjmepebbcnhalaaGreat
