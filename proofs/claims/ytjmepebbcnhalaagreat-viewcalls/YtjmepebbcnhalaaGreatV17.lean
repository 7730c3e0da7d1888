import Derived.Test.YtjmepebbcnhalaaGreatLyF
import Derived.WalkMore
namespace Go.Proofs.YtjmepebbcnhalaaGreat
set_option maxRecDepth 100000
set_option maxHeartbeats 4000000
open Go.RowKit
variable {P:Program} {w w' wr wr':World} {vr vf v:Value} {F:List Fe} {base i j b c n0 B g cap:Nat} {R:List Rw} {L:List Se}
theorem lQ:∀ (xs ys:List Bool),xs.length=ys.length→((List.range xs.length).all fun i=>xs.getD i false == ys.getD i false)=(xs == ys)
 | [],[],_=>rfl
 | x :: xs,y :: ys,h=>by
  have ih:=lQ xs ys (by simpa using h)
  rw[List.length_cons,List.range_succ_eq_map,List.all_cons,List.all_map]
  simp only[List.getD_cons_zero,Function.comp_def,List.getD_cons_succ,ih]
  simp[List.cons_beq_cons]
 | [],_ :: _,h=>by simp at h
 | _ :: _,[],h=>by simp at h
theorem kU (w:World) (d:Nat) (t e:TypeId) (n:Nat) (ht:P.underlying t=some (.array n e)) (he:P.underlying e=some .bool) (hsz:∀ w,(sizeOf e).run P w=.ok 1 w)
  (xs ys:List Bool) (hx:xs.length=n) (hy:ys.length=n) :
  (Op.equalIn (d+2) t (.agg (xs.map Value.bool).toArray) (.agg (ys.map Value.bool).toArray)).run P w=.ok (xs == ys) w:=by
 rw[←lQ xs ys (hx.trans hy.symm),hx,List.range_eq_range',Op.equalIn]
 simp only[Sem.run_bind,run_underlying ht,Result.andThen_ok,hsz,Std.Legacy.Range.forIn_eq_forIn_range',Std.Legacy.Range.size,Nat.sub_zero,Nat.add_sub_cancel,Nat.div_one]
 have hl:∀ i∈List.range' 0 n 1,i<n:=fun i hi=>by simpa using (List.mem_range'_1.1 hi).2
 generalize List.range' 0 n 1=l at hl ⊢
 induction l with
 | nil=>simp
 | cons i l ih =>
  have hi:i<n:=hl i (by simp)
  have px:(part e (xs.map Value.bool).toArray (i*1)).run P w=.ok (.bool (xs.getD i false)) w:=by
   simp[part,isAgg,run_underlying he,List.getD,Qg (show i<xs.length by omega)]
  have py:(part e (ys.map Value.bool).toArray (i*1)).run P w=.ok (.bool (ys.getD i false)) w:=by
   simp[part,isAgg,run_underlying he,List.getD,Qg (show i<ys.length by omega)]
  have pe:(Op.equalIn (d+1) e (.bool (xs.getD i false)) (.bool (ys.getD i false))).run P w=.ok (xs.getD i false == ys.getD i false) w:=run_equalIn_bool' w d e _ _ he
  simp only[List.forIn_cons,Sem.run_bind,px,py,pe,Result.andThen_ok,List.all_cons]
  cases hb:(xs.getD i false == ys.getD i false)
  ·simp
  ·simp only[Bool.not_true,Bool.false_eq_true,if_false,Sem.run_pure,Result.andThen_ok,Bool.true_and]
   exact ih fun j hj=>hl j (by simp[hj])
theorem BU (a b:List Bool) (ha:a.length≤16) (hb:b.length≤16) (w:World):(binOp .neq 226 (.agg (smc a)) (.agg (smc b))).run Tryz.prog w=.ok (.bool (!(pad a == pad b))) w:=by
 unfold smc
 rw[run_neq_struct,kU w 9998 226 4 16 (by kernel_rfl) (by kernel_rfl) (fun _=>by kernel_rfl) _ _ (kP ha) (kP hb)]
 rfl
theorem Br (op:BinOp) (x y:Operand) (xs ys:Array Value) (w:World):(eqGuard op 226 x y (.agg xs) (.agg ys)).run Tryz.prog w=.ok () w:=run_eqGuard_agg w op 226 x y xs ys (by kernel_rfl)
theorem fU (R:List Rw) (F:List Fe) (s:Se):(aH R F s).length=R.length:=eY _ _ _ _
theorem Dq (R:List Rw) (F:List Fe) (s o:Se):(!(pad (aH R F s) == pad (aH R (aG R F o) s)))=ib R F s o:=by
 unfold ib
 congr 1
 rw[Bool.eq_iff_iff]
 simp only[beq_iff_eq,decide_eq_true_eq]
 exact⟨fun h=>DM (by rw[fU,fU]) h,fun h=>by rw[h]⟩
theorem dX.applied {vf':Value} {X:List Rv} (T:dX w vr vf X F) (g:w.grownBy w' none) (s:Se) (o:aQ w' base vf' (aG (rws X) F s)):dX w' vr vf' X (aG (rws X) F s) :=
 ⟨T.rows.keep g,fun x hx=>⟨(T.parts x hx).1.keep g,(T.parts x hx).2⟩,o.at,by rw[jG];exact T.len,T.few⟩
theorem rM (vr vf:Value) (X:List Rv) (F:List Fe) (e o:Se) (w:World) (T:dX w vr vf X F) (hr:e.ro<X.length) (hq:o.ro<X.length):Calls Tryz.prog 136 #[tbv vr vf,sev e,sev o] w fun e' w'=>e'=.returned (.bool (ib (rws X) F e o))∧w.grownBy w' none:=by
 obtain⟨pr,cr,rfl⟩:=T.rows.form
 obtain⟨pf,cf,rfl⟩:=T.fs.form
 obtain⟨W1,hW1⟩:=Qe (((w.alloc (.cells #[.slice pr X.length cr,.slice pf F.length cf] 125)).alloc (.cells #[.int .i64 e.s.th,.int .i64 e.s.pl,.int .u8 e.s.wh.wn,.int .u8 e.s.wh.vb,.int .u8 e.s.wh.wm,.int .i64 e.s.wh.ct,.int .u8 e.s.wh.su,.int .u8 e.s.wh.tr,.int .u8 e.s.wh.mr,.string e.s.wh.nm,.int .i64 (e.ro:Int)] 131)).alloc (.cells #[.int .i64 o.s.th,.int .i64 o.s.pl,.int .u8 o.s.wh.wn,.int .u8 o.s.wh.vb,.int .u8 o.s.wh.wm,.int .i64 o.s.wh.ct,.int .u8 o.s.wh.su,.int .u8 o.s.wh.tr,.int .u8 o.s.wh.mr,.string o.s.wh.nm,.int .i64 (o.ro:Int)] 131))
 have HG1:Hid (w.grownBy W1 none):=by rw[hW1];exact al (al QG _) _
 have HB:Hid (TbB W1 w.heap.size (.slice pr X.length cr) (.slice pf F.length cf)):=by rw[hW1];exact ag (al QG _) (ak w _ _) (by simp)
 have HS:Hid (SeB W1 (w.heap.size+1) e):=by rw[hW1];exact ag QG (aO _ _ _ _) (by simp)
 have HO:Hid (SeB W1 (w.heap.size+1+1) o):=by rw[hW1];exact bR _ _ _ _ _
 have HTW:Hid (dX W1 (.slice pr X.length cr) (.slice pf F.length cf) X F):=T.keep HG1.out
 have Hr:Hid (e.ro<X.length):=hr
 have Hq:Hid (o.ro<X.length):=hq
 have H16:Hid ((rws X).length≤16):=by rw[cQ];exact T.few
 have C1:=iw _ _ X F e W1.drew (HTW.out.keep (ai _)) hr
 have C2:Hid (∀ V,W1.grownBy V none→Calls Tryz.prog 69 #[.agg #[.slice pr X.length cr,.slice pf F.length cf],.agg #[.int .i64 o.s.th,.int .i64 o.s.pl,.int .u8 o.s.wh.wn,.int .u8 o.s.wh.vb,.int .u8 o.s.wh.wm,.int .i64 o.s.wh.ct,.int .u8 o.s.wh.su,.int .u8 o.s.wh.tr,.int .u8 o.s.wh.mr,.string o.s.wh.nm,.int .i64 (o.ro:Int)]] V fun e' w'=>∃ vf',e'=.returned (tbv (.slice pr X.length cr) vf')∧aQ w' V.heap.size vf' (aG (rws X) F o)∧V.grownBy w' none):=fun V g=>jC _ _ X F o V (HTW.out.keep g) hq
 unfold tbv sev smv at C1
 have HD:Hid ((!(pad (aH (rws X) F e) == pad (aH (rws X) (aG (rws X) F o) e)))=ib (rws X) F e o):=Dq _ _ _ _
 obtain⟨a,ha⟩:=Qe (aH (rws X) F e)
 have Ha:Hid (a.length≤16):=by show _≤_;rw[ha,fU];exact H16.out
 rw[←ha] at C1 HD
 unfold tbv sev
 clear T hr hq ha
 go_enter Tryz.func136,Tryz.ntmps136
 go_upto_region 1 with fail
 rw[←hW1]
 clear hW1
 obtain⟨n0,h0⟩:=Qe (w.heap.size)
 simp only[←h0] at HB HS HO ⊢
 obtain⟨n1,h1⟩:=Qe (n0+1)
 simp only[←h1] at HS HO ⊢
 obtain⟨n2,h2⟩:=Qe (n1+1)
 simp only[←h2] at HO ⊢
 clear h0 h1 h2
 obtain⟨b0,b1⟩:=bP HB.out
 obtain⟨s0,s1,s2,s3,s4,s5,s6,s7,s8,s9,s10⟩:=fh HS.out
 obtain⟨o0,o1,o2,o3,o4,o5,o6,o7,o8,o9,o10⟩:=fh HO.out
 refine wp_region_held_drew (S:=fun w'=>W1.grownBy w' none) (by kernel_rfl) (ai _) (fun hHeld=>?_)
 refine QT 0 rfl (by intro w0 hSw;have b0:=QK hSw b0;have b1:=QK hSw b1;go_simp;try with_reducible rfl) ?_
 go_frame
 refine QT 1 rfl (by intro w0 hSw;have s0:=QK hSw s0;have s1:=QK hSw s1;have s2:=QK hSw s2;have s3:=QK hSw s3;have s4:=QK hSw s4;have s5:=QK hSw s5;have s6:=QK hSw s6;have s7:=QK hSw s7;have s8:=QK hSw s8;have s9:=QK hSw s9;have s10:=QK hSw s10;go_simp;try with_reducible rfl) ?_
 go_frame
 refine QT 3 rfl (by intro w0 hSw;have b0:=QK hSw b0;have b1:=QK hSw b1;go_simp;try with_reducible rfl) ?_
 go_frame
 refine QT 4 rfl (by intro w0 hSw;have o0:=QK hSw o0;have o1:=QK hSw o1;have o2:=QK hSw o2;have o3:=QK hSw o3;have o4:=QK hSw o4;have o5:=QK hSw o5;have o6:=QK hSw o6;have o7:=QK hSw o7;have o8:=QK hSw o8;have o9:=QK hSw o9;have o10:=QK hSw o10;go_simp;try with_reducible rfl) ?_
 go_frame
 refine QT 6 rfl (by intro w0 hSw;have s0:=QK hSw s0;have s1:=QK hSw s1;have s2:=QK hSw s2;have s3:=QK hSw s3;have s4:=QK hSw s4;have s5:=QK hSw s5;have s6:=QK hSw s6;have s7:=QK hSw s7;have s8:=QK hSw s8;have s9:=QK hSw s9;have s10:=QK hSw s10;go_simp;try with_reducible rfl) ?_
 go_frame
 clear b0 b1 s0 s1 s2 s3 s4 s5 s6 s7 s8 s9 s10 o0 o1 o2 o3 o4 o5 o6 o7 o8 o9 o10
 refine QR 2 rfl (fun K hK=>?_)
 go_simp
 go_at_call 145
 refine(C1).mono ?_
 rintro e2 w2 ⟨rfl,g2⟩
 have HG2:Hid (W1.grownBy w2 none):=ae (ai _) g2
 clear g2 C1
 refine hK.out _ _ (HG2.out) (fun hHeld2=>?_)
 clear hK K
 (try go_frame)
 refine QR 5 rfl (fun K hK=>?_)
 go_simp
 go_at_call 69
 refine(C2.out _ HG2.out).mono ?_
 rintro e3 w3 ⟨v3,rfl,o3,g3⟩
 unfold tbv
 have HG3:Hid (W1.grownBy w3 none):=ae HG2.out g3
 have C3:=iw _ _ X _ e w3 (HTW.out.applied HG3.out o o3) Hr.out
 unfold tbv sev smv at C3
 obtain⟨b,hb⟩:=Qe (aH (rws X) (aG (rws X) F o) e)
 have Hb:Hid (b.length≤16):=by show _≤_;rw[hb,fU];exact H16.out
 rw[←hb] at C3 HD
 clear g3 o3 hb C2
 refine hK.out _ _ (HG3.out) (fun hHeld2=>?_)
 clear hK K
 (try go_frame)
 refine QR 7 rfl (fun K hK=>?_)
 go_simp
 go_at_call 145
 refine(C3).mono ?_
 rintro e4 w4 ⟨rfl,g4⟩
 have HG4:Hid (W1.grownBy w4 none):=ae HG3.out g4
 clear g4 C3
 refine hK.out _ _ (HG4.out) (fun hHeld2=>?_)
 clear hK K
 (try go_frame)
 refine QT 8 rfl (by intro w0 hSw;have q1:=BU a b Ha.out Hb.out;have q2:=Br;go_simp;try with_reducible rfl) ?_
 go_frame
 refine QZ 9 rfl ?_
 go_frame
 refine QD ?_
 go_wp2_with fail
 go_ret
 exact⟨cM HD.out,ae HG1.out HG4.out⟩
theorem Bt (hj:j<L.length) (hij:i≠j) (h:ib R F (L.getD i Se.none) (L.getD j Se.none)=true):cR R F L i=false:=by
 unfold cR
 rw[List.all_eq_false]
 exact⟨j,List.mem_range.2 hj,by rw[h];simpa using hij⟩
theorem zI (h:∀ j,j<L.length→i=j∨ib R F (L.getD i Se.none) (L.getD j Se.none)=false):cR R F L i=true:=by
 unfold cR
 rw[List.all_eq_true]
 intro j hj
 rcases h j (List.mem_range.1 hj) with e | e
 ·simp[e]
 ·rw[e]
  simp
theorem mK {p:Nat→Bool}:∀ (n k:Nat),k<n→(∀ i,i<k→p i=false)→p k=true→(List.range n).find? p=some k
 | n+1,k,hk,hn,hp=>by
  rw[List.range_succ,List.find?_append]
  by_cases h:k<n
  ·rw[mK n k h hn hp]
   rfl
  ·have:k=n:=by omega
   subst this
   rw[List.find?_eq_none.2 (fun x hx=>by rw[hn x (List.mem_range.1 hx)];simp)]
   simp[hp]
theorem rY {k:Nat} (hk:k<L.length) (hn:∀ i,i<k→cR R F L i=false) (hp:cR R F L k=true):cw R F L=k:=by
 unfold cw
 rw[mK _ k hk hn hp]
 rfl
theorem oN (hn:∀ i,i<L.length→cR R F L i=false):cw R F L=0:=by
 unfold cw
 rw[List.find?_eq_none.2 (fun x hx=>by rw[hn x (List.mem_range.1 hx)];simp)]
 rfl
theorem nE (h:L≠[]):cw R F L<L.length:=by
 have h0:0<L.length:=List.length_pos_iff.2 h
 unfold cw
 cases hf:(List.range L.length).find? (cR R F L) with
 | none=>exact h0
 | some k=>exact List.mem_range.1 (List.mem_of_find?_eq_some hf)
theorem aB {α:Type} {l:List α} {d:α} (h:i<l.length):l.getD i d=l[i]:=by rw[List.getD_eq_getElem?_getD,Qg h];rfl
theorem SeAt.there (h:seR.At w v L) {i:Nat} (hi:i<L.length):∃ g off cap,v=.slice (some ⟨g,off,none⟩) L.length cap∧w.rangeAt g (off+i*11) (sec (L.getD i Se.none)):=by
 rw[aB hi]
 exact az.At.there h hi
theorem yo (vr vf v:Value) (X:List Rv) (F:List Fe) (L:List Se) (w:World) (T:dX w vr vf X F) (A:seR.At w v L) (hr:∀ i,i<L.length→(L.getD i Se.none).ro<X.length) (hl:L.length≤4096):Calls Tryz.prog 62 #[tbv vr vf,v] w fun e' w'=>e'=.returned (.int .i64 (cw (rws X) F L:Int))∧w.grownBy w' none:=by
 obtain⟨pr,cr,rfl⟩:=T.rows.form
 obtain⟨pf,cf,rfl⟩:=T.fs.form
 obtain⟨pl,cl,rfl⟩:=A.form
 obtain⟨W1,hW1⟩:=Qe (w.alloc (.cells #[.slice pr X.length cr,.slice pf F.length cf] 125))
 have HG1:Hid (w.grownBy W1 none):=by rw[hW1];exact QG
 have HB:Hid (TbB W1 w.heap.size (.slice pr X.length cr) (.slice pf F.length cf)):=by rw[hW1];exact ak w _ _
 have HT:Hid (dX W1 (.slice pr X.length cr) (.slice pf F.length cf) X F):=T.keep HG1.out
 have HA:Hid (seR.At W1 (.slice pl L.length cl) L):=A.keep HG1.out
 have Hr:Hid (∀ i,i<L.length→(L.getD i Se.none).ro<X.length):=hr
 have Hl:Hid (L.length≤4096):=hl
 unfold tbv
 clear T A hr hl
 go_enter Tryz.func62,Tryz.ntmps62
 go_wp2_with fail
 rw[←hW1]
 clear hW1
 obtain⟨n0,h0⟩:=Qe (w.heap.size)
 simp only[←h0] at HB ⊢
 clear h0
 go_step3
 go_wp2_with fail
 go_step3
 go_wp2_with fail
 go_loopw [11] (fun i wr=>∃ k:Nat,k≤L.length∧i=.int .i64 (k:Int)∧(∀ i,i<k→cR (rws X) F L i=false)∧W1.grownBy wr none) (fun i _=>L.length - (intOf i).toNat)
 case atStart=>exact⟨0,Q0 _,rfl,fun i hi=>absurd hi (Nat.not_lt_zero _),ay _ _⟩
 case round =>
  obtain⟨k,hk,rfl,hfree,G⟩:=hrel
  obtain⟨U,hU⟩:=Qe (wr)
  subst hU
  have HF:Hid (∀ i,i<k→cR (rws X) F L i=false):=hfree
  have HG:Hid (W1.grownBy U none):=G
  clear hfree G
  by_cases hlt:k<L.length
  ·obtain⟨g,off,cap,e1,R⟩:=SeAt.there (HA.out.keep HG.out) hlt
   cases e1
   obtain⟨e,he⟩:=Qe (L.getD k Se.none)
   have He:Hid (e=L.getD k Se.none):=he
   rw[←he] at R
   obtain⟨c0,c1,c2,c3,c4,c5,c6,c7,c8,c9,c10⟩:=ft R
   obtain⟨V,hV⟩:=Qe (U.alloc (.cells #[.int .i64 e.s.th,.int .i64 e.s.pl,.int .u8 e.s.wh.wn,.int .u8 e.s.wh.vb,.int .u8 e.s.wh.wm,.int .i64 e.s.wh.ct,.int .u8 e.s.wh.su,.int .u8 e.s.wh.tr,.int .u8 e.s.wh.mr,.string e.s.wh.nm,.int .i64 (e.ro:Int)] 131))
   have HGV:Hid (U.grownBy V none):=by rw[hV];exact QG
   have HBe:Hid (SeB V U.heap.size e):=by rw[hV];exact ak _ _ _
   have hlt':(k:Int)<L.length:=by omega
   have Hlt:Hid (k<L.length):=hlt
   have hwk:wrap64 ((k:Int)+1)=(k:Int)+1:=by unfold wrap64;have:=Hl.out;omega
   have HM:Hid (L.length - (intOf (.int .i64 ((k:Int)+1))).toNat<L.length - (intOf (.int .i64 (k:Int))).toNat):=bj hlt
   clear he R hlt hk
   go_upto_region 4 with fail
   rw[←hV]
   obtain⟨nb,hnb⟩:=Qe (U.heap.size)
   rw[←hnb] at HBe ⊢
   clear hV hnb c0 c1 c2 c3 c4 c5 c6 c7 c8 c9 c10
   go_wp2_with fail
   go_loopw [18] (fun i wr=>∃ m:Nat,m≤L.length∧i=.int .i64 (m:Int)∧(∀ j,j<m→k=j∨ib (rws X) F (L.getD k Se.none) (L.getD j Se.none)=false)∧V.grownBy wr none) (fun i _=>L.length - (intOf i).toNat)
   case atStart=>exact⟨0,Q0 _,rfl,fun i hi=>absurd hi (Nat.not_lt_zero _),ay _ _⟩
   case round =>
    obtain⟨m,hm,rfl,hfr,G⟩:=hrel
    obtain⟨Y,hY⟩:=Qe (wr)
    subst hY
    have HFr:Hid (∀ j,j<m→k=j∨ib (rws X) F (L.getD k Se.none) (L.getD j Se.none)=false):=hfr
    have HGY:Hid (V.grownBy Y none):=G
    have HGY1:Hid (W1.grownBy Y none):=ae (ae HG.out HGV.out) G
    clear hfr G
    by_cases hml:m<L.length
    ·obtain⟨g2,off2,cap2,e2,R⟩:=SeAt.there (HA.out.keep HGY1.out) hml
     cases e2
     obtain⟨o,ho⟩:=Qe (L.getD m Se.none)
     have Ho:Hid (o=L.getD m Se.none):=ho
     rw[←ho] at R
     obtain⟨c0,c1,c2,c3,c4,c5,c6,c7,c8,c9,c10⟩:=ft R
     obtain⟨Z,hZ⟩:=Qe (Y.alloc (.cells #[.int .i64 o.s.th,.int .i64 o.s.pl,.int .u8 o.s.wh.wn,.int .u8 o.s.wh.vb,.int .u8 o.s.wh.wm,.int .i64 o.s.wh.ct,.int .u8 o.s.wh.su,.int .u8 o.s.wh.tr,.int .u8 o.s.wh.mr,.string o.s.wh.nm,.int .i64 (o.ro:Int)] 131))
     have HGZ:Hid (Y.grownBy Z none):=by rw[hZ];exact QG
     have HGZ1:Hid (W1.grownBy Z none):=ae HGY1.out HGZ.out
     have HBo:Hid (SeB Z Y.heap.size o):=by rw[hZ];exact ak _ _ _
     have HBe2:Hid (SeB Z nb e):=ag (ae HGY.out HGZ.out) HBe.out (by simp)
     have hml':(m:Int)<L.length:=by omega
     have Hml:Hid (m<L.length):=hml
     have hwm:wrap64 ((m:Int)+1)=(m:Int)+1:=by unfold wrap64;have:=Hl.out;omega
     have HMm:Hid (L.length - (intOf (.int .i64 ((m:Int)+1))).toNat<L.length - (intOf (.int .i64 (m:Int))).toNat):=bj hml
     clear ho R hml hm
     go_upto_region 7 with fail
     rw[←hZ]
     obtain⟨nc,hnc⟩:=Qe (Y.heap.size)
     rw[←hnc] at HBo ⊢
     clear hZ hnc c0 c1 c2 c3 c4 c5 c6 c7 c8 c9 c10
     by_cases hkm:k=m
     ·have ek:((k:Int) != (m:Int))=false:=by rw[hkm];simp
      have HF2:Hid (∀ j,j<m+1→k=j∨ib (rws X) F (L.getD k Se.none) (L.getD j Se.none)=false):=fun j hj=>by
       by_cases q:j=m
       ·exact Or.inl (hkm.trans q.symm)
       ·exact HFr.out j (by omega)
      clear hkm
      go_wp2_with fail
      go_roundw
      case rel=>exact⟨m+1,Hml.out,by first | rfl | (rw[hwm];rfl) | go_num,HF2.out,ae HGY.out HGZ.out⟩
      case measure=>first | exact HMm.out | (rw[hwm];exact HMm.out)
     ·have ek:((k:Int) != (m:Int))=true:=by simp;omega
      have HC:=rM _ _ X F e o Z (HT.out.keep HGZ1.out) (by rw[He.out];exact Hr.out k Hlt.out) (by rw[Ho.out];exact Hr.out m Hml.out)
      obtain⟨d,hd⟩:=Qe (ib (rws X) F e o)
      have Hd:Hid (d=ib (rws X) F (L.getD k Se.none) (L.getD m Se.none)):=by show _=_;rw[hd,He.out,Ho.out]
      have Hkm:Hid (¬k=m):=hkm
      rw[←hd] at HC
      unfold tbv sev at HC
      obtain⟨a0,a1⟩:=bP (show TbB Z n0 _ _ from ag HGZ1.out HB.out (by simp))
      obtain⟨s0,s1,s2,s3,s4,s5,s6,s7,s8,s9,s10⟩:=fh HBe2.out
      obtain⟨o0,o1,o2,o3,o4,o5,o6,o7,o8,o9,o10⟩:=fh HBo.out
      clear hd hkm
      cases d with
      | true =>
       have HX:Hid (∀ i,i<k+1→cR (rws X) F L i=false):=fun i hi=>by
        by_cases q:i=k
        ·rw[q];exact Bt Hml.out Hkm.out Hd.out.symm
        ·exact HF.out i (by omega)
       go_wp2_with (go_at_call 136;refine HC.mono ?_;rintro e5 w5 ⟨rfl,g5⟩;have HG5:Hid (Z.grownBy w5 none):=g5;clear HC g5 a0 a1 s0 s1 s2 s3 s4 s5 s6 s7 s8 s9 s10 o0 o1 o2 o3 o4 o5 o6 o7 o8 o9 o10)
       go_roundw
       case rel=>exact⟨k+1,Hlt.out,by first | rfl | (rw[hwk];rfl) | go_num,HX.out,ae HGZ1.out HG5.out⟩
       case measure=>first | exact HM.out | (rw[hwk];exact HM.out)
      | false =>
       have HF2:Hid (∀ j,j<m+1→k=j∨ib (rws X) F (L.getD k Se.none) (L.getD j Se.none)=false):=fun j hj=>by
        by_cases q:j=m
        ·rw[q];exact Or.inr Hd.out.symm
        ·exact HFr.out j (by omega)
       go_wp2_with (go_at_call 136;refine HC.mono ?_;rintro e5 w5 ⟨rfl,g5⟩;have HG5:Hid (Z.grownBy w5 none):=g5;clear HC g5 a0 a1 s0 s1 s2 s3 s4 s5 s6 s7 s8 s9 s10 o0 o1 o2 o3 o4 o5 o6 o7 o8 o9 o10)
       refine⟨⟨m+1,Hml.out,by first | rfl | (rw[hwm];rfl) | go_num,HF2.out,ae HGY.out (ae HGZ.out HG5.out)⟩,?_⟩
       first | exact HMm.out | (rw[hwm];exact HMm.out)
    ·obtain rfl:m=L.length:=by omega
     have HX:Hid (cw (rws X) F L=k):=rY Hlt.out HF.out (zI HFr.out)
     clear hml hm
     go_wp2_with fail
     try rw[Exit.noGoto_ret]
     go_ret
     exact⟨by rw[HX.out];rfl,ae HG1.out HGY1.out⟩
  ·obtain rfl:k=L.length:=by omega
   have HX:Hid (cw (rws X) F L=0):=oN HF.out
   clear hlt hk
   go_wp2_with fail
   try rw[Exit.noGoto_ret]
   go_ret
   exact⟨by rw[HX.out];rfl,ae HG1.out HG.out⟩
theorem ja {j:Nat} (h:j≤4096):IntKind.i64.wrap (j:Int)=(j:Int):=IntWalk.i64_in _ (by omega)
theorem jT {j:Nat} (h:j≤4096):wrap64 (j:Int)=(j:Int):=by unfold wrap64;omega
theorem aK {k:Nat} (h:k≤4096):wrap64 ((k:Int)+1)=(k:Int)+1:=by unfold wrap64;omega
theorem m9 {a:Nat} (h:a<b) (h':b≤c):some a≠some c:=fun q=>by have:=Option.some.inj q;omega
theorem jq (fs:List Fe) (R:List Rw) (F:List Fe) (k:Nat):iH fs R F (k+1)=(iH fs R F k).set ((R.getD k Rw.none).nu - 1).toNat (F.getD k Fe.none):=by
 unfold iH
 rw[List.range_succ,List.foldl_append]
 rfl
theorem gY (fs:List Fe) (R:List Rw) (F:List Fe):∀ k,(iH fs R F k).length=fs.length
 | 0=>rfl
 | k+1=>by rw[jq,List.length_set,gY fs R F k]
structure AmS (w wr:World) (n0 B:Nat) (vr vf v:Value) (L:List Fe):Prop where
 tb:TbB wr n0 vr vf
 fo:aQ wr B v L
 gr:w.grownBy wr none
theorem AmS.grow {L:List Fe} (h:AmS w wr n0 B vr vf v L) (g:wr.grownBy wr' none):AmS w wr' n0 B vr vf v L:=⟨ag g h.tb (by simp),h.fo.grow g,ae h.gr g⟩
theorem AmS.set {n k:Nat} {L:List Fe} (h:AmS w wr n0 B vr vf (.slice (some ⟨g,0,none⟩) n cap) L) (hn:L.length=n) (hk:k<n) (hB:n0<B∧w.heap.size≤B) (f:Fe):AmS w (wr.setCells g (k*5) (fec f)) n0 B vr vf (.slice (some ⟨g,0,none⟩) n cap) (L.set k f):=by
 obtain⟨o,q⟩:=az.Own.set h.fo hn hk f
 have hg:B≤g:=(h.fo.lt g rfl).1
 exact⟨ag q h.tb (by simp;omega),o,ar h.gr q (fun y e=>by cases e;omega)⟩
theorem nT (vr vf v:Value) (X:List Rv) (F fs:List Fe) (w:World) (T:dX w vr vf X F) (A:feR.At w v fs) (hn:∀ i,i<X.length→1≤((rws X).getD i Rw.none).nu∧((rws X).getD i Rw.none).nu≤(fs.length:Int)) (hl:fs.length≤4096):Calls Tryz.prog 71 #[tbv vr vf,v] w fun e' w'=>∃ v',e'=.returned v'∧aQ w' w.heap.size v' (bu fs (rws X) F)∧w.grownBy w' none:=by
 obtain⟨pr,cr,rfl⟩:=T.rows.form
 obtain⟨pf,cf,rfl⟩:=T.fs.form
 obtain⟨pl,cl,rfl⟩:=A.form
 obtain⟨W1,hW1⟩:=Qe (w.alloc (.cells #[.slice pr X.length cr,.slice pf F.length cf] 125))
 have HG1:Hid (w.grownBy W1 none):=by rw[hW1];exact QG
 have HB:Hid (TbB W1 w.heap.size (.slice pr X.length cr) (.slice pf F.length cf)):=by rw[hW1];exact ak w _ _
 have HT:Hid (dX w (.slice pr X.length cr) (.slice pf F.length cf) X F):=T
 have HCl:=nC _ fs W1 (A.keep HG1.out) (by omega)
 have HNu:Hid (∀ i,i<X.length→1≤((rws X).getD i Rw.none).nu∧((rws X).getD i Rw.none).nu≤(fs.length:Int)):=hn
 have Hl:Hid (fs.length≤4096):=hl
 have H16:Hid (X.length≤16):=T.few
 have HLF:Hid (F.length=X.length):=T.len
 unfold tbv
 clear T A hn hl
 go_enter Tryz.func71,Tryz.ntmps71
 go_upto_region 1 with fail
 rw[←hW1]
 clear hW1
 obtain⟨n0,h0⟩:=Qe (w.heap.size)
 simp only[←h0] at HB ⊢
 clear h0
 go_wp2_with fail
 refine HCl.mono ?_
 rintro e2 w2 ⟨v2,rfl,o2,g2⟩
 obtain⟨p2,c2,rfl⟩:=o2.form
 have HBd:Hid (n0<W1.heap.size∧w.heap.size≤W1.heap.size):=⟨aZ HB.out,HG1.out.size⟩
 have HA:Hid (AmS w w2 n0 W1.heap.size (.slice pr X.length cr) (.slice pf F.length cf) (.slice p2 fs.length c2) fs):=⟨ag g2 HB.out (by simp),o2,ae HG1.out g2⟩
 have HG2:Hid (W1.grownBy w2 none):=g2
 obtain⟨a0,a1⟩:=bP HA.out.tb
 clear HCl o2 g2
 go_wp2_with fail
 clear a0 a1
 go_loopw [6,7,13] (fun _ _ i wr=>∃ k:Nat,k≤X.length∧i=.int .i64 (k:Int)∧AmS w wr n0 W1.heap.size (.slice pr X.length cr) (.slice pf F.length cf) (.slice p2 fs.length c2) (iH fs (rws X) F k)) (fun _ _ i _=>X.length - (intOf i).toNat)
 case atStart=>exact⟨0,Q0 _,rfl,HA.out⟩
 case round =>
  clear HA
  obtain⟨k,hk,rfl,A⟩:=hrel
  obtain⟨U,hU⟩:=Qe (wr)
  subst hU
  by_cases hlt:k<X.length
  ·have hnu:=HNu.out k hlt
   obtain⟨gl,cap,el,hgl,-,-,-,-⟩:=cH A.fo (show 0<(iH fs (rws X) F k).length by rw[gY];omega)
   rw[gY] at el
   cases el
   have HTU:=HT.out.keep A.gr
   obtain⟨g,off,cap,e1,R⟩:=HTU.row hlt
   cases e1
   obtain⟨gf,fof,fcap,e2,RF⟩:=HTU.fe hlt
   cases e2
   obtain⟨gf',fof',fcap',e3,RF0⟩:=HT.out.fe hlt
   cases e3
   obtain⟨x,hx⟩:=Qe (X[k])
   rw[←hx] at R
   have en:((rws X).getD k Rw.none).nu=x.r.nu:=by rw[fI hlt,←hx]
   rw[en] at hnu
   obtain⟨j,hj⟩:∃ j:Nat,x.r.nu=(j:Int)+1:=⟨(x.r.nu - 1).toNat,by omega⟩
   have hjl:j<fs.length:=by omega
   obtain⟨f,hf⟩:=Qe (F.getD k Fe.none)
   rw[←hf] at RF
   have HY:Hid (iH fs (rws X) F (k+1)=(iH fs (rws X) F k).set j f):=by show _=_;rw[jq,en,hj,←hf,show ((j:Int)+1 - 1).toNat=j by omega]
   have HA:Hid (AmS w U n0 W1.heap.size (.slice (some ⟨g,off,none⟩) X.length cr) (.slice (some ⟨gf,fof,none⟩) F.length cf) (.slice (some ⟨gl,0,none⟩) fs.length c2) (iH fs (rws X) F k)):=A
   have HLn:Hid ((iH fs (rws X) F k).length=fs.length):=gY _ _ _ _
   obtain⟨c0,c1,c2',c3,c4,c5,c6,c7,c8,c9,c10⟩:=eM R
   have c10':U.cell? ⟨g,off+k*11+10,none⟩=some (.slice x.pa x.r.ps.length x.ca):=c10
   obtain⟨V,hV⟩:=Qe (U.alloc (.cells #[.int .i64 x.r.nu,.int .i64 x.r.st,.string x.r.h.nm,.int .u8 x.r.h.su,.int .u8 x.r.h.kd,.int .i64 x.r.h.co,.int .i64 x.r.h.po,.int .i64 x.r.h.he,.int .u16 x.r.h.tr,.bool x.r.h.tk,.slice x.pa x.r.ps.length x.ca] 230))
   have HGV:Hid (U.grownBy V none):=by rw[hV];exact QG
   have z0:V.cell? ⟨U.heap.size,0,none⟩=some (.int .i64 ((j:Int)+1)):=by rw[hV,←hj];exact(aa (ak _ _ _) 0).trans rfl
   obtain⟨f0,f1,f2,f3,f4⟩:=bm (aS RF HGV.out)
   obtain⟨a0,a1⟩:=bP (show TbB V n0 _ _ from ag HGV.out A.tb (by simp))
   have hgl2:gl<U.heap.size:=(A.fo.lt gl rfl).2
   have hgf:gf<w.heap.size:=World.block_lt_of_cell? _ _ (bm RF0).1
   have d0:some n0≠some gl:=m9 HBd.out.1 hgl
   have dr:some U.heap.size≠some gl:=fun q=>absurd (Option.some.inj q) (Nat.ne_of_gt hgl2)
   have df:some gf≠some gl:=m9 (Nat.lt_of_lt_of_le hgf HBd.out.2) hgl
   have hw1:=ja (j:=j) (Ql (Nat.le_of_lt hjl) Hl.out)
   have hw2:=jT (j:=j) (Ql (Nat.le_of_lt hjl) Hl.out)
   have hjl':(j:Int)<fs.length:=Int.ofNat_lt.2 hjl
   have Hjl:Hid (j<fs.length):=hjl
   have hlt':(k:Int)<X.length:=Int.ofNat_lt.2 hlt
   have hkf:(k:Int)<F.length:=by rw[HLF.out];exact Int.ofNat_lt.2 hlt
   have hwk:=aK (k:=k) (Ql (Nat.le_of_lt hlt) (Ql H16.out (by decide)))
   have Hlt:Hid (k<X.length):=hlt
   have HM:Hid (X.length - (intOf (.int .i64 ((k:Int)+1))).toNat<X.length - (intOf (.int .i64 (k:Int))).toNat):=bj hlt
   clear A R RF RF0 hx en hj hf c10 hgl hgl2 hgf hnu HTU hlt hk hjl
   go_upto_region 5 with fail
   rw[←hV]
   clear hV c0 c1 c2' c3 c4 c5 c6 c7 c8 c9 c10'
   obtain⟨nb,hnb⟩:=Qe (U.heap.size)
   rw[←hnb] at z0 dr ⊢
   clear hnb
   refine wp_region_held_drew (S:=fun w'=>V.grownBy w' (some gl)) (by kernel_rfl) (aX _ _) (fun hHeld=>?_)
   refine QZ 0 rfl ?_
   go_frame
   refine QZ 1 rfl ?_
   go_frame
   refine QT 2 rfl (by intro w0 hSw;have z0:=hSw.cell z0 dr;go_simp;try with_reducible rfl) ?_
   go_frame
   refine QZ 3 rfl ?_
   go_frame
   refine QZ 4 rfl ?_
   go_frame
   refine QT 5 rfl (by intro w0 hSw;have a1:=hSw.cell a1 d0;go_simp;try with_reducible rfl) ?_
   go_frame
   refine QZ 6 rfl ?_
   go_frame
   refine QZ 7 rfl ?_
   go_frame
   refine QT 8 rfl (by intro w0 hSw;have f0:=hSw.cell f0 df;have f1:=hSw.cell f1 df;have f2:=hSw.cell f2 df;have f3:=hSw.cell f3 df;have f4:=hSw.cell f4 df;go_simp;try with_reducible rfl) ?_
   go_frame
   refine QZ 9 rfl ?_
   go_frame
   refine QR 10 rfl (fun K9 hK=>?_)
   have HA3:Hid (AmS w V.drew n0 W1.heap.size (.slice (some ⟨g,off,none⟩) X.length cr) (.slice (some ⟨gf,fof,none⟩) F.length cf) (.slice (some ⟨gl,0,none⟩) fs.length c2) (iH fs (rws X) F k)):=HA.out.grow (ae HGV.out (ai _))
   refine wp_store_mid 122 (.tmp 27) (.tmp 26) rfl gl (j*5) (fec f).toArray rfl rfl (az.Own.there HA3.out.fo HLn.out Hjl.out) (by kernel_rfl) (all_oneCell_toArray (nN f)) ?_
   refine hK.out _ _ (ae (aX _ _) (az.Own.set HA3.out.fo HLn.out Hjl.out f).2) (fun hHeld3=>?_)
   clear hK K9
   (try go_frame)
   refine QD ?_
   have HA4:Hid (AmS w (V.drew.setCells gl (j*5) (fec f)) n0 W1.heap.size (.slice (some ⟨g,off,none⟩) X.length cr) (.slice (some ⟨gf,fof,none⟩) F.length cf) (.slice (some ⟨gl,0,none⟩) fs.length c2) ((iH fs (rws X) F k).set j f)):=HA3.out.set HLn.out Hjl.out HBd.out f
   obtain⟨Z,hZ⟩:=Qe (V.drew.setCells gl (j*5) (fec f))
   rw[←hZ] at HA4
   clear hHeld hHeld3 a0 a1 f0 f1 f2 f3 f4 z0
   rw[show V.drew.setCells gl (j*5) (fec f).toArray.toList=Z from hZ.symm]
   clear hZ
   go_wp2_with fail
   go_roundw
   case rel=>exact⟨k+1,Hlt.out,by first | rfl | (rw[hwk];rfl) | go_num,by rw[HY.out];exact HA4.out⟩
   case measure=>first | exact HM.out | (rw[hwk];exact HM.out)
  ·obtain rfl:k=X.length:=by omega
   have HF:Hid (aQ U w.heap.size (.slice p2 fs.length c2) (bu fs (rws X) F)∧w.grownBy U none):=⟨by unfold bu;rw[cQ];exact aP A.fo HBd.out.2,A.gr⟩
   clear A hk hlt
   go_wp2_with fail
   go_ret
   exact⟨_,rfl,HF.out⟩
end Go.Proofs.YtjmepebbcnhalaaGreat
