/-
  Layers: About,Apply,Depends.
  slices.Delete of standing effects.
  Layers: Effects.
  Layers: All.
  Layers: effects in their order.
  Layers: when two effects are the same;the place of one in a list.
  Layers: Next.
  Layers: what the ways of layer ask of a book,things and features.
-/
import Derived.Test.YthfjgpjcepmnmaaGreatZ28
import Derived.Deep.RegionLaw
import Derived.Lib.SliceRun
import Derived.Test.YthfjgpjcepmnmaaGreatZ7
import Derived.Test.YthfjgpjcepmnmaaGreatZ3
import Derived.Shelf.SlicesQ.Index
namespace Go.Proofs.YthfjgpjcepmnmaaGreat
open Go.RowKit
def AboutPost (w:World) (r n:Int) (cd:Int→Hd×List Pt) (ts:List Th) (fs:List Fe) (s:Sd) (e:Ending) (w':World):Prop:=∃ p m c,e=.returned (.tuple #[.slice p m c,.int .i64 (lkE r n cd ts fs [s])])∧w.grownBy w' none∧(lkE r n cd ts fs [s]≠0→m=0∧p=none)∧∀ R d,r=0→tabR n cd ts fs=some R→listF R [s] []=some [d]→LOwnI w' w.heap.size (.slice p m c) (numL R (aboutL R (pickF R fs) d))
def ApplyPost (w:World) (r n:Int) (cd:Int→Hd×List Pt) (ts:List Th) (fs:List Fe) (s:Sd) (e:Ending) (w':World):Prop:=∃ p m c,e=.returned (.tuple #[.slice p m c,.int .i64 (lkE r n cd ts fs [s])])∧w.grownBy w' none∧(lkE r n cd ts fs [s]≠0→m=0∧p=none)∧∀ R d,r=0→tabR n cd ts fs=some R→listF R [s] []=some [d]→FOwn w' w.heap.size (.slice p m c) (amgL fs R (applyL R (pickF R fs) d))
def zS:Array Value:=#[.int .i64 0,.int .i64 0,.int .u8 0,.int .u8 0,.int .u8 0,.int .i64 0,.int .u8 0,.int .u8 0,.int .u8 0,.string ⟨#[]⟩,.int .i64 0]
set_option maxRecDepth 100000
set_option maxHeartbeats 4000000
def DOwn (w:World) (base:Nat) (v:Value) (L:List Sd):Prop:=sdR.Own 40 w base v L
theorem Tryz.linfoD:(Tryz.prog.info? 40).map (fun i=>(i.zero,i.size,i.bytes))=some (some (.agg #[.int .i64 0,.int .i64 0,.int .u8 0,.int .u8 0,.int .u8 0,.int .i64 0,.int .u8 0,.int .u8 0,.int .u8 0,.string ⟨#[]⟩]),10,56):=by kernel_rfl
theorem sd_src (Z:World) (s:Sd):Src (Z.alloc (.cells (sdc s).toArray 40)) (.slice (some ⟨Z.heap.size,0,none⟩) 1 1) 1 10 (sdc s):=lit_Src (cs:=(sdc s).toArray) (alloc_at Z _ _) rfl 1
theorem len_smallD {n:Nat} (h:n≤4096):n+1≤maxLen∧(n+1)*56≤140737488355328:=by unfold maxLen;omega
theorem bgE_of {r n:Int} {cd:Int→Hd×List Pt} {ts:List Th} {fs:List Fe} {k:Int} (h:bgE r n cd ts fs k=0):r=0∧(1≤k∧k≤5)∧∃ R,tabR n cd ts fs=some R:=by
 unfold bgE at h
 split at h
 ·rename_i h0
  split at h
  ·rename_i h1
   obtain⟨a,R,b⟩:=lkE_nil h0
   exact⟨a,h1,R,b⟩
  ·cases h
 ·rename_i h0
  exact absurd h h0
theorem bgE_ok {n:Int} {cd:Int→Hd×List Pt} {ts:List Th} {fs:List Fe} {k:Int} {R:List Rw} (h:tabR n cd ts fs=some R) (hk:1≤k∧k≤5):bgE 0 n cd ts fs k=0:=by
 unfold bgE
 rw[if_pos (lkE_tabs h),if_pos hk]
theorem effP_ro {k nu:Int} {ro:Nat} {ps:List Pt} {m:Nat} {e:Se} (h:e∈effP k nu ro ps m):e.ro=ro:=by
 unfold effP at h
 obtain⟨i,_,q⟩:=List.mem_filterMap.1 h
 split at q
 ·cases q;rfl
 ·cases q
theorem effL_len {X:List Rv} {F:List Fe} {k:Int} (h4:∀ x∈X,x.r.ps.length≤4) (h16:X.length≤16):(effL (rws X) F k).length≤64:=by
 unfold effL
 have:=effU_len (R:=rws X) (F:=F) (k:=k) (fun i=>by
  by_cases h:i<X.length
  ·rw[rws_get h];exact h4 _ (List.getElem_mem h)
  ·rw[List.getD_eq_getElem?_getD,List.getElem?_eq_none (by rw[rws_len];omega)];exact Nat.zero_le _) (rws X).length
 rw[rws_len] at this ⊢
 omega
def EffectsPost (w:World) (r n:Int) (cd:Int→Hd×List Pt) (ts:List Th) (fs:List Fe) (k:Int) (e:Ending) (w':World):Prop:=∃ p m c,e=.returned (.tuple #[.slice p m c,.int .i64 (bgE r n cd ts fs k)])∧w.grownBy w' none∧(bgE r n cd ts fs k≠0→m=0∧p=none)∧∀ R,r=0→1≤k∧k≤5→tabR n cd ts fs=some R→DOwn w' w.heap.size (.slice p m c) ((effL R (pickF R fs) k).map Se.s)
theorem map_next {L:List Se} {k:Nat} (h:k<L.length):(L.take (k+1)).map Se.s=(L.take k).map Se.s++[(L.getD k Se.none).s]:=by
 rw[getD_in h,List.take_add_one,List.getElem?_eq_getElem h,List.map_append]
 rfl
theorem lEffects_any (bv vt vf:Value) (r n:Int) (cd:Int→Hd×List Pt) (ts:List Th) (fs:List Fe) (k:Int) (w:World) (I:LIn w bv vt vf r n cd ts fs):Calls Tryz.prog 39 #[bv,vt,vf,.int .i64 k] w (EffectsPost w r n cd ts fs k):=by
 obtain⟨i0,hi,hz0,hz1,hz2⟩:=info_parts Tryz.linfoD
 obtain⟨pt,ct,rfl⟩:=I.things.form
 obtain⟨pf,cf,rfl⟩:=I.feats.form
 have HBg:=lbegin_any bv _ _ r n cd ts fs k w I
 unfold BgPost tbv at HBg
 have HI:Hid (LIn w bv (.slice pt ts.length ct) (.slice pf fs.length cf) r n cd ts fs):=I
 clear I
 go_enter Tryz.func39,Tryz.ntmps39
 go_wp2_with fail
 refine HBg.mono ?_
 rintro e2 w2 ⟨p1,m1,c1,p2,m2,c2,p3,m3,c3,rfl,g2,h2⟩
 obtain⟨q,hq⟩:∃ q,q=bgE r n cd ts fs k:=⟨_,rfl⟩
 have Hq:Hid (q=bgE r n cd ts fs k):=hq
 rw[←hq]
 obtain⟨V,hV⟩:∃ V,V=w2.alloc (.cells #[.slice p1 m1 c1,.slice p2 m2 c2] 161):=⟨_,rfl⟩
 have HGV:Hid (w.grownBy V none):=by rw[hV];exact grown_push g2 _
 have HBt:Hid (TbB V w2.heap.size (.slice p1 m1 c1) (.slice p2 m2 c2)):=by rw[hV];exact alloc_at _ _ _
 have H2:Hid (∀ R,r=0→1≤k∧k≤5→tabR n cd ts fs=some R→∃ X,rws X=R∧TbO V w.heap.size (.slice p1 m1 c1) (.slice p2 m2 c2) X (pickF R fs)∧(∀ x∈X,1≤x.r.nu∧x.r.nu≤(fs.length:Int))∧SOwn V w.heap.size (.slice p3 m3 c3) (effL R (pickF R fs) k)):=fun R a b c=>by
  obtain⟨X,x1,x2,x3,x4⟩:=h2 R a b c
  have g:=World.grownBy_alloc w2 (.cells #[.slice p1 m1 c1,.slice p2 m2 c2] 161) none
  exact⟨X,x1,by rw[hV];exact x2.grow g,x3,by rw[hV];exact own_grow x4 g⟩
 have Hw2:Hid (w.heap.size≤w2.heap.size):=g2.size
 clear HBg g2 h2 hq
 go_upto_region 2 with fail
 rw[←hV]
 obtain⟨nb,hnb⟩:∃ nb,nb=w2.heap.size:=⟨_,rfl⟩
 rw[←hnb] at HBt Hw2 ⊢
 clear hV hnb
 by_cases hq0:q=0
 ·have e1:(q != 0)=false:=by simpa using hq0
  obtain⟨hr0,hk0,R,hR⟩:=bgE_of (Hq.out.symm.trans hq0)
  obtain⟨X,hX,hT,hnu,hS⟩:=H2.out R hr0 hk0 hR
  have HRL:Hid (rws X=R∧tabR n cd ts fs=some R∧bgE r n cd ts fs k=0):=⟨hX,hR,Hq.out.symm.trans hq0⟩
  obtain⟨L,hL⟩:∃ L,L=effL R (pickF R fs) k:=⟨_,rfl⟩
  have hLl:L.length≤64:=by rw[hL,←hX];exact effL_len (fun x hx=>(hT.parts x hx).2) hT.few
  rw[←hL] at hS
  have HS:Hid (seR.At V (.slice p3 m3 c3) L):=RecT.Own.at hS
  have HL:Hid (L=effL R (pickF R fs) k):=hL
  have Hm3:Hid (m3=L.length):=by obtain⟨a,b,e⟩:=RecT.Own.form hS;injection e
  rw[Hm3.out] at HS
  rw[Hm3.out]
  have Hll:Hid (L.length≤64):=hLl
  clear hq0 hr0 hk0 hR hX hT hnu hS H2 hL hLl
  go_wp2_with fail
  go_loopw [13,30] (fun v i wr=>∃ j:Nat,j≤L.length∧i=.int .i64 (j:Int)∧DOwn wr V.heap.size v ((L.take j).map Se.s)∧V.grownBy wr none) (fun _ i _=>L.length - (intOf i).toNat)
  case atStart=>exact⟨0,Nat.zero_le _,rfl,RecT.Own.nil _ _ _ _,grown_refl _ _⟩
  case round =>
   obtain⟨j,hj,rfl,O,G⟩:=hrel
   obtain⟨U,hU⟩:∃ U,U=wr:=⟨_,rfl⟩
   subst hU
   obtain⟨pq,cq,rfl⟩:=O.form
   have HG:Hid (V.grownBy U none):=G
   by_cases hlt:j<L.length
   ·obtain⟨g,off,cap,e1,RR⟩:=SeAt.there (HS.out.keep G) hlt
    cases e1
    obtain⟨e,he⟩:∃ e,e=L.getD j Se.none:=⟨_,rfl⟩
    rw[←he] at RR
    obtain⟨c0,c1',c2',c3',c4,c5,c6,c7,c8,c9,c10⟩:=se_cells RR
    obtain⟨Y,hY⟩:∃ Y,Y=U.alloc (.cells #[.int .i64 e.s.th,.int .i64 e.s.pl,.int .u8 e.s.wh.wn,.int .u8 e.s.wh.vb,.int .u8 e.s.wh.wm,.int .i64 e.s.wh.ct,.int .u8 e.s.wh.su,.int .u8 e.s.wh.tr,.int .u8 e.s.wh.mr,.string e.s.wh.nm,.int .i64 (e.ro:Int)] 167):=⟨_,rfl⟩
    have HGY:Hid (U.grownBy Y none):=by rw[hY];exact World.grownBy_alloc _ _ none
    have HBe:Hid (SeB Y U.heap.size e):=by rw[hY];exact alloc_at _ _ _
    have hDl:((L.take j).map Se.s).length=j:=by rw[List.length_map,List.length_take,Nat.min_eq_left (Nat.le_of_lt hlt)]
    have HNx:Hid ((L.take (j+1)).map Se.s=(L.take j).map Se.s++[e.s]):=by show _=_;rw[map_next hlt,←he]
    obtain⟨D,hD⟩:∃ D,D=(L.take j).map Se.s:=⟨_,rfl⟩
    rw[←hD] at O HNx hDl ⊢
    have HOY:Hid (Y.ownsRow V.heap.size 40 10 (.slice pq D.length cq) D.length (sdR.cs D)):=O.grow HGY.out
    have HLn:Hid (D.length+1≤maxLen∧(D.length+1)*56≤140737488355328):=len_smallD (by rw[hDl];exact Nat.le_trans (Nat.le_of_lt hlt) (Nat.le_trans Hll.out (by decide)))
    have hlt':(j:Int)<L.length:=Int.ofNat_lt.2 hlt
    have Hlt:Hid (j<L.length):=hlt
    have hwk:=wrap_next (k:=j) (Nat.le_trans (Nat.le_of_lt hlt) (Nat.le_trans Hll.out (by decide)))
    have HM:Hid (L.length - (intOf (.int .i64 ((j:Int)+1))).toNat<L.length - (intOf (.int .i64 (j:Int))).toNat):=meas_k hlt
    clear he RR O G hD hDl hlt hj
    go_upto_region 8 with fail
    rw[←hY]
    obtain⟨nc,hnc⟩:∃ nc,nc=U.heap.size:=⟨_,rfl⟩
    rw[←hnc] at HBe ⊢
    clear hY hnc c0 c1' c2' c3' c4 c5 c6 c7 c8 c9 c10
    obtain⟨o0,o1,o2,o3,o4,o5,o6,o7,o8,o9,o10⟩:=se_box HBe.out
    go_wp2_with (at_builtin;refine lwpl_app (by rfl) (.tmp 34) (.tmp 37) 27 rfl V.heap.size 40 i0 _ 10 56 Tryz.underlying27 hi hz0 hz1 hz2 rfl (by decide) _ D.length (sdR.cs D) rfl (World.ownsRow.alloc HOY.out _) _ 1 (sdc e.s) rfl (sd_src Y e.s) (sdc_ones _) HLn.out.1 HLn.out.2 (by rw[World.size_alloc];exact Nat.le_succ_of_le (grown_trans HG.out HGY.out).size) ?_;intro v8 w8 o8 g8 _;have HO8:Hid _:=o8;have HG8:Hid _:=g8;clear o8 g8)
    have HS8:Hid (DOwn w8 V.heap.size v8 (D++[e.s])∧V.grownBy w8 none):=⟨RecT.more HO8.out rfl,grown_own (grown_push (grown_trans HG.out HGY.out) _) HG8.out (fun y e=>(World.ownsRow.lt HOY.out y e).1)⟩
    clear HO8 HG8
    go_roundw
    case rel=>exact⟨j+1,Hlt.out,by first | rfl | (rw[hwk];rfl) | go_num,by rw[HNx.out];exact HS8.out.1,HS8.out.2⟩
    case measure=>first | exact HM.out | (rw[hwk];exact HM.out)
   ·obtain rfl:j=L.length:=Nat.le_antisymm hj (Nat.le_of_not_lt hlt)
    rw[List.take_length] at O ⊢
    have HF:Hid (DOwn U V.heap.size (.slice pq (L.map Se.s).length cq) (L.map Se.s)):=O
    clear O G hlt hj
    go_wp2_with fail
    go_ret2
    refine⟨_,_,_,by rw[HRL.out.2.2];rfl,grown_trans HGV.out HG.out,fun h=>absurd HRL.out.2.2 h,fun R' _ _ a=>?_⟩
    rw[HRL.out.2.1] at a
    cases a
    have o:=own_big HF.out HGV.out.size
    rw[HL.out] at o
    rw[HL.out]
    exact o
 ·have e1:(q != 0)=true:=by simpa using hq0
  have Hq0:Hid (q≠0):=hq0
  clear hq0
  go_wp2_with fail
  go_ret2
  exact⟨none,0,0,by rw[←Hq.out];rfl,HGV.out,fun _=>⟨rfl,rfl⟩,fun R a b c=>absurd (by rw[Hq.out,a];exact bgE_ok c b) Hq0.out⟩
theorem own_tagged {w w':World} {base e size n b:Nat} {v:Value} {xs:List Value} {cs:Array Value} {t:TypeId} {fr:Nat×Nat} (h:w.ownsRow base e size v n xs) (g:w.grownBy w' (some b)) (hb:w.heap[b]?=some (.cells cs t fr)) (hne:t≠e):w'.ownsRow base e size v n xs:=by
 refine World.ownsRow.kept h g ?_
 cases hv:v.ownBlock with
 | none=>exact Or.inl rfl
 | some y=>exact Or.inr fun q=>own_tag h hb hne (by rw[hv,←q])
theorem TbO.block {w w':World} {base:Nat} {vr vf v:Value} {X:List Rv} {F:List Fe} {b' t size n:Nat} {xs:List Value} (h:TbO w base vr vf X F) (o:w.ownsRow b' t size v n xs) (g:w.grownBy w' v.ownBlock) (h1:t≠248) (h2:t≠38) (h3:t≠65):TbO w' base vr vf X F:=⟨own_other h.rows o h1 g,fun x hx=>⟨own_other (h.parts x hx).1 o h2 g,(h.parts x hx).2⟩,own_other h.fs o h3 g,h.len,h.few⟩
def sliceLen:Value→Nat
 | .slice _ n _=>n
 | _=>0
def allR (R:List Rw) (fs:List Fe) (k:Int):List Fe×List Se:=allL R (effL R (pickF R fs) k).length (pickF R fs) (effL R (pickF R fs) k) []
theorem allL_step {R:List Rw} {n:Nat} {F:List Fe} {L A:List Se} (h:L≠[]):allL R (n+1) F L A=allL R n (applyL R F (L.getD (nextN R F L) Se.none)) (L.eraseIdx (nextN R F L)) (A++[L.getD (nextN R F L) Se.none]):=by
 rw[allL,if_neg h]
def AllPost (w:World) (r n:Int) (cd:Int→Hd×List Pt) (ts:List Th) (fs:List Fe) (k:Int) (e:Ending) (w':World):Prop:=∃ p m c p' m' c',e=.returned (.tuple #[.slice p m c,.slice p' m' c',.int .i64 (bgE r n cd ts fs k)])∧w.grownBy w' none∧(bgE r n cd ts fs k≠0→m=0∧p=none∧m'=0∧p'=none)∧∀ R,r=0→1≤k∧k≤5→tabR n cd ts fs=some R→FOwn w' w.heap.size (.slice p m c) (amgL fs R (allR R fs k).1)∧DOwn w' w.heap.size (.slice p' m' c') ((allR R fs k).2.map Se.s)
open Go.Shelf
def inS (a b:Se):Prop:=a.ro<b.ro∨a.ro=b.ro∧a.s.pl≤b.s.pl
set_option maxHeartbeats 2000000
theorem equalIn_part9 (a0 a1 a2 a3 a4 a5 a6:Int) (s:ByteArray) (b0 b1 b2 b3 b4 b5 b6:Int) (t:ByteArray) (w:World):(Op.equalIn 9999 38 (.agg #[.int .u8 a0,.int .u8 a1,.int .u8 a2,.int .i64 a3,.int .u8 a4,.int .u8 a5,.int .u8 a6,.string s]) (.agg #[.int .u8 b0,.int .u8 b1,.int .u8 b2,.int .i64 b3,.int .u8 b4,.int .u8 b5,.int .u8 b6,.string t])).run Tryz.prog w=.ok (samep (⟨a0,a1,a2,a3,a4,a5,a6,s⟩:Pt) ⟨b0,b1,b2,b3,b4,b5,b6,t⟩) w:=by
 unfold samep
 have hS:Tryz.prog.underlying 38=some (.struct (Tryz.prog.fieldsOf 38)):=by kernel_rfl
 have hp:Tryz.prog.stoodInHeld 38=false:=by kernel_rfl
 have u3:=Tryz.underlying3
 have i3:=Tryz.isAgg3
 have z3:=Tryz.sizeOf3
 have u9:=Tryz.underlying9
 have i9:=Tryz.isAgg9
 have z9:=Tryz.sizeOf9
 have u23:=Tryz.underlying31
 have i23:=Tryz.isAgg31
 have z23:=Tryz.sizeOf31
 have u24:=Tryz.underlying32
 have i24:=Tryz.isAgg32
 have z24:=Tryz.sizeOf32
 have u25:=Tryz.underlying33
 have i25:=Tryz.isAgg33
 have z25:=Tryz.sizeOf33
 have u26:=Tryz.underlying34
 have i26:=Tryz.isAgg34
 have z26:=Tryz.sizeOf34
 have u27:=Tryz.underlying35
 have i27:=Tryz.isAgg35
 have z27:=Tryz.sizeOf35
 have u28:=Tryz.underlying36
 have i28:=Tryz.isAgg36
 have z28:=Tryz.sizeOf36
 rw[show (9999:Nat)=9998+1 from rfl,run_equalIn_agg w 9998 38 _ _ hS hp]
 simp only[Program.fieldsOf,Tryz.underlying38]
 go_simp
 by_cases h0:a0=b0
 case neg=>simp[h0]
 simp only[h0]
 by_cases h1:a1=b1
 case neg=>simp[h1]
 simp only[h1]
 by_cases h2:a2=b2
 case neg=>simp[h2]
 simp only[h2]
 by_cases h3:a3=b3
 case neg=>simp[h3]
 simp only[h3]
 by_cases h4:a4=b4
 case neg=>simp[h4]
 simp only[h4]
 by_cases h5:a5=b5
 case neg=>simp[h5]
 simp only[h5]
 by_cases h6:a6=b6
 case neg=>simp[h6]
 simp only[h6]
 by_cases h7:s=t
 case neg=>simp[h7];exact fun e=>h7 (bytes_inj e)
 simp[h7]
def sames (a b:Sd):Bool:=decide (a.th=b.th) && (decide (a.pl=b.pl) && samep a.wh b.wh)
theorem sames_iff {a b:Sd}:sames a b=true↔a=b:=by
 rcases a with ⟨a1,a2,a3⟩
 rcases b with ⟨b1,b2,b3⟩
 unfold sames
 constructor
 ·intro h
  simp only[Bool.and_eq_true,decide_eq_true_eq] at h
  obtain⟨h1,h2,h3⟩:=h
  rw[h1,h2]
  by_cases q:a3=b3
  ·rw[q]
  ·rw[samep_no q] at h3;cases h3
 ·intro h
  injection h with h1 h2 h3
  simp[h1,h2,samep_yes h3]
theorem equalIn_sd (x y:Sd) (w:World):(Op.equalIn 10000 40 (.agg (sdc x).toArray) (.agg (sdc y).toArray)).run Tryz.prog w=.ok (sames x y) w:=by
 unfold sames
 have hS:Tryz.prog.underlying 40=some (.struct (Tryz.prog.fieldsOf 40)):=by kernel_rfl
 have hp:Tryz.prog.stoodInHeld 40=false:=by kernel_rfl
 have u3:=Tryz.underlying3
 have i3:=Tryz.isAgg3
 have z3:=Tryz.sizeOf3
 have iA:=Tryz.isAgg38
 have zA:=Tryz.sizeOf38
 have h4:=equalIn_part9 x.wh.wn x.wh.vb x.wh.wm x.wh.ct x.wh.su x.wh.tr x.wh.mr x.wh.nm y.wh.wn y.wh.vb y.wh.wm y.wh.ct y.wh.su y.wh.tr y.wh.mr y.wh.nm
 rw[show (10000:Nat)=9999+1 from rfl,run_equalIn_agg w 9999 40 _ _ hS hp]
 simp only[Program.fieldsOf,Tryz.underlying40,sdc]
 go_simp
 by_cases hc:x.th=y.th
 case neg=>simp[hc]
 simp only[hc]
 by_cases ho:x.pl=y.pl
 case neg=>simp[ho]
 simp only[ho,if_true]
 show (if samep x.wh y.wh=false then Result.ok false w else Result.ok true w)=Result.ok (true && (true && samep x.wh y.wh)) w
 cases samep x.wh y.wh <;> rfl
def NextPost (w:World) (r n:Int) (cd:Int→Hd×List Pt) (ts:List Th) (fs:List Fe) (S:List Sd) (e:Ending) (w':World):Prop:=∃ p,e=.returned (.tuple #[.int .i64 p,.int .i64 (lkE r n cd ts fs S)])∧w.grownBy w' none∧(lkE r n cd ts fs S≠0→p=0)∧∀ R L,r=0→tabR n cd ts fs=some R→listF R S []=some L→if L=[] then p=-1 else ∃ L':List Se,L'.Perm L∧L'.Pairwise inS∧p=Lib.idxBy sames S (L'.getD (nextN R (pickF R fs) L') Se.none).s
theorem few_at {ok:Nat→Prop} {w:World} {b:Nat} {es:List Ent} {p:Pl} (B:Book ok w b es p) (c:Int):(atC p es c).2.length≤4:=by
 unfold atC
 split
 ·split
  ·rename_i e he
   exact B.parts e (List.mem_of_getElem? he)
  ·exact Nat.zero_le _
 ·exact Nat.zero_le _
theorem LBook.of {ok:Nat→Prop} {w:World} {b:Nat} {es:List Ent} {p:Pl} (B:Book ok w b es p):LBook w (.pointer (some ⟨b,0,none⟩)) (es.length:Int) (atC p es):=by
 refine⟨fun X g=>?_,fun X t g=>⟨_,tcard_book ok b es p t X (B.keep g)⟩,few_at B⟩
 exact(len_yes b es.length (B.keep g).lies.len p X (B.keep g).lies.flags).mono fun e w' q=>⟨q.1,q.2.1⟩
theorem LIn.of' {ok:Nat→Prop} {w:World} {b:Nat} {es:List Ent} {p:Pl} {vt vf:Value} {ts:List Th} {fs:List Fe} (B:Book ok w b es p) (T:thR.At w vt ts) (F:feR.At w vf fs):LIn w (.pointer (some ⟨b,0,none⟩)) vt vf (refE p ts.length) (es.length:Int) (atC p es) ts fs:=by
 obtain⟨q,c,rfl⟩:=T.form
 refine⟨fun X g=>lrefusal_book ok b es p q ts.length c X (B.keep g),fun h=>⟨LBook.of B,?_⟩,T,F⟩
 unfold refE at h
 split at h
 ·cases h
 ·omega
theorem LIn.of {ok:Nat→Prop} {w:World} {b:Nat} {es:List Ent} {p:Pl} {vt vf:Value} {ts:List Th} {fs:List Fe} (B:Book ok w b es p) (T:thR.At w vt ts) (F:feR.At w vf fs) (_:fs.length≤4096):LIn w (.pointer (some ⟨b,0,none⟩)) vt vf (refE p ts.length) (es.length:Int) (atC p es) ts fs:=LIn.of' B T F
theorem LIn.no {w:World} {v vt vf:Value} {ts:List Th} {fs:List Fe} (B:NoBk w v) (T:thR.At w vt ts) (F:feR.At w vf fs):LIn w v vt vf 1 0 (fun _=>(Hd.none,[])) ts fs:=by
 obtain⟨q,c,rfl⟩:=T.form
 exact⟨fun X g=>lrefusal_no v q ts.length c X (B.keep g),fun h=>absurd h (by decide),T,F⟩
end Go.Proofs.YthfjgpjcepmnmaaGreat
