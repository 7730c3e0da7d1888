import Derived.Test.YthfjgpjcepmnmaaGreatO46
import Derived.Test.YthfjgpjcepmnmaaGreatO31
import Derived.Test.YthfjgpjcepmnmaaGreatO27
import Derived.Test.YthfjgpjcepmnmaaGreatRyA
import Derived.Test.YthfjgpjcepmnmaaGreatO19
import Derived.Test.YthfjgpjcepmnmaaGreatO16
import Derived.Test.YthfjgpjcepmnmaaGreatRyO
namespace Go.Proofs.YthfjgpjcepmnmaaGreat
set_option maxRecDepth 100000
set_option maxHeartbeats 4000000
open Go.RowKit Go.Shelf
theorem F5 (x y:Hp) (w:World):(binOp .eql 43 (.agg (hpa x)) (.agg (hpa y))).run Tryz.prog w=.ok (.bool (decide (x=y))) w:=by
 rw[run_eql_struct,lV];rfl
theorem vY (x:Hp) (w:World):(binOp .eql 43 (.agg #[.int .u8 x.vb,.int .i64 x.on,.int .i64 x.ct,.int .i64 x.ho,.bool x.vn,.bool x.dr]) (.agg #[.int .u8 x.vb,.int .i64 x.on,.int .i64 x.ct,.int .i64 x.ho,.bool x.vn,.bool x.dr])).run Tryz.prog w=.ok (.bool true) w:=(F5 x x w).trans (by simp)
theorem wD (x:Hp) (w:World):(binOp .neq 43 (.agg #[.int .u8 x.vb,.int .i64 x.on,.int .i64 x.ct,.int .i64 x.ho,.bool x.vn,.bool x.dr]) (.agg #[.int .u8 x.vb,.int .i64 x.on,.int .i64 x.ct,.int .i64 x.ho,.bool x.vn,.bool x.dr])).run Tryz.prog w=.ok (.bool false) w:=(tQ x x w).trans (by simp)
theorem BU (w:World):(binOp .eql 43 (.agg #[.int .u8 0,.int .i64 0,.int .i64 0,.int .i64 0,.bool false,.bool false]) (.agg #[.int .u8 0,.int .i64 0,.int .i64 0,.int .i64 0,.bool false,.bool false])).run Tryz.prog w=.ok (.bool true) w:=vY Hp.none w
theorem Ch (w:World):(binOp .neq 43 (.agg #[.int .u8 0,.int .i64 0,.int .i64 0,.int .i64 0,.bool false,.bool false]) (.agg #[.int .u8 0,.int .i64 0,.int .i64 0,.int .i64 0,.bool false,.bool false])).run Tryz.prog w=.ok (.bool false) w:=wD Hp.none w
theorem vV (a c:Sd) (w:World):(binOp .eql 40 (.agg #[.int .i64 a.th,.int .i64 a.pl,.int .u8 a.wh.wn,.int .u8 a.wh.vb,.int .u8 a.wh.wm,.int .i64 a.wh.ct,.int .u8 a.wh.su,.int .u8 a.wh.tr,.int .u8 a.wh.mr,.string a.wh.nm]) (.agg #[.int .i64 c.th,.int .i64 c.pl,.int .u8 c.wh.wn,.int .u8 c.wh.vb,.int .u8 c.wh.wm,.int .i64 c.wh.ct,.int .u8 c.wh.su,.int .u8 c.wh.tr,.int .u8 c.wh.mr,.string c.wh.nm])).run Tryz.prog w=.ok (.bool (dQ a c)) w:=zi.1 a c w
theorem Dv (s:Sd) (w:World):(binOp .neq 40 (.agg #[.int .i64 s.th,.int .i64 s.pl,.int .u8 s.wh.wn,.int .u8 s.wh.vb,.int .u8 s.wh.wm,.int .i64 s.wh.ct,.int .u8 s.wh.su,.int .u8 s.wh.tr,.int .u8 s.wh.mr,.string s.wh.nm]) (.agg #[.int .i64 s.th,.int .i64 s.pl,.int .u8 s.wh.wn,.int .u8 s.wh.vb,.int .u8 s.wh.wm,.int .i64 s.wh.ct,.int .u8 s.wh.su,.int .u8 s.wh.tr,.int .u8 s.wh.mr,.string s.wh.nm])).run Tryz.prog w=.ok (.bool false) w:=vM s w
theorem pz (op:BinOp) (x y:Operand) (xs ys:Array Value) (w:World):(eqGuard op 40 x y (.agg xs) (.agg ys)).run Tryz.prog w=.ok () w:=run_eqGuard_agg w op 40 x y xs ys (by kernel_rfl)
theorem si {a b:Sd} (h:¬a=b):dQ a b=false:=by
 cases e:dQ a b with
 | false=>rfl
 | true=>exact absurd (eO.1 e) h
theorem zx (a:Hp) (va vb:Value) (l:List Sd) (g li:Int) (w:World) (A:sdR.At w va l) (B:sdR.At w vb l) (hs:l.length≤4096):Calls Tryz.prog 34 #[dL a va g li,dL a vb g li] w fun e w'=>e=.returned (.bool true)∧w.grownBy w' none:=by
 obtain⟨pa,ca,rfl⟩:=A.form
 obtain⟨pb,cb,rfl⟩:=B.form
 obtain⟨W,hW⟩:∃ W,W=(w.alloc (.cells #[.int .u8 a.vb,.int .i64 a.on,.int .i64 a.ct,.int .i64 a.ho,.bool a.vn,.bool a.dr,.slice pa l.length ca,.int .i64 g,.int .i64 li] 45)).alloc (.cells #[.int .u8 a.vb,.int .i64 a.on,.int .i64 a.ct,.int .i64 a.ho,.bool a.vn,.bool a.dr,.slice pb l.length cb,.int .i64 g,.int .i64 li] 45):=⟨_,rfl⟩
 have HG:Hid (w.grownBy W none):=by rw[hW];exact ak (World.grownBy_alloc _ _ none) _
 have HA:Hid (SwB W w.heap.size a (.slice pa l.length ca) g li∧SwB W (w.heap.size+1) a (.slice pb l.length cb) g li):=⟨by rw[hW];exact oN _ _ _ _ _,by rw[hW];exact aP _ _ _ _⟩
 have C:=wV _ _ l W (A.keep HG.out) (B.keep HG.out) hs
 have hq:=vY a
 have hgq:=nl
 have eg:(g == g)=true:=beq_self_eq_true g
 have el:(li == li)=true:=beq_self_eq_true li
 unfold dL
 clear A B hs
 go_enter Tryz.func34,Tryz.ntmps34
 go_upto_region 1 with fail
 rw[←hW]
 obtain⟨n0,h0⟩:∃ n0,n0=w.heap.size:=⟨_,rfl⟩
 obtain⟨n1,h1⟩:∃ n1,n1=n0+1:=⟨_,rfl⟩
 simp only[←h0,←h1] at HA ⊢
 clear hW h0 h1
 obtain⟨x0,x1,x2,x3,x4,x5,x6,x7,x8⟩:=bz HA.out.1
 obtain⟨y0,y1,y2,y3,y4,y5,y6,y7,y8⟩:=bz HA.out.2
 go_wp2_with fail
 refine C.mono ?_
 rintro e1 w1 ⟨rfl,g1⟩
 have HG1:Hid (W.grownBy w1 none):=g1
 clear C g1 hq x0 x1 x2 x3 x4 x5 x6 x7 x8 y0 y1 y2 y3 y4 y5 y6 y7 y8
 obtain⟨x0,x1,x2,x3,x4,x5,x6,x7,x8⟩:=bz (ae HG1.out HA.out.1 (by simp))
 obtain⟨y0,y1,y2,y3,y4,y5,y6,y7,y8⟩:=bz (ae HG1.out HA.out.2 (by simp))
 go_wp2_with fail
 go_ret
 exact⟨rfl,aa HG.out HG1.out⟩
def pfR (p:Pl) (gs:List Ent) (t:Th):Fe:=ptF (atC p gs t.card).1 (atX p gs t.card) t
def ptR (p:Pl) (gs:List Ent) (t:Th):Int:=ptE (atX p gs t.card) t
def RgF (f:Fe):Prop:=(0≤f.tr∧f.tr<65536)∧InI f.po∧InI f.he
def RgL (F:List Fe):Prop:=∀ f∈F,RgF f
def RgC (cd:Int→Hd×List Pt):Prop:=∀ c,((0≤(cd c).1.tr∧(cd c).1.tr<65536)∧InI (cd c).1.po∧InI (cd c).1.he)∧∀ q∈(cd c).2,InI q.ct
theorem oJ:InI 0:=by unfold InI;omega
theorem RgF.zero:RgF Fe.none:=⟨by unfold Fe.none;decide,oJ,oJ⟩
theorem RgL.tr {F:List Fe} (h:RgL F):TrI F:=fun f hf=>(h f hf).1
theorem RgL.get {F:List Fe} (h:RgL F) (i:Nat):RgF (F.getD i Fe.none):=by
 rw[List.getD_eq_getElem?_getD]
 cases e:F[i]? with
 | none=>exact RgF.zero
 | some f=>exact h f (List.mem_of_getElem? e)
theorem Fv (a b:Int):0≤bits .or .u16 a b∧bits .or .u16 a b<65536:=by
 rw[vy]
 have:=(bv a ||| bv b).isLt
 omega
theorem D9 (a b:Int):0≤bits .andNot .u16 a b∧bits .andNot .u16 a b<65536:=by
 rw[iN]
 have:=(bv a &&& ~~~bv b).isLt
 omega
theorem CQ {f:Fe} {wh:Pt} {ho:Int} (hf:RgF f) (hc:InI wh.ct):RgF (gR f wh ho):=by
 obtain⟨h1,h2,h3⟩:=hf
 unfold gR
 split
 ·exact⟨h1,h2,h3⟩
 ·split
  ·exact⟨h1,h2,h3⟩
  ·split
   ·exact⟨Fv _ _,h2,h3⟩
   ·split
    ·exact⟨D9 _ _,h2,h3⟩
    ·split
     ·exact⟨h1,hc,hc⟩
     ·split
      ·exact⟨h1,ju _,ju _⟩
      ·exact⟨h1,h2,h3⟩
theorem AI {R:List Rw} {F:List Fe} {e:Se} (h:RgL F) (hc:InI e.s.wh.ct):RgL (bp R F e):=fun f hf=>by
 unfold bp at hf
 obtain⟨i,_,rfl⟩:=List.mem_map.1 hf
 unfold iZ
 split
 ·exact CQ (h.get i) hc
 ·exact h.get i
theorem BP {R:List Rw}:∀ (n:Nat) (F:List Fe) (L A:List Se),RgL F→(∀ e∈L,InI e.s.wh.ct)→RgL (tt R n F L A).1
 | 0,F,L,A,h,_=>h
 | n+1,F,L,A,h,q=>by
  unfold tt
  split
  ·exact h
  ·refine BP n _ _ _ (AI h ?_) fun e he=>q e (List.mem_of_mem_eraseIdx he)
   rw[List.getD_eq_getElem?_getD]
   cases e:L[dP R F L]? with
   | none=>exact oJ
   | some x=>exact q x (List.mem_of_getElem? e)
theorem AZ {fs:List Fe} {R:List Rw} {F:List Fe} (h:RgL fs) (hF:RgL F):∀ m,RgL (qO fs R F m)
 | 0=>h
 | m+1=>fun f hf=>by
  rw[jZ] at hf
  rcases List.mem_or_eq_of_mem_set hf with q | q
  ·exact AZ h hF m f q
  ·rw[q];exact hF.get m
theorem DM {fs:List Fe} {R:List Rw} (h:RgL fs):RgL (au R fs):=fun f hf=>by
 unfold au at hf
 obtain⟨r,_,rfl⟩:=List.mem_map.1 hf
 exact h.get _
theorem Cp {n:Int} {cd:Int→Hd×List Pt} {ts:List Th} {fs:List Fe} {R:List Rw} (hT:Tab n cd ts fs R) (hc:RgC cd) (h:RgL fs) (k:Int):RgL (uj R fs k):=by
 unfold uj mc
 refine AZ h (BP _ _ _ _ (DM h) fun e he=>?_) _
 obtain⟨h1,_,j,h2,_,h3,_⟩:=j9 he
 obtain⟨i,t,ht,_,e1⟩:=hT.row (List.getElem_mem h1)
 rw[h3,aw h1,e1,List.getD_eq_getElem?_getD]
 cases e2:(cd t.card).2[j]? with
 | none=>exact oJ
 | some q=>exact(hc t.card).2 q (List.mem_of_getElem? e2)
theorem Ad {n:Int} {cd:Int→Hd×List Pt} {ts:List Th} {fs:List Fe} {R:List Rw} (hT:Tab n cd ts fs R) (hc:RgC cd) (h:RgL fs):∀ k,RgL (clF R fs k)
 | 0=>h
 | k+1=>Cp (hT.cl k) hc (Ad hT hc h k) _
theorem RgC.of {p:Pl} {gs:List Ent} (h:∀ e∈gs,(e.h.with e.ps).wf):RgC (atC p gs):=fun c=>by
 have z:((0≤(Hd.none,([]:List Pt)).1.tr∧(Hd.none,([]:List Pt)).1.tr<65536)∧InI (Hd.none,([]:List Pt)).1.po∧InI (Hd.none,([]:List Pt)).1.he)∧∀ q∈(Hd.none,([]:List Pt)).2,InI q.ct:=⟨⟨by unfold Hd.none;decide,oJ,oJ⟩,fun q hq=>by cases hq⟩
 unfold atC
 split
 ·split
  ·rename_i e he
   have q:=h e (List.mem_of_getElem? he)
   have h1:0≤e.h.tr∧e.h.tr≤65535:=q.tr
   exact⟨⟨⟨h1.1,by show e.h.tr<65536;omega⟩,q.po,q.he⟩,fun x hx=>(q.ps x hx).ct⟩
  ·exact z
 ·exact z
theorem FP {p:Pl} {gs:List Ent} (h:RgC (atC p gs)) (t:Th):RgF (pfR p gs t):=by
 unfold pfR ptF
 split
 ·exact(h t.card).1
 ·exact RgF.zero
theorem ui {p:Pl} {gs:List Ent} (h:RgC (atC p gs)) (ts:List Th):RgL (dx (pfR p gs) ts):=fun f hf=>by
 unfold dx at hf
 obtain⟨t,_,rfl⟩:=List.mem_map.1 hf
 unfold tS
 split
 ·exact FP h t
 ·exact RgF.zero
theorem CJ {p:Pl} {gs:List Ent} {ts:List Th} {fs:List Fe} {t:Th} (hs:p.shut=true) (ht:t∈ts) (h:¬ptR p gs t=0):bd (gs.length:Int) (atC p gs) ts fs=none:=by
 cases e:bd (gs.length:Int) (atC p gs) ts fs with
 | none=>rfl
 | some R =>
  have hT:=Tab.of e
  obtain⟨j,hj⟩:=List.getElem?_of_mem ht
  have hl:j<fs.length:=by rw[←hT.len];exact(List.getElem?_eq_some_iff.1 hj).1
  have hm:=(hT.mays hj (List.getElem?_eq_getElem hl)).1
  refine absurd ?_ h
  unfold bH fm at hm
  simp only[Bool.and_eq_true,Bool.or_eq_true,decide_eq_true_eq] at hm
  unfold ptR ptE
  rw[if_pos ((qg hs).2 ⟨hm.1.1.1.1,hm.1.1.1.2⟩)]
  unfold oo
  rw[if_pos]
  simp only[Bool.or_eq_true,decide_eq_true_eq]
  exact hm.1.1.2
theorem lQ (ok:Nat→Prop) (r:Nat) (vr:Value) (p:Pl) (gs:List Ent) (v:Value) (us:List Th) (w:World) (B:RD ok w r vr p gs) (A:thR.At w v us) (hl:us.length≤2048):Calls Tryz.prog 182 #[.pointer (some ⟨r,0,none⟩),v] w fun e w'=>∃ v' b,e=.returned (.tuple #[v',.bool b])∧w.grownBy w' none∧((b=true∧bO w' w.heap.size v' (dx (pfR p gs) us)∧∀ t∈us,ptR p gs t=0)∨(b=false∧v'=.slice none 0 0∧∃ t∈us,¬ptR p gs t=0)):=by
 obtain⟨i0,hi,hz0,hz1,hz2⟩:=info_parts Tryz.linfoF
 obtain⟨pt,c,rfl⟩:=A.form
 obtain⟨h,hh⟩:∃ h:Nat→Fe,h=fun i=>tS (pfR p gs) (us.getD i Th.none):=⟨_,rfl⟩
 have Hh:Hid (h=fun i=>tS (pfR p gs) (us.getD i Th.none)):=hh
 have HA:Hid (thR.At w (.slice pt us.length c) us):=A
 have HP:Hid (∀ X t,w.grownBy X none→Calls Tryz.prog 249 #[.pointer (some ⟨r,0,none⟩),thv t] X fun e w'=>e=.returned (.tuple #[fev (pfR p gs t),.int .i64 (ptR p gs t)])∧X.grownBy w' none):=fun X t g=>sU _ t _ _ _ X fun Y q=>ug ok r vr p gs t Y (B.keep (aa g q))
 have Hl:Hid (us.length≤2048):=hl
 have Hbb:Hid (i0.bytes*us.length≤281474976710656):=by show i0.bytes*us.length≤_;rw[hz2];omega
 have Hbm:Hid (us.length≤maxLen):=by show us.length≤maxLen;unfold maxLen;omega
 clear A B hl hh
 go_enter Tryz.func182,Tryz.ntmps182
 go_wp2_with (at_make;refine wpList_make_full _ rfl _ _ 24 rfl w.heap.size 65 i0 _ 5 Tryz.underlying24 hi hz0 hz1 .i64 .i64 _ _ us.length rfl rfl rfl rfl Hbb.out Hbm.out (Nat.le_refl _) ?_;intro V o1 gv;have HF0:Hid (bO V w.heap.size (.slice (some ⟨w.heap.size,0,none⟩) us.length us.length) (List.replicate us.length Fe.none)):=sX o1;have HGV:Hid (w.grownBy V none):=gv;clear o1 gv)
 obtain⟨g0,h0⟩:∃ g0,g0=w.heap.size:=⟨_,rfl⟩
 have Hg0:Hid (g0=w.heap.size):=h0
 simp only[←h0] at HF0 ⊢
 clear h0
 go_loopw [7,8,9] (fun i _ _ wr=>∃ k:Nat,k≤us.length∧i=.int .i64 (k:Int)∧bO wr g0 (.slice (some ⟨g0,0,none⟩) us.length us.length) (dg h us.length k)∧w.grownBy wr none∧Hid (∀ t∈us.take k,ptR p gs t=0)) (fun i _ _ _=>us.length - (intOf i).toNat)
 case atStart=>exact⟨0,Nat.zero_le _,rfl,by rw[lG];exact HF0.out,HGV.out,fun t ht=>by simp at ht⟩
 case round =>
  obtain⟨k,hk,rfl,O,G,HE⟩:=hrel
  obtain⟨U,hU⟩:∃ U,U=wr:=⟨_,rfl⟩
  subst hU
  have HO:Hid (bO U g0 (.slice (some ⟨g0,0,none⟩) us.length us.length) (dg h us.length k)):=O
  have HG:Hid (w.grownBy U none):=G
  by_cases hlt:k<us.length
  ·obtain⟨g,off,cap,e1,R⟩:=bG (HA.out.keep G) hlt
   cases e1
   obtain⟨t,ht⟩:∃ t,t=us[k]:=⟨_,rfl⟩
   rw[←ht] at R
   have HT:Hid (h k=tS (pfR p gs) t∧t∈us∧us.take (k+1)=us.take k++[t]):=⟨by rw[Hh.out,ht];show tS (pfR p gs) (us.getD k Th.none)=_;rw[aw hlt],by rw[ht];exact List.getElem_mem hlt,by rw[List.take_add_one,List.getElem?_eq_getElem hlt,ht];rfl⟩
   obtain⟨c0,c1,c2,c3,c4,c5,c6,c7,c8,c9,c10⟩:=bc R
   have C:=HP.out U t HG.out
   obtain⟨f,hf⟩:∃ f,f=pfR p gs t:=⟨_,rfl⟩
   obtain⟨x,hx⟩:∃ x,x=ptR p gs t:=⟨_,rfl⟩
   have HX:Hid (f=pfR p gs t∧x=ptR p gs t):=⟨hf,hx⟩
   rw[←hf,←hx] at C
   unfold thv fev at C
   have HR:Hid (U.rangeAt g (off+k*11) (thc t)):=R
   have hlt':(k:Int)<us.length:=Int.ofNat_lt.2 hlt
   have hwk:=aK (k:=k) (Nat.le_trans (Nat.le_of_lt hlt) (Nat.le_trans Hl.out (by decide)))
   have Hlt:Hid (k<us.length):=hlt
   have HM:Hid (us.length - (intOf (.int .i64 ((k:Int)+1))).toNat<us.length - (intOf (.int .i64 (k:Int))).toNat):=bF hlt
   clear O G R ht hf hx hlt hk
   go_wp2_with fail
   refine C.mono ?_
   rintro e2 w2 ⟨rfl,g2⟩
   obtain⟨Y,hY⟩:∃ Y,Y=w2.alloc (.cells #[.int .i64 f.ho,.int .u8 f.su,.int .u16 f.tr,.int .i64 f.po,.int .i64 f.he] 65):=⟨_,rfl⟩
   have HY:Hid (FeB Y w2.heap.size f∧bO Y g0 (.slice (some ⟨g0,0,none⟩) us.length us.length) (dg h us.length k)∧w.grownBy Y none∧Y.rangeAt g (off+k*11) (thc t)∧¬w2.heap.size=g0):=by
    have q:U.grownBy Y none:=by rw[hY];exact ak g2 _
    exact⟨by rw[hY];exact ai _ _ _,aA HO.out q,aa HG.out q,bn HR.out q,fun e=>by have:=(ay.Own.lt HO.out g0 rfl).2;have:=g2.size;omega⟩
   clear C g2 c0 c1 c2 c3 c4 c5 c6 c7 c8 c9 c10 HO HG HR
   go_upto_region 6 with fail
   rw[←hY]
   obtain⟨nb,hnb⟩:∃ nb,nb=w2.heap.size:=⟨_,rfl⟩
   rw[←hnb] at HY ⊢
   clear hY hnb
   by_cases hx:x=0
   ·have ex:(x != 0)=false:=by rw[hx];rfl
    have HN:Hid (∀ u∈us.take (k+1),ptR p gs u=0):=fun u hu=>by
     rw[HT.out.2.2,List.mem_append,List.mem_singleton] at hu
     rcases hu with q | q
     ·exact HE.out u q
     ·rw[q,←HX.out.2];exact hx
    clear hx
    obtain⟨c0,c1,c2,c3,c4,c5,c6,c7,c8,c9,c10⟩:=bc HY.out.2.2.2.1
    by_cases hp:t.place=4
    ·have hpb:(t.place == 4)=true:=by rw[hp];rfl
     have HF:Hid (h k=f):=HT.out.1.trans ((if_pos hp).trans HX.out.1.symm)
     clear hp
     obtain⟨b0,b1,b2,b3,b4⟩:=jV HY.out.1
     obtain⟨u0,u1,u2,u3,u4,y0,y1,y2,y3,y4,q0,q1,q2,q3,q4⟩:=vh (jJ HY.out.2.1 (iU h _ k) Hlt.out)
     obtain⟨Z,hZ⟩:∃ Z,Z=((((Y.setCell ⟨g0,k*5,none⟩ (.int .i64 f.ho)).setCell ⟨g0,k*5+1,none⟩ (.int .u8 f.su)).setCell ⟨g0,k*5+2,none⟩ (.int .u16 f.tr)).setCell ⟨g0,k*5+3,none⟩ (.int .i64 f.po)).setCell ⟨g0,k*5+4,none⟩ (.int .i64 f.he):=⟨_,rfl⟩
     have q:=mq HY.out.2.1 (iU h _ k) Hlt.out f
     rw[show Y.setCells g0 (k*5) (fec f)=Z from by rw[hZ];rfl] at q
     have HQ:Hid (bO Z g0 (.slice (some ⟨g0,0,none⟩) us.length us.length) (dg h us.length (k+1))∧w.grownBy Z none):=⟨by rw[←oD HF.out];exact q.1,am HY.out.2.2.1 q.2 (fun y e=>by cases e;rw[Hg0.out];exact Nat.le_refl _)⟩
     clear q
     go_upto_region 9 with fail
     clear c0 c1 c2 c3 c4 c5 c6 c7 c8 c9 c10 hpb ex
     go_upto_region 4 with fail
     rw[←hZ]
     clear hZ y0 y1 y2 y3 y4 q0 q1 q2 q3 q4 b0 b1 b2 b3 b4
     go_wp2_with fail
     go_roundw
     case rel=>exact⟨k+1,Hlt.out,by first | rfl | (rw[hwk];rfl) | go_num,HQ.out.1,HQ.out.2,HN⟩
     case measure=>first | exact HM.out | (rw[hwk];exact HM.out)
    ·have hpb:(t.place == 4)=false:=by simpa using hp
     have HF:Hid (h k=Fe.none):=HT.out.1.trans (if_neg hp)
     have HQ:Hid (bO Y g0 (.slice (some ⟨g0,0,none⟩) us.length us.length) (dg h us.length (k+1))∧w.grownBy Y none):=⟨by rw[mR HF.out];exact HY.out.2.1,HY.out.2.2.1⟩
     clear hp HF
     go_wp2_with fail
     go_roundw
     case rel=>exact⟨k+1,Hlt.out,by first | rfl | (rw[hwk];rfl) | go_num,HQ.out.1,HQ.out.2,HN⟩
     case measure=>first | exact HM.out | (rw[hwk];exact HM.out)
   ·have ex:(x != 0)=true:=by simpa using hx
    have HN:Hid (∃ u∈us,¬ptR p gs u=0):=⟨t,HT.out.2.1,by rw[←HX.out.2];exact hx⟩
    clear hx
    go_wp2_with fail
    go_ret2
    exact⟨_,_,rfl,HY.out.2.2.1,Or.inr ⟨rfl,rfl,HN.out⟩⟩
  ·obtain rfl:k=us.length:=Nat.le_antisymm hk (Nat.le_of_not_lt hlt)
   have HF:Hid (bO U w.heap.size (.slice (some ⟨g0,0,none⟩) us.length us.length) (dx (pfR p gs) us)∧w.grownBy U none∧∀ t∈us,ptR p gs t=0):=⟨by rw[←zW,←Hh.out,←Hg0.out];exact O,G,by have:=HE.out;rwa [List.take_length] at this⟩
   clear O G hk hlt
   go_wp2_with fail
   go_ret2
   exact⟨_,_,rfl,HF.out.2.1,Or.inl ⟨rfl,HF.out.1,HF.out.2.2⟩⟩
theorem wH {r n:Int} {cd:Int→Hd×List Pt} {ts:List Th} {F:List Fe} {k:Int} (h:lkE r n cd ts F []=0) (hk:¬(1≤k∧k≤5)):bgE r n cd ts F k=2:=by
 unfold bgE
 rw[if_pos h,if_neg hk]
theorem Fm {r n:Int} {cd:Int→Hd×List Pt} {ts:List Th} {F:List Fe} {k:Int} (h:lkE r n cd ts F []=0) (hk:1≤k∧k≤5):bgE r n cd ts F k=0:=by
 unfold bgE
 rw[if_pos h,if_pos hk]
theorem Di {r n:Int} {cd:Int→Hd×List Pt} {ts:List Th} {F:List Fe} {k q:Int} (h:q=lkE r n cd ts F []) (h0:q≠0):bgE r n cd ts F k=q:=by
 unfold bgE
 rw[←h,if_neg h0]
theorem jv (ok:Nat→Prop) (r:Nat) (v:Value) (p:Pl) (gs:List Ent) (vt vf:Value) (ts:List Th) (F:List Fe) (k:Int) (w:World) (B:RD ok w r v p gs) (A:thR.At w vt ts) (AF:feR.At w vf F) (hr:TrI F):Calls Tryz.prog 40 #[.pointer (some ⟨r,0,none⟩),vt,vf,.int .i64 k] w (fh w (bT p ts.length) (gs.length:Int) (atC p gs) ts F k):=by
 obtain⟨pt,ct,rfl⟩:=A.form
 obtain⟨pf,cf,rfl⟩:=AF.form
 have C1:=uF ok r v p gs _ _ ts F w B A AF hr
 have HV:Hid (RD ok w r v p gs∧thR.At w (.slice pt ts.length ct) ts∧feR.At w (.slice pf F.length cf) F):=⟨B,A,AF⟩
 obtain⟨q,hq⟩:∃ q,q=lkE (bT p ts.length) (gs.length:Int) (atC p gs) ts F []:=⟨_,rfl⟩
 have Hq:Hid (q=lkE (bT p ts.length) (gs.length:Int) (atC p gs) ts F []):=hq
 rw[←hq] at C1
 clear B A AF hr hq
 go_enter Tryz.func40,Tryz.ntmps40
 go_wp2_with fail
 refine C1.mono ?_
 rintro e1 w1 ⟨rfl,g1⟩
 have H1:Hid (w.grownBy w1 none∧RD ok w1 r v p gs∧thR.At w1 (.slice pt ts.length ct) ts∧feR.At w1 (.slice pf F.length cf) F):=⟨g1,HV.out.1.keep g1,HV.out.2.1.keep g1,HV.out.2.2.keep g1⟩
 clear C1 g1 HV
 by_cases h0:q=0
 ·have HZ:Hid (lkE (bT p ts.length) (gs.length:Int) (atC p gs) ts F []=0):=by show _=_;rw[←Hq.out,h0]
  obtain⟨r0,R,hR⟩:=pj (Hq.out.symm.trans h0)
  have hlen:ts.length≤2048:=Nat.le_of_not_lt fun z=>by
   unfold bT at r0
   rw[if_pos z] at r0
   cases r0
  have HT:Hid (bT p ts.length=0∧Tab (gs.length:Int) (atC p gs) ts F R∧ts.length≤2048):=⟨r0,Tab.of hR,hlen⟩
  have e0:(q != 0)=false:=by rw[h0];rfl
  clear h0 r0 hR hlen
  by_cases a1:k<1
  ·have d1:decide (k<1)=true:=decide_eq_true a1
   have HN:Hid (bgE (bT p ts.length) (gs.length:Int) (atC p gs) ts F k=2∧¬(1≤k∧k≤5)):=⟨wH HZ.out (by omega),by omega⟩
   clear a1
   go_wp2_with fail
   go_ret2
   exact⟨none,0,0,by rw[HN.out.1] <;> rfl,H1.out.1,fun _=>⟨rfl,rfl⟩,fun R' _ hk=>absurd hk HN.out.2⟩
  ·have d1:decide (k<1)=false:=decide_eq_false a1
   by_cases a2:5<k
   ·have d2:decide (5<k)=true:=decide_eq_true a2
    have HN:Hid (bgE (bT p ts.length) (gs.length:Int) (atC p gs) ts F k=2∧¬(1≤k∧k≤5)):=⟨wH HZ.out (by omega),by omega⟩
    clear a1 a2
    go_wp2_with fail
    go_ret2
    exact⟨none,0,0,by rw[HN.out.1] <;> rfl,H1.out.1,fun _=>⟨rfl,rfl⟩,fun R' _ hk=>absurd hk HN.out.2⟩
   ·have d2:decide (5<k)=false:=decide_eq_false a2
    have HN:Hid (bgE (bT p ts.length) (gs.length:Int) (atC p gs) ts F k=0):=Fm HZ.out (by omega)
    have C2:=pd ok r v p gs _ _ ts F R k w1 H1.out.2.1 H1.out.2.2.1 H1.out.2.2.2 HT.out.2.1 HT.out.2.2
    clear a1 a2
    go_wp2_with fail
    refine C2.mono ?_
    rintro e2 w2 ⟨v2,rfl,o2,g2⟩
    obtain⟨p2,c2,ev⟩:=ay.Own.form o2
    subst ev
    have H2:Hid (bi w2 w.heap.size (.slice p2 ((dc R (au R F) k).map Se.s).length c2) ((dc R (au R F) k).map Se.s)∧w.grownBy w2 none):=⟨aY o2 H1.out.1.size,aa H1.out.1 g2⟩
    clear C2 o2 g2
    go_wp2_with fail
    go_ret2
    exact⟨p2,_,c2,by rw[HN.out] <;> rfl,H2.out.2,fun z=>absurd HN.out z,fun R' _ _ hR'=>by
     rw[HT.out.2.1.tab] at hR'
     cases hR'
     have h9:=H2.out.1
     rw[List.length_map] at h9
     exact h9⟩
 ·have e0:(q != 0)=true:=by simpa using h0
  have HN:Hid (bgE (bT p ts.length) (gs.length:Int) (atC p gs) ts F k=q):=Di Hq.out h0
  have H0:Hid (q≠0):=h0
  clear h0
  go_wp2_with fail
  go_ret2
  exact⟨none,0,0,by rw[HN.out] <;> rfl,H1.out.1,fun _=>⟨rfl,rfl⟩,fun R' r0 _ hR'=>by
   have h9:=Hq.out
   rw[r0,jB hR'] at h9
   exact absurd h9 H0.out⟩
end Go.Proofs.YthfjgpjcepmnmaaGreat
