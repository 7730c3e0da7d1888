/-
  Swap's laws,plainly: a table's features are in range,and how many they are.
  LayerStamps: other stamps in the same order,other Hurt,Done,Fresh and Marks.
  The kit's lists of things,features: written over.
  SwapLists: the walk.
-/
import Derived.Test.YthfjgpjcepmnmaaGreatZ46
import Derived.Test.YthfjgpjcepmnmaaGreatZ50
import Derived.Test.YthfjgpjcepmnmaaGreatZKtA
import Derived.Test.YthfjgpjcepmnmaaGreatZ39
import Derived.Test.YthfjgpjcepmnmaaGreatZ31
import Derived.Test.YthfjgpjcepmnmaaGreatZ30
import Derived.Test.YthfjgpjcepmnmaaGreatZ51
import Derived.Deep.MidRow
import Derived.Test.YthfjgpjcepmnmaaGreatZ0
import Derived.Test.YthfjgpjcepmnmaaGreatZ49
namespace Go.Proofs.YthfjgpjcepmnmaaGreat
set_option maxRecDepth 100000
set_option maxHeartbeats 4000000
open Go.RowKit Go.Shelf
theorem mk_tr {p:Pl}:∀ {ts:List Th} {F:List Fe},TrI F→TrI (mkdL (mfR p) ts F)
 | [],_,_=>fun f hf=>by simp[mkdL] at hf
 | t :: ts,[],_=>fun f hf=>by simp[mkdL] at hf
 | t :: ts,x :: F,h=>fun f hf=>by
  unfold mkdL at hf
  rw[List.zipWith_cons_cons] at hf
  rcases List.mem_cons.1 hf with rfl | hf
  ·have z:0≤Fe.none.tr∧Fe.none.tr<65536:=by unfold Fe.none;decide
   unfold mkdT
   split
   ·unfold mfR
    split
    ·exact h x List.mem_cons_self
    ·exact z
   ·exact z
  ·exact mk_tr (p:=p) (ts:=ts) (F:=F) (fun f hf=>h f (List.mem_cons_of_mem _ hf)) f hf
theorem mk_len {mf:Fe→Th→Fe} {ts:List Th} {F:List Fe}:(mkdL mf ts F).length≤ts.length:=by
 unfold mkdL
 rw[List.length_zipWith]
 omega
theorem ftR_tr {ow:Bool} {p:Pl} {gs:List Ent} {ts:List Th} {fs:List Fe} (h:TrI fs) (hc:RgC (atC p gs)):TrI (ftR ow p gs ts fs):=by
 unfold ftR
 split
 ·unfold vBR vBh
  split
  ·split
   ·rename_i R hT
    rw[bhL_6]
    exact mk_tr (cl_rg (Tab.of hT) hc (prt_rg hc ts) _).tr
   ·exact fun f hf=>by cases hf
  ·exact fun f hf=>by cases hf
 ·exact h
theorem ftR_len {ow:Bool} {p:Pl} {gs:List Ent} {ts:List Th} {fs:List Fe}:(ftR ow p gs ts fs).length≤ts.length∨ftR ow p gs ts fs=fs:=by
 unfold ftR
 split
 ·left
  unfold vBR vBh
  split
  ·split
   ·rw[bhL_6]
    exact mk_len
   ·exact Nat.zero_le _
  ·exact Nat.zero_le _
 ·exact Or.inr rfl
theorem ftR_big {ow:Bool} {p:Pl} {gs:List Ent} {ts:List Th} {fs:List Fe} (h1:(ts.length+2)*88≤140737488355328) (h2:(fs.length+2)*32≤140737488355328):((ftR ow p gs ts fs).length+2)*32≤140737488355328:=by
 rcases ftR_len (ow:=ow) (p:=p) (gs:=gs) (ts:=ts) (fs:=fs) with h | h
 ·omega
 ·rw[h];exact h2
theorem swT_same {p:Pl} {es gs:List Ent} {ts:List Th} {F:List Fe} (h:es.map hp=gs.map hp):swT (refE p ts.length) (es.length:Int) (atC p es) ts F=swT (refE p ts.length) (gs.length:Int) (atC p gs) ts F∧bgE (refE p ts.length) (es.length:Int) (atC p es) ts F 1=bgE (refE p ts.length) (gs.length:Int) (atC p gs) ts F 1:=by
 have e1:atC p es=atC p gs:=funext fun n=>hp_atC h p n
 rw[hp_len h,e1]
 exact⟨rfl,rfl⟩
theorem lst_of {w:World} {base:Nat} {v:Value} {l:List Sd} (h:DOwn w base v l):∃ x:Lst,v=x.v∧x.okD w∧x.a=v.ownBlock∧∀ g,x.a=some g→base≤g∧g<w.heap.size:=by
 unfold DOwn RecT.Own at h
 rcases h.2 with ⟨e,h0⟩ | ⟨g,cap,cur,e,hb,hh,hn,hm,hs,ht⟩
 ·exact⟨⟨none,0,0⟩,e,Or.inl ⟨rfl,rfl,rfl⟩,by rw[e];rfl,fun g hg=>by cases hg⟩
 ·exact⟨⟨some g,l.length,cap⟩,e,Or.inr ⟨g,rfl,hn,hm,cur,hh,hs⟩,by rw[e];rfl,fun g' hg=>by cases hg;exact⟨hb,block_lt hh⟩⟩
theorem apartD2 {w0 w:World} {g b1 b2:Nat} {v1 v2:Value} {xs ys:List Sd} (g0:w0.grownBy w none) (o1:DOwn w b1 v1 xs) (o2:DOwn w b2 v2 ys) (h1:w0.heap.size≤b1) (h2:w0.heap.size≤b2) (hd:∀ x,v1.ownBlock=some x→x<b2) (hA:w.heap[g]?=some (.cells #[v1,v2] 27 (0,0))):Calls Tryz.prog 26 #[.slice (some ⟨g,0,none⟩) 2 2] w fun e w'=>e=.returned (.bool true)∧w0.grownBy w' none:=by
 obtain⟨x,ex,kx,bx,rx⟩:=lst_of o1
 obtain⟨y,ey,ky,bY,ry⟩:=lst_of o2
 refine(apartD_any g 2 [x,y] w (by simp) (by simp) (fun j z hz=>?_) (fun z hz=>?_) (fun i j a b t hi hj ha hb=>?_)).mono fun e w' h=>⟨h.1,Kpt.new g0 h.2 (fun t ht=>?_)⟩
 ·rcases j with _ | _ | j
  ·cases hz
   rw[block_cell hA,←ex]
   rfl
  ·cases hz
   rw[block_cell hA,←ey]
   rfl
  ·simp at hz
 ·rcases List.mem_cons.1 hz with rfl | hz
  ·exact kx
  ·rw[List.mem_singleton.1 hz];exact ky
 ·have key:∀ t,x.a=some t→y.a=some t→False:=fun t h3 h4=>by
   have h5:=hd t (by rw[←bx];exact h3)
   have h6:=(ry t h4).1
   omega
  rcases i with _ | _ | i <;> rcases j with _ | _ | j
  ·rfl
  ·cases hi;cases hj;exact(key t ha hb).elim
  ·simp at hj
  ·cases hi;cases hj;exact(key t hb ha).elim
  ·rfl
  ·simp at hj
  ·simp at hi
  ·simp at hi
  ·simp at hi
 ·unfold blocks at ht
  obtain⟨z,hz,e⟩:=List.mem_filterMap.1 ht
  rcases List.mem_cons.1 hz with rfl | hz
  ·have:=(rx t e).1;omega
  ·rw[List.mem_singleton.1 hz] at e
   have:=(ry t e).1;omega
theorem sameSd_lim (va vb:Value) (l:List Sd) (w:World) (A:sdR.At w va l) (B:sdR.At w vb l) (hsm:lim l.length):Calls Tryz.prog 25 #[va,vb] w fun e w'=>e=.returned (.bool true)∧w.grownBy w' none:=by
 obtain⟨pa,ca,rfl⟩:=A.form
 obtain⟨pb,cb,rfl⟩:=B.form
 have HA:Hid (sdR.At w (.slice pa l.length ca) l):=A
 have HB:Hid (sdR.At w (.slice pb l.length cb) l):=B
 have hnq:=neq_sdF
 have hgq:=eqg_sdL
 clear A B
 go_enter Tryz.func25,Tryz.ntmps25
 go_wp2_with fail
 go_loopw [5] (fun x5 wr=>∃ k:Nat,k≤l.length∧x5=.int .i64 (k:Int)∧w.grownBy wr none) (fun x5 _=>l.length - (intOf x5).toNat)
 case atStart=>exact⟨0,Nat.zero_le _,rfl,grown_refl _ _⟩
 case round =>
  obtain⟨k,hk,rfl,G⟩:=hrel
  obtain⟨U,hU⟩:∃ U,U=wr:=⟨_,rfl⟩
  subst hU
  have HG:Hid (w.grownBy U none):=G
  clear G
  rcases (show k<l.length∨k=l.length from by omega) with hkl | hke
  ·have k0:(0:Int)≤(k:Int):=by omega
   have k1:(k:Int)<(l.length:Int):=by omega
   obtain⟨ga,oa,xa,ea,Ra⟩:=sd_there (HA.out.keep HG.out) hkl
   cases ea
   obtain⟨gb,ob,xb,eb,Rb⟩:=sd_there (HB.out.keep HG.out) hkl
   cases eb
   obtain⟨x,hx⟩:∃ x,x=l[k]:=⟨_,rfl⟩
   rw[←hx] at Ra Rb
   obtain⟨a0,a1,a2,a3,a4,a5,a6,a7,a8,a9⟩:=sd_cells Ra
   obtain⟨b0,b1,b2,b3,b4,b5,b6,b7,b8,b9⟩:=sd_cells Rb
   clear hx Ra Rb
   go_upto_region 6 with fail
   go_quiet (fail)
   go_wp2_with fail
   go_roundw
   case rel=>exact⟨k+1,hkl,by first | rfl | (rw[hsm.wrap hkl];rfl),grown_trans HG.out (grown_drewN _ _ _)⟩
   case measure=>first | exact meas_next hkl | (rw[hsm.wrap hkl];exact meas_next hkl)
  ·have k1:¬(k:Int)<(l.length:Int):=by omega
   clear hke
   go_wp2_with fail
   go_ret
   exact⟨rfl,HG.out⟩
theorem own_lim {w:World} {base:Nat} {v:Value} {l:List Sd} (h:DOwn w base v l):lim l.length:=by
 unfold DOwn RecT.Own at h
 obtain⟨_,_,_,hm⟩:=own_slice h
 exact hm
theorem dkeep {w w':World} {base:Nat} {v:Value} {l:List Sd} {q:Option Nat} (h:DOwn w base v l) (g:w.grownBy w' q) (hq:∀ y,q=some y→y<base):DOwn w' base v l:=by
 unfold DOwn RecT.Own at h ⊢
 refine World.ownsRow.kept h g ?_
 cases hv:v.ownBlock with
 | none=>exact Or.inl rfl
 | some x =>
  refine Or.inr fun e=>?_
  have z:=(World.ownsRow.lt h x hv).1
  have y:=hq x e.symm
  omega
theorem fkeep {w w':World} {base:Nat} {v:Value} {l:List Fe} {q:Option Nat} (h:feR.Own 65 w base v l) (g:w.grownBy w' q) (hq:∀ y,q=some y→y<base):feR.Own 65 w' base v l:=by
 unfold RecT.Own at h ⊢
 refine World.ownsRow.kept h g ?_
 cases hv:v.ownBlock with
 | none=>exact Or.inl rfl
 | some x =>
  refine Or.inr fun e=>?_
  have z:=(World.ownsRow.lt h x hv).1
  have y:=hq x e.symm
  omega

def z99Th:Th:=⟨-99,0,0,0,0,0,0,0,0,0,false⟩
theorem overTh_big (base g n c:Nat) (l:List Th) (w:World) (hO:thR.Own 100 w base (.slice (some ⟨g,0,none⟩) n c) l) (hn:l.length=n) (hsm:Small n):Calls Tryz.prog 23 #[.slice (some ⟨g,0,none⟩) n c] w fun e w'=>e=.returned (.tuple #[])∧w.grownBy w' (some g):=by
 have HO:Hid (thR.Own 100 w base (.slice (some ⟨g,0,none⟩) n c) l∧l.length=n):=⟨hO,hn⟩
 clear hO hn
 go_enter Tryz.func23,Tryz.ntmps23
 go_wp2_with fail
 go_loopw [2] (fun i wr=>∃ (k:Nat) (y:List Th),k≤n∧i=.int .i64 (k:Int)∧Hid (y.length=n∧thR.Own 100 wr base (.slice (some ⟨g,0,none⟩) n c) y∧w.grownBy wr (some g))) (fun i _=>n - (intOf i).toNat)
 case atStart=>exact⟨0,l,Nat.zero_le _,rfl,HO.out.2,HO.out.1,World.grownBy.refl _ _⟩
 case round =>
  obtain⟨k,y,hk,rfl,HY⟩:=hrel
  obtain⟨U,hU⟩:∃ U,U=wr:=⟨_,rfl⟩
  subst hU
  rcases (show k<n∨k=n from by omega) with hkl | hke
  ·have k0:(0:Int)≤(k:Int):=by omega
   have k1:(k:Int)<(n:Int):=by omega
   have HT:Hid (U.there g (k*11) 11):=RecT.Own.there HY.out.2.1 HY.out.1 hkl
   have HS:=RecT.Own.set HY.out.2.1 HY.out.1 hkl z99Th
   have HS2:Hid (thR.Own 100 (U.setCells g (k*11) (thR.enc z99Th)) base (.slice (some ⟨g,0,none⟩) n c) (y.set k z99Th)∧w.grownBy (U.setCells g (k*11) (thR.enc z99Th)) (some g)):=⟨HS.1,grown_trans HY.out.2.2 HS.2⟩
   clear HS
   go_upto_region 2 with (refine wpList_store_mid rfl 100 (.tmp 12) (.tmp 11) rfl g (k*11) #[.int .i64 (-99),.int .i64 0,.int .u8 0,.int .i64 0,.int .i64 0,.int .i64 0,.int .i64 0,.int .i64 0,.int .i64 0,.int .i64 0,.bool false] rfl rfl HT.out (by kernel_rfl) (by kernel_rfl) ?_)
   obtain⟨Z,hZ⟩:∃ Z,Z=U.setCells g (k*11) (thR.enc z99Th):=⟨_,rfl⟩
   rw[←hZ] at HS2
   rw[show U.setCells g (k*11) (#[.int .i64 (-99),.int .i64 0,.int .u8 0,.int .i64 0,.int .i64 0,.int .i64 0,.int .i64 0,.int .i64 0,.int .i64 0,.int .i64 0,.bool false]:Array Value).toList=Z from by rw[hZ];rfl]
   clear hZ
   go_wp2_with fail
   go_roundw
   case rel=>exact⟨k+1,y.set k z99Th,hkl,by first | rfl | (rw[hsm.wrap hkl];rfl),by rw[List.length_set];exact HY.out.1,HS2.out.1,HS2.out.2⟩
   case measure=>first | exact meas_next hkl | (rw[hsm.wrap hkl];exact meas_next hkl)
  ·have k1:¬(k:Int)<(n:Int):=by omega
   clear hke
   go_wp2_with fail
   go_end0
   exact⟨rfl,HY.out.2.2⟩
def z99Fe:Fe:=⟨-99,0,0,0,0⟩
theorem overFe_big (base g n c:Nat) (l:List Fe) (w:World) (hO:feR.Own 65 w base (.slice (some ⟨g,0,none⟩) n c) l) (hn:l.length=n) (hsm:Small n):Calls Tryz.prog 24 #[.slice (some ⟨g,0,none⟩) n c] w fun e w'=>e=.returned (.tuple #[])∧w.grownBy w' (some g):=by
 have HO:Hid (feR.Own 65 w base (.slice (some ⟨g,0,none⟩) n c) l∧l.length=n):=⟨hO,hn⟩
 clear hO hn
 go_enter Tryz.func24,Tryz.ntmps24
 go_wp2_with fail
 go_loopw [2] (fun i wr=>∃ (k:Nat) (y:List Fe),k≤n∧i=.int .i64 (k:Int)∧Hid (y.length=n∧feR.Own 65 wr base (.slice (some ⟨g,0,none⟩) n c) y∧w.grownBy wr (some g))) (fun i _=>n - (intOf i).toNat)
 case atStart=>exact⟨0,l,Nat.zero_le _,rfl,HO.out.2,HO.out.1,World.grownBy.refl _ _⟩
 case round =>
  obtain⟨k,y,hk,rfl,HY⟩:=hrel
  obtain⟨U,hU⟩:∃ U,U=wr:=⟨_,rfl⟩
  subst hU
  rcases (show k<n∨k=n from by omega) with hkl | hke
  ·have k0:(0:Int)≤(k:Int):=by omega
   have k1:(k:Int)<(n:Int):=by omega
   have HT:Hid (U.there g (k*5) 5):=RecT.Own.there HY.out.2.1 HY.out.1 hkl
   have HS:=RecT.Own.set HY.out.2.1 HY.out.1 hkl z99Fe
   have HS2:Hid (feR.Own 65 (U.setCells g (k*5) (feR.enc z99Fe)) base (.slice (some ⟨g,0,none⟩) n c) (y.set k z99Fe)∧w.grownBy (U.setCells g (k*5) (feR.enc z99Fe)) (some g)):=⟨HS.1,grown_trans HY.out.2.2 HS.2⟩
   clear HS
   go_upto_region 2 with (refine wpList_store_mid rfl 65 (.tmp 12) (.tmp 11) rfl g (k*5) #[.int .i64 (-99),.int .u8 0,.int .u16 0,.int .i64 0,.int .i64 0] rfl rfl HT.out (by kernel_rfl) (by kernel_rfl) ?_)
   obtain⟨Z,hZ⟩:∃ Z,Z=U.setCells g (k*5) (feR.enc z99Fe):=⟨_,rfl⟩
   rw[←hZ] at HS2
   rw[show U.setCells g (k*5) (#[.int .i64 (-99),.int .u8 0,.int .u16 0,.int .i64 0,.int .i64 0]:Array Value).toList=Z from by rw[hZ];rfl]
   clear hZ
   go_wp2_with fail
   go_roundw
   case rel=>exact⟨k+1,y.set k z99Fe,hkl,by first | rfl | (rw[hsm.wrap hkl];rfl),by rw[List.length_set];exact HY.out.1,HS2.out.1,HS2.out.2⟩
   case measure=>first | exact meas_next hkl | (rw[hsm.wrap hkl];exact meas_next hkl)
  ·have k1:¬(k:Int)<(n:Int):=by omega
   clear hke
   go_wp2_with fail
   go_end0
   exact⟨rfl,HY.out.2.2⟩
set_option maxHeartbeats 40000000
structure PrZ (w W:World) (b0:Nat) (vc vm vt vf:Value) (op ow:Bool) (cs:List Ent) (ms:List Mk) (ts:List Th) (fs:List Fe):Prop where
 fi:FiA W vc vm cs ms
 th:thR.At W vt ts
 fe:feR.At W vf fs
 tb:Tb1 W b0 vc vm op vt vf ow
 gr:w.grownBy W none
theorem PrZ.keep {w W W':World} {b0:Nat} {vc vm vt vf:Value} {op ow:Bool} {cs:List Ent} {ms:List Mk} {ts:List Th} {fs:List Fe} (H:PrZ w W b0 vc vm vt vf op ow cs ms ts fs) (g:W.grownBy W' none):PrZ w W' b0 vc vm vt vf op ow cs ms ts fs:=⟨H.fi.keep g,H.th.keep g,H.fe.keep g,grown_keep g H.tb (by simp),grown_trans H.gr g⟩
theorem swapLists_any (vc vm vt vf:Value) (op ow:Bool) (cs:List Ent) (ms:List Mk) (ts:List Th) (fs:List Fe) (w:World) (FI:FiA w vc vm cs ms) (TH:thR.At w vt ts) (FE:feR.At w vf fs) (TR:TrI fs) (BT:(ts.length+2)*88≤140737488355328) (BF:(fs.length+2)*32≤140737488355328):Calls Tryz.prog 4 #[tb1v vc vm op vt vf ow] w fun e w'=>e=.returned (.bool true)∧w.grownBy w' none:=by
 obtain⟨pc,kc,pm,km,rfl,rfl⟩:=FI.forms
 obtain⟨pt,ct,rfl⟩:=TH.form
 obtain⟨pf,cf,rfl⟩:=FE.form
 obtain⟨W,hW⟩:∃ W,W=w.alloc (.cells #[.slice pc cs.length kc,.slice pm ms.length km,.bool op,.slice pt ts.length ct,.slice pf fs.length cf,.bool ow] 72):=⟨_,rfl⟩
 have HG:Hid (w.grownBy W none):=by rw[hW];exact World.grownBy_alloc _ _ none
 have H0:Hid (PrZ w W w.heap.size (.slice pc cs.length kc) (.slice pm ms.length km) (.slice pt ts.length ct) (.slice pf fs.length cf) op ow cs ms ts fs):=⟨FI.keep HG.out,TH.keep HG.out,FE.keep HG.out,by rw[hW];exact alloc_at _ _ _,HG.out⟩
 have HB:Hid (TrI fs∧(ts.length+2)*88≤140737488355328∧(fs.length+2)*32≤140737488355328):=⟨TR,BT,BF⟩
 unfold tb1v
 clear FI TH FE TR BT BF
 go_enter Tryz.func4,Tryz.ntmps4
 go_upto_region 1 with fail
 rw[←hW]
 obtain⟨b0,hb0⟩:∃ b0,b0=w.heap.size:=⟨_,rfl⟩
 rw[←hb0] at H0 ⊢
 clear hW hb0 HG
 have C1:=books_any _ _ op cs ms W H0.out.fi
 unfold BoPost at C1
 obtain⟨f0,f1,f2,f3,f4,f5⟩:=tb1_box H0.out.tb
 obtain⟨nB,hnB⟩:∃ nB,nB=W.heap.size+1:=⟨_,rfl⟩
 rw[←hnB] at C1
 clear hnB
 go_wp2_with fail
 refine C1.mono ?_
 rintro e1 w1 ⟨v1,es,gs,p,rfl,P,hNd,g1⟩
 have HRC:Hid (RgC (atC p gs)):=RgC.of (fun e he=>by obtain⟨d,hd,h1,h2⟩:=hp_memB P.same he;rw[←h1,←h2];exact hNd.2 d hd)
 have HP:Hid (Pr (okB nB) w1 nB (nB+1) v1 es gs p):=P
 have H1:Hid (PrZ w w1 b0 (.slice pc cs.length kc) (.slice pm ms.length km) (.slice pt ts.length ct) (.slice pf fs.length cf) op ow cs ms ts fs):=H0.out.keep g1
 clear C1 P hNd g1 f0 f1 f2 f3 f4 f5 H0
 have C2:=rfeat21_any (okB nB) (nB+1) v1 p gs (.slice pc cs.length kc) (.slice pm ms.length km) _ _ op ow ts fs w1 HP.out.rd H1.out.th H1.out.fe HRC.out
 unfold tb1v at C2
 obtain⟨f0,f1,f2,f3,f4,f5⟩:=tb1_box H1.out.tb
 go_wp2_with fail
 refine C2.mono ?_
 rintro e2 w2 ⟨vF,rfl,aF,g2⟩
 have HTF:Hid (TrI (ftR ow p gs ts fs)∧((ftR ow p gs ts fs).length+2)*32≤140737488355328):=⟨ftR_tr HB.out.1 HRC.out,ftR_big HB.out.2.1 HB.out.2.2⟩
 obtain⟨F,hF⟩:∃ F,F=ftR ow p gs ts fs:=⟨_,rfl⟩
 rw[←hF] at aF HTF
 obtain⟨pF,cF,rfl⟩:=aF.form
 have HF2:Hid (feR.At w2 (.slice pF F.length cF) F∧w1.grownBy w2 none):=⟨aF,g2⟩
 obtain⟨L,hL⟩:∃ L,L=swT (refE p ts.length) (es.length:Int) (atC p es) ts F:=⟨_,rfl⟩
 obtain⟨q,hq⟩:∃ q,q=bgE (refE p ts.length) (es.length:Int) (atC p es) ts F 1:=⟨_,rfl⟩
 have HS:Hid (∀ Y vt' vf',w1.grownBy Y none→thR.At Y vt' ts→feR.At Y vf' F→Calls Tryz.prog 10 #[.pointer (some ⟨nB,0,none⟩),vt',vf'] Y fun e w'=>∃ v,e=.returned (.tuple #[v,.int .i64 q])∧DOwn w' Y.heap.size v L∧Y.grownBy w' none):=fun Y vt' vf' g A F'=>by rw[hL,hq];exact slist_any _ _ _ _ _ _ ts F Y (SIn.of' (HP.out.book.keep g) A F') ⟨_,rfl⟩
 have HD:Hid (∀ Y vt' vf',w1.grownBy Y none→thR.At Y vt' ts→feR.At Y vf' F→Calls Tryz.prog 20 #[.pointer (some ⟨nB+1,0,none⟩),vt',vf'] Y fun e w'=>∃ v,e=.returned (.tuple #[v,.int .i64 q])∧DOwn w' Y.heap.size v L∧Y.grownBy w' none):=fun Y vt' vf' g A F'=>by
  have z:=swT_same (p:=p) (ts:=ts) (F:=F) HP.out.same
  rw[hL,hq,z.1,z.2]
  exact rList21_any (okB nB) (nB+1) v1 p gs vt' vf' ts F Y ⟨HP.out.rd.keep g,A,F',by have y:=swGood_at HP.out.book;rwa [show atC p es=atC p gs from funext fun n=>hp_atC HP.out.same p n] at y,HTF.out.1⟩
 have H2:Hid (PrZ w w2 b0 (.slice pc cs.length kc) (.slice pm ms.length km) (.slice pt ts.length ct) (.slice pf fs.length cf) op ow cs ms ts fs):=H1.out.keep g2
 clear C2 aF g2 hF hL hq HP HRC H1 f0 f1 f2 f3 f4 f5
 clear p es gs v1
 have C3:=lentTh_big _ ts w2 H2.out.th HB.out.2.1
 obtain⟨f0,f1,f2,f3,f4,f5⟩:=tb1_box H2.out.tb
 go_wp2_with fail
 refine C3.mono ?_
 rintro e3 w3 ⟨vA,rfl,oA,g3⟩
 obtain⟨tz,htz⟩:∃ tz,tz=ts++[z77Th,z77Th]:=⟨_,rfl⟩
 rw[←htz] at oA
 obtain⟨nA,hnA⟩:∃ n,n=tz.length:=⟨_,rfl⟩
 have HnA:Hid (tz=ts++[z77Th,z77Th]∧nA=tz.length∧nA=ts.length+2):=⟨htz,hnA,by rw[hnA,htz,List.length_append] <;> rfl⟩
 have z:=oA
 unfold RecT.Own at z
 rw[←hnA] at z
 obtain⟨gA,cA,rfl,bgA,lgA,ncA,-,-⟩:=own_cell z (by rw[HnA.out.2.2];omega)
 obtain⟨bT,hbT⟩:∃ b,b=w2.heap.size:=⟨_,rfl⟩
 rw[←hbT] at oA bgA
 have HA:Hid (bT≤gA∧gA<w3.heap.size∧nA≤cA∧w.heap.size≤bT):=⟨bgA,lgA,ncA,by rw[hbT];exact H2.out.gr.size⟩
 have HA3:Hid (thR.Own 100 w3 bT (.slice (some ⟨gA,0,none⟩) nA cA) tz):=oA
 have H3:Hid (PrZ w w3 b0 (.slice pc cs.length kc) (.slice pm ms.length km) (.slice pt ts.length ct) (.slice pf fs.length cf) op ow cs ms ts fs∧feR.At w3 (.slice pF F.length cF) F∧w1.grownBy w3 none):=⟨H2.out.keep g3,HF2.out.1.keep g3,grown_trans HF2.out.2 g3⟩
 clear C3 z oA bgA lgA ncA hbT htz hnA g3 H2 HF2
 have C4:=lentFe_big _ F w3 H3.out.2.1 HTF.out.2
 go_wp2_with fail
 refine C4.mono ?_
 rintro e4 w4 ⟨vB,rfl,oB,g4⟩
 obtain⟨fz,hfz⟩:∃ fz,fz=F++[z77Fe,z77Fe]:=⟨_,rfl⟩
 rw[←hfz] at oB
 obtain⟨nF,hnF⟩:∃ n,n=fz.length:=⟨_,rfl⟩
 have HnF:Hid (fz=F++[z77Fe,z77Fe]∧nF=fz.length∧nF=F.length+2):=⟨hfz,hnF,by rw[hnF,hfz,List.length_append] <;> rfl⟩
 have z:=oB
 unfold RecT.Own at z
 rw[←hnF] at z
 obtain⟨gB,cB,rfl,bgB,lgB,ncB,-,-⟩:=own_cell z (by rw[HnF.out.2.2];omega)
 obtain⟨bF,hbF⟩:∃ b,b=w3.heap.size:=⟨_,rfl⟩
 rw[←hbF] at oB bgB HA
 have HBB:Hid (bF≤gB∧gB<w4.heap.size∧nF≤cB):=⟨bgB,lgB,ncB⟩
 have HZ4:Hid (thR.Own 100 w4 bT (.slice (some ⟨gA,0,none⟩) nA cA) tz∧feR.Own 65 w4 bF (.slice (some ⟨gB,0,none⟩) nF cB) fz):=⟨HA3.out.grow g4,oB⟩
 have H4:Hid (PrZ w w4 b0 (.slice pc cs.length kc) (.slice pm ms.length km) (.slice pt ts.length ct) (.slice pf fs.length cf) op ow cs ms ts fs∧feR.At w4 (.slice pF F.length cF) F∧w1.grownBy w4 none):=⟨H3.out.1.keep g4,H3.out.2.1.keep g4,grown_trans H3.out.2.2 g4⟩
 clear C4 z oB bgB lgB ncB hbF hfz hnF g4 H3 HA3 f0 f1 f2 f3 f4 f5
 have HC:Hid (∀ Y,w4.grownBy Y none→Calls Tryz.prog 10 #[.pointer (some ⟨nB,0,none⟩),.slice (some ⟨gA,0,none⟩) ts.length cA,.slice (some ⟨gB,0,none⟩) F.length cB] Y fun e w'=>∃ v,e=.returned (.tuple #[v,.int .i64 q])∧DOwn w' Y.heap.size v L∧Y.grownBy w' none):=fun Y g=>by
  have t1:=RecT.At.take (RecT.Own.at (HZ4.out.1.grow g)) ts.length (by rw[HnA.out.2.2];omega)
  have t2:=RecT.At.take (RecT.Own.at (HZ4.out.2.grow g)) F.length (by rw[HnF.out.2.2];omega)
  rw[HnA.out.1,List.take_left] at t1
  rw[HnF.out.1,List.take_left] at t2
  exact HS.out Y _ _ (grown_trans H4.out.2.2 g) t1 t2
 have ka1:(ts.length:Int)≤(cA:Int):=by have:=HA.out.2.2.1;have:=HnA.out.2.2;omega
 have ka2:ts.length≤cA:=by have:=HA.out.2.2.1;have:=HnA.out.2.2;omega
 have kb1:(F.length:Int)≤(cB:Int):=by have:=HBB.out.2.2;have:=HnF.out.2.2;omega
 have kb2:F.length≤cB:=by have:=HBB.out.2.2;have:=HnF.out.2.2;omega
 obtain⟨f0,f1,f2,f3,f4,f5⟩:=tb1_box H4.out.1.tb
 go_upto_region 4 with fail
 refine wp_region_held_drew (S:=fun w'=>w4.grownBy w' none) (by kernel_rfl) (grown_drew _) (fun hHeld=>?_)
 refine QZ 0 rfl ?_
 go_frame
 refine QZ 1 rfl ?_
 go_frame
 refine QZ 2 rfl ?_
 go_frame
 refine QT 3 rfl (by intro w0 hSw;have f3:=hSw.cell f3 (by simp);go_simp;try with_reducible rfl) ?_
 go_frame
 refine QZ 4 rfl ?_
 go_frame
 refine QZ 5 rfl ?_
 go_frame
 refine QZ 6 rfl ?_
 go_frame
 refine QZ 7 rfl ?_
 go_frame
 refine QZ 8 rfl ?_
 go_frame
 refine QZ 9 rfl ?_
 go_frame
 clear f0 f1 f2 f3 f4 f5
 refine QR 10 rfl (fun K hK=>?_)
 go_simp
 go_at_call 10
 refine(HC.out _ (grown_drew _)).mono ?_
 rintro e9 w5 ⟨vX,rfl,oX,g5⟩
 have H5:Hid (w4.grownBy w5 none):=grown_trans (grown_drew _) g5
 obtain⟨pX,cX,rfl⟩:=RecT.Own.form oX
 have HX:Hid (DOwn w5 w4.heap.size (.slice pX L.length cX) L):=oX
 clear g5 oX
 refine hK.out _ _ (H5.out) (fun hHeld2=>?_)
 clear hK K
 (try go_frame)
 refine QZ 11 rfl ?_
 go_frame
 refine QZ 12 rfl ?_
 go_frame
 refine QZ 13 rfl ?_
 go_frame
 refine QZ 14 rfl ?_
 go_frame
 refine QZ 15 rfl ?_
 go_frame
 refine QD ?_
 obtain⟨f0,f1,f2,f3,f4,f5⟩:=tb1_box (H4.out.1.keep H5.out).tb
 go_upto_region 5 with fail
 refine wp_region_held_drew (S:=fun w'=>w5.grownBy w' none) (by kernel_rfl) (grown_drew _) (fun hHeld=>?_)
 refine QZ 0 rfl ?_
 go_frame
 refine QZ 1 rfl ?_
 go_frame
 refine QZ 2 rfl ?_
 go_frame
 refine QT 3 rfl (by intro w0 hSw;have f3:=hSw.cell f3 (by simp);go_simp;try with_reducible rfl) ?_
 go_frame
 refine QZ 4 rfl ?_
 go_frame
 refine QZ 5 rfl ?_
 go_frame
 refine QZ 6 rfl ?_
 go_frame
 refine QZ 7 rfl ?_
 go_frame
 refine QZ 8 rfl ?_
 go_frame
 refine QZ 9 rfl ?_
 go_frame
 clear f0 f1 f2 f3 f4 f5
 refine QR 10 rfl (fun K hK=>?_)
 go_simp
 go_at_call 10
 refine(HC.out _ (grown_trans H5.out (grown_drew _))).mono ?_
 rintro e9 w6 ⟨vY,rfl,oY,g6⟩
 have H6:Hid (w4.grownBy w6 none∧w5.grownBy w6 none):=⟨grown_trans H5.out (grown_trans (grown_drew _) g6),grown_trans (grown_drew _) g6⟩
 obtain⟨pY,cY,rfl⟩:=RecT.Own.form oY
 have HY:Hid (DOwn w6 w5.heap.size (.slice pY L.length cY) L∧DOwn w6 w4.heap.size (.slice pX L.length cX) L):=⟨oY,dkeep HX.out H6.out.2 (fun y e=>by cases e)⟩
 clear g6 oY
 refine hK.out _ _ (H6.out.2) (fun hHeld2=>?_)
 clear hK K
 (try go_frame)
 refine QZ 11 rfl ?_
 go_frame
 refine QZ 12 rfl ?_
 go_frame
 refine QZ 13 rfl ?_
 go_frame
 refine QZ 14 rfl ?_
 go_frame
 refine QZ 15 rfl ?_
 go_frame
 refine QD ?_
 have HX5:Hid (DOwn w5 w4.heap.size (.slice pX L.length cX) L):=HX.out
 clear HX ka1 ka2 kb1 kb2 HC HS
 obtain⟨f0,f1,f2,f3,f4,f5⟩:=tb1_box (H4.out.1.keep H6.out.1).tb
 have C7:=HD.out w6 _ _ (grown_trans H4.out.2.2 H6.out.1) (H4.out.1.th.keep H6.out.1) (H4.out.2.1.keep H6.out.1)
 go_wp2_with fail
 refine C7.mono ?_
 rintro e7 w7 ⟨vZ,rfl,oZ,g7⟩
 obtain⟨pZ,cZ,rfl⟩:=RecT.Own.form oZ
 have H7:Hid (w4.grownBy w7 none):=grown_trans H6.out.1 g7
 have HZ7:Hid (DOwn w7 w6.heap.size (.slice pZ L.length cZ) L∧DOwn w7 w5.heap.size (.slice pY L.length cY) L∧DOwn w7 w4.heap.size (.slice pX L.length cX) L∧w5.heap.size≤w6.heap.size∧w4.heap.size≤w5.heap.size):=⟨oZ,dkeep HY.out.1 g7 (fun y e=>by cases e),dkeep HY.out.2 g7 (fun y e=>by cases e),H6.out.2.size,H5.out.size⟩
 have HS5:Hid (∀ y,(Value.slice pX L.length cX).ownBlock=some y→y<w5.heap.size):=fun y hy=>(World.ownsRow.lt (show w5.ownsRow _ _ _ _ _ _ from HX5.out) y hy).2
 clear C7 oZ g7 HY HD HX5
 obtain⟨b5,hb5⟩:∃ b,b=w5.heap.size:=⟨_,rfl⟩
 obtain⟨b6,hb6⟩:∃ b,b=w6.heap.size:=⟨_,rfl⟩
 obtain⟨b4,hb4⟩:∃ b,b=w4.heap.size:=⟨_,rfl⟩
 rw[←hb5,←hb6,←hb4] at HZ7
 rw[←hb5] at HS5
 rw[←hb4] at HBB
 have H8:Hid (PrZ w w7 b0 (.slice pc cs.length kc) (.slice pm ms.length km) (.slice pt ts.length ct) (.slice pf fs.length cf) op ow cs ms ts fs∧feR.At w7 (.slice pF F.length cF) F∧thR.Own 100 w7 bT (.slice (some ⟨gA,0,none⟩) nA cA) tz∧feR.Own 65 w7 bF (.slice (some ⟨gB,0,none⟩) nF cB) fz):=⟨H4.out.1.keep H7.out,H4.out.2.1.keep H7.out,HZ4.out.1.grow H7.out,HZ4.out.2.grow H7.out⟩
 clear hb4 hb5 hb6 H4 HZ4 H7 H6 H5 f0 f1 f2 f3 f4 f5
 obtain⟨f0,f1,f2,f3,f4,f5⟩:=tb1_box H8.out.1.tb
 have e1:(q != q)=false:=by simp
 have C8:=keptTh_big (.slice (some ⟨gA,0,none⟩) nA cA) _ ts w7 (by have z:=RecT.Own.at H8.out.2.2.1;rwa [HnA.out.1] at z) H8.out.1.th HB.out.2.1
 go_wp2_with fail
 refine C8.mono ?_
 rintro e8 w8 ⟨rfl,g8⟩
 have C9:=keptFe_big (.slice (some ⟨gB,0,none⟩) nF cB) _ F w8 (by have z:=RecT.Own.at (H8.out.2.2.2.grow g8);rwa [HnF.out.1] at z) (H8.out.2.1.keep g8) HTF.out.2
 clear f0 f1 f2 f3 f4 f5 C8
 go_wp2_with fail
 refine C9.mono ?_
 rintro e9 w9 ⟨rfl,g9⟩
 have G9:w7.grownBy w9 none:=grown_trans g8 g9
 have H9:Hid (w.grownBy w9 none∧thR.Own 100 w9 bT (.slice (some ⟨gA,0,none⟩) nA cA) tz∧feR.Own 65 w9 bF (.slice (some ⟨gB,0,none⟩) nF cB) fz):=⟨grown_trans H8.out.1.gr G9,H8.out.2.2.1.grow G9,H8.out.2.2.2.grow G9⟩
 have HZ9:Hid (DOwn w9 b6 (.slice pZ L.length cZ) L∧DOwn w9 b5 (.slice pY L.length cY) L∧DOwn w9 b4 (.slice pX L.length cX) L):=⟨dkeep HZ7.out.1 G9 (fun y e=>by cases e),dkeep HZ7.out.2.1 G9 (fun y e=>by cases e),dkeep HZ7.out.2.2.1 G9 (fun y e=>by cases e)⟩
 have HB9:Hid (gA<bF∧gA<b4∧gB<b4∧b4≤b5∧b5≤b6∧w.heap.size≤gA∧w.heap.size≤gB∧Small nA∧Small nF):=by
  have a1:=HA.out
  have a2:=HBB.out
  have a3:=HZ7.out.2.2.2
  have a4:=(small_by (by decide) HB.out.2.1).2.2
  have a5:=(small_by (by decide) HTF.out.2).2.2
  have a6:=HnA.out.2.2
  have a7:=HnF.out.2.2
  show _∧_
  exact⟨by omega,by omega,by omega,by omega,by omega,by omega,by omega,by unfold Small;omega,by unfold Small;omega⟩
 clear C9 g8 g9 G9 H8 HZ7 HA HBB e1
 have C10:=overTh_big bT gA nA cA tz w9 H9.out.2.1 HnA.out.2.1.symm HB9.out.2.2.2.2.2.2.2.1
 go_wp2_with fail
 refine C10.mono ?_
 rintro e10 w10 ⟨rfl,g10⟩
 have H10:Hid (w.grownBy w10 none∧feR.Own 65 w10 bF (.slice (some ⟨gB,0,none⟩) nF cB) fz):=⟨grown_own H9.out.1 g10 (fun y e=>by cases e;exact HB9.out.2.2.2.2.2.1),fkeep H9.out.2.2 g10 (fun y e=>by cases e;exact HB9.out.1)⟩
 have HZ10:Hid (DOwn w10 b6 (.slice pZ L.length cZ) L∧DOwn w10 b5 (.slice pY L.length cY) L∧DOwn w10 b4 (.slice pX L.length cX) L):=⟨dkeep HZ9.out.1 g10 (fun y e=>by cases e;have:=HB9.out;omega),dkeep HZ9.out.2.1 g10 (fun y e=>by cases e;have:=HB9.out;omega),dkeep HZ9.out.2.2 g10 (fun y e=>by cases e;have:=HB9.out;omega)⟩
 clear C10 g10 H9 HZ9
 have C11:=overFe_big bF gB nF cB fz w10 H10.out.2 HnF.out.2.1.symm HB9.out.2.2.2.2.2.2.2.2
 go_wp2_with fail
 refine C11.mono ?_
 rintro e11 w11 ⟨rfl,g11⟩
 have H11:Hid (w.grownBy w11 none):=grown_own H10.out.1 g11 (fun y e=>by cases e;exact HB9.out.2.2.2.2.2.2.1)
 have HZ11:Hid (DOwn w11 b6 (.slice pZ L.length cZ) L∧DOwn w11 b5 (.slice pY L.length cY) L∧DOwn w11 b4 (.slice pX L.length cX) L):=⟨dkeep HZ10.out.1 g11 (fun y e=>by cases e;have:=HB9.out;omega),dkeep HZ10.out.2.1 g11 (fun y e=>by cases e;have:=HB9.out;omega),dkeep HZ10.out.2.2 g11 (fun y e=>by cases e;have:=HB9.out;omega)⟩
 clear C11 g11 H10 HZ10
 have C12:=sameSd_lim _ _ L w11 (RecT.Own.at HZ11.out.2.2) (RecT.Own.at HZ11.out.1) (own_lim HZ11.out.1)
 go_wp2_with fail
 refine C12.mono ?_
 rintro e12 w12 ⟨rfl,g12⟩
 have HZ12:Hid (DOwn w12 b6 (.slice pZ L.length cZ) L∧DOwn w12 b5 (.slice pY L.length cY) L∧DOwn w12 b4 (.slice pX L.length cX) L∧w.grownBy w12 none):=⟨dkeep HZ11.out.1 g12 (fun y e=>by cases e),dkeep HZ11.out.2.1 g12 (fun y e=>by cases e),dkeep HZ11.out.2.2 g12 (fun y e=>by cases e),grown_trans H11.out g12⟩
 clear C12 g12 HZ11 H11
 have C13:=sameSd_lim _ _ L w12 (RecT.Own.at HZ12.out.2.1) (RecT.Own.at HZ12.out.1) (own_lim HZ12.out.1)
 go_wp2_with fail
 refine C13.mono ?_
 rintro e13 w13 ⟨rfl,g13⟩
 have HZ13:Hid (DOwn w13 b5 (.slice pY L.length cY) L∧DOwn w13 b4 (.slice pX L.length cX) L∧w.grownBy w13 none):=⟨dkeep HZ12.out.2.1 g13 (fun y e=>by cases e),dkeep HZ12.out.2.2.1 g13 (fun y e=>by cases e),grown_trans HZ12.out.2.2.2 g13⟩
 clear C13 g13 HZ12
 obtain⟨Q,hQ⟩:∃ Q,Q=w13.alloc (.cells #[.slice pX L.length cX,.slice pY L.length cY] 27):=⟨_,rfl⟩
 have GQ:w13.grownBy Q none:=by rw[hQ];exact World.grownBy_alloc _ _ none
 have C14:=apartD2 (w0:=w) (w:=Q) (g:=w13.heap.size) (grown_trans HZ13.out.2.2 GQ) (dkeep HZ13.out.2.1 GQ (fun y e=>by cases e)) (dkeep HZ13.out.1 GQ (fun y e=>by cases e)) (by have:=HB9.out;omega) (by have:=HB9.out;omega) HS5.out (by rw[hQ];exact alloc_at _ _ _)
 rw[hQ] at C14
 clear hQ GQ
 go_wp2_with fail
 refine C14.mono ?_
 rintro e14 w14 ⟨rfl,g14⟩
 clear C14
 go_wp2_with fail
 go_ret
 exact⟨rfl,g14⟩
end Go.Proofs.YthfjgpjcepmnmaaGreat
