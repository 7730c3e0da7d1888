/-
  
-/
import Derived.Test.YtjmepebbcnhalaaGreatW0
import Derived.Test.YtjmepebbcnhalaaGreatW26
namespace Go.Proofs.YtjmepebbcnhalaaGreat
set_option maxRecDepth 100000
set_option maxHeartbeats 4000000
open Go.RowKit

structure jY (w:World) (bv:Value) (n:Int) (cd:Int→Hd×List Pt):Prop where
 len:∀ X,w.grownBy X none→Calls Tryz.prog 251 #[bv] X fun e w'=>e=.returned (.int .i64 n)∧X.grownBy w' none
 card:∀ X t,w.grownBy X none→∃ x,Calls Tryz.prog 192 #[bv,thv t] X (kX (cd t.card).1 (cd t.card).2 x X)
 few:∀ c,(cd c).2.length≤4
theorem jY.keep {w w':World} {bv:Value} {n:Int} {cd:Int→Hd×List Pt} (h:jY w bv n cd) (g:w.grownBy w' none):jY w' bv n cd:=⟨fun X q=>h.len X (aa g q),fun X t q=>h.card X t (aa g q),h.few⟩
structure RwS (w wr:World) (B k:Nat) (v:Value) (X:List Rv):Prop where
 own:zW wr B v X
 ps:∀ x∈X,bA wr B x.u x.r.ps∧x.r.ps.length≤4
 nu:∀ x∈X,1≤x.r.nu∧x.r.nu≤(k:Int)
 few:X.length≤16
 gr:w.grownBy wr none
theorem RwS.grow {w wr wr':World} {B k:Nat} {v:Value} {X:List Rv} (h:RwS w wr B k v X) (g:wr.grownBy wr' none):RwS w wr' B k v X:=⟨h.own.grow g,fun x hx=>⟨ar (h.ps x hx).1 g,(h.ps x hx).2⟩,h.nu,h.few,aa h.gr g⟩
theorem RwS.next {w wr:World} {B k:Nat} {v:Value} {X:List Rv} (h:RwS w wr B k v X):RwS w wr B (k+1) v X:=⟨h.own,h.ps,fun x hx=>⟨(h.nu x hx).1,by have:=(h.nu x hx).2;omega⟩,h.few,h.gr⟩
theorem Tryz.linfoR:(Tryz.prog.info? 230).map (fun i=>(i.zero,i.size,i.bytes))=some (some (.agg #[.int .i64 0,.int .i64 0,.string ⟨#[]⟩,.int .u8 0,.int .u8 0,.int .i64 0,.int .i64 0,.int .i64 0,.int .u16 0,.bool false,.slice none 0 0]),11,96):=by kernel_rfl
theorem BG (Z:World) (x:Rv):Src (Z.alloc (.cells (rvc x).toArray 230)) (.slice (some ⟨Z.heap.size,0,none⟩) 1 1) 1 11 (rvc x):=ij (cs:=(rvc x).toArray) (ak Z _ _) rfl 1
theorem jd {w:World} {base e size n:Nat} {v:Value} {xs:List Value} (h:w.ownsRow base e size v n xs):∀ y,v.ownBlock=some y→∃ cs fr,w.heap[y]?=some (.cells cs e fr):=fun y hy=>by
 rcases h.2 with ⟨e1,_⟩ | ⟨g,cap,cur,e1,_,hh,_⟩
 ·rw[e1] at hy
  cases hy
 ·rw[e1] at hy
  cases hy
  exact⟨_,_,hh⟩
theorem bw {w w':World} {base base' e e' size size' n n':Nat} {v v':Value} {xs xs':List Value} (h:w.ownsRow base e size v n xs) (h':w.ownsRow base' e' size' v' n' xs') (hne:e'≠e) (g:w.grownBy w' v'.ownBlock):w'.ownsRow base e size v n xs:=by
 refine World.ownsRow.kept h g ?_
 cases hv:v.ownBlock with
 | none=>exact Or.inl rfl
 | some y =>
  refine Or.inr fun q=>?_
  obtain⟨cs,fr,hb⟩:=jd h' y q.symm
  exact fk h hb hne (by rw[hv])
theorem gn {w w':World} {base e size n b:Nat} {v:Value} {xs:List Value} (h:w.ownsRow base e size v n xs) (g:w.grownBy w' (some b)) (hb:b<base):w'.ownsRow base e size v n xs:=by
 refine World.ownsRow.kept h g ?_
 cases hv:v.ownBlock with
 | none=>exact Or.inl rfl
 | some y=>exact Or.inr fun q=>by have:=(World.ownsRow.lt h y hv).1;have q2:y=b:=Option.some.inj q;omega
structure TbO (w:World) (base:Nat) (vr vf:Value) (X:List Rv) (F:List Fe):Prop where
 rows:zW w base vr X
 parts:∀ x∈X,bA w base x.u x.r.ps∧x.r.ps.length≤4
 fs:dt w base vf F
 len:F.length=X.length
 few:X.length≤16
theorem TbO.at {w:World} {base:Nat} {vr vf:Value} {X:List Rv} {F:List Fe} (h:TbO w base vr vf X F):dS w vr vf X F:=⟨aB.Own.at h.rows,fun x hx=>⟨(h.parts x hx).1.at,(h.parts x hx).2⟩,aB.Own.at h.fs,h.len,h.few⟩
theorem TbO.grow {w w':World} {base:Nat} {vr vf:Value} {X:List Rv} {F:List Fe} (h:TbO w base vr vf X F) (g:w.grownBy w' none):TbO w' base vr vf X F:=⟨ar h.rows g,fun x hx=>⟨ar (h.parts x hx).1 g,(h.parts x hx).2⟩,ar h.fs g,h.len,h.few⟩
theorem TbO.far {w w':World} {base b:Nat} {vr vf:Value} {X:List Rv} {F:List Fe} (h:TbO w base vr vf X F) (g:w.grownBy w' (some b)) (hb:b<base):TbO w' base vr vf X F:=⟨gn h.rows g hb,fun x hx=>⟨gn (h.parts x hx).1 g hb,(h.parts x hx).2⟩,gn h.fs g hb,h.len,h.few⟩
theorem TbO.big {w:World} {base base':Nat} {vr vf:Value} {X:List Rv} {F:List Fe} (h:TbO w base vr vf X F) (hb:base'≤base):TbO w base' vr vf X F:=⟨aT h.rows hb,fun x hx=>⟨aT (h.parts x hx).1 hb,(h.parts x hx).2⟩,aT h.fs hb,h.len,h.few⟩
def mW (n:Int) (cd:Int→Hd×List Pt) (ts:List Th) (fs:List Fe) (k:Nat) (X:List Rv):Prop:=dE n cd ((ts.zip fs).drop k) k (rws X)=dE n cd (ts.zip fs) 0 []
theorem yF {ts:List Th} {fs:List Fe} {k:Nat} (h:k<ts.length) (e:ts.length=fs.length):(ts.zip fs).drop k=(ts[k],fs[k]) :: (ts.zip fs).drop (k+1):=by
 rw[List.drop_eq_getElem_cons (by rw[List.length_zip];omega),List.getElem_zip]
theorem mW.step {n:Int} {cd:Int→Hd×List Pt} {ts:List Th} {fs:List Fe} {k:Nat} {X:List Rv} (h:mW n cd ts fs k X) (hk:k<ts.length) (e:ts.length=fs.length):dE n cd (ts.zip fs) 0 []=(if cj n ts[k]=false then none else if ts[k].place≠4 then dE n cd ((ts.zip fs).drop (k+1)) (k+1) (rws X) else if (rws X).length=16∨aY ts[k] fs[k]=false then none else if (cd ts[k].card).1.kd=2 then none else dE n cd ((ts.zip fs).drop (k+1)) (k+1) (rws X++[⟨(k:Int)+1,ts[k].stamp,(cd ts[k].card).1,(cd ts[k].card).2⟩])):=by
 unfold mW at h
 rw[yF hk e] at h
 rw[←h]
 rfl
def fj (w:World) (n:Int) (cd:Int→Hd×List Pt) (ts:List Th) (fs:List Fe) (e:Ending) (w':World):Prop:=∃ p1 m1 c1 p2 m2 c2 b,e=.returned (.tuple #[tbv (.slice p1 m1 c1) (.slice p2 m2 c2),.bool b])∧w.grownBy w' none ∧
 ((b=false∧(ts.length≠fs.length∨dE n cd (ts.zip fs) 0 []=none)) ∨
  ∃ acc X,ts.length=fs.length∧dE n cd (ts.zip fs) 0 []=some acc∧(rws X).Perm acc∧((rws X).Pairwise fun a b=>a.st≤b.st)∧b=dif (bm (rws X))∧TbO w' w.heap.size (.slice p1 m1 c1) (.slice p2 m2 c2) X (aq (rws X) fs)∧∀ x∈X,1≤x.r.nu∧x.r.nu≤(fs.length:Int))
theorem fj.no {w w':World} {n:Int} {cd:Int→Hd×List Pt} {ts:List Th} {fs:List Fe} (g:w.grownBy w' none) (h:ts.length≠fs.length∨dE n cd (ts.zip fs) 0 []=none):fj w n cd ts fs (.returned (.tuple #[.agg #[.slice none 0 0,.slice none 0 0],.bool false])) w':=⟨none,0,0,none,0,0,false,rfl,g,Or.inl ⟨rfl,h⟩⟩
theorem eu {w:World} {n0:Nat} (h:TbB w n0 (.slice none 0 0) (.slice none 0 0)):w.cell? ⟨n0,0,none⟩=some (.slice none 0 0)∧w.cell? ⟨n0,1,none⟩=some (.slice none 0 0):=bH h
theorem tP {n:Nat} (h:n<16):n+1≤maxLen∧(n+1)*96≤140737488355328:=by unfold maxLen;omega
theorem yv {X:List Rv} {m:Int} (h:∀ x∈X,1≤x.r.nu∧x.r.nu≤m) {i:Nat} (hi:i<X.length):1≤((rws X).getD i Rw.none).nu∧((rws X).getD i Rw.none).nu≤m:=by rw[fA hi];exact h _ (List.getElem_mem hi)
theorem yw (bv vt vf:Value) (n:Int) (cd:Int→Hd×List Pt) (ts:List Th) (fs:List Fe) (w:World) (B:jY w bv n cd) (A:thR.At w vt ts) (C:feR.At w vf fs) (hl:ts.length≤2048):Calls Tryz.prog 130 #[bv,vt,vf] w (fj w n cd ts fs):=by
 obtain⟨i0,hi,hz0,hz1,hz2⟩:=info_parts Tryz.linfoR
 obtain⟨pt,ct,rfl⟩:=A.form
 obtain⟨pf,cf,rfl⟩:=C.form
 obtain⟨W1,hW1⟩:∃ W1,W1=w.alloc (.cells #[.slice none 0 0,.slice none 0 0] 125):=⟨_,rfl⟩
 have HG1:Hid (w.grownBy W1 none):=by rw[hW1];exact World.grownBy_alloc _ _ none
 have HR:Hid (TbB W1 w.heap.size (.slice none 0 0) (.slice none 0 0)):=by rw[hW1];exact ak w _ _
 have HB:Hid (jY W1 bv n cd):=B.keep HG1.out
 have HA:Hid (thR.At W1 (.slice pt ts.length ct) ts):=A.keep HG1.out
 have HC:Hid (feR.At W1 (.slice pf fs.length cf) fs):=C.keep HG1.out
 have Hl:Hid (ts.length≤2048):=hl
 have Hm:Hid (ts.length=fs.length→fs.length≤4096):=fun e=>by omega
 clear A B C hl
 go_enter Tryz.func130,Tryz.ntmps130
 go_upto_region 1 with fail
 rw[←hW1]
 clear hW1
 obtain⟨n0,h0⟩:∃ n0,n0=w.heap.size:=⟨_,rfl⟩
 have Hn0:Hid (w.heap.size≤n0∧n0<W1.heap.size):=⟨by rw[h0];exact Nat.le_refl _,by rw[h0];exact bn HR.out⟩
 simp only[←h0] at HR ⊢
 clear h0
 by_cases he:ts.length=fs.length
 ·have e1:((ts.length:Int) != (fs.length:Int))=false:=by rw[he];simp
  have He:Hid (ts.length=fs.length):=he
  clear he
  go_wp2_with fail
  clear e1
  go_loopw [8,21] (fun v i wr=>∃ (k:Nat) (X:List Rv),k≤ts.length∧i=.int .i64 (k:Int)∧Hid (RwS W1 wr W1.heap.size k v X)∧Hid (mW n cd ts fs k X)) (fun _ i _=>ts.length - (intOf i).toNat)
  case atStart=>exact⟨0,[],Nat.zero_le _,rfl,⟨aB.Own.nil _ _ _ _,fun x hx=>(by cases hx),fun x hx=>(by cases hx),Nat.zero_le _,ay _ _⟩,rfl⟩
  case round =>
   obtain⟨k,X,hk,rfl,HS,HI⟩:=hrel
   obtain⟨U,hU⟩:∃ U,U=wr:=⟨_,rfl⟩
   subst hU
   obtain⟨q,cq,rfl⟩:=HS.out.own.form
   by_cases hlt:k<ts.length
   ·have hkf:k<fs.length:=by rw[←He.out];exact hlt
    obtain⟨g,off,cap,e1,R⟩:=dw (HA.out.keep HS.out.gr) hlt
    cases e1
    obtain⟨gf,fof,fcap,e2,RF⟩:=eB (HC.out.keep HS.out.gr) hkf
    cases e2
    have HStep:Hid (_=_):=HI.out.step hlt He.out
    obtain⟨t,ht⟩:∃ t,t=ts[k]:=⟨_,rfl⟩
    obtain⟨f,hf⟩:∃ f,f=fs[k]:=⟨_,rfl⟩
    rw[←ht,←hf] at HStep
    rw[←ht] at R
    rw[←hf] at RF
    obtain⟨c0,c1,c2,c3,c4,c5,c6,c7,c8,c9,c10⟩:=dh R
    obtain⟨V,hV⟩:∃ V,V=U.alloc (.cells #[.int .i64 t.card,.int .i64 t.owner,.int .u8 t.place,.int .i64 t.stamp,.int .i64 t.hurt,.int .i64 t.m0,.int .i64 t.m1,.int .i64 t.m2,.int .i64 t.m3,.int .i64 t.done,.bool t.fresh] 120):=⟨_,rfl⟩
    have HGV:Hid (U.grownBy V none):=by rw[hV];exact World.grownBy_alloc _ _ none
    have HBt:Hid (ThB V U.heap.size t):=by rw[hV];exact ak _ _ _
    have HSV:Hid (RwS W1 V W1.heap.size k (.slice q X.length cq) X):=HS.out.grow HGV.out
    have HRF:Hid (V.rangeAt gf (fof+k*5) (fec f)):=ba RF HGV.out
    have HMb:=uz bv t n V (fun Y g=>HB.out.len Y (aa HSV.out.gr g))
    obtain⟨mb,hmb⟩:∃ mb,mb=cj n t:=⟨_,rfl⟩
    rw[←hmb] at HMb HStep
    unfold thv at HMb
    have hlt':(k:Int)<ts.length:=Int.ofNat_lt.2 hlt
    have hkf':(k:Int)<fs.length:=Int.ofNat_lt.2 hkf
    have hwk:=aW (k:=k) (Nat.le_trans (Nat.le_of_lt hlt) (Nat.le_trans Hl.out (by decide)))
    have Hlt:Hid (k<ts.length):=hlt
    have HM:Hid (ts.length - (intOf (.int .i64 ((k:Int)+1))).toNat<ts.length - (intOf (.int .i64 (k:Int))).toNat):=bQ hlt
    clear R RF ht hf hmb hlt hkf hk HS HI
    go_upto_region 7 with fail
    rw[←hV]
    obtain⟨nb,hnb⟩:∃ nb,nb=U.heap.size:=⟨_,rfl⟩
    rw[←hnb] at HBt ⊢
    clear hV hnb c0 c1 c2 c3 c4 c5 c6 c7 c8 c9 c10
    obtain⟨x0,x1,x2,x3,x4,x5,x6,x7,x8,x9,x10⟩:=dj HBt.out
    go_wp2_with fail
    refine HMb.mono ?_
    rintro e4 w4 ⟨rfl,g4⟩
    have HG4:Hid (V.grownBy w4 none):=g4
    have HS4:Hid (RwS W1 w4 W1.heap.size k (.slice q X.length cq) X):=HSV.out.grow g4
    have HB4:Hid (ThB w4 nb t):=ai g4 HBt.out (by simp)
    have HR4:Hid (TbB w4 n0 (.slice none 0 0) (.slice none 0 0)):=ai HS4.out.gr HR.out (by simp)
    clear g4 HMb x0 x1 x2 x3 x4 x5 x6 x7 x8 x9 x10
    cases mb with
    | false =>
     have HX:Hid (dE n cd (ts.zip fs) 0 []=none):=by show _=_;rw[HStep.out,if_pos rfl]
     obtain⟨r0,r1⟩:=eu HR4.out
     have rf:=fun i=>aA HR4.out i
     go_wp2_with fail
     refine bodyPost_ret (v:=.tuple #[.agg #[.slice none 0 0,.slice none 0 0],.bool false]) (by simp[results,Tryz.results130,go_sem,r0,r1]) rfl (fj.no ?_ (Or.inr HX.out))
     exact aj (aj (aa HG1.out HS4.out.gr) Hn0.out.1 _ _) Hn0.out.1 _ _
    | true =>
     have x2:=(dj HB4.out).2.2.1
     by_cases hp:t.place=4
     ·have e4:(t.place != 4)=false:=by simpa using hp
      have Hp:Hid (t.place=4):=hp
      clear hp
      go_upto_region 10 with fail
      clear x2
      obtain⟨x0,x1,x2,x3,x4,x5,x6,x7,x8,x9,x10⟩:=dj HB4.out
      obtain⟨f0,f1,f2,f3,f4⟩:=bJ (ba HRF.out HG4.out)
      by_cases h16:X.length=16
      ·have e5:((X.length:Int) == 16)=true:=by rw[h16];rfl
       have HX:Hid (dE n cd (ts.zip fs) 0 []=none):=by show _=_;rw[HStep.out,if_neg (by decide),if_neg (fun q=>q Hp.out),if_pos (Or.inl (by rw[cm];exact h16))]
       clear h16 x0 x1 x2 x3 x4 x5 x6 x7 x8 x9 x10 f0 f1 f2 f3 f4
       refine wp_region_held_drew (S:=fun w'=>w4.grownBy w' none) (by kernel_rfl) (ag _) (fun hHeld=>?_)
       refine QZ 0 rfl ?_
       go_frame
       refine QZ 1 rfl ?_
       go_frame
       refine QZ 2 rfl ?_
       go_frame
       refine QZ 3 rfl ?_
       go_frame
       refine QN 4 rfl ?_
       go_frame
       refine QN 5 rfl ?_
       go_frame
       refine QN 6 rfl ?_
       go_frame
       refine QN 7 rfl ?_
       go_frame
       refine QN 8 rfl ?_
       go_frame
       refine QR 9 rfl (fun K hK=>?_)
       rw[if_neg (Bool.eq_false_iff.1 (by rfl))]
       refine hK.out _ _ (by assumption) (fun hHeld2=>?_)
       clear hK K
       (try go_frame)
       refine QN 10 rfl ?_
       go_frame
       refine QZ 11 rfl ?_
       go_frame
       refine QZ 12 rfl ?_
       go_frame
       refine QD ?_
       obtain⟨D4,hD4⟩:∃ D4,D4=w4.drew:=⟨_,rfl⟩
       have HRZ:Hid (TbB D4 n0 (.slice none 0 0) (.slice none 0 0)):=by rw[hD4];exact HR4.out
       have HGZ:Hid (W1.grownBy D4 none):=by rw[hD4];exact aa HS4.out.gr (ag _)
       rw[←hD4]
       clear hHeld hD4
       obtain⟨r0,r1⟩:=eu HRZ.out
       have rf:=fun i=>aA HRZ.out i
       go_wp2_with fail
       refine bodyPost_ret (v:=.tuple #[.agg #[.slice none 0 0,.slice none 0 0],.bool false]) (by simp[results,Tryz.results130,go_sem,r0,r1]) rfl (fj.no ?_ (Or.inr HX.out))
       exact aj (aj (aa HG1.out HGZ.out) Hn0.out.1 _ _) Hn0.out.1 _ _
      ·have e5:((X.length:Int) == 16)=false:=by simp;omega
       have Hx16:Hid (X.length<16):=by have:=HS4.out.few;show _<_;omega
       have HMl:=rR t f w4.drew
       obtain⟨ml,hml⟩:∃ ml,ml=aY t f:=⟨_,rfl⟩
       rw[←hml] at HMl HStep
       unfold thv fev at HMl
       clear hml h16
       refine wp_region_held_drew (S:=fun w'=>w4.grownBy w' none) (by kernel_rfl) (ag _) (fun hHeld=>?_)
       refine QZ 0 rfl ?_
       go_frame
       refine QZ 1 rfl ?_
       go_frame
       refine QZ 2 rfl ?_
       go_frame
       refine QZ 3 rfl ?_
       go_frame
       refine QT 4 rfl (by intro w0 hSw;have x0:=hSw.cell x0 (by simp);have x1:=hSw.cell x1 (by simp);have x2:=hSw.cell x2 (by simp);have x3:=hSw.cell x3 (by simp);have x4:=hSw.cell x4 (by simp);have x5:=hSw.cell x5 (by simp);have x6:=hSw.cell x6 (by simp);have x7:=hSw.cell x7 (by simp);have x8:=hSw.cell x8 (by simp);have x9:=hSw.cell x9 (by simp);have x10:=hSw.cell x10 (by simp);go_simp;try with_reducible rfl) ?_
       go_frame
       refine QZ 5 rfl ?_
       go_frame
       refine QZ 6 rfl ?_
       go_frame
       refine QZ 7 rfl ?_
       go_frame
       refine QT 8 rfl (by intro w0 hSw;have f0:=hSw.cell f0 (by simp);have f1:=hSw.cell f1 (by simp);have f2:=hSw.cell f2 (by simp);have f3:=hSw.cell f3 (by simp);have f4:=hSw.cell f4 (by simp);go_simp;try with_reducible rfl) ?_
       go_frame
       refine QR 9 rfl (fun K hK=>?_)
       rw[if_pos (by rfl)]
       go_simp
       go_at_call 191
       refine(HMl).mono ?_
       rintro e5' w5 ⟨rfl,g5⟩
       have HG5:Hid (w4.grownBy w5 none):=aa (ag _) g5
       clear g5 HMl
       refine hK.out _ _ (HG5.out) (fun hHeld2=>?_)
       clear hK K
       (try go_frame)
       refine QZ 10 rfl ?_
       go_frame
       refine QZ 11 rfl ?_
       go_frame
       refine QZ 12 rfl ?_
       go_frame
       refine QD ?_
       clear hHeld hHeld2 x0 x1 x2 x3 x4 x5 x6 x7 x8 x9 x10 f0 f1 f2 f3 f4
       cases ml with
       | false =>
        have HX:Hid (dE n cd (ts.zip fs) 0 []=none):=by show _=_;rw[HStep.out,if_neg (by decide),if_neg (fun q=>q Hp.out),if_pos (Or.inr rfl)]
        have HRZ:Hid (TbB w5 n0 (.slice none 0 0) (.slice none 0 0)):=ai HG5.out HR4.out (by simp)
        have HGZ:Hid (W1.grownBy w5 none):=aa HS4.out.gr HG5.out
        obtain⟨r0,r1⟩:=eu HRZ.out
        have rf:=fun i=>aA HRZ.out i
        go_wp2_with fail
        refine bodyPost_ret (v:=.tuple #[.agg #[.slice none 0 0,.slice none 0 0],.bool false]) (by simp[results,Tryz.results130,go_sem,r0,r1]) rfl (fj.no ?_ (Or.inr HX.out))
        exact aj (aj (aa HG1.out HGZ.out) Hn0.out.1 _ _) Hn0.out.1 _ _
       | true =>
        have HB5:Hid (ThB w5 nb t):=ai HG5.out HB4.out (by simp)
        have HS5:Hid (RwS W1 w5 W1.heap.size k (.slice q X.length cq) X):=HS4.out.grow HG5.out
        obtain⟨x,HCd⟩:=HB.out.card w5 t HS5.out.gr
        have hfew:=HB.out.few t.card
        obtain⟨h,hh⟩:∃ h,h=(cd t.card).1:=⟨_,rfl⟩
        obtain⟨ps,hps⟩:∃ ps,ps=(cd t.card).2:=⟨_,rfl⟩
        rw[←hh,←hps] at HCd
        rw[←hh,←hps] at HStep
        rw[←hps] at hfew
        have Hfew:Hid (ps.length≤4):=hfew
        unfold kX cv thv at HCd
        obtain⟨x0,x1,x2,x3,x4,x5,x6,x7,x8,x9,x10⟩:=dj HB5.out
        clear hh hps hfew
        go_wp2_with fail
        refine HCd.mono ?_
        rintro e6 w6 ⟨u,rfl,o6,g6⟩
        obtain⟨a2,k2,rfl⟩:=o6.at.form
        obtain⟨V7,hV7⟩:∃ V7,V7=w6.alloc (.cells #[.string h.nm,.int .u8 h.su,.int .u8 h.kd,.int .i64 h.co,.int .i64 h.po,.int .i64 h.he,.int .u16 h.tr,.bool h.tk,.slice a2 ps.length k2] 111):=⟨_,rfl⟩
        have HG7:Hid (w5.grownBy V7 none):=by rw[hV7];exact am g6 _
        have HS7:Hid (RwS W1 V7 W1.heap.size k (.slice q X.length cq) X):=HS5.out.grow HG7.out
        have HPO:Hid (bA V7 W1.heap.size (.slice a2 ps.length k2) ps):=by show bA _ _ _ _;rw[hV7];exact aT (ar o6 (World.grownBy_alloc _ _ none)) HS5.out.gr.size
        have HK7:Hid (V7.heap[w6.heap.size]?=some (.cells #[.string h.nm,.int .u8 h.su,.int .u8 h.kd,.int .i64 h.co,.int .i64 h.po,.int .i64 h.he,.int .u16 h.tr,.bool h.tk,.slice a2 ps.length k2] 111 (0,0))):=by rw[hV7];exact ak _ _ _
        have HB7:Hid (ThB V7 nb t):=ai HG7.out HB5.out (by simp)
        have HR7:Hid (TbB V7 n0 (.slice none 0 0) (.slice none 0 0)):=ai HS7.out.gr HR.out (by simp)
        clear HCd o6 g6 x0 x1 x2 x3 x4 x5 x6 x7 x8 x9 x10
        go_upto_region 13 with fail
        rw[←hV7]
        obtain⟨nc,hnc⟩:∃ nc,nc=w6.heap.size:=⟨_,rfl⟩
        rw[←hnc] at HK7 ⊢
        clear hV7 hnc
        have d2:=(ae HK7.out 2).trans (show _=some (.int .u8 h.kd) from rfl)
        by_cases hkd:h.kd=2
        ·have HX:Hid (dE n cd (ts.zip fs) 0 []=none):=by show _=_;rw[HStep.out,if_neg (by decide),if_neg (fun q=>q Hp.out),if_neg (fun q=>by rcases q with q | q;(rw[cm] at q;have:=Hx16.out;omega);cases q),if_pos hkd]
         have e7:(h.kd == 2)=true:=by simpa using hkd
         have HRZ:Hid (TbB V7 n0 (.slice none 0 0) (.slice none 0 0)):=HR7.out
         have HGZ:Hid (W1.grownBy V7 none):=HS7.out.gr
         clear hkd
         obtain⟨r0,r1⟩:=eu HRZ.out
         have rf:=fun i=>aA HRZ.out i
         go_wp2_with fail
         refine bodyPost_ret (v:=.tuple #[.agg #[.slice none 0 0,.slice none 0 0],.bool false]) (by simp[results,Tryz.results130,go_sem,r0,r1]) rfl (fj.no ?_ (Or.inr HX.out))
         exact aj (aj (aa HG1.out HGZ.out) Hn0.out.1 _ _) Hn0.out.1 _ _
        ·have e7:(h.kd == 2)=false:=by simpa using hkd
         obtain⟨xr,hxr⟩:∃ xr:Rv,xr=⟨⟨(k:Int)+1,t.stamp,h,ps⟩,a2,k2⟩:=⟨_,rfl⟩
         have HX:Hid (mW n cd ts fs (k+1) (X++[xr])):=by
          show dE _ _ _ _ _=_
          rw[HStep.out,if_neg (by decide),if_neg (fun q=>q Hp.out),if_neg (fun q=>by rcases q with q | q;(rw[cm] at q;have:=Hx16.out;omega);cases q),if_neg hkd]
          unfold rws
          rw[List.map_append,hxr]
          rfl
         have HLn:Hid (X.length+1≤maxLen∧(X.length+1)*96≤140737488355328):=tP Hx16.out
         have HO7:Hid (V7.ownsRow W1.heap.size 230 11 (.slice q X.length cq) X.length (rvR.cs X)):=HS7.out.own
         have HXr:Hid (rvc xr=[.int .i64 ((k:Int)+1),.int .i64 t.stamp,.string h.nm,.int .u8 h.su,.int .u8 h.kd,.int .i64 h.co,.int .i64 h.po,.int .i64 h.he,.int .u16 h.tr,.bool h.tk,.slice a2 ps.length k2]):=by rw[hxr];rfl
         have HSrc:Hid (Src (V7.alloc (.cells #[.int .i64 ((k:Int)+1),.int .i64 t.stamp,.string h.nm,.int .u8 h.su,.int .u8 h.kd,.int .i64 h.co,.int .i64 h.po,.int .i64 h.he,.int .u16 h.tr,.bool h.tk,.slice a2 ps.length k2] 230)) (.slice (some ⟨V7.heap.size,0,none⟩) 1 1) 1 11 (rvc xr)):=by rw[hxr];exact BG V7 _
         have d0:=(ae HK7.out 0).trans (show _=some (.string h.nm) from rfl)
         have d1:=(ae HK7.out 1).trans (show _=some (.int .u8 h.su) from rfl)
         have d3:=(ae HK7.out 3).trans (show _=some (.int .i64 h.co) from rfl)
         have d4:=(ae HK7.out 4).trans (show _=some (.int .i64 h.po) from rfl)
         have d5:=(ae HK7.out 5).trans (show _=some (.int .i64 h.he) from rfl)
         have d6:=(ae HK7.out 6).trans (show _=some (.int .u16 h.tr) from rfl)
         have d7:=(ae HK7.out 7).trans (show _=some (.bool h.tk) from rfl)
         have d8:=(ae HK7.out 8).trans (show _=some (.slice a2 ps.length k2) from rfl)
         have y3:=(dj HB7.out).2.2.2.1
         have Hxr:Hid (xr=⟨⟨(k:Int)+1,t.stamp,h,ps⟩,a2,k2⟩):=hxr
         clear hkd hxr
         go_wp2_with (at_builtin;refine aX (by rfl) (.tmp 60) (.tmp 67) 123 rfl W1.heap.size 230 i0 _ 11 96 Tryz.underlying123 hi hz0 hz1 hz2 rfl (by decide) _ X.length (rvR.cs X) rfl (World.ownsRow.alloc HO7.out _) _ 1 (rvc xr) rfl HSrc.out (rp xr) HLn.out.1 HLn.out.2 (by rw[World.size_alloc];exact Nat.le_succ_of_le HS7.out.gr.size) ?_;intro v8 w8 o8 g8 _;have HO8:Hid _:=o8;have HG8:Hid _:=g8;clear o8 g8)
         have HS8:Hid (RwS W1 w8 W1.heap.size (k+1) v8 (X++[xr])):=by
          have hs9:=HS7.out.grow (World.grownBy_alloc V7 (.cells #[.int .i64 ((k:Int)+1),.int .i64 t.stamp,.string h.nm,.int .u8 h.su,.int .u8 h.kd,.int .i64 h.co,.int .i64 h.po,.int .i64 h.he,.int .u16 h.tr,.bool h.tk,.slice a2 ps.length k2] 230) none)
          refine⟨aB.more HO8.out rfl,fun x hx=>?_,fun x hx=>?_,by rw[List.length_append,List.length_singleton];have:=Hx16.out;omega,az (am HS7.out.gr _) HG8.out (fun y e=>(World.ownsRow.lt HO7.out y e).1)⟩
          ·rcases List.mem_append.1 hx with hx | hx
           ·exact⟨bw (hs9.ps x hx).1 hs9.own (by decide) HG8.out,(hs9.ps x hx).2⟩
           ·rw[List.mem_singleton.1 hx,Hxr.out]
            exact⟨bw (ar HPO.out (World.grownBy_alloc _ _ none)) hs9.own (by decide) HG8.out,Hfew.out⟩
          ·rcases List.mem_append.1 hx with hx | hx
           ·have:=HS7.out.nu x hx
            exact⟨this.1,by have:=this.2;omega⟩
           ·rw[List.mem_singleton.1 hx,Hxr.out]
            exact⟨by show (1:Int)≤(k:Int)+1;omega,by show (k:Int)+1≤_;omega⟩
         clear HO8 HG8
         go_roundw
         case rel=>exact⟨k+1,X++[xr],Hlt.out,by first | rfl | (rw[hwk];rfl) | go_num,HS8.out,HX.out⟩
         case measure=>first | exact HM.out | (rw[hwk];exact HM.out)
     ·have e4:(t.place != 4)=true:=by simpa using hp
      have HX:Hid (mW n cd ts fs (k+1) X):=by show dE _ _ _ _ _=_;rw[HStep.out,if_neg (by decide),if_pos hp]
      clear hp
      go_wp2_with fail
      go_roundw
      case rel=>exact⟨k+1,X,Hlt.out,by first | rfl | (rw[hwk];rfl) | go_num,HS4.out.next,HX.out⟩
      case measure=>first | exact HM.out | (rw[hwk];exact HM.out)
   ·obtain rfl:k=ts.length:=Nat.le_antisymm hk (Nat.le_of_not_lt hlt)
    have HX:Hid (dE n cd (ts.zip fs) 0 []=some (rws X)):=by
     have q:=HI.out
     unfold mW at q
     rw[List.drop_eq_nil_of_le (by rw[List.length_zip,He.out];simp)] at q
     exact q.symm
    have HSo:=qe _ X W1.heap.size U HS.out.own HS.out.few
    have HU:Hid (RwS W1 U W1.heap.size ts.length (.slice q X.length cq) X):=HS.out
    clear HS HI hlt hk
    go_wp2_with fail
    refine HSo.mono ?_
    rintro e5 w5 ⟨rfl,X',hp,hso,o5,g5⟩
    have HP:Hid (X'.Perm X):=hp
    have Hso:Hid ((rws X').Pairwise fun a b=>a.st≤b.st):=by show List.Pairwise _ _;unfold rws;rw[List.pairwise_map];exact hso
    have hlen:X'.length=X.length:=hp.length_eq
    have HG5:Hid (W1.grownBy w5 none):=az HU.out.gr g5 (fun y e=>(World.ownsRow.lt HU.out.own y e).1)
    have HO5:Hid (zW w5 W1.heap.size (.slice q X.length cq) X'):=o5
    have HPs:Hid (∀ x∈X',bA w5 W1.heap.size x.u x.r.ps∧x.r.ps.length≤4):=fun x hx=>⟨bw (HU.out.ps x (hp.mem_iff.1 hx)).1 HU.out.own (by decide) g5,(HU.out.ps x (hp.mem_iff.1 hx)).2⟩
    have HNu:Hid (∀ x∈X',1≤x.r.nu∧x.r.nu≤(fs.length:Int)):=fun x hx=>by rw[←He.out];exact HU.out.nu x (hp.mem_iff.1 hx)
    have H16:Hid (X'.length≤16):=by show _≤_;rw[hlen];exact HU.out.few
    have HPk:=vV (.slice q X.length cq) _ X' fs w5 o5.at (HC.out.keep HG5.out) (fun i hi=>yv HNu.out hi) (Hm.out He.out) H16.out
    clear HSo hp hso o5 g5 hlen
    go_wp2_with fail
    refine HPk.mono ?_
    rintro e6 w6 ⟨v6,rfl,o6,g6⟩
    have HG6:Hid (w5.grownBy w6 none):=g6
    have HO6:Hid (dt w6 w5.heap.size v6 (aq (rws X') fs)):=o6
    obtain⟨p6,c6,rfl⟩:=o6.form
    have HSt:=rv (.slice q X.length cq) X' w6 (HO5.out.at.keep g6) H16.out
    obtain⟨dd,hdd⟩:∃ dd,dd=dif (bm (rws X')):=⟨_,rfl⟩
    have Hdd:Hid (dd=dif (bm (rws X'))):=hdd
    rw[←hdd] at HSt
    obtain⟨pn,hpn⟩:∃ pn,pn=(aq (rws X') fs).length:=⟨_,rfl⟩
    rw[←hpn] at HO6 ⊢
    have HO6':Hid (w6.ownsRow w5.heap.size 122 5 (.slice p6 pn c6) (aq (rws X') fs).length (feR.cs (aq (rws X') fs))):=HO6.out
    clear HPk o6 g6 hdd hpn
    go_wp2_with fail
    refine HSt.mono ?_
    rintro e7 w7 ⟨rfl,g7⟩
    have HG7:Hid (w6.grownBy w7 none):=g7
    have HGW:Hid (W1.grownBy w7 none):=aa HG5.out (aa HG6.out g7)
    obtain⟨r0,r1⟩:=eu (show TbB w7 n0 _ _ from ai HGW.out HR.out (by simp))
    have rf:=fun i=>aA (show TbB w7 n0 _ _ from ai HGW.out HR.out (by simp)) i
    clear HSt g7
    go_wp2_with fail
    refine bodyPost_ret (v:=.tuple #[.agg #[.slice q X.length cq,.slice p6 pn c6],.bool dd]) (by simp[results,Tryz.results130,go_sem,r0,r1]) rfl ⟨_,_,_,_,_,_,dd,rfl,?_,Or.inr ⟨rws X,X',He.out,HX.out,?_,Hso.out,Hdd.out,?_,HNu.out⟩⟩
    ·exact aj (aj (aa HG1.out HGW.out) Hn0.out.1 _ _) Hn0.out.1 _ _
    ·exact HP.out.map _
    ·have q1:=aa (aw w7 n0 0 (.slice q X.length cq)) (aw (w7.setCell ⟨n0,0,none⟩ (.slice q X.length cq)) n0 1 (.slice p6 pn c6))
     have q67:=aa HG6.out HG7.out
     exact⟨aT (gn (ar HO5.out q67) q1 Hn0.out.2) HG1.out.size,fun x hx=>⟨aT (gn (ar (HPs.out x hx).1 q67) q1 Hn0.out.2) HG1.out.size,(HPs.out x hx).2⟩,aT (gn (ar HO6'.out HG7.out) q1 (Nat.lt_of_lt_of_le Hn0.out.2 HG5.out.size)) (Nat.le_trans HG1.out.size HG5.out.size),by unfold aq;rw[List.length_map,cm],H16.out⟩
 ·have e1:((ts.length:Int) != (fs.length:Int))=true:=by simp;omega
  obtain⟨r0,r1⟩:=eu HR.out
  have rf:=fun i=>aA HR.out i
  have He:Hid (ts.length≠fs.length):=he
  clear he
  go_wp2_with fail
  refine bodyPost_ret (v:=.tuple #[.agg #[.slice none 0 0,.slice none 0 0],.bool false]) (by simp[results,Tryz.results130,go_sem,r0,r1]) rfl (fj.no ?_ (Or.inl He.out))
  exact aj (aj HG1.out Hn0.out.1 _ _) Hn0.out.1 _ _
end Go.Proofs.YtjmepebbcnhalaaGreat
