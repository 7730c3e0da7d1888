import Derived.Test.YtjmepebbcnhalaaGreatWLyY
import Derived.Deep.RegionLaw
import Derived.Lib.SliceRun
import Derived.Test.YtjmepebbcnhalaaGreatW0
namespace Go.Proofs.YtjmepebbcnhalaaGreat
set_option maxHeartbeats 4000000
set_option maxRecDepth 100000
open Go.RowKit
theorem AE {w:World} {base e size g n m cap:Nat} {xs:List Value} (h:w.ownsRow base e size (.slice (some ⟨g,0,none⟩) n cap) n xs) (hm:m≤n):w.ownsRow base e size (.slice (some ⟨g,0,none⟩) m cap) m (xs.take (m*size)):=by
 have h2:m*size≤n*size:=Nat.mul_le_mul_right _ hm
 refine⟨by rw[List.length_take,h.1];omega,?_⟩
 rcases h.2 with ⟨e1,_⟩ | ⟨g',cap',cur,e1,hb,hh,hc,hx,hs,ht⟩
 ·cases e1
 ·cases e1
  refine Or.inr ⟨g,cap,cur,rfl,hb,hh,Nat.le_trans hm hc,hx,hs,?_⟩
  rw[←ht,List.take_take,Nat.min_eq_left h2]
theorem xx {zs:Array Value} (h:∀ v∈zs.toList,v.oneCell'=true) (hz:0<zs.size) (n:Nat):∀ v∈(Builtin.zeroCells zs n).toList,v.oneCell'=true:=fun v hv=>by
 unfold Builtin.zeroCells at hv
 simp at hv
 obtain⟨i,_,rfl⟩:=hv
 have hi:i % zs.size<zs.size:=Nat.mod_lt _ hz
 rw[getElem!_pos zs _ hi]
 exact h _ (by simp)
theorem lE (zs:Array Value) (n:Nat):(Builtin.zeroCells zs n).toList.length=n*zs.size:=by unfold Builtin.zeroCells;simp
theorem sW {P:Program} (w:World) (t e ty:TypeId) (zs:Array Value) (ht:P.underlying t=some (.slice e)) (hv:∀ w,(zeroValue e).run P w=.ok (.agg zs) w) (h1:∀ v∈zs.toList,v.oneCell'=true) (hz:0<zs.size) (b o n c:Nat) (hn:0<n)
  (hc:w.there b o (n*zs.size)) :
  (Builtin.clear_ #[t] ty #[.slice (some ⟨b,o,none⟩) n c]).run P w=.ok (.tuple #[]) (w.setCells b o (Builtin.zeroCells zs n).toList):=by
 have hst:=run_storeCells_cells (P:=P) b o (Builtin.zeroCells zs n).toList 0 w (fun j hj=>by rw[lE] at hj;exact(hc j hj).1) (fun j hj=>by rw[lE] at hj;exact(hc j hj).2) (xx h1 hz n)
 simp only[Nat.add_zero] at hst
 obtain⟨m,rfl⟩:∃ m,n=m+1:=⟨n - 1,by omega⟩
 simp[Builtin.clear_,run_underlying ht,hv,Value.cells,hst]
theorem wS {R:aB Se} {L:List Se} {i j:Nat} {zs:List Value} (hij:i<j) (hj:j≤L.length) (hz:zs.length=(j - i)*R.k):(dF (dF (R.cs L) (i*R.k) (R.cs (L.drop j))) ((i+(L.length - j))*R.k) zs).take ((i+(L.length - j))*R.k)=R.cs (L.take i++L.drop j):=by
 have e1:(i+(L.length - j))*R.k+(j - i)*R.k=L.length*R.k:=by rw[←Nat.add_mul];congr 1;omega
 have e2:i*R.k+(L.drop j).length*R.k=(i+(L.length - j))*R.k:=by rw[List.length_drop,←Nat.add_mul]
 have e3:i*R.k+(L.drop j).length*R.k≤L.length*R.k:=by rw[e2];omega
 have h1:dF (R.cs L) (i*R.k) (R.cs (L.drop j))=R.cs (L.take i)++(R.cs (L.drop j)++(R.cs L).drop (i*R.k+(R.cs (L.drop j)).length)):=by rw[f9 _ _ _ (by rw[R.len,R.len];exact e3),R.take]
 have l1:(dF (R.cs L) (i*R.k) (R.cs (L.drop j))).length=L.length*R.k:=by
  rw[h1,List.length_append,List.length_append,List.length_drop,R.len,R.len,R.len,List.length_take,Nat.min_eq_left (by omega)]
  omega
 have hl:(R.cs (L.take i++L.drop j)).length=(i+(L.length - j))*R.k:=by rw[R.len,List.length_append,List.length_take,List.length_drop,Nat.min_eq_left (by omega)]
 rw[f9 _ _ _ (by rw[l1,hz];omega),List.take_append_of_le_length (by rw[List.length_take,l1];omega),List.take_take,Nat.min_self,h1,←List.append_assoc,←R.app,List.take_append_of_le_length (by rw[hl];exact Nat.le_refl _),List.take_of_length_le (by rw[hl];exact Nat.le_refl _)]
def zS:Array Value:=#[.int .i64 0,.int .i64 0,.int .u8 0,.int .u8 0,.int .u8 0,.int .i64 0,.int .u8 0,.int .u8 0,.int .u8 0,.string ⟨#[]⟩,.int .i64 0]
theorem AD:∀ v∈zS.toList,v.oneCell'=true:=by
 unfold zS
 simp
 exact⟨rfl,rfl,rfl,rfl,rfl,rfl⟩
theorem sE (base g cap i j:Nat) (L:List Se) (w:World) (O:dB w base (.slice (some ⟨g,0,none⟩) L.length cap) L) (hij:i<j) (hj:j≤L.length):Calls Tryz.prog 70 #[.slice (some ⟨g,0,none⟩) L.length cap,.int .i64 (i:Int),.int .i64 (j:Int)] w fun e w'=>e=.returned (.slice (some ⟨g,0,none⟩) (i+(L.length - j)) cap)∧dB w' base (.slice (some ⟨g,0,none⟩) (i+(L.length - j)) cap) (L.take i++L.drop j)∧w.grownBy w' (some g):=by
 obtain⟨i0,hi0,hz0,hz1,hz2⟩:=info_parts Tryz.linfoS
 obtain⟨g',cap',e',_,_,hcap,hmx,hcell⟩:=cc O (by omega)
 injection e' with e1 e2 e3
 injection e1 with e1
 injection e1 with e1
 subst e1
 subst e3
 obtain⟨n,hn⟩:∃ n,n=L.length:=⟨_,rfl⟩
 rw[←hn] at hj hcap hcell ⊢
 have hm:cap≤9223372036854775807:=by unfold maxLen at hmx;omega
 have HN:Hid (n=L.length):=hn
 have HO:Hid (w.ownsRow base 131 11 (.slice (some ⟨g,0,none⟩) n cap) n (seR.cs L)):=by show World.ownsRow _ _ _ _ _ _ _;rw[hn];exact O
 obtain⟨news,hnews⟩:∃ news,news=seR.cs (L.drop j):=⟨_,rfl⟩
 have hlen:news.length=(n - j)*11:=by rw[hnews,seR.len,List.length_drop,←hn];rfl
 have hget:∀ t u,news[t]?=some u→w.cell? ⟨g,j*11+t,none⟩=some u:=fun t u hu=>by
  have ht:t<(n - j)*11:=by have:=(List.getElem?_eq_some_iff.1 hu).1;rwa [hlen] at this
  rw[(hcell (j*11+t) (by show _<n*11;omega)).1,←List.getElem?_drop]
  rw[hnews] at hu
  rw[←hu]
  exact congrArg (·[t]?) (seR.drop L j)
 obtain⟨A,hA,hsrc⟩:∃ A:Addr,(if cap=j then some (⟨g,0,none⟩:Addr) else some ⟨g,j*11,none⟩)=some A∧Hid (∀ t u,news[t]?=some u→w.drew.cell? (A.add t)=some u):=by
  by_cases h:cap=j
  ·refine⟨⟨g,0,none⟩,by simp[h],fun t u hu=>?_⟩
   have h0:news.length=0:=by rw[hlen];omega
   rw[List.length_eq_zero_iff.1 h0] at hu
   simp at hu
  ·exact⟨⟨g,j*11,none⟩,by simp[h],fun t u hu=>by rw[ii];exact hget t u hu⟩
 have s1:Hid (news.length=(n - j)*11):=hlen
 have s2:Hid (∀ u∈news,u.oneCell'=true):=by rw[hnews];exact seR.ones _
 have s3:Hid (∀ t,t<news.length→(w.drew.cell? ⟨g,0+i*11+t,none⟩).isSome=true∧w.drew.frozen? ⟨g,0+i*11+t,none⟩=false):=by
  intro t ht
  rw[hlen] at ht
  rw[Nat.zero_add]
  have hq:i*11+t<n*11:=by omega
  refine⟨?_,(hcell _ hq).2⟩
  show (w.cell? _).isSome=true
  rw[(hcell _ hq).1,List.getElem?_eq_getElem (by rw[seR.len,←hn];exact hq)]
  rfl
 obtain⟨W1,hW1⟩:∃ W1,W1=w.drew.setCells g (0+i*11) news:=⟨_,rfl⟩
 have o1:=dP news (seR.cs L) (i*11) w.drew (show w.drew.ownsRow base 131 11 (.slice (some ⟨g,0,none⟩) n cap) n (seR.cs L) from HO.out)
 have eW:w.drew.setCells g (i*11) news=W1:=by rw[hW1,Nat.zero_add]
 rw[eW] at o1
 have HO1:Hid (W1.ownsRow base 131 11 (.slice (some ⟨g,0,none⟩) n cap) n (dF (seR.cs L) (i*11) news)):=o1.1
 have HGW:Hid (w.grownBy W1 (some g)):=aa (bP w _) o1.2
 obtain⟨c,hc⟩:∃ c,c=i+(n - j):=⟨_,rfl⟩
 have hcn:n - c=j - i:=by omega
 have hcl:∀ ty,(Builtin.clear_ #[126] ty #[.slice (some ⟨g,c*11,none⟩) (n - c) (cap - c)]).run Tryz.prog W1=.ok (.tuple #[]) (W1.setCells g (c*11) (Builtin.zeroCells zS (n - c)).toList):=fun ty=>sW W1 _ 131 ty zS Tryz.underlying126 (fun w=>Tryz.zeroValue131 w) AD (by decide) g (c*11) (n - c) (cap - c) (by omega) (fun t ht=>by
  have ht':t<(n - c)*11:=ht
  have hq:c*11+t<n*11:=by omega
  refine⟨?_,World.ownsRow.frozenAt o1.1 _⟩
  rw[World.ownsRow.cellAt o1.1 (c*11+t) hq,List.getElem?_eq_getElem (by rw[o1.1.1];exact hq)]
  rfl)
 have hW:Hid (W1=w.drew.setCells g (0+i*11) news):=hW1
 have HCz:Hid ((Builtin.zeroCells zS (n - c)).toList.length=(j - i)*11):=by show _=_;rw[lE,hcn];rfl
 have Hnews:Hid (news=seR.cs (L.drop j)):=hnews
 have Hc:Hid (c=i+(n - j)):=hc
 have hc1:(i:Int)+((n - j:Nat):Int)=(c:Int):=by omega
 have hic:i≤cap:=by omega
 have hjc:j≤cap:=by omega
 have hcc:c≤cap:=by omega
 have hcn2:c≤n:=by omega
 have hcne:¬cap=c:=by omega
 have Hcn:Hid (c<n):=by show _<_;omega
 clear hW1 hget hnews hlen o1 eW O hcell hn hcn
 rw[←hc]
 clear hc hc1
 go_enter Tryz.func70,Tryz.ntmps70
 go_wp2_with fail
 go_region_law (refine step_append_room rfl (.tmp 22) (.tmp 25) 126 rfl 131 i0 11 Tryz.underlying126 hi0 hz1 g 0 i cap (by simp[Act.eval,Act.put]) A (n - j) (cap - j) news (by simp[Act.eval,Act.put]) s1.out hsrc.out s2.out (by omega) s3.out ?_;rw[←hW.out])
 rw[←Hc.out]
 go_wp2
 go_ret
 have o2:=dP (Builtin.zeroCells zS (n - c)).toList _ (c*11) W1 HO1.out
 refine⟨rfl,?_,aa HGW.out o2.2⟩
 have o3:=AE o2.1 (Nat.le_of_lt Hcn.out)
 have e9:=wS (R:=seR) (L:=L) (i:=i) (j:=j) (zs:=(Builtin.zeroCells zS (n - c)).toList) hij (by rw[←HN.out];exact hj) HCz.out
 rw[←HN.out,←Hc.out,←Hnews.out] at e9
 have e10:(dF (dF (seR.cs L) (i*11) news) (c*11) (Builtin.zeroCells zS (n - c)).toList).take (c*11)=seR.cs (L.take i++L.drop j):=e9
 rw[e10] at o3
 unfold dB aB.Own
 rw[show (L.take i++L.drop j).length=c from by rw[List.length_append,List.length_take,List.length_drop,←HN.out,Hc.out,Nat.min_eq_left (by omega)]]
 exact o3
def dR (w:World) (base:Nat) (v:Value) (L:List Sd):Prop:=sdR.Own 64 w base v L
theorem Tryz.linfoD:(Tryz.prog.info? 64).map (fun i=>(i.zero,i.size,i.bytes))=some (some (.agg #[.int .i64 0,.int .i64 0,.int .u8 0,.int .u8 0,.int .u8 0,.int .i64 0,.int .u8 0,.int .u8 0,.int .u8 0,.string ⟨#[]⟩]),10,56):=by kernel_rfl
theorem yj (Z:World) (s:Sd):Src (Z.alloc (.cells (sdc s).toArray 64)) (.slice (some ⟨Z.heap.size,0,none⟩) 1 1) 1 10 (sdc s):=ij (cs:=(sdc s).toArray) (ak Z _ _) rfl 1
theorem mA {n:Nat} (h:n≤4096):n+1≤maxLen∧(n+1)*56≤140737488355328:=by unfold maxLen;omega
theorem jw {r n:Int} {cd:Int→Hd×List Pt} {ts:List Th} {fs:List Fe} {k:Int} (h:bgE r n cd ts fs k=0):r=0∧(1≤k∧k≤5)∧∃ R,bi n cd ts fs=some R:=by
 unfold bgE at h
 split at h
 ·rename_i h0
  split at h
  ·rename_i h1
   obtain⟨a,R,b⟩:=ib h0
   exact⟨a,h1,R,b⟩
  ·cases h
 ·rename_i h0
  exact absurd h h0
theorem tQ {n:Int} {cd:Int→Hd×List Pt} {ts:List Th} {fs:List Fe} {k:Int} {R:List Rw} (h:bi n cd ts fs=some R) (hk:1≤k∧k≤5):bgE 0 n cd ts fs k=0:=by
 unfold bgE
 rw[if_pos (eI h),if_pos hk]
theorem vq {k nu:Int} {ro:Nat} {ps:List Pt} {m:Nat} {e:Se} (h:e∈eN k nu ro ps m):e.ro=ro:=by
 unfold eN at h
 obtain⟨i,_,q⟩:=List.mem_filterMap.1 h
 split at q
 ·cases q;rfl
 ·cases q
theorem Bo {R:List Rw} {F:List Fe} {k:Int} {e:Se} (h:e∈cU R F k):e.ro<R.length:=by
 unfold cU hJ at h
 obtain⟨i,hi,q⟩:=List.mem_flatMap.1 h
 unfold iG at q
 split at q
 ·cases q
 ·rw[vq q]
  exact List.mem_range.1 hi
theorem rN {X:List Rv} {F:List Fe} {k:Int} (h4:∀ x∈X,x.r.ps.length≤4) (h16:X.length≤16):(cU (rws X) F k).length≤64:=by
 unfold cU
 have:=j3 (R:=rws X) (F:=F) (k:=k) (fun i=>by
  by_cases h:i<X.length
  ·rw[fA h];exact h4 _ (List.getElem_mem h)
  ·rw[List.getD_eq_getElem?_getD,List.getElem?_eq_none (by rw[cm];omega)];exact Nat.zero_le _) (rws X).length
 rw[cm] at this ⊢
 omega
def ft (w:World) (r n:Int) (cd:Int→Hd×List Pt) (ts:List Th) (fs:List Fe) (k:Int) (e:Ending) (w':World):Prop:=∃ p m c,e=.returned (.tuple #[.slice p m c,.int .i64 (bgE r n cd ts fs k)])∧w.grownBy w' none∧(bgE r n cd ts fs k≠0→m=0∧p=none∧c=0)∧∀ R,r=0→1≤k∧k≤5→bi n cd ts fs=some R→dR w' w.heap.size (.slice p m c) ((cU R (aq R fs) k).map Se.s)
theorem zB {L:List Se} {k:Nat} (h:k<L.length):(L.take (k+1)).map Se.s=(L.take k).map Se.s++[(L.getD k Se.none).s]:=by
 rw[aC h,List.take_add_one,List.getElem?_eq_getElem h,List.map_append]
 rfl
theorem oW (bv vt vf:Value) (r n:Int) (cd:Int→Hd×List Pt) (ts:List Th) (fs:List Fe) (k:Int) (w:World) (I:LIn w bv vt vf r n cd ts fs):Calls Tryz.prog 13 #[bv,vt,vf,.int .i64 k] w (ft w r n cd ts fs k):=by
 obtain⟨i0,hi,hz0,hz1,hz2⟩:=info_parts Tryz.linfoD
 obtain⟨pt,ct,rfl⟩:=I.things.form
 obtain⟨pf,cf,rfl⟩:=I.feats.form
 have HBg:=mN bv _ _ r n cd ts fs k w I
 unfold iN tbv at HBg
 have HI:Hid (LIn w bv (.slice pt ts.length ct) (.slice pf fs.length cf) r n cd ts fs):=I
 clear I
 go_enter Tryz.func13,Tryz.ntmps13
 go_wp2_with fail
 refine HBg.mono ?_
 rintro e2 w2 ⟨p1,m1,c1,p2,m2,c2,p3,m3,c3,rfl,g2,h2⟩
 obtain⟨q,hq⟩:∃ q,q=bgE r n cd ts fs k:=⟨_,rfl⟩
 have Hq:Hid (q=bgE r n cd ts fs k):=hq
 rw[←hq]
 obtain⟨V,hV⟩:∃ V,V=w2.alloc (.cells #[.slice p1 m1 c1,.slice p2 m2 c2] 125):=⟨_,rfl⟩
 have HGV:Hid (w.grownBy V none):=by rw[hV];exact am g2 _
 have HBt:Hid (TbB V w2.heap.size (.slice p1 m1 c1) (.slice p2 m2 c2)):=by rw[hV];exact ak _ _ _
 have H2:Hid (∀ R,r=0→1≤k∧k≤5→bi n cd ts fs=some R→∃ X,rws X=R∧TbO V w.heap.size (.slice p1 m1 c1) (.slice p2 m2 c2) X (aq R fs)∧(∀ x∈X,1≤x.r.nu∧x.r.nu≤(fs.length:Int))∧dB V w.heap.size (.slice p3 m3 c3) (cU R (aq R fs) k)):=fun R a b c=>by
  obtain⟨X,x1,x2,x3,x4⟩:=h2 R a b c
  have g:=World.grownBy_alloc w2 (.cells #[.slice p1 m1 c1,.slice p2 m2 c2] 125) none
  exact⟨X,x1,by rw[hV];exact x2.grow g,x3,by rw[hV];exact ar x4 g⟩
 have Hw2:Hid (w.heap.size≤w2.heap.size):=g2.size
 clear HBg g2 h2 hq
 go_upto_region 2 with fail
 rw[←hV]
 obtain⟨nb,hnb⟩:∃ nb,nb=w2.heap.size:=⟨_,rfl⟩
 rw[←hnb] at HBt Hw2 ⊢
 clear hV hnb
 by_cases hq0:q=0
 ·have e1:(q != 0)=false:=by simpa using hq0
  obtain⟨hr0,hk0,R,hR⟩:=jw (Hq.out.symm.trans hq0)
  obtain⟨X,hX,hT,hnu,hS⟩:=H2.out R hr0 hk0 hR
  have HRL:Hid (rws X=R∧bi n cd ts fs=some R∧bgE r n cd ts fs k=0):=⟨hX,hR,Hq.out.symm.trans hq0⟩
  obtain⟨L,hL⟩:∃ L,L=cU R (aq R fs) k:=⟨_,rfl⟩
  have hLl:L.length≤64:=by rw[hL,←hX];exact rN (fun x hx=>(hT.parts x hx).2) hT.few
  rw[←hL] at hS
  have HS:Hid (seR.At V (.slice p3 m3 c3) L):=aB.Own.at hS
  have HL:Hid (L=cU R (aq R fs) k):=hL
  have Hm3:Hid (m3=L.length):=by obtain⟨a,b,e⟩:=aB.Own.form hS;injection e
  rw[Hm3.out] at HS
  rw[Hm3.out]
  have Hll:Hid (L.length≤64):=hLl
  clear hq0 hr0 hk0 hR hX hT hnu hS H2 hL hLl
  go_wp2_with fail
  go_loopw [13,30] (fun v i wr=>∃ j:Nat,j≤L.length∧i=.int .i64 (j:Int)∧dR wr V.heap.size v ((L.take j).map Se.s)∧V.grownBy wr none) (fun _ i _=>L.length - (intOf i).toNat)
  case atStart=>exact⟨0,Nat.zero_le _,rfl,aB.Own.nil _ _ _ _,ay _ _⟩
  case round =>
   obtain⟨j,hj,rfl,O,G⟩:=hrel
   obtain⟨U,hU⟩:∃ U,U=wr:=⟨_,rfl⟩
   subst hU
   obtain⟨pq,cq,rfl⟩:=O.form
   have HG:Hid (V.grownBy U none):=G
   by_cases hlt:j<L.length
   ·obtain⟨g,off,cap,e1,RR⟩:=SeAt.there (HS.out.keep G) hlt
    cases e1
    obtain⟨e,he⟩:∃ e,e=L.getD j Se.none:=⟨_,rfl⟩
    rw[←he] at RR
    obtain⟨c0,c1',c2',c3',c4,c5,c6,c7,c8,c9,c10⟩:=dJ RR
    obtain⟨Y,hY⟩:∃ Y,Y=U.alloc (.cells #[.int .i64 e.s.th,.int .i64 e.s.pl,.int .u8 e.s.wh.wn,.int .u8 e.s.wh.vb,.int .u8 e.s.wh.wm,.int .i64 e.s.wh.ct,.int .u8 e.s.wh.su,.int .u8 e.s.wh.tr,.int .u8 e.s.wh.mr,.string e.s.wh.nm,.int .i64 (e.ro:Int)] 131):=⟨_,rfl⟩
    have HGY:Hid (U.grownBy Y none):=by rw[hY];exact World.grownBy_alloc _ _ none
    have HBe:Hid (SeB Y U.heap.size e):=by rw[hY];exact ak _ _ _
    have hDl:((L.take j).map Se.s).length=j:=by rw[List.length_map,List.length_take,Nat.min_eq_left (Nat.le_of_lt hlt)]
    have HNx:Hid ((L.take (j+1)).map Se.s=(L.take j).map Se.s++[e.s]):=by show _=_;rw[zB hlt,←he]
    obtain⟨D,hD⟩:∃ D,D=(L.take j).map Se.s:=⟨_,rfl⟩
    rw[←hD] at O HNx hDl ⊢
    have HOY:Hid (Y.ownsRow V.heap.size 64 10 (.slice pq D.length cq) D.length (sdR.cs D)):=O.grow HGY.out
    have HLn:Hid (D.length+1≤maxLen∧(D.length+1)*56≤140737488355328):=mA (by rw[hDl];exact Nat.le_trans (Nat.le_of_lt hlt) (Nat.le_trans Hll.out (by decide)))
    have hlt':(j:Int)<L.length:=Int.ofNat_lt.2 hlt
    have Hlt:Hid (j<L.length):=hlt
    have hwk:=aW (k:=j) (Nat.le_trans (Nat.le_of_lt hlt) (Nat.le_trans Hll.out (by decide)))
    have HM:Hid (L.length - (intOf (.int .i64 ((j:Int)+1))).toNat<L.length - (intOf (.int .i64 (j:Int))).toNat):=bQ hlt
    clear he RR O G hD hDl hlt hj
    go_upto_region 8 with fail
    rw[←hY]
    obtain⟨nc,hnc⟩:∃ nc,nc=U.heap.size:=⟨_,rfl⟩
    rw[←hnc] at HBe ⊢
    clear hY hnc c0 c1' c2' c3' c4 c5 c6 c7 c8 c9 c10
    obtain⟨o0,o1,o2,o3,o4,o5,o6,o7,o8,o9,o10⟩:=dU HBe.out
    go_wp2_with (at_builtin;refine aX (by rfl) (.tmp 34) (.tmp 37) 30 rfl V.heap.size 64 i0 _ 10 56 Tryz.underlying30 hi hz0 hz1 hz2 rfl (by decide) _ D.length (sdR.cs D) rfl (World.ownsRow.alloc HOY.out _) _ 1 (sdc e.s) rfl (yj Y e.s) (iR _) HLn.out.1 HLn.out.2 (by rw[World.size_alloc];exact Nat.le_succ_of_le (aa HG.out HGY.out).size) ?_;intro v8 w8 o8 g8 _;have HO8:Hid _:=o8;have HG8:Hid _:=g8;clear o8 g8)
    have HS8:Hid (dR w8 V.heap.size v8 (D++[e.s])∧V.grownBy w8 none):=⟨aB.more HO8.out rfl,az (am (aa HG.out HGY.out) _) HG8.out (fun y e=>(World.ownsRow.lt HOY.out y e).1)⟩
    clear HO8 HG8
    go_roundw
    case rel=>exact⟨j+1,Hlt.out,by first | rfl | (rw[hwk];rfl) | go_num,by rw[HNx.out];exact HS8.out.1,HS8.out.2⟩
    case measure=>first | exact HM.out | (rw[hwk];exact HM.out)
   ·obtain rfl:j=L.length:=Nat.le_antisymm hj (Nat.le_of_not_lt hlt)
    rw[List.take_length] at O ⊢
    have HF:Hid (dR U V.heap.size (.slice pq (L.map Se.s).length cq) (L.map Se.s)):=O
    clear O G hlt hj
    go_wp2_with fail
    go_ret2
    refine⟨_,_,_,by rw[HRL.out.2.2];rfl,aa HGV.out HG.out,fun h=>absurd HRL.out.2.2 h,fun R' _ _ a=>?_⟩
    rw[HRL.out.2.1] at a
    cases a
    have o:=aT HF.out HGV.out.size
    rw[HL.out] at o
    rw[HL.out]
    exact o
 ·have e1:(q != 0)=true:=by simpa using hq0
  have Hq0:Hid (q≠0):=hq0
  clear hq0
  go_wp2_with fail
  go_ret2
  exact⟨none,0,0,by rw[←Hq.out];rfl,HGV.out,fun _=>⟨rfl,rfl,rfl⟩,fun R a b c=>absurd (by rw[Hq.out,a];exact tQ c b) Hq0.out⟩
theorem eQ {w w':World} {base e size n b:Nat} {v:Value} {xs:List Value} {cs:Array Value} {t:TypeId} {fr:Nat×Nat} (h:w.ownsRow base e size v n xs) (g:w.grownBy w' (some b)) (hb:w.heap[b]?=some (.cells cs t fr)) (hne:t≠e):w'.ownsRow base e size v n xs:=by
 refine World.ownsRow.kept h g ?_
 cases hv:v.ownBlock with
 | none=>exact Or.inl rfl
 | some y=>exact Or.inr fun q=>fk h hb hne (by rw[hv,←q])
theorem TbO.tagged {w w':World} {base b:Nat} {vr vf:Value} {X:List Rv} {F:List Fe} {cs:Array Value} {t:TypeId} {fr:Nat×Nat} (h:TbO w base vr vf X F) (g:w.grownBy w' (some b)) (hb:w.heap[b]?=some (.cells cs t fr)) (h1:t≠230) (h2:t≠62) (h3:t≠122):TbO w' base vr vf X F:=⟨eQ h.rows g hb h1,fun x hx=>⟨eQ (h.parts x hx).1 g hb h2,(h.parts x hx).2⟩,eQ h.fs g hb h3,h.len,h.few⟩
theorem TbO.block {w w':World} {base:Nat} {vr vf v:Value} {X:List Rv} {F:List Fe} {b' t size n:Nat} {xs:List Value} (h:TbO w base vr vf X F) (o:w.ownsRow b' t size v n xs) (g:w.grownBy w' v.ownBlock) (h1:t≠230) (h2:t≠62) (h3:t≠122):TbO w' base vr vf X F:=⟨bw h.rows o h1 g,fun x hx=>⟨bw (h.parts x hx).1 o h2 g,(h.parts x hx).2⟩,bw h.fs o h3 g,h.len,h.few⟩
theorem mp {w w':World} {nb:Nat} {vr vf v:Value} {b' t size n:Nat} {xs:List Value} (h:TbB w nb vr vf) (o:w.ownsRow b' t size v n xs) (g:w.grownBy w' v.ownBlock) (h1:125≠t):TbB w' nb vr vf:=ai g h (fk o h h1)
structure AlS (w wr:World) (B nb:Nat) (vr vf vL vA:Value) (X:List Rv) (F:List Fe) (L A:List Se):Prop where
 tb:TbO wr B vr vf X F
 bx:TbB wr nb vr vf
 lf:dB wr B vL L
 ap:dR wr B vA (A.map Se.s)
 ro:∀ i,i<L.length→(L.getD i Se.none).ro<X.length
 fw:L.length+A.length≤64
 gr:w.grownBy wr none
structure AlT (w wr:World) (B nb:Nat) (vr vf vL vA:Value) (X:List Rv) (F:List Fe) (L A:List Se):Prop where
 tb:TbO wr B vr vf X F
 bx:TbB wr nb vr vf
 lf:dB wr B vL L
 ap:dR wr B vA (A.map Se.s)
 ro:∀ i,i<L.length→(L.getD i Se.none).ro<X.length
 fw:L.length+A.length≤65
 gr:w.grownBy wr none
theorem AlS.grow {w wr wr':World} {B nb:Nat} {vr vf vL vA:Value} {X:List Rv} {F:List Fe} {L A:List Se} (h:AlS w wr B nb vr vf vL vA X F L A) (g:wr.grownBy wr' none):AlS w wr' B nb vr vf vL vA X F L A:=⟨h.tb.grow g,ai g h.bx (by simp),h.lf.grow g,h.ap.grow g,h.ro,h.fw,aa h.gr g⟩
theorem mc (w:World) (g:Nat) (cs:Array Value):w.grownBy (w.setRow g cs) (some g) :=
 ⟨rfl,rfl,rfl,by simp[World.setRow],fun k _ hk=>setRow_other w g k cs (fun e=>hk (by rw[e]))⟩
theorem AlS.stored {w wr:World} {B nb:Nat} {vr vf vf' vL vA:Value} {X:List Rv} {F F':List Fe} {L A:List Se} (h:AlS w wr B nb vr vf vL vA X F L A) (o:dt wr B vf' F') (hl:F'.length=F.length) (hb:w.heap.size≤nb):AlS w (wr.setRow nb #[vr,vf']) B nb vr vf' vL vA X F' L A:=by
 have g:=mc wr nb #[vr,vf']
 have t:=h.tb.tagged g h.bx (by decide) (by decide) (by decide)
 exact⟨⟨t.rows,t.parts,eQ o g h.bx (by decide),by rw[hl];exact h.tb.len,t.few⟩,setRow_heap wr nb _ _ _ _ h.bx,eQ h.lf g h.bx (by decide),eQ h.ap g h.bx (by decide),h.ro,h.fw,dL h.gr hb _⟩
theorem AlS.taken {w wr w':World} {B nb:Nat} {vr vf vL vA vA':Value} {X:List Rv} {F:List Fe} {L A A':List Se} (h:AlS w wr B nb vr vf vL vA X F L A) (o:dR w' B vA' (A'.map Se.s)) (g:wr.grownBy w' vA.ownBlock) (hf:L.length+A'.length≤65) (hB:w.heap.size≤B):AlT w w' B nb vr vf vL vA' X F L A':=⟨h.tb.block h.ap g (by decide) (by decide) (by decide),mp h.bx h.ap g (by decide),bw h.lf h.ap (by decide) g,o,h.ro,hf,az h.gr g (fun y e=>Nat.le_trans hB (World.ownsRow.lt h.ap y e).1)⟩
theorem AlT.cut {w wr w':World} {B nb:Nat} {vr vf vL vL' vA:Value} {X:List Rv} {F:List Fe} {L L' A:List Se} (h:AlT w wr B nb vr vf vL vA X F L A) (o:dB w' B vL' L') (g:wr.grownBy w' vL.ownBlock) (hr:∀ i,i<L'.length→(L'.getD i Se.none).ro<X.length) (hf:L'.length+A.length≤64) (hB:w.heap.size≤B):AlS w w' B nb vr vf vL' vA X F L' A:=⟨h.tb.block h.lf g (by decide) (by decide) (by decide),mp h.bx h.lf g (by decide),o,bw h.ap h.lf (by decide) g,hr,hf,az h.gr g (fun y e=>Nat.le_trans hB (World.ownsRow.lt h.lf y e).1)⟩
def sH:Value→Nat
 | .slice _ n _=>n
 | _=>0
def ix (R:List Rw) (fs:List Fe) (k:Int):List Fe×List Se:=np R (cU R (aq R fs) k).length (aq R fs) (cU R (aq R fs) k) []
theorem og {R:List Rw} {n:Nat} {F:List Fe} {L A:List Se} (h:L≠[]):np R (n+1) F L A=np R n (aP R F (L.getD (bX R F L) Se.none)) (L.eraseIdx (bX R F L)) (A++[L.getD (bX R F L) Se.none]):=by
 rw[np,if_neg h]
def jc (w:World) (r n:Int) (cd:Int→Hd×List Pt) (ts:List Th) (fs:List Fe) (k:Int) (e:Ending) (w':World):Prop:=∃ p m c p' m' c',e=.returned (.tuple #[.slice p m c,.slice p' m' c',.int .i64 (bgE r n cd ts fs k)])∧w.grownBy w' none∧(bgE r n cd ts fs k≠0→m=0∧p=none∧m'=0∧p'=none∧c=0∧c'=0)∧∀ R,r=0→1≤k∧k≤5→bi n cd ts fs=some R→dt w' w.heap.size (.slice p m c) (cJ fs R (ix R fs k).1)∧dR w' w.heap.size (.slice p' m' c') ((ix R fs k).2.map Se.s)
theorem zF {X:List Rv} {L:List Se} {p:Nat} (h:∀ i,i<L.length→(L.getD i Se.none).ro<X.length):∀ i,i<(L.eraseIdx p).length→((L.eraseIdx p).getD i Se.none).ro<X.length:=fun i hi=>by
 rw[aC hi]
 have hm:(L.eraseIdx p)[i]∈L:=(List.eraseIdx_sublist L p).mem (List.getElem_mem hi)
 obtain⟨j,hj,e⟩:=List.mem_iff_getElem.1 hm
 have:=h j hj
 rw[aC hj,e] at this
 exact this
theorem zZ {X:List Rv} {L:List Se} (h:∀ e∈L,e.ro<X.length):∀ i,i<L.length→(L.getD i Se.none).ro<X.length:=fun i hi=>by rw[aC hi];exact h _ (List.getElem_mem hi)
theorem yS (bv vt vf:Value) (r n:Int) (cd:Int→Hd×List Pt) (ts:List Th) (fs:List Fe) (k:Int) (w:World) (I:LIn w bv vt vf r n cd ts fs):Calls Tryz.prog 15 #[bv,vt,vf,.int .i64 k] w (jc w r n cd ts fs k):=by
 obtain⟨i0,hi,hz0,hz1,hz2⟩:=info_parts Tryz.linfoD
 obtain⟨pt,ct,rfl⟩:=I.things.form
 obtain⟨pf,cf,rfl⟩:=I.feats.form
 have HBg:=mN bv _ _ r n cd ts fs k w I
 unfold iN tbv at HBg
 have HI:Hid (LIn w bv (.slice pt ts.length ct) (.slice pf fs.length cf) r n cd ts fs):=I
 clear I
 go_enter Tryz.func15,Tryz.ntmps15
 go_wp2_with fail
 refine HBg.mono ?_
 rintro e2 w2 ⟨p1,m1,c1,p2,m2,c2,p3,m3,c3,rfl,g2,h2⟩
 obtain⟨q,hq⟩:∃ q,q=bgE r n cd ts fs k:=⟨_,rfl⟩
 have Hq:Hid (q=bgE r n cd ts fs k):=hq
 rw[←hq]
 obtain⟨V,hV⟩:∃ V,V=w2.alloc (.cells #[.slice p1 m1 c1,.slice p2 m2 c2] 125):=⟨_,rfl⟩
 have HGV:Hid (w.grownBy V none):=by rw[hV];exact am g2 _
 have HBt:Hid (TbB V w2.heap.size (.slice p1 m1 c1) (.slice p2 m2 c2)):=by rw[hV];exact ak _ _ _
 have H2:Hid (∀ R,r=0→1≤k∧k≤5→bi n cd ts fs=some R→∃ X,rws X=R∧TbO V w.heap.size (.slice p1 m1 c1) (.slice p2 m2 c2) X (aq R fs)∧(∀ x∈X,1≤x.r.nu∧x.r.nu≤(fs.length:Int))∧dB V w.heap.size (.slice p3 m3 c3) (cU R (aq R fs) k)):=fun R a b c=>by
  obtain⟨X,x1,x2,x3,x4⟩:=h2 R a b c
  have g:=World.grownBy_alloc w2 (.cells #[.slice p1 m1 c1,.slice p2 m2 c2] 125) none
  exact⟨X,x1,by rw[hV];exact x2.grow g,x3,by rw[hV];exact ar x4 g⟩
 have Hw2:Hid (w.heap.size≤w2.heap.size):=g2.size
 clear HBg g2 h2 hq
 go_upto_region 2 with fail
 rw[←hV]
 obtain⟨nb,hnb⟩:∃ nb,nb=w2.heap.size:=⟨_,rfl⟩
 rw[←hnb] at HBt Hw2 ⊢
 clear hV hnb
 by_cases hq0:q=0
 ·have e1:(q != 0)=false:=by simpa using hq0
  obtain⟨hr0,hk0,R,hR⟩:=jw (Hq.out.symm.trans hq0)
  obtain⟨X,hX,hT,hnu,hS⟩:=H2.out R hr0 hk0 hR
  have HRL:Hid (rws X=R∧bi n cd ts fs=some R∧bgE r n cd ts fs k=0):=⟨hX,hR,Hq.out.symm.trans hq0⟩
  obtain⟨L0,hL0⟩:∃ L0,L0=cU R (aq R fs) k:=⟨_,rfl⟩
  have hLl:L0.length≤64:=by rw[hL0,←hX];exact rN (fun x hx=>(hT.parts x hx).2) hT.few
  have hro:∀ e∈L0,e.ro<X.length:=fun e he=>by rw[hL0] at he;have:=Bo he;rwa [←hX,cm] at this
  rw[←hL0] at hS
  have HA0:Hid (AlS w V w.heap.size nb (.slice p1 m1 c1) (.slice p2 m2 c2) (.slice p3 m3 c3) (.slice none 0 0) X (aq R fs) L0 []):=⟨hT,HBt.out,hS,aB.Own.nil _ _ _ _,zZ hro,by simpa using hLl,HGV.out⟩
  have Hall:Hid (ix R fs k=np (rws X) L0.length (aq R fs) L0 []):=by show _=_;unfold ix;rw[hL0,hX]
  have Hnu:Hid (∀ x∈X,1≤x.r.nu∧x.r.nu≤(fs.length:Int)):=hnu
  obtain⟨F0,hF0⟩:∃ F0,F0=aq R fs:=⟨_,rfl⟩
  rw[←hF0] at HA0 Hall
  clear hq0 hr0 hk0 hR hX hT hnu hS H2 hL0 hLl hro hF0 HBt
  go_wp2_with fail
  go_loopw [12,14,15] (fun vL vA _ wr=>∃ (vf':Value) (F:List Fe) (L A:List Se),Hid (AlS w wr w.heap.size nb (.slice p1 m1 c1) vf' vL vA X F L A)∧Hid (np (rws X) L.length F L A=np (rws X) L0.length F0 L0 [])) (fun vL _ _ _=>sH vL)
  case atStart=>exact⟨_,F0,L0,[],HA0.out,rfl⟩
  case round =>
   clear HA0
   obtain⟨vf',F,L,A,HS,HE⟩:=hrel
   obtain⟨U,hU⟩:∃ U,U=wr:=⟨_,rfl⟩
   subst hU
   obtain⟨pL,cL,rfl⟩:=HS.out.lf.form
   obtain⟨pA,cA,rfl⟩:=HS.out.ap.form
   rw[List.length_map] at HS ⊢
   obtain⟨pF,cF,rfl⟩:=aB.Own.form HS.out.tb.fs
   by_cases hlt:0<L.length
   ·have hne:L≠[]:=List.length_pos_iff.1 hlt
    have HNx:=ow _ _ (.slice pL L.length cL) X F L U HS.out.tb.at (aB.Own.at HS.out.lf) HS.out.ro (by have:=HS.out.fw;omega)
    obtain⟨p,hp⟩:∃ p,p=bX (rws X) F L:=⟨_,rfl⟩
    have hpl:p<L.length:=by rw[hp];exact jU hne
    have HStp:Hid (np (rws X) L.length F L A=np (rws X) (L.length - 1) (aP (rws X) F (L.getD p Se.none)) (L.eraseIdx p) (A++[L.getD p Se.none])):=by
     show _=_
     obtain⟨m,hm⟩:∃ m,L.length=m+1:=⟨L.length - 1,by omega⟩
     rw[hm,og hne,←hp]
     rfl
    rw[←hp] at HNx
    unfold tbv at HNx
    obtain⟨a0,a1⟩:=bH HS.out.bx
    have hlt':(0:Int)<(L.length:Int):=by omega
    have Hpl:Hid (p<L.length):=hpl
    clear hp hne hlt hpl
    go_wp2_with fail
    refine HNx.mono ?_
    rintro e4 w4 ⟨rfl,g4⟩
    have HS4:Hid (AlS w w4 w.heap.size nb (.slice p1 m1 c1) (.slice pF F.length cF) (.slice pL L.length cL) (.slice pA A.length cA) X F L A):=HS.out.grow g4
    obtain⟨g,off,cap,e1,RR⟩:=SeAt.there (aB.Own.at HS4.out.lf) Hpl.out
    cases e1
    obtain⟨g',cap',e',hgB,-,-,-,-⟩:=cc HS4.out.lf (Nat.lt_of_le_of_lt (Nat.zero_le _) Hpl.out)
    cases e'
    obtain⟨e,he⟩:∃ e,e=L.getD p Se.none:=⟨_,rfl⟩
    have Hro:Hid (e.ro<X.length):=by show e.ro<X.length;rw[he];exact HS4.out.ro p Hpl.out
    rw[←he] at RR HStp
    simp only[Nat.zero_add] at RR
    obtain⟨t0,t1⟩:=bH HS4.out.bx
    obtain⟨s0,s1,s2,s3,s4,s5,s6,s7,s8,s9,s10⟩:=dJ RR
    have C1:=jD _ _ X F e w4.drew (HS4.out.tb.at.keep (ag _)) Hro.out
    unfold tbv sev at C1
    have HBw:Hid (w.heap.size≤w4.heap.size):=HS4.out.gr.size
    have hpl':(p:Int)<(L.length:Int):=Int.ofNat_lt.2 Hpl.out
    have hwk:=aW (k:=p) (Nat.le_trans (Nat.le_of_lt Hpl.out) (by have:=HS4.out.fw;omega))
    have He:Hid (e=L.getD p Se.none):=he
    have Hgn:Hid (some g≠some nb):=fun q=>fk HS4.out.lf HS4.out.bx (by decide) (q.symm.trans rfl)
    clear HNx g4 RR he a0 a1
    go_upto_region 7 with fail
    refine wp_region_held_drew (S:=fun w'=>w4.grownBy w' (some nb)) (by kernel_rfl) (bP _ _) (fun hHeld=>?_)
    refine QZ 1 rfl ?_
    go_frame
    refine QZ 2 rfl ?_
    go_frame
    refine QZ 3 rfl ?_
    go_frame
    refine QT 4 rfl (by intro w0 hSw;have s0:=hSw.cell s0 Hgn.out;have s1:=hSw.cell s1 Hgn.out;have s2:=hSw.cell s2 Hgn.out;have s3:=hSw.cell s3 Hgn.out;have s4:=hSw.cell s4 Hgn.out;have s5:=hSw.cell s5 Hgn.out;have s6:=hSw.cell s6 Hgn.out;have s7:=hSw.cell s7 Hgn.out;have s8:=hSw.cell s8 Hgn.out;have s9:=hSw.cell s9 Hgn.out;have s10:=hSw.cell s10 Hgn.out;go_simp;try with_reducible rfl) ?_
    go_frame
    refine QR 0 rfl (fun K9 hK=>?_)
    go_simp
    refine hK.out _ _ (by assumption) (fun hHeld3=>?_)
    clear hK K9
    (try go_frame)
    refine QR 5 rfl (fun K hK=>?_)
    go_simp
    go_at_call 69
    refine(C1).mono ?_
    rintro e5 w5 ⟨v5,rfl,o5,g5⟩
    obtain⟨p6,c6,rfl⟩:=o5.form
    have HG5:Hid (w4.grownBy w5 none):=aa (ag _) g5
    have HS5:Hid (AlS w w5 w.heap.size nb (.slice p1 m1 c1) (.slice pF F.length cF) (.slice (some ⟨g,0,none⟩) L.length cL) (.slice pA A.length cA) X F L A):=HS4.out.grow HG5.out
    have HO5:Hid (dt w5 w.heap.size (.slice p6 (aP (rws X) F e).length c6) (aP (rws X) F e)):=aT o5 HBw.out
    clear C1 o5 g5 HS4
    refine hK.out _ _ (dq HG5.out _) (fun hHeld2=>?_)
    clear hK K
    (try go_frame)
    refine QR 6 rfl (fun K9 hK=>?_)
    refine wp_store_row 125 (.tmp 11) (.tmp 39) rfl nb #[.slice p1 m1 c1,.slice p6 (aP (rws X) F e).length c6] rfl rfl 125 _ HS5.out.bx (by kernel_rfl) rfl (by simp[Value.oneCell']) ?_
    refine hK.out _ _ (aa (dq HG5.out _) (mc _ _ _)) (fun hHeld4=>?_)
    clear hK K9
    (try go_frame)
    refine QD ?_
    have HS6:Hid (AlS w (w5.setRow nb #[.slice p1 m1 c1,.slice p6 (aP (rws X) F e).length c6]) w.heap.size nb (.slice p1 m1 c1) (.slice p6 (aP (rws X) F e).length c6) (.slice (some ⟨g,0,none⟩) L.length cL) (.slice pA A.length cA) X (aP (rws X) F e) L A):=HS5.out.stored HO5.out (jo _ _ _) Hw2.out
    obtain⟨Y,hY⟩:∃ Y,Y=w5.setRow nb #[.slice p1 m1 c1,.slice p6 (aP (rws X) F e).length c6]:=⟨_,rfl⟩
    rw[←hY] at HS6 ⊢
    obtain⟨F',hF'⟩:∃ F',F'=aP (rws X) F e:=⟨_,rfl⟩
    rw[←hF'] at HS6 HStp
    clear hHeld hHeld2 hHeld3 hHeld4 HS5 HO5 HG5 hY hF' s0 s1 s2 s3 s4 s5 s6 s7 s8 s9 s10 t0 t1 Hgn HBw
    obtain⟨g2,off2,cap2,e2,RR⟩:=SeAt.there (aB.Own.at HS6.out.lf) Hpl.out
    cases e2
    rw[←He.out] at RR
    simp only[Nat.zero_add] at RR
    obtain⟨s0,s1,s2,s3,s4,s5,s6,s7,s8,s9,s10⟩:=dJ RR
    have HAp:Hid (Y.ownsRow w.heap.size 64 10 (.slice pA A.length cA) A.length (sdR.cs (A.map Se.s))):=by have o:Y.ownsRow w.heap.size 64 10 (.slice pA A.length cA) (A.map Se.s).length (sdR.cs (A.map Se.s)):=HS6.out.ap;rw[List.length_map] at o;exact o
    have HLn:Hid (A.length+1≤maxLen∧(A.length+1)*56≤140737488355328):=mA (by have:=HS6.out.fw;omega)
    have HYs:Hid (w.heap.size≤Y.heap.size):=HS6.out.gr.size
    have HM:Hid (p+(L.length - (p+1))<L.length):=by have:=Hpl.out;show _<_;omega
    have HEl:Hid ((L.eraseIdx p).length=L.length - 1):=List.length_eraseIdx_of_lt Hpl.out
    obtain⟨D,hD⟩:∃ D,D=A.map Se.s:=⟨_,rfl⟩
    have HD:Hid (D=A.map Se.s):=hD
    rw[←hD] at HAp
    clear RR hD HS
    go_wp2_with (at_builtin;refine aX (by rfl) (.tmp 40) (.tmp 46) 30 rfl w.heap.size 64 i0 _ 10 56 Tryz.underlying30 hi hz0 hz1 hz2 rfl (by decide) _ A.length (sdR.cs D) rfl (World.ownsRow.alloc HAp.out _) _ 1 (sdc e.s) rfl (yj Y e.s) (iR _) HLn.out.1 HLn.out.2 (by rw[World.size_alloc];exact Nat.le_succ_of_le HYs.out) ?_;intro v8 w8 o8 g8 _;have HO8:Hid _:=o8;have HG8:Hid _:=g8;clear o8 g8)
    have HS8:Hid (AlT w w8 w.heap.size nb (.slice p1 m1 c1) (.slice p6 F'.length c6) (.slice (some ⟨g,0,none⟩) L.length cL) v8 X F' L (A++[e])):=HS6.out.taken (by rw[List.map_append,←HD.out];exact aB.more HO8.out (by rw[HD.out,List.length_map])) (aa (dq (World.grownBy_alloc Y _ none) _) HG8.out) (by rw[List.length_append];have:=HS6.out.fw;simp only[List.length_cons,List.length_nil];omega) (Nat.le_refl _)
    have C2:=sE w.heap.size g cL p (p+1) L w8 HS8.out.lf (Nat.lt_succ_self _) Hpl.out
    simp only[Int.natCast_add,Int.cast_ofNat_Int] at C2
    refine C2.mono ?_
    rintro e9 w9 ⟨rfl,o9,g9⟩
    rw[←List.eraseIdx_eq_take_drop_succ] at o9
    have HS9:Hid (AlS w w9 w.heap.size nb (.slice p1 m1 c1) (.slice p6 F'.length c6) (.slice (some ⟨g,0,none⟩) (p+(L.length - (p+1))) cL) v8 X F' (L.eraseIdx p) (A++[e])):=HS8.out.cut o9 g9 (zF HS8.out.ro) (by rw[HEl.out,List.length_append];have:=HS6.out.fw;have:=Hpl.out;simp only[List.length_cons,List.length_nil];omega) (Nat.le_refl _)
    clear C2 o9 g9 HO8 HG8 HAp HS6 HS8
    go_wp2_with fail
    go_roundw
    case rel=>exact⟨_,F',L.eraseIdx p,A++[e],HS9.out,by show _=_;rw[HEl.out,←HStp.out];exact HE.out⟩
    case measure=>exact HM.out
   ·obtain rfl:L=[]:=List.length_eq_zero_iff.1 (by omega)
    have HF:Hid (ix R fs k=(F,A)):=by show _=_;rw[Hall.out,←HE.out];rfl
    have HCa:=nl _ _ _ X F fs U HS.out.tb.at (HI.out.feats.keep HS.out.gr) (fun i hi=>yv Hnu.out hi) (HI.out.few (jw HRL.out.2.2).1 (jw HRL.out.2.2).2.2.choose_spec)
    unfold tbv at HCa
    obtain⟨t0,t1⟩:=bH HS.out.bx
    clear hlt HE Hall
    go_wp2_with fail
    refine HCa.mono ?_
    rintro e4 w4 ⟨v4,rfl,o4,g4⟩
    obtain⟨p5,c5,rfl⟩:=o4.form
    have HZ:Hid (dt w4 w.heap.size (.slice p5 (cJ fs (rws X) F).length c5) (cJ fs (rws X) F)∧dR w4 w.heap.size (.slice pA A.length cA) (A.map Se.s)∧w.grownBy w4 none):=⟨aT o4 HS.out.gr.size,HS.out.ap.grow g4,aa HS.out.gr g4⟩
    clear o4 g4 HCa t0 t1 HS
    go_wp2_with fail
    refine bodyPost_ret (v:=.tuple #[.slice p5 (cJ fs (rws X) F).length c5,.slice pA A.length cA,.int .i64 0]) (by simp[results,Tryz.results15,go_sem]) rfl ?_
    refine⟨_,_,_,_,_,_,by rw[HRL.out.2.2],HZ.out.2.2,fun h=>absurd HRL.out.2.2 h,fun R' _ _ a=>?_⟩
    rw[HRL.out.2.1] at a
    cases a
    rw[HF.out,←HRL.out.1]
    exact⟨HZ.out.1,HZ.out.2.1⟩
 ·have e1:(q != 0)=true:=by simpa using hq0
  have Hq0:Hid (q≠0):=hq0
  clear hq0
  go_wp2_with fail
  refine bodyPost_ret (v:=.tuple #[.slice none 0 0,.slice none 0 0,.int .i64 q]) (by simp[results,Tryz.results15,go_sem]) rfl ?_
  exact⟨none,0,0,none,0,0,by rw[←Hq.out],HGV.out,fun _=>⟨rfl,rfl,rfl,rfl,rfl,rfl⟩,fun R a b c=>absurd (by rw[Hq.out,a];exact tQ c b) Hq0.out⟩
end Go.Proofs.YtjmepebbcnhalaaGreat
