import Derived.Test.YtjmepebbcnhalaaGreatV17
namespace Go.Proofs.YtjmepebbcnhalaaGreat
set_option maxRecDepth 100000
set_option maxHeartbeats 4000000
open Go.RowKit
variable {w:World} {base size b i:Nat} {v:Value} {xs:List Value} {cs:Array Value} {ps:List Pt} {p:Pl}
theorem kZ (k nu:Int) (ro:Nat) (ps:List Pt) (m:Nat):eU k nu ro ps (m+1)=eU k nu ro ps m++(if (ps.getD m Pt.none).wn=5∧lay (ps.getD m Pt.none).vb=k then [⟨⟨nu,(m:Int),ps.getD m Pt.none⟩,ro⟩] else []):=by
 unfold eU
 rw[List.range_succ,List.filterMap_append,List.filterMap_cons]
 split <;> simp_all
theorem n8 (k nu:Int) (ro:Nat) (ps:List Pt) (m:Nat):(eU k nu ro ps m).length≤m:=by
 have:=List.length_filterMap_le (fun i=>if (ps.getD i Pt.none).wn=5∧lay (ps.getD i Pt.none).vb=k then some (⟨⟨nu,(i:Int),ps.getD i Pt.none⟩,ro⟩:Se) else none) (List.range m)
 rwa [List.length_range] at this
theorem jj (R:List Rw) (F:List Fe) (k:Int) (m:Nat):gZ R F k (m+1)=gZ R F k m++j7 R F k m:=by
 unfold gZ
 rw[List.range_succ,List.flatMap_append]
 simp
theorem iM {R:List Rw} {F:List Fe} {k:Int} (h:∀ i,(R.getD i Rw.none).ps.length≤4):∀ m,(gZ R F k m).length≤m*4
 | 0=>Q0 _
 | m+1=>by
  rw[jj,Qa]
  have h1:=iM h m (F:=F) (k:=k)
  have h2:(j7 R F k m).length≤4:=by
   unfold j7
   split
   ·exact Q0 _
   ·exact Ql (n8 _ _ _ _ _) (h m)
  omega
def eG (w:World) (base:Nat) (v:Value) (L:List Se):Prop:=seR.Own 131 w base v L
theorem Tryz.linfoS:(Tryz.prog.info? 131).map (fun i=>(i.zero,i.size,i.bytes))=some (some (.agg #[.int .i64 0,.int .i64 0,.int .u8 0,.int .u8 0,.int .u8 0,.int .i64 0,.int .u8 0,.int .u8 0,.int .u8 0,.string ⟨#[]⟩,.int .i64 0]),11,64):=by kernel_rfl
theorem dv {e n:Nat} {t:TypeId} {fr:Nat×Nat} (h:w.ownsRow base e size v n xs) (hb:w.heap[b]?=some (.cells cs t fr)) (hne:t≠e):some b≠v.ownBlock:=fun q=>by
 rcases h.2 with ⟨e1,_⟩ | ⟨g,cap,cur,e1,_,hh,_⟩
 ·rw[e1] at q
  cases q
 ·rw[e1] at q
  have q2:b=g:=Option.some.inj q
  rw[q2,hh] at hb
  injection hb with hb
  injection hb with _ hb _
  exact hne hb.symm
theorem B9 (Z:World) (e:Se):Src (Z.alloc (.cells (sec e).toArray 131)) (.slice (some ⟨Z.heap.size,0,none⟩) 1 1) 1 11 (sec e):=jo (cs:=(sec e).toArray) (ak Z _ _) rfl 1
theorem yc {n a:Nat} (h:n≤a*4+4) (ha:a≤16):n+1≤maxLen∧(n+1)*64≤140737488355328:=by unfold maxLen;omega
theorem qv {m:Nat} (h:m<ps.length):ps[m]?=some (ps.getD m Pt.none):=by rw[aB h];exact Qg h
theorem rN (vr vf:Value) (X:List Rv) (F:List Fe) (kk:Int) (w:World) (T:dX w vr vf X F):Calls Tryz.prog 142 #[tbv vr vf,.int .i64 kk] w fun e' w'=>∃ v',e'=.returned v'∧eG w' w.heap.size v' (cx (rws X) F kk)∧w.grownBy w' none:=by
 obtain⟨i0,hi,hz0,hz1,hz2⟩:=info_parts Tryz.linfoS
 obtain⟨pr,cr,rfl⟩:=T.rows.form
 obtain⟨pf,cf,rfl⟩:=T.fs.form
 obtain⟨W1,hW1⟩:=Qe (w.alloc (.cells #[.slice pr X.length cr,.slice pf F.length cf] 125))
 have HG1:Hid (w.grownBy W1 none):=by rw[hW1];exact QG
 have HB:Hid (TbB W1 w.heap.size (.slice pr X.length cr) (.slice pf F.length cf)):=by rw[hW1];exact ak w _ _
 have HT:Hid (dX W1 (.slice pr X.length cr) (.slice pf F.length cf) X F):=T.keep HG1.out
 have H16:Hid (X.length≤16):=T.few
 have HLF:Hid (F.length=X.length):=T.len
 have H4:Hid (∀ i,((rws X).getD i Rw.none).ps.length≤4):=fun i=>by
  by_cases h:i<X.length
  ·rw[fI h]
   exact(T.parts _ (List.getElem_mem h)).2
  ·rw[List.getD_eq_getElem?_getD,List.getElem?_eq_none (by rw[cQ];omega)]
   exact Q0 _
 unfold tbv
 clear T
 go_enter Tryz.func142,Tryz.ntmps142
 go_upto_region 2 with fail
 rw[←hW1]
 clear hW1
 obtain⟨n0,h0⟩:=Qe (w.heap.size)
 simp only[←h0] at HB ⊢
 clear h0
 obtain⟨a0,a1⟩:=bP HB.out
 go_wp2_with fail
 clear a0 a1
 go_loopw [5,13] (fun v i wr=>∃ k:Nat,k≤X.length∧i=.int .i64 (k:Int)∧eG wr W1.heap.size v (gZ (rws X) F kk k)∧W1.grownBy wr none) (fun _ i _=>X.length - (intOf i).toNat)
 case atStart=>exact⟨0,Q0 _,rfl,az.Own.nil _ _ _ _,ay _ _⟩
 case round =>
  obtain⟨k,hk,rfl,O,G⟩:=hrel
  obtain⟨U,hU⟩:=Qe (wr)
  subst hU
  obtain⟨q,cq,rfl⟩:=O.form
  have HG:Hid (W1.grownBy U none):=G
  by_cases hlt:k<X.length
  ·have HTU:=HT.out.keep G
   obtain⟨g,off,cap,e1,R⟩:=HTU.row hlt
   cases e1
   obtain⟨gf,fof,fcap,e2,RF⟩:=HTU.fe hlt
   cases e2
   have hps:=HTU.parts _ (List.getElem_mem hlt)
   obtain⟨x,hx⟩:=Qe (X[k])
   rw[←hx] at R hps
   obtain⟨f,hf⟩:=Qe (F.getD k Fe.none)
   rw[←hf] at RF
   have ex:(rws X).getD k Rw.none=x.r:=by rw[fI hlt,←hx]
   have HEf:Hid (j7 (rws X) F kk k=if kh f.tr 6 then [] else eU kk x.r.nu k x.r.ps x.r.ps.length):=by show _=_;unfold j7;rw[ex,←hf]
   have HPs:Hid (cD W1 x.u x.r.ps):=by rw[hx];exact(HT.out.parts _ (List.getElem_mem hlt)).1
   have Hp4:Hid (x.r.ps.length≤4):=hps.2
   obtain⟨c0,c1,c2',c3,c4,c5,c6,c7,c8,c9,c10⟩:=eM R
   have c10':U.cell? ⟨g,off+k*11+10,none⟩=some (.slice x.pa x.r.ps.length x.ca):=c10
   obtain⟨V,hV⟩:=Qe (U.alloc (.cells #[.int .i64 x.r.nu,.int .i64 x.r.st,.string x.r.h.nm,.int .u8 x.r.h.su,.int .u8 x.r.h.kd,.int .i64 x.r.h.co,.int .i64 x.r.h.po,.int .i64 x.r.h.he,.int .u16 x.r.h.tr,.bool x.r.h.tk,.slice x.pa x.r.ps.length x.ca] 230))
   have HGV:Hid (U.grownBy V none):=by rw[hV];exact QG
   have HBx:Hid (V.heap[U.heap.size]?=some (.cells #[.int .i64 x.r.nu,.int .i64 x.r.st,.string x.r.h.nm,.int .u8 x.r.h.su,.int .u8 x.r.h.kd,.int .i64 x.r.h.co,.int .i64 x.r.h.po,.int .i64 x.r.h.he,.int .u16 x.r.h.tr,.bool x.r.h.tk,.slice x.pa x.r.ps.length x.ca] 230 (0,0))):=by rw[hV];exact ak _ _ _
   have f2:=(bm (aS RF HGV.out)).2.2.1
   obtain⟨a0,a1⟩:=bP (show TbB V n0 _ _ from ag (ae G HGV.out) HB.out (by simp))
   have HO:Hid (eG V W1.heap.size (.slice q (gZ (rws X) F kk k).length cq) (gZ (rws X) F kk k)):=O.grow HGV.out
   have hEl:(gZ (rws X) F kk k).length≤k*4:=iM H4.out k
   have HEn:Hid (gZ (rws X) F kk (k+1)=gZ (rws X) F kk k++j7 (rws X) F kk k):=jj _ _ _ _
   obtain⟨E,hE⟩:=Qe (gZ (rws X) F kk k)
   rw[←hE] at HO hEl HEn ⊢
   have HEl:Hid (E.length≤k*4):=hEl
   have hlt':(k:Int)<X.length:=Int.ofNat_lt.2 hlt
   have hkf:(k:Int)<F.length:=by rw[HLF.out];exact Int.ofNat_lt.2 hlt
   have hwk:=aK (k:=k) (Ql (Nat.le_of_lt hlt) (Ql H16.out (by decide)))
   have Hlt:Hid (k<X.length):=hlt
   have Hk16:Hid (k≤16):=Ql (Nat.le_of_lt hlt) H16.out
   have HM:Hid (X.length - (intOf (.int .i64 ((k:Int)+1))).toNat<X.length - (intOf (.int .i64 (k:Int))).toNat):=bj hlt
   have HHas:=xL f.tr 6
   obtain⟨b,hb⟩:=Qe (kh f.tr 6)
   rw[←hb] at HHas HEf
   clear O G hps R RF hx hf ex c10 hEl hE hlt hk HTU hb
   go_upto_region 5 with fail
   rw[←hV]
   clear hV c0 c1 c2' c3 c4 c5 c6 c7 c8 c9 c10'
   obtain⟨nb,hnb⟩:=Qe (U.heap.size)
   rw[←hnb] at HBx ⊢
   clear hnb
   cases b with
   | true =>
    have HY:Hid (gZ (rws X) F kk (k+1)=E):=by show _=_;rw[HEn.out,HEf.out,if_pos rfl,List.append_nil]
    go_wp2_with (go_at_call 212;refine(HHas _).mono ?_;rintro e3 w3 ⟨rfl,h3⟩;obtain rfl:V=w3:=h3.symm)
    go_roundw
    case rel=>exact⟨k+1,Hlt.out,by first | rfl | (rw[hwk];rfl) | go_num,by rw[HY.out];exact HO.out,ae HG.out HGV.out⟩
    case measure=>first | exact HM.out | (rw[hwk];exact HM.out)
   | false =>
    have HY:Hid (gZ (rws X) F kk (k+1)=E++eU kk x.r.nu k x.r.ps x.r.ps.length):=by show _=_;rw[HEn.out,HEf.out];rfl
    have z0:=QS (aa HBx.out 0) (.int .i64 x.r.nu) rfl
    have z10:=QS (aa HBx.out 10) (.slice x.pa x.r.ps.length x.ca) rfl
    go_wp2_with (go_at_call 212;refine(HHas _).mono ?_;rintro e3 w3 ⟨rfl,h3⟩;obtain rfl:V=w3:=h3.symm)
    clear a0 a1 f2 HHas z0 z10
    go_loopw [5,29] (fun v i wr=>∃ m:Nat,m≤x.r.ps.length∧i=.int .i64 (m:Int)∧eG wr W1.heap.size v (E++eU kk x.r.nu k x.r.ps m)∧W1.grownBy wr none∧wr.heap[nb]?=some (.cells #[.int .i64 x.r.nu,.int .i64 x.r.st,.string x.r.h.nm,.int .u8 x.r.h.su,.int .u8 x.r.h.kd,.int .i64 x.r.h.co,.int .i64 x.r.h.po,.int .i64 x.r.h.he,.int .u16 x.r.h.tr,.bool x.r.h.tk,.slice x.pa x.r.ps.length x.ca] 230 (0,0))) (fun _ i _=>x.r.ps.length - (intOf i).toNat)
    case atStart=>exact⟨0,Q0 _,rfl,by rw[show eU kk x.r.nu k x.r.ps 0=[] from rfl,List.append_nil];exact HO.out,ae HG.out HGV.out,HBx.out⟩
    case round =>
     obtain⟨m,hm,rfl,O,G,BX⟩:=hrel
     obtain⟨Y,hY⟩:=Qe (wr)
     subst hY
     obtain⟨q2,cq2,rfl⟩:=O.form
     have HGY1:Hid (W1.grownBy Y none):=G
     by_cases hml:m<x.r.ps.length
     ·obtain⟨gp,po,pc,e3,RP⟩:=(HPs.out.keep G).part (Nat.lt_of_le_of_lt (Q0 _) hml)
      unfold Rv.u at e3
      injection e3 with e3 e4 e5
      obtain⟨p,hp⟩:=Qe (x.r.ps.getD m Pt.none)
      have HP8:Hid (P8 Y gp (po+m*8) p):=RP m p (by rw[hp];exact qv hml)
      have c0:=HP8.out.c0
      have c1:=HP8.out.c1
      have c2':=HP8.out.c2
      have c3:=HP8.out.c3
      have c4:=HP8.out.c4
      have c5:=HP8.out.c5
      have c6:=HP8.out.c6
      have c7:=HP8.out.c7
      obtain⟨Z,hZ⟩:=Qe (Y.alloc (.cells #[.int .u8 p.wn,.int .u8 p.vb,.int .u8 p.wm,.int .i64 p.ct,.int .u8 p.su,.int .u8 p.tr,.int .u8 p.mr,.string p.nm] 62))
      have HGZ:Hid (Y.grownBy Z none):=by rw[hZ];exact QG
      have HBp:Hid (Z.heap[Y.heap.size]?=some (.cells #[.int .u8 p.wn,.int .u8 p.vb,.int .u8 p.wm,.int .i64 p.ct,.int .u8 p.su,.int .u8 p.tr,.int .u8 p.mr,.string p.nm] 62 (0,0))):=by rw[hZ];exact ak _ _ _
      have HBxZ:Hid (Z.heap[nb]?=some (.cells #[.int .i64 x.r.nu,.int .i64 x.r.st,.string x.r.h.nm,.int .u8 x.r.h.su,.int .u8 x.r.h.kd,.int .i64 x.r.h.co,.int .i64 x.r.h.po,.int .i64 x.r.h.he,.int .u16 x.r.h.tr,.bool x.r.h.tk,.slice x.pa x.r.ps.length x.ca] 230 (0,0))):=ag HGZ.out BX (by simp)
      have z0:=QS (aa HBxZ.out 0) (.int .i64 x.r.nu) rfl
      have HO2:Hid (eG Z W1.heap.size (.slice q2 (E++eU kk x.r.nu k x.r.ps m).length cq2) (E++eU kk x.r.nu k x.r.ps m)):=O.grow HGZ.out
      have hEl:(E++eU kk x.r.nu k x.r.ps m).length≤k*4+4:=by rw[Qa];exact Nat.add_le_add HEl.out (Ql (n8 _ _ _ _ _) (Ql (Nat.le_of_lt hml) Hp4.out))
      have HLn:=yc hEl Hk16.out
      have HEn2:Hid (E++eU kk x.r.nu k x.r.ps (m+1)=E++eU kk x.r.nu k x.r.ps m++(if p.wn=5∧lay p.vb=kk then [⟨⟨x.r.nu,(m:Int),p⟩,k⟩] else [])):=by show _=_;rw[kZ,←hp,List.append_assoc]
      obtain⟨D,hD⟩:=Qe (E++eU kk x.r.nu k x.r.ps m)
      rw[←hD] at HO2 HLn HEn2 ⊢
      obtain⟨n,hn⟩:=Qe (D.length)
      have HN:Hid (n=D.length):=hn
      have HO3:Hid (Z.ownsRow W1.heap.size 131 11 (.slice q2 n cq2) n (seR.cs D)):=by rw[hn];exact HO2.out
      rw[←hn] at HLn ⊢
      have HLn':Hid (n+1≤maxLen∧(n+1)*64≤140737488355328):=HLn
      have hml':(m:Int)<x.r.ps.length:=Int.ofNat_lt.2 hml
      have hwm:=aK (k:=m) (Ql (Nat.le_of_lt hml) (Ql Hp4.out (by decide)))
      have Hml:Hid (m<x.r.ps.length):=hml
      have HMm:Hid (x.r.ps.length - (intOf (.int .i64 ((m:Int)+1))).toNat<x.r.ps.length - (intOf (.int .i64 (m:Int))).toNat):=bj hml
      have HLy:=ln p.vb
      have H3:Hid (x.pa=some ⟨gp,po,none⟩):=e3
      clear O G BX RP hp hEl HLn hD hn hml hm HO2 e4 e5 e3
      rw[H3.out]
      go_upto_region 9 with fail
      rw[←hZ]
      obtain⟨nc,hnc⟩:=Qe (Y.heap.size)
      rw[←hnc] at HBp ⊢
      clear hZ hnc c0 c1 c2' c3 c4 c5 c6 c7
      have p1:=QS (aa HBp.out 1) (.int .u8 p.vb) rfl
      have p2:=QS (aa HBp.out 2) (.int .u8 p.wm) rfl
      have p3:=QS (aa HBp.out 3) (.int .i64 p.ct) rfl
      have p4:=QS (aa HBp.out 4) (.int .u8 p.su) rfl
      have p5:=QS (aa HBp.out 5) (.int .u8 p.tr) rfl
      have p6:=QS (aa HBp.out 6) (.int .u8 p.mr) rfl
      have p7:=QS (aa HBp.out 7) (.string p.nm) rfl
      have p0:=QS (aa HBp.out 0) (.int .u8 p.wn) rfl
      by_cases hwn:p.wn=5
      ·by_cases hly:lay p.vb=kk
       ·have HY2:Hid (E++eU kk x.r.nu k x.r.ps (m+1)=D++[⟨⟨x.r.nu,(m:Int),p⟩,k⟩]):=by show _=_;rw[HEn2.out,if_pos ⟨hwn,hly⟩]
        have e1:(p.wn == 5)=true:=by simpa using hwn
        obtain⟨ly,hl⟩:=Qe (lay p.vb)
        rw[←hl] at HLy hly
        have e2:(ly == kk)=true:=by simpa using hly
        clear hwn hly hl
        go_wp2_with (first | (go_at_call 213;refine(HLy _).mono ?_;rintro e3 w3 ⟨rfl,h3⟩;obtain rfl:Z=w3:=h3.symm;clear HLy) | (at_builtin;refine bE (by rfl) (.tmp 44) (.tmp 52) 126 rfl W1.heap.size 131 i0 _ 11 64 Tryz.underlying126 hi hz0 hz1 hz2 rfl (by decide) _ n (seR.cs D) rfl (World.ownsRow.alloc HO3.out _) _ 1 (sec ⟨⟨x.r.nu,(m:Int),p⟩,k⟩) rfl (B9 Z ⟨⟨x.r.nu,(m:Int),p⟩,k⟩) (ni _) HLn'.out.1 HLn'.out.2 (by rw[World.size_alloc];exact Nat.le_succ_of_le (ae HGY1.out HGZ.out).size) ?_;intro v3 w3 o3 g3 _;have HO4:Hid _:=o3;have HG4:Hid _:=g3;clear o3 g3))
        have hbz:=ag (World.grownBy_alloc Z (.cells (sec ⟨⟨x.r.nu,(m:Int),p⟩,k⟩).toArray 131) none) HBxZ.out (by simp)
        have HF3:Hid (eG w3 W1.heap.size v3 (D++[⟨⟨x.r.nu,(m:Int),p⟩,k⟩])∧W1.grownBy w3 none∧w3.heap[nb]?=some (.cells #[.int .i64 x.r.nu,.int .i64 x.r.st,.string x.r.h.nm,.int .u8 x.r.h.su,.int .u8 x.r.h.kd,.int .i64 x.r.h.co,.int .i64 x.r.h.po,.int .i64 x.r.h.he,.int .u16 x.r.h.tr,.bool x.r.h.tk,.slice x.pa x.r.ps.length x.ca] 230 (0,0))):=⟨az.more HO4.out HN.out,ar (al (ae HGY1.out HGZ.out) _) HG4.out (fun y e=>(World.ownsRow.lt HO3.out y e).1),ag HG4.out hbz (dv (World.ownsRow.alloc HO3.out _) hbz (by decide))⟩
        clear hbz HO4 HG4
        go_roundw
        case rel=>exact⟨m+1,Hml.out,by first | rfl | (rw[hwm];rfl) | go_num,by rw[HY2.out];exact HF3.out.1,HF3.out.2.1,by first | exact HF3.out.2.2 | (rw[←H3.out];exact HF3.out.2.2)⟩
        case measure=>first | exact HMm.out | (rw[hwm];exact HMm.out)
       ·have HY2:Hid (E++eU kk x.r.nu k x.r.ps (m+1)=D):=by show _=_;rw[HEn2.out,if_neg (fun q=>hly q.2),List.append_nil]
        have e1:(p.wn == 5)=true:=by simpa using hwn
        obtain⟨ly,hl⟩:=Qe (lay p.vb)
        rw[←hl] at HLy hly
        have e2:(ly == kk)=false:=by simpa using hly
        clear hwn hly hl
        go_wp2_with (first | (go_at_call 213;refine(HLy _).mono ?_;rintro e3 w3 ⟨rfl,h3⟩;obtain rfl:Z=w3:=h3.symm;clear HLy))
        go_roundw
        case rel=>exact⟨m+1,Hml.out,by first | rfl | (rw[hwm];rfl) | go_num,by rw[HY2.out];unfold eG az.Own;rw[←HN.out];exact HO3.out,ae HGY1.out HGZ.out,by first | exact HBxZ.out | (rw[←H3.out];exact HBxZ.out)⟩
        case measure=>first | exact HMm.out | (rw[hwm];exact HMm.out)
      ·have HY2:Hid (E++eU kk x.r.nu k x.r.ps (m+1)=D):=by show _=_;rw[HEn2.out,if_neg (fun q=>hwn q.1),List.append_nil]
       have e1:(p.wn == 5)=false:=by simpa using hwn
       clear hwn
       go_wp2
       go_roundw
       case rel=>exact⟨m+1,Hml.out,by first | rfl | (rw[hwm];rfl) | go_num,by rw[HY2.out];unfold eG az.Own;rw[←HN.out];exact HO3.out,ae HGY1.out HGZ.out,by first | exact HBxZ.out | (rw[←H3.out];exact HBxZ.out)⟩
       case measure=>first | exact HMm.out | (rw[hwm];exact HMm.out)
     ·obtain rfl:m=x.r.ps.length:=Nat.le_antisymm hm (Nat.le_of_not_lt hml)
      have HF:Hid (eG Y W1.heap.size (.slice q2 (E++eU kk x.r.nu k x.r.ps x.r.ps.length).length cq2) (gZ (rws X) F kk (k+1))∧W1.grownBy Y none):=⟨by rw[HY.out];exact O,G⟩
      clear O G BX hml hm
      go_wp2_with fail
      go_roundw
      case rel=>exact⟨k+1,Hlt.out,by first | rfl | (rw[hwk];rfl) | go_num,HF.out.1,HF.out.2⟩
      case measure=>first | exact HM.out | (rw[hwk];exact HM.out)
  ·obtain rfl:k=X.length:=Nat.le_antisymm hk (Nat.le_of_not_lt hlt)
   have HF:Hid (eG U w.heap.size (.slice q (gZ (rws X) F kk X.length).length cq) (cx (rws X) F kk)∧w.grownBy U none):=⟨by unfold cx;rw[cQ];exact aP O HG1.out.size,ae HG1.out G⟩
   clear O G hk hlt
   go_wp2_with fail
   go_ret
   exact⟨_,rfl,HF.out⟩
set_option maxHeartbeats 8000000
theorem RJ.setTail {cs:List Value} (f2:p.nms.length=9) (h:w.heap[b]?=some (.cells (Value.bool true :: .bool p.shut :: v :: (p.nms.map Value.string++cs)).toArray 198 (0,0))) (i:Nat) (u:Value):(w.setCell ⟨b,12+i,none⟩ u).heap[b]?=some (.cells (Value.bool true :: .bool p.shut :: v :: (p.nms.map Value.string++cs.set i u)).toArray 198 (0,0)):=by
 rw[aC h]
 congr 2
 rw[List.setIfInBounds_toArray]
 congr 1
 rw[show 12+i=9+i+1+1+1 by omega]
 simp only[List.set_cons_succ]
 rw[List.set_append_right _ _ (by simp[f2]),List.length_map,f2,show 9+i - 9=i by omega]
theorem RJ.setM (h:RJ w b v p) {n:Nat} (hn:n<5) (m:Mk):RJ (st4 w b (12+n*4) m) b v { p with mks:=p.mks.set n m }:=by
 refine⟨?_,h.nine,by simpa using h.five⟩
 have e:=RJ.setTail h.nine (RJ.setTail h.nine (RJ.setTail h.nine (RJ.setTail h.nine (cs:=fA p.mks) h.lies (n*4) (.int .u8 m.mi)) (n*4+1) (.string m.nm)) (n*4+2) (.int .i64 m.po)) (n*4+3) (.int .i64 m.he)
 rw[jL _ _ _ (by rw[h.five];exact hn)] at e
 exact e
def NoM (p:Pl) (t:Nat) (s:ByteArray) (i:Nat):Prop:=∀ (j:Nat) x,1≤j→j<i→p.mks[j]?=some x→¬x.nm=s∧(j=t→x.nm=⟨#[]⟩)
theorem NoM.next {t:Nat} {s:ByteArray} {x:Mk} (h:NoM p t s i) (hx:p.mks[i]?=some x) (h1:¬x.nm=s) (h2:i=t→x.nm=⟨#[]⟩):NoM p t s (i+1):=fun j y hj1 hj hy=>by
 rcases (show j<i∨j=i from by omega) with hji | rfl
 ·exact h j y hj1 hji hy
 ·rw[hx] at hy
  obtain rfl:=Option.some.inj hy
  exact⟨h1,h2⟩
theorem Bb {t:Nat} {s:ByteArray} {po he:Int} (hs:p.shut=false) (h1:1≤t∧t≤4∧fF po=true∧fF he=true) (hn:aT s.data.toList=true):maE p ⟨(t:Int),s,po,he⟩=if ¬(p.mks.getD t Mk.none).nm=⟨#[]⟩∨0≤pos (dw p.mks) s then 5 else 0:=by
 unfold maE
 rw[if_neg (by simp[hs]),if_neg ?_,if_neg (by simp[hn])]
 ·rfl
 ·rintro (h | h | h | h)
  ·have h':(t:Int)<1:=h
   omega
  ·have h':(4:Int)<(t:Int):=h
   omega
  ·rw[show fF po=false from h] at h1
   cases h1.2.2.1
  ·rw[show fF he=false from h] at h1
   cases h1.2.2.2
theorem xl {t:Nat} {s:ByteArray} {po he:Int} {x:Mk} (hs:p.shut=false) (h1:1≤t∧t≤4∧fF po=true∧fF he=true) (hn:aT s.data.toList=true) (hx:p.mks[i]?=some x) (h:x.nm=s∨(i=t∧¬x.nm=⟨#[]⟩)):maE p ⟨(t:Int),s,po,he⟩=5:=by
 rw[Bb hs h1 hn,if_pos ?_]
 rcases h with rfl | ⟨rfl,h⟩
 ·right
  apply Classical.byContradiction
  intro hc
  exact qZ (Int.not_le.1 hc) (Qm (l9 hx))
 ·left
  rw[List.getD_eq_getElem?_getD,hx]
  exact h
theorem AY {t:Nat} {s:ByteArray} {po he:Int} (hs:p.shut=false) (h1:1≤t∧t≤4∧fF po=true∧fF he=true) (hn:aT s.data.toList=true) (h5:p.mks.length=5) (hz:p.mks[0]?=some Mk.none) (h:NoM p t s 5):maE p ⟨(t:Int),s,po,he⟩=0:=by
 rw[Bb hs h1 hn,if_neg ?_]
 rintro (h2 | h2)
 ·obtain⟨x,hx⟩:∃ x,p.mks[t]?=some x:=⟨_,Qg (by omega)⟩
  rw[List.getD_eq_getElem?_getD,hx] at h2
  exact h2 ((h t x h1.1 (by omega) hx).2 rfl)
 ·have hm:=xO _ _ h2
  unfold dw at hm
  rw[List.getElem?_map] at hm
  obtain⟨x,hx,hxs⟩:=Option.map_eq_some_iff.1 hm
  have hl:=(Qh hx).1
  by_cases h0:(pos (dw p.mks) s).toNat=0
  ·unfold dw at h0
   rw[h0,hz] at hx
   obtain rfl:=Option.some.inj hx
   rw[←hxs] at hn
   rw[show (Mk.none).nm=(⟨#[]⟩:ByteArray) from rfl,vH] at hn
   cases hn
  ·unfold dw at h0
   exact(h _ x (by omega) (by omega) hx).1 hxs
theorem D9 (h:MkD p) (m:Mk):MkD (maP p m):=by
 unfold maP
 by_cases h0:maE p m=0
 ·rw[if_pos h0]
  have hm:1≤m.mi∧¬m.nm=⟨#[]⟩:=by
   unfold maE at h0
   split at h0
   ·omega
   ·split at h0
    ·omega
    ·rename_i hr
     split at h0
     ·omega
     ·rename_i hn
      refine⟨by omega,fun e=>hn ?_⟩
      rw[e]
      rfl
  refine⟨?_,fun x hx=>?_⟩
  ·show (p.mks.set m.mi.toNat m)[0]?=_
   rw[List.getElem?_set_ne (by omega)]
   exact h.1
  ·rcases List.mem_or_eq_of_mem_set hx with hx | rfl
   ·exact h.2 x hx
   ·exact Or.inr ⟨by omega,hm.2⟩
 ·rw[if_neg h0];exact h
theorem yz (b:Nat) (v:Value) (p:Pl) (m:Mk) (w:World) (R:RJ w b v p) (h0:0≤m.mi∧m.mi≤255) (hD:MkD p):Calls Tryz.prog 54 #[.pointer (some ⟨b,0,none⟩),mv m] w fun e w'=>e=.returned (.int .i64 (maE p m))∧RJ w' b v (maP p m)∧w.grownBy w' (some b):=by
 obtain⟨mi,nm,po,he⟩:=m
 obtain⟨W1,hW1⟩:=Qe (w.alloc (.cells #[.int .u8 mi,.string nm,.int .i64 po,.int .i64 he] 115))
 have HG1:Hid (w.grownBy W1 none):=by rw[hW1];exact QG
 have A:W1.heap[w.heap.size]?=some (.cells #[.int .u8 mi,.string nm,.int .i64 po,.int .i64 he] 115 (0,0)):=by rw[hW1];exact ak w _ _
 have HA:Hid (W1.heap[w.heap.size]?=some (.cells #[.int .u8 mi,.string nm,.int .i64 po,.int .i64 he] 115 (0,0))):=A
 have HR:Hid (RJ W1 b v p):=R.keep HG1.out
 have HD:Hid (MkD p):=hD
 have a0:=aa A 0
 have a1:=aa A 1
 have a2:=aa A 2
 have a3:=aa A 3
 have af:=fun i=>au A i
 have HE:Hid (w.grownBy W1 (some b)):=aW HG1.out (ay _ _)
 have c1:=HR.out.shut
 clear A R hD
 unfold mv
 cases hs:p.shut with
 | true =>
  rw[hs] at c1
  have e1:maE p ⟨mi,nm,po,he⟩=7:=if_pos hs
  have e2:maP p ⟨mi,nm,po,he⟩=p:=if_neg (by rw[e1];decide)
  rw[e1,e2]
  clear e1 e2 hs
  go_enter Tryz.func54,Tryz.ntmps54
  go_upto_region 1 with fail
  rw[←hW1]
  clear hW1
  go_wp2_with fail
  refine(bs b _ p W1 HR.out).mono ?_
  rintro e w1 ⟨rfl,h1⟩
  obtain rfl:W1=w1:=h1.symm
  go_wp2
  go_ret
  exact⟨rfl,HR.out,HE.out⟩
 | false =>
  rw[hs] at c1
  by_cases ht:mi<1∨4<mi∨fF po=false∨fF he=false
  ·have e1:maE p ⟨mi,nm,po,he⟩=2:=by unfold maE;rw[if_neg (by simp[hs]),if_pos ht]
   have e2:maP p ⟨mi,nm,po,he⟩=p:=if_neg (by rw[e1];decide)
   rw[e1,e2]
   clear e1 e2 hs
   rcases (show mi<1∨(¬mi<1∧4<mi)∨(¬mi<1∧¬4<mi∧po < -9)∨(¬mi<1∧¬4<mi∧¬po < -9∧9<po)∨(¬mi<1∧¬4<mi∧¬po < -9∧¬9<po∧he < -9)∨(¬mi<1∧¬4<mi∧¬po < -9∧¬9<po∧¬he < -9∧9<he) by
    unfold fF at ht
    simp only[Bool.and_eq_false_iff,decide_eq_false_iff_not] at ht
    omega) with h | ⟨k1,h⟩ | ⟨k1,k2,h⟩ | ⟨k1,k2,k3,h⟩ | ⟨k1,k2,k3,k4,h⟩ | ⟨k1,k2,k3,k4,k5,h⟩
   all_goals
    clear ht h0
    go_enter Tryz.func54,Tryz.ntmps54
    go_upto_region 1 with fail
    rw[←hW1]
    clear hW1
    go_wp2_with fail
    refine(bs b _ p W1 HR.out).mono ?_
    rintro e w1 ⟨rfl,h1⟩
    obtain rfl:W1=w1:=h1.symm
    go_wp2
    go_ret
    exact⟨rfl,HR.out,HE.out⟩
  ·obtain⟨k1,k2,k3,k4,k5,k6⟩:¬mi<1∧¬4<mi∧¬po < -9∧¬9<po∧¬he < -9∧¬9<he:=by
    unfold fF at ht
    simp only[Bool.and_eq_false_iff,decide_eq_false_iff_not] at ht
    omega
   have f1:fF po=true:=by unfold fF;simp;omega
   have f2:fF he=true:=by unfold fF;simp;omega
   cases hn:aT nm.data.toList with
   | false =>
    have e1:maE p ⟨mi,nm,po,he⟩=4:=by unfold maE;rw[if_neg (by simp[hs]),if_neg ht,if_pos hn]
    have e2:maP p ⟨mi,nm,po,he⟩=p:=if_neg (by rw[e1];decide)
    have HN:=oJ nm W1
    rw[hn] at HN
    rw[e1,e2]
    clear e1 e2 hs hn ht f1 f2 h0
    go_enter Tryz.func54,Tryz.ntmps54
    go_upto_region 1 with fail
    rw[←hW1]
    clear hW1
    go_wp2_with fail
    refine(bs b _ p W1 HR.out).mono ?_
    rintro e w1 ⟨rfl,h1⟩
    obtain rfl:W1=w1:=h1.symm
    go_wp2_with fail
    refine HN.mono ?_
    rintro e w1 ⟨rfl,h1⟩
    obtain rfl:W1=w1:=h1.symm
    go_wp2
    go_ret
    exact⟨rfl,HR.out,HE.out⟩
   | true =>
    have HN:=oJ nm W1
    rw[hn] at HN
    obtain⟨n,rfl⟩:=Int.eq_ofNat_of_zero_le h0.1
    have HNm:Hid (aT nm.data.toList=true):=hn
    have HSh:Hid (p.shut=false):=hs
    have HT:Hid (1≤n∧n≤4∧fF po=true∧fF he=true):=⟨by omega,by omega,f1,f2⟩
    have s5:ba 5:=by unfold ba;decide
    clear hs hn ht f1 f2 h0
    go_enter Tryz.func54,Tryz.ntmps54
    go_upto_region 1 with fail
    rw[←hW1]
    clear hW1
    go_wp2_with fail
    refine(bs b _ p W1 HR.out).mono ?_
    rintro e w1 ⟨rfl,h1⟩
    obtain rfl:W1=w1:=h1.symm
    go_wp2_with fail
    refine HN.mono ?_
    rintro e w1 ⟨rfl,h1⟩
    obtain rfl:W1=w1:=h1.symm
    clear HN k1 k2 k3 k4 k5 k6
    go_wp2_with fail
    go_loopw [5] (fun x5 wr=>W1.grownBy wr none∧∃ i:Nat,1≤i∧i≤5∧x5=.int .i64 (i:Int)∧NoM p n nm i) (fun x5 _=>5 - (intOf x5).toNat)
    case atStart=>exact⟨ay _ _,1,Qj _,by decide,rfl,fun j x h1 h2=>absurd h2 (by omega)⟩
    case round =>
     obtain⟨gr,i,hi1,hi5,rfl,hN⟩:=hrel
     have HNo:Hid (NoM p n nm i):=hN
     have HGr:Hid (W1.grownBy wr none):=gr
     have HRr:Hid (RJ wr b v p):=HR.out.keep gr
     have A2:=ag gr HA.out (by simp)
     have HA2:Hid (wr.heap[w.heap.size]?=some (.cells #[.int .u8 (n:Int),.string nm,.int .i64 po,.int .i64 he] 115 (0,0))):=A2
     clear hN gr a0 a1 a2 a3 af c1
     have a0:=aa A2 0
     have a1:=aa A2 1
     have a2:=aa A2 2
     have a3:=aa A2 3
     clear A2
     rcases (show i<5∨i=5 from by omega) with hil | hie
     ·have i0:(0:Int)≤(i:Int):=by omega
      have i4:(i:Int)≤4:=by omega
      have i5:(i:Int)<5:=by omega
      have im:(i:Int) % 256=(i:Int):=by omega
      obtain⟨x,hx⟩:∃ x,p.mks[i]?=some x:=⟨_,Qg (by rw[HR.out.five];exact hil)⟩
      obtain⟨d0,d1,d2,d3⟩:=HRr.out.mark hx
      have hd:=HD.out.2 x (Qm hx)
      have hz:x.mi=0↔x.nm=⟨#[]⟩:=by
       rcases hd with h | h
       ·rw[h];exact⟨fun _=>rfl,fun _=>rfl⟩
       ·exact⟨fun e=>absurd e h.1,fun e=>absurd e h.2⟩
      clear hd d2 d3
      by_cases hxs:x.nm=nm
      ·have q1:=gU hxs
       have e1:Hid (maE p ⟨(n:Int),nm,po,he⟩=5):=xl HSh.out HT.out HNm.out hx (Or.inl hxs)
       have e2:Hid (maP p ⟨(n:Int),nm,po,he⟩=p):=if_neg (by rw[e1.out];decide)
       by_cases hit:i=n
       ·have q2:((i:Int) == (n:Int))=true:=by simp[hit]
        by_cases hx0:x.mi=0
        ·have q3:(x.mi != 0)=false:=by simp[hx0]
         clear hx hit hxs hz hx0
         go_wp2_with fail
         go_quiet (fail)
         go_wp2
         go_ret
         exact⟨aM e1.out.symm,by rw[e2.out];exact HRr.out.keep (aF _ _ none),aW (ae HG1.out HGr.out) (aF _ _ _)⟩
        ·have q3:(x.mi != 0)=true:=by simpa using hx0
         clear hx hit hxs hz hx0
         go_wp2_with fail
         go_quiet (fail)
         go_wp2
         go_ret
         exact⟨aM e1.out.symm,by rw[e2.out];exact HRr.out.keep (aF _ _ none),aW (ae HG1.out HGr.out) (aF _ _ _)⟩
       ·have q2:((i:Int) == (n:Int))=false:=by simpa using (show ¬(i:Int)=(n:Int) by omega)
        clear hx hit hxs hz
        go_wp2_with fail
        go_quiet (fail)
        go_wp2
        go_ret
        exact⟨aM e1.out.symm,by rw[e2.out];exact HRr.out.keep (aF _ _ none),aW (ae HG1.out HGr.out) (aF _ _ _)⟩
      ·have q1:=j6 hxs
       by_cases hit:i=n
       ·have q2:((i:Int) == (n:Int))=true:=by simp[hit]
        by_cases hx0:x.mi=0
        ·have q3:(x.mi != 0)=false:=by simp[hx0]
         have HN2:Hid (NoM p n nm (i+1)):=HNo.out.next hx hxs (fun _=>hz.1 hx0)
         clear hx hit hxs hz hx0 hi1 hi5
         go_wp2_with fail
         go_quiet (fail)
         go_wp2_with fail
         go_roundw
         case rel=>exact⟨ae HGr.out (aF _ _ none),i+1,by omega,hil,by first | rfl | (rw[s5.wrap hil];rfl),HN2.out⟩
         case measure=>first | exact aA hil | (rw[s5.wrap hil];exact aA hil)
        ·have q3:(x.mi != 0)=true:=by simpa using hx0
         have e1:Hid (maE p ⟨(n:Int),nm,po,he⟩=5):=xl HSh.out HT.out HNm.out hx (Or.inr ⟨hit,fun e=>hx0 (hz.2 e)⟩)
         have e2:Hid (maP p ⟨(n:Int),nm,po,he⟩=p):=if_neg (by rw[e1.out];decide)
         clear hx hit hxs hz hx0
         go_wp2_with fail
         go_quiet (fail)
         go_wp2
         go_ret
         exact⟨aM e1.out.symm,by rw[e2.out];exact HRr.out.keep (aF _ _ none),aW (ae HG1.out HGr.out) (aF _ _ _)⟩
       ·have q2:((i:Int) == (n:Int))=false:=by simpa using (show ¬(i:Int)=(n:Int) by omega)
        have HN2:Hid (NoM p n nm (i+1)):=HNo.out.next hx hxs (fun e=>absurd e hit)
        clear hx hit hxs hz hi1 hi5
        go_wp2_with fail
        go_quiet (fail)
        go_wp2_with fail
        go_roundw
        case rel=>exact⟨ae HGr.out (aF _ _ none),i+1,by omega,hil,by first | rfl | (rw[s5.wrap hil];rfl),HN2.out⟩
        case measure=>first | exact aA hil | (rw[s5.wrap hil];exact aA hil)
     ·have i4:¬(i:Int)≤4:=by omega
      have e1:Hid (maE p ⟨(n:Int),nm,po,he⟩=0):=AY HSh.out HT.out HNm.out HR.out.five HD.out.1 (by rw[←hie];exact HNo.out)
      have e2:Hid (maP p ⟨(n:Int),nm,po,he⟩={ p with mks:=p.mks.set n ⟨(n:Int),nm,po,he⟩ }):=by
       show maP p ⟨(n:Int),nm,po,he⟩=_
       unfold maP
       rw[if_pos e1.out]
       rfl
      have n5:n<5:=by have:=HT.out.2.1;omega
      obtain⟨d0,d1,d2,d3⟩:=HRr.out.mark (t:=n) (getD_some (d:=Mk.none) (by rw[HR.out.five];exact n5))
      have df:=fun i=>HRr.out.free i
      have t0:(0:Int)≤(n:Int):=by omega
      have t5:(n:Int)<5:=by omega
      clear hie hi1 hi5
      go_wp2_with fail
      go_region
      go_wp2
      go_ret
      have F1:=(HRr.out.setM n5 ⟨(n:Int),nm,po,he⟩).keep (ai _)
      have F2:=aW (ae HG1.out HGr.out) ((qn wr b (12+n*4) ⟨(n:Int),nm,po,he⟩).trans (gw _ _))
      unfold st4 at F1 F2
      exact⟨aM e1.out.symm,by rw[e2.out];exact F1,F2⟩
end Go.Proofs.YtjmepebbcnhalaaGreat
