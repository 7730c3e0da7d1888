import Derived.Test.YtjmepebbcnhalaaGreatZ11
namespace Go.Proofs.YtjmepebbcnhalaaGreat
open Tryz
set_option maxRecDepth 100000
set_option maxHeartbeats 4000000
open Go.RowKit
variable {w:World} {base size b m i:Nat} {v:Value} {xs:List Value} {cs:Array Value} {ps:List Pt} {p:Pl}
theorem lS (k nu:Int) (ro:Nat) (ps:List Pt) (m:Nat):fD k nu ro ps (m+1)=fD k nu ro ps m++(if (ps.getD m Pt.none).wn=5∧lay (ps.getD m Pt.none).vb=k then [⟨⟨nu,(m:Int),ps.getD m Pt.none⟩,ro⟩] else []):=by
 unfold fD;rw[Qbu,Qcv,Qd0];split <;> simp_all
theorem pM (k nu:Int) (ro:Nat) (ps:List Pt) (m:Nat):(fD k nu ro ps m).length≤m:=by
 have:=List.length_filterMap_le (fun i=>if (ps.getD i Pt.none).wn=5∧lay (ps.getD i Pt.none).vb=k then some (⟨⟨nu,(i:Int),ps.getD i Pt.none⟩,ro⟩:Se) else none) (List.range m);rwa [Qc0] at this
theorem jA (R:List Rw) (F:List Fe) (k:Int) (m:Nat):j7 R F k (m+1)=j7 R F k m++jO R F k m:=by
 unfold j7;rw[Qbu,List.flatMap_append];simp
theorem jt {R:List Rw} {F:List Fe} {k:Int} (h:∀ i,(R.getD i Rw.none).ps.length≤4):∀ m,(j7 R F k m).length≤m*4
 | 0=>Q0 _
 | m+1=>by
  rw[jA,Qa];have h1:=jt h m (F:=F) (k:=k)
  have h2:(jO R F k m).length≤4:=by
   unfold jO;split
   ·exact Q0 _
   ·exact Ql (pM _ _ _ _ _) (h m)
  omega
def iO (w:World) (base:Nat) (v:Value) (L:List Se):Prop:=seR.Own 131 w base v L
theorem linfoS:(prog.info? 131).map (fun i=>(i.zero,i.size,i.bytes))=some (some (.agg #[.int .i64 0,.int .i64 0,.int .u8 0,.int .u8 0,.int .u8 0,.int .i64 0,.int .u8 0,.int .u8 0,.int .u8 0,.string ⟨#[]⟩,.int .i64 0]),11,64):=by kernel_rfl
theorem bD {e n:Nat} {t:TypeId} {fr:Nat×Nat} (h:w.ownsRow base e size v n xs) (hb:w.heap[b]?=some (.cells cs t fr)) (hne:t≠e):some b≠v.ownBlock:=fun q=>by
 rcases h.2 with ⟨e1,_⟩ | ⟨g,cap,cur,e1,_,hh,_⟩
 ·rw[e1] at q;cases q
 ·rw[e1] at q;have q2:b=g:=Qa1 q;rw[q2,hh] at hb;injection hb with hb;injection hb with _ hb _;exact hne hb.symm
theorem DX (Z:World) (e:Se):Src (Z.alloc (.cells (sec e).toArray 131)) (.slice (some ⟨Z.heap.size,0,none⟩) 1 1) 1 11 (sec e):=jx (cs:=(sec e).toArray) (aj Z _ _) rfl 1
theorem Ao {n a:Nat} (h:n≤a*4+4) (ha:a≤16):n+1≤maxLen∧(n+1)*64≤140737488355328:=by unfold maxLen;omega
theorem sG (h:m<ps.length):ps[m]?=some (ps.getD m Pt.none):=by rw[aG h];exact Qg h
theorem ru (vr vf:Value) (X:List Rv) (F:List Fe) (kk:Int) (w:World) (T:jj w vr vf X F):Calls prog 142 #[tbv vr vf,.int .i64 kk] w fun e' w'=>∃ v',e'=.returned v'∧iO w' w.heap.size v' (dI (rws X) F kk)∧w.grownBy w' none:=by
 obtain⟨i0,hi,hz0,hz1,hz2⟩:=info_parts linfoS;obtain⟨pr,cr,rfl⟩:=T.rows.form;obtain⟨pf,cf,rfl⟩:=T.fs.form;obtain⟨W1,hW1⟩:=Qe (w.alloc (.cells #[.slice pr X.length cr,.slice pf F.length cf] 125));have HG1:QH (w.grownBy W1 none):=by rw[hW1];exact QG
 have HB:QH (TbB W1 w.heap.size (.slice pr X.length cr) (.slice pf F.length cf)):=by rw[hW1];exact aj w _ _
 have HT:QH (jj W1 (.slice pr X.length cr) (.slice pf F.length cf) X F):=T.keep HG1.o;have H16:QH (X.length≤16):=T.few;have HLF:QH (F.length=X.length):=T.len
 have H4:QH (∀ i,((rws X).getD i Rw.none).ps.length≤4):=fun i=>by
  by_cases h:i<X.length
  ·rw[jD h];exact(T.parts _ (Qab h)).2
  ·rw[Qa2,Qan (by rw[fP];omega)];exact Q0 _
 unfold tbv;clear T;go_enter func142,ntmps142;go_upto_region 2 with fail;rw[←hW1];clear hW1;obtain⟨n0,h0⟩:=Qe (w.heap.size);simp only[←h0] at HB ⊢;clear h0;obtain⟨a0,a1⟩:=iV HB.o;go_wp2_with fail;clear a0 a1;go_loopw [5,13] (fun v i wr=>∃ k:Nat,k≤X.length∧i=.int .i64 (k:Int)∧iO wr W1.heap.size v (j7 (rws X) F kk k)∧W1.grownBy wr none) (fun _ i _=>X.length - (intOf i).toNat)
 case atStart=>exact⟨0,Q0 _,rfl,aB.Own.nil _ _ _ _,aw _ _⟩
 case round =>
  obtain⟨k,hk,rfl,O,G⟩:=hrel;obtain⟨U,hU⟩:=Qe (wr);subst hU;obtain⟨q,cq,rfl⟩:=O.form;have HG:QH (W1.grownBy U none):=G;by_cases hlt:k<X.length
  ·have HTU:=HT.o.keep G;obtain⟨g,off,cap,e1,R⟩:=HTU.row hlt;cases e1;obtain⟨gf,fof,fcap,e2,RF⟩:=HTU.fe hlt;cases e2;have hps:=HTU.parts _ (Qab hlt);obtain⟨x,hx⟩:=Qe (X[k]);rw[←hx] at R hps;obtain⟨f,hf⟩:=Qe (F.getD k Fe.none);rw[←hf] at RF;have ex:(rws X).getD k Rw.none=x.r:=(by rw[jD hlt,←hx]);have HEf:QH (jO (rws X) F kk k=if gH f.tr 6 then [] else fD kk x.r.nu k x.r.ps x.r.ps.length):=(by show _=_;unfold jO;rw[ex,←hf]);have HPs:QH (da W1 x.u x.r.ps):=(by rw[hx];exact(HT.o.parts _ (Qab hlt)).1);have Hp4:QH (x.r.ps.length≤4):=hps.2;obtain⟨c0,c1,c2',c3,c4,c5,c6,c7,c8,c9,c10⟩:=iC R;have c10':U.cell? ⟨g,off+k*11+10,none⟩=some (.slice x.pa x.r.ps.length x.ca):=c10;obtain⟨V,hV⟩:=Qe (U.alloc (.cells #[.int .i64 x.r.nu,.int .i64 x.r.st,.string x.r.h.nm,.int .u8 x.r.h.su,.int .u8 x.r.h.kd,.int .i64 x.r.h.co,.int .i64 x.r.h.po,.int .i64 x.r.h.he,.int .u16 x.r.h.tr,.bool x.r.h.tk,.slice x.pa x.r.ps.length x.ca] 230));have HGV:QH (U.grownBy V none):=(by rw[hV];exact QG);have HBx:QH (V.heap[U.heap.size]?=some (.cells #[.int .i64 x.r.nu,.int .i64 x.r.st,.string x.r.h.nm,.int .u8 x.r.h.su,.int .u8 x.r.h.kd,.int .i64 x.r.h.co,.int .i64 x.r.h.po,.int .i64 x.r.h.he,.int .u16 x.r.h.tr,.bool x.r.h.tk,.slice x.pa x.r.ps.length x.ca] 230 (0,0))):=(by rw[hV];exact aj _ _ _);have f2:=(bP (bQ RF HGV.o)).2.2.1;obtain⟨a0,a1⟩:=iV (show TbB V n0 _ _ from ag (aa G HGV.o) HB.o (by simp));have HO:QH (iO V W1.heap.size (.slice q (j7 (rws X) F kk k).length cq) (j7 (rws X) F kk k)):=O.grow HGV.o;have hEl:(j7 (rws X) F kk k).length≤k*4:=jt H4.o k;have HEn:QH (j7 (rws X) F kk (k+1)=j7 (rws X) F kk k++jO (rws X) F kk k):=jA _ _ _ _;obtain⟨E,hE⟩:=Qe (j7 (rws X) F kk k);rw[←hE] at HO hEl HEn ⊢;have HEl:QH (E.length≤k*4):=hEl;have hlt':(k:Int)<X.length:=Int.ofNat_lt.2 hlt;have hkf:(k:Int)<F.length:=(by rw[HLF.o];exact Int.ofNat_lt.2 hlt);have hwk:=aR (k:=k) (Ql (Qaf hlt) (Ql H16.o (by decide)));have Hlt:QH (k<X.length):=hlt;have Hk16:QH (k≤16):=Ql (Qaf hlt) H16.o;have HM:QH (X.length - (intOf (.int .i64 ((k:Int)+1))).toNat<X.length - (intOf (.int .i64 (k:Int))).toNat):=cj hlt;have HHas:=mU f.tr 6;obtain⟨b,hb⟩:=Qe (gH f.tr 6);rw[←hb] at HHas HEf;clear O G hps R RF hx hf ex c10 hEl hE hlt hk HTU hb;go_upto_region 5 with fail;rw[←hV];clear hV c0 c1 c2' c3 c4 c5 c6 c7 c8 c9 c10';obtain⟨nb,hnb⟩:=Qe (U.heap.size);rw[←hnb] at HBx ⊢;clear hnb;cases b with
   | true =>
    have HY:QH (j7 (rws X) F kk (k+1)=E):=(by show _=_;rw[HEn.o,HEf.o,if_pos rfl,Qb4]);go_wp2_with (go_at_call 212;refine(HHas _).mono ?_;rintro e3 w3 ⟨rfl,h3⟩;obtain rfl:V=w3:=h3.symm)
    go_roundw
    case rel=>exact⟨k+1,Hlt.o,by first | rfl | (rw[hwk];rfl) | go_num,by rw[HY.o];exact HO.o,aa HG.o HGV.o⟩
    case measure=>first | exact HM.o | (rw[hwk];exact HM.o)
   | false =>
    have HY:QH (j7 (rws X) F kk (k+1)=E++fD kk x.r.nu k x.r.ps x.r.ps.length):=(by show _=_;rw[HEn.o,HEf.o];rfl);have z0:=QS (ae HBx.o 0) (.int .i64 x.r.nu) rfl;have z10:=QS (ae HBx.o 10) (.slice x.pa x.r.ps.length x.ca) rfl;go_wp2_with (go_at_call 212;refine(HHas _).mono ?_;rintro e3 w3 ⟨rfl,h3⟩;obtain rfl:V=w3:=h3.symm)
    clear a0 a1 f2 HHas z0 z10;go_loopw [5,29] (fun v i wr=>∃ m:Nat,m≤x.r.ps.length∧i=.int .i64 (m:Int)∧iO wr W1.heap.size v (E++fD kk x.r.nu k x.r.ps m)∧W1.grownBy wr none∧wr.heap[nb]?=some (.cells #[.int .i64 x.r.nu,.int .i64 x.r.st,.string x.r.h.nm,.int .u8 x.r.h.su,.int .u8 x.r.h.kd,.int .i64 x.r.h.co,.int .i64 x.r.h.po,.int .i64 x.r.h.he,.int .u16 x.r.h.tr,.bool x.r.h.tk,.slice x.pa x.r.ps.length x.ca] 230 (0,0))) (fun _ i _=>x.r.ps.length - (intOf i).toNat)
    case atStart=>exact⟨0,Q0 _,rfl,by rw[show fD kk x.r.nu k x.r.ps 0=[] from rfl,Qb4];exact HO.o,aa HG.o HGV.o,HBx.o⟩
    case round =>
     obtain⟨m,hm,rfl,O,G,BX⟩:=hrel;obtain⟨Y,hY⟩:=Qe (wr);subst hY;obtain⟨q2,cq2,rfl⟩:=O.form;have HGY1:QH (W1.grownBy Y none):=G;by_cases hml:m<x.r.ps.length
     ·obtain⟨gp,po,pc,e3,RP⟩:=(HPs.o.keep G).part (Qbg (Q0 _) hml);unfold Rv.u at e3;injection e3 with e3 e4 e5;obtain⟨p,hp⟩:=Qe (x.r.ps.getD m Pt.none);have HP8:QH (P8 Y gp (po+m*8) p):=RP m p (by rw[hp];exact sG hml);have c0:=HP8.o.c0;have c1:=HP8.o.c1;have c2':=HP8.o.c2;have c3:=HP8.o.c3;have c4:=HP8.o.c4;have c5:=HP8.o.c5;have c6:=HP8.o.c6;have c7:=HP8.o.c7;obtain⟨Z,hZ⟩:=Qe (Y.alloc (.cells #[.int .u8 p.wn,.int .u8 p.vb,.int .u8 p.wm,.int .i64 p.ct,.int .u8 p.su,.int .u8 p.tr,.int .u8 p.mr,.string p.nm] 62));have HGZ:QH (Y.grownBy Z none):=(by rw[hZ];exact QG);have HBp:QH (Z.heap[Y.heap.size]?=some (.cells #[.int .u8 p.wn,.int .u8 p.vb,.int .u8 p.wm,.int .i64 p.ct,.int .u8 p.su,.int .u8 p.tr,.int .u8 p.mr,.string p.nm] 62 (0,0))):=(by rw[hZ];exact aj _ _ _);have HBxZ:QH (Z.heap[nb]?=some (.cells #[.int .i64 x.r.nu,.int .i64 x.r.st,.string x.r.h.nm,.int .u8 x.r.h.su,.int .u8 x.r.h.kd,.int .i64 x.r.h.co,.int .i64 x.r.h.po,.int .i64 x.r.h.he,.int .u16 x.r.h.tr,.bool x.r.h.tk,.slice x.pa x.r.ps.length x.ca] 230 (0,0))):=ag HGZ.o BX (by simp);have z0:=QS (ae HBxZ.o 0) (.int .i64 x.r.nu) rfl;have HO2:QH (iO Z W1.heap.size (.slice q2 (E++fD kk x.r.nu k x.r.ps m).length cq2) (E++fD kk x.r.nu k x.r.ps m)):=O.grow HGZ.o;have hEl:(E++fD kk x.r.nu k x.r.ps m).length≤k*4+4:=(by rw[Qa];exact Nat.add_le_add HEl.o (Ql (pM _ _ _ _ _) (Ql (Qaf hml) Hp4.o)));have HLn:=Ao hEl Hk16.o;have HEn2:QH (E++fD kk x.r.nu k x.r.ps (m+1)=E++fD kk x.r.nu k x.r.ps m++(if p.wn=5∧lay p.vb=kk then [⟨⟨x.r.nu,(m:Int),p⟩,k⟩] else [])):=(by show _=_;rw[lS,←hp,Qb8]);obtain⟨D,hD⟩:=Qe (E++fD kk x.r.nu k x.r.ps m);rw[←hD] at HO2 HLn HEn2 ⊢;obtain⟨n,hn⟩:=Qe (D.length);have HN:QH (n=D.length):=hn;have HO3:QH (Z.ownsRow W1.heap.size 131 11 (.slice q2 n cq2) n (seR.cs D)):=(by rw[hn];exact HO2.o);rw[←hn] at HLn ⊢;have HLn':QH (n+1≤maxLen∧(n+1)*64≤140737488355328):=HLn;have hml':(m:Int)<x.r.ps.length:=Int.ofNat_lt.2 hml;have hwm:=aR (k:=m) (Ql (Qaf hml) (Ql Hp4.o (by decide)));have Hml:QH (m<x.r.ps.length):=hml;have HMm:QH (x.r.ps.length - (intOf (.int .i64 ((m:Int)+1))).toNat<x.r.ps.length - (intOf (.int .i64 (m:Int))).toNat):=cj hml;have HLy:=lp p.vb;have H3:QH (x.pa=some ⟨gp,po,none⟩):=e3;clear O G BX RP hp hEl HLn hD hn hml hm HO2 e4 e5 e3;rw[H3.o];go_upto_region 9 with fail;rw[←hZ];obtain⟨nc,hnc⟩:=Qe (Y.heap.size);rw[←hnc] at HBp ⊢;clear hZ hnc c0 c1 c2' c3 c4 c5 c6 c7;have p1:=QS (ae HBp.o 1) (.int .u8 p.vb) rfl;have p2:=QS (ae HBp.o 2) (.int .u8 p.wm) rfl;have p3:=QS (ae HBp.o 3) (.int .i64 p.ct) rfl;have p4:=QS (ae HBp.o 4) (.int .u8 p.su) rfl;have p5:=QS (ae HBp.o 5) (.int .u8 p.tr) rfl;have p6:=QS (ae HBp.o 6) (.int .u8 p.mr) rfl;have p7:=QS (ae HBp.o 7) (.string p.nm) rfl;have p0:=QS (ae HBp.o 0) (.int .u8 p.wn) rfl;by_cases hwn:p.wn=5
      ·by_cases hly:lay p.vb=kk
       ·have HY2:QH (E++fD kk x.r.nu k x.r.ps (m+1)=D++[⟨⟨x.r.nu,(m:Int),p⟩,k⟩]):=(by show _=_;rw[HEn2.o,if_pos ⟨hwn,hly⟩]);have e1:(p.wn == 5)=true:=(by simpa using hwn);obtain⟨ly,hl⟩:=Qe (lay p.vb);rw[←hl] at HLy hly;have e2:(ly == kk)=true:=(by simpa using hly);clear hwn hly hl;go_wp2_with (first | (go_at_call 213;refine(HLy _).mono ?_;rintro e3 w3 ⟨rfl,h3⟩;obtain rfl:Z=w3:=h3.symm;clear HLy) | (at_builtin;refine br (by rfl) (.tmp 44) (.tmp 52) 126 rfl W1.heap.size 131 i0 _ 11 64 underlying126 hi hz0 hz1 hz2 rfl (by decide) _ n (seR.cs D) rfl (Qaq HO3.o _) _ 1 (sec ⟨⟨x.r.nu,(m:Int),p⟩,k⟩) rfl (DX Z ⟨⟨x.r.nu,(m:Int),p⟩,k⟩) (nJ _) HLn'.o.1 HLn'.o.2 (by rw[Qa3];exact Qca (aa HGY1.o HGZ.o).size) ?_;intro v3 w3 o3 g3 _;have HO4:QH _:=o3;have HG4:QH _:=g3;clear o3 g3))
        have hbz:=ag (Qa0 Z (.cells (sec ⟨⟨x.r.nu,(m:Int),p⟩,k⟩).toArray 131) none) HBxZ.o (by simp);have HF3:QH (iO w3 W1.heap.size v3 (D++[⟨⟨x.r.nu,(m:Int),p⟩,k⟩])∧W1.grownBy w3 none∧w3.heap[nb]?=some (.cells #[.int .i64 x.r.nu,.int .i64 x.r.st,.string x.r.h.nm,.int .u8 x.r.h.su,.int .u8 x.r.h.kd,.int .i64 x.r.h.co,.int .i64 x.r.h.po,.int .i64 x.r.h.he,.int .u16 x.r.h.tr,.bool x.r.h.tk,.slice x.pa x.r.ps.length x.ca] 230 (0,0))):=⟨aB.more HO4.o HN.o,ak (am (aa HGY1.o HGZ.o) _) HG4.o (fun y e=>(Qa5 HO3.o y e).1),ag HG4.o hbz (bD (Qaq HO3.o _) hbz (by decide))⟩
        clear hbz HO4 HG4;go_roundw
        case rel=>exact⟨m+1,Hml.o,by first | rfl | (rw[hwm];rfl) | go_num,by rw[HY2.o];exact HF3.o.1,HF3.o.2.1,by first | exact HF3.o.2.2 | (rw[←H3.o];exact HF3.o.2.2)⟩
        case measure=>first | exact HMm.o | (rw[hwm];exact HMm.o)
       ·have HY2:QH (E++fD kk x.r.nu k x.r.ps (m+1)=D):=(by show _=_;rw[HEn2.o,if_neg (fun q=>hly q.2),Qb4]);have e1:(p.wn == 5)=true:=(by simpa using hwn);obtain⟨ly,hl⟩:=Qe (lay p.vb);rw[←hl] at HLy hly;have e2:(ly == kk)=false:=(by simpa using hly);clear hwn hly hl;go_wp2_with (first | (go_at_call 213;refine(HLy _).mono ?_;rintro e3 w3 ⟨rfl,h3⟩;obtain rfl:Z=w3:=h3.symm;clear HLy))
        go_roundw
        case rel=>exact⟨m+1,Hml.o,by first | rfl | (rw[hwm];rfl) | go_num,by rw[HY2.o];unfold iO aB.Own;rw[←HN.o];exact HO3.o,aa HGY1.o HGZ.o,by first | exact HBxZ.o | (rw[←H3.o];exact HBxZ.o)⟩
        case measure=>first | exact HMm.o | (rw[hwm];exact HMm.o)
      ·have HY2:QH (E++fD kk x.r.nu k x.r.ps (m+1)=D):=(by show _=_;rw[HEn2.o,if_neg (fun q=>hwn q.1),Qb4]);have e1:(p.wn == 5)=false:=(by simpa using hwn);clear hwn;go_wp2;go_roundw
       case rel=>exact⟨m+1,Hml.o,by first | rfl | (rw[hwm];rfl) | go_num,by rw[HY2.o];unfold iO aB.Own;rw[←HN.o];exact HO3.o,aa HGY1.o HGZ.o,by first | exact HBxZ.o | (rw[←H3.o];exact HBxZ.o)⟩
       case measure=>first | exact HMm.o | (rw[hwm];exact HMm.o)
     ·obtain rfl:m=x.r.ps.length:=Qag hm (Qac hml);have HF:QH (iO Y W1.heap.size (.slice q2 (E++fD kk x.r.nu k x.r.ps x.r.ps.length).length cq2) (j7 (rws X) F kk (k+1))∧W1.grownBy Y none):=⟨by rw[HY.o];exact O,G⟩
      clear O G BX hml hm;go_wp2_with fail;go_roundw
      case rel=>exact⟨k+1,Hlt.o,by first | rfl | (rw[hwk];rfl) | go_num,HF.o.1,HF.o.2⟩
      case measure=>first | exact HM.o | (rw[hwk];exact HM.o)
  ·obtain rfl:k=X.length:=Qag hk (Qac hlt);have HF:QH (iO U w.heap.size (.slice q (j7 (rws X) F kk X.length).length cq) (dI (rws X) F kk)∧w.grownBy U none):=⟨by unfold dI;rw[fP];exact bj O HG1.o.size,aa HG1.o G⟩
   clear O G hk hlt;go_wp2_with fail;go_ret;exact⟨_,rfl,HF.o⟩
set_option maxHeartbeats 8000000
theorem RJ.setTail {cs:List Value} (f2:p.nms.length=9) (h:w.heap[b]?=some (.cells (Value.bool true :: .bool p.shut :: v :: (p.nms.map Value.string++cs)).toArray 198 (0,0))) (i:Nat) (u:Value):(w.setCell ⟨b,12+i,none⟩ u).heap[b]?=some (.cells (Value.bool true :: .bool p.shut :: v :: (p.nms.map Value.string++cs.set i u)).toArray 198 (0,0)):=by
 rw[au h]
 congr 2
 rw[Qa6]
 congr 1
 rw[show 12+i=9+i+1+1+1 by omega];simp only[List.set_cons_succ];rw[Qb6 _ _ (by simp[f2]),Qa9,f2,show 9+i - 9=i by omega]
theorem RJ.setM (h:RJ w b v p) {n:Nat} (hn:n<5) (m:Mk):RJ (st4 w b (12+n*4) m) b v { p with mks:=p.mks.set n m }:=by
 refine⟨?_,h.nine,by simpa using h.five⟩;have e:=RJ.setTail h.nine (RJ.setTail h.nine (RJ.setTail h.nine (RJ.setTail h.nine (cs:=gg p.mks) h.lies (n*4) (.int .u8 m.mi)) (n*4+1) (.string m.nm)) (n*4+2) (.int .i64 m.po)) (n*4+3) (.int .i64 m.he);rw[kr _ _ _ (by rw[h.five];exact hn)] at e;exact e
def NoM (p:Pl) (t:Nat) (s:ByteArray) (i:Nat):Prop:=∀ (j:Nat) x,1≤j→j<i→p.mks[j]?=some x→¬x.nm=s∧(j=t→x.nm=⟨#[]⟩)
theorem NoM.next {t:Nat} {s:ByteArray} {x:Mk} (h:NoM p t s i) (hx:p.mks[i]?=some x) (h1:¬x.nm=s) (h2:i=t→x.nm=⟨#[]⟩):NoM p t s (i+1):=fun j y hj1 hj hy=>by
 rcases (show j<i∨j=i from by omega) with hji | rfl
 ·exact h j y hj1 hji hy
 ·rw[hx] at hy;obtain rfl:=Qa1 hy;exact⟨h1,h2⟩
theorem DY {t:Nat} {s:ByteArray} {po he:Int} (hs:p.shut=false) (h1:1≤t∧t≤4∧fF po=true∧fF he=true) (hn:aS s.data.toList=true):maE p ⟨(t:Int),s,po,he⟩=if ¬(p.mks.getD t Mk.none).nm=⟨#[]⟩∨0≤pos (dM p.mks) s then 5 else 0:=by
 unfold maE;rw[if_neg (by simp[hs]),if_neg ?_,if_neg (by simp[hn])]
 ·rfl
 ·rintro (h | h | h | h)
  ·have h':(t:Int)<1:=h;omega
  ·have h':(4:Int)<(t:Int):=h;omega
  ·rw[show fF po=false from h] at h1;cases h1.2.2.1
  ·rw[show fF he=false from h] at h1;cases h1.2.2.2
theorem yL {t:Nat} {s:ByteArray} {po he:Int} {x:Mk} (hs:p.shut=false) (h1:1≤t∧t≤4∧fF po=true∧fF he=true) (hn:aS s.data.toList=true) (hx:p.mks[i]?=some x) (h:x.nm=s∨(i=t∧¬x.nm=⟨#[]⟩)):maE p ⟨(t:Int),s,po,he⟩=5:=by
 rw[DY hs h1 hn,if_pos ?_]
 rcases h with rfl | ⟨rfl,h⟩
 ·right;apply Classical.byContradiction;intro hc;exact sl (Int.not_le.1 hc) (Qm (lx hx))
 ·left;rw[Qa2,hx];exact h
theorem Bs {t:Nat} {s:ByteArray} {po he:Int} (hs:p.shut=false) (h1:1≤t∧t≤4∧fF po=true∧fF he=true) (hn:aS s.data.toList=true) (h5:p.mks.length=5) (hz:p.mks[0]?=some Mk.none) (h:NoM p t s 5):maE p ⟨(t:Int),s,po,he⟩=0:=by
 rw[DY hs h1 hn,if_neg ?_];rintro (h2 | h2)
 ·obtain⟨x,hx⟩:∃ x,p.mks[t]?=some x:=⟨_,Qg (by omega)⟩
  rw[Qa2,hx] at h2;exact h2 ((h t x h1.1 (by omega) hx).2 rfl)
 ·have hm:=yX _ _ h2;unfold dM at hm;rw[Qak] at hm;obtain⟨x,hx,hxs⟩:=Option.map_eq_some_iff.1 hm;have hl:=(Qh hx).1;by_cases h0:(pos (dM p.mks) s).toNat=0
  ·unfold dM at h0;rw[h0,hz] at hx;obtain rfl:=Qa1 hx;rw[←hxs] at hn;rw[show (Mk.none).nm=(⟨#[]⟩:ByteArray) from rfl,wt] at hn;cases hn
  ·unfold dM at h0;exact(h _ x (by omega) (by omega) hx).1 hxs
theorem FF (h:MkD p) (m:Mk):MkD (maP p m):=by
 unfold maP;by_cases h0:maE p m=0
 ·rw[if_pos h0]
  have hm:1≤m.mi∧¬m.nm=⟨#[]⟩:=by
   unfold maE at h0;split at h0
   ·omega
   ·split at h0
    ·omega
    ·rename_i hr;split at h0
     ·omega
     ·rename_i hn;refine⟨by omega,fun e=>hn ?_⟩;rw[e];rfl
  refine⟨?_,fun x hx=>?_⟩
  ·show (p.mks.set m.mi.toNat m)[0]?=_;rw[Qcc (by omega)];exact h.1
  ·rcases Qcf hx with hx | rfl
   ·exact h.2 x hx
   ·exact Or.inr ⟨by omega,hm.2⟩
 ·rw[if_neg h0];exact h
theorem zG (b:Nat) (v:Value) (p:Pl) (m:Mk) (w:World) (R:RJ w b v p) (h0:0≤m.mi∧m.mi≤255) (hD:MkD p):Calls prog 54 #[.pointer (some ⟨b,0,none⟩),mv m] w fun e w'=>e=.returned (.int .i64 (maE p m))∧RJ w' b v (maP p m)∧w.grownBy w' (some b):=by
 obtain⟨mi,nm,po,he⟩:=m;obtain⟨W1,hW1⟩:=Qe (w.alloc (.cells #[.int .u8 mi,.string nm,.int .i64 po,.int .i64 he] 115));have HG1:QH (w.grownBy W1 none):=by rw[hW1];exact QG
 have A:W1.heap[w.heap.size]?=some (.cells #[.int .u8 mi,.string nm,.int .i64 po,.int .i64 he] 115 (0,0)):=by rw[hW1];exact aj w _ _
 have HA:QH (W1.heap[w.heap.size]?=some (.cells #[.int .u8 mi,.string nm,.int .i64 po,.int .i64 he] 115 (0,0))):=A;have HR:QH (RJ W1 b v p):=R.keep HG1.o;have HD:QH (MkD p):=hD;have a0:=ae A 0;have a1:=ae A 1;have a2:=ae A 2;have a3:=ae A 3;have af:=fun i=>aq A i;have HE:QH (w.grownBy W1 (some b)):=bi HG1.o (aw _ _);have c1:=HR.o.shut;clear A R hD;unfold mv;cases hs:p.shut with
 | true =>
  rw[hs] at c1;have e1:maE p ⟨mi,nm,po,he⟩=7:=if_pos hs;have e2:maP p ⟨mi,nm,po,he⟩=p:=if_neg (by rw[e1];decide);rw[e1,e2];clear e1 e2 hs;go_enter func54,ntmps54;go_upto_region 1 with fail;rw[←hW1];clear hW1;go_wp2_with fail;refine(bA b _ p W1 HR.o).mono ?_;rintro e w1 ⟨rfl,h1⟩;obtain rfl:W1=w1:=h1.symm;go_wp2;go_ret;exact⟨rfl,HR.o,HE.o⟩
 | false =>
  rw[hs] at c1;by_cases ht:mi<1∨4<mi∨fF po=false∨fF he=false
  ·have e1:maE p ⟨mi,nm,po,he⟩=2:=(by unfold maE;rw[if_neg (by simp[hs]),if_pos ht]);have e2:maP p ⟨mi,nm,po,he⟩=p:=if_neg (by rw[e1];decide);rw[e1,e2];clear e1 e2 hs
   rcases (show mi<1∨(¬mi<1∧4<mi)∨(¬mi<1∧¬4<mi∧po < -9)∨(¬mi<1∧¬4<mi∧¬po < -9∧9<po)∨(¬mi<1∧¬4<mi∧¬po < -9∧¬9<po∧he < -9)∨(¬mi<1∧¬4<mi∧¬po < -9∧¬9<po∧¬he < -9∧9<he) by
    unfold fF at ht;simp only[Bool.and_eq_false_iff,decide_eq_false_iff_not] at ht
    omega) with h | ⟨k1,h⟩ | ⟨k1,k2,h⟩ | ⟨k1,k2,k3,h⟩ | ⟨k1,k2,k3,k4,h⟩ | ⟨k1,k2,k3,k4,k5,h⟩
   all_goals
    clear ht h0;go_enter func54,ntmps54;go_upto_region 1 with fail;rw[←hW1];clear hW1;go_wp2_with fail;refine(bA b _ p W1 HR.o).mono ?_;rintro e w1 ⟨rfl,h1⟩;obtain rfl:W1=w1:=h1.symm;go_wp2;go_ret;exact⟨rfl,HR.o,HE.o⟩
  ·obtain⟨k1,k2,k3,k4,k5,k6⟩:¬mi<1∧¬4<mi∧¬po < -9∧¬9<po∧¬he < -9∧¬9<he:=by
    unfold fF at ht;simp only[Bool.and_eq_false_iff,decide_eq_false_iff_not] at ht;omega
   have f1:fF po=true:=(by unfold fF;simp;omega);have f2:fF he=true:=(by unfold fF;simp;omega);cases hn:aS nm.data.toList with
   | false =>
    have e1:maE p ⟨mi,nm,po,he⟩=4:=(by unfold maE;rw[if_neg (by simp[hs]),if_neg ht,if_pos hn]);have e2:maP p ⟨mi,nm,po,he⟩=p:=if_neg (by rw[e1];decide);have HN:=py nm W1;rw[hn] at HN;rw[e1,e2];clear e1 e2 hs hn ht f1 f2 h0;go_enter func54,ntmps54;go_upto_region 1 with fail;rw[←hW1];clear hW1;go_wp2_with fail;refine(bA b _ p W1 HR.o).mono ?_;rintro e w1 ⟨rfl,h1⟩;obtain rfl:W1=w1:=h1.symm;go_wp2_with fail;refine HN.mono ?_;rintro e w1 ⟨rfl,h1⟩;obtain rfl:W1=w1:=h1.symm;go_wp2;go_ret;exact⟨rfl,HR.o,HE.o⟩
   | true =>
    have HN:=py nm W1;rw[hn] at HN;obtain⟨n,rfl⟩:=Qbr h0.1;have HNm:QH (aS nm.data.toList=true):=hn;have HSh:QH (p.shut=false):=hs;have HT:QH (1≤n∧n≤4∧fF po=true∧fF he=true):=⟨by omega,by omega,f1,f2⟩
    have s5:bl 5:=(by unfold bl;decide);clear hs hn ht f1 f2 h0;go_enter func54,ntmps54;go_upto_region 1 with fail;rw[←hW1];clear hW1;go_wp2_with fail;refine(bA b _ p W1 HR.o).mono ?_;rintro e w1 ⟨rfl,h1⟩;obtain rfl:W1=w1:=h1.symm;go_wp2_with fail;refine HN.mono ?_;rintro e w1 ⟨rfl,h1⟩;obtain rfl:W1=w1:=h1.symm;clear HN k1 k2 k3 k4 k5 k6;go_wp2_with fail;go_loopw [5] (fun x5 wr=>W1.grownBy wr none∧∃ i:Nat,1≤i∧i≤5∧x5=.int .i64 (i:Int)∧NoM p n nm i) (fun x5 _=>5 - (intOf x5).toNat)
    case atStart=>exact⟨aw _ _,1,Qj _,by decide,rfl,fun j x h1 h2=>absurd h2 (by omega)⟩
    case round =>
     obtain⟨gr,i,hi1,hi5,rfl,hN⟩:=hrel;have HNo:QH (NoM p n nm i):=hN;have HGr:QH (W1.grownBy wr none):=gr;have HRr:QH (RJ wr b v p):=HR.o.keep gr;have A2:=ag gr HA.o (by simp);have HA2:QH (wr.heap[w.heap.size]?=some (.cells #[.int .u8 (n:Int),.string nm,.int .i64 po,.int .i64 he] 115 (0,0))):=A2;clear hN gr a0 a1 a2 a3 af c1;have a0:=ae A2 0;have a1:=ae A2 1;have a2:=ae A2 2;have a3:=ae A2 3;clear A2
     rcases (show i<5∨i=5 from by omega) with hil | hie
     ·have i0:(0:Int)≤(i:Int):=(by omega);have i4:(i:Int)≤4:=(by omega);have i5:(i:Int)<5:=(by omega);have im:(i:Int) % 256=(i:Int):=(by omega);obtain⟨x,hx⟩:∃ x,p.mks[i]?=some x:=⟨_,Qg (by rw[HR.o.five];exact hil)⟩
      obtain⟨d0,d1,d2,d3⟩:=HRr.o.mark hx;have hd:=HD.o.2 x (Qm hx)
      have hz:x.mi=0↔x.nm=⟨#[]⟩:=by
       rcases hd with h | h
       ·rw[h];exact⟨fun _=>rfl,fun _=>rfl⟩
       ·exact⟨fun e=>absurd e h.1,fun e=>absurd e h.2⟩
      clear hd d2 d3;by_cases hxs:x.nm=nm
      ·have q1:=iI hxs;have e1:QH (maE p ⟨(n:Int),nm,po,he⟩=5):=yL HSh.o HT.o HNm.o hx (Or.inl hxs);have e2:QH (maP p ⟨(n:Int),nm,po,he⟩=p):=if_neg (by rw[e1.o];decide);by_cases hit:i=n
       ·have q2:((i:Int) == (n:Int))=true:=(by simp[hit]);by_cases hx0:x.mi=0
        ·have q3:(x.mi != 0)=false:=(by simp[hx0]);clear hx hit hxs hz hx0;go_wp2_with fail;go_quiet (fail);go_wp2;go_ret;exact⟨aO e1.o.symm,by rw[e2.o];exact HRr.o.keep (aA _ _ none),bi (aa HG1.o HGr.o) (aA _ _ _)⟩
        ·have q3:(x.mi != 0)=true:=(by simpa using hx0);clear hx hit hxs hz hx0;go_wp2_with fail;go_quiet (fail);go_wp2;go_ret;exact⟨aO e1.o.symm,by rw[e2.o];exact HRr.o.keep (aA _ _ none),bi (aa HG1.o HGr.o) (aA _ _ _)⟩
       ·have q2:((i:Int) == (n:Int))=false:=(by simpa using (show ¬(i:Int)=(n:Int) by omega));clear hx hit hxs hz;go_wp2_with fail;go_quiet (fail);go_wp2;go_ret;exact⟨aO e1.o.symm,by rw[e2.o];exact HRr.o.keep (aA _ _ none),bi (aa HG1.o HGr.o) (aA _ _ _)⟩
      ·have q1:=jg hxs;by_cases hit:i=n
       ·have q2:((i:Int) == (n:Int))=true:=(by simp[hit]);by_cases hx0:x.mi=0
        ·have q3:(x.mi != 0)=false:=(by simp[hx0]);have HN2:QH (NoM p n nm (i+1)):=HNo.o.next hx hxs (fun _=>hz.1 hx0);clear hx hit hxs hz hx0 hi1 hi5;go_wp2_with fail;go_quiet (fail);go_wp2_with fail;go_roundw
         case rel=>exact⟨aa HGr.o (aA _ _ none),i+1,by omega,hil,by first | rfl | (rw[s5.wrap hil];rfl),HN2.o⟩
         case measure=>first | exact aD hil | (rw[s5.wrap hil];exact aD hil)
        ·have q3:(x.mi != 0)=true:=(by simpa using hx0);have e1:QH (maE p ⟨(n:Int),nm,po,he⟩=5):=yL HSh.o HT.o HNm.o hx (Or.inr ⟨hit,fun e=>hx0 (hz.2 e)⟩);have e2:QH (maP p ⟨(n:Int),nm,po,he⟩=p):=if_neg (by rw[e1.o];decide);clear hx hit hxs hz hx0;go_wp2_with fail;go_quiet (fail);go_wp2;go_ret;exact⟨aO e1.o.symm,by rw[e2.o];exact HRr.o.keep (aA _ _ none),bi (aa HG1.o HGr.o) (aA _ _ _)⟩
       ·have q2:((i:Int) == (n:Int))=false:=(by simpa using (show ¬(i:Int)=(n:Int) by omega));have HN2:QH (NoM p n nm (i+1)):=HNo.o.next hx hxs (fun e=>absurd e hit);clear hx hit hxs hz hi1 hi5;go_wp2_with fail;go_quiet (fail);go_wp2_with fail;go_roundw
        case rel=>exact⟨aa HGr.o (aA _ _ none),i+1,by omega,hil,by first | rfl | (rw[s5.wrap hil];rfl),HN2.o⟩
        case measure=>first | exact aD hil | (rw[s5.wrap hil];exact aD hil)
     ·have i4:¬(i:Int)≤4:=(by omega);have e1:QH (maE p ⟨(n:Int),nm,po,he⟩=0):=Bs HSh.o HT.o HNm.o HR.o.five HD.o.1 (by rw[←hie];exact HNo.o)
      have e2:QH (maP p ⟨(n:Int),nm,po,he⟩={ p with mks:=p.mks.set n ⟨(n:Int),nm,po,he⟩ }):=by
       show maP p ⟨(n:Int),nm,po,he⟩=_;unfold maP;rw[if_pos e1.o];rfl
      have n5:n<5:=(by have:=HT.o.2.1;omega);obtain⟨d0,d1,d2,d3⟩:=HRr.o.mark (t:=n) (getD_some (d:=Mk.none) (by rw[HR.o.five];exact n5));have df:=fun i=>HRr.o.free i;have t0:(0:Int)≤(n:Int):=(by omega);have t5:(n:Int)<5:=(by omega);clear hie hi1 hi5;go_wp2_with fail;go_region;go_wp2;go_ret;have F1:=(HRr.o.setM n5 ⟨(n:Int),nm,po,he⟩).keep (ai _);have F2:=bi (aa HG1.o HGr.o) ((rh wr b (12+n*4) ⟨(n:Int),nm,po,he⟩).trans (io _ _));unfold st4 at F1 F2;exact⟨aO e1.o.symm,by rw[e2.o];exact F1,F2⟩
