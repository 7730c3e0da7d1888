import Derived.Test.YtjmepebbcnhalaaGreatZ36
namespace Go.Proofs.YtjmepebbcnhalaaGreat
open Tryz
set_option maxRecDepth 100000
set_option maxHeartbeats 2000000
open Go.RowKit
variable {ts:List Th} {t:Th} {n:Int} {cd:Int→Hd×List Pt} {F:List Fe} {R:List Rw} {N:Nat}
def onN:List Th→Nat→List Int
 | [],_=>[]
 | t :: r,i=>if t.place=4 then ((i:Int)+1) :: onN r (i+1) else onN r (i+1)
theorem um:∀ (l:List Th) (i:Nat) (t:Th),onN (l++[t]) i=if t.place=4 then onN l i++[((i+l.length:Nat):Int)+1] else onN l i
 | [],i,t=>by
  simp only[List.nil_append,onN,List.length_nil,Nat.add_zero]
 | s :: l,i,t=>by
  have h:=um l (i+1) t;simp only[List.cons_append,onN,h,List.length_cons];rw[show i+1+l.length=i+(l.length+1) by omega];by_cases h1:s.place=4 <;> by_cases h2:t.place=4 <;> simp[h1,h2]
theorem sZ {k:Nat} (ht:ts[k]?=some t):onN (ts.take (k+1)) 0=if t.place=4 then onN (ts.take k) 0++[(k:Int)+1] else onN (ts.take k) 0:=by
 have hk:=(Qh ht).1;rw[Qat,ht,show (some t).toList=[t] from rfl,um,Qam,Qa8,Qbv (by omega)]
theorem ss:∀ (l:List Th) (i:Nat),(onN l i).length≤l.length
 | [],_=>Qj _
 | t :: l,i=>by
  have:=ss l (i+1);unfold onN;split <;> simp <;> omega
theorem Dx:∀ (l:List Th) (i:Nat) (n:Int),n∈onN l i→(i:Int)+1≤n∧n≤((i+l.length:Nat):Int)
 | [],_,n,h=>by cases h
 | t :: l,i,n,h=>by
  unfold onN at h;have q:=Dx l (i+1) n;rw[Qau];split at h
  ·rcases Qbo.1 h with h | h
   ·omega
   ·have:=q h;omega
  ·have:=q h;omega
theorem tF {cd:Int→Hd×List Pt}:∀ (ts:List Th) (F:List Fe) (i:Nat),ts.length=F.length→(fy cd (ts.zip F) i).map Rw.nu=onN ts i
 | [],_,_,_=>by simp[fy,onN]
 | t :: ts,[],_,h=>by simp at h
 | t :: ts,f :: F,i,h=>by
  have q:=tF (cd:=cd) ts F (i+1) (by simpa using h);rw[List.zip_cons_cons];by_cases h4:t.place=4
  ·rw[eZ h4,Qbs,q];show _=(if t.place=4 then _ else _);rw[if_pos h4]
  ·rw[ia h4,q];show _=(if t.place=4 then _ else _);rw[if_neg h4]
theorem yw {f:Int→Int}:∀ {l m:List Int},l.Perm m→(l.Pairwise fun a b=>f a≤f b)→(m.Pairwise fun a b=>f a<f b)→l=m
 | [],m,h,_,_=>(List.nil_perm.1 h).symm
 | a :: l,[],h,_,_=>by have:=h.length_eq;simp at this
 | a :: l,b :: m,h,h1,h2=>by
  rw[Qbq] at h1 h2
  have e:a=b:=by
   rcases Qbo.1 (h.mem_iff.1 Qaw) with e | q
   ·exact e
   ·rcases Qbo.1 (h.mem_iff.2 Qaw) with e | q'
    ·exact e.symm
    ·have:=h1.1 b q';have:=h2.1 a q;omega
  subst e;rw[yw h.cons_inv h1.2 h2.2]
theorem Tab.nums (h:Tab n cd ts F R) {l:List Int} (hp:l.Perm (onN ts 0)) (hs:l.Pairwise fun a b=>gw ts a≤gw ts b):l=R.map Rw.nu:=by
 have p2:(onN ts 0).Perm (R.map Rw.nu):=by rw[←tF (cd:=cd) ts F 0 h.len];exact(h.perm.map Rw.nu).symm
 refine yw (hp.trans p2) hs ?_;rw[Qbm,Qcg];intro i j hi hj hij;have q:=(Qcg.1 h.up) i j hi hj hij;have a:=(h.thing hi).2.1;have b:=(h.thing hj).2.1;rw[aG hi] at a;rw[aG hj] at b;rw[a,b];exact q
theorem uv {N:Nat}:∀ (l:List Int),(∀ n∈l,1≤n∧n≤(N:Int))→∃ D:List (Fin N),D.map (fun i=>(i.val:Int)+1)=l
 | [],_=>⟨[],rfl⟩
 | n :: l,h=>by
  obtain⟨D,hD⟩:=uv l fun m hm=>h m (Qar _ hm);have h1:=h n Qaw;refine⟨⟨(n - 1).toNat,by omega⟩ :: D,?_⟩;rw[Qbs,hD]
  congr 1
  show (((n - 1).toNat:Nat):Int)+1=n;omega
def kA {N:Nat} (i:Fin N):Value:=.int .i64 ((i.val:Int)+1)
def my {N:Nat} (ts:List Th) (i:Fin N):Int:=gw ts ((i.val:Int)+1)
def AA {N:Nat} (ts:List Th) (i j:Fin N):Int:=Lib.compareInt (my ts i) (my ts j)
theorem EH (ts:List Th) (i j:Fin N):Go.Proofs.ltOf (AA ts) i j=decide (my ts i<my ts j):=by
 unfold Go.Proofs.ltOf AA Lib.compareInt;by_cases h1:my ts i<my ts j
 ·simp[h1]
 ·by_cases h2:my ts j<my ts i <;> simp[h1,h2]
theorem Id {N:Nat} [Inhabited (Fin N)] (ts:List Th):Go.Sort.SWO (Go.Proofs.ltOf (AA (N:=N) ts)) where
 irrefl x:=by rw[EH];simp
 trans x y z h1 h2:=by rw[EH] at *;simp at *;omega
 ntrans x y z h1 h2:=by rw[EH] at *;simp at *;omega
theorem qv (D:List (Fin N)):D.map kA=dt (D.map fun i=>(i.val:Int)+1):=by
 unfold dt;rw[List.map_map];rfl
theorem sE [Inhabited (Fin N)] {ts:List Th} {d:Array (Fin N)} {n:Nat} (hn:d.size=n) (h:Go.Sort.SortedIn (Go.Proofs.ltOf (AA ts)) 0 n d):(d.toList.map fun i=>(i.val:Int)+1).Pairwise fun a b=>gw ts a≤gw ts b:=by
 rw[Qbm,Qcg];intro i j hi hj hij;have hi':i<d.size:=by simpa using hi
 have hj':j<d.size:=by simpa using hj
 have:=h i j (Q0 _) hij (by omega);rw[EH] at this;simp[hi',hj'] at this;simp;exact this
theorem ym [Inhabited (Fin N)] {d d':Array (Fin N)} (h:Go.Sort.PermIn 0 d.size d d'):d'.toList.Perm d.toList:=by
 obtain⟨h1,_,h2⟩:=h;have e1:(d'.extract 0 d.size).toList=d'.toList:=by rw[←h1];simp
 have e2:(d.extract 0 d.size).toList=d.toList:=by simp
 rw[e1,e2] at h2;exact h2
theorem ud {α:Type} [Inhabited α] (enc:α→Value) (w:World) (g m:Nat) (d:Array α) (os:Array Obj) (a:Addr) (hg:a.block≠g) (hs:a.block<w.heap.size):(Go.Proofs.sortWorld enc w g 0 m d os).cell? a=w.cell? a:=by
 unfold Go.Proofs.sortWorld;rw[Go.Sort.cell?_grow _ _ _ (by rw[Go.Sort.size_putRow];exact hs),Go.Sort.cell?_putRow_other _ _ _ _ _ _ (Or.inl hg),Go.Sort.cell?_ahead]
theorem vz (W:World) (b g off len cap i j:Nat) (sx sy:Int) (hi:i<len) (hj:j<len) (hl:len≤2048) (c0:W.cell? ⟨b,1,none⟩=some (.slice (some ⟨g,off,none⟩) len cap)) (cx:W.cell? ⟨g,off+i*11+3,none⟩=some (.int .i64 sx)) (cy:W.cell? ⟨g,off+j*11+3,none⟩=some (.int .i64 sy)):Calls prog 265 #[.int .i64 ((i:Int)+1),.int .i64 ((j:Int)+1),.pointer (some ⟨b,0,none⟩)] W fun e w'=>e=.returned (.int .i64 (Lib.compareInt sx sy))∧∃ q,w'=W.drewN q:=by
 have hcon:=AnyG.cmp_Compare_int cmpL sx sy;change ∀ w,Calls prog 135 _ _ _ at hcon;obtain⟨r,hr⟩:=Qe (Lib.compareInt sx sy);rw[←hr] at hcon ⊢;clear hr;have hw1:IntKind.i64.wrap (i:Int)=(i:Int):=IntWalk.i64_in _ (by omega);have hw2:IntKind.i64.wrap (j:Int)=(j:Int):=IntWalk.i64_in _ (by omega);have hi':(i:Int)<len:=by omega
 have hj':(j:Int)<len:=by omega
 go_enter func265,ntmps265;go_wp2;go_quiet ((go_at_call 135;exact Qa4 (hcon _)));go_wp2;go_ret;exact⟨rfl,nq,rfl⟩
def GS (w0:World) (v:Value) (ts:List Th) (l:List Int) (e:Ending) (w':World):Prop:=e=.returned (.tuple #[])∧∃ l',l'.Perm l∧(l'.Pairwise fun a b=>gw ts a≤gw ts b)∧bm w' w0.heap.size v l'∧w0.grownBy w' none
theorem Ah (w0 w:World) (b:Nat) (bv vt vf vl v:Value) (ts:List Th) (l:List Int) (S:dg w0 b bv vt vf vl) (T:thR.At w0 vt ts) (hf:ts.length≤2048) (G:w0.grownBy w none) (O:bm w w0.heap.size v l) (hl:∀ n∈l,1≤n∧n≤(ts.length:Int)) (hk:l.length≤4096):Calls prog 264 #[v,.func (.func 265) #[] #[.pointer (some ⟨b,0,none⟩)]] w (GS w0 v ts l):=by
 obtain⟨n,hn⟩:=Qe (l.length);by_cases h0:n=0
 ·have e1:l=[]:=List.length_eq_zero_iff.1 (by omega);subst e1;obtain⟨p,cap,rfl⟩:=O.form;have hS:=fun fv W=>AnyF.slices_SortFunc_none (P:=prog) (ρ:=sortL_ren) { sortL with } p cap fv W;change ∀ fv W,Calls prog 264 _ _ _ at hS;refine(hS _ _).mono ?_;rintro e w' ⟨rfl,rfl⟩;exact⟨rfl,[],Qda _,List.Pairwise.nil,O,G⟩
 ·have hpos:0<l.length:=by omega
  obtain⟨g,cap,e1,hgb,hgs,_,_,_⟩:=eB O hpos;subst e1
  have hN:0<ts.length:=by
   have:=hl (l[0]'hpos) (Qab hpos);omega
  obtain⟨pt,ct,rfl,_,hT⟩:=T;obtain⟨gt,off,rfl,hR⟩:=hT hN;obtain⟨D,hD⟩:=uv (N:=ts.length) l (fun m hm=>hl m hm)
  haveI:Inhabited (Fin ts.length):=⟨⟨0,hN⟩⟩
  have hDl:D.length=l.length:=by rw[←hD,Qa9]
  have cc:=(bg S).2.1;have O1:w.ownsRow w0.heap.size 3 1 (.slice (some ⟨g,0,none⟩) l.length cap) l.length (dt l):=O;have cell0:∀ a x,w0.cell? a=some x→a.block<w0.heap.size:=fun a x h=>Qbj _ _ h
  have hcmp:CmpReads prog 265 #[.pointer (some ⟨b,0,none⟩)] (kA (N:=ts.length)) (AA ts) g 0 D.toArray.size w:=by
   intro m os dk hs x y
   have keep:∀ a u,w0.cell? a=some u→(Go.Proofs.sortWorld kA w g 0 m dk os).cell? a=some u:=fun a u h=>by
    have:=cell0 a u h;rw[ud kA w g m dk os a (by omega) (by have:=G.size;omega)];exact G.cell h (by simp)
   have hx:=x.isLt;have hy:=y.isLt;refine vz _ b gt off ts.length ct x.val y.val (my ts x) (my ts y) hx hy hf (keep _ _ cc) (keep _ _ ?_) (keep _ _ ?_)
   ·have:=hR x.val ts[x.val] (Qg hx) 3 _ rfl;rw[show off+x.val*thR.k+3=off+x.val*11+3 from rfl] at this;rw[this];unfold my gw;rw[toN,Qa2,Qg hx];rfl
   ·have:=hR y.val ts[y.val] (Qg hy) 3 _ rfl;rw[show off+y.val*thR.k+3=off+y.val*11+3 from rfl] at this;rw[this];unfold my gw;rw[toN,Qa2,Qg hy];rfl
  have hH:Go.Sort.Holds kA w g 0 D.toArray:=by
   intro j hj;have hj':j<D.length:=(by simpa using hj);rw[Qa8];refine⟨?_,Qbw O1 j⟩;rw[Qcd O1 j (by omega),←hD,←qv,Qak];simp[hj']
  have eg:∀ args w,(callFunc 265 args).run prog w=.ok (.enter 265 args) w:=enters_of func265 (by kernel_rfl) rfl;have hS:=Any.slices_SortFunc sortL kA (fun _=>rfl) (AA ts) (Id ts) 265 #[.pointer (some ⟨b,0,none⟩)] g 0 cap D.toArray w eg hcmp.lays hH (by omega) (by simp;omega);change Calls prog 264 _ _ _ at hS;have hsz2:D.toArray.size=l.length:=by simp[hDl]
  rw[←hsz2];refine hS.mono ?_;rintro e w' ⟨rfl,d',q,os,hp,hs,rfl⟩;refine⟨rfl,?_⟩;have hd:d'.size=D.toArray.size:=hp.1;have hd2:d'.toList.length=l.length:=by rw[Qbn,hd,hsz2]
  have ew:Go.Proofs.sortWorld kA w g 0 q d' os=Go.Sort.grow ((w.drewN q).setCells g 0 (d'.toList.map kA)) os:=by
   unfold Go.Proofs.sortWorld;have:=Lib.sorted_world kA w g 0 q D.toArray d'.toList os hH (by rw[Qbn];exact hd);rw[←this]
  rw[ew,qv,hsz2];obtain⟨o2,g2⟩:=pB (q:=q) (os:=os) (vs:=dt (d'.toList.map fun i=>(i.val:Int)+1)) O1 (by rw[tP,Qa9,Nat.mul_one];exact hd2);refine⟨_,?_,sE hd hs,?_,ak G g2 (fun x e=>by cases e;exact hgb)⟩
  ·rw[←hD];have:=ym hp;exact this.map _
  ·unfold bm;rw[Qa9,hd2];exact o2
set_option maxHeartbeats 4000000
theorem kN (h:¬1≤n):dO ts n=false:=by unfold dO;rw[Qx h,Qai]
theorem qJ (h:¬n≤(ts.length:Int)):dO ts n=false:=by unfold dO;rw[Qx h,Qai,Qcu]
theorem jh {j:Nat} (h:ts[j]?=some t):thN ts ((j:Int)+1)=t:=by unfold thN;rw[show ((j:Int)+1 - 1).toNat=j by omega,Qa2,h];rfl
theorem yB {j:Nat} (h:ts[j]?=some t):dO ts ((j:Int)+1)=decide (t.place=4):=by
 have hj:=(Qh h).1;unfold dO;rw[jh h,Qy (by omega),Qy (by omega),Qah,Qah]
theorem sv (h:dO ts n=true):∃ (j:Nat) (t:Th),n=(j:Int)+1∧ts[j]?=some t∧t.place=4:=by
 unfold dO at h;simp only[Bool.and_eq_true,decide_eq_true_eq] at h;obtain⟨h1,h2,h3⟩:=h;have hj:(n - 1).toNat<ts.length:=by omega
 refine⟨(n - 1).toNat,ts[(n - 1).toNat],by omega,Qg hj,?_⟩;unfold thN at h3;rw[Qa2,Qg hj] at h3;exact h3
theorem so (bv vt vf vl:Value) (ts:List Th) (n:Int) (w:World) (A:thR.At w vt ts) (hl:ts.length≤2048):Calls prog 229 #[dn bv vt vf vl,.int .i64 n] w fun e w'=>e=.returned (.bool (dO ts n))∧w.grownBy w' none:=by
 obtain⟨pt,ct,rfl⟩:=A.form;obtain⟨V,hV⟩:=Qe (w.alloc (.cells #[bv,.slice pt ts.length ct,vf,vl] 175));have HG:QH (w.grownBy V none):=by rw[hV];exact QG
 have HC:QH (dg V w.heap.size bv (.slice pt ts.length ct) vf vl):=by rw[hV];exact aj w _ _
 unfold dn;by_cases h1:1≤n
 ·by_cases h2:n≤(ts.length:Int)
  ·obtain⟨j,rfl⟩:∃ j:Nat,n=(j:Int)+1:=⟨(n - 1).toNat,by omega⟩
   have hjl:j<ts.length:=(by omega);obtain⟨t,ht⟩:∃ t,ts[j]?=some t:=⟨_,Qg hjl⟩
   have HR:QH (dO ts ((j:Int)+1)=(t.place == 4)):=(by show _=_;rw[yB ht,dY]);have d1:decide ((1:Int)≤(j:Int)+1)=true:=Qy h1;have d2:decide ((j:Int)+1≤(ts.length:Int))=true:=Qy h2;have z1:((j:Int))<(ts.length:Int):=Int.ofNat_lt.2 hjl;have wz:wrap64 (j:Int)=(j:Int):=(by unfold wrap64;omega);have wz2:IntKind.i64.wrap (j:Int)=(j:Int):=(by rw[IntWalk.i64_in _ (by omega)]);obtain⟨gT,oT,cT,eT,-⟩:=bz A hjl;injection eT with eT eT2 eT3;clear eT2 eT3;subst eT;obtain⟨-,-,t2,-⟩:=aZ (eJ (A.keep HG.o) ht);clear A ht hl hjl h1 h2;go_enter func229,ntmps229;go_upto_region 1 with fail;rw[←hV];clear hV;obtain⟨-,c1,-,-⟩:=bg HC.o;go_wp2;go_ret;exact⟨aI HR.o.symm,HG.o⟩
  ·have HR:QH (dO ts n=false):=qJ h2;have d1:decide (1≤n)=true:=Qy h1;have d2:decide (n≤(ts.length:Int))=false:=Qx h2;clear A hl h1 h2;go_enter func229,ntmps229;go_upto_region 1 with fail;rw[←hV];clear hV;obtain⟨-,c1,-,-⟩:=bg HC.o;go_wp2;go_ret;exact⟨aI HR.o.symm,HG.o⟩
 ·have HR:QH (dO ts n=false):=kN h1;have d1:decide (1≤n)=false:=Qx h1;clear A hl h1;go_enter func229,ntmps229;go_upto_region 1 with fail;rw[←hV];clear hV;obtain⟨-,c1,-,-⟩:=bg HC.o;go_wp2;go_ret;exact⟨aI HR.o.symm,HG.o⟩
theorem yj (bv vt vf vl:Value) (ts:List Th) (h:Hp) (w:World) (A:thR.At w vt ts) (hl:ts.length≤2048):Calls prog 161 #[dn bv vt vf vl,hpv h] w fun e w'=>e=.returned (.bool (aK ts h))∧w.grownBy w' none:=by
 obtain⟨pt,ct,rfl⟩:=A.form;obtain⟨V,hV⟩:=Qe ((w.alloc (.cells #[bv,.slice pt ts.length ct,vf,vl] 175)).alloc (.cells #[.int .u8 h.vb,.int .i64 h.on,.int .i64 h.ct,.int .i64 h.ho,.bool h.vn,.bool h.dr] 87));have HG:QH (w.grownBy V none):=by rw[hV];exact am QG _
 have HC:QH (dg V w.heap.size bv (.slice pt ts.length ct) vf vl):=by rw[hV];exact ag QG (aj w _ _) (by simp)
 have HH:QH (HpB V (w.heap.size+1) h):=by rw[hV];exact aT _ _ _ _
 have HA:QH (thR.At V (.slice pt ts.length ct) ts∧ts.length≤2048):=⟨A.keep HG.o,hl⟩
 unfold dn hpv;clear A hl;go_enter func161,ntmps161;go_upto_region 1 with fail;rw[←hV];clear hV;obtain⟨n0,hn0⟩:=Qe (w.heap.size);simp only[←hn0] at HC HH ⊢;obtain⟨n1,hn1⟩:=Qe (n0+1);simp only[←hn1] at HH ⊢;clear hn0 hn1;obtain⟨c0,c1,c2,c3⟩:=bg HC.o;obtain⟨x0,x1,x2,x3,x4,x5⟩:=aJ HH.o;have CT:=so bv (.slice pt ts.length ct) vf vl ts h.on V HA.o.1 HA.o.2;unfold dn at CT;by_cases v1:h.vb=1
 ·have HR:QH (aK ts h=((cg h.on || dO ts h.on) && (decide (-9999≤h.ct) && decide (h.ct≤9999)))):=by show _=_;unfold aK;rw[if_pos v1]
  rw[v1] at x0;clear v1;have CP:=fun W=>fO h.on W;cases hp:cg h.on with
  | true =>
   rw[hp] at CP HR;clear CT;cases d1:decide (-9999≤h.ct) with
   | false =>
    rw[d1] at HR;go_wp2_with (go_at_call 162;refine(CP _).mono ?_;rintro e1 w1 ⟨rfl,q1⟩;obtain rfl:V=w1:=q1.symm)
    go_ret;exact⟨aI HR.o.symm,HG.o⟩
   | true =>
    rw[d1] at HR;go_wp2_with (go_at_call 162;refine(CP _).mono ?_;rintro e1 w1 ⟨rfl,q1⟩;obtain rfl:V=w1:=q1.symm)
    go_ret;exact⟨aI HR.o.symm,HG.o⟩
  | false =>
   rw[hp] at CP HR;obtain⟨b,hb⟩:=Qe (dO ts h.on);rw[←hb] at CT HR;clear hb;cases b with
   | false =>
    go_wp2_with (first | (go_at_call 162;refine(CP _).mono ?_;rintro e1 w1 ⟨rfl,q1⟩;obtain rfl:V=w1:=q1.symm) | (go_at_call 229;refine CT.mono ?_;rintro e2 w2 ⟨rfl,g2⟩;have HG2:QH (V.grownBy w2 none):=g2;clear g2))
    go_ret;exact⟨aI HR.o.symm,aa HG.o HG2.o⟩
   | true =>
    cases d1:decide (-9999≤h.ct) with
    | false =>
     rw[d1] at HR;go_wp2_with (first | (go_at_call 162;refine(CP _).mono ?_;rintro e1 w1 ⟨rfl,q1⟩;obtain rfl:V=w1:=q1.symm) | (go_at_call 229;refine CT.mono ?_;rintro e2 w2 ⟨rfl,g2⟩;have HG2:QH (V.grownBy w2 none):=g2;have x2:=g2.cell x2 (by simp);clear g2))
     go_ret;exact⟨aI HR.o.symm,aa HG.o HG2.o⟩
    | true =>
     rw[d1] at HR;go_wp2_with (first | (go_at_call 162;refine(CP _).mono ?_;rintro e1 w1 ⟨rfl,q1⟩;obtain rfl:V=w1:=q1.symm) | (go_at_call 229;refine CT.mono ?_;rintro e2 w2 ⟨rfl,g2⟩;have HG2:QH (V.grownBy w2 none):=g2;have x2:=g2.cell x2 (by simp);clear g2))
     go_ret;exact⟨aI HR.o.symm,aa HG.o HG2.o⟩
 have k1:(h.vb == 1)=false:=by simpa using v1
 by_cases v6:h.vb=6
 ·have HR:QH (aK ts h=dO ts h.on):=by show _=_;unfold aK;rw[if_neg v1,if_pos v6]
  rw[v6] at x0;clear v1 v6 k1;go_wp2_with (go_at_call 229;refine CT.mono ?_;rintro e2 w2 ⟨rfl,g2⟩;have HG2:QH (V.grownBy w2 none):=g2;clear g2)
  go_ret;exact⟨aI HR.o.symm,aa HG.o HG2.o⟩
 have k6:(h.vb == 6)=false:=by simpa using v6
 by_cases v3:h.vb=3
 ·have HR:QH (aK ts h=cg h.on):=by show _=_;unfold aK;rw[if_neg v1,if_neg v6,if_pos v3]
  rw[v3] at x0;have CP:=fun W=>fO h.on W;clear v1 v6 v3 k1 k6 CT;go_wp2_with (go_at_call 162;refine(CP _).mono ?_;rintro e1 w1 ⟨rfl,q1⟩;obtain rfl:V=w1:=q1.symm)
  go_ret;exact⟨aI HR.o.symm,HG.o⟩
 have k3:(h.vb == 3)=false:=by simpa using v3
 have HR:QH (aK ts h=false):=by show _=_;unfold aK;rw[if_neg v1,if_neg v6,if_neg v3]
 clear v1 v6 v3 CT;go_wp2;go_ret;exact⟨aI HR.o.symm,HG.o⟩
theorem AN (bv vt vf vl:Value) (ts:List Th) (p:Pt) (h:Hp) (w:World) (A:thR.At w vt ts) (hl:ts.length≤2048) (hm:h.vb=6→dO ts h.on=true):Calls prog 169 #[dn bv vt vf vl,pv p,hpv h] w fun e w'=>e=.returned (.bool (eU ts p h))∧w.grownBy w' none:=by
 obtain⟨pt,ct,rfl⟩:=A.form;obtain⟨V,hV⟩:=Qe (((w.alloc (.cells #[bv,.slice pt ts.length ct,vf,vl] 175)).alloc (.cells #[.int .u8 p.wn,.int .u8 p.vb,.int .u8 p.wm,.int .i64 p.ct,.int .u8 p.su,.int .u8 p.tr,.int .u8 p.mr,.string p.nm] 62)).alloc (.cells #[.int .u8 h.vb,.int .i64 h.on,.int .i64 h.ct,.int .i64 h.ho,.bool h.vn,.bool h.dr] 87));have HG:QH (w.grownBy V none):=by rw[hV];exact am (am QG _) _
 have HC:QH (dg V w.heap.size bv (.slice pt ts.length ct) vf vl):=by rw[hV];exact ag (am QG _) (aj w _ _) (by simp)
 have HP:QH (PqB V (w.heap.size+1) p):=by rw[hV];exact ag QG (aT w _ _ _) (by simp)
 have HH:QH (HpB V (w.heap.size+1+1) h):=by rw[hV];have:=aj ((w.alloc (.cells #[bv,.slice pt ts.length ct,vf,vl] 175)).alloc (.cells #[.int .u8 p.wn,.int .u8 p.vb,.int .u8 p.wm,.int .i64 p.ct,.int .u8 p.su,.int .u8 p.tr,.int .u8 p.mr,.string p.nm] 62)) #[.int .u8 h.vb,.int .i64 h.on,.int .i64 h.ct,.int .i64 h.ho,.bool h.vn,.bool h.dr] 87;rw[Qa3,Qa3] at this;exact this
 have HA:QH (thR.At V (.slice pt ts.length ct) ts∧ts.length≤2048∧(h.vb=6→dO ts h.on=true)):=⟨A.keep HG.o,hl,hm⟩
 unfold dn hpv pv;clear A hl hm;go_enter func169,ntmps169;go_upto_region 1 with fail;rw[←hV];clear hV;obtain⟨n0,hn0⟩:=Qe (w.heap.size);simp only[←hn0] at HC HH HP ⊢;obtain⟨n1,hn1⟩:=Qe (n0+1);simp only[←hn1] at HH HP ⊢;obtain⟨n2,hn2⟩:=Qe (n1+1);simp only[←hn2] at HH ⊢;clear hn0 hn1 hn2;obtain⟨c0,c1,c2,c3⟩:=bg HC.o;obtain⟨x0,x1,x2,x3,x4,x5⟩:=aJ HH.o;obtain⟨-,p1,p2,p3,-⟩:=ye HP.o;by_cases b19:p.vb=19
 ·have k19:(p.vb != 19)=false:=by simpa using b19
  by_cases m1:p.wm=1
  ·have HR:QH (eU ts p h=(h.vb == 3)):=(by show _=_;unfold eU;rw[if_neg (by simpa using b19),if_pos (Or.inl m1),dY]);rw[m1] at p2;clear b19 m1;go_wp2;go_ret;exact⟨aI HR.o.symm,HG.o⟩
  have k1:(p.wm == 1)=false:=by simpa using m1
  by_cases m2:p.wm=2
  ·have HR:QH (eU ts p h=(h.vb == 3)):=(by show _=_;unfold eU;rw[if_neg (by simpa using b19),if_pos (Or.inr m2),dY]);rw[m2] at p2;clear b19 m1 m2 k1;go_wp2;go_ret;exact⟨aI HR.o.symm,HG.o⟩
  have k2:(p.wm == 2)=false:=by simpa using m2
  have HR:QH (eU ts p h=(decide (h.vb=6) && decide (p.ct≤(thN ts h.on).m2))):=by show _=_;unfold eU;rw[if_neg (by simpa using b19),if_neg (by simp[m1,m2])]
  by_cases v6:h.vb=6
  ·obtain⟨j,t,hj,ht,h4⟩:=sv (HA.o.2.2 v6);have CS:=kV bv (.slice pt ts.length ct) vf vl ts j t (V.drew) (HA.o.1.keep (ai _)) ht HA.o.2.1;unfold dn at CS;have HQ:QH (eU ts p h=decide (p.ct≤t.m2)):=(by show _=_;rw[HR.o,Qy v6,Qah,hj,jh ht]);rw[v6] at x0;rw[hj] at x1;clear b19 m1 m2 v6 HR hj h4 ht;go_upto_region 5 with fail;refine wp_region_held_drew (S:=fun w'=>V.grownBy w' none) (by kernel_rfl) (ai _) (fun hHeld=>?_);refine QZ 0 rfl ?_;go_frame;refine QT 1 rfl (by intro w0 hSw;have x0:=QK hSw x0;go_simp;try with_reducible rfl) ?_;go_frame;refine QZ 2 rfl ?_;go_frame;refine QZ 3 rfl ?_;go_frame;refine QT 4 rfl (by intro w0 hSw;have c0:=QK hSw c0;have c1:=QK hSw c1;have c2:=QK hSw c2;have c3:=QK hSw c3;go_simp;try with_reducible rfl) ?_;go_frame;refine QZ 5 rfl ?_;go_frame;refine QT 6 rfl (by intro w0 hSw;have x1:=QK hSw x1;go_simp;try with_reducible rfl) ?_;go_frame;refine QZ 8 rfl ?_;go_frame;refine QT 9 rfl (by intro w0 hSw;have p3:=QK hSw p3;go_simp;try with_reducible rfl) ?_;go_frame;refine QR 7 rfl (fun K hK=>?_);rw[if_pos (by rfl)];go_simp;go_at_call 164;refine(CS).mono ?_;rintro e2 w2 ⟨rfl,g2⟩;have HG2:QH (V.grownBy w2 none):=aa (ai _) g2;clear g2;refine hK.out _ _ (HG2.o) (fun hHeld2=>?_);clear hK K;(try go_frame);refine QZ 10 rfl ?_;go_frame;refine QZ 11 rfl ?_;go_frame;refine QZ 12 rfl ?_;go_frame;refine QD ?_;go_wp2_with fail;go_ret;exact⟨aI HQ.o.symm,aa HG.o HG2.o⟩
  ·have k6:(h.vb == 6)=false:=(by simpa using v6);have HQ:QH (eU ts p h=false):=(by show _=_;rw[HR.o,Qx v6,Qai]);clear b19 m1 m2 v6 HR;go_upto_region 5 with fail;refine wp_region_held_drew (S:=fun w'=>V.grownBy w' none) (by kernel_rfl) (ai _) (fun hHeld=>?_);refine QZ 0 rfl ?_;go_frame;refine QT 1 rfl (by intro w0 hSw;have x0:=QK hSw x0;go_simp;try with_reducible rfl) ?_;go_frame;refine QZ 2 rfl ?_;go_frame;refine QZ 3 rfl ?_;go_frame;refine QN 4 rfl ?_;go_frame;refine QN 5 rfl ?_;go_frame;refine QN 6 rfl ?_;go_frame;refine QN 8 rfl ?_;go_frame;refine QN 9 rfl ?_;go_frame;refine QR 7 rfl (fun K hK=>?_);rw[if_neg (Bool.eq_false_iff.1 (by rfl))];refine hK.out _ _ (by assumption) (fun hHeld2=>?_);clear hK K;(try go_frame);refine QN 10 rfl ?_;go_frame;refine QZ 11 rfl ?_;go_frame;refine QZ 12 rfl ?_;go_frame;refine QD ?_;go_wp2_with fail;go_ret;exact⟨aI HQ.o.symm,aa HG.o (by assumption)⟩
 ·have k19:(p.vb != 19)=true:=by simpa using b19
  have HR:QH (eU ts p h=(h.vb == 1)):=by show _=_;unfold eU;rw[if_pos b19,dY]
  clear b19;go_wp2;go_ret;exact⟨aI HR.o.symm,HG.o⟩
