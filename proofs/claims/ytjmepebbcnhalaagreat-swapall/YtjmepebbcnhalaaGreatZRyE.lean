/-

-/
import Derived.Test.YtjmepebbcnhalaaGreatZ27
namespace Go.Proofs.YtjmepebbcnhalaaGreat
open Tryz
set_option maxRecDepth 100000
set_option maxHeartbeats 4000000
open Go.RowKit

theorem Dg (f:Fe) (p:Pt) (ho:Int) (w:World) (hv:p.vb=10):Calls prog 149 #[fev f,pv p,.int .i64 ho] w fun e w'=>e=.returned (fev { f with ho:=ho })∧w.grownBy w' none:=by
 obtain⟨W1,hW1⟩:=Qe (((w.alloc (.cells #[.int .i64 f.ho,.int .u8 f.su,.int .u16 f.tr,.int .i64 f.po,.int .i64 f.he] 122)).alloc (.cells #[.int .u8 p.wn,.int .u8 p.vb,.int .u8 p.wm,.int .i64 p.ct,.int .u8 p.su,.int .u8 p.tr,.int .u8 p.mr,.string p.nm] 62)).alloc (.cells #[.int .i64 0,.int .u8 0,.int .u16 0,.int .i64 0,.int .i64 0] 122));have HG1:QH (w.grownBy W1 none):=by rw[hW1];exact am (am QG _) _
 have HF:QH (W1.heap[w.heap.size]?=some (.cells #[.int .i64 f.ho,.int .u8 f.su,.int .u16 f.tr,.int .i64 f.po,.int .i64 f.he] 122 (0,0))):=by rw[hW1];exact ag (am QG _) (aj w _ _) (by simp)
 have HP:QH (W1.heap[w.heap.size+1]?=some (.cells #[.int .u8 p.wn,.int .u8 p.vb,.int .u8 p.wm,.int .i64 p.ct,.int .u8 p.su,.int .u8 p.tr,.int .u8 p.mr,.string p.nm] 62 (0,0))):=by rw[hW1];exact ag QG (aT _ _ _ _) (by simp)
 have HR:QH (W1.heap[w.heap.size+1+1]?=some (.cells #[.int .i64 0,.int .u8 0,.int .u16 0,.int .i64 0,.int .i64 0] 122 (0,0))):=by rw[hW1];exact gd _ _ _ _ _
 have Hv:QH (p.vb=10):=hv;clear hv;unfold fev pv;go_enter func149,ntmps149;go_upto_region 1 with fail;rw[←hW1];clear hW1;obtain⟨n0,h0⟩:=Qe (w.heap.size);have HN:QH (w.heap.size≤n0∧w.heap.size≤n0+1+1):=by show _∧_;omega
 simp only[←h0] at HF HP HR ⊢;obtain⟨n1,h1⟩:=Qe (n0+1);simp only[←h1] at HP HR HN ⊢;obtain⟨n2,h2⟩:=Qe (n1+1);have d1:n0≠n2:=by omega
 have d2:n1≠n0:=by omega
 simp only[←h2] at HR HN ⊢;clear h0 h1 h2;have f0:=QS (ae HF.o 0) (.int .i64 f.ho) rfl;have f1:=QS (ae HF.o 1) (.int .u8 f.su) rfl;have f2:=QS (ae HF.o 2) (.int .u16 f.tr) rfl;have f3:=QS (ae HF.o 3) (.int .i64 f.po) rfl;have f4:=QS (ae HF.o 4) (.int .i64 f.he) rfl;have ff:=fun i=>aq HF.o i;have q1:=QS (ae HP.o 1) (.int .u8 p.vb) rfl;have q3:=QS (ae HP.o 3) (.int .i64 p.ct) rfl;have q4:=QS (ae HP.o 4) (.int .u8 p.su) rfl;have q5:=QS (ae HP.o 5) (.int .u8 p.tr) rfl;have r0:=QS (ae HR.o 0) (.int .i64 0) rfl;have r1:=QS (ae HR.o 1) (.int .u8 0) rfl;have r2:=QS (ae HR.o 2) (.int .u16 0) rfl;have r3:=QS (ae HR.o 3) (.int .i64 0) rfl;have r4:=QS (ae HR.o 4) (.int .i64 0) rfl;have rf:=fun i=>aq HR.o i;rw[Hv.o] at q1;clear q3 q4 q5;go_wp2;refine bodyPost_ret (v:=fev { f with ho:=ho }) (by simp[results,results149,go_sem,fev,r0,r1,r2,r3,r4]) rfl ⟨rfl,?_⟩;exact(ar (ar (ar (ar (ar (ar HG1.o HN.o.1 _ _) HN.o.2 _ _) HN.o.2 _ _) HN.o.2 _ _) HN.o.2 _ _) HN.o.2 _ _)
theorem Cb (f:Fe) (p:Pt) (ho:Int) (w:World) (hv:p.vb=11):Calls prog 149 #[fev f,pv p,.int .i64 ho] w fun e w'=>e=.returned (fev { f with su:=p.su })∧w.grownBy w' none:=by
 obtain⟨W1,hW1⟩:=Qe (((w.alloc (.cells #[.int .i64 f.ho,.int .u8 f.su,.int .u16 f.tr,.int .i64 f.po,.int .i64 f.he] 122)).alloc (.cells #[.int .u8 p.wn,.int .u8 p.vb,.int .u8 p.wm,.int .i64 p.ct,.int .u8 p.su,.int .u8 p.tr,.int .u8 p.mr,.string p.nm] 62)).alloc (.cells #[.int .i64 0,.int .u8 0,.int .u16 0,.int .i64 0,.int .i64 0] 122));have HG1:QH (w.grownBy W1 none):=by rw[hW1];exact am (am QG _) _
 have HF:QH (W1.heap[w.heap.size]?=some (.cells #[.int .i64 f.ho,.int .u8 f.su,.int .u16 f.tr,.int .i64 f.po,.int .i64 f.he] 122 (0,0))):=by rw[hW1];exact ag (am QG _) (aj w _ _) (by simp)
 have HP:QH (W1.heap[w.heap.size+1]?=some (.cells #[.int .u8 p.wn,.int .u8 p.vb,.int .u8 p.wm,.int .i64 p.ct,.int .u8 p.su,.int .u8 p.tr,.int .u8 p.mr,.string p.nm] 62 (0,0))):=by rw[hW1];exact ag QG (aT _ _ _ _) (by simp)
 have HR:QH (W1.heap[w.heap.size+1+1]?=some (.cells #[.int .i64 0,.int .u8 0,.int .u16 0,.int .i64 0,.int .i64 0] 122 (0,0))):=by rw[hW1];exact gd _ _ _ _ _
 have Hv:QH (p.vb=11):=hv;clear hv;unfold fev pv;go_enter func149,ntmps149;go_upto_region 1 with fail;rw[←hW1];clear hW1;obtain⟨n0,h0⟩:=Qe (w.heap.size);have HN:QH (w.heap.size≤n0∧w.heap.size≤n0+1+1):=by show _∧_;omega
 simp only[←h0] at HF HP HR ⊢;obtain⟨n1,h1⟩:=Qe (n0+1);simp only[←h1] at HP HR HN ⊢;obtain⟨n2,h2⟩:=Qe (n1+1);have d1:n0≠n2:=by omega
 have d2:n1≠n0:=by omega
 simp only[←h2] at HR HN ⊢;clear h0 h1 h2;have f0:=QS (ae HF.o 0) (.int .i64 f.ho) rfl;have f1:=QS (ae HF.o 1) (.int .u8 f.su) rfl;have f2:=QS (ae HF.o 2) (.int .u16 f.tr) rfl;have f3:=QS (ae HF.o 3) (.int .i64 f.po) rfl;have f4:=QS (ae HF.o 4) (.int .i64 f.he) rfl;have ff:=fun i=>aq HF.o i;have q1:=QS (ae HP.o 1) (.int .u8 p.vb) rfl;have q3:=QS (ae HP.o 3) (.int .i64 p.ct) rfl;have q4:=QS (ae HP.o 4) (.int .u8 p.su) rfl;have q5:=QS (ae HP.o 5) (.int .u8 p.tr) rfl;have r0:=QS (ae HR.o 0) (.int .i64 0) rfl;have r1:=QS (ae HR.o 1) (.int .u8 0) rfl;have r2:=QS (ae HR.o 2) (.int .u16 0) rfl;have r3:=QS (ae HR.o 3) (.int .i64 0) rfl;have r4:=QS (ae HR.o 4) (.int .i64 0) rfl;have rf:=fun i=>aq HR.o i;rw[Hv.o] at q1;clear q3 q5;go_wp2;refine bodyPost_ret (v:=fev { f with su:=p.su }) (by simp[results,results149,go_sem,fev,r0,r1,r2,r3,r4]) rfl ⟨rfl,?_⟩;exact(ar (ar (ar (ar (ar (ar HG1.o HN.o.1 _ _) HN.o.2 _ _) HN.o.2 _ _) HN.o.2 _ _) HN.o.2 _ _) HN.o.2 _ _)
theorem rY (f:Fe) (p:Pt) (ho:Int) (w:World) (hv:p.vb=12):Calls prog 149 #[fev f,pv p,.int .i64 ho] w fun e w'=>e=.returned (fev { f with tr:=qD f.tr p.tr })∧w.grownBy w' none:=by
 obtain⟨W1,hW1⟩:=Qe (((w.alloc (.cells #[.int .i64 f.ho,.int .u8 f.su,.int .u16 f.tr,.int .i64 f.po,.int .i64 f.he] 122)).alloc (.cells #[.int .u8 p.wn,.int .u8 p.vb,.int .u8 p.wm,.int .i64 p.ct,.int .u8 p.su,.int .u8 p.tr,.int .u8 p.mr,.string p.nm] 62)).alloc (.cells #[.int .i64 0,.int .u8 0,.int .u16 0,.int .i64 0,.int .i64 0] 122));have HG1:QH (w.grownBy W1 none):=by rw[hW1];exact am (am QG _) _
 have HF:QH (W1.heap[w.heap.size]?=some (.cells #[.int .i64 f.ho,.int .u8 f.su,.int .u16 f.tr,.int .i64 f.po,.int .i64 f.he] 122 (0,0))):=by rw[hW1];exact ag (am QG _) (aj w _ _) (by simp)
 have HP:QH (W1.heap[w.heap.size+1]?=some (.cells #[.int .u8 p.wn,.int .u8 p.vb,.int .u8 p.wm,.int .i64 p.ct,.int .u8 p.su,.int .u8 p.tr,.int .u8 p.mr,.string p.nm] 62 (0,0))):=by rw[hW1];exact ag QG (aT _ _ _ _) (by simp)
 have HR:QH (W1.heap[w.heap.size+1+1]?=some (.cells #[.int .i64 0,.int .u8 0,.int .u16 0,.int .i64 0,.int .i64 0] 122 (0,0))):=by rw[hW1];exact gd _ _ _ _ _
 have Hv:QH (p.vb=12):=hv;clear hv;have C:=vW f.tr p.tr;obtain⟨y,hy⟩:=Qe (qD f.tr p.tr);rw[←hy] at C ⊢;clear hy;unfold fev pv;go_enter func149,ntmps149;go_upto_region 1 with fail;rw[←hW1];clear hW1;obtain⟨n0,h0⟩:=Qe (w.heap.size);have HN:QH (w.heap.size≤n0∧w.heap.size≤n0+1+1):=by show _∧_;omega
 simp only[←h0] at HF HP HR ⊢;obtain⟨n1,h1⟩:=Qe (n0+1);simp only[←h1] at HP HR HN ⊢;obtain⟨n2,h2⟩:=Qe (n1+1);have d1:n0≠n2:=by omega
 have d2:n1≠n0:=by omega
 simp only[←h2] at HR HN ⊢;clear h0 h1 h2;have f0:=QS (ae HF.o 0) (.int .i64 f.ho) rfl;have f1:=QS (ae HF.o 1) (.int .u8 f.su) rfl;have f2:=QS (ae HF.o 2) (.int .u16 f.tr) rfl;have f3:=QS (ae HF.o 3) (.int .i64 f.po) rfl;have f4:=QS (ae HF.o 4) (.int .i64 f.he) rfl;have ff:=fun i=>aq HF.o i;have q1:=QS (ae HP.o 1) (.int .u8 p.vb) rfl;have q3:=QS (ae HP.o 3) (.int .i64 p.ct) rfl;have q4:=QS (ae HP.o 4) (.int .u8 p.su) rfl;have q5:=QS (ae HP.o 5) (.int .u8 p.tr) rfl;have r0:=QS (ae HR.o 0) (.int .i64 0) rfl;have r1:=QS (ae HR.o 1) (.int .u8 0) rfl;have r2:=QS (ae HR.o 2) (.int .u16 0) rfl;have r3:=QS (ae HR.o 3) (.int .i64 0) rfl;have r4:=QS (ae HR.o 4) (.int .i64 0) rfl;have rf:=fun i=>aq HR.o i;rw[Hv.o] at q1;clear q3 q4;go_wp2_with (go_at_call 218;refine(C _).mono ?_;rintro e w1 ⟨rfl,rfl⟩;clear C)
 refine bodyPost_ret (v:=fev { f with tr:=y }) (by simp[results,results149,go_sem,fev,r0,r1,r2,r3,r4]) rfl ⟨rfl,?_⟩;exact(ar (ar (ar (ar (ar (ar HG1.o HN.o.1 _ _) HN.o.2 _ _) HN.o.2 _ _) HN.o.2 _ _) HN.o.2 _ _) HN.o.2 _ _)
theorem mH (f:Fe) (p:Pt) (ho:Int) (w:World) (hv:p.vb=13):Calls prog 149 #[fev f,pv p,.int .i64 ho] w fun e w'=>e=.returned (fev { f with tr:=iD f.tr p.tr })∧w.grownBy w' none:=by
 obtain⟨W1,hW1⟩:=Qe (((w.alloc (.cells #[.int .i64 f.ho,.int .u8 f.su,.int .u16 f.tr,.int .i64 f.po,.int .i64 f.he] 122)).alloc (.cells #[.int .u8 p.wn,.int .u8 p.vb,.int .u8 p.wm,.int .i64 p.ct,.int .u8 p.su,.int .u8 p.tr,.int .u8 p.mr,.string p.nm] 62)).alloc (.cells #[.int .i64 0,.int .u8 0,.int .u16 0,.int .i64 0,.int .i64 0] 122));have HG1:QH (w.grownBy W1 none):=by rw[hW1];exact am (am QG _) _
 have HF:QH (W1.heap[w.heap.size]?=some (.cells #[.int .i64 f.ho,.int .u8 f.su,.int .u16 f.tr,.int .i64 f.po,.int .i64 f.he] 122 (0,0))):=by rw[hW1];exact ag (am QG _) (aj w _ _) (by simp)
 have HP:QH (W1.heap[w.heap.size+1]?=some (.cells #[.int .u8 p.wn,.int .u8 p.vb,.int .u8 p.wm,.int .i64 p.ct,.int .u8 p.su,.int .u8 p.tr,.int .u8 p.mr,.string p.nm] 62 (0,0))):=by rw[hW1];exact ag QG (aT _ _ _ _) (by simp)
 have HR:QH (W1.heap[w.heap.size+1+1]?=some (.cells #[.int .i64 0,.int .u8 0,.int .u16 0,.int .i64 0,.int .i64 0] 122 (0,0))):=by rw[hW1];exact gd _ _ _ _ _
 have Hv:QH (p.vb=13):=hv;clear hv;have C:=qp f.tr p.tr;obtain⟨y,hy⟩:=Qe (iD f.tr p.tr);rw[←hy] at C ⊢;clear hy;unfold fev pv;go_enter func149,ntmps149;go_upto_region 1 with fail;rw[←hW1];clear hW1;obtain⟨n0,h0⟩:=Qe (w.heap.size);have HN:QH (w.heap.size≤n0∧w.heap.size≤n0+1+1):=by show _∧_;omega
 simp only[←h0] at HF HP HR ⊢;obtain⟨n1,h1⟩:=Qe (n0+1);simp only[←h1] at HP HR HN ⊢;obtain⟨n2,h2⟩:=Qe (n1+1);have d1:n0≠n2:=by omega
 have d2:n1≠n0:=by omega
 simp only[←h2] at HR HN ⊢;clear h0 h1 h2;have f0:=QS (ae HF.o 0) (.int .i64 f.ho) rfl;have f1:=QS (ae HF.o 1) (.int .u8 f.su) rfl;have f2:=QS (ae HF.o 2) (.int .u16 f.tr) rfl;have f3:=QS (ae HF.o 3) (.int .i64 f.po) rfl;have f4:=QS (ae HF.o 4) (.int .i64 f.he) rfl;have ff:=fun i=>aq HF.o i;have q1:=QS (ae HP.o 1) (.int .u8 p.vb) rfl;have q3:=QS (ae HP.o 3) (.int .i64 p.ct) rfl;have q4:=QS (ae HP.o 4) (.int .u8 p.su) rfl;have q5:=QS (ae HP.o 5) (.int .u8 p.tr) rfl;have r0:=QS (ae HR.o 0) (.int .i64 0) rfl;have r1:=QS (ae HR.o 1) (.int .u8 0) rfl;have r2:=QS (ae HR.o 2) (.int .u16 0) rfl;have r3:=QS (ae HR.o 3) (.int .i64 0) rfl;have r4:=QS (ae HR.o 4) (.int .i64 0) rfl;have rf:=fun i=>aq HR.o i;rw[Hv.o] at q1;clear q3 q4;go_wp2_with (go_at_call 219;refine(C _).mono ?_;rintro e w1 ⟨rfl,rfl⟩;clear C)
 refine bodyPost_ret (v:=fev { f with tr:=y }) (by simp[results,results149,go_sem,fev,r0,r1,r2,r3,r4]) rfl ⟨rfl,?_⟩;exact(ar (ar (ar (ar (ar (ar HG1.o HN.o.1 _ _) HN.o.2 _ _) HN.o.2 _ _) HN.o.2 _ _) HN.o.2 _ _) HN.o.2 _ _)
theorem xm (f:Fe) (p:Pt) (ho:Int) (w:World) (hv:p.vb=14):Calls prog 149 #[fev f,pv p,.int .i64 ho] w fun e w'=>e=.returned (fev { f with po:=p.ct,he:=p.ct })∧w.grownBy w' none:=by
 obtain⟨W1,hW1⟩:=Qe (((w.alloc (.cells #[.int .i64 f.ho,.int .u8 f.su,.int .u16 f.tr,.int .i64 f.po,.int .i64 f.he] 122)).alloc (.cells #[.int .u8 p.wn,.int .u8 p.vb,.int .u8 p.wm,.int .i64 p.ct,.int .u8 p.su,.int .u8 p.tr,.int .u8 p.mr,.string p.nm] 62)).alloc (.cells #[.int .i64 0,.int .u8 0,.int .u16 0,.int .i64 0,.int .i64 0] 122));have HG1:QH (w.grownBy W1 none):=by rw[hW1];exact am (am QG _) _
 have HF:QH (W1.heap[w.heap.size]?=some (.cells #[.int .i64 f.ho,.int .u8 f.su,.int .u16 f.tr,.int .i64 f.po,.int .i64 f.he] 122 (0,0))):=by rw[hW1];exact ag (am QG _) (aj w _ _) (by simp)
 have HP:QH (W1.heap[w.heap.size+1]?=some (.cells #[.int .u8 p.wn,.int .u8 p.vb,.int .u8 p.wm,.int .i64 p.ct,.int .u8 p.su,.int .u8 p.tr,.int .u8 p.mr,.string p.nm] 62 (0,0))):=by rw[hW1];exact ag QG (aT _ _ _ _) (by simp)
 have HR:QH (W1.heap[w.heap.size+1+1]?=some (.cells #[.int .i64 0,.int .u8 0,.int .u16 0,.int .i64 0,.int .i64 0] 122 (0,0))):=by rw[hW1];exact gd _ _ _ _ _
 have Hv:QH (p.vb=14):=hv;clear hv;unfold fev pv;go_enter func149,ntmps149;go_upto_region 1 with fail;rw[←hW1];clear hW1;obtain⟨n0,h0⟩:=Qe (w.heap.size);have HN:QH (w.heap.size≤n0∧w.heap.size≤n0+1+1):=by show _∧_;omega
 simp only[←h0] at HF HP HR ⊢;obtain⟨n1,h1⟩:=Qe (n0+1);simp only[←h1] at HP HR HN ⊢;obtain⟨n2,h2⟩:=Qe (n1+1);have d1:n0≠n2:=by omega
 have d2:n1≠n0:=by omega
 simp only[←h2] at HR HN ⊢;clear h0 h1 h2;have f0:=QS (ae HF.o 0) (.int .i64 f.ho) rfl;have f1:=QS (ae HF.o 1) (.int .u8 f.su) rfl;have f2:=QS (ae HF.o 2) (.int .u16 f.tr) rfl;have f3:=QS (ae HF.o 3) (.int .i64 f.po) rfl;have f4:=QS (ae HF.o 4) (.int .i64 f.he) rfl;have ff:=fun i=>aq HF.o i;have q1:=QS (ae HP.o 1) (.int .u8 p.vb) rfl;have q3:=QS (ae HP.o 3) (.int .i64 p.ct) rfl;have q4:=QS (ae HP.o 4) (.int .u8 p.su) rfl;have q5:=QS (ae HP.o 5) (.int .u8 p.tr) rfl;have r0:=QS (ae HR.o 0) (.int .i64 0) rfl;have r1:=QS (ae HR.o 1) (.int .u8 0) rfl;have r2:=QS (ae HR.o 2) (.int .u16 0) rfl;have r3:=QS (ae HR.o 3) (.int .i64 0) rfl;have r4:=QS (ae HR.o 4) (.int .i64 0) rfl;have rf:=fun i=>aq HR.o i;rw[Hv.o] at q1;clear q4 q5;go_wp2
 all_goals (refine bodyPost_ret (v:=fev { f with po:=p.ct,he:=p.ct }) (by simp[results,results149,go_sem,fev,r0,r1,r2,r3,r4]) rfl ⟨rfl,?_⟩)
 all_goals exact ar (ar (ar (ar (ar (ar (ar HG1.o HN.o.1 _ _) HN.o.1 _ _) HN.o.2 _ _) HN.o.2 _ _) HN.o.2 _ _) HN.o.2 _ _) HN.o.2 _ _
theorem tc (f:Fe) (p:Pt) (ho:Int) (w:World) (hv:p.vb=15):Calls prog 149 #[fev f,pv p,.int .i64 ho] w fun e w'=>e=.returned (fev { f with po:=wrap64 (f.po+p.ct),he:=wrap64 (f.he+p.ct) })∧w.grownBy w' none:=by
 obtain⟨W1,hW1⟩:=Qe (((w.alloc (.cells #[.int .i64 f.ho,.int .u8 f.su,.int .u16 f.tr,.int .i64 f.po,.int .i64 f.he] 122)).alloc (.cells #[.int .u8 p.wn,.int .u8 p.vb,.int .u8 p.wm,.int .i64 p.ct,.int .u8 p.su,.int .u8 p.tr,.int .u8 p.mr,.string p.nm] 62)).alloc (.cells #[.int .i64 0,.int .u8 0,.int .u16 0,.int .i64 0,.int .i64 0] 122));have HG1:QH (w.grownBy W1 none):=by rw[hW1];exact am (am QG _) _
 have HF:QH (W1.heap[w.heap.size]?=some (.cells #[.int .i64 f.ho,.int .u8 f.su,.int .u16 f.tr,.int .i64 f.po,.int .i64 f.he] 122 (0,0))):=by rw[hW1];exact ag (am QG _) (aj w _ _) (by simp)
 have HP:QH (W1.heap[w.heap.size+1]?=some (.cells #[.int .u8 p.wn,.int .u8 p.vb,.int .u8 p.wm,.int .i64 p.ct,.int .u8 p.su,.int .u8 p.tr,.int .u8 p.mr,.string p.nm] 62 (0,0))):=by rw[hW1];exact ag QG (aT _ _ _ _) (by simp)
 have HR:QH (W1.heap[w.heap.size+1+1]?=some (.cells #[.int .i64 0,.int .u8 0,.int .u16 0,.int .i64 0,.int .i64 0] 122 (0,0))):=by rw[hW1];exact gd _ _ _ _ _
 have Hv:QH (p.vb=15):=hv;clear hv;unfold fev pv;go_enter func149,ntmps149;go_upto_region 1 with fail;rw[←hW1];clear hW1;obtain⟨n0,h0⟩:=Qe (w.heap.size);have HN:QH (w.heap.size≤n0∧w.heap.size≤n0+1+1):=by show _∧_;omega
 simp only[←h0] at HF HP HR ⊢;obtain⟨n1,h1⟩:=Qe (n0+1);simp only[←h1] at HP HR HN ⊢;obtain⟨n2,h2⟩:=Qe (n1+1);have d1:n0≠n2:=by omega
 have d2:n1≠n0:=by omega
 simp only[←h2] at HR HN ⊢;clear h0 h1 h2;have f0:=QS (ae HF.o 0) (.int .i64 f.ho) rfl;have f1:=QS (ae HF.o 1) (.int .u8 f.su) rfl;have f2:=QS (ae HF.o 2) (.int .u16 f.tr) rfl;have f3:=QS (ae HF.o 3) (.int .i64 f.po) rfl;have f4:=QS (ae HF.o 4) (.int .i64 f.he) rfl;have ff:=fun i=>aq HF.o i;have q1:=QS (ae HP.o 1) (.int .u8 p.vb) rfl;have q3:=QS (ae HP.o 3) (.int .i64 p.ct) rfl;have q4:=QS (ae HP.o 4) (.int .u8 p.su) rfl;have q5:=QS (ae HP.o 5) (.int .u8 p.tr) rfl;have r0:=QS (ae HR.o 0) (.int .i64 0) rfl;have r1:=QS (ae HR.o 1) (.int .u8 0) rfl;have r2:=QS (ae HR.o 2) (.int .u16 0) rfl;have r3:=QS (ae HR.o 3) (.int .i64 0) rfl;have r4:=QS (ae HR.o 4) (.int .i64 0) rfl;have rf:=fun i=>aq HR.o i;rw[Hv.o] at q1;clear q4 q5;go_wp2
 all_goals (refine bodyPost_ret (v:=fev { f with po:=wrap64 (f.po+p.ct),he:=wrap64 (f.he+p.ct) }) (by simp[results,results149,go_sem,fev,r0,r1,r2,r3,r4]) rfl ⟨rfl,?_⟩)
 all_goals exact ar (ar (ar (ar (ar (ar (ar HG1.o HN.o.1 _ _) HN.o.1 _ _) HN.o.2 _ _) HN.o.2 _ _) HN.o.2 _ _) HN.o.2 _ _) HN.o.2 _ _
theorem xU (f:Fe) (p:Pt) (ho:Int) (w:World) (hv:¬(10≤p.vb∧p.vb≤15)):Calls prog 149 #[fev f,pv p,.int .i64 ho] w fun e w'=>e=.returned (fev f)∧w.grownBy w' none:=by
 obtain⟨W1,hW1⟩:=Qe (((w.alloc (.cells #[.int .i64 f.ho,.int .u8 f.su,.int .u16 f.tr,.int .i64 f.po,.int .i64 f.he] 122)).alloc (.cells #[.int .u8 p.wn,.int .u8 p.vb,.int .u8 p.wm,.int .i64 p.ct,.int .u8 p.su,.int .u8 p.tr,.int .u8 p.mr,.string p.nm] 62)).alloc (.cells #[.int .i64 0,.int .u8 0,.int .u16 0,.int .i64 0,.int .i64 0] 122));have HG1:QH (w.grownBy W1 none):=by rw[hW1];exact am (am QG _) _
 have HF:QH (W1.heap[w.heap.size]?=some (.cells #[.int .i64 f.ho,.int .u8 f.su,.int .u16 f.tr,.int .i64 f.po,.int .i64 f.he] 122 (0,0))):=by rw[hW1];exact ag (am QG _) (aj w _ _) (by simp)
 have HP:QH (W1.heap[w.heap.size+1]?=some (.cells #[.int .u8 p.wn,.int .u8 p.vb,.int .u8 p.wm,.int .i64 p.ct,.int .u8 p.su,.int .u8 p.tr,.int .u8 p.mr,.string p.nm] 62 (0,0))):=by rw[hW1];exact ag QG (aT _ _ _ _) (by simp)
 have HR:QH (W1.heap[w.heap.size+1+1]?=some (.cells #[.int .i64 0,.int .u8 0,.int .u16 0,.int .i64 0,.int .i64 0] 122 (0,0))):=by rw[hW1];exact gd _ _ _ _ _
 unfold fev pv;go_enter func149,ntmps149;go_upto_region 1 with fail;rw[←hW1];clear hW1;obtain⟨n0,h0⟩:=Qe (w.heap.size);have HN:QH (w.heap.size≤n0∧w.heap.size≤n0+1+1):=by show _∧_;omega
 simp only[←h0] at HF HP HR ⊢;obtain⟨n1,h1⟩:=Qe (n0+1);simp only[←h1] at HP HR HN ⊢;obtain⟨n2,h2⟩:=Qe (n1+1);have d1:n0≠n2:=by omega
 have d2:n1≠n0:=by omega
 simp only[←h2] at HR HN ⊢;clear h0 h1 h2;have f0:=QS (ae HF.o 0) (.int .i64 f.ho) rfl;have f1:=QS (ae HF.o 1) (.int .u8 f.su) rfl;have f2:=QS (ae HF.o 2) (.int .u16 f.tr) rfl;have f3:=QS (ae HF.o 3) (.int .i64 f.po) rfl;have f4:=QS (ae HF.o 4) (.int .i64 f.he) rfl;have ff:=fun i=>aq HF.o i;have q1:=QS (ae HP.o 1) (.int .u8 p.vb) rfl;have q3:=QS (ae HP.o 3) (.int .i64 p.ct) rfl;have q4:=QS (ae HP.o 4) (.int .u8 p.su) rfl;have q5:=QS (ae HP.o 5) (.int .u8 p.tr) rfl;have r0:=QS (ae HR.o 0) (.int .i64 0) rfl;have r1:=QS (ae HR.o 1) (.int .u8 0) rfl;have r2:=QS (ae HR.o 2) (.int .u16 0) rfl;have r3:=QS (ae HR.o 3) (.int .i64 0) rfl;have r4:=QS (ae HR.o 4) (.int .i64 0) rfl;have rf:=fun i=>aq HR.o i;have e1:(p.vb == 10)=false:=by simp;omega
 have e2:(p.vb == 11)=false:=by simp;omega
 have e3:(p.vb == 12)=false:=by simp;omega
 have e4:(p.vb == 13)=false:=by simp;omega
 have e5:(p.vb == 14)=false:=by simp;omega
 have e6:(p.vb == 15)=false:=by simp;omega
 clear hv q3 q4 q5;go_wp2;refine bodyPost_ret (v:=fev f) (by simp[results,results149,go_sem,fev,r0,r1,r2,r3,r4]) rfl ⟨rfl,?_⟩;exact(ar (ar (ar (ar (ar HG1.o HN.o.2 _ _) HN.o.2 _ _) HN.o.2 _ _) HN.o.2 _ _) HN.o.2 _ _)
theorem zV (f:Fe) (p:Pt) (ho:Int) (w:World):Calls prog 149 #[fev f,pv p,.int .i64 ho] w fun e w'=>e=.returned (fev (ix f p ho))∧w.grownBy w' none:=by
 unfold ix;by_cases h1:p.vb=10
 ·rw[if_pos h1];exact Dg f p ho w h1
 rw[if_neg h1];by_cases h2:p.vb=11
 ·rw[if_pos h2];exact Cb f p ho w h2
 rw[if_neg h2];by_cases h3:p.vb=12
 ·rw[if_pos h3];exact rY f p ho w h3
 rw[if_neg h3];by_cases h4:p.vb=13
 ·rw[if_pos h4];exact mH f p ho w h4
 rw[if_neg h4];by_cases h5:p.vb=14
 ·rw[if_pos h5];exact xm f p ho w h5
 rw[if_neg h5];by_cases h6:p.vb=15
 ·rw[if_pos h6];exact tc f p ho w h6
 rw[if_neg h6];exact xU f p ho w (by omega)
