/-
  
-/
import Derived.Test.YtjmepebbcnhalaaGreatW15
namespace Go.Proofs.YtjmepebbcnhalaaGreat
set_option maxRecDepth 100000
set_option maxHeartbeats 4000000
open Go.RowKit

theorem bK (w:World) (o p:Obj) (cs:Array Value) (t:TypeId):(((w.alloc o).alloc p).alloc (.cells cs t)).heap[w.heap.size+1+1]?=some (.cells cs t (0,0)):=by have:=ak ((w.alloc o).alloc p) cs t;rwa [World.size_alloc,World.size_alloc] at this
theorem aj {a b:World} {c:Nat} (h:a.grownBy b none) (hc:a.heap.size≤c) (i:Nat) (v:Value):a.grownBy (b.setCell ⟨c,i,none⟩ v) none:=az h (aw _ _ _ _) (fun y e=>by cases e;exact hc)
theorem tW (f:Fe) (p:Pt) (ho:Int) (w:World) (hv:p.vb=10):Calls Tryz.prog 147 #[fev f,pv p,.int .i64 ho] w fun e w'=>e=.returned (fev { f with ho:=ho })∧w.grownBy w' none:=by
 obtain⟨W1,hW1⟩:∃ W1,W1=((w.alloc (.cells #[.int .i64 f.ho,.int .u8 f.su,.int .u16 f.tr,.int .i64 f.po,.int .i64 f.he] 122)).alloc (.cells #[.int .u8 p.wn,.int .u8 p.vb,.int .u8 p.wm,.int .i64 p.ct,.int .u8 p.su,.int .u8 p.tr,.int .u8 p.mr,.string p.nm] 62)).alloc (.cells #[.int .i64 0,.int .u8 0,.int .u16 0,.int .i64 0,.int .i64 0] 122):=⟨_,rfl⟩
 have HG1:Hid (w.grownBy W1 none):=by rw[hW1];exact am (am (World.grownBy_alloc _ _ none) _) _
 have HF:Hid (W1.heap[w.heap.size]?=some (.cells #[.int .i64 f.ho,.int .u8 f.su,.int .u16 f.tr,.int .i64 f.po,.int .i64 f.he] 122 (0,0))):=by rw[hW1];exact ai (am (World.grownBy_alloc _ _ none) _) (ak w _ _) (by simp)
 have HP:Hid (W1.heap[w.heap.size+1]?=some (.cells #[.int .u8 p.wn,.int .u8 p.vb,.int .u8 p.wm,.int .i64 p.ct,.int .u8 p.su,.int .u8 p.tr,.int .u8 p.mr,.string p.nm] 62 (0,0))):=by rw[hW1];exact ai (World.grownBy_alloc _ _ none) (aL _ _ _ _) (by simp)
 have HR:Hid (W1.heap[w.heap.size+1+1]?=some (.cells #[.int .i64 0,.int .u8 0,.int .u16 0,.int .i64 0,.int .i64 0] 122 (0,0))):=by rw[hW1];exact bK _ _ _ _ _
 have Hv:Hid (p.vb=10):=hv
 clear hv
 unfold fev pv
 go_enter Tryz.func147,Tryz.ntmps147
 go_upto_region 1 with fail
 rw[←hW1]
 clear hW1
 obtain⟨n0,h0⟩:∃ n0,n0=w.heap.size:=⟨_,rfl⟩
 have HN:Hid (w.heap.size≤n0∧w.heap.size≤n0+1+1):=by show _∧_;omega
 simp only[←h0] at HF HP HR ⊢
 obtain⟨n1,h1⟩:∃ n1,n1=n0+1:=⟨_,rfl⟩
 simp only[←h1] at HP HR HN ⊢
 obtain⟨n2,h2⟩:∃ n2,n2=n1+1:=⟨_,rfl⟩
 have d1:n0≠n2:=by omega
 have d2:n1≠n0:=by omega
 simp only[←h2] at HR HN ⊢
 clear h0 h1 h2
 have f0:=(ae HF.out 0).trans (show _=some (.int .i64 f.ho) from rfl)
 have f1:=(ae HF.out 1).trans (show _=some (.int .u8 f.su) from rfl)
 have f2:=(ae HF.out 2).trans (show _=some (.int .u16 f.tr) from rfl)
 have f3:=(ae HF.out 3).trans (show _=some (.int .i64 f.po) from rfl)
 have f4:=(ae HF.out 4).trans (show _=some (.int .i64 f.he) from rfl)
 have ff:=fun i=>aA HF.out i
 have q1:=(ae HP.out 1).trans (show _=some (.int .u8 p.vb) from rfl)
 have q3:=(ae HP.out 3).trans (show _=some (.int .i64 p.ct) from rfl)
 have q4:=(ae HP.out 4).trans (show _=some (.int .u8 p.su) from rfl)
 have q5:=(ae HP.out 5).trans (show _=some (.int .u8 p.tr) from rfl)
 have r0:=(ae HR.out 0).trans (show _=some (.int .i64 0) from rfl)
 have r1:=(ae HR.out 1).trans (show _=some (.int .u8 0) from rfl)
 have r2:=(ae HR.out 2).trans (show _=some (.int .u16 0) from rfl)
 have r3:=(ae HR.out 3).trans (show _=some (.int .i64 0) from rfl)
 have r4:=(ae HR.out 4).trans (show _=some (.int .i64 0) from rfl)
 have rf:=fun i=>aA HR.out i
 rw[Hv.out] at q1
 clear q3 q4 q5
 go_wp2
 refine bodyPost_ret (v:=fev { f with ho:=ho }) (by simp[results,Tryz.results147,go_sem,fev,r0,r1,r2,r3,r4]) rfl ⟨rfl,?_⟩
 exact(aj (aj (aj (aj (aj (aj HG1.out HN.out.1 _ _) HN.out.2 _ _) HN.out.2 _ _) HN.out.2 _ _) HN.out.2 _ _) HN.out.2 _ _)
theorem tM (f:Fe) (p:Pt) (ho:Int) (w:World) (hv:p.vb=11):Calls Tryz.prog 147 #[fev f,pv p,.int .i64 ho] w fun e w'=>e=.returned (fev { f with su:=p.su })∧w.grownBy w' none:=by
 obtain⟨W1,hW1⟩:∃ W1,W1=((w.alloc (.cells #[.int .i64 f.ho,.int .u8 f.su,.int .u16 f.tr,.int .i64 f.po,.int .i64 f.he] 122)).alloc (.cells #[.int .u8 p.wn,.int .u8 p.vb,.int .u8 p.wm,.int .i64 p.ct,.int .u8 p.su,.int .u8 p.tr,.int .u8 p.mr,.string p.nm] 62)).alloc (.cells #[.int .i64 0,.int .u8 0,.int .u16 0,.int .i64 0,.int .i64 0] 122):=⟨_,rfl⟩
 have HG1:Hid (w.grownBy W1 none):=by rw[hW1];exact am (am (World.grownBy_alloc _ _ none) _) _
 have HF:Hid (W1.heap[w.heap.size]?=some (.cells #[.int .i64 f.ho,.int .u8 f.su,.int .u16 f.tr,.int .i64 f.po,.int .i64 f.he] 122 (0,0))):=by rw[hW1];exact ai (am (World.grownBy_alloc _ _ none) _) (ak w _ _) (by simp)
 have HP:Hid (W1.heap[w.heap.size+1]?=some (.cells #[.int .u8 p.wn,.int .u8 p.vb,.int .u8 p.wm,.int .i64 p.ct,.int .u8 p.su,.int .u8 p.tr,.int .u8 p.mr,.string p.nm] 62 (0,0))):=by rw[hW1];exact ai (World.grownBy_alloc _ _ none) (aL _ _ _ _) (by simp)
 have HR:Hid (W1.heap[w.heap.size+1+1]?=some (.cells #[.int .i64 0,.int .u8 0,.int .u16 0,.int .i64 0,.int .i64 0] 122 (0,0))):=by rw[hW1];exact bK _ _ _ _ _
 have Hv:Hid (p.vb=11):=hv
 clear hv
 unfold fev pv
 go_enter Tryz.func147,Tryz.ntmps147
 go_upto_region 1 with fail
 rw[←hW1]
 clear hW1
 obtain⟨n0,h0⟩:∃ n0,n0=w.heap.size:=⟨_,rfl⟩
 have HN:Hid (w.heap.size≤n0∧w.heap.size≤n0+1+1):=by show _∧_;omega
 simp only[←h0] at HF HP HR ⊢
 obtain⟨n1,h1⟩:∃ n1,n1=n0+1:=⟨_,rfl⟩
 simp only[←h1] at HP HR HN ⊢
 obtain⟨n2,h2⟩:∃ n2,n2=n1+1:=⟨_,rfl⟩
 have d1:n0≠n2:=by omega
 have d2:n1≠n0:=by omega
 simp only[←h2] at HR HN ⊢
 clear h0 h1 h2
 have f0:=(ae HF.out 0).trans (show _=some (.int .i64 f.ho) from rfl)
 have f1:=(ae HF.out 1).trans (show _=some (.int .u8 f.su) from rfl)
 have f2:=(ae HF.out 2).trans (show _=some (.int .u16 f.tr) from rfl)
 have f3:=(ae HF.out 3).trans (show _=some (.int .i64 f.po) from rfl)
 have f4:=(ae HF.out 4).trans (show _=some (.int .i64 f.he) from rfl)
 have ff:=fun i=>aA HF.out i
 have q1:=(ae HP.out 1).trans (show _=some (.int .u8 p.vb) from rfl)
 have q3:=(ae HP.out 3).trans (show _=some (.int .i64 p.ct) from rfl)
 have q4:=(ae HP.out 4).trans (show _=some (.int .u8 p.su) from rfl)
 have q5:=(ae HP.out 5).trans (show _=some (.int .u8 p.tr) from rfl)
 have r0:=(ae HR.out 0).trans (show _=some (.int .i64 0) from rfl)
 have r1:=(ae HR.out 1).trans (show _=some (.int .u8 0) from rfl)
 have r2:=(ae HR.out 2).trans (show _=some (.int .u16 0) from rfl)
 have r3:=(ae HR.out 3).trans (show _=some (.int .i64 0) from rfl)
 have r4:=(ae HR.out 4).trans (show _=some (.int .i64 0) from rfl)
 have rf:=fun i=>aA HR.out i
 rw[Hv.out] at q1
 clear q3 q5
 go_wp2
 refine bodyPost_ret (v:=fev { f with su:=p.su }) (by simp[results,Tryz.results147,go_sem,fev,r0,r1,r2,r3,r4]) rfl ⟨rfl,?_⟩
 exact(aj (aj (aj (aj (aj (aj HG1.out HN.out.1 _ _) HN.out.2 _ _) HN.out.2 _ _) HN.out.2 _ _) HN.out.2 _ _) HN.out.2 _ _)
theorem lL (f:Fe) (p:Pt) (ho:Int) (w:World) (hv:p.vb=12):Calls Tryz.prog 147 #[fev f,pv p,.int .i64 ho] w fun e w'=>e=.returned (fev { f with tr:=ki f.tr p.tr })∧w.grownBy w' none:=by
 obtain⟨W1,hW1⟩:∃ W1,W1=((w.alloc (.cells #[.int .i64 f.ho,.int .u8 f.su,.int .u16 f.tr,.int .i64 f.po,.int .i64 f.he] 122)).alloc (.cells #[.int .u8 p.wn,.int .u8 p.vb,.int .u8 p.wm,.int .i64 p.ct,.int .u8 p.su,.int .u8 p.tr,.int .u8 p.mr,.string p.nm] 62)).alloc (.cells #[.int .i64 0,.int .u8 0,.int .u16 0,.int .i64 0,.int .i64 0] 122):=⟨_,rfl⟩
 have HG1:Hid (w.grownBy W1 none):=by rw[hW1];exact am (am (World.grownBy_alloc _ _ none) _) _
 have HF:Hid (W1.heap[w.heap.size]?=some (.cells #[.int .i64 f.ho,.int .u8 f.su,.int .u16 f.tr,.int .i64 f.po,.int .i64 f.he] 122 (0,0))):=by rw[hW1];exact ai (am (World.grownBy_alloc _ _ none) _) (ak w _ _) (by simp)
 have HP:Hid (W1.heap[w.heap.size+1]?=some (.cells #[.int .u8 p.wn,.int .u8 p.vb,.int .u8 p.wm,.int .i64 p.ct,.int .u8 p.su,.int .u8 p.tr,.int .u8 p.mr,.string p.nm] 62 (0,0))):=by rw[hW1];exact ai (World.grownBy_alloc _ _ none) (aL _ _ _ _) (by simp)
 have HR:Hid (W1.heap[w.heap.size+1+1]?=some (.cells #[.int .i64 0,.int .u8 0,.int .u16 0,.int .i64 0,.int .i64 0] 122 (0,0))):=by rw[hW1];exact bK _ _ _ _ _
 have Hv:Hid (p.vb=12):=hv
 clear hv
 have C:=yt f.tr p.tr
 obtain⟨y,hy⟩:∃ y,y=ki f.tr p.tr:=⟨_,rfl⟩
 rw[←hy] at C ⊢
 clear hy
 unfold fev pv
 go_enter Tryz.func147,Tryz.ntmps147
 go_upto_region 1 with fail
 rw[←hW1]
 clear hW1
 obtain⟨n0,h0⟩:∃ n0,n0=w.heap.size:=⟨_,rfl⟩
 have HN:Hid (w.heap.size≤n0∧w.heap.size≤n0+1+1):=by show _∧_;omega
 simp only[←h0] at HF HP HR ⊢
 obtain⟨n1,h1⟩:∃ n1,n1=n0+1:=⟨_,rfl⟩
 simp only[←h1] at HP HR HN ⊢
 obtain⟨n2,h2⟩:∃ n2,n2=n1+1:=⟨_,rfl⟩
 have d1:n0≠n2:=by omega
 have d2:n1≠n0:=by omega
 simp only[←h2] at HR HN ⊢
 clear h0 h1 h2
 have f0:=(ae HF.out 0).trans (show _=some (.int .i64 f.ho) from rfl)
 have f1:=(ae HF.out 1).trans (show _=some (.int .u8 f.su) from rfl)
 have f2:=(ae HF.out 2).trans (show _=some (.int .u16 f.tr) from rfl)
 have f3:=(ae HF.out 3).trans (show _=some (.int .i64 f.po) from rfl)
 have f4:=(ae HF.out 4).trans (show _=some (.int .i64 f.he) from rfl)
 have ff:=fun i=>aA HF.out i
 have q1:=(ae HP.out 1).trans (show _=some (.int .u8 p.vb) from rfl)
 have q3:=(ae HP.out 3).trans (show _=some (.int .i64 p.ct) from rfl)
 have q4:=(ae HP.out 4).trans (show _=some (.int .u8 p.su) from rfl)
 have q5:=(ae HP.out 5).trans (show _=some (.int .u8 p.tr) from rfl)
 have r0:=(ae HR.out 0).trans (show _=some (.int .i64 0) from rfl)
 have r1:=(ae HR.out 1).trans (show _=some (.int .u8 0) from rfl)
 have r2:=(ae HR.out 2).trans (show _=some (.int .u16 0) from rfl)
 have r3:=(ae HR.out 3).trans (show _=some (.int .i64 0) from rfl)
 have r4:=(ae HR.out 4).trans (show _=some (.int .i64 0) from rfl)
 have rf:=fun i=>aA HR.out i
 rw[Hv.out] at q1
 clear q3 q4
 go_wp2_with (go_at_call 215;refine(C _).mono ?_;rintro e w1 ⟨rfl,rfl⟩;clear C)
 refine bodyPost_ret (v:=fev { f with tr:=y }) (by simp[results,Tryz.results147,go_sem,fev,r0,r1,r2,r3,r4]) rfl ⟨rfl,?_⟩
 exact(aj (aj (aj (aj (aj (aj HG1.out HN.out.1 _ _) HN.out.2 _ _) HN.out.2 _ _) HN.out.2 _ _) HN.out.2 _ _) HN.out.2 _ _)
theorem jF (f:Fe) (p:Pt) (ho:Int) (w:World) (hv:p.vb=13):Calls Tryz.prog 147 #[fev f,pv p,.int .i64 ho] w fun e w'=>e=.returned (fev { f with tr:=eM f.tr p.tr })∧w.grownBy w' none:=by
 obtain⟨W1,hW1⟩:∃ W1,W1=((w.alloc (.cells #[.int .i64 f.ho,.int .u8 f.su,.int .u16 f.tr,.int .i64 f.po,.int .i64 f.he] 122)).alloc (.cells #[.int .u8 p.wn,.int .u8 p.vb,.int .u8 p.wm,.int .i64 p.ct,.int .u8 p.su,.int .u8 p.tr,.int .u8 p.mr,.string p.nm] 62)).alloc (.cells #[.int .i64 0,.int .u8 0,.int .u16 0,.int .i64 0,.int .i64 0] 122):=⟨_,rfl⟩
 have HG1:Hid (w.grownBy W1 none):=by rw[hW1];exact am (am (World.grownBy_alloc _ _ none) _) _
 have HF:Hid (W1.heap[w.heap.size]?=some (.cells #[.int .i64 f.ho,.int .u8 f.su,.int .u16 f.tr,.int .i64 f.po,.int .i64 f.he] 122 (0,0))):=by rw[hW1];exact ai (am (World.grownBy_alloc _ _ none) _) (ak w _ _) (by simp)
 have HP:Hid (W1.heap[w.heap.size+1]?=some (.cells #[.int .u8 p.wn,.int .u8 p.vb,.int .u8 p.wm,.int .i64 p.ct,.int .u8 p.su,.int .u8 p.tr,.int .u8 p.mr,.string p.nm] 62 (0,0))):=by rw[hW1];exact ai (World.grownBy_alloc _ _ none) (aL _ _ _ _) (by simp)
 have HR:Hid (W1.heap[w.heap.size+1+1]?=some (.cells #[.int .i64 0,.int .u8 0,.int .u16 0,.int .i64 0,.int .i64 0] 122 (0,0))):=by rw[hW1];exact bK _ _ _ _ _
 have Hv:Hid (p.vb=13):=hv
 clear hv
 have C:=sn f.tr p.tr
 obtain⟨y,hy⟩:∃ y,y=eM f.tr p.tr:=⟨_,rfl⟩
 rw[←hy] at C ⊢
 clear hy
 unfold fev pv
 go_enter Tryz.func147,Tryz.ntmps147
 go_upto_region 1 with fail
 rw[←hW1]
 clear hW1
 obtain⟨n0,h0⟩:∃ n0,n0=w.heap.size:=⟨_,rfl⟩
 have HN:Hid (w.heap.size≤n0∧w.heap.size≤n0+1+1):=by show _∧_;omega
 simp only[←h0] at HF HP HR ⊢
 obtain⟨n1,h1⟩:∃ n1,n1=n0+1:=⟨_,rfl⟩
 simp only[←h1] at HP HR HN ⊢
 obtain⟨n2,h2⟩:∃ n2,n2=n1+1:=⟨_,rfl⟩
 have d1:n0≠n2:=by omega
 have d2:n1≠n0:=by omega
 simp only[←h2] at HR HN ⊢
 clear h0 h1 h2
 have f0:=(ae HF.out 0).trans (show _=some (.int .i64 f.ho) from rfl)
 have f1:=(ae HF.out 1).trans (show _=some (.int .u8 f.su) from rfl)
 have f2:=(ae HF.out 2).trans (show _=some (.int .u16 f.tr) from rfl)
 have f3:=(ae HF.out 3).trans (show _=some (.int .i64 f.po) from rfl)
 have f4:=(ae HF.out 4).trans (show _=some (.int .i64 f.he) from rfl)
 have ff:=fun i=>aA HF.out i
 have q1:=(ae HP.out 1).trans (show _=some (.int .u8 p.vb) from rfl)
 have q3:=(ae HP.out 3).trans (show _=some (.int .i64 p.ct) from rfl)
 have q4:=(ae HP.out 4).trans (show _=some (.int .u8 p.su) from rfl)
 have q5:=(ae HP.out 5).trans (show _=some (.int .u8 p.tr) from rfl)
 have r0:=(ae HR.out 0).trans (show _=some (.int .i64 0) from rfl)
 have r1:=(ae HR.out 1).trans (show _=some (.int .u8 0) from rfl)
 have r2:=(ae HR.out 2).trans (show _=some (.int .u16 0) from rfl)
 have r3:=(ae HR.out 3).trans (show _=some (.int .i64 0) from rfl)
 have r4:=(ae HR.out 4).trans (show _=some (.int .i64 0) from rfl)
 have rf:=fun i=>aA HR.out i
 rw[Hv.out] at q1
 clear q3 q4
 go_wp2_with (go_at_call 216;refine(C _).mono ?_;rintro e w1 ⟨rfl,rfl⟩;clear C)
 refine bodyPost_ret (v:=fev { f with tr:=y }) (by simp[results,Tryz.results147,go_sem,fev,r0,r1,r2,r3,r4]) rfl ⟨rfl,?_⟩
 exact(aj (aj (aj (aj (aj (aj HG1.out HN.out.1 _ _) HN.out.2 _ _) HN.out.2 _ _) HN.out.2 _ _) HN.out.2 _ _) HN.out.2 _ _)
theorem oX (f:Fe) (p:Pt) (ho:Int) (w:World) (hv:p.vb=14):Calls Tryz.prog 147 #[fev f,pv p,.int .i64 ho] w fun e w'=>e=.returned (fev { f with po:=p.ct,he:=p.ct })∧w.grownBy w' none:=by
 obtain⟨W1,hW1⟩:∃ W1,W1=((w.alloc (.cells #[.int .i64 f.ho,.int .u8 f.su,.int .u16 f.tr,.int .i64 f.po,.int .i64 f.he] 122)).alloc (.cells #[.int .u8 p.wn,.int .u8 p.vb,.int .u8 p.wm,.int .i64 p.ct,.int .u8 p.su,.int .u8 p.tr,.int .u8 p.mr,.string p.nm] 62)).alloc (.cells #[.int .i64 0,.int .u8 0,.int .u16 0,.int .i64 0,.int .i64 0] 122):=⟨_,rfl⟩
 have HG1:Hid (w.grownBy W1 none):=by rw[hW1];exact am (am (World.grownBy_alloc _ _ none) _) _
 have HF:Hid (W1.heap[w.heap.size]?=some (.cells #[.int .i64 f.ho,.int .u8 f.su,.int .u16 f.tr,.int .i64 f.po,.int .i64 f.he] 122 (0,0))):=by rw[hW1];exact ai (am (World.grownBy_alloc _ _ none) _) (ak w _ _) (by simp)
 have HP:Hid (W1.heap[w.heap.size+1]?=some (.cells #[.int .u8 p.wn,.int .u8 p.vb,.int .u8 p.wm,.int .i64 p.ct,.int .u8 p.su,.int .u8 p.tr,.int .u8 p.mr,.string p.nm] 62 (0,0))):=by rw[hW1];exact ai (World.grownBy_alloc _ _ none) (aL _ _ _ _) (by simp)
 have HR:Hid (W1.heap[w.heap.size+1+1]?=some (.cells #[.int .i64 0,.int .u8 0,.int .u16 0,.int .i64 0,.int .i64 0] 122 (0,0))):=by rw[hW1];exact bK _ _ _ _ _
 have Hv:Hid (p.vb=14):=hv
 clear hv
 unfold fev pv
 go_enter Tryz.func147,Tryz.ntmps147
 go_upto_region 1 with fail
 rw[←hW1]
 clear hW1
 obtain⟨n0,h0⟩:∃ n0,n0=w.heap.size:=⟨_,rfl⟩
 have HN:Hid (w.heap.size≤n0∧w.heap.size≤n0+1+1):=by show _∧_;omega
 simp only[←h0] at HF HP HR ⊢
 obtain⟨n1,h1⟩:∃ n1,n1=n0+1:=⟨_,rfl⟩
 simp only[←h1] at HP HR HN ⊢
 obtain⟨n2,h2⟩:∃ n2,n2=n1+1:=⟨_,rfl⟩
 have d1:n0≠n2:=by omega
 have d2:n1≠n0:=by omega
 simp only[←h2] at HR HN ⊢
 clear h0 h1 h2
 have f0:=(ae HF.out 0).trans (show _=some (.int .i64 f.ho) from rfl)
 have f1:=(ae HF.out 1).trans (show _=some (.int .u8 f.su) from rfl)
 have f2:=(ae HF.out 2).trans (show _=some (.int .u16 f.tr) from rfl)
 have f3:=(ae HF.out 3).trans (show _=some (.int .i64 f.po) from rfl)
 have f4:=(ae HF.out 4).trans (show _=some (.int .i64 f.he) from rfl)
 have ff:=fun i=>aA HF.out i
 have q1:=(ae HP.out 1).trans (show _=some (.int .u8 p.vb) from rfl)
 have q3:=(ae HP.out 3).trans (show _=some (.int .i64 p.ct) from rfl)
 have q4:=(ae HP.out 4).trans (show _=some (.int .u8 p.su) from rfl)
 have q5:=(ae HP.out 5).trans (show _=some (.int .u8 p.tr) from rfl)
 have r0:=(ae HR.out 0).trans (show _=some (.int .i64 0) from rfl)
 have r1:=(ae HR.out 1).trans (show _=some (.int .u8 0) from rfl)
 have r2:=(ae HR.out 2).trans (show _=some (.int .u16 0) from rfl)
 have r3:=(ae HR.out 3).trans (show _=some (.int .i64 0) from rfl)
 have r4:=(ae HR.out 4).trans (show _=some (.int .i64 0) from rfl)
 have rf:=fun i=>aA HR.out i
 rw[Hv.out] at q1
 clear q4 q5
 go_wp2_with fail
 go_region
 all_goals (go_wp2)
 all_goals (refine bodyPost_ret (v:=fev { f with po:=p.ct,he:=p.ct }) (by simp[results,Tryz.results147,go_sem,fev,r0,r1,r2,r3,r4]) rfl ⟨rfl,?_⟩)
 all_goals exact aa (aj (aj (aj (aj (aj (aj (aj HG1.out HN.out.1 _ _) HN.out.1 _ _) HN.out.2 _ _) HN.out.2 _ _) HN.out.2 _ _) HN.out.2 _ _) HN.out.2 _ _) (ag _)
theorem nE (f:Fe) (p:Pt) (ho:Int) (w:World) (hv:p.vb=15):Calls Tryz.prog 147 #[fev f,pv p,.int .i64 ho] w fun e w'=>e=.returned (fev { f with po:=wrap64 (f.po+p.ct),he:=wrap64 (f.he+p.ct) })∧w.grownBy w' none:=by
 obtain⟨W1,hW1⟩:∃ W1,W1=((w.alloc (.cells #[.int .i64 f.ho,.int .u8 f.su,.int .u16 f.tr,.int .i64 f.po,.int .i64 f.he] 122)).alloc (.cells #[.int .u8 p.wn,.int .u8 p.vb,.int .u8 p.wm,.int .i64 p.ct,.int .u8 p.su,.int .u8 p.tr,.int .u8 p.mr,.string p.nm] 62)).alloc (.cells #[.int .i64 0,.int .u8 0,.int .u16 0,.int .i64 0,.int .i64 0] 122):=⟨_,rfl⟩
 have HG1:Hid (w.grownBy W1 none):=by rw[hW1];exact am (am (World.grownBy_alloc _ _ none) _) _
 have HF:Hid (W1.heap[w.heap.size]?=some (.cells #[.int .i64 f.ho,.int .u8 f.su,.int .u16 f.tr,.int .i64 f.po,.int .i64 f.he] 122 (0,0))):=by rw[hW1];exact ai (am (World.grownBy_alloc _ _ none) _) (ak w _ _) (by simp)
 have HP:Hid (W1.heap[w.heap.size+1]?=some (.cells #[.int .u8 p.wn,.int .u8 p.vb,.int .u8 p.wm,.int .i64 p.ct,.int .u8 p.su,.int .u8 p.tr,.int .u8 p.mr,.string p.nm] 62 (0,0))):=by rw[hW1];exact ai (World.grownBy_alloc _ _ none) (aL _ _ _ _) (by simp)
 have HR:Hid (W1.heap[w.heap.size+1+1]?=some (.cells #[.int .i64 0,.int .u8 0,.int .u16 0,.int .i64 0,.int .i64 0] 122 (0,0))):=by rw[hW1];exact bK _ _ _ _ _
 have Hv:Hid (p.vb=15):=hv
 clear hv
 unfold fev pv
 go_enter Tryz.func147,Tryz.ntmps147
 go_upto_region 1 with fail
 rw[←hW1]
 clear hW1
 obtain⟨n0,h0⟩:∃ n0,n0=w.heap.size:=⟨_,rfl⟩
 have HN:Hid (w.heap.size≤n0∧w.heap.size≤n0+1+1):=by show _∧_;omega
 simp only[←h0] at HF HP HR ⊢
 obtain⟨n1,h1⟩:∃ n1,n1=n0+1:=⟨_,rfl⟩
 simp only[←h1] at HP HR HN ⊢
 obtain⟨n2,h2⟩:∃ n2,n2=n1+1:=⟨_,rfl⟩
 have d1:n0≠n2:=by omega
 have d2:n1≠n0:=by omega
 simp only[←h2] at HR HN ⊢
 clear h0 h1 h2
 have f0:=(ae HF.out 0).trans (show _=some (.int .i64 f.ho) from rfl)
 have f1:=(ae HF.out 1).trans (show _=some (.int .u8 f.su) from rfl)
 have f2:=(ae HF.out 2).trans (show _=some (.int .u16 f.tr) from rfl)
 have f3:=(ae HF.out 3).trans (show _=some (.int .i64 f.po) from rfl)
 have f4:=(ae HF.out 4).trans (show _=some (.int .i64 f.he) from rfl)
 have ff:=fun i=>aA HF.out i
 have q1:=(ae HP.out 1).trans (show _=some (.int .u8 p.vb) from rfl)
 have q3:=(ae HP.out 3).trans (show _=some (.int .i64 p.ct) from rfl)
 have q4:=(ae HP.out 4).trans (show _=some (.int .u8 p.su) from rfl)
 have q5:=(ae HP.out 5).trans (show _=some (.int .u8 p.tr) from rfl)
 have r0:=(ae HR.out 0).trans (show _=some (.int .i64 0) from rfl)
 have r1:=(ae HR.out 1).trans (show _=some (.int .u8 0) from rfl)
 have r2:=(ae HR.out 2).trans (show _=some (.int .u16 0) from rfl)
 have r3:=(ae HR.out 3).trans (show _=some (.int .i64 0) from rfl)
 have r4:=(ae HR.out 4).trans (show _=some (.int .i64 0) from rfl)
 have rf:=fun i=>aA HR.out i
 rw[Hv.out] at q1
 clear q4 q5
 go_wp2
 refine bodyPost_ret (v:=fev { f with po:=wrap64 (f.po+p.ct),he:=wrap64 (f.he+p.ct) }) (by simp[results,Tryz.results147,go_sem,fev,r0,r1,r2,r3,r4]) rfl ⟨rfl,?_⟩
 exact(aj (aj (aj (aj (aj (aj (aj HG1.out HN.out.1 _ _) HN.out.1 _ _) HN.out.2 _ _) HN.out.2 _ _) HN.out.2 _ _) HN.out.2 _ _) HN.out.2 _ _)
theorem pU (f:Fe) (p:Pt) (ho:Int) (w:World) (hv:¬(10≤p.vb∧p.vb≤15)):Calls Tryz.prog 147 #[fev f,pv p,.int .i64 ho] w fun e w'=>e=.returned (fev f)∧w.grownBy w' none:=by
 obtain⟨W1,hW1⟩:∃ W1,W1=((w.alloc (.cells #[.int .i64 f.ho,.int .u8 f.su,.int .u16 f.tr,.int .i64 f.po,.int .i64 f.he] 122)).alloc (.cells #[.int .u8 p.wn,.int .u8 p.vb,.int .u8 p.wm,.int .i64 p.ct,.int .u8 p.su,.int .u8 p.tr,.int .u8 p.mr,.string p.nm] 62)).alloc (.cells #[.int .i64 0,.int .u8 0,.int .u16 0,.int .i64 0,.int .i64 0] 122):=⟨_,rfl⟩
 have HG1:Hid (w.grownBy W1 none):=by rw[hW1];exact am (am (World.grownBy_alloc _ _ none) _) _
 have HF:Hid (W1.heap[w.heap.size]?=some (.cells #[.int .i64 f.ho,.int .u8 f.su,.int .u16 f.tr,.int .i64 f.po,.int .i64 f.he] 122 (0,0))):=by rw[hW1];exact ai (am (World.grownBy_alloc _ _ none) _) (ak w _ _) (by simp)
 have HP:Hid (W1.heap[w.heap.size+1]?=some (.cells #[.int .u8 p.wn,.int .u8 p.vb,.int .u8 p.wm,.int .i64 p.ct,.int .u8 p.su,.int .u8 p.tr,.int .u8 p.mr,.string p.nm] 62 (0,0))):=by rw[hW1];exact ai (World.grownBy_alloc _ _ none) (aL _ _ _ _) (by simp)
 have HR:Hid (W1.heap[w.heap.size+1+1]?=some (.cells #[.int .i64 0,.int .u8 0,.int .u16 0,.int .i64 0,.int .i64 0] 122 (0,0))):=by rw[hW1];exact bK _ _ _ _ _
 unfold fev pv
 go_enter Tryz.func147,Tryz.ntmps147
 go_upto_region 1 with fail
 rw[←hW1]
 clear hW1
 obtain⟨n0,h0⟩:∃ n0,n0=w.heap.size:=⟨_,rfl⟩
 have HN:Hid (w.heap.size≤n0∧w.heap.size≤n0+1+1):=by show _∧_;omega
 simp only[←h0] at HF HP HR ⊢
 obtain⟨n1,h1⟩:∃ n1,n1=n0+1:=⟨_,rfl⟩
 simp only[←h1] at HP HR HN ⊢
 obtain⟨n2,h2⟩:∃ n2,n2=n1+1:=⟨_,rfl⟩
 have d1:n0≠n2:=by omega
 have d2:n1≠n0:=by omega
 simp only[←h2] at HR HN ⊢
 clear h0 h1 h2
 have f0:=(ae HF.out 0).trans (show _=some (.int .i64 f.ho) from rfl)
 have f1:=(ae HF.out 1).trans (show _=some (.int .u8 f.su) from rfl)
 have f2:=(ae HF.out 2).trans (show _=some (.int .u16 f.tr) from rfl)
 have f3:=(ae HF.out 3).trans (show _=some (.int .i64 f.po) from rfl)
 have f4:=(ae HF.out 4).trans (show _=some (.int .i64 f.he) from rfl)
 have ff:=fun i=>aA HF.out i
 have q1:=(ae HP.out 1).trans (show _=some (.int .u8 p.vb) from rfl)
 have q3:=(ae HP.out 3).trans (show _=some (.int .i64 p.ct) from rfl)
 have q4:=(ae HP.out 4).trans (show _=some (.int .u8 p.su) from rfl)
 have q5:=(ae HP.out 5).trans (show _=some (.int .u8 p.tr) from rfl)
 have r0:=(ae HR.out 0).trans (show _=some (.int .i64 0) from rfl)
 have r1:=(ae HR.out 1).trans (show _=some (.int .u8 0) from rfl)
 have r2:=(ae HR.out 2).trans (show _=some (.int .u16 0) from rfl)
 have r3:=(ae HR.out 3).trans (show _=some (.int .i64 0) from rfl)
 have r4:=(ae HR.out 4).trans (show _=some (.int .i64 0) from rfl)
 have rf:=fun i=>aA HR.out i
 have e1:(p.vb == 10)=false:=by simp;omega
 have e2:(p.vb == 11)=false:=by simp;omega
 have e3:(p.vb == 12)=false:=by simp;omega
 have e4:(p.vb == 13)=false:=by simp;omega
 have e5:(p.vb == 14)=false:=by simp;omega
 have e6:(p.vb == 15)=false:=by simp;omega
 clear hv q3 q4 q5
 go_wp2
 refine bodyPost_ret (v:=fev f) (by simp[results,Tryz.results147,go_sem,fev,r0,r1,r2,r3,r4]) rfl ⟨rfl,?_⟩
 exact(aj (aj (aj (aj (aj HG1.out HN.out.2 _ _) HN.out.2 _ _) HN.out.2 _ _) HN.out.2 _ _) HN.out.2 _ _)
theorem rU (f:Fe) (p:Pt) (ho:Int) (w:World):Calls Tryz.prog 147 #[fev f,pv p,.int .i64 ho] w fun e w'=>e=.returned (fev (gw f p ho))∧w.grownBy w' none:=by
 unfold gw
 by_cases h1:p.vb=10
 ·rw[if_pos h1];exact tW f p ho w h1
 rw[if_neg h1]
 by_cases h2:p.vb=11
 ·rw[if_pos h2];exact tM f p ho w h2
 rw[if_neg h2]
 by_cases h3:p.vb=12
 ·rw[if_pos h3];exact lL f p ho w h3
 rw[if_neg h3]
 by_cases h4:p.vb=13
 ·rw[if_pos h4];exact jF f p ho w h4
 rw[if_neg h4]
 by_cases h5:p.vb=14
 ·rw[if_pos h5];exact oX f p ho w h5
 rw[if_neg h5]
 by_cases h6:p.vb=15
 ·rw[if_pos h6];exact nE f p ho w h6
 rw[if_neg h6]
 exact pU f p ho w (by omega)
end Go.Proofs.YtjmepebbcnhalaaGreat
