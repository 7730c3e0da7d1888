import Derived.Shelf.SlGeneric
import Derived.Shelf.SlSortCmp.WholeK
import Derived.Shelf.SlSortCmp.Whole1
import Derived.Shelf.SlSortCmp.NoneTotal
import Derived.Shelf.SlicesQ.Index
import Derived.Shelf.SlicesQ.IndexFunc
import Derived.Shelf.SlicesE.Clone
import Derived.Shelf.SlicesG.Cmp
import Derived.Ground.SlsfProg
import Derived.Ground.SlgcProg
import Derived.Ground.SlgnProg
import Derived.Ground.SlgqProg
import Derived.Ground.SlgfProg
import Derived.Test.YtjmepebbcnhalaaGreatZLyK
import Derived.Lib.RowBridge
import Derived.Lib.SortBridge
namespace Go.Proofs
open Tryz
open Go.Shelf
def sortL_ren:Go.Shelf.Ren:=⟨fun | 6=>264 | 15=>133 | 14=>295 | 28=>207 | 29=>208 | 20=>306 | 21=>307 | 22=>308 | 23=>309 | 24=>310 | 25=>311 | 26=>312 | 27=>313 | 46=>315 | 47=>258 | 48=>259 | 49=>316 | 50=>317 | 57=>318 | n=>n,fun | 22=>143 | 24=>3 | 25=>153 | 3=>3 | 39=>214 | 0=>0 | 53=>279 | 55=>281 | 4=>4 | 46=>273 | 45=>272 | 50=>255 | 5=>5 | 9=>9 | 66=>321 | 70=>325 | 76=>341 | 77=>334 | n=>n,fun | n=>n⟩
theorem sortL:Go.Proofs.SlLaysF.n6 prog sortL_ren:={
 mixed:=by kernel_rfl
 f6:=⟨f264.name,by decide,func264.trans (congrArg some (by kernel_rfl))⟩
 f14:=⟨f295.name,by decide,func295.trans (congrArg some (by kernel_rfl))⟩
 f15:=func133.trans (congrArg some (by kernel_rfl))
 f20:=⟨f306.name,by decide,func306.trans (congrArg some (by kernel_rfl))⟩
 f21:=⟨f307.name,by decide,func307.trans (congrArg some (by kernel_rfl))⟩
 f22:=⟨f308.name,by decide,func308.trans (congrArg some (by kernel_rfl))⟩
 f23:=⟨f309.name,by decide,func309.trans (congrArg some (by kernel_rfl))⟩
 f24:=⟨f310.name,by decide,func310.trans (congrArg some (by kernel_rfl))⟩
 f25:=⟨f311.name,by decide,func311.trans (congrArg some (by kernel_rfl))⟩
 f26:=⟨f312.name,by decide,func312.trans (congrArg some (by kernel_rfl))⟩
 f27:=⟨f313.name,by decide,func313.trans (congrArg some (by kernel_rfl))⟩
 f28:=func207.trans (congrArg some (by kernel_rfl))
 f29:=func208.trans (congrArg some (by kernel_rfl))
 f46:=⟨f315.name,by decide,func315.trans (congrArg some (by kernel_rfl))⟩
 f47:=func258.trans (congrArg some (by kernel_rfl))
 f48:=func259.trans (congrArg some (by kernel_rfl))
 f49:=⟨Tryz.f316.name,by decide,func316.trans (congrArg some (by kernel_rfl))⟩
 f50:=⟨f317.name,by decide,func317.trans (congrArg some (by kernel_rfl))⟩
 f57:=⟨f318.name,by decide,func318.trans (congrArg some (by kernel_rfl))⟩
 t0:=underlying0
 a0:=isAgg0
 z0:=sizeOf0
 v0:=zeroValue0
 t3:=underlying3
 a3:=isAgg3
 z3:=sizeOf3
 v3:=zeroValue3
 t4:=underlying4
 a4:=isAgg4
 z4:=sizeOf4
 v4:=zeroValue4
 t5:=underlying5
 a5:=isAgg5
 z5:=sizeOf5
 v5:=zeroValue5
 t9:=underlying9
 a9:=isAgg9
 z9:=sizeOf9
 v9:=zeroValue9
 t22:=underlying143
 a22:=isAgg143
 z22:=sizeOf143
 v22:=zeroValue143
 a24:=isAgg3
 z24:=sizeOf3
 t25:=underlying153
 a25:=isAgg153
 z25:=sizeOf153
 v25:=zeroValue153
 t39:=underlying214
 a39:=isAgg214
 z39:=sizeOf214
 v39:=zeroValue214
 t45:=underlying272
 a45:=isAgg272
 z45:=sizeOf272
 v45:=zeroValue272
 t46:=underlying273
 a46:=isAgg273
 z46:=sizeOf273
 v46:=zeroValue273
 t50:=underlying255
 a50:=isAgg255
 z50:=sizeOf255
 v50:=zeroValue255
 t53:=underlying279
 a53:=isAgg279
 z53:=sizeOf279
 v53:=zeroValue279
 t55:=underlying281
 a55:=isAgg281
 z55:=sizeOf281
 v55:=zeroValue281
 t66:=underlying321
 a66:=isAgg321
 z66:=sizeOf321
 v66:=zeroValue321
 t70:=underlying325
 a70:=isAgg325
 z70:=sizeOf325
 v70:=zeroValue325
 t76:=underlying341
 a76:=isAgg341
 z76:=sizeOf341
 v76:=zeroValue341
 t77:=underlying334
 a77:=isAgg334
 z77:=sizeOf334
 v77:=zeroValue334 }
def sortR_ren:Go.Shelf.Ren:=⟨fun | 6=>193 | 15=>133 | 14=>253 | 28=>207 | 29=>208 | 20=>284 | 21=>285 | 22=>286 | 23=>287 | 24=>288 | 25=>289 | 26=>290 | 27=>291 | 46=>303 | 47=>258 | 48=>259 | 49=>304 | 50=>305 | 57=>314 | n=>n,fun | 22=>123 | 24=>230 | 25=>265 | 3=>3 | 39=>214 | 0=>0 | 53=>279 | 55=>281 | 4=>4 | 46=>273 | 45=>272 | 50=>255 | 5=>5 | 9=>9 | 66=>321 | 70=>325 | 76=>341 | 77=>334 | n=>n,fun | n=>n⟩
theorem Tryz.sortR:Go.Proofs.SlLaysF0.n6 prog sortR_ren:={
 mixed:=by kernel_rfl
 f6:=⟨f193.name,by decide,func193.trans (congrArg some (by kernel_rfl))⟩
 f14:=⟨f253.name,by decide,func253.trans (congrArg some (by kernel_rfl))⟩
 f15:=func133.trans (congrArg some (by kernel_rfl))
 f20:=⟨f284.name,by decide,func284.trans (congrArg some (by kernel_rfl))⟩
 f21:=⟨f285.name,by decide,func285.trans (congrArg some (by kernel_rfl))⟩
 f22:=⟨f286.name,by decide,func286.trans (congrArg some (by kernel_rfl))⟩
 f23:=⟨f287.name,by decide,func287.trans (congrArg some (by kernel_rfl))⟩
 f24:=⟨f288.name,by decide,func288.trans (congrArg some (by kernel_rfl))⟩
 f25:=⟨f289.name,by decide,func289.trans (congrArg some (by kernel_rfl))⟩
 f26:=⟨f290.name,by decide,func290.trans (congrArg some (by kernel_rfl))⟩
 f27:=⟨f291.name,by decide,func291.trans (congrArg some (by kernel_rfl))⟩
 f28:=func207.trans (congrArg some (by kernel_rfl))
 f29:=func208.trans (congrArg some (by kernel_rfl))
 f46:=⟨f303.name,by decide,func303.trans (congrArg some (by kernel_rfl))⟩
 f47:=func258.trans (congrArg some (by kernel_rfl))
 f48:=func259.trans (congrArg some (by kernel_rfl))
 f49:=⟨f304.name,by decide,func304.trans (congrArg some (by kernel_rfl))⟩
 f50:=⟨f305.name,by decide,func305.trans (congrArg some (by kernel_rfl))⟩
 f57:=⟨f314.name,by decide,func314.trans (congrArg some (by kernel_rfl))⟩
 t0:=underlying0
 a0:=isAgg0
 z0:=sizeOf0
 v0:=zeroValue0
 t3:=underlying3
 a3:=isAgg3
 z3:=sizeOf3
 v3:=zeroValue3
 t4:=underlying4
 a4:=isAgg4
 z4:=sizeOf4
 v4:=zeroValue4
 t5:=underlying5
 a5:=isAgg5
 z5:=sizeOf5
 v5:=zeroValue5
 t9:=underlying9
 a9:=isAgg9
 z9:=sizeOf9
 v9:=zeroValue9
 t22:=underlying123
 a22:=isAgg123
 z22:=sizeOf123
 v22:=zeroValue123
 t25:=underlying265
 a25:=isAgg265
 z25:=sizeOf265
 v25:=zeroValue265
 t39:=underlying214
 a39:=isAgg214
 z39:=sizeOf214
 v39:=zeroValue214
 t45:=underlying272
 a45:=isAgg272
 z45:=sizeOf272
 v45:=zeroValue272
 t46:=underlying273
 a46:=isAgg273
 z46:=sizeOf273
 v46:=zeroValue273
 t50:=underlying255
 a50:=isAgg255
 z50:=sizeOf255
 v50:=zeroValue255
 t53:=underlying279
 a53:=isAgg279
 z53:=sizeOf279
 v53:=zeroValue279
 t55:=underlying281
 a55:=isAgg281
 z55:=sizeOf281
 v55:=zeroValue281
 t66:=underlying321
 a66:=isAgg321
 z66:=sizeOf321
 v66:=zeroValue321
 t70:=underlying325
 a70:=isAgg325
 z70:=sizeOf325
 v70:=zeroValue325
 t76:=underlying341
 a76:=isAgg341
 z76:=sizeOf341
 v76:=zeroValue341
 t77:=underlying334
 a77:=isAgg334
 z77:=sizeOf334
 v77:=zeroValue334 }
def indexS_ren:Go.Shelf.Ren:=⟨fun | 6=>63 | n=>n,fun | 22=>30 | 24=>64 | 3=>3 | 0=>0 | 4=>4 | n=>n,fun | n=>n⟩
theorem indexS:Go.Proofs.SlLaysQ.n6 prog indexS_ren:={
 mixed:=by kernel_rfl
 f6:=⟨f63.name,by decide,func63.trans (congrArg some (by kernel_rfl))⟩
 t0:=underlying0
 a0:=isAgg0
 z0:=sizeOf0
 v0:=zeroValue0
 t3:=underlying3
 a3:=isAgg3
 z3:=sizeOf3
 v3:=zeroValue3
 t4:=underlying4
 a4:=isAgg4
 z4:=sizeOf4
 v4:=zeroValue4
 t22:=underlying30
 a22:=isAgg30
 z22:=sizeOf30
 v22:=zeroValue30 }
def idxR_ren:Go.Shelf.Ren:=⟨fun | 6=>254 | n=>n,fun | 22=>123 | 23=>230 | 25=>319 | 3=>3 | 0=>0 | 4=>4 | n=>n,fun | n=>n⟩
theorem idxR:Go.Proofs.SlLaysH0.n6 prog idxR_ren:={
 mixed:=by kernel_rfl
 f6:=⟨f254.name,by decide,func254.trans (congrArg some (by kernel_rfl))⟩
 t0:=underlying0
 a0:=isAgg0
 z0:=sizeOf0
 v0:=zeroValue0
 t3:=underlying3
 a3:=isAgg3
 z3:=sizeOf3
 v3:=zeroValue3
 t4:=underlying4
 a4:=isAgg4
 z4:=sizeOf4
 v4:=zeroValue4
 t22:=underlying123
 a22:=isAgg123
 z22:=sizeOf123
 v22:=zeroValue123
 t25:=underlying319
 a25:=isAgg319
 z25:=sizeOf319
 v25:=zeroValue319 }
def cntD_ren:Go.Shelf.Ren:=⟨fun | 8=>231 | 6=>267 | n=>n,fun | 22=>30 | 23=>64 | 25=>295 | 4=>4 | 3=>3 | 0=>0 | n=>n,fun | n=>n⟩
theorem cntD:Go.Proofs.SlLaysH0.n8 prog cntD_ren:={
 mixed:=by kernel_rfl
 f6:=⟨f267.name,by decide,func267.trans (congrArg some (by kernel_rfl))⟩
 f8:=⟨f231.name,by decide,func231.trans (congrArg some (by kernel_rfl))⟩
 t0:=underlying0
 a0:=isAgg0
 z0:=sizeOf0
 v0:=zeroValue0
 t3:=underlying3
 a3:=isAgg3
 z3:=sizeOf3
 v3:=zeroValue3
 t4:=underlying4
 a4:=isAgg4
 z4:=sizeOf4
 v4:=zeroValue4
 t22:=underlying30
 a22:=isAgg30
 z22:=sizeOf30
 v22:=zeroValue30
 t25:=underlying295
 a25:=isAgg295
 z25:=sizeOf295
 v25:=zeroValue295 }
def cmpL_ren:Go.Shelf.Ren:=⟨fun | 5=>135 | 7=>209 | n=>n,fun | 22=>3 | 3=>3 | 4=>4 | n=>n,fun | n=>n⟩
theorem cmpL:Go.Proofs.SlLaysC2.n5 prog cmpL_ren:={
 mixed:=by kernel_rfl
 f5:=⟨f135.name,by decide,func135.trans (congrArg some (by kernel_rfl))⟩
 f7:=⟨f209.name,by decide,func209.trans (congrArg some (by kernel_rfl))⟩
 t3:=underlying3
 a3:=isAgg3
 z3:=sizeOf3
 v3:=zeroValue3
 t4:=underlying4
 a4:=isAgg4
 z4:=sizeOf4
 v4:=zeroValue4
 t22:=underlying3
 a22:=isAgg3
 z22:=sizeOf3
 v22:=zeroValue3 }
end Go.Proofs
namespace Go.Proofs.YtjmepebbcnhalaaGreat
open Tryz
open Go.RowKit Go.Shelf
variable {w w':World} {base g cap size k o i:Nat} {xs:List Value} {P:Program} {v:Value} {X:List Rv}
theorem xz (w:World) (os:Array Obj):w.grownBy (Go.Sort.grow w os) none:=⟨rfl,rfl,rfl,by rw[Go.Sort.size_grow];omega,fun k hk _=>Go.Sort.heap_grow_old w os hk⟩
theorem pB {n q e:Nat} {vs:List Value} {os:Array Obj} (h:w.ownsRow base e size (.slice (some ⟨g,0,none⟩) n cap) n xs) (hv:vs.length=n*size):(Go.Sort.grow ((w.drewN q).setCells g 0 vs) os).ownsRow base e size (.slice (some ⟨g,0,none⟩) n cap) n vs∧w.grownBy (Go.Sort.grow ((w.drewN q).setCells g 0 vs) os) (some g):=by
 have h0:(w.drewN q).ownsRow base e size (.slice (some ⟨g,0,none⟩) n cap) n xs:=h;obtain⟨h1,h2⟩:=gD vs xs 0 _ h0;rw[sY (by rw[hv,h.1])] at h1;have k:=xz ((w.drewN q).setCells g 0 vs) os;refine⟨Qav h1 k (Or.inr (by simp[Value.ownBlock])),?_⟩;have h3:w.grownBy ((w.drewN q).setCells g 0 vs) (some g):=aa (aA w q _) h2;exact aa h3 ⟨k.os,k.tape,k.output,k.size,fun i hi _=>k.block i hi (by simp)⟩
theorem yE {α:Type} [Inhabited α] (R:aB α) (l:List α):(Go.Sort.flatK R.enc R.k l.toArray).toList=R.cs l:=by
 refine Qc2 fun t=>?_;by_cases ht:t<l.length*R.k
 ·have hq:t / R.k<l.length:=Nat.div_lt_of_lt_mul (by rw[Qdl];exact ht);have hr:t % R.k<R.k:=Nat.mod_lt _ R.hp;have e3:t=t / R.k*R.k+t % R.k:=by rw[Qdl];exact(Nat.div_add_mod _ _).symm
  have h1:(R.cs l)[t]?=(R.enc l[t / R.k])[t % R.k]?:=by
   have:=R.at' (Qg hq) (t % R.k) hr;rw[←e3] at this;exact this
  have hs:t<(Go.Sort.flatK R.enc R.k l.toArray).size:=by rw[Go.Sort.size_flatK];simpa using ht
  have h2:=Go.Sort.get_flatK R.enc R.k l.toArray t (by simpa using ht);rw[h1,Qbp,Qbz hs];rw[getElem!_pos (Go.Sort.flatK R.enc R.k l.toArray) t hs] at h2;rw[h2];have h3:l.toArray[t / R.k]! = l[t / R.k]:=by simp[hq]
  rw[h3];have h4:t % R.k<(R.enc l[t / R.k]).length:=by rw[R.hk];exact hr
  rw[Qg h4,getElem!_pos (R.enc l[t / R.k]) (t % R.k) h4]
 ·rw[Qan (by rw[Qbn,Go.Sort.size_flatK];simpa using ht),Qan (by rw[R.len];omega)]
theorem In {α:Type} [Inhabited α] {d d':Array α} (h:Go.Sort.PermIn 0 d.size d d'):d'.toList.Perm d.toList:=by
 obtain⟨h1,_,h2⟩:=h;have e1:(d'.extract 0 d.size).toList=d'.toList:=by rw[←h1];simp
 have e2:(d.extract 0 d.size).toList=d.toList:=by simp
 rw[e1,e2] at h2;exact h2
theorem EN {α:Type} [Inhabited α] {lt:α→α→Bool} {d:Array α} {n:Nat} (hn:d.size=n) (h:Go.Sort.SortedIn lt 0 n d):d.toList.Pairwise fun a b=>lt b a=false:=by
 rw[Qcg];intro i j hi hj hij;have hi':i<d.size:=by simpa using hi
 have hj':j<d.size:=by simpa using hj
 have:=h i j (Q0 _) hij (by omega);simp[hi',hj'] at this;simpa using this
theorem Ij {ρ:Ren} {α:Type} [Inhabited α] (L:SlLaysF0.n6 P ρ) (R:aB α) (T:TypeId) (aE:∀ w,(isAgg (ρ.t 24)).run P w=.ok true w) (zE:∀ w,(Go.sizeOf (ρ.t 24)).run P w=.ok R.k w) (cf:α→α→Int) (hO:Go.Sort.SWO (ltOf cf)) (g:Nat) (eg:∀ args w,(callFunc g args).run P w=.ok (.enter g args) w)
  (hc:∀ (x y:α) (W:World),Calls P g #[.agg (R.enc x).toArray,.agg (R.enc y).toArray] W fun e w'=>e=.returned (.int .i64 (cf x y))∧∃ q os',w'=Go.Sort.grow (W.drewN q) os')
  (base gb cap:Nat) (l:List α) (w:World) (O:R.Own T w base (.slice (some ⟨gb,0,none⟩) l.length cap) l) (hs:l.length<4611686018427387904) :
  Calls P (ρ.f 6) #[.slice (some ⟨gb,0,none⟩) l.length cap,.func (.func g) #[] #[]] w fun e w'=>e=.returned (.tuple #[])∧∃ l',l'.Perm l∧(l'.Pairwise fun a b=>ltOf cf b a=false)∧R.Own T w' base (.slice (some ⟨gb,0,none⟩) l.length cap) l'∧w.grownBy w' (some gb):=by
 have hb:gb<w.heap.size:=(O.lt gb rfl).2
 have hH:Go.Sort.HoldsK R.enc R.k w gb 0 l.toArray:=by
  intro j hj;rw[Qa8];have hj':j<l.length*R.k:=by rw[Go.Sort.size_flatK] at hj;simpa using hj
  refine⟨?_,Qbw O j⟩;rw[Qcd O j hj',←yE R l,Qbp,Qbz hj,getElem!_pos (Go.Sort.flatK R.enc R.k l.toArray) j hj];rfl
 have hS:=AnyQ.slices_SortFunc L R.k aE zE R.enc R.hk R.h1 cf hO g #[] gb 0 cap l.toArray w eg (fun _ _ _ _ x y=>hc x y _) hH hb (by simpa using hs);simp only[List.size_toArray] at hS;refine hS.mono ?_;rintro e w' ⟨rfl,d',n,os,hp,hso,rfl⟩;have hd:d'.size=l.length:=by have:=hp.1;simpa using this
 refine⟨rfl,d'.toList,by simpa using In (d:=l.toArray) (by simpa using hp),EN hd hso,?_⟩;have ef:(Go.Sort.flatK R.enc R.k d').toList=R.cs d'.toList:=by simpa using yE R d'.toList
 have ew:sortWorldK R.enc R.k w gb 0 n d' os=Go.Sort.grow ((w.drewN n).setCells gb 0 (R.cs d'.toList)) os:=by
  have:=Lib.sorted_world id w gb 0 n (Go.Sort.flatK R.enc R.k l.toArray) (Go.Sort.flatK R.enc R.k d').toList os hH (by rw[Qbn,Go.Sort.size_flatK,Go.Sort.size_flatK,hd];simp);rw[List.map_id,ef] at this;rw[←this];unfold sortWorldK Go.Sort.putRowK
  congr 2
  rw[←ef]
 rw[ew];obtain⟨o1,g1⟩:=pB (q:=n) (os:=os) (vs:=R.cs d'.toList) O (by rw[R.len,Qbn,hd]);refine⟨?_,g1⟩;unfold aB.Own;rw[show d'.toList.length=l.length from by rw[Qbn,hd]];exact o1
set_option maxRecDepth 100000
set_option maxHeartbeats 4000000
theorem oz (h:rvR.At w v X) {i:Nat} (hi:i<X.length):∃ g off cap,v=.slice (some ⟨g,off,none⟩) X.length cap∧w.rangeAt g (off+i*11) (rvc X[i]):=aB.At.there h hi
theorem dh {X:List Fe} (h:feR.At w v X) {i:Nat} (hi:i<X.length):∃ g off cap,v=.slice (some ⟨g,off,none⟩) X.length cap∧w.rangeAt g (off+i*5) (fec X[i]):=aB.At.there h hi
theorem bz {X:List Th} (h:thR.At w v X) {i:Nat} (hi:i<X.length):∃ g off cap,v=.slice (some ⟨g,off,none⟩) X.length cap∧w.rangeAt g (off+i*11) (thc X[i]):=aB.At.there h hi
theorem eG {X:List Sd} (h:sdR.At w v X) {i:Nat} (hi:i<X.length):∃ g off cap,v=.slice (some ⟨g,off,none⟩) X.length cap∧w.rangeAt g (off+i*10) (sdc X[i]):=aB.At.there h hi
def iM (R:List Rw) (fs:List Fe) (k:Nat):List Fe:=(List.range k).map fun i=>fs.getD ((R.getD i Rw.none).nu - 1).toNat Fe.none
theorem vI (R:List Rw) (fs:List Fe) (k:Nat):iM R fs (k+1)=iM R fs k++[fs.getD ((R.getD k Rw.none).nu - 1).toNat Fe.none]:=by
 unfold iM;rw[Qbu,Qbb];rfl
theorem lR (R:List Rw) (fs:List Fe) (k:Nat):(iM R fs k).length=k:=by simp[iM]
theorem zi (R:List Rw) (fs:List Fe):iM R fs R.length=ay R fs:=by
 unfold iM ay;refine Qc2 fun i=>?_;rw[Qak,Qak];by_cases h:i<R.length
 ·rw[Qd5 h,Qg h];simp[List.getD,h]
 ·rw[Qan (by simpa using h),Qan (by omega)];rfl
def fu (w:World) (base g n:Nat) (L:List Fe):Prop:=∃ rest:List Value,rest.length=(n - L.length)*5∧w.ownsRow base 122 5 (.slice (some ⟨g,0,none⟩) n n) n (feR.cs L++rest)
theorem uo (L:List Fe):(feR.cs L).length=L.length*5:=feR.len L
theorem fu.grow {n:Nat} {L:List Fe} (h:fu w base g n L) (k:w.grownBy w' none):fu w' base g n L:=by
 obtain⟨r,e,o⟩:=h;exact⟨r,e,aC o k⟩
theorem fu.there {n:Nat} {L:List Fe} (h:fu w base g n L) (hk:L.length=k) (hn:k<n):w.there g (k*5) 5:=by
 obtain⟨r,e,o⟩:=h;intro i hi;refine⟨?_,Qbw o _⟩;rw[Qcd o (k*5+i) (by omega),Qg (by rw[Qa,uo,e];omega)];rfl
theorem wT (h:w.there g o 5):∃ u0 u1 u2 u3 u4,w.cell? ⟨g,o,none⟩=some u0∧w.cell? ⟨g,o+1,none⟩=some u1∧w.cell? ⟨g,o+2,none⟩=some u2∧w.cell? ⟨g,o+3,none⟩=some u3∧w.cell? ⟨g,o+4,none⟩=some u4∧w.frozen? ⟨g,o,none⟩=false∧w.frozen? ⟨g,o+1,none⟩=false∧w.frozen? ⟨g,o+2,none⟩=false∧w.frozen? ⟨g,o+3,none⟩=false∧w.frozen? ⟨g,o+4,none⟩=false:=by
 have h0:=h 0 (by decide);have h1:=h 1 (by decide);have h2:=h 2 (by decide);have h3:=h 3 (by decide);have h4:=h 4 (by decide);obtain⟨u0,e0⟩:=Option.isSome_iff_exists.1 h0.1;obtain⟨u1,e1⟩:=Option.isSome_iff_exists.1 h1.1;obtain⟨u2,e2⟩:=Option.isSome_iff_exists.1 h2.1;obtain⟨u3,e3⟩:=Option.isSome_iff_exists.1 h3.1;obtain⟨u4,e4⟩:=Option.isSome_iff_exists.1 h4.1;exact⟨u0,u1,u2,u3,u4,e0,e1,e2,e3,e4,h0.2,h1.2,h2.2,h3.2,h4.2⟩
theorem fu.more {n:Nat} {L:List Fe} (h:fu w base g n L) (hk:L.length=k) (hn:k<n) (f:Fe):fu (w.setCells g (k*5) (fec f)) base g n (L++[f])∧w.grownBy (w.setCells g (k*5) (fec f)) (some g):=by
 obtain⟨r,e,o⟩:=h;obtain⟨h1,h2⟩:=gD (fec f) _ (k*5) w o;refine⟨⟨r.drop 5,?_,?_⟩,h2⟩
 ·rw[Qbx,e,Qa,Qax];omega
 ·have hl:(feR.cs L).length=k*5:=by rw[uo,hk]
  rw[iZ _ _ _ (by rw[Qa,hl,e];show k*5+5≤_;omega)] at h1;rw[List.take_append_of_le_length (by omega),Qba (by omega),show k*5+(fec f).length=(feR.cs L).length+5 from by rw[hl];rfl,List.drop_append,Qbl (by omega)] at h1;simp only[List.nil_append,Nat.add_sub_cancel_left] at h1;rw[feR.app,feR.one,Qb8];exact h1
theorem fu.done {n:Nat} {L:List Fe} (h:fu w base g n L) (hn:L.length=n):cJ w base (.slice (some ⟨g,0,none⟩) n n) L:=by
 obtain⟨r,e,o⟩:=h;rw[hn,Nat.sub_self,Qd7] at e;obtain rfl:r=[]:=List.length_eq_zero_iff.1 e;rw[Qb4] at o;unfold cJ aB.Own;rw[hn];exact o
theorem fu.lt {n:Nat} {L:List Fe} (h:fu w base g n L):base≤g∧g<w.heap.size:=by
 obtain⟨r,e,o⟩:=h;exact Qa5 o g rfl
theorem AI (vr v:Value) (X:List Rv) (fs:List Fe) (w:World) (A:rvR.At w vr X) (B:feR.At w v fs) (hn:∀ i,i<X.length→1≤((rws X).getD i Rw.none).nu∧((rws X).getD i Rw.none).nu≤(fs.length:Int)) (hl:fs.length≤4096) (h16:X.length≤16):Calls prog 195 #[vr,v] w fun e' w'=>∃ v',e'=.returned v'∧cJ w' w.heap.size v' (ay (rws X) fs)∧w.grownBy w' none:=by
 obtain⟨i0,hi,hz0,hz1,hz2⟩:=info_parts linfoF;obtain⟨pr,cr,rfl⟩:=A.form;obtain⟨pl,cl,rfl⟩:=B.form;have HA:QH (rvR.At w (.slice pr X.length cr) X):=A;have HBf:QH (feR.At w (.slice pl fs.length cl) fs):=B;have HNu:QH (∀ i,i<X.length→1≤((rws X).getD i Rw.none).nu∧((rws X).getD i Rw.none).nu≤(fs.length:Int)):=hn;have Hl:QH (fs.length≤4096):=hl;have H16:QH (X.length≤16):=h16;have Hbb:QH (i0.bytes*X.length≤281474976710656):=by show i0.bytes*X.length≤_;rw[hz2];omega
 have Hbm:QH (X.length≤maxLen):=by show X.length≤maxLen;unfold maxLen;omega
 clear A B hn hl h16;go_enter func195,ntmps195;go_wp2_with (at_make;refine wpList_make_full _ rfl _ _ 27 rfl w.heap.size 122 i0 _ 5 underlying27 hi hz0 hz1 .i64 .i64 _ _ X.length rfl rfl rfl rfl Hbb.o Hbm.o (Qj _) ?_;intro V o1 gv;have HF0:QH (fu V w.heap.size w.heap.size X.length []):=⟨_,by have:=o1.1;simpa using this,o1⟩;have HGV:QH (w.grownBy V none):=gv;clear o1 gv)
 obtain⟨g0,h0⟩:=Qe (w.heap.size);have Hg0:QH (g0=w.heap.size):=h0;rw[show fu V w.heap.size w.heap.size X.length []=fu V w.heap.size g0 X.length [] from by rw[h0]] at HF0;simp only[←h0] at ⊢;clear h0;go_loopw [6,7,13] (fun _ _ i wr=>∃ k:Nat,k≤X.length∧i=.int .i64 (k:Int)∧fu wr g0 g0 X.length (iM (rws X) fs k)∧w.grownBy wr none) (fun _ _ i _=>X.length - (intOf i).toNat)
 case atStart=>exact⟨0,Q0 _,rfl,by rw[←Hg0.o] at HF0;exact HF0.o,HGV.o⟩
 case round =>
  obtain⟨k,hk,rfl,O,G⟩:=hrel;obtain⟨U,hU⟩:=Qe (wr);subst hU;have HO:QH (fu U g0 g0 X.length (iM (rws X) fs k)):=O;have HG:QH (w.grownBy U none):=G;by_cases hlt:k<X.length
  ·have hnu:=HNu.o k hlt;obtain⟨g,off,cap,e1,R⟩:=oz (HA.o.keep G) hlt;cases e1;obtain⟨x,hx⟩:=Qe (X[k]);rw[←hx] at R;have en:((rws X).getD k Rw.none).nu=x.r.nu:=(by rw[jD hlt,←hx]);rw[en] at hnu;obtain⟨j,hj⟩:∃ j:Nat,x.r.nu=(j:Int)+1:=⟨(x.r.nu - 1).toNat,by omega⟩
   have hjl:j<fs.length:=(by omega);obtain⟨gf,fof,fcap,e2,RF⟩:=dh (HBf.o.keep G) hjl;cases e2;obtain⟨f,hf⟩:=Qe (fs[j]);rw[←hf] at RF;have HY:QH (iM (rws X) fs (k+1)=iM (rws X) fs k++[f]):=(by show _=_;rw[vI,en,hj,show ((j:Int)+1 - 1).toNat=j by omega,aG hjl,←hf]);obtain⟨c0,c1,c2',c3,c4,c5,c6,c7,c8,c9,c10⟩:=iC R;have c10':U.cell? ⟨g,off+k*11+10,none⟩=some (.slice x.pa x.r.ps.length x.ca):=c10;obtain⟨Y,hY⟩:=Qe (U.alloc (.cells #[.int .i64 x.r.nu,.int .i64 x.r.st,.string x.r.h.nm,.int .u8 x.r.h.su,.int .u8 x.r.h.kd,.int .i64 x.r.h.co,.int .i64 x.r.h.po,.int .i64 x.r.h.he,.int .u16 x.r.h.tr,.bool x.r.h.tk,.slice x.pa x.r.ps.length x.ca] 230));have HGY:QH (U.grownBy Y none):=(by rw[hY];exact QG);have z0:Y.cell? ⟨U.heap.size,0,none⟩=some (.int .i64 ((j:Int)+1)):=(by rw[hY,←hj];exact(ae (aj _ _ _) 0).trans rfl);obtain⟨f0,f1,f2,f3,f4⟩:=bP (bQ RF HGY.o);have HOY:QH (fu Y g0 g0 X.length (iM (rws X) fs k)):=O.grow HGY.o;have hw1:=lY (j:=j) (Ql (Qaf hjl) Hl.o);have hw2:=pd (j:=j) (Ql (Qaf hjl) Hl.o);have hjl':(j:Int)<fs.length:=Int.ofNat_lt.2 hjl;have hlt':(k:Int)<X.length:=Int.ofNat_lt.2 hlt;have hwk:=aR (k:=k) (Ql (Qaf hlt) (Ql H16.o (by decide)));have Hlt:QH (k<X.length):=hlt;have HM:QH (X.length - (intOf (.int .i64 ((k:Int)+1))).toNat<X.length - (intOf (.int .i64 (k:Int))).toNat):=cj hlt;clear O G R RF hx en hj hf c10 hnu hlt hk hjl;go_upto_region 5 with fail;rw[←hY];clear hY c0 c1 c2' c3 c4 c5 c6 c7 c8 c9 c10';obtain⟨nb,hnb⟩:=Qe (U.heap.size);rw[←hnb] at z0 ⊢;clear hnb;obtain⟨u0,u1,u2,u3,u4,y0,y1,y2,y3,y4,q0,q1,q2,q3,q4⟩:=wT (HOY.o.there (lR (rws X) fs k) Hlt.o);obtain⟨Z,hZ⟩:=Qe (((((Y.setCell ⟨g0,k*5,none⟩ (.int .i64 f.ho)).setCell ⟨g0,k*5+1,none⟩ (.int .u8 f.su)).setCell ⟨g0,k*5+2,none⟩ (.int .u16 f.tr)).setCell ⟨g0,k*5+3,none⟩ (.int .i64 f.po)).setCell ⟨g0,k*5+4,none⟩ (.int .i64 f.he));have q:=HOY.o.more (lR (rws X) fs k) Hlt.o f;rw[show Y.setCells g0 (k*5) (fec f)=Z from by rw[hZ];rfl] at q;have HQ:QH (fu Z g0 g0 X.length (iM (rws X) fs (k+1))∧w.grownBy Z none):=⟨by rw[HY.o];exact q.1,ak (aa HG.o HGY.o) q.2 (fun y e=>by cases e;rw[Hg0.o];exact Qj _)⟩
   clear q;go_upto_region 6 with fail;rw[←hZ];clear hZ y0 y1 y2 y3 y4 q0 q1 q2 q3 q4 f0 f1 f2 f3 f4 z0;go_wp2_with fail;go_roundw
   case rel=>exact⟨k+1,Hlt.o,by first | rfl | (rw[hwk];rfl) | go_num,HQ.o⟩
   case measure=>first | exact HM.o | (rw[hwk];exact HM.o)
  ·obtain rfl:k=X.length:=Qag hk (Qac hlt);have HF:QH (cJ U w.heap.size (.slice (some ⟨g0,0,none⟩) X.length X.length) (ay (rws X) fs)∧w.grownBy U none):=⟨by rw[←zi,fP,←Hg0.o];exact O.done (lR _ _ _),G⟩
   clear O G hk hlt;go_wp2_with fail;go_ret;exact⟨_,rfl,HF.o⟩
theorem kC (a b:Int) (l:List Int):dif (a :: b :: l)=(decide (a≠b) && dif (b :: l)):=rfl
theorem tX:∀ (l:List Int),(∀ j,j+1<l.length→l.getD (j+1) 0≠l.getD j 0)→dif l=true
 | [],_=>rfl
 | [a],_=>rfl
 | a :: b :: l,h=>by
  rw[kC,tX (b :: l) (fun j hj=>by have:=h (j+1) (by simpa using hj);simpa using this)];have:=h 0 (by simp);simp at this;simp;exact fun e=>this e.symm
theorem qI:∀ (l:List Int) (j:Nat),j+1<l.length→l.getD (j+1) 0=l.getD j 0→dif l=false
 | [],j,h,_=>by simp at h
 | [a],j,h,_=>by simp at h
 | a :: b :: l,0,h,e=>by
  rw[kC];simp at e;simp[e]
 | a :: b :: l,j+1,h,e=>by
  rw[kC,qI (b :: l) j (by simpa using h) (by simpa using e),Qcu]
theorem G8 (h:i<X.length):(bG (rws X)).getD i 0=X[i].r.st:=by
 unfold bG rws;rw[aG (by simpa using h)];simp
theorem Cv (X:List Rv):(bG (rws X)).length=X.length:=by unfold bG rws;simp
theorem sP (vr:Value) (X:List Rv) (w:World) (A:rvR.At w vr X) (h16:X.length≤16):Calls prog 196 #[vr] w fun e' w'=>e'=.returned (.bool (dif (bG (rws X))))∧w.grownBy w' none:=by
 obtain⟨pr,cr,rfl⟩:=A.form;have HA:QH (rvR.At w (.slice pr X.length cr) X):=A;have H16:QH (X.length≤16):=h16;clear A h16;go_enter func196,ntmps196;go_wp2_with fail;go_loopw [3] (fun i wr=>∃ k:Nat,(k=0∨k<X.length)∧i=.int .i64 ((k:Int)+1)∧(∀ j,j<k→j+1<X.length→(bG (rws X)).getD (j+1) 0≠(bG (rws X)).getD j 0)∧w.grownBy wr none) (fun i _=>X.length - (intOf i - 1).toNat)
 case atStart=>exact⟨0,Or.inl rfl,rfl,fun j hj=>absurd hj (Qbh _),aw _ _⟩
 case round =>
  obtain⟨k,hk,rfl,hd,G⟩:=hrel;obtain⟨U,hU⟩:=Qe (wr);subst hU;have Hd:QH (∀ j,j<k→j+1<X.length→(bG (rws X)).getD (j+1) 0≠(bG (rws X)).getD j 0):=hd;have HG:QH (w.grownBy U none):=G;by_cases hlt:k+1<X.length
  ·obtain⟨g,off,cap,e1,R⟩:=oz (HA.o.keep G) (i:=k) (by omega);cases e1;obtain⟨g',off',cap',e1,R'⟩:=oz (HA.o.keep G) hlt;cases e1;have HX0:QH ((bG (rws X)).getD k 0=X[k].r.st):=G8 (by omega);have HX1:QH ((bG (rws X)).getD (k+1) 0=X[k+1].r.st):=G8 hlt;obtain⟨a,ha⟩:=Qe (X[k].r.st);obtain⟨b,hb⟩:=Qe (X[k+1].r.st);have c1:=(iC R).2.1;have d1:=(iC R').2.1;rw[←ha] at c1 HX0;rw[←hb] at d1 HX1;have hlt':(k:Int)+1<X.length:=(by omega);have hk1:(k:Int)<X.length:=(by omega);have hw0:=pd (j:=k) (by have:=H16.o;omega);have hw0':=lY (j:=k) (by have:=H16.o;omega);have hw1:wrap64 ((k:Int)+1+1)=(k:Int)+1+1:=(by unfold wrap64;have:=H16.o;omega);have Hlt:QH (k+1<X.length):=hlt;have HM:QH (X.length - (intOf (.int .i64 ((k:Int)+1+1)) - 1).toNat<X.length - (intOf (.int .i64 ((k:Int)+1)) - 1).toNat):=(by show X.length - ((k:Int)+1+1 - 1).toNat<X.length - ((k:Int)+1 - 1).toNat;omega);clear hd G R R' ha hb hlt hk;by_cases hab:b=a
   ·have e1:(b == a)=true:=(by simpa using hab);have HX:QH (dif (bG (rws X))=false):=qI _ k (by rw[Cv];exact Hlt.o) (by rw[HX0.o,HX1.o];exact hab);clear hab;go_wp2_with fail;go_quiet (fail);go_wp2;go_ret;exact⟨aI HX.o.symm,aa HG.o (aA _ _ _)⟩
   ·have e1:(b == a)=false:=by simpa using hab
    have HX:QH (∀ j,j<k+1→j+1<X.length→(bG (rws X)).getD (j+1) 0≠(bG (rws X)).getD j 0):=fun j hj hj2=>by
     by_cases q:j=k
     ·subst q;rw[HX0.o,HX1.o];exact hab
     ·exact Hd.o j (by omega) hj2
    clear hab;go_wp2_with fail;go_quiet (fail);go_wp2;go_roundw
    case rel=>exact⟨k+1,Or.inr Hlt.o,by first | rfl | (rw[hw1];rfl) | go_num,HX.o,aa HG.o (aA _ _ _)⟩
    case measure=>first | exact HM.o | (rw[hw1];exact HM.o)
  ·have hlt':decide ((k:Int)+1<(X.length:Int))=false:=Qx (by omega);have HX:QH (dif (bG (rws X))=true):=tX _ (fun j hj=>by rw[Cv] at hj;exact Hd.o j (by omega) hj);clear hd G hlt hk;go_wp2_with fail;go_ret;exact⟨aI HX.o.symm,HG.o⟩
def Ag (x y:Rv):Int:=Lib.compareInt x.r.st y.r.st
theorem ltR (x y:Rv):ltOf Ag x y=decide (x.r.st<y.r.st):=by
 unfold ltOf Ag Lib.compareInt;by_cases h1:x.r.st<y.r.st
 ·simp[h1]
 ·by_cases h2:y.r.st<x.r.st <;> simp[h1,h2]
theorem swoR:Go.Sort.SWO (ltOf Ag) where
 irrefl x:=by rw[ltR];simp
 trans x y z h1 h2:=by rw[ltR] at *;simp at *;omega
 ntrans x y z h1 h2:=by rw[ltR] at *;simp at *;omega
theorem DC (x y:Rv) (W:World):Calls prog 194 #[.agg (rvc x).toArray,.agg (rvc y).toArray] W fun e w'=>e=.returned (.int .i64 (Ag x y))∧∃ q os',w'=Go.Sort.grow (W.drewN q) os':=by
 have hcon:=fun W'=>AnyG.cmp_Compare_int cmpL x.r.st y.r.st W';change ∀ W',Calls prog 135 _ _ _ at hcon;unfold Ag;generalize Lib.compareInt x.r.st y.r.st=r at hcon ⊢;unfold rvc Rv.u;go_enter func194,ntmps194;go_wp2_with (go_at_call 135;refine(hcon _).mono ?_;rintro e w' ⟨rfl,rfl⟩)
 go_ret;exact⟨rfl,0,_,by rw[Go.Sort.alloc_eq_grow,Go.Sort.alloc_eq_grow,Go.Sort.grow_grow];rfl⟩
def BO (w:World) (base:Nat) (v:Value) (X:List Rv):Prop:=rvR.Own 230 w base v X
theorem sF (v:Value) (X:List Rv) (base:Nat) (w:World) (O:BO w base v X) (h16:X.length≤16):Calls prog 193 #[v,.func (.func 194) #[] #[]] w fun e w'=>e=.returned (.tuple #[])∧∃ X',X'.Perm X∧(X'.Pairwise fun a b=>a.r.st≤b.r.st)∧BO w' base v X'∧w.grownBy w' v.ownBlock:=by
 haveI:Inhabited Rv:=⟨⟨Rw.none,none,0⟩⟩
 by_cases h0:X.length=0
 ·have e1:X=[]:=List.length_eq_zero_iff.1 h0;subst e1;obtain⟨p,cap,rfl⟩:=O.form;have hS:=AnyF.slices_SortFunc_none (P:=prog) (ρ:=sortR_ren) { Tryz.sortR with } p cap (.func (.func 194) #[] #[]) w;change Calls prog 193 _ _ _ at hS;refine hS.mono ?_;rintro e w' ⟨rfl,rfl⟩;exact⟨rfl,[],Qda _,List.Pairwise.nil,O,aw _ _⟩
 ·obtain⟨g,cap,e1,_,_,_,_,_⟩:=eB O (Qc5 h0);subst e1;have eg:∀ args w,(callFunc 194 args).run prog w=.ok (.enter 194 args) w:=enters_of func194 (by kernel_rfl) rfl;have hS:=Ij Tryz.sortR rvR 230 isAgg230 sizeOf230 Ag swoR 194 eg (fun x y W=>DC x y W) base g cap X w O (by omega);change Calls prog 193 _ _ _ at hS;refine hS.mono ?_;rintro e w' ⟨rfl,X',hp,hs,o,q⟩;exact⟨rfl,X',hp,hs.imp (fun h=>by rw[ltR] at h;simpa using h),o,q⟩
