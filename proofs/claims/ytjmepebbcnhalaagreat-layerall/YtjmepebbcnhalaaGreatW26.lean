import Derived.Shelf.SlGeneric
import Derived.Shelf.SlSortCmp.WholeK
import Derived.Shelf.SlSortCmp.Whole1
import Derived.Shelf.SlSortCmp.NoneTotal
import Derived.Shelf.SlicesQ.Index
import Derived.Shelf.SlicesQ.IndexFunc
import Derived.Shelf.SlicesE.Clone
import Derived.Shelf.SlicesG.Cmp
import Derived.Ground.SlsfProg
import Derived.Ground.SlgcProg
import Derived.Ground.SlgnProg
import Derived.Ground.SlgqProg
import Derived.Ground.SlgfProg
import Derived.Test.YtjmepebbcnhalaaGreatProg
import Derived.Test.YtjmepebbcnhalaaGreatWLyK
import Derived.Lib.RowBridge
import Derived.Lib.SortBridge
namespace Go.Proofs
open Go.Shelf
def Tryz.sortR_ren:Go.Shelf.Ren:=⟨fun | 6=>193 | 15=>133 | 14=>253 | 28=>207 | 29=>208 | 20=>284 | 21=>285 | 22=>286 | 23=>287 | 24=>288 | 25=>289 | 26=>290 | 27=>291 | 46=>303 | 47=>258 | 48=>259 | 49=>304 | 50=>305 | 57=>314 | n=>n,fun | 22=>123 | 24=>230 | 25=>265 | 3=>3 | 39=>214 | 0=>0 | 53=>279 | 55=>281 | 4=>4 | 46=>273 | 45=>272 | 50=>255 | 5=>5 | 9=>9 | 66=>321 | 70=>325 | 76=>341 | 77=>334 | n=>n,fun | n=>n⟩
theorem Tryz.sortR:Go.Proofs.SlLaysF0.n6 Tryz.prog Tryz.sortR_ren:={
 mixed:=by kernel_rfl
 f6:=⟨Tryz.f193.name,by decide,Tryz.func193.trans (congrArg some (by kernel_rfl))⟩
 f14:=⟨Tryz.f253.name,by decide,Tryz.func253.trans (congrArg some (by kernel_rfl))⟩
 f15:=Tryz.func133.trans (congrArg some (by kernel_rfl))
 f20:=⟨Tryz.f284.name,by decide,Tryz.func284.trans (congrArg some (by kernel_rfl))⟩
 f21:=⟨Tryz.f285.name,by decide,Tryz.func285.trans (congrArg some (by kernel_rfl))⟩
 f22:=⟨Tryz.f286.name,by decide,Tryz.func286.trans (congrArg some (by kernel_rfl))⟩
 f23:=⟨Tryz.f287.name,by decide,Tryz.func287.trans (congrArg some (by kernel_rfl))⟩
 f24:=⟨Tryz.f288.name,by decide,Tryz.func288.trans (congrArg some (by kernel_rfl))⟩
 f25:=⟨Tryz.f289.name,by decide,Tryz.func289.trans (congrArg some (by kernel_rfl))⟩
 f26:=⟨Tryz.f290.name,by decide,Tryz.func290.trans (congrArg some (by kernel_rfl))⟩
 f27:=⟨Tryz.f291.name,by decide,Tryz.func291.trans (congrArg some (by kernel_rfl))⟩
 f28:=Tryz.func207.trans (congrArg some (by kernel_rfl))
 f29:=Tryz.func208.trans (congrArg some (by kernel_rfl))
 f46:=⟨Tryz.f303.name,by decide,Tryz.func303.trans (congrArg some (by kernel_rfl))⟩
 f47:=Tryz.func258.trans (congrArg some (by kernel_rfl))
 f48:=Tryz.func259.trans (congrArg some (by kernel_rfl))
 f49:=⟨Tryz.f304.name,by decide,Tryz.func304.trans (congrArg some (by kernel_rfl))⟩
 f50:=⟨Tryz.f305.name,by decide,Tryz.func305.trans (congrArg some (by kernel_rfl))⟩
 f57:=⟨Tryz.f314.name,by decide,Tryz.func314.trans (congrArg some (by kernel_rfl))⟩
 t0:=Tryz.underlying0
 a0:=Tryz.isAgg0
 z0:=Tryz.sizeOf0
 v0:=Tryz.zeroValue0
 t3:=Tryz.underlying3
 a3:=Tryz.isAgg3
 z3:=Tryz.sizeOf3
 v3:=Tryz.zeroValue3
 t4:=Tryz.underlying4
 a4:=Tryz.isAgg4
 z4:=Tryz.sizeOf4
 v4:=Tryz.zeroValue4
 t5:=Tryz.underlying5
 a5:=Tryz.isAgg5
 z5:=Tryz.sizeOf5
 v5:=Tryz.zeroValue5
 t9:=Tryz.underlying9
 a9:=Tryz.isAgg9
 z9:=Tryz.sizeOf9
 v9:=Tryz.zeroValue9
 t22:=Tryz.underlying123
 a22:=Tryz.isAgg123
 z22:=Tryz.sizeOf123
 v22:=Tryz.zeroValue123
 t25:=Tryz.underlying265
 a25:=Tryz.isAgg265
 z25:=Tryz.sizeOf265
 v25:=Tryz.zeroValue265
 t39:=Tryz.underlying214
 a39:=Tryz.isAgg214
 z39:=Tryz.sizeOf214
 v39:=Tryz.zeroValue214
 t45:=Tryz.underlying272
 a45:=Tryz.isAgg272
 z45:=Tryz.sizeOf272
 v45:=Tryz.zeroValue272
 t46:=Tryz.underlying273
 a46:=Tryz.isAgg273
 z46:=Tryz.sizeOf273
 v46:=Tryz.zeroValue273
 t50:=Tryz.underlying255
 a50:=Tryz.isAgg255
 z50:=Tryz.sizeOf255
 v50:=Tryz.zeroValue255
 t53:=Tryz.underlying279
 a53:=Tryz.isAgg279
 z53:=Tryz.sizeOf279
 v53:=Tryz.zeroValue279
 t55:=Tryz.underlying281
 a55:=Tryz.isAgg281
 z55:=Tryz.sizeOf281
 v55:=Tryz.zeroValue281
 t66:=Tryz.underlying321
 a66:=Tryz.isAgg321
 z66:=Tryz.sizeOf321
 v66:=Tryz.zeroValue321
 t70:=Tryz.underlying325
 a70:=Tryz.isAgg325
 z70:=Tryz.sizeOf325
 v70:=Tryz.zeroValue325
 t76:=Tryz.underlying341
 a76:=Tryz.isAgg341
 z76:=Tryz.sizeOf341
 v76:=Tryz.zeroValue341
 t77:=Tryz.underlying334
 a77:=Tryz.isAgg334
 z77:=Tryz.sizeOf334
 v77:=Tryz.zeroValue334 }
def Tryz.sortS_ren:Go.Shelf.Ren:=⟨fun | 6=>60 | 15=>133 | 14=>132 | 28=>207 | 29=>208 | 20=>199 | 21=>200 | 22=>201 | 23=>202 | 24=>203 | 25=>204 | 26=>205 | 27=>206 | 46=>257 | 47=>258 | 48=>259 | 49=>260 | 50=>261 | 57=>293 | n=>n,fun | 22=>126 | 24=>131 | 25=>132 | 3=>3 | 39=>214 | 0=>0 | 53=>279 | 55=>281 | 4=>4 | 46=>273 | 45=>272 | 50=>255 | 5=>5 | 9=>9 | 66=>321 | 70=>325 | 76=>341 | 77=>334 | n=>n,fun | n=>n⟩
theorem Tryz.sortS:Go.Proofs.SlLaysF0.n6 Tryz.prog Tryz.sortS_ren:={
 mixed:=by kernel_rfl
 f6:=⟨Tryz.f60.name,by decide,Tryz.func60.trans (congrArg some (by kernel_rfl))⟩
 f14:=⟨Tryz.f132.name,by decide,Tryz.func132.trans (congrArg some (by kernel_rfl))⟩
 f15:=Tryz.func133.trans (congrArg some (by kernel_rfl))
 f20:=⟨Tryz.f199.name,by decide,Tryz.func199.trans (congrArg some (by kernel_rfl))⟩
 f21:=⟨Tryz.f200.name,by decide,Tryz.func200.trans (congrArg some (by kernel_rfl))⟩
 f22:=⟨Tryz.f201.name,by decide,Tryz.func201.trans (congrArg some (by kernel_rfl))⟩
 f23:=⟨Tryz.f202.name,by decide,Tryz.func202.trans (congrArg some (by kernel_rfl))⟩
 f24:=⟨Tryz.f203.name,by decide,Tryz.func203.trans (congrArg some (by kernel_rfl))⟩
 f25:=⟨Tryz.f204.name,by decide,Tryz.func204.trans (congrArg some (by kernel_rfl))⟩
 f26:=⟨Tryz.f205.name,by decide,Tryz.func205.trans (congrArg some (by kernel_rfl))⟩
 f27:=⟨Tryz.f206.name,by decide,Tryz.func206.trans (congrArg some (by kernel_rfl))⟩
 f28:=Tryz.func207.trans (congrArg some (by kernel_rfl))
 f29:=Tryz.func208.trans (congrArg some (by kernel_rfl))
 f46:=⟨Tryz.f257.name,by decide,Tryz.func257.trans (congrArg some (by kernel_rfl))⟩
 f47:=Tryz.func258.trans (congrArg some (by kernel_rfl))
 f48:=Tryz.func259.trans (congrArg some (by kernel_rfl))
 f49:=⟨Tryz.f260.name,by decide,Tryz.func260.trans (congrArg some (by kernel_rfl))⟩
 f50:=⟨Tryz.f261.name,by decide,Tryz.func261.trans (congrArg some (by kernel_rfl))⟩
 f57:=⟨Tryz.f293.name,by decide,Tryz.func293.trans (congrArg some (by kernel_rfl))⟩
 t0:=Tryz.underlying0
 a0:=Tryz.isAgg0
 z0:=Tryz.sizeOf0
 v0:=Tryz.zeroValue0
 t3:=Tryz.underlying3
 a3:=Tryz.isAgg3
 z3:=Tryz.sizeOf3
 v3:=Tryz.zeroValue3
 t4:=Tryz.underlying4
 a4:=Tryz.isAgg4
 z4:=Tryz.sizeOf4
 v4:=Tryz.zeroValue4
 t5:=Tryz.underlying5
 a5:=Tryz.isAgg5
 z5:=Tryz.sizeOf5
 v5:=Tryz.zeroValue5
 t9:=Tryz.underlying9
 a9:=Tryz.isAgg9
 z9:=Tryz.sizeOf9
 v9:=Tryz.zeroValue9
 t22:=Tryz.underlying126
 a22:=Tryz.isAgg126
 z22:=Tryz.sizeOf126
 v22:=Tryz.zeroValue126
 t25:=Tryz.underlying132
 a25:=Tryz.isAgg132
 z25:=Tryz.sizeOf132
 v25:=Tryz.zeroValue132
 t39:=Tryz.underlying214
 a39:=Tryz.isAgg214
 z39:=Tryz.sizeOf214
 v39:=Tryz.zeroValue214
 t45:=Tryz.underlying272
 a45:=Tryz.isAgg272
 z45:=Tryz.sizeOf272
 v45:=Tryz.zeroValue272
 t46:=Tryz.underlying273
 a46:=Tryz.isAgg273
 z46:=Tryz.sizeOf273
 v46:=Tryz.zeroValue273
 t50:=Tryz.underlying255
 a50:=Tryz.isAgg255
 z50:=Tryz.sizeOf255
 v50:=Tryz.zeroValue255
 t53:=Tryz.underlying279
 a53:=Tryz.isAgg279
 z53:=Tryz.sizeOf279
 v53:=Tryz.zeroValue279
 t55:=Tryz.underlying281
 a55:=Tryz.isAgg281
 z55:=Tryz.sizeOf281
 v55:=Tryz.zeroValue281
 t66:=Tryz.underlying321
 a66:=Tryz.isAgg321
 z66:=Tryz.sizeOf321
 v66:=Tryz.zeroValue321
 t70:=Tryz.underlying325
 a70:=Tryz.isAgg325
 z70:=Tryz.sizeOf325
 v70:=Tryz.zeroValue325
 t76:=Tryz.underlying341
 a76:=Tryz.isAgg341
 z76:=Tryz.sizeOf341
 v76:=Tryz.zeroValue341
 t77:=Tryz.underlying334
 a77:=Tryz.isAgg334
 z77:=Tryz.sizeOf334
 v77:=Tryz.zeroValue334 }
def Tryz.indexS_ren:Go.Shelf.Ren:=⟨fun | 6=>63 | n=>n,fun | 22=>30 | 24=>64 | 3=>3 | 0=>0 | 4=>4 | n=>n,fun | n=>n⟩
theorem Tryz.indexS:Go.Proofs.SlLaysQ.n6 Tryz.prog Tryz.indexS_ren:={
 mixed:=by kernel_rfl
 f6:=⟨Tryz.f63.name,by decide,Tryz.func63.trans (congrArg some (by kernel_rfl))⟩
 t0:=Tryz.underlying0
 a0:=Tryz.isAgg0
 z0:=Tryz.sizeOf0
 v0:=Tryz.zeroValue0
 t3:=Tryz.underlying3
 a3:=Tryz.isAgg3
 z3:=Tryz.sizeOf3
 v3:=Tryz.zeroValue3
 t4:=Tryz.underlying4
 a4:=Tryz.isAgg4
 z4:=Tryz.sizeOf4
 v4:=Tryz.zeroValue4
 t22:=Tryz.underlying30
 a22:=Tryz.isAgg30
 z22:=Tryz.sizeOf30
 v22:=Tryz.zeroValue30 }
def Tryz.idxR_ren:Go.Shelf.Ren:=⟨fun | 6=>254 | n=>n,fun | 22=>123 | 23=>230 | 25=>319 | 3=>3 | 0=>0 | 4=>4 | n=>n,fun | n=>n⟩
theorem Tryz.idxR:Go.Proofs.SlLaysH0.n6 Tryz.prog Tryz.idxR_ren:={
 mixed:=by kernel_rfl
 f6:=⟨Tryz.f254.name,by decide,Tryz.func254.trans (congrArg some (by kernel_rfl))⟩
 t0:=Tryz.underlying0
 a0:=Tryz.isAgg0
 z0:=Tryz.sizeOf0
 v0:=Tryz.zeroValue0
 t3:=Tryz.underlying3
 a3:=Tryz.isAgg3
 z3:=Tryz.sizeOf3
 v3:=Tryz.zeroValue3
 t4:=Tryz.underlying4
 a4:=Tryz.isAgg4
 z4:=Tryz.sizeOf4
 v4:=Tryz.zeroValue4
 t22:=Tryz.underlying123
 a22:=Tryz.isAgg123
 z22:=Tryz.sizeOf123
 v22:=Tryz.zeroValue123
 t25:=Tryz.underlying319
 a25:=Tryz.isAgg319
 z25:=Tryz.sizeOf319
 v25:=Tryz.zeroValue319 }
def Tryz.cmpL_ren:Go.Shelf.Ren:=⟨fun | 5=>135 | 7=>209 | n=>n,fun | 22=>3 | 3=>3 | 4=>4 | n=>n,fun | n=>n⟩
theorem Tryz.cmpL:Go.Proofs.SlLaysC2.n5 Tryz.prog Tryz.cmpL_ren:={
 mixed:=by kernel_rfl
 f5:=⟨Tryz.f135.name,by decide,Tryz.func135.trans (congrArg some (by kernel_rfl))⟩
 f7:=⟨Tryz.f209.name,by decide,Tryz.func209.trans (congrArg some (by kernel_rfl))⟩
 t3:=Tryz.underlying3
 a3:=Tryz.isAgg3
 z3:=Tryz.sizeOf3
 v3:=Tryz.zeroValue3
 t4:=Tryz.underlying4
 a4:=Tryz.isAgg4
 z4:=Tryz.sizeOf4
 v4:=Tryz.zeroValue4
 t22:=Tryz.underlying3
 a22:=Tryz.isAgg3
 z22:=Tryz.sizeOf3
 v22:=Tryz.zeroValue3 }
end Go.Proofs
namespace Go.Proofs.YtjmepebbcnhalaaGreat
open Go.RowKit Go.Shelf
theorem uo (w:World) (os:Array Obj):w.grownBy (Go.Sort.grow w os) none:=⟨rfl,rfl,rfl,by rw[Go.Sort.size_grow];omega,fun k hk _=>Go.Sort.heap_grow_old w os hk⟩
theorem us {w:World} {base g n cap q e size:Nat} {xs vs:List Value} {os:Array Obj} (h:w.ownsRow base e size (.slice (some ⟨g,0,none⟩) n cap) n xs) (hv:vs.length=n*size):(Go.Sort.grow ((w.drewN q).setCells g 0 vs) os).ownsRow base e size (.slice (some ⟨g,0,none⟩) n cap) n vs∧w.grownBy (Go.Sort.grow ((w.drewN q).setCells g 0 vs) os) (some g):=by
 have h0:(w.drewN q).ownsRow base e size (.slice (some ⟨g,0,none⟩) n cap) n xs:=h
 obtain⟨h1,h2⟩:=dP vs xs 0 _ h0
 rw[rc (by rw[hv,h.1])] at h1
 have k:=uo ((w.drewN q).setCells g 0 vs) os
 refine⟨World.ownsRow.kept h1 k (Or.inr (by simp[Value.ownBlock])),?_⟩
 have h3:w.grownBy ((w.drewN q).setCells g 0 vs) (some g):=aa (aD w q _) h2
 exact aa h3 ⟨k.os,k.tape,k.output,k.size,fun i hi _=>k.block i hi (by simp)⟩
theorem vE {α:Type} [Inhabited α] (R:aB α) (l:List α):(Go.Sort.flatK R.enc R.k l.toArray).toList=R.cs l:=by
 refine List.ext_getElem? fun t=>?_
 by_cases ht:t<l.length*R.k
 ·have hq:t / R.k<l.length:=Nat.div_lt_of_lt_mul (by rw[Nat.mul_comm];exact ht)
  have hr:t % R.k<R.k:=Nat.mod_lt _ R.hp
  have e3:t=t / R.k*R.k+t % R.k:=by rw[Nat.mul_comm];exact(Nat.div_add_mod _ _).symm
  have h1:(R.cs l)[t]?=(R.enc l[t / R.k])[t % R.k]?:=by
   have:=R.at' (List.getElem?_eq_getElem hq) (t % R.k) hr
   rw[←e3] at this
   exact this
  have hs:t<(Go.Sort.flatK R.enc R.k l.toArray).size:=by rw[Go.Sort.size_flatK];simpa using ht
  have h2:=Go.Sort.get_flatK R.enc R.k l.toArray t (by simpa using ht)
  rw[h1,Array.getElem?_toList,Array.getElem?_eq_getElem hs]
  rw[getElem!_pos (Go.Sort.flatK R.enc R.k l.toArray) t hs] at h2
  rw[h2]
  have h3:l.toArray[t / R.k]! = l[t / R.k]:=by simp[hq]
  rw[h3]
  have h4:t % R.k<(R.enc l[t / R.k]).length:=by rw[R.hk];exact hr
  rw[List.getElem?_eq_getElem h4,getElem!_pos (R.enc l[t / R.k]) (t % R.k) h4]
 ·rw[List.getElem?_eq_none (by rw[Array.length_toList,Go.Sort.size_flatK];simpa using ht),List.getElem?_eq_none (by rw[R.len];omega)]
theorem CW {α:Type} [Inhabited α] {d d':Array α} (h:Go.Sort.PermIn 0 d.size d d'):d'.toList.Perm d.toList:=by
 obtain⟨h1,_,h2⟩:=h
 have e1:(d'.extract 0 d.size).toList=d'.toList:=by rw[←h1];simp
 have e2:(d.extract 0 d.size).toList=d.toList:=by simp
 rw[e1,e2] at h2
 exact h2
theorem AN {α:Type} [Inhabited α] {lt:α→α→Bool} {d:Array α} {n:Nat} (hn:d.size=n) (h:Go.Sort.SortedIn lt 0 n d):d.toList.Pairwise fun a b=>lt b a=false:=by
 rw[List.pairwise_iff_getElem]
 intro i j hi hj hij
 have hi':i<d.size:=by simpa using hi
 have hj':j<d.size:=by simpa using hj
 have:=h i j (Nat.zero_le _) hij (by omega)
 simp[hi',hj'] at this
 simpa using this
theorem BF {P:Program} {ρ:Ren} {α:Type} [Inhabited α] (L:SlLaysF0.n6 P ρ) (R:aB α) (T:TypeId) (aE:∀ w,(isAgg (ρ.t 24)).run P w=.ok true w) (zE:∀ w,(Go.sizeOf (ρ.t 24)).run P w=.ok R.k w) (cf:α→α→Int) (hO:Go.Sort.SWO (ltOf cf)) (g:Nat) (eg:∀ args w,(callFunc g args).run P w=.ok (.enter g args) w)
  (hc:∀ (x y:α) (W:World),Calls P g #[.agg (R.enc x).toArray,.agg (R.enc y).toArray] W fun e w'=>e=.returned (.int .i64 (cf x y))∧∃ q os',w'=Go.Sort.grow (W.drewN q) os')
  (base gb cap:Nat) (l:List α) (w:World) (O:R.Own T w base (.slice (some ⟨gb,0,none⟩) l.length cap) l) (hs:l.length<4611686018427387904) :
  Calls P (ρ.f 6) #[.slice (some ⟨gb,0,none⟩) l.length cap,.func (.func g) #[] #[]] w fun e w'=>e=.returned (.tuple #[])∧∃ l',l'.Perm l∧(l'.Pairwise fun a b=>ltOf cf b a=false)∧R.Own T w' base (.slice (some ⟨gb,0,none⟩) l.length cap) l'∧w.grownBy w' (some gb):=by
 have hb:gb<w.heap.size:=(O.lt gb rfl).2
 have hH:Go.Sort.HoldsK R.enc R.k w gb 0 l.toArray:=by
  intro j hj
  rw[Nat.zero_add]
  have hj':j<l.length*R.k:=by rw[Go.Sort.size_flatK] at hj;simpa using hj
  refine⟨?_,World.ownsRow.frozenAt O j⟩
  rw[World.ownsRow.cellAt O j hj',←vE R l,Array.getElem?_toList,Array.getElem?_eq_getElem hj,getElem!_pos (Go.Sort.flatK R.enc R.k l.toArray) j hj]
  rfl
 have hS:=AnyQ.slices_SortFunc L R.k aE zE R.enc R.hk R.h1 cf hO g #[] gb 0 cap l.toArray w eg (fun _ _ _ _ x y=>hc x y _) hH hb (by simpa using hs)
 simp only[List.size_toArray] at hS
 refine hS.mono ?_
 rintro e w' ⟨rfl,d',n,os,hp,hso,rfl⟩
 have hd:d'.size=l.length:=by have:=hp.1;simpa using this
 refine⟨rfl,d'.toList,by simpa using CW (d:=l.toArray) (by simpa using hp),AN hd hso,?_⟩
 have ef:(Go.Sort.flatK R.enc R.k d').toList=R.cs d'.toList:=by simpa using vE R d'.toList
 have ew:sortWorldK R.enc R.k w gb 0 n d' os=Go.Sort.grow ((w.drewN n).setCells gb 0 (R.cs d'.toList)) os:=by
  have:=Lib.sorted_world id w gb 0 n (Go.Sort.flatK R.enc R.k l.toArray) (Go.Sort.flatK R.enc R.k d').toList os hH (by rw[Array.length_toList,Go.Sort.size_flatK,Go.Sort.size_flatK,hd];simp)
  rw[List.map_id,ef] at this
  rw[←this]
  unfold sortWorldK Go.Sort.putRowK
  congr 2
  rw[←ef]
 rw[ew]
 obtain⟨o1,g1⟩:=us (q:=n) (os:=os) (vs:=R.cs d'.toList) O (by rw[R.len,Array.length_toList,hd])
 refine⟨?_,g1⟩
 unfold aB.Own
 rw[show d'.toList.length=l.length from by rw[Array.length_toList,hd]]
 exact o1
set_option maxRecDepth 100000
set_option maxHeartbeats 4000000
theorem mx {w:World} {v:Value} {X:List Rv} (h:rvR.At w v X) {i:Nat} (hi:i<X.length):∃ g off cap,v=.slice (some ⟨g,off,none⟩) X.length cap∧w.rangeAt g (off+i*11) (rvc X[i]):=aB.At.there h hi
theorem eB {w:World} {v:Value} {X:List Fe} (h:feR.At w v X) {i:Nat} (hi:i<X.length):∃ g off cap,v=.slice (some ⟨g,off,none⟩) X.length cap∧w.rangeAt g (off+i*5) (fec X[i]):=aB.At.there h hi
theorem dw {w:World} {v:Value} {X:List Th} (h:thR.At w v X) {i:Nat} (hi:i<X.length):∃ g off cap,v=.slice (some ⟨g,off,none⟩) X.length cap∧w.rangeAt g (off+i*11) (thc X[i]):=aB.At.there h hi
theorem dW {w:World} {v:Value} {X:List Sd} (h:sdR.At w v X) {i:Nat} (hi:i<X.length):∃ g off cap,v=.slice (some ⟨g,off,none⟩) X.length cap∧w.rangeAt g (off+i*10) (sdc X[i]):=aB.At.there h hi
def ia (R:List Rw) (fs:List Fe) (k:Nat):List Fe:=(List.range k).map fun i=>fs.getD ((R.getD i Rw.none).nu - 1).toNat Fe.none
theorem uI (R:List Rw) (fs:List Fe) (k:Nat):ia R fs (k+1)=ia R fs k++[fs.getD ((R.getD k Rw.none).nu - 1).toNat Fe.none]:=by
 unfold ia
 rw[List.range_succ,List.map_append]
 rfl
theorem kS (R:List Rw) (fs:List Fe) (k:Nat):(ia R fs k).length=k:=by simp[ia]
theorem xA (R:List Rw) (fs:List Fe):ia R fs R.length=aq R fs:=by
 unfold ia aq
 refine List.ext_getElem? fun i=>?_
 rw[List.getElem?_map,List.getElem?_map]
 by_cases h:i<R.length
 ·rw[List.getElem?_range h,List.getElem?_eq_getElem h]
  simp[List.getD,h]
 ·rw[List.getElem?_eq_none (by simpa using h),List.getElem?_eq_none (by omega)]
  rfl
def eG (w:World) (base g n:Nat) (L:List Fe):Prop:=∃ rest:List Value,rest.length=(n - L.length)*5∧w.ownsRow base 122 5 (.slice (some ⟨g,0,none⟩) n n) n (feR.cs L++rest)
theorem sG (L:List Fe):(feR.cs L).length=L.length*5:=feR.len L
theorem eG.grow {w w':World} {base g n:Nat} {L:List Fe} (h:eG w base g n L) (k:w.grownBy w' none):eG w' base g n L:=by
 obtain⟨r,e,o⟩:=h
 exact⟨r,e,ar o k⟩
theorem eG.there {w:World} {base g n k:Nat} {L:List Fe} (h:eG w base g n L) (hk:L.length=k) (hn:k<n):w.there g (k*5) 5:=by
 obtain⟨r,e,o⟩:=h
 intro i hi
 refine⟨?_,World.ownsRow.frozenAt o _⟩
 rw[World.ownsRow.cellAt o (k*5+i) (by omega),List.getElem?_eq_getElem (by rw[List.length_append,sG,e];omega)]
 rfl
theorem BJ {w:World} {g o:Nat} (h:w.there g o 5):∃ u0 u1 u2 u3 u4,w.cell? ⟨g,o,none⟩=some u0∧w.cell? ⟨g,o+1,none⟩=some u1∧w.cell? ⟨g,o+2,none⟩=some u2∧w.cell? ⟨g,o+3,none⟩=some u3∧w.cell? ⟨g,o+4,none⟩=some u4∧w.frozen? ⟨g,o,none⟩=false∧w.frozen? ⟨g,o+1,none⟩=false∧w.frozen? ⟨g,o+2,none⟩=false∧w.frozen? ⟨g,o+3,none⟩=false∧w.frozen? ⟨g,o+4,none⟩=false:=by
 have h0:=h 0 (by decide)
 have h1:=h 1 (by decide)
 have h2:=h 2 (by decide)
 have h3:=h 3 (by decide)
 have h4:=h 4 (by decide)
 obtain⟨u0,e0⟩:=Option.isSome_iff_exists.1 h0.1
 obtain⟨u1,e1⟩:=Option.isSome_iff_exists.1 h1.1
 obtain⟨u2,e2⟩:=Option.isSome_iff_exists.1 h2.1
 obtain⟨u3,e3⟩:=Option.isSome_iff_exists.1 h3.1
 obtain⟨u4,e4⟩:=Option.isSome_iff_exists.1 h4.1
 exact⟨u0,u1,u2,u3,u4,e0,e1,e2,e3,e4,h0.2,h1.2,h2.2,h3.2,h4.2⟩
theorem eG.more {w:World} {base g n k:Nat} {L:List Fe} (h:eG w base g n L) (hk:L.length=k) (hn:k<n) (f:Fe):eG (w.setCells g (k*5) (fec f)) base g n (L++[f])∧w.grownBy (w.setCells g (k*5) (fec f)) (some g):=by
 obtain⟨r,e,o⟩:=h
 obtain⟨h1,h2⟩:=dP (fec f) _ (k*5) w o
 refine⟨⟨r.drop 5,?_,?_⟩,h2⟩
 ·rw[List.length_drop,e,List.length_append,List.length_singleton]
  omega
 ·have hl:(feR.cs L).length=k*5:=by rw[sG,hk]
  rw[f9 _ _ _ (by rw[List.length_append,hl,e];show k*5+5≤_;omega)] at h1
  rw[List.take_append_of_le_length (by omega),List.take_of_length_le (by omega),show k*5+(fec f).length=(feR.cs L).length+5 from by rw[hl];rfl,List.drop_append,List.drop_eq_nil_of_le (by omega)] at h1
  simp only[List.nil_append,Nat.add_sub_cancel_left] at h1
  rw[feR.app,feR.one,List.append_assoc]
  exact h1
theorem eG.done {w:World} {base g n:Nat} {L:List Fe} (h:eG w base g n L) (hn:L.length=n):dt w base (.slice (some ⟨g,0,none⟩) n n) L:=by
 obtain⟨r,e,o⟩:=h
 rw[hn,Nat.sub_self,Nat.zero_mul] at e
 obtain rfl:r=[]:=List.length_eq_zero_iff.1 e
 rw[List.append_nil] at o
 unfold dt aB.Own
 rw[hn]
 exact o
theorem eG.lt {w:World} {base g n:Nat} {L:List Fe} (h:eG w base g n L):base≤g∧g<w.heap.size:=by
 obtain⟨r,e,o⟩:=h
 exact World.ownsRow.lt o g rfl
theorem vV (vr v:Value) (X:List Rv) (fs:List Fe) (w:World) (A:rvR.At w vr X) (B:feR.At w v fs) (hn:∀ i,i<X.length→1≤((rws X).getD i Rw.none).nu∧((rws X).getD i Rw.none).nu≤(fs.length:Int)) (hl:fs.length≤4096) (h16:X.length≤16):Calls Tryz.prog 195 #[vr,v] w fun e' w'=>∃ v',e'=.returned v'∧dt w' w.heap.size v' (aq (rws X) fs)∧w.grownBy w' none:=by
 obtain⟨i0,hi,hz0,hz1,hz2⟩:=info_parts Tryz.linfoF
 obtain⟨pr,cr,rfl⟩:=A.form
 obtain⟨pl,cl,rfl⟩:=B.form
 have HA:Hid (rvR.At w (.slice pr X.length cr) X):=A
 have HBf:Hid (feR.At w (.slice pl fs.length cl) fs):=B
 have HNu:Hid (∀ i,i<X.length→1≤((rws X).getD i Rw.none).nu∧((rws X).getD i Rw.none).nu≤(fs.length:Int)):=hn
 have Hl:Hid (fs.length≤4096):=hl
 have H16:Hid (X.length≤16):=h16
 have Hbb:Hid (i0.bytes*X.length≤281474976710656):=by show i0.bytes*X.length≤_;rw[hz2];omega
 have Hbm:Hid (X.length≤maxLen):=by show X.length≤maxLen;unfold maxLen;omega
 clear A B hn hl h16
 go_enter Tryz.func195,Tryz.ntmps195
 go_wp2_with (at_make;refine wpList_make_full _ rfl _ _ 27 rfl w.heap.size 122 i0 _ 5 Tryz.underlying27 hi hz0 hz1 .i64 .i64 _ _ X.length rfl rfl rfl rfl Hbb.out Hbm.out (Nat.le_refl _) ?_;intro V o1 gv;have HF0:Hid (eG V w.heap.size w.heap.size X.length []):=⟨_,by have:=o1.1;simpa using this,o1⟩;have HGV:Hid (w.grownBy V none):=gv;clear o1 gv)
 obtain⟨g0,h0⟩:∃ g0,g0=w.heap.size:=⟨_,rfl⟩
 have Hg0:Hid (g0=w.heap.size):=h0
 rw[show eG V w.heap.size w.heap.size X.length []=eG V w.heap.size g0 X.length [] from by rw[h0]] at HF0
 simp only[←h0] at ⊢
 clear h0
 go_loopw [6,7,13] (fun _ _ i wr=>∃ k:Nat,k≤X.length∧i=.int .i64 (k:Int)∧eG wr g0 g0 X.length (ia (rws X) fs k)∧w.grownBy wr none) (fun _ _ i _=>X.length - (intOf i).toNat)
 case atStart=>exact⟨0,Nat.zero_le _,rfl,by rw[←Hg0.out] at HF0;exact HF0.out,HGV.out⟩
 case round =>
  obtain⟨k,hk,rfl,O,G⟩:=hrel
  obtain⟨U,hU⟩:∃ U,U=wr:=⟨_,rfl⟩
  subst hU
  have HO:Hid (eG U g0 g0 X.length (ia (rws X) fs k)):=O
  have HG:Hid (w.grownBy U none):=G
  by_cases hlt:k<X.length
  ·have hnu:=HNu.out k hlt
   obtain⟨g,off,cap,e1,R⟩:=mx (HA.out.keep G) hlt
   cases e1
   obtain⟨x,hx⟩:∃ x,x=X[k]:=⟨_,rfl⟩
   rw[←hx] at R
   have en:((rws X).getD k Rw.none).nu=x.r.nu:=by rw[fA hlt,←hx]
   rw[en] at hnu
   obtain⟨j,hj⟩:∃ j:Nat,x.r.nu=(j:Int)+1:=⟨(x.r.nu - 1).toNat,by omega⟩
   have hjl:j<fs.length:=by omega
   obtain⟨gf,fof,fcap,e2,RF⟩:=eB (HBf.out.keep G) hjl
   cases e2
   obtain⟨f,hf⟩:∃ f,f=fs[j]:=⟨_,rfl⟩
   rw[←hf] at RF
   have HY:Hid (ia (rws X) fs (k+1)=ia (rws X) fs k++[f]):=by show _=_;rw[uI,en,hj,show ((j:Int)+1 - 1).toNat=j by omega,aC hjl,←hf]
   obtain⟨c0,c1,c2',c3,c4,c5,c6,c7,c8,c9,c10⟩:=eK R
   have c10':U.cell? ⟨g,off+k*11+10,none⟩=some (.slice x.pa x.r.ps.length x.ca):=c10
   obtain⟨Y,hY⟩:∃ Y,Y=U.alloc (.cells #[.int .i64 x.r.nu,.int .i64 x.r.st,.string x.r.h.nm,.int .u8 x.r.h.su,.int .u8 x.r.h.kd,.int .i64 x.r.h.co,.int .i64 x.r.h.po,.int .i64 x.r.h.he,.int .u16 x.r.h.tr,.bool x.r.h.tk,.slice x.pa x.r.ps.length x.ca] 230):=⟨_,rfl⟩
   have HGY:Hid (U.grownBy Y none):=by rw[hY];exact World.grownBy_alloc _ _ none
   have z0:Y.cell? ⟨U.heap.size,0,none⟩=some (.int .i64 ((j:Int)+1)):=by rw[hY,←hj];exact(ae (ak _ _ _) 0).trans rfl
   obtain⟨f0,f1,f2,f3,f4⟩:=bJ (ba RF HGY.out)
   have HOY:Hid (eG Y g0 g0 X.length (ia (rws X) fs k)):=O.grow HGY.out
   have hw1:=iz (j:=j) (Nat.le_trans (Nat.le_of_lt hjl) Hl.out)
   have hw2:=jn (j:=j) (Nat.le_trans (Nat.le_of_lt hjl) Hl.out)
   have hjl':(j:Int)<fs.length:=Int.ofNat_lt.2 hjl
   have hlt':(k:Int)<X.length:=Int.ofNat_lt.2 hlt
   have hwk:=aW (k:=k) (Nat.le_trans (Nat.le_of_lt hlt) (Nat.le_trans H16.out (by decide)))
   have Hlt:Hid (k<X.length):=hlt
   have HM:Hid (X.length - (intOf (.int .i64 ((k:Int)+1))).toNat<X.length - (intOf (.int .i64 (k:Int))).toNat):=bQ hlt
   clear O G R RF hx en hj hf c10 hnu hlt hk hjl
   go_upto_region 5 with fail
   rw[←hY]
   clear hY c0 c1 c2' c3 c4 c5 c6 c7 c8 c9 c10'
   obtain⟨nb,hnb⟩:∃ nb,nb=U.heap.size:=⟨_,rfl⟩
   rw[←hnb] at z0 ⊢
   clear hnb
   obtain⟨u0,u1,u2,u3,u4,y0,y1,y2,y3,y4,q0,q1,q2,q3,q4⟩:=BJ (HOY.out.there (kS (rws X) fs k) Hlt.out)
   obtain⟨Z,hZ⟩:∃ Z,Z=((((Y.setCell ⟨g0,k*5,none⟩ (.int .i64 f.ho)).setCell ⟨g0,k*5+1,none⟩ (.int .u8 f.su)).setCell ⟨g0,k*5+2,none⟩ (.int .u16 f.tr)).setCell ⟨g0,k*5+3,none⟩ (.int .i64 f.po)).setCell ⟨g0,k*5+4,none⟩ (.int .i64 f.he):=⟨_,rfl⟩
   have q:=HOY.out.more (kS (rws X) fs k) Hlt.out f
   rw[show Y.setCells g0 (k*5) (fec f)=Z from by rw[hZ];rfl] at q
   have HQ:Hid (eG Z g0 g0 X.length (ia (rws X) fs (k+1))∧w.grownBy Z none):=⟨by rw[HY.out];exact q.1,az (aa HG.out HGY.out) q.2 (fun y e=>by cases e;rw[Hg0.out];exact Nat.le_refl _)⟩
   clear q
   go_upto_region 6 with fail
   rw[←hZ]
   clear hZ y0 y1 y2 y3 y4 q0 q1 q2 q3 q4 f0 f1 f2 f3 f4 z0
   go_wp2_with fail
   go_roundw
   case rel=>exact⟨k+1,Hlt.out,by first | rfl | (rw[hwk];rfl) | go_num,HQ.out⟩
   case measure=>first | exact HM.out | (rw[hwk];exact HM.out)
  ·obtain rfl:k=X.length:=Nat.le_antisymm hk (Nat.le_of_not_lt hlt)
   have HF:Hid (dt U w.heap.size (.slice (some ⟨g0,0,none⟩) X.length X.length) (aq (rws X) fs)∧w.grownBy U none):=⟨by rw[←xA,cm,←Hg0.out];exact O.done (kS _ _ _),G⟩
   clear O G hk hlt
   go_wp2_with fail
   go_ret
   exact⟨_,rfl,HF.out⟩
theorem jJ (a b:Int) (l:List Int):dif (a :: b :: l)=(decide (a≠b) && dif (b :: l)):=rfl
theorem qR:∀ (l:List Int),(∀ j,j+1<l.length→l.getD (j+1) 0≠l.getD j 0)→dif l=true
 | [],_=>rfl
 | [a],_=>rfl
 | a :: b :: l,h=>by
  rw[jJ,qR (b :: l) (fun j hj=>by have:=h (j+1) (by simpa using hj);simpa using this)]
  have:=h 0 (by simp)
  simp at this
  simp
  exact fun e=>this e.symm
theorem oH:∀ (l:List Int) (j:Nat),j+1<l.length→l.getD (j+1) 0=l.getD j 0→dif l=false
 | [],j,h,_=>by simp at h
 | [a],j,h,_=>by simp at h
 | a :: b :: l,0,h,e=>by
  rw[jJ]
  simp at e
  simp[e]
 | a :: b :: l,j+1,h,e=>by
  rw[jJ,oH (b :: l) j (by simpa using h) (by simpa using e),Bool.and_false]
theorem BC {X:List Rv} {i:Nat} (h:i<X.length):(bm (rws X)).getD i 0=X[i].r.st:=by
 unfold bm rws
 rw[aC (by simpa using h)]
 simp
theorem yW (X:List Rv):(bm (rws X)).length=X.length:=by unfold bm rws;simp
theorem rv (vr:Value) (X:List Rv) (w:World) (A:rvR.At w vr X) (h16:X.length≤16):Calls Tryz.prog 196 #[vr] w fun e' w'=>e'=.returned (.bool (dif (bm (rws X))))∧w.grownBy w' none:=by
 obtain⟨pr,cr,rfl⟩:=A.form
 have HA:Hid (rvR.At w (.slice pr X.length cr) X):=A
 have H16:Hid (X.length≤16):=h16
 clear A h16
 go_enter Tryz.func196,Tryz.ntmps196
 go_wp2_with fail
 go_loopw [3] (fun i wr=>∃ k:Nat,(k=0∨k<X.length)∧i=.int .i64 ((k:Int)+1)∧(∀ j,j<k→j+1<X.length→(bm (rws X)).getD (j+1) 0≠(bm (rws X)).getD j 0)∧w.grownBy wr none) (fun i _=>X.length - (intOf i - 1).toNat)
 case atStart=>exact⟨0,Or.inl rfl,rfl,fun j hj=>absurd hj (Nat.not_lt_zero _),ay _ _⟩
 case round =>
  obtain⟨k,hk,rfl,hd,G⟩:=hrel
  obtain⟨U,hU⟩:∃ U,U=wr:=⟨_,rfl⟩
  subst hU
  have Hd:Hid (∀ j,j<k→j+1<X.length→(bm (rws X)).getD (j+1) 0≠(bm (rws X)).getD j 0):=hd
  have HG:Hid (w.grownBy U none):=G
  by_cases hlt:k+1<X.length
  ·obtain⟨g,off,cap,e1,R⟩:=mx (HA.out.keep G) (i:=k) (by omega)
   cases e1
   obtain⟨g',off',cap',e1,R'⟩:=mx (HA.out.keep G) hlt
   cases e1
   have HX0:Hid ((bm (rws X)).getD k 0=X[k].r.st):=BC (by omega)
   have HX1:Hid ((bm (rws X)).getD (k+1) 0=X[k+1].r.st):=BC hlt
   obtain⟨a,ha⟩:∃ a,a=X[k].r.st:=⟨_,rfl⟩
   obtain⟨b,hb⟩:∃ b,b=X[k+1].r.st:=⟨_,rfl⟩
   have c1:=(eK R).2.1
   have d1:=(eK R').2.1
   rw[←ha] at c1 HX0
   rw[←hb] at d1 HX1
   have hlt':(k:Int)+1<X.length:=by omega
   have hk1:(k:Int)<X.length:=by omega
   have hw0:=jn (j:=k) (by have:=H16.out;omega)
   have hw0':=iz (j:=k) (by have:=H16.out;omega)
   have hw1:wrap64 ((k:Int)+1+1)=(k:Int)+1+1:=by unfold wrap64;have:=H16.out;omega
   have Hlt:Hid (k+1<X.length):=hlt
   have HM:Hid (X.length - (intOf (.int .i64 ((k:Int)+1+1)) - 1).toNat<X.length - (intOf (.int .i64 ((k:Int)+1)) - 1).toNat):=by show X.length - ((k:Int)+1+1 - 1).toNat<X.length - ((k:Int)+1 - 1).toNat;omega
   clear hd G R R' ha hb hlt hk
   by_cases hab:b=a
   ·have e1:(b == a)=true:=by simpa using hab
    have HX:Hid (dif (bm (rws X))=false):=oH _ k (by rw[yW];exact Hlt.out) (by rw[HX0.out,HX1.out];exact hab)
    clear hab
    go_wp2_with fail
    go_quiet (fail)
    go_wp2
    go_ret
    exact⟨ch HX.out.symm,aa HG.out (aD _ _ _)⟩
   ·have e1:(b == a)=false:=by simpa using hab
    have HX:Hid (∀ j,j<k+1→j+1<X.length→(bm (rws X)).getD (j+1) 0≠(bm (rws X)).getD j 0):=fun j hj hj2=>by
     by_cases q:j=k
     ·subst q
      rw[HX0.out,HX1.out]
      exact hab
     ·exact Hd.out j (by omega) hj2
    clear hab
    go_wp2_with fail
    go_quiet (fail)
    go_wp2
    go_roundw
    case rel=>exact⟨k+1,Or.inr Hlt.out,by first | rfl | (rw[hw1];rfl) | go_num,HX.out,aa HG.out (aD _ _ _)⟩
    case measure=>first | exact HM.out | (rw[hw1];exact HM.out)
  ·have hlt':decide ((k:Int)+1<(X.length:Int))=false:=decide_eq_false (by omega)
   have HX:Hid (dif (bm (rws X))=true):=qR _ (fun j hj=>by rw[yW] at hj;exact Hd.out j (by omega) hj)
   clear hd G hlt hk
   go_wp2_with fail
   go_ret
   exact⟨ch HX.out.symm,HG.out⟩
def vN (x y:Rv):Int:=Lib.compareInt x.r.st y.r.st
theorem ltR (x y:Rv):ltOf vN x y=decide (x.r.st<y.r.st):=by
 unfold ltOf vN Lib.compareInt
 by_cases h1:x.r.st<y.r.st
 ·simp[h1]
 ·by_cases h2:y.r.st<x.r.st <;> simp[h1,h2]
theorem swoR:Go.Sort.SWO (ltOf vN) where
 irrefl x:=by rw[ltR];simp
 trans x y z h1 h2:=by rw[ltR] at *;simp at *;omega
 ntrans x y z h1 h2:=by rw[ltR] at *;simp at *;omega
theorem A8 (x y:Rv) (W:World):Calls Tryz.prog 194 #[.agg (rvc x).toArray,.agg (rvc y).toArray] W fun e w'=>e=.returned (.int .i64 (vN x y))∧∃ q os',w'=Go.Sort.grow (W.drewN q) os':=by
 have hcon:=fun W'=>AnyG.cmp_Compare_int Tryz.cmpL x.r.st y.r.st W'
 change ∀ W',Calls Tryz.prog 135 _ _ _ at hcon
 unfold vN
 generalize Lib.compareInt x.r.st y.r.st=r at hcon ⊢
 unfold rvc Rv.u
 go_enter Tryz.func194,Tryz.ntmps194
 go_wp2_with (go_at_call 135;refine(hcon _).mono ?_;rintro e w' ⟨rfl,rfl⟩)
 go_ret
 exact⟨rfl,0,_,by rw[Go.Sort.alloc_eq_grow,Go.Sort.alloc_eq_grow,Go.Sort.grow_grow];rfl⟩
def zW (w:World) (base:Nat) (v:Value) (X:List Rv):Prop:=rvR.Own 230 w base v X
theorem qe (v:Value) (X:List Rv) (base:Nat) (w:World) (O:zW w base v X) (h16:X.length≤16):Calls Tryz.prog 193 #[v,.func (.func 194) #[] #[]] w fun e w'=>e=.returned (.tuple #[])∧∃ X',X'.Perm X∧(X'.Pairwise fun a b=>a.r.st≤b.r.st)∧zW w' base v X'∧w.grownBy w' v.ownBlock:=by
 haveI:Inhabited Rv:=⟨⟨Rw.none,none,0⟩⟩
 by_cases h0:X.length=0
 ·have e1:X=[]:=List.length_eq_zero_iff.1 h0
  subst e1
  obtain⟨p,cap,rfl⟩:=O.form
  have hS:=AnyF.slices_SortFunc_none (P:=Tryz.prog) (ρ:=Tryz.sortR_ren) { Tryz.sortR with } p cap (.func (.func 194) #[] #[]) w
  change Calls Tryz.prog 193 _ _ _ at hS
  refine hS.mono ?_
  rintro e w' ⟨rfl,rfl⟩
  exact⟨rfl,[],List.Perm.refl _,List.Pairwise.nil,O,ay _ _⟩
 ·obtain⟨g,cap,e1,_,_,_,_,_⟩:=cc O (Nat.pos_of_ne_zero h0)
  subst e1
  have eg:∀ args w,(callFunc 194 args).run Tryz.prog w=.ok (.enter 194 args) w:=enters_of Tryz.func194 (by kernel_rfl) rfl
  have hS:=BF Tryz.sortR rvR 230 Tryz.isAgg230 Tryz.sizeOf230 vN swoR 194 eg (fun x y W=>A8 x y W) base g cap X w O (by omega)
  change Calls Tryz.prog 193 _ _ _ at hS
  refine hS.mono ?_
  rintro e w' ⟨rfl,X',hp,hs,o,q⟩
  exact⟨rfl,X',hp,hs.imp (fun h=>by rw[ltR] at h;simpa using h),o,q⟩
end Go.Proofs.YtjmepebbcnhalaaGreat
