/-
  DERIVED: THE SHELF's CONTRACTS AT THIS DUMP, IN PLAIN WORDS (tools/lay-plain.mjs out of 'YthfjgpjcepmnmaaGreatLib.lean', which tools/lay-shelf.mjs wrote): THE SAME DECLARATIONS UNDER THE SAME NAMES: 'import', 'namespace', 'open', 'def', 'theorem' AND NOTHING ELSE: no command of the shelf's: FOR A HAND-IN. Each laying: the table of numbers ('.._ren') and one theorem, a field a fact of the dump's own or the kernel's comparison; each contract: ONE APPLICATION.
  slices.SortFunc of records of k cells: the row holds the same records, sorted.
-/
import Derived.Shelf.SlGeneric
import Derived.Shelf.SlSortCmp.WholeK
import Derived.Shelf.SlSortCmp.Whole1
import Derived.Shelf.SlSortCmp.NoneTotal
import Derived.Shelf.SlicesQ.Index
import Derived.Shelf.SlicesQ.IndexFunc
import Derived.Shelf.SlicesE.Clone
import Derived.Shelf.SlicesG.Cmp
import Derived.Ground.SlsfProg
import Derived.Ground.SlgcProg
import Derived.Ground.SlgnProg
import Derived.Ground.SlgqProg
import Derived.Ground.SlgfProg
import Derived.Test.YthfjgpjcepmnmaaGreatProg
import Derived.Test.YthfjgpjcepmnmaaGreatLyK
import Derived.Lib.RowBridge
import Derived.Lib.SortBridge
namespace Go.Proofs
open Go.Shelf
def Tryz.sortL_ren : Go.Shelf.Ren := ⟨fun | 6 => 194 | 15 => 159 | 14 => 257 | 28 => 232 | 29 => 233 | 20 => 295 | 21 => 296 | 22 => 297 | 23 => 298 | 24 => 299 | 25 => 300 | 26 => 301 | 27 => 302 | 46 => 321 | 47 => 280 | 48 => 281 | 49 => 322 | 50 => 323 | 57 => 327 | n => n, fun | 22 => 139 | 24 => 3 | 25 => 187 | 3 => 3 | 39 => 234 | 0 => 0 | 53 => 301 | 55 => 303 | 4 => 4 | 46 => 295 | 45 => 294 | 50 => 265 | 5 => 5 | 9 => 9 | 66 => 334 | 70 => 338 | 76 => 356 | 77 => 349 | n => n, fun | n => n⟩
theorem Tryz.sortL : Go.Proofs.SlLaysF.n6 Tryz.prog Tryz.sortL_ren := {
  mixed := by kernel_rfl
  f6 := ⟨Tryz.f194.name, by decide, Tryz.func194.trans (congrArg some (by kernel_rfl))⟩
  f14 := ⟨Tryz.f257.name, by decide, Tryz.func257.trans (congrArg some (by kernel_rfl))⟩
  f15 := Tryz.func159.trans (congrArg some (by kernel_rfl))
  f20 := ⟨Tryz.f295.name, by decide, Tryz.func295.trans (congrArg some (by kernel_rfl))⟩
  f21 := ⟨Tryz.f296.name, by decide, Tryz.func296.trans (congrArg some (by kernel_rfl))⟩
  f22 := ⟨Tryz.f297.name, by decide, Tryz.func297.trans (congrArg some (by kernel_rfl))⟩
  f23 := ⟨Tryz.f298.name, by decide, Tryz.func298.trans (congrArg some (by kernel_rfl))⟩
  f24 := ⟨Tryz.f299.name, by decide, Tryz.func299.trans (congrArg some (by kernel_rfl))⟩
  f25 := ⟨Tryz.f300.name, by decide, Tryz.func300.trans (congrArg some (by kernel_rfl))⟩
  f26 := ⟨Tryz.f301.name, by decide, Tryz.func301.trans (congrArg some (by kernel_rfl))⟩
  f27 := ⟨Tryz.f302.name, by decide, Tryz.func302.trans (congrArg some (by kernel_rfl))⟩
  f28 := Tryz.func232.trans (congrArg some (by kernel_rfl))
  f29 := Tryz.func233.trans (congrArg some (by kernel_rfl))
  f46 := ⟨Tryz.f321.name, by decide, Tryz.func321.trans (congrArg some (by kernel_rfl))⟩
  f47 := Tryz.func280.trans (congrArg some (by kernel_rfl))
  f48 := Tryz.func281.trans (congrArg some (by kernel_rfl))
  f49 := ⟨Tryz.f322.name, by decide, Tryz.func322.trans (congrArg some (by kernel_rfl))⟩
  f50 := ⟨Tryz.f323.name, by decide, Tryz.func323.trans (congrArg some (by kernel_rfl))⟩
  f57 := ⟨Tryz.f327.name, by decide, Tryz.func327.trans (congrArg some (by kernel_rfl))⟩
  t0 := Tryz.underlying0
  a0 := Tryz.isAgg0
  z0 := Tryz.sizeOf0
  v0 := Tryz.zeroValue0
  t3 := Tryz.underlying3
  a3 := Tryz.isAgg3
  z3 := Tryz.sizeOf3
  v3 := Tryz.zeroValue3
  t4 := Tryz.underlying4
  a4 := Tryz.isAgg4
  z4 := Tryz.sizeOf4
  v4 := Tryz.zeroValue4
  t5 := Tryz.underlying5
  a5 := Tryz.isAgg5
  z5 := Tryz.sizeOf5
  v5 := Tryz.zeroValue5
  t9 := Tryz.underlying9
  a9 := Tryz.isAgg9
  z9 := Tryz.sizeOf9
  v9 := Tryz.zeroValue9
  t22 := Tryz.underlying139
  a22 := Tryz.isAgg139
  z22 := Tryz.sizeOf139
  v22 := Tryz.zeroValue139
  a24 := Tryz.isAgg3
  z24 := Tryz.sizeOf3
  t25 := Tryz.underlying187
  a25 := Tryz.isAgg187
  z25 := Tryz.sizeOf187
  v25 := Tryz.zeroValue187
  t39 := Tryz.underlying234
  a39 := Tryz.isAgg234
  z39 := Tryz.sizeOf234
  v39 := Tryz.zeroValue234
  t45 := Tryz.underlying294
  a45 := Tryz.isAgg294
  z45 := Tryz.sizeOf294
  v45 := Tryz.zeroValue294
  t46 := Tryz.underlying295
  a46 := Tryz.isAgg295
  z46 := Tryz.sizeOf295
  v46 := Tryz.zeroValue295
  t50 := Tryz.underlying265
  a50 := Tryz.isAgg265
  z50 := Tryz.sizeOf265
  v50 := Tryz.zeroValue265
  t53 := Tryz.underlying301
  a53 := Tryz.isAgg301
  z53 := Tryz.sizeOf301
  v53 := Tryz.zeroValue301
  t55 := Tryz.underlying303
  a55 := Tryz.isAgg303
  z55 := Tryz.sizeOf303
  v55 := Tryz.zeroValue303
  t66 := Tryz.underlying334
  a66 := Tryz.isAgg334
  z66 := Tryz.sizeOf334
  v66 := Tryz.zeroValue334
  t70 := Tryz.underlying338
  a70 := Tryz.isAgg338
  z70 := Tryz.sizeOf338
  v70 := Tryz.zeroValue338
  t76 := Tryz.underlying356
  a76 := Tryz.isAgg356
  z76 := Tryz.sizeOf356
  v76 := Tryz.zeroValue356
  t77 := Tryz.underlying349
  a77 := Tryz.isAgg349
  z77 := Tryz.sizeOf349
  v77 := Tryz.zeroValue349 }
def Tryz.sortR_ren : Go.Shelf.Ren := ⟨fun | 6 => 218 | 15 => 159 | 14 => 275 | 28 => 232 | 29 => 233 | 20 => 304 | 21 => 305 | 22 => 306 | 23 => 307 | 24 => 308 | 25 => 309 | 26 => 310 | 27 => 311 | 46 => 324 | 47 => 280 | 48 => 281 | 49 => 325 | 50 => 326 | 57 => 328 | n => n, fun | 22 => 159 | 24 => 248 | 25 => 287 | 3 => 3 | 39 => 234 | 0 => 0 | 53 => 301 | 55 => 303 | 4 => 4 | 46 => 295 | 45 => 294 | 50 => 265 | 5 => 5 | 9 => 9 | 66 => 334 | 70 => 338 | 76 => 356 | 77 => 349 | n => n, fun | n => n⟩
theorem Tryz.sortR : Go.Proofs.SlLaysF0.n6 Tryz.prog Tryz.sortR_ren := {
  mixed := by kernel_rfl
  f6 := ⟨Tryz.f218.name, by decide, Tryz.func218.trans (congrArg some (by kernel_rfl))⟩
  f14 := ⟨Tryz.f275.name, by decide, Tryz.func275.trans (congrArg some (by kernel_rfl))⟩
  f15 := Tryz.func159.trans (congrArg some (by kernel_rfl))
  f20 := ⟨Tryz.f304.name, by decide, Tryz.func304.trans (congrArg some (by kernel_rfl))⟩
  f21 := ⟨Tryz.f305.name, by decide, Tryz.func305.trans (congrArg some (by kernel_rfl))⟩
  f22 := ⟨Tryz.f306.name, by decide, Tryz.func306.trans (congrArg some (by kernel_rfl))⟩
  f23 := ⟨Tryz.f307.name, by decide, Tryz.func307.trans (congrArg some (by kernel_rfl))⟩
  f24 := ⟨Tryz.f308.name, by decide, Tryz.func308.trans (congrArg some (by kernel_rfl))⟩
  f25 := ⟨Tryz.f309.name, by decide, Tryz.func309.trans (congrArg some (by kernel_rfl))⟩
  f26 := ⟨Tryz.f310.name, by decide, Tryz.func310.trans (congrArg some (by kernel_rfl))⟩
  f27 := ⟨Tryz.f311.name, by decide, Tryz.func311.trans (congrArg some (by kernel_rfl))⟩
  f28 := Tryz.func232.trans (congrArg some (by kernel_rfl))
  f29 := Tryz.func233.trans (congrArg some (by kernel_rfl))
  f46 := ⟨Tryz.f324.name, by decide, Tryz.func324.trans (congrArg some (by kernel_rfl))⟩
  f47 := Tryz.func280.trans (congrArg some (by kernel_rfl))
  f48 := Tryz.func281.trans (congrArg some (by kernel_rfl))
  f49 := ⟨Tryz.f325.name, by decide, Tryz.func325.trans (congrArg some (by kernel_rfl))⟩
  f50 := ⟨Tryz.f326.name, by decide, Tryz.func326.trans (congrArg some (by kernel_rfl))⟩
  f57 := ⟨Tryz.f328.name, by decide, Tryz.func328.trans (congrArg some (by kernel_rfl))⟩
  t0 := Tryz.underlying0
  a0 := Tryz.isAgg0
  z0 := Tryz.sizeOf0
  v0 := Tryz.zeroValue0
  t3 := Tryz.underlying3
  a3 := Tryz.isAgg3
  z3 := Tryz.sizeOf3
  v3 := Tryz.zeroValue3
  t4 := Tryz.underlying4
  a4 := Tryz.isAgg4
  z4 := Tryz.sizeOf4
  v4 := Tryz.zeroValue4
  t5 := Tryz.underlying5
  a5 := Tryz.isAgg5
  z5 := Tryz.sizeOf5
  v5 := Tryz.zeroValue5
  t9 := Tryz.underlying9
  a9 := Tryz.isAgg9
  z9 := Tryz.sizeOf9
  v9 := Tryz.zeroValue9
  t22 := Tryz.underlying159
  a22 := Tryz.isAgg159
  z22 := Tryz.sizeOf159
  v22 := Tryz.zeroValue159
  t25 := Tryz.underlying287
  a25 := Tryz.isAgg287
  z25 := Tryz.sizeOf287
  v25 := Tryz.zeroValue287
  t39 := Tryz.underlying234
  a39 := Tryz.isAgg234
  z39 := Tryz.sizeOf234
  v39 := Tryz.zeroValue234
  t45 := Tryz.underlying294
  a45 := Tryz.isAgg294
  z45 := Tryz.sizeOf294
  v45 := Tryz.zeroValue294
  t46 := Tryz.underlying295
  a46 := Tryz.isAgg295
  z46 := Tryz.sizeOf295
  v46 := Tryz.zeroValue295
  t50 := Tryz.underlying265
  a50 := Tryz.isAgg265
  z50 := Tryz.sizeOf265
  v50 := Tryz.zeroValue265
  t53 := Tryz.underlying301
  a53 := Tryz.isAgg301
  z53 := Tryz.sizeOf301
  v53 := Tryz.zeroValue301
  t55 := Tryz.underlying303
  a55 := Tryz.isAgg303
  z55 := Tryz.sizeOf303
  v55 := Tryz.zeroValue303
  t66 := Tryz.underlying334
  a66 := Tryz.isAgg334
  z66 := Tryz.sizeOf334
  v66 := Tryz.zeroValue334
  t70 := Tryz.underlying338
  a70 := Tryz.isAgg338
  z70 := Tryz.sizeOf338
  v70 := Tryz.zeroValue338
  t76 := Tryz.underlying356
  a76 := Tryz.isAgg356
  z76 := Tryz.sizeOf356
  v76 := Tryz.zeroValue356
  t77 := Tryz.underlying349
  a77 := Tryz.isAgg349
  z77 := Tryz.sizeOf349
  v77 := Tryz.zeroValue349 }
def Tryz.idxR_ren : Go.Shelf.Ren := ⟨fun | 6 => 276 | n => n, fun | 22 => 159 | 23 => 248 | 25 => 332 | 3 => 3 | 0 => 0 | 4 => 4 | n => n, fun | n => n⟩
theorem Tryz.idxR : Go.Proofs.SlLaysH0.n6 Tryz.prog Tryz.idxR_ren := {
  mixed := by kernel_rfl
  f6 := ⟨Tryz.f276.name, by decide, Tryz.func276.trans (congrArg some (by kernel_rfl))⟩
  t0 := Tryz.underlying0
  a0 := Tryz.isAgg0
  z0 := Tryz.sizeOf0
  v0 := Tryz.zeroValue0
  t3 := Tryz.underlying3
  a3 := Tryz.isAgg3
  z3 := Tryz.sizeOf3
  v3 := Tryz.zeroValue3
  t4 := Tryz.underlying4
  a4 := Tryz.isAgg4
  z4 := Tryz.sizeOf4
  v4 := Tryz.zeroValue4
  t22 := Tryz.underlying159
  a22 := Tryz.isAgg159
  z22 := Tryz.sizeOf159
  v22 := Tryz.zeroValue159
  t25 := Tryz.underlying332
  a25 := Tryz.isAgg332
  z25 := Tryz.sizeOf332
  v25 := Tryz.zeroValue332 }
def Tryz.cntD_ren : Go.Shelf.Ren := ⟨fun | 8 => 209 | 6 => 267 | n => n, fun | 22 => 27 | 23 => 40 | 25 => 276 | 4 => 4 | 3 => 3 | 0 => 0 | n => n, fun | n => n⟩
theorem Tryz.cntD : Go.Proofs.SlLaysH0.n8 Tryz.prog Tryz.cntD_ren := {
  mixed := by kernel_rfl
  f6 := ⟨Tryz.f267.name, by decide, Tryz.func267.trans (congrArg some (by kernel_rfl))⟩
  f8 := ⟨Tryz.f209.name, by decide, Tryz.func209.trans (congrArg some (by kernel_rfl))⟩
  t0 := Tryz.underlying0
  a0 := Tryz.isAgg0
  z0 := Tryz.sizeOf0
  v0 := Tryz.zeroValue0
  t3 := Tryz.underlying3
  a3 := Tryz.isAgg3
  z3 := Tryz.sizeOf3
  v3 := Tryz.zeroValue3
  t4 := Tryz.underlying4
  a4 := Tryz.isAgg4
  z4 := Tryz.sizeOf4
  v4 := Tryz.zeroValue4
  t22 := Tryz.underlying27
  a22 := Tryz.isAgg27
  z22 := Tryz.sizeOf27
  v22 := Tryz.zeroValue27
  t25 := Tryz.underlying276
  a25 := Tryz.isAgg276
  z25 := Tryz.sizeOf276
  v25 := Tryz.zeroValue276 }
def Tryz.cmpL_ren : Go.Shelf.Ren := ⟨fun | 5 => 161 | 7 => 234 | n => n, fun | 22 => 3 | 3 => 3 | 4 => 4 | n => n, fun | n => n⟩
theorem Tryz.cmpL : Go.Proofs.SlLaysC2.n5 Tryz.prog Tryz.cmpL_ren := {
  mixed := by kernel_rfl
  f5 := ⟨Tryz.f161.name, by decide, Tryz.func161.trans (congrArg some (by kernel_rfl))⟩
  f7 := ⟨Tryz.f234.name, by decide, Tryz.func234.trans (congrArg some (by kernel_rfl))⟩
  t3 := Tryz.underlying3
  a3 := Tryz.isAgg3
  z3 := Tryz.sizeOf3
  v3 := Tryz.zeroValue3
  t4 := Tryz.underlying4
  a4 := Tryz.isAgg4
  z4 := Tryz.sizeOf4
  v4 := Tryz.zeroValue4
  t22 := Tryz.underlying3
  a22 := Tryz.isAgg3
  z22 := Tryz.sizeOf3
  v22 := Tryz.zeroValue3 }
end Go.Proofs
namespace Go.Proofs.YthfjgpjcepmnmaaGreat
open Go.RowKit Go.Shelf

theorem grown_grow (w : World) (os : Array Obj) : w.grownBy (Go.Sort.grow w os) none := ⟨rfl, rfl, rfl, by rw [Go.Sort.size_grow]; omega, fun k hk _ => Go.Sort.heap_grow_old w os hk⟩
theorem sorted_own {w : World} {base g n cap q e size : Nat} {xs vs : List Value} {os : Array Obj} (h : w.ownsRow base e size (.slice (some ⟨g, 0, none⟩) n cap) n xs) (hv : vs.length = n * size) : (Go.Sort.grow ((w.drewN q).setCells g 0 vs) os).ownsRow base e size (.slice (some ⟨g, 0, none⟩) n cap) n vs ∧ w.grownBy (Go.Sort.grow ((w.drewN q).setCells g 0 vs) os) (some g) := by
  have h0 : (w.drewN q).ownsRow base e size (.slice (some ⟨g, 0, none⟩) n cap) n xs := h
  obtain ⟨h1, h2⟩ := own_setCells vs xs 0 _ h0
  rw [setFrom_all (by rw [hv, h.1])] at h1
  have k := grown_grow ((w.drewN q).setCells g 0 vs) os
  refine ⟨World.ownsRow.kept h1 k (Or.inr (by simp [Value.ownBlock])), ?_⟩
  have h3 : w.grownBy ((w.drewN q).setCells g 0 vs) (some g) := grown_trans (grown_drewN w q _) h2
  exact grown_trans h3 ⟨k.os, k.tape, k.output, k.size, fun i hi _ => k.block i hi (by simp)⟩
theorem flat_cs {α : Type} [Inhabited α] (R : RecT α) (l : List α) : (Go.Sort.flatK R.enc R.k l.toArray).toList = R.cs l := by
  refine List.ext_getElem? fun t => ?_
  by_cases ht : t < l.length * R.k
  · have hq : t / R.k < l.length := Nat.div_lt_of_lt_mul (by rw [Nat.mul_comm]; exact ht)
    have hr : t % R.k < R.k := Nat.mod_lt _ R.hp
    have e3 : t = t / R.k * R.k + t % R.k := by rw [Nat.mul_comm]; exact (Nat.div_add_mod _ _).symm
    have h1 : (R.cs l)[t]? = (R.enc l[t / R.k])[t % R.k]? := by
      have := R.at' (List.getElem?_eq_getElem hq) (t % R.k) hr
      rw [← e3] at this
      exact this
    have hs : t < (Go.Sort.flatK R.enc R.k l.toArray).size := by rw [Go.Sort.size_flatK]; simpa using ht
    have h2 := Go.Sort.get_flatK R.enc R.k l.toArray t (by simpa using ht)
    rw [h1, Array.getElem?_toList, Array.getElem?_eq_getElem hs]
    rw [getElem!_pos (Go.Sort.flatK R.enc R.k l.toArray) t hs] at h2
    rw [h2]
    have h3 : l.toArray[t / R.k]! = l[t / R.k] := by simp [hq]
    rw [h3]
    have h4 : t % R.k < (R.enc l[t / R.k]).length := by rw [R.hk]; exact hr
    rw [List.getElem?_eq_getElem h4, getElem!_pos (R.enc l[t / R.k]) (t % R.k) h4]
  · rw [List.getElem?_eq_none (by rw [Array.length_toList, Go.Sort.size_flatK]; simpa using ht), List.getElem?_eq_none (by rw [R.len]; omega)]
theorem permK {α : Type} [Inhabited α] {d d' : Array α} (h : Go.Sort.PermIn 0 d.size d d') : d'.toList.Perm d.toList := by
  obtain ⟨h1, _, h2⟩ := h
  have e1 : (d'.extract 0 d.size).toList = d'.toList := by rw [← h1]; simp
  have e2 : (d.extract 0 d.size).toList = d.toList := by simp
  rw [e1, e2] at h2
  exact h2
theorem sortedK {α : Type} [Inhabited α] {lt : α → α → Bool} {d : Array α} {n : Nat} (hn : d.size = n) (h : Go.Sort.SortedIn lt 0 n d) : d.toList.Pairwise fun a b => lt b a = false := by
  rw [List.pairwise_iff_getElem]
  intro i j hi hj hij
  have hi' : i < d.size := by simpa using hi
  have hj' : j < d.size := by simpa using hj
  have := h i j (Nat.zero_le _) hij (by omega)
  simp [hi', hj'] at this
  simpa using this
theorem sortQ {P : Program} {ρ : Ren} {α : Type} [Inhabited α] (L : SlLaysF0.n6 P ρ) (R : RecT α) (T : TypeId) (aE : ∀ w, (isAgg (ρ.t 24)).run P w = .ok true w) (zE : ∀ w, (Go.sizeOf (ρ.t 24)).run P w = .ok R.k w) (cf : α → α → Int) (hO : Go.Sort.SWO (ltOf cf)) (g : Nat) (eg : ∀ args w, (callFunc g args).run P w = .ok (.enter g args) w)
    (hc : ∀ (x y : α) (W : World), Calls P g #[.agg (R.enc x).toArray, .agg (R.enc y).toArray] W fun e w' => e = .returned (.int .i64 (cf x y)) ∧ ∃ q os', w' = Go.Sort.grow (W.drewN q) os')
    (base gb cap : Nat) (l : List α) (w : World) (O : R.Own T w base (.slice (some ⟨gb, 0, none⟩) l.length cap) l) (hs : l.length < 4611686018427387904) :
    Calls P (ρ.f 6) #[.slice (some ⟨gb, 0, none⟩) l.length cap, .func (.func g) #[] #[]] w fun e w' => e = .returned (.tuple #[]) ∧ ∃ l', l'.Perm l ∧ (l'.Pairwise fun a b => ltOf cf b a = false) ∧ R.Own T w' base (.slice (some ⟨gb, 0, none⟩) l.length cap) l' ∧ w.grownBy w' (some gb) := by
  have hb : gb < w.heap.size := (O.lt gb rfl).2
  have hH : Go.Sort.HoldsK R.enc R.k w gb 0 l.toArray := by
    intro j hj
    rw [Nat.zero_add]
    have hj' : j < l.length * R.k := by rw [Go.Sort.size_flatK] at hj; simpa using hj
    refine ⟨?_, World.ownsRow.frozenAt O j⟩
    rw [World.ownsRow.cellAt O j hj', ← flat_cs R l, Array.getElem?_toList, Array.getElem?_eq_getElem hj, getElem!_pos (Go.Sort.flatK R.enc R.k l.toArray) j hj]
    rfl
  have hS := AnyQ.slices_SortFunc L R.k aE zE R.enc R.hk R.h1 cf hO g #[] gb 0 cap l.toArray w eg (fun _ _ _ _ x y => hc x y _) hH hb (by simpa using hs)
  simp only [List.size_toArray] at hS
  refine hS.mono ?_
  rintro e w' ⟨rfl, d', n, os, hp, hso, rfl⟩
  have hd : d'.size = l.length := by have := hp.1; simpa using this
  refine ⟨rfl, d'.toList, by simpa using permK (d := l.toArray) (by simpa using hp), sortedK hd hso, ?_⟩
  have ef : (Go.Sort.flatK R.enc R.k d').toList = R.cs d'.toList := by simpa using flat_cs R d'.toList
  have ew : sortWorldK R.enc R.k w gb 0 n d' os = Go.Sort.grow ((w.drewN n).setCells gb 0 (R.cs d'.toList)) os := by
    have := Lib.sorted_world id w gb 0 n (Go.Sort.flatK R.enc R.k l.toArray) (Go.Sort.flatK R.enc R.k d').toList os hH (by rw [Array.length_toList, Go.Sort.size_flatK, Go.Sort.size_flatK, hd]; simp)
    rw [List.map_id, ef] at this
    rw [← this]
    unfold sortWorldK Go.Sort.putRowK
    congr 2
    rw [← ef]
  rw [ew]
  obtain ⟨o1, g1⟩ := sorted_own (q := n) (os := os) (vs := R.cs d'.toList) O (by rw [R.len, Array.length_toList, hd])
  refine ⟨?_, g1⟩
  unfold RecT.Own
  rw [show d'.toList.length = l.length from by rw [Array.length_toList, hd]]
  exact o1
end Go.Proofs.YthfjgpjcepmnmaaGreat
