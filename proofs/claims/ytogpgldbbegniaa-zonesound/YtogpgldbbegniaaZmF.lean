/-
  Zones: byStamp: a list of numbers of things, sorted by their stamps.
-/
import Derived.Test.YtogpgldbbegniaaZmE
namespace Go.Proofs.Ytogpgldbbegniaa
open Go.RowKit

theorem fins_of {N : Nat} : ∀ (l : List Int), (∀ n ∈ l, 1 ≤ n ∧ n ≤ (N : Int)) → ∃ D : List (Fin N), D.map (fun i => (i.val : Int) + 1) = l
  | [], _ => ⟨[], rfl⟩
  | n :: l, h => by
    obtain ⟨D, hD⟩ := fins_of l fun m hm => h m (List.mem_cons_of_mem _ hm)
    have h1 := h n List.mem_cons_self
    refine ⟨⟨(n - 1).toNat, by omega⟩ :: D, ?_⟩
    rw [List.map_cons, hD]
    congr 1
    show (((n - 1).toNat : Nat) : Int) + 1 = n
    omega
def encF {N : Nat} (i : Fin N) : Value := .int .i64 ((i.val : Int) + 1)
def stF {N : Nat} (ts : List Th) (i : Fin N) : Int := stOf ts ((i.val : Int) + 1)
def cfF {N : Nat} (ts : List Th) (i j : Fin N) : Int := Lib.compareInt (stF ts i) (stF ts j)
theorem ltF {N : Nat} (ts : List Th) (i j : Fin N) : Go.Proofs.ltOf (cfF ts) i j = decide (stF ts i < stF ts j) := by
  unfold Go.Proofs.ltOf cfF Lib.compareInt
  by_cases h1 : stF ts i < stF ts j
  · simp [h1]
  · by_cases h2 : stF ts j < stF ts i <;> simp [h1, h2]
theorem swoF {N : Nat} [Inhabited (Fin N)] (ts : List Th) : Go.Sort.SWO (Go.Proofs.ltOf (cfF (N := N) ts)) where
  irrefl x := by rw [ltF]; simp
  trans x y z h1 h2 := by rw [ltF] at *; simp at *; omega
  ntrans x y z h1 h2 := by rw [ltF] at *; simp at *; omega
theorem encF_map {N : Nat} (D : List (Fin N)) : D.map encF = ints (D.map fun i => (i.val : Int) + 1) := by
  unfold ints
  rw [List.map_map]
  rfl
theorem sorted_list {N : Nat} [Inhabited (Fin N)] {ts : List Th} {d : Array (Fin N)} {n : Nat} (hn : d.size = n) (h : Go.Sort.SortedIn (Go.Proofs.ltOf (cfF ts)) 0 n d) : (d.toList.map fun i => (i.val : Int) + 1).Pairwise fun a b => stOf ts a ≤ stOf ts b := by
  rw [List.pairwise_map, List.pairwise_iff_getElem]
  intro i j hi hj hij
  have hi' : i < d.size := by simpa using hi
  have hj' : j < d.size := by simpa using hj
  have := h i j (Nat.zero_le _) hij (by omega)
  rw [ltF] at this
  simp [hi', hj'] at this
  simp
  exact this
theorem perm_list {N : Nat} [Inhabited (Fin N)] {d d' : Array (Fin N)} (h : Go.Sort.PermIn 0 d.size d d') : d'.toList.Perm d.toList := by
  obtain ⟨h1, _, h2⟩ := h
  have e1 : (d'.extract 0 d.size).toList = d'.toList := by rw [← h1]; simp
  have e2 : (d.extract 0 d.size).toList = d.toList := by simp
  rw [e1, e2] at h2
  exact h2
theorem sortW_cell {α : Type} [Inhabited α] (enc : α → Value) (w : World) (g m : Nat) (d : Array α) (os : Array Obj) (a : Addr) (hg : a.block ≠ g) (hs : a.block < w.heap.size) : (Go.Proofs.sortWorld enc w g 0 m d os).cell? a = w.cell? a := by
  unfold Go.Proofs.sortWorld
  rw [Go.Sort.cell?_grow _ _ _ (by rw [Go.Sort.size_putRow]; exact hs), Go.Sort.cell?_putRow_other _ _ _ _ _ _ (Or.inl hg), Go.Sort.cell?_ahead]
/-- What byStamp answers. -/
def BsPost (w0 : World) (v : Value) (ts : List Th) (l : List Int) (e : Ending) (w' : World) : Prop := ∃ l', e = .returned v ∧ l'.Perm l ∧ (l'.Pairwise fun a b => stOf ts a ≤ stOf ts b) ∧ OwnI w' w0.heap.size v l' ∧ w0.grownBy w' none
set_option maxRecDepth 100000 in
set_option maxHeartbeats 2000000 in
theorem byStamp_any (w0 w : World) (b : Nat) (vt v : Value) (ts : List Th) (l : List Int) (c0 : w0.cell? ⟨b, 0, none⟩ = some vt) (T : ThsAt w0 vt ts) (hf : ts.length ≤ 2048) (G : w0.grownBy w none) (O : OwnI w w0.heap.size v l) (hl : ∀ n ∈ l, there ts n) (hk : l.length ≤ 4096) : Calls Try.prog 66 #[.pointer (some ⟨b, 0, none⟩), v] w (BsPost w0 v ts l) := by
  have hmf : ∀ (fn : Fn) (first cap : Array Value) (w : World), (Instr.makeFunc fn first cap).run Try.prog w = .ok (.func fn first cap) w := fun _ _ _ _ => rfl
  obtain ⟨n, hn⟩ : ∃ n, n = l.length := ⟨_, rfl⟩
  by_cases h0 : n = 0
  · have e1 : l = [] := List.length_eq_zero_iff.1 (by omega)
    subst e1
    obtain ⟨p, cap, rfl⟩ := O.form
    have hS := fun fv W => AnyF.slices_SortFunc_none (P := Try.prog) (ρ := Try.sortL_ren) { Try.sortL with } p cap fv W
    change ∀ fv W, Calls Try.prog 99 _ _ _ at hS
    have HF : Hid (∀ o, BsPost w0 (.slice p 0 cap) ts [] (.returned (.slice p 0 cap)) (w.alloc o)) := fun o => ⟨[], rfl, List.Perm.refl _, List.Pairwise.nil, O.lay o, grown_push G o⟩
    clear T O G c0 hl hn
    go_enter Try.func66, Try.ntmps66
    go_wp2_with (go_at_call 99; refine (hS _ _).mono ?_; rintro e w' ⟨rfl, rfl⟩)
    go_ret
    exact HF.out _
  · have hpos : 0 < l.length := by omega
    obtain ⟨g, cap, e1, hgb, hgs, _, _, _⟩ := own_cell O hpos
    subst e1
    have hN : 0 < ts.length := by
      have := hl (l[0]'hpos) (List.getElem_mem hpos)
      unfold there at this
      omega
    obtain ⟨pt, ct, rfl, _, hT⟩ := T
    obtain ⟨gt, off, rfl, hR⟩ := hT hN
    obtain ⟨D, hD⟩ := fins_of (N := ts.length) l (fun m hm => hl m hm)
    haveI : Inhabited (Fin ts.length) := ⟨⟨0, hN⟩⟩
    have hDl : D.length = l.length := by rw [← hD, List.length_map]
    obtain ⟨W1, hW1⟩ : ∃ W1, W1 = w.alloc (.cells #[.pointer (some ⟨b, 0, none⟩)] 25) := ⟨_, rfl⟩
    have hsz : W1.heap.size = w.heap.size + 1 := by rw [hW1, World.size_alloc]
    have G1 : w0.grownBy W1 none := by rw [hW1]; exact grown_push G _
    have cc : W1.cell? ⟨w.heap.size, 0, none⟩ = some (.pointer (some ⟨b, 0, none⟩)) := by rw [hW1, block_cell (alloc_at _ _ _)]; rfl
    have O1 : W1.ownsRow w0.heap.size 3 1 (.slice (some ⟨g, 0, none⟩) l.length cap) l.length (ints l) := by rw [hW1]; exact World.ownsRow.alloc O _
    have cell0 : ∀ a x, w0.cell? a = some x → a.block < w0.heap.size := fun a x h => World.block_lt_of_cell? _ _ h
    have hcmp : CmpReads Try.prog 100 #[.pointer (some ⟨w.heap.size, 0, none⟩)] (encF (N := ts.length)) (cfF ts) g 0 D.toArray.size W1 := by
      intro m os dk hs x y
      have keep : ∀ a u, w0.cell? a = some u → (Go.Proofs.sortWorld encF W1 g 0 m dk os).cell? a = some u := fun a u h => by
        have := cell0 a u h
        rw [sortW_cell encF W1 g m dk os a (by omega) (by have := G1.size; omega)]
        exact G1.cell h (by simp)
      have hx := x.isLt
      have hy := y.isLt
      refine cmpSt_any _ w.heap.size b gt off ts.length ct x.val y.val (stF ts x) (stF ts y) hx hy hf ?_ (keep _ _ c0) (keep _ _ ?_) (keep _ _ ?_)
      · rw [sortW_cell encF W1 g m dk os _ (by show w.heap.size ≠ g; omega) (by show w.heap.size < _; omega)]
        exact cc
      · have := hR x.val ts[x.val] (List.getElem?_eq_getElem hx) 3 _ rfl
        rw [this]
        unfold stF stOf
        rw [thAt_at hx]
      · have := hR y.val ts[y.val] (List.getElem?_eq_getElem hy) 3 _ rfl
        rw [this]
        unfold stF stOf
        rw [thAt_at hy]
    have hH : Go.Sort.Holds encF W1 g 0 D.toArray := by
      intro j hj
      have hj' : j < D.length := by simpa using hj
      rw [Nat.zero_add]
      refine ⟨?_, World.ownsRow.frozenAt O1 j⟩
      rw [World.ownsRow.cellAt O1 j (by omega), ← hD, ← encF_map, List.getElem?_map]
      simp [hj']
    have eg : ∀ args w, (callFunc 100 args).run Try.prog w = .ok (.enter 100 args) w := enters_of Try.func100 (by kernel_rfl) rfl
    have hS := Any.slices_SortFunc Try.sortL encF (fun _ => rfl) (cfF ts) (swoF ts) 100 #[.pointer (some ⟨w.heap.size, 0, none⟩)] g 0 cap D.toArray W1 eg hcmp.lays hH (by omega) (by simp; omega)
    change Calls Try.prog 99 _ _ _ at hS
    have hsz2 : D.toArray.size = l.length := by simp [hDl]
    have hS2 : Calls Try.prog 99 #[.slice (some ⟨g, 0, none⟩) l.length cap, .func (.func 100) #[] #[.pointer (some ⟨w.heap.size, 0, none⟩)]] W1 fun e w' => e = .returned (.tuple #[]) ∧ Hid (BsPost w0 (.slice (some ⟨g, 0, none⟩) l.length cap) ts l (.returned (.slice (some ⟨g, 0, none⟩) l.length cap)) w') := by
      rw [← hsz2]
      refine hS.mono ?_
      rintro e w' ⟨rfl, d', q, os, hp, hs, rfl⟩
      refine ⟨rfl, ?_⟩
      show BsPost _ _ _ _ _ _
      have hd : d'.size = D.toArray.size := hp.1
      have hd2 : d'.toList.length = l.length := by rw [Array.length_toList, hd, hsz2]
      have ew : Go.Proofs.sortWorld encF W1 g 0 q d' os = Go.Sort.grow ((W1.drewN q).setCells g 0 (d'.toList.map encF)) os := by
        unfold Go.Proofs.sortWorld
        have := Lib.sorted_world encF W1 g 0 q D.toArray d'.toList os hH (by rw [Array.length_toList]; exact hd)
        rw [← this]
      rw [ew, encF_map, hsz2]
      obtain ⟨o2, g2⟩ := sorted_own (q := q) (os := os) (vs := ints (d'.toList.map fun i => (i.val : Int) + 1)) O1 (by rw [length_ints, List.length_map]; exact hd2)
      refine ⟨_, rfl, ?_, sorted_list hd hs, ?_, grown_own G1 g2 (fun x e => by cases e; exact hgb)⟩
      · rw [← hD]
        have := perm_list hp
        exact this.map _
      · unfold OwnI
        rw [List.length_map, hd2]
        exact o2
    have HW : Hid (W1 = w.alloc (.cells #[.pointer (some ⟨b, 0, none⟩)] 25)) := hW1
    rw [hW1] at hS2
    clear hS hH hcmp O1 cc G1 hW1 HW hsz hR hT hD hDl O G c0 hl cell0 hgb hgs hN hf eg hsz2 hpos h0 hn
    go_enter Try.func66, Try.ntmps66
    go_wp2_with (go_at_call 99; refine hS2.mono ?_; rintro e w' ⟨rfl, HB⟩)
    go_ret
    exact HB.out
end Go.Proofs.Ytogpgldbbegniaa
