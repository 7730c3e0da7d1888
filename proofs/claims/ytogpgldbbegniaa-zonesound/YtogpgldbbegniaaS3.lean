/-
  Zones: a list of numbers sorted, held against another one; by stamp: the program's comparison, byStamp.
  Zones: byStamp: a list of numbers of things, sorted by their stamps.
  Zones: append; what lies on the table; In, Deck, Hand, Table, Things; whether a list holds just an owner's things in a place.
  Zones: In, Deck, Hand, Things, Thing; whether a list holds just an owner's things in a place; room on the table.
-/
import Derived.Test.YtogpgldbbegniaaS2
import Derived.Shelf.SlSortCmp.NoneTotal
import Derived.Lib.RowBridge
import Derived.Lib.SortBridge
namespace Go.Proofs.Ytogpgldbbegniaa
open Go.RowKit

theorem grown_grow (w : World) (os : Array Obj) : w.grownBy (Go.Sort.grow w os) none := ⟨rfl, rfl, rfl, by rw [Go.Sort.size_grow]; omega, fun k hk _ => Go.Sort.heap_grow_old w os hk⟩
theorem sorted_own {w : World} {base g n cap q : Nat} {xs vs : List Value} {os : Array Obj} (h : w.ownsRow base 3 1 (.slice (some ⟨g, 0, none⟩) n cap) n xs) (hv : vs.length = n) : (Go.Sort.grow ((w.drewN q).setCells g 0 vs) os).ownsRow base 3 1 (.slice (some ⟨g, 0, none⟩) n cap) n vs ∧ w.grownBy (Go.Sort.grow ((w.drewN q).setCells g 0 vs) os) (some g) := by
  have h0 : (w.drewN q).ownsRow base 3 1 (.slice (some ⟨g, 0, none⟩) n cap) n xs := h
  obtain ⟨h1, h2⟩ := own_setCells vs xs 0 _ h0
  rw [setFrom_all (by rw [hv, h.1]; omega)] at h1
  have k := grown_grow ((w.drewN q).setCells g 0 vs) os
  refine ⟨World.ownsRow.kept h1 k (Or.inr (by simp [Value.ownBlock])), ?_⟩
  have h3 : w.grownBy ((w.drewN q).setCells g 0 vs) (some g) := grown_trans (grown_drewN w q _) h2
  exact grown_trans h3 ⟨k.os, k.tape, k.output, k.size, fun i hi _ => k.block i hi (by simp)⟩
theorem own_holds {w : World} {base g n cap : Nat} {l : List Int} (h : w.ownsRow base 3 1 (.slice (some ⟨g, 0, none⟩) n cap) n (ints l)) (hn : l.length = n) : Go.Sort.Holds (Value.int .i64) w g 0 l.toArray := by
  intro j hj
  have hj' : j < l.length := by simpa using hj
  rw [Nat.zero_add]
  refine ⟨?_, World.ownsRow.frozenAt h j⟩
  rw [World.ownsRow.cellAt h j (by omega), ints_at l j hj']
  simp [List.getD, hj']
theorem own_glt {w : World} {base g n cap : Nat} {xs : List Value} (h : w.ownsRow base 3 1 (.slice (some ⟨g, 0, none⟩) n cap) n xs) : g < w.heap.size ∧ base ≤ g := by
  have := World.ownsRow.lt h g rfl
  exact ⟨this.2, this.1⟩
theorem sortI_any (base g n cap : Nat) (l : List Int) (w : World) (h : w.ownsRow base 3 1 (.slice (some ⟨g, 0, none⟩) n cap) n (ints l)) (hn : l.length = n) (hs : n < 4611686018427387904) : Calls Try.prog 102 #[.slice (some ⟨g, 0, none⟩) n cap] w fun e w' => e = .returned (.tuple #[]) ∧ w'.ownsRow base 3 1 (.slice (some ⟨g, 0, none⟩) n cap) n (ints (srt l)) ∧ w.grownBy w' (some g) := by
  have hH := own_holds h hn
  have hS := AnyG.slices_Sort_int Try.sortI g 0 cap l w hH (own_glt h).1 (by omega)
  change Calls Try.prog 102 _ _ _ at hS
  rw [hn] at hS
  refine hS.mono ?_
  rintro e w' ⟨rfl, q, os, rfl⟩
  rw [Lib.sorted_world (Value.int .i64) w g 0 q l.toArray _ os hH (by simp)]
  exact ⟨rfl, sorted_own h (by rw [List.length_map, ← hn]; exact srt_len l)⟩
theorem equalI_any (g n m cap : Nat) (v : Value) (base base' : Nat) (l r : List Int) (w : World) (h : w.ownsRow base 3 1 (.slice (some ⟨g, 0, none⟩) n cap) n (ints l)) (hn : l.length = n) (k : w.ownsRow base' 3 1 v m (ints r)) (hm : r.length = m) : Calls Try.prog 103 #[.slice (some ⟨g, 0, none⟩) n cap, v] w fun e w' => e = .returned (.bool (decide (l = r))) ∧ w.grownBy w' none := by
  obtain ⟨pv, cv, rfl, hml⟩ := own_slice k
  obtain ⟨_, _, _, hnl⟩ := own_slice h
  unfold maxLen at hml hnl
  by_cases h0 : n = 0
  · subst h0
    have hS := AnyG.slices_Equal_int_empty Try.equalL (some ⟨g, 0, none⟩) pv cap m cv w hml
    change Calls Try.prog 103 _ _ _ at hS
    refine hS.mono ?_
    rintro e w' ⟨rfl, rfl⟩
    refine ⟨?_, grown_refl _ _⟩
    have e1 : l = [] := List.length_eq_zero_iff.1 hn
    subst e1
    congr 2
    rw [← hm]
    simp [eq_comm]
  · by_cases h1 : m = 0
    · subst h1
      have e1 : r = [] := List.length_eq_zero_iff.1 hm
      subst e1
      have hl : l ≠ [] := fun e => h0 (by rw [← hn, e]; rfl)
      have hb : ((n : Int) == ((0 : Nat) : Int)) = false := by simpa using h0
      rw [decide_eq_false hl]
      clear h k hl hn hm hml hnl
      have hb2 : ((n : Int) == 0) = false := hb
      have hb3 : ((n : Int) != 0) = true := by simp [bne, hb2]
      go_enter Try.func103, Try.ntmps103
      go_wp2
      go_ret
      exact ⟨rfl, grown_refl _ _⟩
    · obtain ⟨g', cv', e1, _, _, _, _, hc⟩ := own_cell k (by omega)
      cases e1
      have hS := AnyG.slices_Equal_int Try.equalL g 0 n cap g' 0 m cv l r w (by omega) (by omega) hnl hml (fun j hj => by rw [Nat.zero_add, World.ownsRow.cellAt h j (by omega)]; exact ints_at l j hj) (fun j hj => by rw [Nat.zero_add, (hc j (by omega)).1]; exact ints_at r j hj)
      change Calls Try.prog 103 _ _ _ at hS
      refine hS.mono ?_
      rintro e w' ⟨rfl, q, rfl⟩
      rw [List.take_of_length_le (by omega), List.take_of_length_le (by omega)]
      refine ⟨?_, grown_drewN _ _ _⟩
      congr 2
      by_cases e2 : l = r
      · simp [e2]
      · simp [e2]
set_option maxRecDepth 100000 in
set_option maxHeartbeats 2000000 in
theorem cmpSt_any (W : World) (c b g off len cap i j : Nat) (sx sy : Int) (hi : i < len) (hj : j < len) (hl : len ≤ 2048) (cc : W.cell? ⟨c, 0, none⟩ = some (.pointer (some ⟨b, 0, none⟩))) (c0 : W.cell? ⟨b, 0, none⟩ = some (.slice (some ⟨g, off, none⟩) len cap)) (cx : W.cell? ⟨g, off + i * 11 + 3, none⟩ = some (.int .i64 sx)) (cy : W.cell? ⟨g, off + j * 11 + 3, none⟩ = some (.int .i64 sy)) : Calls Try.prog 100 #[.int .i64 ((i : Int) + 1), .int .i64 ((j : Int) + 1), .pointer (some ⟨c, 0, none⟩)] W fun e w' => e = .returned (.int .i64 (Lib.compareInt sx sy)) ∧ ∃ q, w' = W.drewN q := by
  have hcon := AnyG.cmp_Compare_int Try.cmpL sx sy
  change ∀ w, Calls Try.prog 101 _ _ _ at hcon
  obtain ⟨r, hr⟩ : ∃ r, r = Lib.compareInt sx sy := ⟨_, rfl⟩
  rw [← hr] at hcon ⊢
  clear hr
  have hw1 : IntKind.i64.wrap (i : Int) = (i : Int) := IntWalk.i64_in _ (by omega)
  have hw2 : IntKind.i64.wrap (j : Int) = (j : Int) := IntWalk.i64_in _ (by omega)
  have hi' : (i : Int) < len := by omega
  have hj' : (j : Int) < len := by omega
  go_enter Try.func100, Try.ntmps100
  go_wp2
  go_quiet ((go_at_call 101; exact Calls.quiet_of_same (hcon _)))
  go_wp2
  go_ret
  exact ⟨rfl, nq, rfl⟩
end Go.Proofs.Ytogpgldbbegniaa
namespace Go.Proofs.Ytogpgldbbegniaa
open Go.RowKit

theorem fins_of {N : Nat} : ∀ (l : List Int), (∀ n ∈ l, 1 ≤ n ∧ n ≤ (N : Int)) → ∃ D : List (Fin N), D.map (fun i => (i.val : Int) + 1) = l
  | [], _ => ⟨[], rfl⟩
  | n :: l, h => by
    obtain ⟨D, hD⟩ := fins_of l fun m hm => h m (List.mem_cons_of_mem _ hm)
    have h1 := h n List.mem_cons_self
    refine ⟨⟨(n - 1).toNat, by omega⟩ :: D, ?_⟩
    rw [List.map_cons, hD]
    congr 1
    show (((n - 1).toNat : Nat) : Int) + 1 = n
    omega
def encF {N : Nat} (i : Fin N) : Value := .int .i64 ((i.val : Int) + 1)
def stF {N : Nat} (ts : List Th) (i : Fin N) : Int := stOf ts ((i.val : Int) + 1)
def cfF {N : Nat} (ts : List Th) (i j : Fin N) : Int := Lib.compareInt (stF ts i) (stF ts j)
theorem ltF {N : Nat} (ts : List Th) (i j : Fin N) : Go.Proofs.ltOf (cfF ts) i j = decide (stF ts i < stF ts j) := by
  unfold Go.Proofs.ltOf cfF Lib.compareInt
  by_cases h1 : stF ts i < stF ts j
  · simp [h1]
  · by_cases h2 : stF ts j < stF ts i <;> simp [h1, h2]
theorem swoF {N : Nat} [Inhabited (Fin N)] (ts : List Th) : Go.Sort.SWO (Go.Proofs.ltOf (cfF (N := N) ts)) where
  irrefl x := by rw [ltF]; simp
  trans x y z h1 h2 := by rw [ltF] at *; simp at *; omega
  ntrans x y z h1 h2 := by rw [ltF] at *; simp at *; omega
theorem encF_map {N : Nat} (D : List (Fin N)) : D.map encF = ints (D.map fun i => (i.val : Int) + 1) := by
  unfold ints
  rw [List.map_map]
  rfl
theorem sorted_list {N : Nat} [Inhabited (Fin N)] {ts : List Th} {d : Array (Fin N)} {n : Nat} (hn : d.size = n) (h : Go.Sort.SortedIn (Go.Proofs.ltOf (cfF ts)) 0 n d) : (d.toList.map fun i => (i.val : Int) + 1).Pairwise fun a b => stOf ts a ≤ stOf ts b := by
  rw [List.pairwise_map, List.pairwise_iff_getElem]
  intro i j hi hj hij
  have hi' : i < d.size := by simpa using hi
  have hj' : j < d.size := by simpa using hj
  have := h i j (Nat.zero_le _) hij (by omega)
  rw [ltF] at this
  simp [hi', hj'] at this
  simp
  exact this
theorem perm_list {N : Nat} [Inhabited (Fin N)] {d d' : Array (Fin N)} (h : Go.Sort.PermIn 0 d.size d d') : d'.toList.Perm d.toList := by
  obtain ⟨h1, _, h2⟩ := h
  have e1 : (d'.extract 0 d.size).toList = d'.toList := by rw [← h1]; simp
  have e2 : (d.extract 0 d.size).toList = d.toList := by simp
  rw [e1, e2] at h2
  exact h2
theorem sortW_cell {α : Type} [Inhabited α] (enc : α → Value) (w : World) (g m : Nat) (d : Array α) (os : Array Obj) (a : Addr) (hg : a.block ≠ g) (hs : a.block < w.heap.size) : (Go.Proofs.sortWorld enc w g 0 m d os).cell? a = w.cell? a := by
  unfold Go.Proofs.sortWorld
  rw [Go.Sort.cell?_grow _ _ _ (by rw [Go.Sort.size_putRow]; exact hs), Go.Sort.cell?_putRow_other _ _ _ _ _ _ (Or.inl hg), Go.Sort.cell?_ahead]
/-- What byStamp answers. -/
def BsPost (w0 : World) (v : Value) (ts : List Th) (l : List Int) (e : Ending) (w' : World) : Prop := ∃ l', e = .returned v ∧ l'.Perm l ∧ (l'.Pairwise fun a b => stOf ts a ≤ stOf ts b) ∧ OwnI w' w0.heap.size v l' ∧ w0.grownBy w' none
set_option maxRecDepth 100000 in
set_option maxHeartbeats 2000000 in
theorem byStamp_any (w0 w : World) (b : Nat) (vt v : Value) (ts : List Th) (l : List Int) (c0 : w0.cell? ⟨b, 0, none⟩ = some vt) (T : ThsAt w0 vt ts) (hf : ts.length ≤ 2048) (G : w0.grownBy w none) (O : OwnI w w0.heap.size v l) (hl : ∀ n ∈ l, there ts n) (hk : l.length ≤ 4096) : Calls Try.prog 66 #[.pointer (some ⟨b, 0, none⟩), v] w (BsPost w0 v ts l) := by
  have hmf : ∀ (fn : Fn) (first cap : Array Value) (w : World), (Instr.makeFunc fn first cap).run Try.prog w = .ok (.func fn first cap) w := fun _ _ _ _ => rfl
  obtain ⟨n, hn⟩ : ∃ n, n = l.length := ⟨_, rfl⟩
  by_cases h0 : n = 0
  · have e1 : l = [] := List.length_eq_zero_iff.1 (by omega)
    subst e1
    obtain ⟨p, cap, rfl⟩ := O.form
    have hS := fun fv W => AnyF.slices_SortFunc_none (P := Try.prog) (ρ := Try.sortL_ren) { Try.sortL with } p cap fv W
    change ∀ fv W, Calls Try.prog 99 _ _ _ at hS
    have HF : Hid (∀ o, BsPost w0 (.slice p 0 cap) ts [] (.returned (.slice p 0 cap)) (w.alloc o)) := fun o => ⟨[], rfl, List.Perm.refl _, List.Pairwise.nil, O.lay o, grown_push G o⟩
    clear T O G c0 hl hn
    go_enter Try.func66, Try.ntmps66
    go_wp2_with (go_at_call 99; refine (hS _ _).mono ?_; rintro e w' ⟨rfl, rfl⟩)
    go_ret
    exact HF.out _
  · have hpos : 0 < l.length := by omega
    obtain ⟨g, cap, e1, hgb, hgs, _, _, _⟩ := own_cell O hpos
    subst e1
    have hN : 0 < ts.length := by
      have := hl (l[0]'hpos) (List.getElem_mem hpos)
      unfold there at this
      omega
    obtain ⟨pt, ct, rfl, _, hT⟩ := T
    obtain ⟨gt, off, rfl, hR⟩ := hT hN
    obtain ⟨D, hD⟩ := fins_of (N := ts.length) l (fun m hm => hl m hm)
    haveI : Inhabited (Fin ts.length) := ⟨⟨0, hN⟩⟩
    have hDl : D.length = l.length := by rw [← hD, List.length_map]
    obtain ⟨W1, hW1⟩ : ∃ W1, W1 = w.alloc (.cells #[.pointer (some ⟨b, 0, none⟩)] 25) := ⟨_, rfl⟩
    have hsz : W1.heap.size = w.heap.size + 1 := by rw [hW1, World.size_alloc]
    have G1 : w0.grownBy W1 none := by rw [hW1]; exact grown_push G _
    have cc : W1.cell? ⟨w.heap.size, 0, none⟩ = some (.pointer (some ⟨b, 0, none⟩)) := by rw [hW1, block_cell (alloc_at _ _ _)]; rfl
    have O1 : W1.ownsRow w0.heap.size 3 1 (.slice (some ⟨g, 0, none⟩) l.length cap) l.length (ints l) := by rw [hW1]; exact World.ownsRow.alloc O _
    have cell0 : ∀ a x, w0.cell? a = some x → a.block < w0.heap.size := fun a x h => World.block_lt_of_cell? _ _ h
    have hcmp : CmpReads Try.prog 100 #[.pointer (some ⟨w.heap.size, 0, none⟩)] (encF (N := ts.length)) (cfF ts) g 0 D.toArray.size W1 := by
      intro m os dk hs x y
      have keep : ∀ a u, w0.cell? a = some u → (Go.Proofs.sortWorld encF W1 g 0 m dk os).cell? a = some u := fun a u h => by
        have := cell0 a u h
        rw [sortW_cell encF W1 g m dk os a (by omega) (by have := G1.size; omega)]
        exact G1.cell h (by simp)
      have hx := x.isLt
      have hy := y.isLt
      refine cmpSt_any _ w.heap.size b gt off ts.length ct x.val y.val (stF ts x) (stF ts y) hx hy hf ?_ (keep _ _ c0) (keep _ _ ?_) (keep _ _ ?_)
      · rw [sortW_cell encF W1 g m dk os _ (by show w.heap.size ≠ g; omega) (by show w.heap.size < _; omega)]
        exact cc
      · have := hR x.val ts[x.val] (List.getElem?_eq_getElem hx) 3 _ rfl
        rw [this]
        unfold stF stOf
        rw [thAt_at hx]
      · have := hR y.val ts[y.val] (List.getElem?_eq_getElem hy) 3 _ rfl
        rw [this]
        unfold stF stOf
        rw [thAt_at hy]
    have hH : Go.Sort.Holds encF W1 g 0 D.toArray := by
      intro j hj
      have hj' : j < D.length := by simpa using hj
      rw [Nat.zero_add]
      refine ⟨?_, World.ownsRow.frozenAt O1 j⟩
      rw [World.ownsRow.cellAt O1 j (by omega), ← hD, ← encF_map, List.getElem?_map]
      simp [hj']
    have eg : ∀ args w, (callFunc 100 args).run Try.prog w = .ok (.enter 100 args) w := enters_of Try.func100 (by kernel_rfl) rfl
    have hS := Any.slices_SortFunc Try.sortL encF (fun _ => rfl) (cfF ts) (swoF ts) 100 #[.pointer (some ⟨w.heap.size, 0, none⟩)] g 0 cap D.toArray W1 eg hcmp.lays hH (by omega) (by simp; omega)
    change Calls Try.prog 99 _ _ _ at hS
    have hsz2 : D.toArray.size = l.length := by simp [hDl]
    have hS2 : Calls Try.prog 99 #[.slice (some ⟨g, 0, none⟩) l.length cap, .func (.func 100) #[] #[.pointer (some ⟨w.heap.size, 0, none⟩)]] W1 fun e w' => e = .returned (.tuple #[]) ∧ Hid (BsPost w0 (.slice (some ⟨g, 0, none⟩) l.length cap) ts l (.returned (.slice (some ⟨g, 0, none⟩) l.length cap)) w') := by
      rw [← hsz2]
      refine hS.mono ?_
      rintro e w' ⟨rfl, d', q, os, hp, hs, rfl⟩
      refine ⟨rfl, ?_⟩
      show BsPost _ _ _ _ _ _
      have hd : d'.size = D.toArray.size := hp.1
      have hd2 : d'.toList.length = l.length := by rw [Array.length_toList, hd, hsz2]
      have ew : Go.Proofs.sortWorld encF W1 g 0 q d' os = Go.Sort.grow ((W1.drewN q).setCells g 0 (d'.toList.map encF)) os := by
        unfold Go.Proofs.sortWorld
        have := Lib.sorted_world encF W1 g 0 q D.toArray d'.toList os hH (by rw [Array.length_toList]; exact hd)
        rw [← this]
      rw [ew, encF_map, hsz2]
      obtain ⟨o2, g2⟩ := sorted_own (q := q) (os := os) (vs := ints (d'.toList.map fun i => (i.val : Int) + 1)) O1 (by rw [length_ints, List.length_map]; exact hd2)
      refine ⟨_, rfl, ?_, sorted_list hd hs, ?_, grown_own G1 g2 (fun x e => by cases e; exact hgb)⟩
      · rw [← hD]
        have := perm_list hp
        exact this.map _
      · unfold OwnI
        rw [List.length_map, hd2]
        exact o2
    have HW : Hid (W1 = w.alloc (.cells #[.pointer (some ⟨b, 0, none⟩)] 25)) := hW1
    rw [hW1] at hS2
    clear hS hH hcmp O1 cc G1 hW1 HW hsz hR hT hD hDl O G c0 hl cell0 hgb hgs hN hf eg hsz2 hpos h0 hn
    go_enter Try.func66, Try.ntmps66
    go_wp2_with (go_at_call 99; refine hS2.mono ?_; rintro e w' ⟨rfl, HB⟩)
    go_ret
    exact HB.out
end Go.Proofs.Ytogpgldbbegniaa
namespace Go.Proofs.Ytogpgldbbegniaa
open Go.RowKit

theorem own_grow {w w' : World} {base e size n : Nat} {v : Value} {xs : List Value} (h : w.ownsRow base e size v n xs) (g : w.grownBy w' none) : w'.ownsRow base e size v n xs := kpt_own h (Kpt.of_grown g) (by simp)
/-- Where what is appended lies. -/
def Src (w : World) (vx : Value) (m size : Nat) (ys : List Value) : Prop := ∃ p c, vx = .slice p m c ∧ ys.length = m * size ∧ (0 < m → ∃ ad, p = some ad ∧ ∀ j u, ys[j]? = some u → w.cell? (Addr.add ad j) = some u)
theorem own_Src {w : World} {base e size m : Nat} {v : Value} {ys : List Value} (h : w.ownsRow base e size v m ys) : Src w v m size ys := by
  obtain ⟨p, c, e1, _⟩ := own_slice h
  refine ⟨p, c, e1, h.1, fun h0 => ?_⟩
  obtain ⟨g, cap, e2, _, _, _, _, hc⟩ := own_cell h h0
  rw [e1] at e2
  cases e2
  refine ⟨_, rfl, fun j u hu => ?_⟩
  have hj := (List.getElem?_eq_some_iff.1 hu).1
  rw [add_plain, Nat.zero_add, (hc j (by have := h.1; omega)).1]
  exact hu
theorem intsA_Src {w : World} {v : Value} {l : List Int} (h : IntsA w v l) : Src w v l.length 1 (ints l) := by
  obtain ⟨p, c, e, h⟩ := h.src
  exact ⟨p, c, e, by rw [length_ints, Nat.mul_one], h⟩
theorem thsAt_Src {w : World} {v : Value} {l : List Th} (h : ThsAt w v l) : Src w v l.length 11 (thcs l) := by
  obtain ⟨p, c, e, h⟩ := h.src
  exact ⟨p, c, e, thcs_len l, h⟩
theorem lit_Src {w : World} {g e m size : Nat} {cs : Array Value} (h : w.heap[g]? = some (.cells cs e (0, 0))) (hs : cs.size = m * size) (c : Nat) : Src w (.slice (some ⟨g, 0, none⟩) m c) m size cs.toList :=
  ⟨_, c, rfl, by simp [hs], fun _ => ⟨_, rfl, fun j u hu => by rw [add_plain, Nat.zero_add, block_cell h]; simpa using hu⟩⟩
theorem Src.keep {w w' : World} {vx : Value} {m size : Nat} {ys : List Value} (h : Src w vx m size ys) (k : w.grownBy w' none) : Src w' vx m size ys := by
  obtain ⟨p, c, e, hl, h⟩ := h
  refine ⟨p, c, e, hl, fun h0 => ?_⟩
  obtain ⟨ad, e2, h2⟩ := h h0
  exact ⟨ad, e2, fun j u hu => k.cell (h2 j u hu) (by simp)⟩
theorem wpl_app {P : Program} {w : World} {ops : Array Oper} {rest : List Oper} {o : Oper} {a : Act} {Q : Exit → Act → World → Prop} (hw : Region.wanted o (yielded ops a.tmps) = true) (s x : Operand) (t : TypeId)
    (ho : o.op = .call { callee := .builtin .append, args := #[s, x], argTypes := #[t, t] })
    (base : Nat) (e : TypeId) (i : TypeInfo) (z : Value) (size bytes : Nat) (ht : P.underlying t = some (.slice e)) (hi : P.info? e = some i) (hz : i.zero = some z)
    (hsize : i.size = size) (hby : i.bytes = bytes) (hzs : z.cells.size = size) (hsz : 0 < size)
    (v : Value) (n : Nat) (xs : List Value) (hs : a.eval s = v) (hown : w.ownsRow base e size v n xs)
    (vx : Value) (m : Nat) (ys : List Value) (hx : a.eval x = vx) (hsrc : Src w vx m size ys) (h1 : ∀ u ∈ ys, u.oneCell' = true)
    (h63 : n + m ≤ maxLen) (hbytes : (n + m) * bytes ≤ 140737488355328) (hbase : base ≤ w.heap.size)
    (h : ∀ v' w', w'.ownsRow base e size v' (n + m) (xs ++ ys) → w.grownBy w' v.ownBlock → (v'.ownBlock = v.ownBlock ∨ v'.ownBlock = some w.heap.size) → wpList P ops Q rest (a.put o.dst v') w') : wpList P ops Q (o :: rest) a w := by
  refine wpList_step fun K hK => ?_
  rw [if_pos hw]
  obtain ⟨p, c, e1, hl, hc⟩ := hsrc
  subst e1
  by_cases h0 : m = 0
  · subst h0
    have hy : ys = [] := List.length_eq_zero_iff.1 (by omega)
    subst hy
    cases p with
    | none =>
      have hx2 : a.eval x = .slice none 0 c := hx
      have hrun : (Builtin.append_ #[t, t] o.type #[v, .slice none 0 c]).run P w = .ok v w := by
        have := run_append_owned_none (P := P) (w := w) base t o.type e i size ht hi v n xs hown
        exact this
      unfold Oper.wp
      simp [execOp, ho, resolve, invoke, builtin, hs, hx2, hrun, Result.andThen]
      exact hK _ _ (h v w (by rw [List.append_nil]; exact hown) (grown_refl _ _) (Or.inl rfl))
    | some ad =>
      exact wp_append_at s x t ho base e i z size bytes ht hi hz hsize hby hzs hsz v n xs hs hown ad 0 c [] hx (by simp) (fun j u hu => by simp at hu) h1 h63 hbytes hbase (fun v' w' h2 h3 h4 => hK _ _ (h v' w' h2 h3 h4))
  · obtain ⟨ad, e2, hcell⟩ := hc (by omega)
    subst e2
    exact wp_append_at s x t ho base e i z size bytes ht hi hz hsize hby hzs hsz v n xs hs hown ad m c ys hx hl hcell h1 h63 hbytes hbase (fun v' w' h2 h3 h4 => hK _ _ (h v' w' h2 h3 h4))
/-- The table, by stamp rising. -/
def tabF (ts : List Th) : List Int := (tabN ts).mergeSort fun a b => decide (stOf ts a ≤ stOf ts b)
theorem tabF_perm (ts : List Th) : (tabF ts).Perm (tabN ts) := List.mergeSort_perm _ _
theorem tabF_up (ts : List Th) : (tabF ts).Pairwise fun a b => stOf ts a ≤ stOf ts b := by
  have := List.pairwise_mergeSort (le := fun (x y : Int) => decide (stOf ts x ≤ stOf ts y)) (fun a b c h1 h2 => by simp at *; omega) (fun a b => by simp; omega) (tabN ts)
  exact this.imp fun h => by simpa using h
theorem Zs.Sound.tab_is {z : Zs} (S : z.Sound) : IsTab z.ts (tabF z.ts) := tab_of S (tabF_perm _) (tabF_up _)
theorem tabN_len (ts : List Th) : (tabN ts).length ≤ ts.length + ts.length := by
  unfold tabN
  rw [List.length_append]
  have h1 := numsOf_len ts 0 4
  have h2 := numsOf_len ts 1 4
  omega
/-- What In tells. -/
def Zs.inOf (z : Zs) (p pl : Int) : List Int := if p = 0 ∨ p = 1 then (if pl = 1 then z.dk p else if pl = 2 then z.hd p else if pl = 4 then (tabF z.ts).filter (innB z.ts p 4) else numsOf z.ts p pl) else []
set_option maxRecDepth 100000 in
set_option maxHeartbeats 2000000 in
theorem onTable_any (b : Nat) (vt : Value) (ts : List Th) (w : World) (c0 : w.cell? ⟨b, 0, none⟩ = some vt) (T : ThsAt w vt ts) (hf : ts.length ≤ 2048) : Calls Try.prog 67 #[.pointer (some ⟨b, 0, none⟩)] w fun e w' => ∃ v, e = .returned v ∧ OwnI w' w.heap.size v (tabN ts) ∧ w.grownBy w' none := by
  obtain ⟨i0, hi, hz0, hz1, hz2⟩ := info_parts Try.info3i'
  have C1 := numbers_any b vt ts 0 4 w c0 T hf
  have HC2 : Hid (∀ w1, w.grownBy w1 none → Calls Try.prog 96 #[.pointer (some ⟨b, 0, none⟩), .int .i64 1, .int .u8 4] w1 fun e w' => ∃ v, e = .returned v ∧ OwnI w' w1.heap.size v (numsOf ts 1 4) ∧ w1.grownBy w' none) := fun w1 g => numbers_any b vt ts 1 4 w1 (g.cell c0 (by simp)) (T.keep g) hf
  have l1 := numsOf_len ts 0 4
  have l2 := numsOf_len ts 1 4
  have HT : Hid (tabN ts = numsOf ts 0 4 ++ numsOf ts 1 4) := rfl
  obtain ⟨A, hA⟩ : ∃ A, A = numsOf ts 0 4 := ⟨_, rfl⟩
  obtain ⟨B, hB⟩ : ∃ B, B = numsOf ts 1 4 := ⟨_, rfl⟩
  rw [← hA] at C1 l1 HT
  rw [← hB] at HC2 l2 HT
  have HL : Hid (A.length + B.length ≤ maxLen ∧ (A.length + B.length) * 8 ≤ 140737488355328) := by show _ ∧ _; unfold maxLen; omega
  clear l1 l2 hA hB c0 T hf
  go_enter Try.func67, Try.ntmps67
  go_wp2_with fail
  refine C1.mono ?_
  rintro e w1 ⟨v1, rfl, o1, g1⟩
  have HO1 : Hid (OwnI w1 w.heap.size v1 A) := o1
  have HG1 : Hid (w.grownBy w1 none) := g1
  have C2 := HC2.out w1 g1
  obtain ⟨p1, q1, rfl⟩ := o1.form
  clear o1 g1 C1 HC2
  go_wp2_with fail
  refine C2.mono ?_
  rintro e w2 ⟨v2, rfl, o2, g2⟩
  have HO2 : Hid (OwnI w2 w1.heap.size v2 B) := o2
  have HG2 : Hid (w1.grownBy w2 none) := g2
  obtain ⟨p2, q2, rfl⟩ := o2.form
  clear o2 g2 C2
  go_wp2_with (at_builtin; refine wpl_app (by rfl) (.tmp 4) (.tmp 6) 22 rfl w.heap.size 3 i0 (.int .i64 0) 1 8 Try.underlying22 hi hz0 hz1 hz2 rfl (by decide) _ A.length (ints A) rfl (own_grow HO1.out HG2.out) _ B.length (ints B) rfl (own_Src HO2.out) (ints_one _) HL.out.1 HL.out.2 (Nat.le_trans HG1.out.size HG2.out.size) ?_; intro v3 w3 o3 g3 _; have HF : Hid (OwnI w3 w.heap.size v3 (A ++ B) ∧ w.grownBy w3 none) := ⟨by unfold OwnI; rw [List.length_append, ints_app]; exact o3, grown_own (grown_trans HG1.out HG2.out) g3 (fun x e => (World.ownsRow.lt HO1.out x e).1)⟩; clear o3 g3)
  go_ret
  refine ⟨_, rfl, ?_⟩
  rw [HT.out]
  exact HF.out
set_option maxRecDepth 100000 in
set_option maxHeartbeats 2000000 in
theorem table_any (b : Nat) (Sb : List Nat) (z : Zs) (w : World) (Z : ZAt w b Sb z) (S : z.Sound) : Calls Try.prog 27 #[.pointer (some ⟨b, 0, none⟩)] w fun e w' => ∃ v, e = .returned v ∧ OwnI w' w.heap.size v (tabF z.ts) ∧ w.grownBy w' none := by
  obtain ⟨vt, d0, d1, h0, h1, Z⟩ := Z
  obtain ⟨c0, _, _, _, _, c5⟩ := Z.cell
  have T := Z.ts.at
  have M := made_yes b z.nx w c5 (by have := S.nx1; omega)
  have C1 := onTable_any b vt z.ts w c0 T S.few
  have HB : Hid (∀ w1 v, w.grownBy w1 none → OwnI w1 w.heap.size v (tabN z.ts) → Calls Try.prog 66 #[.pointer (some ⟨b, 0, none⟩), v] w1 (BsPost w v z.ts (tabN z.ts))) := fun w1 v g o => byStamp_any w w1 b vt v z.ts _ c0 T S.few g o (fun n hn => tabN_there hn) (by have := tabN_len z.ts; have := S.few; omega)
  have HP : Hid (∀ l : List Int, l.Perm (tabN z.ts) → (l.Pairwise fun a b => stOf z.ts a ≤ stOf z.ts b) → l = tabF z.ts) := fun l hp hs => tab_one (tab_of S hp hs) S.tab_is
  clear c0 c5 T Z S
  go_enter Try.func27, Try.ntmps27
  go_wp2_with (go_at_call 61; refine M.mono ?_; rintro e w' ⟨rfl, rfl⟩)
  refine C1.mono ?_
  rintro e w1 ⟨v1, rfl, o1, g1⟩
  have C2 := HB.out w1 v1 g1 o1
  obtain ⟨p1, q1, rfl⟩ := o1.form
  clear o1 g1 C1 HB M
  go_wp2_with fail
  refine C2.mono ?_
  rintro e w2 ⟨l, rfl, hp, hs, o2, g2⟩
  have HF : Hid (OwnI w2 w'.heap.size (.slice p1 (tabN z.ts).length q1) (tabF z.ts) ∧ w'.grownBy w2 none) := ⟨by rw [← HP.out l hp hs]; exact o2, g2⟩
  clear hp hs o2 g2 C2 HP
  go_wp2_with fail
  go_ret
  exact ⟨_, rfl, HF.out⟩
end Go.Proofs.Ytogpgldbbegniaa
namespace Go.Proofs.Ytogpgldbbegniaa
open Go.RowKit

theorem nx_ne {z : Zs} (S : z.Sound) : z.nx ≠ 0 := by have := S.nx1; omega
def InPost (w : World) (l : List Int) (e : Ending) (w' : World) : Prop := ∃ v, e = .returned v ∧ OwnI w' w.heap.size v l ∧ w.grownBy w' none
theorem own_small {w : World} {base : Nat} {v : Value} {l : List Int} (h : OwnI w base v l) : IntsA w v l := (own_B h rfl).a
set_option maxRecDepth 100000 in
set_option maxHeartbeats 2000000 in
theorem in_nobody (b : Nat) (p pl nx : Int) (w : World) (c5 : w.cell? ⟨b, 5, none⟩ = some (.int .i64 nx)) (hn : nx ≠ 0) (hp : ¬ (p = 0 ∨ p = 1)) : Calls Try.prog 60 #[.pointer (some ⟨b, 0, none⟩), .int .i64 p, .int .u8 pl] w (InPost w []) := by
  have M := made_yes b nx w c5 hn
  have OW := isOwner_any p w
  rw [decide_eq_false hp] at OW
  clear hp c5
  go_enter Try.func60, Try.ntmps60
  go_wp2_with (first | (go_at_call 61; refine M.mono ?_; rintro e w1 ⟨rfl, h⟩; obtain rfl : w = w1 := h.symm) | (go_at_call 68; refine OW.mono ?_; rintro e w1 ⟨rfl, h⟩; obtain rfl : w = w1 := h.symm))
  go_ret
  exact ⟨_, rfl, OwnI.nil _ _, grown_refl _ _⟩
set_option maxRecDepth 100000 in
set_option maxHeartbeats 2000000 in
theorem in_deck0 (b : Nat) (nx : Int) (v : Value) (l : List Int) (w : World) (c5 : w.cell? ⟨b, 5, none⟩ = some (.int .i64 nx)) (hn : nx ≠ 0) (cd : w.cell? ⟨b, 1, none⟩ = some v) (D : IntsA w v l) (hb : l.length ≤ 2048) : Calls Try.prog 60 #[.pointer (some ⟨b, 0, none⟩), .int .i64 0, .int .u8 1] w (InPost w l) := by
  have M := made_yes b nx w c5 hn
  have OW := isOwner_any 0 w
  rw [decide_eq_true (by decide)] at OW
  have C := ownI_any v l w D (by omega)
  obtain ⟨pp, cc, rfl, _⟩ := D.src
  clear D c5
  go_enter Try.func60, Try.ntmps60
  go_wp2_with (first | (go_at_call 61; refine M.mono ?_; rintro e w1 ⟨rfl, h⟩; obtain rfl : w = w1 := h.symm) | (go_at_call 68; refine OW.mono ?_; rintro e w1 ⟨rfl, h⟩; obtain rfl : w = w1 := h.symm) | (go_at_call 73; refine C.mono ?_; rintro e w2 ⟨rfl, o2, g2⟩; have HF : Hid (OwnI w2 w.heap.size (.slice (some ⟨w.heap.size, 0, none⟩) l.length l.length) l ∧ w.grownBy w2 none) := ⟨o2, g2⟩; clear o2 g2))
  go_ret
  exact ⟨_, rfl, HF.out⟩
set_option maxRecDepth 100000 in
set_option maxHeartbeats 2000000 in
theorem in_deck1 (b : Nat) (nx : Int) (v : Value) (l : List Int) (w : World) (c5 : w.cell? ⟨b, 5, none⟩ = some (.int .i64 nx)) (hn : nx ≠ 0) (cd : w.cell? ⟨b, 2, none⟩ = some v) (D : IntsA w v l) (hb : l.length ≤ 2048) : Calls Try.prog 60 #[.pointer (some ⟨b, 0, none⟩), .int .i64 1, .int .u8 1] w (InPost w l) := by
  have M := made_yes b nx w c5 hn
  have OW := isOwner_any 1 w
  rw [decide_eq_true (by decide)] at OW
  have C := ownI_any v l w D (by omega)
  obtain ⟨pp, cc, rfl, _⟩ := D.src
  clear D c5
  go_enter Try.func60, Try.ntmps60
  go_wp2_with (first | (go_at_call 61; refine M.mono ?_; rintro e w1 ⟨rfl, h⟩; obtain rfl : w = w1 := h.symm) | (go_at_call 68; refine OW.mono ?_; rintro e w1 ⟨rfl, h⟩; obtain rfl : w = w1 := h.symm) | (go_at_call 73; refine C.mono ?_; rintro e w2 ⟨rfl, o2, g2⟩; have HF : Hid (OwnI w2 w.heap.size (.slice (some ⟨w.heap.size, 0, none⟩) l.length l.length) l ∧ w.grownBy w2 none) := ⟨o2, g2⟩; clear o2 g2))
  go_ret
  exact ⟨_, rfl, HF.out⟩
set_option maxRecDepth 100000 in
set_option maxHeartbeats 2000000 in
theorem in_hand0 (b : Nat) (nx : Int) (v : Value) (l : List Int) (w : World) (c5 : w.cell? ⟨b, 5, none⟩ = some (.int .i64 nx)) (hn : nx ≠ 0) (cd : w.cell? ⟨b, 3, none⟩ = some v) (D : IntsA w v l) (hb : l.length ≤ 2048) : Calls Try.prog 60 #[.pointer (some ⟨b, 0, none⟩), .int .i64 0, .int .u8 2] w (InPost w l) := by
  have M := made_yes b nx w c5 hn
  have OW := isOwner_any 0 w
  rw [decide_eq_true (by decide)] at OW
  have C := ownI_any v l w D (by omega)
  obtain ⟨pp, cc, rfl, _⟩ := D.src
  clear D c5
  go_enter Try.func60, Try.ntmps60
  go_wp2_with (first | (go_at_call 61; refine M.mono ?_; rintro e w1 ⟨rfl, h⟩; obtain rfl : w = w1 := h.symm) | (go_at_call 68; refine OW.mono ?_; rintro e w1 ⟨rfl, h⟩; obtain rfl : w = w1 := h.symm) | (go_at_call 73; refine C.mono ?_; rintro e w2 ⟨rfl, o2, g2⟩; have HF : Hid (OwnI w2 w.heap.size (.slice (some ⟨w.heap.size, 0, none⟩) l.length l.length) l ∧ w.grownBy w2 none) := ⟨o2, g2⟩; clear o2 g2))
  go_ret
  exact ⟨_, rfl, HF.out⟩
set_option maxRecDepth 100000 in
set_option maxHeartbeats 2000000 in
theorem in_hand1 (b : Nat) (nx : Int) (v : Value) (l : List Int) (w : World) (c5 : w.cell? ⟨b, 5, none⟩ = some (.int .i64 nx)) (hn : nx ≠ 0) (cd : w.cell? ⟨b, 4, none⟩ = some v) (D : IntsA w v l) (hb : l.length ≤ 2048) : Calls Try.prog 60 #[.pointer (some ⟨b, 0, none⟩), .int .i64 1, .int .u8 2] w (InPost w l) := by
  have M := made_yes b nx w c5 hn
  have OW := isOwner_any 1 w
  rw [decide_eq_true (by decide)] at OW
  have C := ownI_any v l w D (by omega)
  obtain ⟨pp, cc, rfl, _⟩ := D.src
  clear D c5
  go_enter Try.func60, Try.ntmps60
  go_wp2_with (first | (go_at_call 61; refine M.mono ?_; rintro e w1 ⟨rfl, h⟩; obtain rfl : w = w1 := h.symm) | (go_at_call 68; refine OW.mono ?_; rintro e w1 ⟨rfl, h⟩; obtain rfl : w = w1 := h.symm) | (go_at_call 73; refine C.mono ?_; rintro e w2 ⟨rfl, o2, g2⟩; have HF : Hid (OwnI w2 w.heap.size (.slice (some ⟨w.heap.size, 0, none⟩) l.length l.length) l ∧ w.grownBy w2 none) := ⟨o2, g2⟩; clear o2 g2))
  go_ret
  exact ⟨_, rfl, HF.out⟩
set_option maxRecDepth 100000 in
set_option maxHeartbeats 2000000 in
theorem in_table (b : Nat) (Sb : List Nat) (z : Zs) (p : Int) (w : World) (Z : ZAt w b Sb z) (S : z.Sound) (hp : p = 0 ∨ p = 1) : Calls Try.prog 60 #[.pointer (some ⟨b, 0, none⟩), .int .i64 p, .int .u8 4] w (InPost w ((tabF z.ts).filter (innB z.ts p 4))) := by
  obtain ⟨vt, d0, d1, h0, h1, Z⟩ := Z
  obtain ⟨c0, _, _, _, _, c5⟩ := Z.cell
  have T := Z.ts.at
  have M := made_yes b z.nx w c5 (nx_ne S)
  have OW := isOwner_any p w
  rw [decide_eq_true hp] at OW
  have C1 := numbers_any b vt z.ts p 4 w c0 T S.few
  have HB : Hid (∀ w1 v, w.grownBy w1 none → OwnI w1 w.heap.size v (numsOf z.ts p 4) → Calls Try.prog 66 #[.pointer (some ⟨b, 0, none⟩), v] w1 (BsPost w v z.ts (numsOf z.ts p 4))) := fun w1 v g o => byStamp_any w w1 b vt v z.ts _ c0 T S.few g o (fun n hn => (numsOf_mem.1 hn).1) (by have := numsOf_len z.ts p 4; have := S.few; omega)
  have HP : Hid (∀ l : List Int, l.Perm (numsOf z.ts p 4) → (l.Pairwise fun a b => stOf z.ts a ≤ stOf z.ts b) → l = (tabF z.ts).filter (innB z.ts p 4)) := fun l h1 h2 => part_of S S.tab_is h1 h2
  clear c0 c5 T Z S hp
  go_enter Try.func60, Try.ntmps60
  go_wp2_with (first | (go_at_call 61; refine M.mono ?_; rintro e w1 ⟨rfl, h⟩; obtain rfl : w = w1 := h.symm) | (go_at_call 68; refine OW.mono ?_; rintro e w1 ⟨rfl, h⟩; obtain rfl : w = w1 := h.symm))
  refine C1.mono ?_
  rintro e w1 ⟨v1, rfl, o1, g1⟩
  have C2 := HB.out w1 v1 g1 o1
  obtain ⟨p1, q1, rfl⟩ := o1.form
  clear o1 g1 C1 HB M OW
  go_wp2_with fail
  refine C2.mono ?_
  rintro e w2 ⟨l, rfl, hp, hs, o2, g2⟩
  have HF : Hid (OwnI w2 w.heap.size (.slice p1 (numsOf z.ts p 4).length q1) ((tabF z.ts).filter (innB z.ts p 4)) ∧ w.grownBy w2 none) := ⟨by rw [← HP.out l hp hs]; exact o2, g2⟩
  clear hp hs o2 g2 C2 HP
  go_wp2_with fail
  go_ret
  exact ⟨_, rfl, HF.out⟩
set_option maxRecDepth 100000 in
set_option maxHeartbeats 2000000 in
theorem in_else (b : Nat) (vt : Value) (ts : List Th) (p pl nx : Int) (w : World) (c0 : w.cell? ⟨b, 0, none⟩ = some vt) (c5 : w.cell? ⟨b, 5, none⟩ = some (.int .i64 nx)) (hn : nx ≠ 0) (T : ThsAt w vt ts) (hf : ts.length ≤ 2048) (hp : p = 0 ∨ p = 1) (h1 : pl ≠ 1) (h2 : pl ≠ 2) (h4 : pl ≠ 4) : Calls Try.prog 60 #[.pointer (some ⟨b, 0, none⟩), .int .i64 p, .int .u8 pl] w (InPost w (numsOf ts p pl)) := by
  have M := made_yes b nx w c5 hn
  have OW := isOwner_any p w
  rw [decide_eq_true hp] at OW
  have C1 := numbers_any b vt ts p pl w c0 T hf
  have e1 : (pl == 1) = false := by simpa using h1
  have e2 : (pl == 2) = false := by simpa using h2
  have e4 : (pl == 4) = false := by simpa using h4
  clear c0 c5 T hp h1 h2 h4 hf
  go_enter Try.func60, Try.ntmps60
  go_wp2_with (first | (go_at_call 61; refine M.mono ?_; rintro e w1 ⟨rfl, h⟩; obtain rfl : w = w1 := h.symm) | (go_at_call 68; refine OW.mono ?_; rintro e w1 ⟨rfl, h⟩; obtain rfl : w = w1 := h.symm) | (go_at_call 96; refine C1.mono ?_; rintro e w2 ⟨v2, rfl, o2, g2⟩; have HF : Hid (OwnI w2 w.heap.size v2 (numsOf ts p pl) ∧ w.grownBy w2 none) := ⟨o2, g2⟩; clear o2 g2))
  go_ret
  exact ⟨_, rfl, HF.out⟩
theorem in_any (b : Nat) (Sb : List Nat) (z : Zs) (p pl : Int) (w : World) (Z : ZAt w b Sb z) (S : z.Sound) : Calls Try.prog 60 #[.pointer (some ⟨b, 0, none⟩), .int .i64 p, .int .u8 pl] w (InPost w (z.inOf p pl)) := by
  have Z0 := Z
  obtain ⟨vt, d0, d1, h0, h1, Z⟩ := Z
  obtain ⟨c0, c1, c2, c3, c4, c5⟩ := Z.cell
  have hd : ∀ q, q = 0 ∨ q = 1 → (z.dk q).length ≤ 2048 := fun q hq => Nat.le_trans (S.deckFew hq) S.few
  have hh : ∀ q, q = 0 ∨ q = 1 → (z.hd q).length ≤ 2048 := fun q hq => Nat.le_trans (S.handFew hq) S.few
  unfold Zs.inOf
  by_cases hp : p = 0 ∨ p = 1
  · rw [if_pos hp]
    by_cases e1 : pl = 1
    · rw [if_pos e1]
      subst e1
      rcases hp with rfl | rfl
      · exact in_deck0 b z.nx d0 _ w c5 (nx_ne S) c1 (own_small Z.od0) (hd 0 (Or.inl rfl))
      · exact in_deck1 b z.nx d1 _ w c5 (nx_ne S) c2 (own_small Z.od1) (hd 1 (Or.inr rfl))
    · rw [if_neg e1]
      by_cases e2 : pl = 2
      · rw [if_pos e2]
        subst e2
        rcases hp with rfl | rfl
        · exact in_hand0 b z.nx h0 _ w c5 (nx_ne S) c3 (own_small Z.oh0) (hh 0 (Or.inl rfl))
        · exact in_hand1 b z.nx h1 _ w c5 (nx_ne S) c4 (own_small Z.oh1) (hh 1 (Or.inr rfl))
      · rw [if_neg e2]
        by_cases e4 : pl = 4
        · rw [if_pos e4]
          subst e4
          exact in_table b Sb z p w Z0 S hp
        · rw [if_neg e4]
          exact in_else b vt z.ts p pl z.nx w c0 c5 (nx_ne S) Z.ts.at S.few hp e1 e2 e4
  · rw [if_neg hp]
    exact in_nobody b p pl z.nx w c5 (nx_ne S) hp
set_option maxRecDepth 100000 in
set_option maxHeartbeats 2000000 in
theorem pDeck_any (b : Nat) (Sb : List Nat) (z : Zs) (p : Int) (w : World) (Z : ZAt w b Sb z) (S : z.Sound) : Calls Try.prog 25 #[.pointer (some ⟨b, 0, none⟩), .int .i64 p] w (InPost w (z.inOf p 1)) := by
  have C := in_any b Sb z p 1 w Z S
  obtain ⟨l, hl⟩ : ∃ l, l = z.inOf p 1 := ⟨_, rfl⟩
  rw [← hl] at C ⊢
  clear Z S hl
  go_enter Try.func25, Try.ntmps25
  go_wp2_with (go_at_call 60; refine C.mono ?_; rintro e w2 ⟨v2, rfl, o2, g2⟩; have HF : Hid (OwnI w2 w.heap.size v2 l ∧ w.grownBy w2 none) := ⟨o2, g2⟩; clear o2 g2)
  go_ret
  exact ⟨_, rfl, HF.out⟩
set_option maxRecDepth 100000 in
set_option maxHeartbeats 2000000 in
theorem pHand_any (b : Nat) (Sb : List Nat) (z : Zs) (p : Int) (w : World) (Z : ZAt w b Sb z) (S : z.Sound) : Calls Try.prog 31 #[.pointer (some ⟨b, 0, none⟩), .int .i64 p] w (InPost w (z.inOf p 2)) := by
  have C := in_any b Sb z p 2 w Z S
  obtain ⟨l, hl⟩ : ∃ l, l = z.inOf p 2 := ⟨_, rfl⟩
  rw [← hl] at C ⊢
  clear Z S hl
  go_enter Try.func31, Try.ntmps31
  go_wp2_with (go_at_call 60; refine C.mono ?_; rintro e w2 ⟨v2, rfl, o2, g2⟩; have HF : Hid (OwnI w2 w.heap.size v2 l ∧ w.grownBy w2 none) := ⟨o2, g2⟩; clear o2 g2)
  go_ret
  exact ⟨_, rfl, HF.out⟩
set_option maxRecDepth 100000 in
set_option maxHeartbeats 2000000 in
theorem things_any (b : Nat) (Sb : List Nat) (z : Zs) (w : World) (Z : ZAt w b Sb z) (S : z.Sound) : Calls Try.prog 30 #[.pointer (some ⟨b, 0, none⟩)] w fun e w' => e = .returned (.slice (some ⟨w.heap.size, 0, none⟩) z.ts.length z.ts.length) ∧ OwnT w' w.heap.size (.slice (some ⟨w.heap.size, 0, none⟩) z.ts.length z.ts.length) z.ts ∧ w.grownBy w' none := by
  obtain ⟨vt, d0, d1, h0, h1, Z⟩ := Z
  obtain ⟨c0, _, _, _, _, c5⟩ := Z.cell
  have T := Z.ts.at
  have M := made_yes b z.nx w c5 (nx_ne S)
  have C := ownT_any vt z.ts w T S.few
  obtain ⟨p1, q1, rfl, _⟩ := T.src
  clear T Z S c5
  go_enter Try.func30, Try.ntmps30
  go_wp2_with (first | (go_at_call 61; refine M.mono ?_; rintro e w1 ⟨rfl, h⟩; obtain rfl : w = w1 := h.symm) | (go_at_call 40; refine C.mono ?_; rintro e w2 ⟨rfl, o2, g2⟩; have HF : Hid (OwnT w2 w.heap.size (.slice (some ⟨w.heap.size, 0, none⟩) z.ts.length z.ts.length) z.ts ∧ w.grownBy w2 none) := ⟨o2, g2⟩; clear o2 g2))
  go_ret
  exact ⟨rfl, HF.out⟩
def thv (t : Th) : Value := .agg #[.int .i64 t.card, .int .i64 t.owner, .int .u8 t.place, .int .i64 t.stamp, .int .i64 t.hurt, .int .i64 t.m0, .int .i64 t.m1, .int .i64 t.m2, .int .i64 t.m3, .int .i64 t.done, .bool t.fresh]
/-- What Thing answers: the thing, or an error beside none. -/
def Zs.thingE (z : Zs) (n : Int) : Int := if 1 ≤ n ∧ n ≤ (z.ts.length : Int) then 0 else 6
def Zs.thingT (z : Zs) (n : Int) : Th := if 1 ≤ n ∧ n ≤ (z.ts.length : Int) then thAt z.ts n else Th.none
end Go.Proofs.Ytogpgldbbegniaa
