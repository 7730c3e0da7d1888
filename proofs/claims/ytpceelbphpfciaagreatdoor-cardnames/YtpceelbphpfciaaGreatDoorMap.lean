/-
  The tables of words, and the map of functions that settersOf makes of one: at each word the function that sets the word's number. Each call touches nothing that was there.
-/
import Derived.Test.YtpceelbphpfciaaGreatDoorEq
import Derived.Maps.OwnSet
namespace Go.Proofs.YtpceelbphpfciaaGreatDoor
open Go.RowKit Go.MapKept Go.ChangeMaps

/-- A table of words, as cells: none at 0. -/
def tabC (ws : List (List UInt8)) : Array Value := ((Value.string ⟨#[]⟩) :: ws.map fun x => Value.string ⟨x.toArray⟩).toArray
def TabAt (w : World) (b : Nat) (ws : List (List UInt8)) : Prop := w.heap[b]? = some (.cells (tabC ws) 9 (0, 0))
theorem TabAt.keep {w w' : World} {b : Nat} {ws : List (List UInt8)} (h : TabAt w b ws) (g : w.grownBy w' none) : TabAt w' b ws := grown_keep g h (by simp)
theorem TabAt.cell {w : World} {b : Nat} {ws : List (List UInt8)} (h : TabAt w b ws) {j : Nat} {x : List UInt8} (hj : ws[j]? = some x) : w.cell? ⟨b, j + 1, none⟩ = some (.string ⟨x.toArray⟩) := by
  rw [block_cell h]
  simp [tabC, hj]
set_option maxHeartbeats 1000000 in
theorem whenW_any (w : World) : Calls Tryz.prog 65 #[] w fun e w' => e = .returned (.slice (some ⟨w.heap.size, 0, none⟩) 7 7) ∧ TabAt w' w.heap.size whenW ∧ w.grownBy w' none := by
  go_enter Tryz.func65, Tryz.ntmps65
  go_wp2
  go_ret
  exact ⟨rfl, alloc_at _ _ _, World.grownBy_alloc _ _ _⟩
set_option maxHeartbeats 1000000 in
set_option maxRecDepth 100000 in
theorem verbW_any (w : World) : Calls Tryz.prog 66 #[] w fun e w' => e = .returned (.slice (some ⟨w.heap.size, 0, none⟩) 20 20) ∧ TabAt w' w.heap.size verbW ∧ w.grownBy w' none := by
  go_enter Tryz.func66, Tryz.ntmps66
  go_wp2
  go_ret
  exact ⟨rfl, alloc_at _ _ _, World.grownBy_alloc _ _ _⟩
set_option maxHeartbeats 1000000 in
theorem whomW_any (w : World) : Calls Tryz.prog 67 #[] w fun e w' => e = .returned (.slice (some ⟨w.heap.size, 0, none⟩) 11 11) ∧ TabAt w' w.heap.size whomW ∧ w.grownBy w' none := by
  go_enter Tryz.func67, Tryz.ntmps67
  go_wp2
  go_ret
  exact ⟨rfl, alloc_at _ _ _, World.grownBy_alloc _ _ _⟩

/-- The function that stands at the k-th word; B: where its own function's cell lies. -/
def clo (B k : Nat) : Value := .func (.func 143) #[] #[.pointer (some ⟨B, 0, none⟩), .pointer (some ⟨B + 1 + k, 0, none⟩)]
def entsL (B : Nat) : Nat → List (List UInt8) → List MapEntry
  | _, [] => []
  | k, x :: r => ⟨.string ⟨x.toArray⟩, clo B (k + 1), k⟩ :: entsL B (k + 1) r
theorem entsL_snoc (B : Nat) (x : List UInt8) : ∀ (l : List (List UInt8)) (k : Nat), entsL B k (l ++ [x]) = entsL B k l ++ [⟨.string ⟨x.toArray⟩, clo B (k + l.length + 1), k + l.length⟩]
  | [], k => rfl
  | y :: r, k => by
    have ih := entsL_snoc B x r (k + 1)
    simp only [List.cons_append, entsL, ih, List.length_cons]
    rw [show k + 1 + r.length = k + (r.length + 1) by omega]
theorem entsL_at (B : Nat) : ∀ (l : List (List UInt8)) (k j : Nat) (x : List UInt8), l[j]? = some x → (entsL B k l)[j]? = some ⟨.string ⟨x.toArray⟩, clo B (k + j + 1), k + j⟩
  | [], _, _, _, h => by simp at h
  | y :: r, k, 0, x, h => by simp at h; subst h; rfl
  | y :: r, k, j + 1, x, h => by
    have ih := entsL_at B r (k + 1) j x (by simpa using h)
    simp only [entsL, List.getElem?_cons_succ, ih]
    rw [show k + 1 + j = k + (j + 1) by omega]
theorem entsL_length (B : Nat) : ∀ (l : List (List UInt8)) (k : Nat), (entsL B k l).length = l.length
  | [], _ => rfl
  | _ :: r, k => by simp [entsL, entsL_length B r (k + 1)]
theorem entsL_mem (B : Nat) : ∀ (l : List (List UInt8)) (k : Nat) (e : MapEntry), e ∈ entsL B k l → ∃ x ∈ l, e.key = .string ⟨x.toArray⟩
  | [], _, _, h => by simp [entsL] at h
  | y :: r, k, e, h => by
    simp only [entsL, List.mem_cons] at h
    rcases h with rfl | h
    · exact ⟨y, by simp, rfl⟩
    · obtain ⟨x, hx, e1⟩ := entsL_mem B r (k + 1) e h
      exact ⟨x, List.mem_cons_of_mem _ hx, e1⟩
def ents (B : Nat) (ws : List (List UInt8)) : Array MapEntry := (entsL B 0 ws).toArray
theorem law9 : Maps.Keyed Tryz.prog 9 := Maps.string_keyed Tryz.underlying9
theorem key9 (x : List UInt8) (h : x.length ≤ maxLen) : keyOf Tryz.prog 9 (.string ⟨x.toArray⟩) = some (.string x) := by
  have := Go.WideMaps.keyOf_string_mk (P := Tryz.prog) (k := 9) Tryz.underlying9 (s := ⟨x.toArray⟩) (by show x.toArray.size ≤ maxLen; simpa using h)
  simpa using this
/-- Words that are short. -/
def Short (ws : List (List UInt8)) : Prop := ∀ x ∈ ws, x.length ≤ 100
theorem short_keys {B : Nat} {ws : List (List UInt8)} (h : Short ws) : ∀ e ∈ (ents B ws).toList, ∃ l, keyOf Tryz.prog 9 e.key = some l := by
  intro e he
  obtain ⟨x, hx, e1⟩ := entsL_mem B ws 0 e (by simpa [ents] using he)
  exact ⟨_, by rw [e1]; exact key9 x (by have := h x hx; unfold maxLen; omega)⟩
/-- A store at a word that is not there yet. -/
theorem run_push {w : World} {b B : Nat} {ws : List (List UInt8)} {clock : Nat} (hb : w.heap[b]? = some (.map (ents B ws) clock)) (hs : Short ws) (x : List UInt8) (hx : x.length ≤ 100) (hn : x ∉ ws) (v : Value) :
    (Instr.mapUpdate 88 (.map (some b)) (.string ⟨x.toArray⟩) v).run Tryz.prog w = .ok () (setBlock w b (.map ((ents B ws).push ⟨.string ⟨x.toArray⟩, v, clock⟩) (clock + 1))) := by
  have hk := key9 x (by unfold maxLen; omega)
  have ht : Tryz.prog.underlying 88 = some (.map 9 91) := Tryz.underlying88
  rcases law9.find w hk (ents B ws).toList (short_keys hs) with ⟨h1, _⟩ | ⟨j, e0, _, h2, h3⟩
  · simp [Instr.mapUpdate, run_underlying ht, MapKept.run_getObj_map hb, law9.check w false hk, h1, MapKept.run_setObj_map _ hb, Result.andThen, setBlock]
  · exfalso
    obtain ⟨y, hy, e1⟩ := entsL_mem B ws 0 e0 (by simpa [ents] using List.mem_of_getElem? h2)
    rw [h3] at e1
    injection e1 with e1
    injection e1 with e1
    injection e1 with e1
    exact hn (e1 ▸ hy)
theorem wpl_push {w : World} {ops : Array Oper} {rest : List Oper} {o : Oper} {a : Act} {Q : Exit → Act → World → Prop} (hgd : o.guard = none) (m x v : Operand) (hop : o.op = Op.mapUpdate 88 m x v)
    {b B : Nat} {ws : List (List UInt8)} {clock : Nat} (hb : w.heap[b]? = some (.map (ents B ws) clock)) (hs : Short ws) (k : List UInt8) (hk : k.length ≤ 100) (hn : k ∉ ws) (val : Value)
    (hm : a.eval m = .map (some b)) (hx : a.eval x = .string ⟨k.toArray⟩) (hv : a.eval v = val)
    (h : ∀ w', w'.heap[b]? = some (.map ((ents B ws).push ⟨.string ⟨k.toArray⟩, val, clock⟩) (clock + 1)) → w.grownBy w' (some b) → w'.heap.size = w.heap.size → wpList Tryz.prog ops Q rest (a.put o.dst undef) w') :
    wpList Tryz.prog ops Q (o :: rest) a w := by
  refine wpList_plain hgd fun K' hK' => ?_
  unfold Oper.wp
  simp [execOp, hop, hm, hx, hv, run_push hb hs k hk hn val, Result.andThen]
  exact hK' _ _ (h _ (heap_setBlock_same hb _) ⟨rfl, rfl, rfl, by simp [setBlock], fun i _ hi => heap_setBlock_other hb _ (fun e => hi (by rw [e]))⟩ (by simp [setBlock]))
/-- What settersOf has laid: the function's cell, the map, a cell a number. -/
structure SetAt (w : World) (B g : Nat) (ws : List (List UInt8)) : Prop where
  fn : w.heap[B]? = some (.cells #[.func (.func g) #[] #[]] 136 (0, 0))
  mp : w.heap[B + 1]? = some (.map (ents B ws) ws.length)
  num : ∀ k : Nat, 1 ≤ k → k ≤ ws.length → w.heap[B + 1 + k]? = some (.cells #[.int .i64 (k : Int)] 3 (0, 0))
theorem SetAt.keep {w w' : World} {B g : Nat} {ws : List (List UInt8)} (h : SetAt w B g ws) (k : w.grownBy w' none) : SetAt w' B g ws :=
  ⟨grown_keep k h.fn (by simp), grown_keep k h.mp (by simp), fun i h1 h2 => grown_keep k (h.num i h1 h2) (by simp)⟩
/-- .. while it goes: k words are in. -/
structure SetIn (w : World) (B g : Nat) (ws : List (List UInt8)) (k : Nat) : Prop where
  at_ : SetAt w B g (ws.take k)
  cur : w.heap[B + 1 + (k + 1)]? = some (.cells #[.int .i64 ((k : Int) + 1)] 3 (0, 0))
  size : w.heap.size = B + 1 + (k + 1) + 1
def blkOf : Value → Nat
  | .pointer (some a) => a.block
  | _ => 0
theorem take_more {ws : List (List UInt8)} {k : Nat} {x : List UInt8} (h : ws[k]? = some x) : ws.take (k + 1) = ws.take k ++ [x] := by
  rw [List.take_add_one, h]; rfl
theorem not_before {ws : List (List UInt8)} (hd : ws.Nodup) {k : Nat} {x : List UInt8} (h : ws[k]? = some x) : x ∉ ws.take k := by
  intro hm
  obtain ⟨j, hj, e⟩ := List.getElem_of_mem hm
  have hjk : j < k := by rw [List.length_take] at hj; omega
  have hk := (List.getElem?_eq_some_iff.1 h)
  obtain ⟨hk1, hk2⟩ := hk
  have e2 : ws[j]'(by omega) = ws[k] := by rw [← hk2] at e; rw [← e]; simp
  exact List.pairwise_iff_getElem.1 hd j k (by omega) hk1 hjk e2
/-- One word more. -/
theorem SetIn.next {w W1 : World} {B g : Nat} {ws : List (List UInt8)} {k : Nat} {x : List UInt8} (S : SetIn w B g ws k) (hx : ws[k]? = some x)
    (M : W1.heap[B + 1]? = some (.map ((ents B (ws.take k)).push ⟨.string ⟨x.toArray⟩, clo B (k + 1), k⟩) (k + 1))) (G : w.grownBy W1 (some (B + 1))) (hs : W1.heap.size = w.heap.size) :
    SetIn (W1.alloc (.cells #[.int .i64 ((k : Int) + 1 + 1)] 3)) B g ws (k + 1) := by
  have hz : W1.heap.size = B + 1 + (k + 1) + 1 := hs.trans S.size
  have hkl : k < ws.length := (List.getElem?_eq_some_iff.1 hx).1
  have hl : (ws.take k).length = k := by rw [List.length_take]; omega
  have b2 := alloc_at W1 #[.int .i64 ((k : Int) + 1 + 1)] 3
  have G2 : W1.grownBy (W1.alloc (.cells #[.int .i64 ((k : Int) + 1 + 1)] 3)) none := World.grownBy_alloc _ _ _
  refine ⟨⟨?_, ?_, ?_⟩, ?_, ?_⟩
  · exact grown_keep G2 (grown_keep G S.at_.fn (by simp)) (by simp)
  · have := grown_keep G2 M (by simp)
    rw [take_more hx]
    have e : ents B (ws.take k ++ [x]) = (ents B (ws.take k)).push ⟨.string ⟨x.toArray⟩, clo B (k + 1), k⟩ := by
      unfold ents
      rw [entsL_snoc, hl, Nat.zero_add]
      simp
    rw [e, List.length_append, hl]
    exact this
  · intro i h1 h2
    rw [take_more hx, List.length_append, hl] at h2
    simp at h2
    by_cases hi : i = k + 1
    · subst hi
      exact grown_keep G2 (grown_keep G S.cur (by simp)) (by simp)
    · exact grown_keep G2 (grown_keep G (S.at_.num i h1 (by rw [hl]; omega)) (by simp; omega)) (by simp)
  · rw [hz] at b2
    exact b2
  · rw [World.size_alloc, hz]
    omega
set_option maxHeartbeats 2000000 in
set_option maxRecDepth 100000 in
theorem settersOf_any (b g : Nat) (ws : List (List UInt8)) (hd : ws.Nodup) (hs : Short ws) (hl : ws.length ≤ 100) (w : World) (T : TabAt w b ws) :
    Calls Tryz.prog 100 #[.slice (some ⟨b, 0, none⟩) (ws.length + 1) (ws.length + 1), .func (.func g) #[] #[]] w fun e w' => e = .returned (.map (some (w.heap.size + 1))) ∧ SetAt w' w.heap.size g ws ∧ w.grownBy w' none := by
  have hmf : ∀ (fn : Fn) (first cap : Array Value) (w : World), (Instr.makeFunc fn first cap).run Tryz.prog w = .ok (.func fn first cap) w := fun _ _ _ _ => by simp [Instr.makeFunc]
  have hmm := @run_makeMap Tryz.prog
  go_enter Tryz.func100, Tryz.ntmps100
  go_wp2_with fail
  obtain ⟨W0, hW0⟩ : ∃ W0, W0 = ((w.alloc (.cells #[.func (.func g) #[] #[]] 136)).alloc (.map #[] 0)).alloc (.cells #[.int .i64 1] 3) := ⟨_, rfl⟩
  rw [← hW0]
  have S0 : SetIn W0 w.heap.size g ws 0 := by
    have h0 := alloc_at w #[.func (.func g) #[] #[]] 136
    have h1 : ((w.alloc (.cells #[.func (.func g) #[] #[]] 136)).alloc (.map #[] 0)).heap[w.heap.size + 1]? = some (.map #[] 0) := by
      have := (MapKept.heap_alloc (w.alloc (.cells #[.func (.func g) #[] #[]] 136)) (.map #[] 0)).1
      rwa [World.size_alloc] at this
    have h2 := alloc_at ((w.alloc (.cells #[.func (.func g) #[] #[]] 136)).alloc (.map #[] 0)) #[.int .i64 1] 3
    rw [World.size_alloc, World.size_alloc] at h2
    rw [hW0]
    refine ⟨⟨?_, ?_, fun i h1 h2 => ?_⟩, ?_, ?_⟩
    · exact grown_keep (World.grownBy_alloc _ _ none) (grown_keep (World.grownBy_alloc _ _ none) h0 (by simp)) (by simp)
    · exact grown_keep (World.grownBy_alloc _ _ none) h1 (by simp)
    · simp at h2; omega
    · exact h2
    · simp
  have G0 : w.grownBy W0 none := by
    rw [hW0]
    exact grown_push (grown_push (World.grownBy_alloc _ _ _) _) _
  clear hW0
  have hlen : Hid (ws.length ≤ 100) := hl
  go_loopw [6] (fun t wr => ∃ k : Nat, k ≤ ws.length ∧ t = .pointer (some ⟨w.heap.size + 1 + (k + 1), 0, none⟩) ∧ SetIn wr w.heap.size g ws k ∧ w.grownBy wr none) (fun t _ => w.heap.size + 1 + (ws.length + 1) - blkOf t)
  case atStart => exact ⟨0, Nat.zero_le _, rfl, S0, G0⟩
  case round =>
    obtain ⟨k, hk, rfl, S, G⟩ := hrel
    have T1 := T.keep G
    have c0 := block_cell S.cur 0
    have f0 := block_free S.cur 0
    simp only [List.getElem?_toArray, List.getElem?_cons_zero] at c0
    have HS : Hid (SetIn wr w.heap.size g ws k) := S
    have HG : Hid (w.grownBy wr none) := G
    by_cases hlt : k < ws.length
    · obtain ⟨x, hx⟩ : ∃ x, ws[k]? = some x := ⟨_, List.getElem?_eq_getElem hlt⟩
      have cx := T1.cell hx
      have HX : Hid (ws[k]? = some x) := hx
      have hlt1 : (k : Int) + 1 < (ws.length : Int) + 1 := by omega
      have hm := S.at_.mp
      have hxl : x.length ≤ 100 := hs x (List.mem_of_getElem? hx)
      have hst : Short (ws.take k) := fun y hy => hs y (List.mem_of_mem_take hy)
      have hnb := not_before hd hx
      clear S G T1 T hx
      go_wp2_with (first | (at_mapUpdate; refine wpl_push rfl _ _ _ rfl hm hst x hxl hnb _ rfl rfl rfl ?_; intro W1 M1 g1 s1; have cw := g1.cell c0 (by simp)) | fail)
      have NX : Hid _ := HS.out.next HX.out (by rw [List.length_take, Nat.min_eq_left hk] at M1; exact M1) g1 s1
      have NG : w.grownBy W1 none := grown_own HG.out g1 (fun _ e => by cases e; omega)
      have HZ0 : wr.heap.size = w.heap.size + 1 + (k + 1 + 1) := HS.out.size.trans (by omega)
      clear HS HG hm c0 f0 cx M1 cw
      have HZ : Hid (wr.heap.size = w.heap.size + 1 + (k + 1 + 1)) := HZ0
      go_roundw
      case rel => exact ⟨k + 1, hlt, by rw [HZ.out], NX.out, grown_push NG _⟩
      case measure =>
        have := HZ.out
        simp only [blkOf]
        omega
    · have hke : k = ws.length := by omega
      have HE : Hid (SetAt wr w.heap.size g ws) := by
        have := S.at_
        rwa [hke, List.take_length] at this
      clear S hke
      go_wp2
      go_ret
      exact ⟨rfl, HE.out, HG.out⟩
end Go.Proofs.YtpceelbphpfciaaGreatDoor
