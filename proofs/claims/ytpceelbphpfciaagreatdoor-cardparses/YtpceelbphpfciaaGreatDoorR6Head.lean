/-
  What the document's own head tells: words read loosely as those ahead of a card's parts.
-/
import Derived.Test.YtpceelbphpfciaaGreatDoorRA
import Derived.Test.YtpceelbphpfciaaGreatDoorRB
import Derived.Test.YtpceelbphpfciaaGreatDoorRHead
namespace Go.Proofs.YtpceelbphpfciaaGreatDoor
open Go.RowKit

theorem CAt.nm {w : World} {q : Nat} {h : Hd} {v : Value} (k : CAt w q h v) (x : ByteArray) : CAt (w.setCell ⟨q, 0, none⟩ (.string x)) q { h with nm := x } v := block_set k 0 _
theorem CAt.su {w : World} {q : Nat} {h : Hd} {v : Value} (k : CAt w q h v) (x : Int) : CAt (w.setCell ⟨q, 1, none⟩ (.int .u8 x)) q { h with su := x } v := block_set k 1 _
theorem CAt.kd {w : World} {q : Nat} {h : Hd} {v : Value} (k : CAt w q h v) (x : Int) : CAt (w.setCell ⟨q, 2, none⟩ (.int .u8 x)) q { h with kd := x } v := block_set k 2 _
theorem CAt.co {w : World} {q : Nat} {h : Hd} {v : Value} (k : CAt w q h v) (x : Int) : CAt (w.setCell ⟨q, 3, none⟩ (.int .i64 x)) q { h with co := x } v := block_set k 3 _
/-- None of the words that hang on their place. -/
def Tail (i : Nat) (w : List UInt8) : Prop := ¬ i = 0 ∧ ¬ i = 1 ∧ ¬ (i = 2 ∧ w = [117, 110, 105, 116]) ∧ ¬ (i = 2 ∧ w = [115, 112, 101, 108, 108]) ∧ ¬ (i = 2 ∧ w = [114, 101, 108, 105, 99]) ∧ ¬ i = 3 ∧ ¬ (i = 4 ∧ (rpcs w [47]).length = 2)
theorem rh_tail {i : Nat} {w : List UInt8} (h : Tail i w) (c : Cd) : rh1 i w c = if w = tokW then { c with tk := true } else if w.head? = some 43 then (if idx traitW (w.drop 1) = 0 then c else { c with tr := tWith c.tr (idx traitW (w.drop 1)) }) else c := by
  obtain ⟨h0, h1, h2, h3, h4, h5, h6⟩ := h
  unfold rh1
  rw [if_neg h0, if_neg h1, if_neg h2, if_neg h3, if_neg h4, if_neg h5, if_neg h6]
theorem rh_su (w : List UInt8) (c : Cd) : rh1 1 w c = { c with su := idx suitW w } := by
  unfold rh1
  rw [if_neg (by omega), if_pos rfl]
theorem rh_co (w : List UInt8) (c : Cd) : rh1 3 w c = { c with co := num6 3 0 w } := by
  unfold rh1
  rw [if_neg (by omega), if_neg (by omega), if_neg (by omega), if_neg (by omega), if_neg (by omega), if_pos rfl]
theorem rh_fo {w p q : List UInt8} (h : rpcs w [47] = [p, q]) (c : Cd) : rh1 4 w c = { c with po := num6 3 0 p, he := num6 3 0 q } := by
  unfold rh1
  rw [if_neg (by omega), if_neg (by omega), if_neg (by omega), if_neg (by omega), if_neg (by omega), if_neg (by omega), if_pos ⟨rfl, by rw [h]; rfl⟩, h]
  rfl
theorem rh_step {ws : List ByteArray} {k : Nat} {x : ByteArray} (h : ws[k]? = some x) : rhF 0 ((ws.map (·.data.toList)).take (k + 1)) Cd.none = rh1 k x.data.toList (rhF 0 ((ws.map (·.data.toList)).take k) Cd.none) := by
  have hk := (List.getElem?_eq_some_iff.1 h).1
  have e : (ws.map (·.data.toList)).take (k + 1) = (ws.map (·.data.toList)).take k ++ [x.data.toList] := by
    rw [List.take_add_one, List.getElem?_map, h]
    rfl
  rw [e, rhF_snoc]
  congr 1
  simp
  omega
theorem txt_no {x : ByteArray} {l : List UInt8} (h : ¬ x.data.toList = l) : (x.toList == l) = false := by rw [Lib.toList_data]; simpa using h
theorem txt_yes {x : ByteArray} {l : List UInt8} (h : x.data.toList = l) : (x.toList == l) = true := by rw [Lib.toList_data]; simpa using h
theorem first_is {x : ByteArray} (h : 0 < x.size) : x.data.toList.head? = some x[0] := by rw [List.head?_eq_getElem?]; exact byte_at x 0 h
/-- The state of the loop. -/
def RhAt (w : World) (q z : Nat) (c : Cd) (wr : World) : Prop := CAt wr q c.hd (.slice none 0 0) ∧ CAt wr z Hd.none (.slice none 0 0) ∧ w.grownBy wr none
set_option maxRecDepth 100000 in
set_option maxHeartbeats 4000000 in
theorem rhead6_any (b cp : Nat) (ws : List ByteArray) (hl : ws.length ≤ 1000) (hsz : ∀ x ∈ ws, x.size ≤ 600) (w : World) (X : W0At w b ws) : Calls Tryz.prog 60 #[.slice (some ⟨b, 0, none⟩) ws.length cp] w fun e w' => e = .returned (cv (rhead (ws.map (·.data.toList))).hd (.slice none 0 0)) ∧ w.grownBy w' none := by
  have HX : Hid (W0At w b ws) := X
  have HS : Hid (∀ x ∈ ws, x.size ≤ 600) := hsz
  have HZ0 : Hid (CAt ((w.alloc (.cells (ccs Hd.none (.slice none 0 0)) 40)).alloc (.cells (ccs Hd.none (.slice none 0 0)) 40)) w.heap.size Hd.none (.slice none 0 0)) := CAt.keep (alloc_at w _ _) (World.grownBy_alloc _ _ none)
  have HC0 : Hid (CAt ((w.alloc (.cells (ccs Hd.none (.slice none 0 0)) 40)).alloc (.cells (ccs Hd.none (.slice none 0 0)) 40)) (w.heap.size + 1) Hd.none (.slice none 0 0)) := by
    have := alloc_at (w.alloc (.cells (ccs Hd.none (.slice none 0 0)) 40)) (ccs Hd.none (.slice none 0 0)) 40
    rw [World.size_alloc] at this
    exact this
  have HG0 : Hid (w.grownBy ((w.alloc (.cells (ccs Hd.none (.slice none 0 0)) 40)).alloc (.cells (ccs Hd.none (.slice none 0 0)) 40)) none) := grown_push (World.grownBy_alloc _ _ none) _
  clear X hsz
  go_enter Tryz.func60, Tryz.ntmps60
  go_wp2_with fail
  unfold ccs at HZ0 HC0 HG0
  go_loopw [4] (fun v4 wr => ∃ k : Nat, k ≤ ws.length ∧ v4 = .int .i64 k ∧ CAt wr (w.heap.size + 1) (rhF 0 ((ws.map (·.data.toList)).take k) Cd.none).hd (.slice none 0 0) ∧ CAt wr w.heap.size Hd.none (.slice none 0 0) ∧ w.grownBy wr none) (fun v4 _ => ws.length - (intOf v4).toNat)
  case atStart => exact ⟨0, Nat.zero_le _, rfl, HC0.out, HZ0.out, HG0.out⟩
  case round =>
    clear HC0 HZ0 HG0
    obtain ⟨k, hk, rfl, C, Z, G⟩ := hrel
    have HC : Hid (CAt wr (w.heap.size + 1) (rhF 0 ((ws.map (·.data.toList)).take k) Cd.none).hd (.slice none 0 0)) := C
    have HZ : Hid (CAt wr w.heap.size Hd.none (.slice none 0 0)) := Z
    have HG : Hid (w.grownBy wr none) := G
    clear C Z G
    rcases (show k = ws.length ∨ k < ws.length from by omega) with rfl | hlt
    · have HE : Hid (rhead (ws.map (·.data.toList)) = rhF 0 ((ws.map (·.data.toList)).take ws.length) Cd.none) := by
        unfold Hid rhead
        rw [List.take_of_length_le (by simp)]
      obtain ⟨cd, hcd⟩ : ∃ cd, cd = rhF 0 ((ws.map (·.data.toList)).take ws.length) Cd.none := ⟨_, rfl⟩
      rw [← hcd] at HC HE
      clear hcd hk
      obtain ⟨c0, c1, c2, c3, c4, c5, c6, c7, c8⟩ := HC.out.cells
      obtain ⟨z0, z1, z2, z3, z4, z5, z6, z7, z8⟩ := HZ.out.cells
      have zf := fun i => HZ.out.free i
      simp only [Hd.none] at z0 z1 z2 z3 z4 z5 z6 z7 z8
      go_wp2
      refine bodyPost_ret (v := cv cd.hd (.slice none 0 0)) (by simp [results, Tryz.results60, go_sem, z0, z1, z2, z3, z4, z5, z6, z7, z8, cv]) rfl ⟨?_, ?_⟩
      · rw [HE.out]
      · exact grown_own HG.out (row_st9 _ w.heap.size _ _ _ _ _ _ _ _ _) (fun x e => by cases e; exact Nat.le_refl _)
    · have hlt' : (k : Int) < (ws.length : Int) := by omega
      have hk0 : (0 : Int) ≤ (k : Int) := by omega
      have hw : wrap64 ((k : Int) + 1) = (k : Int) + 1 := by unfold wrap64; omega
      obtain ⟨x, hx⟩ : ∃ x, ws[k]? = some x := ⟨_, List.getElem?_eq_getElem hlt⟩
      have ck : wr.cell? ⟨b, k, none⟩ = some (.string x) := HG.out.cell (HX.out k x hx) (by simp)
      have HSX : Hid (x.size ≤ 600) := HS.out x (List.mem_of_getElem? hx)
      have HST : Hid (rhF 0 ((ws.map (·.data.toList)).take (k + 1)) Cd.none = rh1 k x.data.toList (rhF 0 ((ws.map (·.data.toList)).take k) Cd.none)) := rh_step hx
      obtain ⟨cd, hcd⟩ : ∃ cd, cd = rhF 0 ((ws.map (·.data.toList)).take k) Cd.none := ⟨_, rfl⟩
      rw [← hcd] at HC HST
      clear hcd hx hk
      have CP := fun W => rpcs_any x ⟨#[47]⟩ (by have := HSX.out; omega) (by decide) (by decide) W
      have CPH : Hid (∀ W : World, Calls Tryz.prog 59 #[.string x, .string ⟨#[47]⟩] W fun e w' => ∃ v, e = .returned v ∧ Own w' W.heap.size 9 v (pcs (rpcs x.data.toList [47])) ∧ W.grownBy w' none) := CP
      clear CP
      rcases (show k = 0 ∨ k = 1 ∨ k = 2 ∨ k = 3 ∨ k = 4 ∨ 5 ≤ k from by omega) with hE | hE | hE | hE | hE | hE
      · subst hE
        go_wp2_with fail
        refine Calls.mono (CPH.out _) ?_
        rintro e w2 ⟨v6, rfl, o6, g6⟩
        obtain ⟨a6, k6, rfl⟩ := o6.form
        rw [length_pcs]
        have HC2 : Hid (CAt w2 (w.heap.size + 1) cd.hd (.slice none 0 0)) := HC.out.keep g6
        have HZ2 : Hid (CAt w2 w.heap.size Hd.none (.slice none 0 0)) := HZ.out.keep g6
        have HG2 : Hid (w.grownBy w2 none) := grown_trans HG.out g6
        have HO6 : Hid (Own w2 wr.heap.size 9 (.slice a6 (pcs (rpcs x.data.toList [47])).length k6) (pcs (rpcs x.data.toList [47]))) := o6
        obtain ⟨np, hnp⟩ : ∃ np, np = (rpcs x.data.toList [47]).length := ⟨_, rfl⟩
        rw [← hnp]
        have HNP : Hid (np = (rpcs x.data.toList [47]).length) := hnp
        have HWR : Hid (CAt wr (w.heap.size + 1) cd.hd (.slice none 0 0)) := HC.out
        clear g6 o6 hnp HC HZ HG ck CPH
        have cf := fun i => HC2.out.free i
        obtain ⟨c0, c1, c2, c3, c4, c5, c6, c7, c8⟩ := HC2.out.cells
        have HST2 : Hid (rh1 0 x.data.toList cd = { cd with nm := x }) := rfl
        go_wp2_with fail
        go_roundw
        case rel => exact ⟨1, hlt, by go_num, by rw [HST.out, HST2.out]; exact HC2.out.nm x, HZ2.out.keepR (grown_set _ _ _ _) (by simp), grown_own HG2.out (grown_set _ _ _ _) (fun x e => by cases e; omega)⟩
        case measure => first | exact meas_next hlt | (simp [intOf]; omega)
      · subst hE
        go_wp2_with fail
        refine Calls.mono (CPH.out _) ?_
        rintro e w2 ⟨v6, rfl, o6, g6⟩
        obtain ⟨a6, k6, rfl⟩ := o6.form
        rw [length_pcs]
        have HC2 : Hid (CAt w2 (w.heap.size + 1) cd.hd (.slice none 0 0)) := HC.out.keep g6
        have HZ2 : Hid (CAt w2 w.heap.size Hd.none (.slice none 0 0)) := HZ.out.keep g6
        have HG2 : Hid (w.grownBy w2 none) := grown_trans HG.out g6
        have HO6 : Hid (Own w2 wr.heap.size 9 (.slice a6 (pcs (rpcs x.data.toList [47])).length k6) (pcs (rpcs x.data.toList [47]))) := o6
        obtain ⟨np, hnp⟩ : ∃ np, np = (rpcs x.data.toList [47]).length := ⟨_, rfl⟩
        rw [← hnp]
        have HNP : Hid (np = (rpcs x.data.toList [47]).length) := hnp
        have HWR : Hid (CAt wr (w.heap.size + 1) cd.hd (.slice none 0 0)) := HC.out
        clear g6 o6 hnp HC HZ HG ck CPH
        have cf := fun i => HC2.out.free i
        obtain ⟨c0, c1, c2, c3, c4, c5, c6, c7, c8⟩ := HC2.out.cells
        have HST2 : Hid (rh1 1 x.data.toList cd = { cd with su := idx suitW x.data.toList }) := rh_su _ _
        have CT := fun W => rsof_any x W
        rw [Lib.toList_data] at CT
        generalize idx suitW x.data.toList = ms at CT HST2
        have CTH : Hid (∀ W : World, Calls Tryz.prog 75 #[.string x] W fun e w' => e = .returned (.tuple #[.int .u8 (ms : Nat), .bool (decide (ms ≠ 0))]) ∧ w' = W) := CT
        clear CT
        go_wp2_with fail
        refine Calls.mono (CTH.out _) ?_
        rintro e w3 ⟨rfl, h3⟩
        obtain rfl : w2 = w3 := h3.symm
        go_wp2_with fail
        go_roundw
        case rel => exact ⟨2, hlt, by go_num, by rw [HST.out, HST2.out]; exact HC2.out.su ms, HZ2.out.keepR (grown_set _ _ _ _) (by simp), grown_own HG2.out (grown_set _ _ _ _) (fun x e => by cases e; omega)⟩
        case measure => first | exact meas_next hlt | (simp [intOf]; omega)
      · subst hE
        go_wp2_with fail
        refine Calls.mono (CPH.out _) ?_
        rintro e w2 ⟨v6, rfl, o6, g6⟩
        obtain ⟨a6, k6, rfl⟩ := o6.form
        rw [length_pcs]
        have HC2 : Hid (CAt w2 (w.heap.size + 1) cd.hd (.slice none 0 0)) := HC.out.keep g6
        have HZ2 : Hid (CAt w2 w.heap.size Hd.none (.slice none 0 0)) := HZ.out.keep g6
        have HG2 : Hid (w.grownBy w2 none) := grown_trans HG.out g6
        have HO6 : Hid (Own w2 wr.heap.size 9 (.slice a6 (pcs (rpcs x.data.toList [47])).length k6) (pcs (rpcs x.data.toList [47]))) := o6
        obtain ⟨np, hnp⟩ : ∃ np, np = (rpcs x.data.toList [47]).length := ⟨_, rfl⟩
        rw [← hnp]
        have HNP : Hid (np = (rpcs x.data.toList [47]).length) := hnp
        have HWR : Hid (CAt wr (w.heap.size + 1) cd.hd (.slice none 0 0)) := HC.out
        clear g6 o6 hnp HC HZ HG ck CPH
        have cf := fun i => HC2.out.free i
        obtain ⟨c0, c1, c2, c3, c4, c5, c6, c7, c8⟩ := HC2.out.cells
        by_cases hy : x.data.toList = [117, 110, 105, 116]
        · have HST2 : Hid (rh1 2 x.data.toList cd = { cd with kd := 1 }) := by
            unfold Hid rh1
            rw [if_neg (by omega), if_neg (by omega), if_pos ⟨rfl, hy⟩]
          have q1 : (x.toList == [117, 110, 105, 116]) = true := txt_yes hy
          clear hy
          go_wp2_with fail
          go_roundw
          case rel => exact ⟨3, hlt, by go_num, by rw [HST.out, HST2.out]; exact HC2.out.kd 1, HZ2.out.keepR (grown_set _ _ _ _) (by simp), grown_own HG2.out (grown_set _ _ _ _) (fun x e => by cases e; omega)⟩
          case measure => first | exact meas_next hlt | (simp [intOf]; omega)
        · have e1 := hy
          have q1 : (x.toList == [117, 110, 105, 116]) = false := txt_no hy
          clear hy
          by_cases hy : x.data.toList = [115, 112, 101, 108, 108]
          · have HST2 : Hid (rh1 2 x.data.toList cd = { cd with kd := 2 }) := by
              unfold Hid rh1
              rw [if_neg (by omega), if_neg (by omega), if_neg (fun e => e1 e.2), if_pos ⟨rfl, hy⟩]
            have q2 : (x.toList == [115, 112, 101, 108, 108]) = true := txt_yes hy
            clear hy
            go_wp2_with fail
            go_roundw
            case rel => exact ⟨3, hlt, by go_num, by rw [HST.out, HST2.out]; exact HC2.out.kd 2, HZ2.out.keepR (grown_set _ _ _ _) (by simp), grown_own HG2.out (grown_set _ _ _ _) (fun x e => by cases e; omega)⟩
            case measure => first | exact meas_next hlt | (simp [intOf]; omega)
          · have e2 := hy
            have q2 : (x.toList == [115, 112, 101, 108, 108]) = false := txt_no hy
            clear hy
            by_cases hy : x.data.toList = [114, 101, 108, 105, 99]
            · have HST2 : Hid (rh1 2 x.data.toList cd = { cd with kd := 3 }) := by
                unfold Hid rh1
                rw [if_neg (by omega), if_neg (by omega), if_neg (fun e => e1 e.2), if_neg (fun e => e2 e.2), if_pos ⟨rfl, hy⟩]
              have q3 : (x.toList == [114, 101, 108, 105, 99]) = true := txt_yes hy
              clear hy
              go_wp2_with fail
              go_roundw
              case rel => exact ⟨3, hlt, by go_num, by rw [HST.out, HST2.out]; exact HC2.out.kd 3, HZ2.out.keepR (grown_set _ _ _ _) (by simp), grown_own HG2.out (grown_set _ _ _ _) (fun x e => by cases e; omega)⟩
              case measure => first | exact meas_next hlt | (simp [intOf]; omega)
            · have e3 := hy
              have q3 : (x.toList == [114, 101, 108, 105, 99]) = false := txt_no hy
              clear hy
              have HTL : Hid (Tail 2 x.data.toList) := ⟨by omega, by omega, fun e => e1 e.2, fun e => e2 e.2, fun e => e3 e.2, by omega, by omega⟩
              clear e1 e2 e3
              by_cases ht : x.data.toList = tokW
              · have p1 := txt_yes ht
                have HST2 : Hid (rh1 2 x.data.toList cd = { cd with tk := true }) := by unfold Hid; rw [rh_tail HTL.out, if_pos ht]
                have p1' : (x.toList == [116, 111, 107, 101, 110]) = true := p1
                clear ht p1
                go_wp2_with fail
                go_roundw
                case rel => exact ⟨3, hlt, by go_num, by rw [HST.out, HST2.out]; exact HC2.out.tk true, HZ2.out.keepR (grown_set _ _ _ _) (by simp), grown_own HG2.out (grown_set _ _ _ _) (fun x e => by cases e; omega)⟩
                case measure => first | exact meas_next hlt | (simp [intOf]; omega)
              · have p1 : (x.toList == [116, 111, 107, 101, 110]) = false := txt_no ht
                by_cases hp : 0 < x.size
                · have hp' : (0 : Int) < (x.size : Int) := by omega
                  by_cases hq : x[0] = 43
                  · have p2 : (((x[0].toNat : Nat) : Int) == 43) = true := by rw [hq]; rfl
                    have hh : x.data.toList.head? = some 43 := by rw [first_is hp, hq]
                    have e1 : (1 : Int) ≤ (x.size : Int) := by omega
                    have CT := fun W => rtof_any (x.extract 1 x.size) W
                    have ex : (x.extract 1 x.size).toList = x.data.toList.drop 1 := by rw [Lib.toList_data, ext_rest]
                    rw [ex] at CT
                    by_cases hz : idx traitW (x.data.toList.drop 1) = 0
                    · have HST2 : Hid (rh1 2 x.data.toList cd = cd) := by unfold Hid; rw [rh_tail HTL.out, if_neg ht, if_pos hh, if_pos hz]
                      rw [show decide (idx traitW (x.data.toList.drop 1) ≠ 0) = false from decide_eq_false (fun h => h hz)] at CT
                      generalize idx traitW (x.data.toList.drop 1) = mt at CT
                      have CTH : Hid (∀ W : World, Calls Tryz.prog 76 #[.string (x.extract 1 x.size)] W fun e w' => e = .returned (.tuple #[.int .u8 (mt : Nat), .bool false]) ∧ W.grownBy w' none) := CT
                      clear CT hz hh hq ht ex
                      go_wp2_with fail
                      refine Calls.mono (CTH.out _) ?_
                      rintro e w3 ⟨rfl, g3⟩
                      have HC3 : Hid (CAt w3 (w.heap.size + 1) cd.hd (.slice none 0 0)) := HC2.out.keep g3
                      have HZ3 : Hid (CAt w3 w.heap.size Hd.none (.slice none 0 0)) := HZ2.out.keep g3
                      have HG3 : Hid (w.grownBy w3 none) := grown_trans HG2.out g3
                      clear g3
                      go_wp2_with fail
                      go_roundw
                      case rel => exact ⟨3, hlt, by go_num, by rw [HST.out, HST2.out]; exact HC3.out, HZ3.out, HG3.out⟩
                      case measure => first | exact meas_next hlt | (simp [intOf]; omega)
                    · have HST2 : Hid (rh1 2 x.data.toList cd = { cd with tr := tWith cd.tr (idx traitW (x.data.toList.drop 1)) }) := by unfold Hid; rw [rh_tail HTL.out, if_neg ht, if_pos hh, if_neg hz]
                      have hb : 1 ≤ ((idx traitW (x.data.toList.drop 1) : Nat) : Int) ∧ ((idx traitW (x.data.toList.drop 1) : Nat) : Int) ≤ 8 := by
                        have : idx traitW (x.data.toList.drop 1) ≤ traitW.length := idx_le
                        have h8 : traitW.length = 8 := rfl
                        omega
                      rw [show decide (idx traitW (x.data.toList.drop 1) ≠ 0) = true from decide_eq_true hz] at CT
                      generalize idx traitW (x.data.toList.drop 1) = mt at CT hb HST2
                      have CTH : Hid (∀ W : World, Calls Tryz.prog 76 #[.string (x.extract 1 x.size)] W fun e w' => e = .returned (.tuple #[.int .u8 (mt : Nat), .bool true]) ∧ W.grownBy w' none) := CT
                      have HB : Hid (1 ≤ ((mt : Nat) : Int) ∧ ((mt : Nat) : Int) ≤ 8) := hb
                      clear CT hz hh hq ht ex hb
                      go_wp2_with fail
                      refine Calls.mono (CTH.out _) ?_
                      rintro e w3 ⟨rfl, g3⟩
                      have HC3 : Hid (CAt w3 (w.heap.size + 1) cd.hd (.slice none 0 0)) := HC2.out.keep g3
                      have HZ3 : Hid (CAt w3 w.heap.size Hd.none (.slice none 0 0)) := HZ2.out.keep g3
                      have HG3 : Hid (w.grownBy w3 none) := grown_trans HG2.out g3
                      clear g3 cf c0 c1 c2 c3 c4 c5 c6 c7 c8
                      have cf := fun i => HC3.out.free i
                      obtain ⟨c0, c1, c2, c3, c4, c5, c6, c7, c8⟩ := HC3.out.cells
                      go_wp2_with (go_at_call 99; refine (with6_any cd.hd.tr HB.out _).mono ?_; rintro e w4 ⟨rfl, h4⟩; obtain rfl : w3 = w4 := h4.symm)
                      go_roundw
                      case rel => exact ⟨3, hlt, by go_num, by rw [HST.out, HST2.out]; exact HC3.out.tr (tWith cd.tr mt), HZ3.out.keepR (grown_set _ _ _ _) (by simp), grown_own HG3.out (grown_set _ _ _ _) (fun x e => by cases e; omega)⟩
                      case measure => first | exact meas_next hlt | (simp [intOf]; omega)
                  · have p2 : (((x[0].toNat : Nat) : Int) == 43) = false := by
                      have : ¬ ((x[0].toNat : Nat) : Int) = 43 := fun e => hq (UInt8.toNat_inj.1 (by
                        have e2 : (43 : UInt8).toNat = 43 := rfl
                        rw [e2]
                        omega))
                      simpa using this
                    have HST2 : Hid (rh1 2 x.data.toList cd = cd) := by
                      unfold Hid
                      rw [rh_tail HTL.out, if_neg ht, if_neg (by rw [first_is hp]; exact fun e => hq (Option.some.inj e))]
                    clear hq ht
                    go_wp2_with fail
                    go_roundw
                    case rel => exact ⟨3, hlt, by go_num, by rw [HST.out, HST2.out]; exact HC2.out, HZ2.out, HG2.out⟩
                    case measure => first | exact meas_next hlt | (simp [intOf]; omega)
                · have hp' : ¬ (0 : Int) < (x.size : Int) := by omega
                  have HST2 : Hid (rh1 2 x.data.toList cd = cd) := by
                    unfold Hid
                    rw [rh_tail HTL.out, if_neg ht, if_neg (by
                      rw [List.eq_nil_of_length_eq_zero (by rw [← Lib.size_eq]; omega : x.data.toList.length = 0)]
                      simp)]
                  clear hp ht
                  go_wp2_with fail
                  go_roundw
                  case rel => exact ⟨3, hlt, by go_num, by rw [HST.out, HST2.out]; exact HC2.out, HZ2.out, HG2.out⟩
                  case measure => first | exact meas_next hlt | (simp [intOf]; omega)
      · subst hE
        go_wp2_with fail
        refine Calls.mono (CPH.out _) ?_
        rintro e w2 ⟨v6, rfl, o6, g6⟩
        obtain ⟨a6, k6, rfl⟩ := o6.form
        rw [length_pcs]
        have HC2 : Hid (CAt w2 (w.heap.size + 1) cd.hd (.slice none 0 0)) := HC.out.keep g6
        have HZ2 : Hid (CAt w2 w.heap.size Hd.none (.slice none 0 0)) := HZ.out.keep g6
        have HG2 : Hid (w.grownBy w2 none) := grown_trans HG.out g6
        have HO6 : Hid (Own w2 wr.heap.size 9 (.slice a6 (pcs (rpcs x.data.toList [47])).length k6) (pcs (rpcs x.data.toList [47]))) := o6
        obtain ⟨np, hnp⟩ : ∃ np, np = (rpcs x.data.toList [47]).length := ⟨_, rfl⟩
        rw [← hnp]
        have HNP : Hid (np = (rpcs x.data.toList [47]).length) := hnp
        have HWR : Hid (CAt wr (w.heap.size + 1) cd.hd (.slice none 0 0)) := HC.out
        clear g6 o6 hnp HC HZ HG ck CPH
        have cf := fun i => HC2.out.free i
        obtain ⟨c0, c1, c2, c3, c4, c5, c6, c7, c8⟩ := HC2.out.cells
        have HST2 : Hid (rh1 3 x.data.toList cd = { cd with co := num6 3 0 x.data.toList }) := rh_co _ _
        have CT := fun W => num6_any x W
        generalize num6 3 0 x.data.toList = mc at CT HST2
        have CTH : Hid (∀ W : World, Calls Tryz.prog 98 #[.string x] W fun e w' => e = .returned (.int .i64 mc) ∧ w' = W) := CT
        clear CT
        go_wp2_with fail
        refine Calls.mono (CTH.out _) ?_
        rintro e w3 ⟨rfl, h3⟩
        obtain rfl : w2 = w3 := h3.symm
        go_wp2_with fail
        go_roundw
        case rel => exact ⟨4, hlt, by go_num, by rw [HST.out, HST2.out]; exact HC2.out.co mc, HZ2.out.keepR (grown_set _ _ _ _) (by simp), grown_own HG2.out (grown_set _ _ _ _) (fun x e => by cases e; omega)⟩
        case measure => first | exact meas_next hlt | (simp [intOf]; omega)
      · subst hE
        go_wp2_with fail
        refine Calls.mono (CPH.out _) ?_
        rintro e w2 ⟨v6, rfl, o6, g6⟩
        obtain ⟨a6, k6, rfl⟩ := o6.form
        rw [length_pcs]
        have HC2 : Hid (CAt w2 (w.heap.size + 1) cd.hd (.slice none 0 0)) := HC.out.keep g6
        have HZ2 : Hid (CAt w2 w.heap.size Hd.none (.slice none 0 0)) := HZ.out.keep g6
        have HG2 : Hid (w.grownBy w2 none) := grown_trans HG.out g6
        have HO6 : Hid (Own w2 wr.heap.size 9 (.slice a6 (pcs (rpcs x.data.toList [47])).length k6) (pcs (rpcs x.data.toList [47]))) := o6
        obtain ⟨np, hnp⟩ : ∃ np, np = (rpcs x.data.toList [47]).length := ⟨_, rfl⟩
        rw [← hnp]
        have HNP : Hid (np = (rpcs x.data.toList [47]).length) := hnp
        have HWR : Hid (CAt wr (w.heap.size + 1) cd.hd (.slice none 0 0)) := HC.out
        clear g6 o6 hnp HC HZ HG ck CPH
        have cf := fun i => HC2.out.free i
        obtain ⟨c0, c1, c2, c3, c4, c5, c6, c7, c8⟩ := HC2.out.cells
        by_cases hn : np = 2
        · have hn' : ((np : Int) == 2) = true := by rw [hn]; rfl
          obtain ⟨p, q, hpq⟩ : ∃ p q, rpcs x.data.toList [47] = [p, q] := by
            have := HNP.out
            rw [hn] at this
            match hr : rpcs x.data.toList [47], this with
            | [p, q], _ => exact ⟨p, q, rfl⟩
          have HST2 : Hid (rh1 4 x.data.toList cd = { cd with po := num6 3 0 p, he := num6 3 0 q }) := rh_fo hpq cd
          have hown := HO6.out
          rw [hpq] at hown
          subst hn
          rcases hown.at with ⟨_, e⟩ | ⟨g, cap, ev, hgb, hgs, _, hc⟩
          · simp [pcs] at e
          injection ev with e1 _ e3
          subst e1
          subst e3
          have y0 := (hc 0 (.string ⟨p.toArray⟩) rfl).1
          have HY1 : Hid (w2.cell? ⟨g, 1, none⟩ = some (.string ⟨q.toArray⟩)) := (hc 1 (.string ⟨q.toArray⟩) rfl).1
          have Np := fun W => num6_any ⟨p.toArray⟩ W
          have Nq := fun W => num6_any ⟨q.toArray⟩ W
          simp only at Np Nq
          generalize num6 3 0 p = mp at Np HST2
          generalize num6 3 0 q = mq at Nq HST2
          have HNpp : Hid (∀ W : World, Calls Tryz.prog 98 #[.string ⟨p.toArray⟩] W fun e w' => e = .returned (.int .i64 mp) ∧ w' = W) := Np
          have HNq : Hid (∀ W : World, Calls Tryz.prog 98 #[.string ⟨q.toArray⟩] W fun e w' => e = .returned (.int .i64 mq) ∧ w' = W) := Nq
          have hgq : Hid (w.heap.size + 1 < g) := by
            have := block_lt HWR.out
            unfold Hid
            omega
          clear Np Nq hc hown hpq HNP HO6
          go_wp2_with fail
          refine Calls.mono (HNpp.out _) ?_
          rintro e w3 ⟨rfl, h3⟩
          obtain rfl : w2 = w3 := h3.symm
          have HC3 : Hid (CAt (w2.setCell ⟨w.heap.size + 1, 4, none⟩ (.int .i64 mp)) (w.heap.size + 1) { cd.hd with po := mp } (.slice none 0 0)) := HC2.out.po mp
          have HZ3 : Hid (CAt (w2.setCell ⟨w.heap.size + 1, 4, none⟩ (.int .i64 mp)) w.heap.size Hd.none (.slice none 0 0)) := HZ2.out.keepR (grown_set _ _ _ _) (by simp)
          have HG3 : Hid (w.grownBy (w2.setCell ⟨w.heap.size + 1, 4, none⟩ (.int .i64 mp)) none) := grown_own HG2.out (grown_set _ _ _ _) (fun x e => by cases e; omega)
          have y1 : (w2.setCell ⟨w.heap.size + 1, 4, none⟩ (.int .i64 mp)).cell? ⟨g, 1, none⟩ = some (.string ⟨q.toArray⟩) := (grown_set w2 (w.heap.size + 1) 4 (.int .i64 mp)).cell HY1.out (by have := hgq.out; simp; omega)
          have cf2 := fun i => HC3.out.free i
          have d5 := HC3.out.cells.2.2.2.2.2.1
          go_wp2_with fail
          refine Calls.mono (HNq.out _) ?_
          rintro e w4 ⟨rfl, h4⟩
          obtain rfl : w2.setCell ⟨w.heap.size + 1, 4, none⟩ (.int .i64 mp) = w4 := h4.symm
          go_wp2_with fail
          go_roundw
          case rel => exact ⟨5, hlt, by go_num, by rw [HST.out, HST2.out]; exact HC3.out.he mq, HZ3.out.keepR (grown_set _ _ _ _) (by simp), grown_own HG3.out (grown_set _ _ _ _) (fun x e => by cases e; omega)⟩
          case measure => first | exact meas_next hlt | (simp [intOf]; omega)
        · have hn' : ((np : Int) == 2) = false := by
            have : ¬ (np : Int) = 2 := by omega
            simpa using this
          have HTL : Hid (Tail 4 x.data.toList) := ⟨by omega, by omega, by omega, by omega, by omega, by omega, fun e => hn (by rw [HNP.out]; exact e.2)⟩
          clear hn
          by_cases ht : x.data.toList = tokW
          · have q1 := txt_yes ht
            have HST2 : Hid (rh1 4 x.data.toList cd = { cd with tk := true }) := by unfold Hid; rw [rh_tail HTL.out, if_pos ht]
            have q1' : (x.toList == [116, 111, 107, 101, 110]) = true := q1
            clear ht q1
            go_wp2_with fail
            go_roundw
            case rel => exact ⟨5, hlt, by go_num, by rw [HST.out, HST2.out]; exact HC2.out.tk true, HZ2.out.keepR (grown_set _ _ _ _) (by simp), grown_own HG2.out (grown_set _ _ _ _) (fun x e => by cases e; omega)⟩
            case measure => first | exact meas_next hlt | (simp [intOf]; omega)
          · have q1 : (x.toList == [116, 111, 107, 101, 110]) = false := txt_no ht
            by_cases hp : 0 < x.size
            · have hp' : (0 : Int) < (x.size : Int) := by omega
              by_cases hq : x[0] = 43
              · have q2 : (((x[0].toNat : Nat) : Int) == 43) = true := by rw [hq]; rfl
                have hh : x.data.toList.head? = some 43 := by rw [first_is hp, hq]
                have e1 : (1 : Int) ≤ (x.size : Int) := by omega
                have CT := fun W => rtof_any (x.extract 1 x.size) W
                have ex : (x.extract 1 x.size).toList = x.data.toList.drop 1 := by rw [Lib.toList_data, ext_rest]
                rw [ex] at CT
                by_cases hz : idx traitW (x.data.toList.drop 1) = 0
                · have HST2 : Hid (rh1 4 x.data.toList cd = cd) := by unfold Hid; rw [rh_tail HTL.out, if_neg ht, if_pos hh, if_pos hz]
                  rw [show decide (idx traitW (x.data.toList.drop 1) ≠ 0) = false from decide_eq_false (fun h => h hz)] at CT
                  generalize idx traitW (x.data.toList.drop 1) = mt at CT
                  have CTH : Hid (∀ W : World, Calls Tryz.prog 76 #[.string (x.extract 1 x.size)] W fun e w' => e = .returned (.tuple #[.int .u8 (mt : Nat), .bool false]) ∧ W.grownBy w' none) := CT
                  clear CT hz hh hq ht ex
                  go_wp2_with fail
                  refine Calls.mono (CTH.out _) ?_
                  rintro e w3 ⟨rfl, g3⟩
                  have HC3 : Hid (CAt w3 (w.heap.size + 1) cd.hd (.slice none 0 0)) := HC2.out.keep g3
                  have HZ3 : Hid (CAt w3 w.heap.size Hd.none (.slice none 0 0)) := HZ2.out.keep g3
                  have HG3 : Hid (w.grownBy w3 none) := grown_trans HG2.out g3
                  clear g3
                  go_wp2_with fail
                  go_roundw
                  case rel => exact ⟨5, hlt, by go_num, by rw [HST.out, HST2.out]; exact HC3.out, HZ3.out, HG3.out⟩
                  case measure => first | exact meas_next hlt | (simp [intOf]; omega)
                · have HST2 : Hid (rh1 4 x.data.toList cd = { cd with tr := tWith cd.tr (idx traitW (x.data.toList.drop 1)) }) := by unfold Hid; rw [rh_tail HTL.out, if_neg ht, if_pos hh, if_neg hz]
                  have hb : 1 ≤ ((idx traitW (x.data.toList.drop 1) : Nat) : Int) ∧ ((idx traitW (x.data.toList.drop 1) : Nat) : Int) ≤ 8 := by
                    have : idx traitW (x.data.toList.drop 1) ≤ traitW.length := idx_le
                    have h8 : traitW.length = 8 := rfl
                    omega
                  rw [show decide (idx traitW (x.data.toList.drop 1) ≠ 0) = true from decide_eq_true hz] at CT
                  generalize idx traitW (x.data.toList.drop 1) = mt at CT hb HST2
                  have CTH : Hid (∀ W : World, Calls Tryz.prog 76 #[.string (x.extract 1 x.size)] W fun e w' => e = .returned (.tuple #[.int .u8 (mt : Nat), .bool true]) ∧ W.grownBy w' none) := CT
                  have HB : Hid (1 ≤ ((mt : Nat) : Int) ∧ ((mt : Nat) : Int) ≤ 8) := hb
                  clear CT hz hh hq ht ex hb
                  go_wp2_with fail
                  refine Calls.mono (CTH.out _) ?_
                  rintro e w3 ⟨rfl, g3⟩
                  have HC3 : Hid (CAt w3 (w.heap.size + 1) cd.hd (.slice none 0 0)) := HC2.out.keep g3
                  have HZ3 : Hid (CAt w3 w.heap.size Hd.none (.slice none 0 0)) := HZ2.out.keep g3
                  have HG3 : Hid (w.grownBy w3 none) := grown_trans HG2.out g3
                  clear g3 cf c0 c1 c2 c3 c4 c5 c6 c7 c8
                  have cf := fun i => HC3.out.free i
                  obtain ⟨c0, c1, c2, c3, c4, c5, c6, c7, c8⟩ := HC3.out.cells
                  go_wp2_with (go_at_call 99; refine (with6_any cd.hd.tr HB.out _).mono ?_; rintro e w4 ⟨rfl, h4⟩; obtain rfl : w3 = w4 := h4.symm)
                  go_roundw
                  case rel => exact ⟨5, hlt, by go_num, by rw [HST.out, HST2.out]; exact HC3.out.tr (tWith cd.tr mt), HZ3.out.keepR (grown_set _ _ _ _) (by simp), grown_own HG3.out (grown_set _ _ _ _) (fun x e => by cases e; omega)⟩
                  case measure => first | exact meas_next hlt | (simp [intOf]; omega)
              · have q2 : (((x[0].toNat : Nat) : Int) == 43) = false := by
                  have : ¬ ((x[0].toNat : Nat) : Int) = 43 := fun e => hq (UInt8.toNat_inj.1 (by
                    have e2 : (43 : UInt8).toNat = 43 := rfl
                    rw [e2]
                    omega))
                  simpa using this
                have HST2 : Hid (rh1 4 x.data.toList cd = cd) := by
                  unfold Hid
                  rw [rh_tail HTL.out, if_neg ht, if_neg (by rw [first_is hp]; exact fun e => hq (Option.some.inj e))]
                clear hq ht
                go_wp2_with fail
                go_roundw
                case rel => exact ⟨5, hlt, by go_num, by rw [HST.out, HST2.out]; exact HC2.out, HZ2.out, HG2.out⟩
                case measure => first | exact meas_next hlt | (simp [intOf]; omega)
            · have hp' : ¬ (0 : Int) < (x.size : Int) := by omega
              have HST2 : Hid (rh1 4 x.data.toList cd = cd) := by
                unfold Hid
                rw [rh_tail HTL.out, if_neg ht, if_neg (by
                  rw [List.eq_nil_of_length_eq_zero (by rw [← Lib.size_eq]; omega : x.data.toList.length = 0)]
                  simp)]
              clear hp ht
              go_wp2_with fail
              go_roundw
              case rel => exact ⟨5, hlt, by go_num, by rw [HST.out, HST2.out]; exact HC2.out, HZ2.out, HG2.out⟩
              case measure => first | exact meas_next hlt | (simp [intOf]; omega)
      · have n0 : ((k : Int) == 0) = false := beqi_no (by omega)
        have n1 : ((k : Int) == 1) = false := beqi_no (by omega)
        have n2 : ((k : Int) == 2) = false := beqi_no (by omega)
        have n3 : ((k : Int) == 3) = false := beqi_no (by omega)
        have n4 : ((k : Int) == 4) = false := beqi_no (by omega)
        have HTL : Hid (Tail k x.data.toList) := ⟨by omega, by omega, by omega, by omega, by omega, by omega, by omega⟩
        clear hE
        go_wp2_with fail
        refine Calls.mono (CPH.out _) ?_
        rintro e w2 ⟨v6, rfl, o6, g6⟩
        obtain ⟨a6, k6, rfl⟩ := o6.form
        rw [length_pcs]
        have HC2 : Hid (CAt w2 (w.heap.size + 1) cd.hd (.slice none 0 0)) := HC.out.keep g6
        have HZ2 : Hid (CAt w2 w.heap.size Hd.none (.slice none 0 0)) := HZ.out.keep g6
        have HG2 : Hid (w.grownBy w2 none) := grown_trans HG.out g6
        have HO6 : Hid (Own w2 wr.heap.size 9 (.slice a6 (pcs (rpcs x.data.toList [47])).length k6) (pcs (rpcs x.data.toList [47]))) := o6
        obtain ⟨np, hnp⟩ : ∃ np, np = (rpcs x.data.toList [47]).length := ⟨_, rfl⟩
        rw [← hnp]
        have HNP : Hid (np = (rpcs x.data.toList [47]).length) := hnp
        have HWR : Hid (CAt wr (w.heap.size + 1) cd.hd (.slice none 0 0)) := HC.out
        clear g6 o6 hnp HC HZ HG ck CPH
        have cf := fun i => HC2.out.free i
        obtain ⟨c0, c1, c2, c3, c4, c5, c6, c7, c8⟩ := HC2.out.cells
        by_cases ht : x.data.toList = tokW
        · have q1 := txt_yes ht
          have HST2 : Hid (rh1 k x.data.toList cd = { cd with tk := true }) := by unfold Hid; rw [rh_tail HTL.out, if_pos ht]
          have q1' : (x.toList == [116, 111, 107, 101, 110]) = true := q1
          clear ht q1
          go_wp2_with fail
          go_roundw
          case rel => exact ⟨k + 1, hlt, by go_num, by rw [HST.out, HST2.out]; exact HC2.out.tk true, HZ2.out.keepR (grown_set _ _ _ _) (by simp), grown_own HG2.out (grown_set _ _ _ _) (fun x e => by cases e; omega)⟩
          case measure => exact meas_next hlt
        · have q1 : (x.toList == [116, 111, 107, 101, 110]) = false := txt_no ht
          by_cases hp : 0 < x.size
          · have hp' : (0 : Int) < (x.size : Int) := by omega
            by_cases hq : x[0] = 43
            · have q2 : (((x[0].toNat : Nat) : Int) == 43) = true := by rw [hq]; rfl
              have hh : x.data.toList.head? = some 43 := by rw [first_is hp, hq]
              have e1 : (1 : Int) ≤ (x.size : Int) := by omega
              have CT := fun W => rtof_any (x.extract 1 x.size) W
              have ex : (x.extract 1 x.size).toList = x.data.toList.drop 1 := by rw [Lib.toList_data, ext_rest]
              rw [ex] at CT
              by_cases hz : idx traitW (x.data.toList.drop 1) = 0
              · have HST2 : Hid (rh1 k x.data.toList cd = cd) := by unfold Hid; rw [rh_tail HTL.out, if_neg ht, if_pos hh, if_pos hz]
                rw [show decide (idx traitW (x.data.toList.drop 1) ≠ 0) = false from decide_eq_false (fun h => h hz)] at CT
                generalize idx traitW (x.data.toList.drop 1) = mt at CT
                have CTH : Hid (∀ W : World, Calls Tryz.prog 76 #[.string (x.extract 1 x.size)] W fun e w' => e = .returned (.tuple #[.int .u8 (mt : Nat), .bool false]) ∧ W.grownBy w' none) := CT
                clear CT hz hh hq ht ex
                go_wp2_with fail
                refine Calls.mono (CTH.out _) ?_
                rintro e w3 ⟨rfl, g3⟩
                have HC3 : Hid (CAt w3 (w.heap.size + 1) cd.hd (.slice none 0 0)) := HC2.out.keep g3
                have HZ3 : Hid (CAt w3 w.heap.size Hd.none (.slice none 0 0)) := HZ2.out.keep g3
                have HG3 : Hid (w.grownBy w3 none) := grown_trans HG2.out g3
                clear g3
                go_wp2_with fail
                go_roundw
                case rel => exact ⟨k + 1, hlt, by go_num, by rw [HST.out, HST2.out]; exact HC3.out, HZ3.out, HG3.out⟩
                case measure => exact meas_next hlt
              · have HST2 : Hid (rh1 k x.data.toList cd = { cd with tr := tWith cd.tr (idx traitW (x.data.toList.drop 1)) }) := by unfold Hid; rw [rh_tail HTL.out, if_neg ht, if_pos hh, if_neg hz]
                have hb : 1 ≤ ((idx traitW (x.data.toList.drop 1) : Nat) : Int) ∧ ((idx traitW (x.data.toList.drop 1) : Nat) : Int) ≤ 8 := by
                  have : idx traitW (x.data.toList.drop 1) ≤ traitW.length := idx_le
                  have h8 : traitW.length = 8 := rfl
                  omega
                rw [show decide (idx traitW (x.data.toList.drop 1) ≠ 0) = true from decide_eq_true hz] at CT
                generalize idx traitW (x.data.toList.drop 1) = mt at CT hb HST2
                have CTH : Hid (∀ W : World, Calls Tryz.prog 76 #[.string (x.extract 1 x.size)] W fun e w' => e = .returned (.tuple #[.int .u8 (mt : Nat), .bool true]) ∧ W.grownBy w' none) := CT
                have HB : Hid (1 ≤ ((mt : Nat) : Int) ∧ ((mt : Nat) : Int) ≤ 8) := hb
                clear CT hz hh hq ht ex hb
                go_wp2_with fail
                refine Calls.mono (CTH.out _) ?_
                rintro e w3 ⟨rfl, g3⟩
                have HC3 : Hid (CAt w3 (w.heap.size + 1) cd.hd (.slice none 0 0)) := HC2.out.keep g3
                have HZ3 : Hid (CAt w3 w.heap.size Hd.none (.slice none 0 0)) := HZ2.out.keep g3
                have HG3 : Hid (w.grownBy w3 none) := grown_trans HG2.out g3
                clear g3 cf c0 c1 c2 c3 c4 c5 c6 c7 c8
                have cf := fun i => HC3.out.free i
                obtain ⟨c0, c1, c2, c3, c4, c5, c6, c7, c8⟩ := HC3.out.cells
                go_wp2_with (go_at_call 99; refine (with6_any cd.hd.tr HB.out _).mono ?_; rintro e w4 ⟨rfl, h4⟩; obtain rfl : w3 = w4 := h4.symm)
                go_roundw
                case rel => exact ⟨k + 1, hlt, by go_num, by rw [HST.out, HST2.out]; exact HC3.out.tr (tWith cd.tr mt), HZ3.out.keepR (grown_set _ _ _ _) (by simp), grown_own HG3.out (grown_set _ _ _ _) (fun x e => by cases e; omega)⟩
                case measure => exact meas_next hlt
            · have q2 : (((x[0].toNat : Nat) : Int) == 43) = false := by
                have : ¬ ((x[0].toNat : Nat) : Int) = 43 := fun e => hq (UInt8.toNat_inj.1 (by
                  have e2 : (43 : UInt8).toNat = 43 := rfl
                  rw [e2]
                  omega))
                simpa using this
              have HST2 : Hid (rh1 k x.data.toList cd = cd) := by
                unfold Hid
                rw [rh_tail HTL.out, if_neg ht, if_neg (by rw [first_is hp]; exact fun e => hq (Option.some.inj e))]
              clear hq ht
              go_wp2_with fail
              go_roundw
              case rel => exact ⟨k + 1, hlt, by go_num, by rw [HST.out, HST2.out]; exact HC2.out, HZ2.out, HG2.out⟩
              case measure => exact meas_next hlt
          · have hp' : ¬ (0 : Int) < (x.size : Int) := by omega
            have HST2 : Hid (rh1 k x.data.toList cd = cd) := by
              unfold Hid
              rw [rh_tail HTL.out, if_neg ht, if_neg (by
                rw [List.eq_nil_of_length_eq_zero (by rw [← Lib.size_eq]; omega : x.data.toList.length = 0)]
                simp)]
            clear hp ht
            go_wp2_with fail
            go_roundw
            case rel => exact ⟨k + 1, hlt, by go_num, by rw [HST.out, HST2.out]; exact HC2.out, HZ2.out, HG2.out⟩
            case measure => exact meas_next hlt
end Go.Proofs.YtpceelbphpfciaaGreatDoor
