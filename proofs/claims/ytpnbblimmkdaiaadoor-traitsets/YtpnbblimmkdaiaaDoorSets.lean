/-
  TraitSets, walked: of every set and number all that is told is what the document's own answer tells; a list is new memory each time.
-/
import Derived.Test.YtpnbblimmkdaiaaDoorRef3
namespace Go.Proofs.YtpnbblimmkdaiaaDoor
open Go.RowKit

theorem bv_part (x m : BitVec 16) : (x &&& ~~~m = 0#16) ↔ (x &&& m = x) := by
  constructor
  · intro h
    apply BitVec.eq_of_getLsbD_eq
    intro i hi
    have hb : (x &&& ~~~m).getLsbD i = false := by rw [h, BitVec.getLsbD_zero]
    rw [BitVec.getLsbD_and, BitVec.getLsbD_not] at hb
    rw [BitVec.getLsbD_and]
    revert hb
    cases x.getLsbD i <;> cases m.getLsbD i <;> simp [hi]
  · intro h
    apply BitVec.eq_of_getLsbD_eq
    intro i hi
    have hb : (x &&& m).getLsbD i = x.getLsbD i := by rw [h]
    rw [BitVec.getLsbD_and] at hb
    rw [BitVec.getLsbD_and, BitVec.getLsbD_not, BitVec.getLsbD_zero]
    revert hb
    cases x.getLsbD i <;> cases m.getLsbD i <;> simp
theorem check_is (s : Int) (h0 : 0 ≤ s) (h1 : s < 65536) : tCheck s = decide (s < 256) := by
  obtain ⟨n, rfl⟩ := Int.eq_ofNat_of_zero_le h0
  rw [check_bv]
  have hn : (bv (n : Int)).toNat = n := by
    unfold bv
    rw [BitVec.ofInt_natCast, BitVec.toNat_ofNat]
    omega
  have hm : (bv (n : Int) &&& 255#16).toNat = n % 256 := by
    rw [BitVec.toNat_and, hn]
    exact Nat.and_two_pow_sub_one_eq_mod n 8
  by_cases h : n < 256
  · have e : bv (n : Int) &&& ~~~255#16 = 0#16 := (bv_part _ _).2 (BitVec.eq_of_toNat_eq (by rw [hm, hn]; omega))
    have h' : (n : Int) < 256 := by omega
    rw [e, decide_eq_true h']
    rfl
  · have e : ¬ bv (n : Int) &&& ~~~255#16 = 0#16 := fun e => by
      have := congrArg BitVec.toNat ((bv_part _ _).1 e)
      rw [hm, hn] at this
      omega
    have h' : ¬ (n : Int) < 256 := by omega
    rw [decide_eq_false h', beq_eq_false_iff_ne.2 e]
set_option maxRecDepth 100000 in
set_option maxHeartbeats 8000000 in
theorem sets_any (s x : Int) (hs0 : 0 ≤ s) (hs1 : s < 65536) (w : World) (L : LaidAt w) : Calls Tryd.prog 3 #[.int .u16 s, .int .u8 x] w fun e w' => e = .returned (.bool true) ∧ w.grownBy w' none := by
  have HC : Hid (tCheck s = decide (s < 256)) := check_is s hs0 hs1
  have hl8 := list_len s
  clear hs0 hs1
  go_enter Tryd.func3, Tryd.ntmps3
  go_wp2_with fail
  refine (name_any _ _ L.1).mono ?_
  rintro e w1 ⟨rfl, hw1⟩
  obtain rfl : w = w1 := hw1.symm
  go_wp2_with fail
  refine (rname_any _ _).mono ?_
  rintro e w2 ⟨rfl, g1⟩
  have G1 := g1
  clear g1
  go_wp2_with fail
  refine (home_any _ _ (L.keep G1).2.1).mono ?_
  rintro e w1 ⟨rfl, rfl⟩
  go_wp2_with fail
  refine (rhome_any _ _).mono ?_
  rintro e w3 ⟨rfl, g1⟩
  have G2 := grown_trans G1 g1
  clear G1 g1
  go_wp2_with fail
  refine (text_any _ _ (L.keep G2)).mono ?_
  rintro e w4 ⟨rfl, g1⟩
  have G3 := grown_trans G2 g1
  clear G2 g1
  go_wp2_with fail
  refine (rtext_any _ _).mono ?_
  rintro e w5 ⟨rfl, g1⟩
  have G4 := grown_trans G3 g1
  clear G3 g1
  go_wp2_with fail
  refine (has_any _ _ _).mono ?_
  rintro e w1 ⟨rfl, rfl⟩
  obtain ⟨bh, hbh⟩ : ∃ bh, tHas s x = bh := ⟨_, rfl⟩
  rw [hbh]
  go_wp2_with fail
  refine (rhas_any _ _ _).mono ?_
  rintro e w1 ⟨rfl, rfl⟩
  rw [hbh]
  clear hbh
  go_wp2_with fail
  refine (with_any _ _ _).mono ?_
  rintro e w1 ⟨rfl, rfl⟩
  go_wp2_with fail
  refine (rwith_any _ _ _).mono ?_
  rintro e w1 ⟨rfl, rfl⟩
  go_wp2_with fail
  refine (without_any _ _ _).mono ?_
  rintro e w1 ⟨rfl, rfl⟩
  go_wp2_with fail
  refine (rwithout_any _ _ _).mono ?_
  rintro e w1 ⟨rfl, rfl⟩
  go_wp2_with fail
  refine (check_any _ _).mono ?_
  rintro e w1 ⟨rfl, rfl⟩
  rw [HC.out]
  obtain ⟨bc, hbc⟩ : ∃ bc, decide (s < 256) = bc := ⟨_, rfl⟩
  rw [hbc]
  go_wp2_with fail
  refine (rcheck_any _ _).mono ?_
  rintro e w1 ⟨rfl, rfl⟩
  rw [hbc]
  clear hbc HC
  obtain ⟨wa, hwa⟩ : ∃ wa, wa = w1 := ⟨_, rfl⟩
  subst hwa
  go_wp2_with fail
  refine (list_any _ _).mono ?_
  rintro e w6 ⟨va, rfl, OA, g6⟩
  go_wp2_with fail
  refine (list_any _ _).mono ?_
  rintro e w7 ⟨vb, rfl, OB, g7⟩
  go_wp2_with fail
  refine (rlist_any _ _).mono ?_
  rintro e w8 ⟨vc, rfl, OC, g8⟩
  have G6 := grown_trans G4 g6
  have G8 := grown_trans (grown_trans G6 g7) g8
  have OA8 := OA.keep (grown_trans g7 g8) (by simp)
  have OB8 := OB.keep g8 (by simp)
  have hba : wa.heap.size ≤ w6.heap.size := g6.size
  have hwa : w.heap.size ≤ wa.heap.size := G4.size
  have hlA := OA.lies
  have hA6 : ∀ g cap cur, va = .slice (some ⟨g, 0, none⟩) (u8s (tList s)).length cap → w6.heap[g]? = some (.cells cur 24 (0, 0)) → g < w6.heap.size := fun g cap cur _ h => block_lt h
  have h67 : w6.heap.size ≤ w7.heap.size := g7.size
  have HK : Hid ((va = .slice none 0 0 ∧ tList s = []) ∨ ∃ g cap cur, va = .slice (some ⟨g, 0, none⟩) (tList s).length cap ∧ w.heap.size ≤ g ∧ g < w6.heap.size ∧ g < w7.heap.size ∧ w8.heap[g]? = some (.cells cur 24 (0, 0)) ∧ (tList s).length ≤ cur.size) := by
    rcases hlA with ⟨e1, e2⟩ | ⟨g, cap, cur, e1, hg, hh, hc⟩
    · exact Or.inl ⟨e1, by simpa [u8s] using e2⟩
    · have hlt := block_lt hh
      rw [length_u8s] at e1 hc
      exact Or.inr ⟨g, cap, cur, e1, by omega, hlt, by omega, grown_keep (grown_trans g7 g8) hh (by simp), hc⟩
  have RA := OA8.reads
  have RB := OB8.reads
  have RC := OC.reads
  have HOB : Hid (Own w8 w6.heap.size 24 vb (u8s (tList s))) := OB8
  have HOC : Hid (Own w8 w7.heap.size 24 vc (u8s (tList s))) := OC
  clear OA OB OC OA8 OB8 hlA hA6 g6 g7 g8 G4 G6
  obtain ⟨l, hl⟩ : ∃ l, l = tList s := ⟨_, rfl⟩
  have HL : Hid (l = tList s) := hl
  rw [← hl] at hl8 RA RB RC HK HOB HOC
  clear hl
  go_wp2_with fail
  refine (same_any _ _ l _ hl8 RA RC).mono ?_
  rintro e w9 ⟨rfl, g9⟩
  go_wp2_with fail
  refine (same_any _ _ l _ hl8 (RB.keep g9) (RC.keep g9)).mono ?_
  rintro e w10 ⟨rfl, g10⟩
  have g810 := grown_trans g9 g10
  have G10 := grown_trans G8 g810
  clear RA RB RC g9 g10 G8
  go_wp2_with fail
  refine (print_any _ _ (L.keep G10).1).mono ?_
  rintro e w11 ⟨rfl, g11⟩
  go_wp2_with fail
  refine (rprint_any _ _).mono ?_
  rintro e w12 ⟨rfl, g12⟩
  have g812 := grown_trans g810 (grown_trans g11 g12)
  have G12 := grown_trans G10 (grown_trans g11 g12)
  clear g810 g11 g12 G10
  rcases HK.out with ⟨rfl, hl0⟩ | ⟨g, cap, cur, rfl, hg0, hg6, hg7, hh, hcur⟩
  · go_wp2_with fail
    go_loopw [10] (fun i wr => i = .int .i64 0 ∧ wr = w12) (fun _ _ => 0)
    case atStart => exact ⟨rfl, rfl⟩
    case round =>
      obtain ⟨rfl, rfl⟩ := hrel
      go_wp2_with fail
      refine (same_any _ _ l _ hl8 (HOB.out.reads.keep g812) (HOC.out.reads.keep g812)).mono ?_
      rintro e w13 ⟨rfl, g13⟩
      go_wp2_with fail
      refine (list_any _ _).mono ?_
      rintro e w14 ⟨vd, rfl, OD, g14⟩
      rw [← HL.out] at OD
      go_wp2_with fail
      refine (same_any _ _ l _ hl8 OD.reads (HOC.out.reads.keep (grown_trans g812 (grown_trans g13 g14)))).mono ?_
      rintro e w15 ⟨rfl, g15⟩
      go_wp2
      go_ret
      exact ⟨rfl, grown_trans G12 (grown_trans g13 (grown_trans g14 g15))⟩
  · have hh12 := grown_keep g812 hh (by simp)
    go_wp2_with fail
    go_loopw [10] (fun i wr => ∃ (k : Nat) (cu : Array Value), k ≤ l.length ∧ i = .int .i64 k ∧ wr.heap[g]? = some (.cells cu 24 (0, 0)) ∧ l.length ≤ cu.size ∧ w12.grownBy wr (some g)) (fun i _ => l.length - (intOf i).toNat)
    case atStart => exact ⟨0, cur, by omega, rfl, hh12, hcur, grown_refl _ _⟩
    case round =>
      obtain ⟨k, cu, hk, rfl, hb, hcu, G⟩ := hrel
      rcases (show k = l.length ∨ k < l.length from by omega) with rfl | hlt
      · have OB := (HOB.out.keep g812 (by simp)).keep G (fun x hx => by cases hx; exact hg6)
        have OC := (HOC.out.keep g812 (by simp)).keep G (fun x hx => by cases hx; exact hg7)
        have GW := grown_own G12 G (fun x hx => by cases hx; exact hg0)
        clear hb G
        go_wp2_with fail
        refine (same_any _ _ l _ hl8 OB.reads OC.reads).mono ?_
        rintro e w13 ⟨rfl, g13⟩
        go_wp2_with fail
        refine (list_any _ _).mono ?_
        rintro e w14 ⟨vd, rfl, OD, g14⟩
        rw [← HL.out] at OD
        go_wp2_with fail
        refine (same_any _ _ l _ hl8 OD.reads (OC.reads.keep (grown_trans g13 g14))).mono ?_
        rintro e w15 ⟨rfl, g15⟩
        go_wp2
        go_ret
        exact ⟨rfl, grown_trans GW (grown_trans g13 (grown_trans g14 g15))⟩
      · have hlt' : (k : Int) < (l.length : Int) := by omega
        have hk0 : (0 : Int) ≤ (k : Int) := by omega
        have hw : wrap64 ((k : Int) + 1) = (k : Int) + 1 := by unfold wrap64; omega
        obtain ⟨y, hy⟩ : ∃ y, cu[k]? = some y := ⟨_, Array.getElem?_eq_getElem (by omega)⟩
        have ck : wr.cell? ⟨g, k, none⟩ = some y := by rw [block_cell hb, hy]
        have fk := block_free hb k
        have HB : Hid (wr.heap[g]? = some (.cells cu 24 (0, 0))) := hb
        clear hb
        go_wp2_with fail
        go_roundw
        case rel => exact ⟨k + 1, _, by omega, by go_num, block_set HB.out k _, by rw [Array.size_setIfInBounds]; exact hcu, grown_trans G (grown_set _ _ _ _)⟩
        case measure => simp [intOf]; omega
end Go.Proofs.YtpnbblimmkdaiaaDoor
