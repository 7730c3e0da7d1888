/-
  Begin of package whole, of a log that is closed and of what is no log; Log of package whole.
  The document's list of what all packages note in a log: gambitref14.Log.
  ApartInts of lists that lie in blocks of their own answers true: each place holds what was written there.
  WholeBegins, walked: what all packages note in a log that has noted so many numbers already, open or closed; Log is that of a new log, in memory of its own each time.
-/
import Derived.Test.YtknlcjhcamhfmaaGreatDoorWbA
import Derived.Test.YtknlcjhcamhfmaaGreatDoorApart
import Derived.Test.YtknlcjhcamhfmaaGreatDoorJ42
namespace Go.Proofs.YtknlcjhcamhfmaaGreatDoor.L
open Go.RowKit

set_option maxRecDepth 100000 in
set_option maxHeartbeats 8000000 in
theorem begin_ref (p : Option Addr) (w : World) (R : World → Prop) (hN : ∀ W, w.grownBy W none → ∀ n : Int, Calls Tryz.prog 30 #[.pointer p, .int .i64 n] W fun e w' => e = .returned (.int .i64 (-1)) ∧ w' = W) (hC : ∀ W, w.grownBy W none → Calls Tryz.prog 31 #[.pointer p] W fun e w' => e = .returned (.tuple #[]) ∧ R w') : Calls Tryz.prog 33 #[.pointer p] w fun e w' => e = .returned (.int .i64 0) ∧ R w' := by
  have HC : Hid (∀ W, w.grownBy W none → Calls Tryz.prog 31 #[.pointer p] W fun e w' => e = .returned (.tuple #[]) ∧ R w') := hC
  have HN : Hid (∀ W, w.grownBy W none → ∀ n : Int, Calls Tryz.prog 30 #[.pointer p, .int .i64 n] W fun e w' => e = .returned (.int .i64 (-1)) ∧ w' = W) := hN
  clear hN hC
  go_enter Tryz.func33, Tryz.ntmps33
  go_wp2_with fail
  refine (nine_any w).mono ?_
  rintro e W1 ⟨rfl, g1⟩
  have HG1 : Hid (w.grownBy W1 none) := g1
  obtain ⟨sx, hsx⟩ : ∃ s, s = nineA := ⟨_, rfl⟩
  rw [← hsx]
  have HS : Hid (sx = nineA) := hsx
  clear hsx g1
  go_wp2_with fail
  go_loop [3, 7] (fun c i => c = .int .i64 0 ∧ ∃ j : Nat, j ≤ 9 ∧ i = .int .i64 (j : Int)) (fun _ i => 9 - (intOf i).toNat)
  case atStart => exact ⟨rfl, 0, Nat.zero_le _, rfl⟩
  case round =>
    obtain ⟨rfl, j, hj, rfl⟩ := hrel
    rcases (show j = 0 ∨ j = 1 ∨ j = 2 ∨ j = 3 ∨ j = 4 ∨ j = 5 ∨ j = 6 ∨ j = 7 ∨ j = 8 ∨ j = 9 from by omega) with rfl | rfl | rfl | rfl | rfl | rfl | rfl | rfl | rfl | rfl
    · have CB := rank_ref p W1 (HN.out W1 HG1.out)
      have hix : ∀ W, (Instr.index 131 (.agg sx) (.int .i64 0)).run Tryz.prog W = .ok (.func (.func 156) #[] #[]) W := fun W => by rw [HS.out]; kernel_rfl
      rw [show ((0 : Nat) : Int) = (0 : Int) from rfl]
      go_wp2_with fail
      refine CB.mono ?_
      rintro e U2 ⟨rfl, rfl⟩
      clear CB hix
      go_wp2_with fail
      go_round
      case rel => exact ⟨rfl, 0 + 1, by decide, rfl⟩
      case measure => decide
    · have CB := suit_ref p W1 (HN.out W1 HG1.out)
      have hix : ∀ W, (Instr.index 131 (.agg sx) (.int .i64 1)).run Tryz.prog W = .ok (.func (.func 157) #[] #[]) W := fun W => by rw [HS.out]; kernel_rfl
      rw [show ((1 : Nat) : Int) = (1 : Int) from rfl]
      go_wp2_with fail
      refine CB.mono ?_
      rintro e U2 ⟨rfl, rfl⟩
      clear CB hix
      go_wp2_with fail
      go_round
      case rel => exact ⟨rfl, 1 + 1, by decide, rfl⟩
      case measure => decide
    · have CB := trait_ref p W1 (HN.out W1 HG1.out)
      have hix : ∀ W, (Instr.index 131 (.agg sx) (.int .i64 2)).run Tryz.prog W = .ok (.func (.func 158) #[] #[]) W := fun W => by rw [HS.out]; kernel_rfl
      rw [show ((2 : Nat) : Int) = (2 : Int) from rfl]
      go_wp2_with fail
      refine CB.mono ?_
      rintro e U2 ⟨rfl, rfl⟩
      clear CB hix
      go_wp2_with fail
      go_round
      case rel => exact ⟨rfl, 2 + 1, by decide, rfl⟩
      case measure => decide
    · have CB := air_ref p W1 (HN.out W1 HG1.out)
      have hix : ∀ W, (Instr.index 131 (.agg sx) (.int .i64 3)).run Tryz.prog W = .ok (.func (.func 159) #[] #[]) W := fun W => by rw [HS.out]; kernel_rfl
      rw [show ((3 : Nat) : Int) = (3 : Int) from rfl]
      go_wp2_with fail
      refine CB.mono ?_
      rintro e U2 ⟨rfl, rfl⟩
      clear CB hix
      go_wp2_with fail
      go_round
      case rel => exact ⟨rfl, 3 + 1, by decide, rfl⟩
      case measure => decide
    · have CB := earth_ref p W1 (HN.out W1 HG1.out)
      have hix : ∀ W, (Instr.index 131 (.agg sx) (.int .i64 4)).run Tryz.prog W = .ok (.func (.func 160) #[] #[]) W := fun W => by rw [HS.out]; kernel_rfl
      rw [show ((4 : Nat) : Int) = (4 : Int) from rfl]
      go_wp2_with fail
      refine CB.mono ?_
      rintro e U2 ⟨rfl, rfl⟩
      clear CB hix
      go_wp2_with fail
      go_round
      case rel => exact ⟨rfl, 4 + 1, by decide, rfl⟩
      case measure => decide
    · have CB := fire_ref p W1 (HN.out W1 HG1.out)
      have hix : ∀ W, (Instr.index 131 (.agg sx) (.int .i64 5)).run Tryz.prog W = .ok (.func (.func 161) #[] #[]) W := fun W => by rw [HS.out]; kernel_rfl
      rw [show ((5 : Nat) : Int) = (5 : Int) from rfl]
      go_wp2_with fail
      refine CB.mono ?_
      rintro e U2 ⟨rfl, rfl⟩
      clear CB hix
      go_wp2_with fail
      go_round
      case rel => exact ⟨rfl, 5 + 1, by decide, rfl⟩
      case measure => decide
    · have CB := water_ref p W1 (HN.out W1 HG1.out)
      have hix : ∀ W, (Instr.index 131 (.agg sx) (.int .i64 6)).run Tryz.prog W = .ok (.func (.func 162) #[] #[]) W := fun W => by rw [HS.out]; kernel_rfl
      rw [show ((6 : Nat) : Int) = (6 : Int) from rfl]
      go_wp2_with fail
      refine CB.mono ?_
      rintro e U2 ⟨rfl, rfl⟩
      clear CB hix
      go_wp2_with fail
      go_round
      case rel => exact ⟨rfl, 6 + 1, by decide, rfl⟩
      case measure => decide
    · have CB := void_ref p W1 (HN.out W1 HG1.out)
      have hix : ∀ W, (Instr.index 131 (.agg sx) (.int .i64 7)).run Tryz.prog W = .ok (.func (.func 163) #[] #[]) W := fun W => by rw [HS.out]; kernel_rfl
      rw [show ((7 : Nat) : Int) = (7 : Int) from rfl]
      go_wp2_with fail
      refine CB.mono ?_
      rintro e U2 ⟨rfl, rfl⟩
      clear CB hix
      go_wp2_with fail
      go_round
      case rel => exact ⟨rfl, 7 + 1, by decide, rfl⟩
      case measure => decide
    · have CB := gold_ref p W1 (HN.out W1 HG1.out)
      have hix : ∀ W, (Instr.index 131 (.agg sx) (.int .i64 8)).run Tryz.prog W = .ok (.func (.func 164) #[] #[]) W := fun W => by rw [HS.out]; kernel_rfl
      rw [show ((8 : Nat) : Int) = (8 : Int) from rfl]
      go_wp2_with fail
      refine CB.mono ?_
      rintro e U2 ⟨rfl, rfl⟩
      clear CB hix
      go_wp2_with fail
      go_round
      case rel => exact ⟨rfl, 8 + 1, by decide, rfl⟩
      case measure => decide
    · have CB := in_ref p 14 1 W1 (HN.out W1 HG1.out) (by omega) (by omega)
      have CC := HC.out W1 HG1.out
      rw [show ((9 : Nat) : Int) = (9 : Int) from rfl]
      go_wp2_with fail
      refine CB.mono ?_
      rintro e U2 ⟨rfl, rfl⟩
      clear CB
      go_wp2_with fail
      refine CC.mono ?_
      rintro e U3 ⟨rfl, HR⟩
      have HR : Hid (R U3) := HR
      clear CC
      go_wp2
      go_ret
      exact ⟨rfl, HR.out⟩
theorem begin_closed (b : Nat) (l : List Int) (w : World) (h : LogAt w b l true) : Calls Tryz.prog 33 #[.pointer (some ⟨b, 0, none⟩)] w fun e w' => e = .returned (.int .i64 0) ∧ LogAt w' b l true ∧ w.grownBy w' (some b) := by
  refine begin_ref _ w (fun w' => LogAt w' b l true ∧ w.grownBy w' (some b)) (fun W g n => note_closed b l n W (h.keep g (by simp))) (fun W g => ?_)
  refine (close_log b l true W (h.keep g (by simp))).mono ?_
  rintro e w' ⟨rfl, L, g2⟩
  exact ⟨rfl, L, grown_trans (grown_lift g) g2⟩
theorem no_keep {w w' : World} {p : Option Addr} (h : NoLog w p) (g : w.grownBy w' none) : NoLog w' p := by
  rcases h with rfl | ⟨b, rfl, h⟩
  · exact Or.inl rfl
  · exact Or.inr ⟨b, rfl, g.cell h (by simp)⟩
theorem begin_no (p : Option Addr) (w : World) (h : NoLog w p) : Calls Tryz.prog 33 #[.pointer p] w fun e w' => e = .returned (.int .i64 0) ∧ w.grownBy w' none := by
  refine begin_ref _ w (fun w' => w.grownBy w' none) (fun W g n => note_no p n W (no_keep h g)) (fun W g => ?_)
  refine (close_no p W (no_keep h g)).mono ?_
  rintro e w' ⟨rfl, rfl⟩
  exact ⟨rfl, g⟩
/-- A list of numbers in a block of its own. -/
def TellAt (w : World) (b : Nat) (l : List Int) : Prop := w.heap[b]? = some (.cells (ints l).toArray 3 (0, 0))
theorem all24_len : all24.length = 24 := rfl
set_option maxRecDepth 100000 in
set_option maxHeartbeats 4000000 in
theorem log_any (w : World) : Calls Tryz.prog 37 #[] w fun e w' => ∃ b, e = .returned (.slice (some ⟨b, 0, none⟩) 24 24) ∧ w.heap.size ≤ b ∧ w'.heap[b]? = some (.cells (ints all24).toArray 3 (0, 0)) ∧ w.grownBy w' none := by
  go_enter Tryz.func37, Tryz.ntmps37
  go_wp2_with fail
  refine (new_any w).mono ?_
  rintro e W1 ⟨rfl, L1, g1, _⟩
  have HB : Hid (w.heap.size ≤ w.heap.size) := Nat.le_refl (w.heap.size)
  have CB := begin_open w.heap.size [] W1 L1
  have HG1 : Hid (w.grownBy W1 none) := g1
  clear L1 g1
  obtain ⟨b, hb⟩ : ∃ b, b = w.heap.size := ⟨_, rfl⟩
  have HBE : Hid (b = w.heap.size) := hb
  rw [← hb] at CB ⊢
  clear hb HB
  go_wp2_with fail
  refine CB.mono ?_
  rintro e W2 ⟨rfl, L2, g2⟩
  have HG2 : Hid (w.grownBy W2 none) := grown_own HG1.out g2 (fun x e => by cases e; exact Nat.le_of_eq HBE.out.symm)
  have CL := list_log b _ _ W2 L2
  rw [show ([] ++ List.take (min 24 (256 - ([] : List Int).length)) all24) = all24 from rfl, all24_len] at CL
  obtain ⟨s, hs⟩ : ∃ s, s = W2.heap.size := ⟨_, rfl⟩
  have HSE : Hid (s = W2.heap.size) := hs
  rw [← hs] at CL
  clear L2 g2 CB hs HG1
  go_wp2_with fail
  refine CL.mono ?_
  rintro e W3 ⟨rfl, B3, g3⟩
  have HB3 : Hid (W3.heap[s]? = some (.cells (ints all24).toArray 3 (0, 0))) := B3
  have HG3 : Hid (w.grownBy W3 none) := grown_trans HG2.out g3
  have HSL : Hid (w.heap.size ≤ s) := by have := HG2.out.size; have := HSE.out; show w.heap.size ≤ s; omega
  clear B3 g3 CL HSE HG2 HBE
  go_wp2
  go_ret
  exact ⟨s, rfl, HSL.out, HB3.out, HG3.out⟩
end Go.Proofs.YtknlcjhcamhfmaaGreatDoor.L
namespace Go.Proofs.YtknlcjhcamhfmaaGreatDoor.L
open Go.RowKit

def initsA : Array Value := #[.int .i64 0, .int .i64 0, .int .i64 1, .int .i64 2, .int .i64 2, .int .i64 0, .int .i64 0, .int .i64 0, .int .i64 3, .int .i64 3, .int .i64 3, .int .i64 3, .int .i64 3, .int .i64 3, .int .i64 1]
def cn (n : Nat) : Nat := [0, 0, 1, 2, 2, 0, 0, 0, 3, 3, 3, 3, 3, 3, 1].getD n 0
def lg (n : Nat) : List Int := (List.range n).flatMap fun (m : Nat) => nts (m : Int) (cn m)
theorem lg_succ (n : Nat) : lg (n + 1) = lg n ++ nts (n : Int) (cn n) := by simp [lg, List.range_succ]
theorem lg_all : lg 15 = all24 := by decide
theorem lg_len : ∀ n, n ≤ 15 → (lg n).length ≤ 24 := by decide
theorem cn_le : ∀ n, n < 15 → cn n ≤ 3 := by decide
theorem inits_at : ∀ n, n < 15 → initsA[n]? = some (.int .i64 (cn n : Int)) := fun n hn => by
  rcases (show n = 0 ∨ n = 1 ∨ n = 2 ∨ n = 3 ∨ n = 4 ∨ n = 5 ∨ n = 6 ∨ n = 7 ∨ n = 8 ∨ n = 9 ∨ n = 10 ∨ n = 11 ∨ n = 12 ∨ n = 13 ∨ n = 14 by omega) with rfl | rfl | rfl | rfl | rfl | rfl | rfl | rfl | rfl | rfl | rfl | rfl | rfl | rfl | rfl <;> rfl
theorem initsA_size : (Tryz.prog.info? 130).map (·.size) = some initsA.size := by kernel_rfl
theorem initsA_one : initsA.all (·.oneCell') = true := by kernel_rfl
/-- Within a layer: the list so far, and the table of how many. -/
def LgAt (w wr : World) (g : Nat) (l : List Int) (v : Value) : Prop := Own wr w.heap.size v l ∧ wr.heap[g]? = some (.cells initsA 130 (0, 0)) ∧ v.ownBlock ≠ some g ∧ w.grownBy wr none
theorem LgAt.next {w wr w7 : World} {g : Nat} {l : List Int} {n : Int} {v v' : Value} {tmp : Obj} (h : LgAt w wr g l v)
    (hown : w7.ownsRow w.heap.size 3 1 v' (l.length + 1) (ints l ++ [Value.int .i64 n])) (hg : (wr.alloc tmp).grownBy w7 v.ownBlock)
    (hlie : v'.ownBlock = v.ownBlock ∨ v'.ownBlock = some (wr.alloc tmp).heap.size) : LgAt w w7 g (l ++ [n]) v' := by
  obtain ⟨O, N, hne, G⟩ := h
  have hblk := O.block
  refine ⟨own_snoc hown rfl, grown_keep hg (grown_keep (World.grownBy_alloc wr tmp none) N (by simp)) (fun e => hne e.symm), ?_, grown_own (grown_push G tmp) hg (fun x hx => hblk x hx)⟩
  rcases hlie with e | e
  · rw [e]; exact hne
  · rw [e, World.size_alloc]
    have := block_lt N
    intro h
    simp at h
    omega
theorem lg_start {w U : World} {l : List Int} {v : Value} {old : Array Value} (O : Own U w.heap.size v l) (G : w.grownBy U none) : LgAt w ((U.alloc (.cells old 130)).setRow U.heap.size initsA) U.heap.size l v := by
  have g1 : U.grownBy ((U.alloc (.cells old 130)).setRow U.heap.size initsA) none := grown_own (World.grownBy_alloc _ _ none) (r := some U.heap.size) ⟨rfl, rfl, rfl, by simp, fun i _ hi => setRow_other _ _ i _ (fun e => hi (by rw [e]))⟩ (fun x e => by cases e; exact Nat.le_refl _)
  exact ⟨O.keep (r := none) g1 (by simp), setRow_heap _ _ _ _ _ _ (alloc_at _ _ _), fun e => Nat.lt_irrefl _ (own_lt O _ e), grown_trans G g1⟩
set_option maxRecDepth 100000 in
set_option maxHeartbeats 8000000 in
theorem rlog_any (w : World) : Calls Tryz.prog 32 #[] w fun e w' => ∃ v, e = .returned v ∧ Own w' w.heap.size v all24 ∧ w.grownBy w' none := by
  obtain ⟨i0, hi, hz0, hz1, hz2⟩ := info_parts Tryz.info3'
  go_enter Tryz.func32, Tryz.ntmps32
  go_wp2_with fail
  go_loopw [1, 2] (fun v i wr => ∃ n : Nat, 2 ≤ n ∧ n ≤ 15 ∧ i = .int .i64 (n : Int) ∧ Own wr w.heap.size v (lg n) ∧ w.grownBy wr none) (fun _ i _ => 15 - (intOf i).toNat)
  case atStart => exact ⟨2, Nat.le_refl _, by decide, rfl, Own.nil _ _, grown_refl _ _⟩
  case round =>
    obtain ⟨n, hn2, hn, rfl, O, Gr⟩ := hrel
    obtain ⟨U, hU⟩ : ∃ U, U = wr := ⟨_, rfl⟩
    subst hU
    obtain ⟨q, cp, rfl⟩ := O.form_len rfl
    rcases (show n < 15 ∨ n = 15 from by omega) with h1 | h1
    rotate_left 1
    · subst h1
      have h1' : ¬ ((15 : Nat) : Int) ≤ 14 := by decide
      rw [lg_all] at O ⊢
      have HF : Hid (Own U w.heap.size (.slice q all24.length cp) all24 ∧ w.grownBy U none) := ⟨O, Gr⟩
      clear O Gr
      go_wp2
      go_ret
      exact ⟨_, rfl, HF.out⟩
    have h1' : (n : Int) ≤ 14 := by omega
    have hwn : wrap64 ((n : Int) + 1) = (n : Int) + 1 := by unfold wrap64; omega
    have HO : Hid (Own U w.heap.size (.slice q (lg n).length cp) (lg n)) := O
    have HG : Hid (w.grownBy U none) := Gr
    clear O Gr
    go_wp2_with (refine wpList_store_rowTo rfl 130 (.tmp 3) (.tmp 9) rfl rfl U.heap.size initsA rfl rfl 130 _ (alloc_at _ _ _) initsA_size (by kernel_rfl) initsA_one ?_)
    go_loopw [1, 4] (fun v x wr => ∃ k : Nat, k ≤ cn n ∧ x = .int .i64 ((k : Int) + 1) ∧ LgAt w wr U.heap.size (lg n ++ nts (n : Int) k) v) (fun _ x _ => cn n + 1 - (intOf x).toNat)
    case atStart => exact ⟨0, Nat.zero_le _, rfl, by simpa [nts] using lg_start HO.out HG.out⟩
    case round =>
      clear HO HG
      obtain ⟨k, hk, rfl, M⟩ := hrel
      obtain ⟨V, hV⟩ : ∃ V, V = wr := ⟨_, rfl⟩
      subst hV
      obtain ⟨g, hg⟩ : ∃ g, g = U.heap.size := ⟨_, rfl⟩
      rw [← hg] at M ⊢
      clear hg
      have c1 : V.cell? ⟨g, n, none⟩ = some (.int .i64 (cn n : Int)) := by rw [block_cell M.2.1 n]; exact inits_at n h1
      have hc3 := cn_le n h1
      have hln := lg_len n hn
      have hll : (lg n ++ nts (n : Int) k).length = (lg n).length + k := by rw [List.length_append, length_nts]
      have HM : Hid (LgAt w V g (lg n ++ nts (n : Int) k) _) := M
      obtain ⟨q2, cp2, rfl⟩ := M.1.form_len rfl
      by_cases hlt : k < cn n
      · have hlt' : (k : Int) + 1 ≤ (cn n : Int) := by omega
        have hk3 : (0 : Int) ≤ (k : Int) ∧ (k : Int) ≤ 3 := by omega
        have hn14 : (0 : Int) ≤ (n : Int) ∧ (n : Int) < 15 := by omega
        have hn15 : n < 15 := h1
        have hwk : wrap64 ((k : Int) + 1 + 1) = (k : Int) + 1 + 1 := by unfold wrap64; omega
        have O3 := own_row M.1 rfl
        have hsn : nts (n : Int) k ++ [100 * ((k : Int) + 1) + (n : Int)] = nts (n : Int) (k + 1) := nts_succ _ _
        have Hsn : Hid (nts (n : Int) k ++ [100 * ((k : Int) + 1) + (n : Int)] = nts (n : Int) (k + 1)) := hsn
        have Hll : Hid ((lg n ++ nts (n : Int) k).length ≤ 27) := by show (lg n ++ nts (n : Int) k).length ≤ 27; omega
        have Hwv : Hid (w.heap.size ≤ V.heap.size) := M.2.2.2.size
        clear M hsn hll hln
        obtain ⟨L, hL⟩ : ∃ L, L = lg n ++ nts (n : Int) k := ⟨_, rfl⟩
        rw [← hL] at HM O3 Hll ⊢
        have HL : Hid (L = lg n ++ nts (n : Int) k) := hL
        clear hL
        go_wp2_with (at_builtin; refine wpList_append_own_at _ rfl (.tmp 17) (.tmp 22) 28 rfl w.heap.size 3 i0 (.int .i64 0) 1 8 Tryz.underlying28 hi hz0 hz1 hz2 rfl (by decide) (.slice q2 L.length cp2) L.length (ints L) rfl (O3.alloc _) ⟨V.heap.size, 0, none⟩ 1 1 [.int .i64 (100 * ((k : Int) + 1) + (n : Int))] rfl rfl (cell_one_new _ _ _) (fun x hx => by simp at hx; subst hx; rfl) (by have := Hll.out; unfold maxLen; omega) (by have := Hll.out; omega) (by have := Hll.out; have := Hwv.out; simp; omega) ?_; intro v' w7 hown' hgrow7 hnil7 hlie; clear hnil7; have H7 := HM.out.next hown' hgrow7 hlie; rw [HL.out, List.append_assoc, Hsn.out] at H7; have H8 : Hid (LgAt w w7 g (lg n ++ nts (n : Int) (k + 1)) v') := H7; obtain ⟨q', cp', rfl⟩ := H7.1.form_len rfl; clear H7 hown' hgrow7 hlie O3)
        go_roundw
        case rel => exact ⟨k + 1, hlt, by first | rfl | (rw [hwk]; rfl) | go_num, by first | exact H8.out | (rw [← List.length_append]; exact H8.out)⟩
        case measure => simp [intOf]; omega
      · obtain rfl : k = cn n := by omega
        have hlt' : ¬ ((cn n : Int) + 1 ≤ (cn n : Int)) := by omega
        have hn14 : (0 : Int) ≤ (n : Int) ∧ (n : Int) < 15 := by omega
        rw [← lg_succ] at HM M ⊢
        clear M hll
        go_wp2
        exact ⟨⟨n + 1, by omega, h1, by first | rfl | (rw [hwn]; rfl) | go_num, HM.out.1, HM.out.2.2.2⟩, by simp [intOf]; omega⟩
end Go.Proofs.YtknlcjhcamhfmaaGreatDoor.L
namespace Go.Proofs.YtknlcjhcamhfmaaGreatDoor
open Go.RowKit

def RoomI (w : World) (g cap : Nat) : Prop := ∃ cs, w.heap[g]? = some (.cells cs 3 (0, 0)) ∧ cs.size = cap
theorem RoomI.cell {w : World} {g cap : Nat} (h : RoomI w g cap) {i : Nat} (hi : i < cap) : ∃ u, w.cell? ⟨g, i, none⟩ = some u := by
  obtain ⟨cs, h1, h2⟩ := h
  exact ⟨_, by rw [block_cell h1]; exact Array.getElem?_eq_getElem (by omega)⟩
theorem RoomI.free {w : World} {g cap : Nat} (h : RoomI w g cap) (i : Nat) : w.frozen? ⟨g, i, none⟩ = false := by
  obtain ⟨cs, h1, h2⟩ := h
  exact block_free h1 i
def mkI (i k : Int) : Int := wrap64 (wrap64 (wrap64 (-1000003 * i) - k) - 5)
set_option maxHeartbeats 1000000 in
theorem markI_any (i k : Int) (w : World) : Calls Tryz.prog 78 #[.int .i64 i, .int .i64 k] w fun e w' => e = .returned (.int .i64 (mkI i k)) ∧ w.grownBy w' none := by
  go_enter Tryz.func78, Tryz.ntmps78
  go_wp2
  go_ret
  exact ⟨rfl, grown_refl _ _⟩
def Lst.okI (w : World) (x : Lst) : Prop := (x.a = none ∧ x.n = 0 ∧ x.cap = 0) ∨ ∃ g, x.a = some g ∧ x.n ≤ x.cap ∧ lim x.cap ∧ RoomI w g x.cap
/-- The lists, marked so far: those before i, and of list i the first k places. -/
def MkI (w : World) (T : List Lst) (i k : Nat) : Prop := ∀ (j : Nat) (x : Lst) (g : Nat), T[j]? = some x → x.a = some g → ∃ cs, w.heap[g]? = some (.cells cs 3 (0, 0)) ∧ cs.size = x.cap ∧ ∀ m, m < x.cap → (j < i ∨ (j = i ∧ m < k)) → cs[m]? = some (.int .i64 (mkI j m))
theorem MkI.keep {w w' : World} {T : List Lst} {i k : Nat} (M : MkI w T i k) (g : w.grownBy w' none) : MkI w' T i k := fun j x b hj hb => by
  obtain ⟨cs, h1, h2⟩ := M j x b hj hb
  exact ⟨cs, grown_keep g h1 (by simp), h2⟩
theorem mkI_start {w w' : World} {T : List Lst} (D : ∀ x ∈ T, x.okI w) (g : w.grownBy w' none) : MkI w' T 0 0 := fun j x b hj hb => by
  rcases D x (List.mem_of_getElem? hj) with ⟨h, _⟩ | ⟨g', h, _, _, cs, h1, h2⟩
  · rw [h] at hb; cases hb
  · rw [h] at hb
    obtain rfl := Option.some.inj hb
    exact ⟨cs, grown_keep g h1 (by simp), h2, fun m _ h => by omega⟩
theorem MkI.room {w : World} {T : List Lst} {i k j g : Nat} {x : Lst} (M : MkI w T i k) (hj : T[j]? = some x) (hg : x.a = some g) : RoomI w g x.cap := by
  obtain ⟨cs, h1, h2, _⟩ := M j x g hj hg
  exact ⟨cs, h1, h2⟩
theorem MkI.read {w : World} {T : List Lst} {g : Nat} {j : Nat} {x : Lst} (M : MkI w T T.length 0) (hj : T[j]? = some x) (hg : x.a = some g) {m : Nat} (hm : m < x.cap) : w.cell? ⟨g, m, none⟩ = some (.int .i64 (mkI j m)) := by
  obtain ⟨cs, h1, h2, h3⟩ := M j x g hj hg
  rw [block_cell h1]
  exact h3 m hm (Or.inl (List.getElem?_eq_some_iff.1 hj).1)
/-- A trait is written at place m of block g. -/
def putI (w : World) (g o : Nat) (z : Int) : World := w.setCell ⟨g, o, none⟩ (.int .i64 z)
theorem putI_block {w : World} {g : Nat} {cs : Array Value} (h : w.heap[g]? = some (.cells cs 3 (0, 0))) (o : Nat) (z : Int) : (putI w g o z).heap[g]? = some (.cells (cs.setIfInBounds o (.int .i64 z)) 3 (0, 0)) := block_set h _ _
theorem putI_grown (w : World) (g o : Nat) (z : Int) : w.grownBy (putI w g o z) (some g) := grown_set _ _ _ _
theorem MkI.step {w : World} {T : List Lst} {i k g : Nat} {x : Lst} (M : MkI w T i k) (hD : Diff T) (hi : T[i]? = some x) (hg : x.a = some g) (hk : k < x.cap) : MkI (putI w g k (mkI i k)) T i (k + 1) := fun j y b hj hb => by
  obtain ⟨cs, h1, h2, h3⟩ := M j y b hj hb
  by_cases e : b = g
  · subst e
    obtain rfl := hD j i y x b hj hi hb hg
    obtain rfl : y = x := Option.some.inj (hj.symm.trans hi)
    refine ⟨_, putI_block h1 _ _, by simpa using h2, fun m hm h => ?_⟩
    rw [Array.getElem?_setIfInBounds]
    by_cases em : k = m
    · subst em
      rw [if_pos rfl, if_pos (by omega)]
    · rw [if_neg em]
      exact h3 m hm (by omega)
  · refine ⟨cs, grown_keep (putI_grown w g _ _) h1 (by simpa using e), h2, fun m hm h => h3 m hm ?_⟩
    by_cases ej : j = i
    · subst ej
      obtain rfl : y = x := Option.some.inj (hj.symm.trans hi)
      rw [hg] at hb
      exact absurd (Option.some.inj hb).symm e
    · omega
theorem MkI.next {w : World} {T : List Lst} {i k : Nat} {x : Lst} (M : MkI w T i k) (hi : T[i]? = some x) (hk : x.cap ≤ k) : MkI w T (i + 1) 0 := fun j y b hj hb => by
  obtain ⟨cs, h1, h2, h3⟩ := M j y b hj hb
  refine ⟨cs, h1, h2, fun m hm h => h3 m hm ?_⟩
  by_cases e : j = i
  · subst e
    obtain rfl : y = x := Option.some.inj (hj.symm.trans hi)
    omega
  · omega
theorem Tryz.infoI : (Tryz.prog.info? 28).map (fun i => (i.zero, i.size, i.bytes)) = some (some (.slice none 0 0), 1, 24) := by kernel_rfl
theorem rowI_of_own {w : World} {base : Nat} {v : Value} {T : List Lst} (h : w.ownsRow base 28 1 v T.length (fcells T)) (h0 : 0 < T.length) : ∃ g cap, v = .slice (some ⟨g, 0, none⟩) T.length cap ∧ base ≤ g ∧ (∀ (j : Nat) x, T[j]? = some x → w.cell? ⟨g, j, none⟩ = some x.f) ∧ ∃ cs, w.heap[g]? = some (.cells cs 28 (0, 0)) := by
  obtain ⟨h1, h2⟩ := h
  rcases h2 with ⟨rfl, e⟩ | ⟨g, cap, cur, rfl, hg0, hh, hn, hm, hs, ht⟩
  · omega
  · refine ⟨g, cap, rfl, hg0, fun j x hj => ?_, cur, hh⟩
    have hl := (List.getElem?_eq_some_iff.1 hj).1
    have e : (fcells T)[j]? = some x.f := by unfold fcells; rw [List.getElem?_map, hj]; rfl
    rw [block_cell hh, ← e, ← ht, List.getElem?_take, if_pos (by omega)]
    simp
def S12I (ga k g xc : Nat) (w : World) : Prop := w.cell? ⟨ga, k, none⟩ = some (.slice (some ⟨g, 0, none⟩) xc xc)
theorem S12I.c {ga k g xc : Nat} {w : World} (h : S12I ga k g xc w) : w.cell? ⟨ga, k, none⟩ = some (.slice (some ⟨g, 0, none⟩) xc xc) := h
def S19I (ga k g xc m : Nat) (w : World) : Prop := w.cell? ⟨ga, k, none⟩ = some (.slice (some ⟨g, 0, none⟩) xc xc) ∧ w.cell? ⟨g, m, none⟩ = some (.int .i64 (mkI k m))
theorem S19I.c {ga k g xc m : Nat} {w : World} (h : S19I ga k g xc m w) : w.cell? ⟨ga, k, none⟩ = some (.slice (some ⟨g, 0, none⟩) xc xc) := h.1
theorem S19I.p {ga k g xc m : Nat} {w : World} (h : S19I ga k g xc m w) : w.cell? ⟨g, m, none⟩ = some (.int .i64 (mkI k m)) := h.2
set_option maxRecDepth 100000 in
set_option maxHeartbeats 2000000 in
theorem apartI_any (gt ct : Nat) (T : List Lst) (w : World) (h0 : 0 < T.length) (h3 : T.length ≤ 40) (RT : ∀ (j : Nat) x, T[j]? = some x → w.cell? ⟨gt, j, none⟩ = some x.v) (D : ∀ x ∈ T, x.okI w) (hD : Diff T) : Calls Tryz.prog 38 #[.slice (some ⟨gt, 0, none⟩) T.length ct] w fun e w' => e = .returned (.bool true) ∧ Kpt (blocks T) w w' := by
  obtain ⟨i0, hi, hz0, hz1, hz2⟩ := info_parts Tryz.infoI
  have HRT : Hid (∀ (j : Nat) x, T[j]? = some x → w.cell? ⟨gt, j, none⟩ = some x.v) := RT
  have HD : Hid (∀ x ∈ T, x.okI w) := D
  have HDF : Hid (Diff T) := hD
  have hgt : gt < w.heap.size := World.block_lt_of_cell? _ _ (RT 0 _ (List.getElem?_eq_getElem h0))
  clear RT D hD
  go_enter Tryz.func38, Tryz.ntmps38
  go_wp2_with fail
  go_loopw [3, 4] (fun v i wr => ∃ (k : Nat) (q : Option Addr) (cp : Nat), k ≤ T.length ∧ i = .int .i64 k ∧ v = .slice q k cp ∧ wr.ownsRow w.heap.size 28 1 v k (fcells (T.take k)) ∧ w.grownBy wr none) (fun _ i _ => T.length - (intOf i).toNat)
  case atStart => exact ⟨0, none, 0, Nat.zero_le _, rfl, rfl, World.ownsRow_nil _ _ _ _, grown_refl _ _⟩
  case round =>
    obtain ⟨k, q, cp, hk, rfl, rfl, O, G⟩ := hrel
    by_cases hlt : k < T.length
    · obtain ⟨x, hx⟩ : ∃ x, T[k]? = some x := ⟨_, List.getElem?_eq_getElem hlt⟩
      have hsn := fcells_snoc hx
      have ck := G.cell (HRT.out k x hx) (by simp)
      have hok := HD.out x (List.mem_of_getElem? hx)
      have CK : Hid (∀ X, w.grownBy X none → X.cell? ⟨gt, k, none⟩ = some x.v) := fun X hX => hX.cell (HRT.out k x hx) (by simp)
      have hlt' : (k : Int) < (T.length : Int) := by omega
      have hk0 : (0 : Int) ≤ (k : Int) := by omega
      have hb := own_above O
      have hz : w.heap.size ≤ wr.heap.size := G.size
      clear hx
      obtain ⟨xa, xn, xc⟩ := x
      simp only [Lst.v, Lst.f] at hsn ck CK
      rcases hok with ⟨ea, en, ec⟩ | ⟨g, ea, en, ec, _⟩
      · simp only at ea en ec
        subst ea
        subst en
        subst ec
        simp only [Option.map_none] at hsn ck CK
        have HS : Hid (fcells (T.take (k + 1)) = fcells (T.take k) ++ [.slice none 0 0]) := hsn
        have CK2 : Hid (∀ X, w.grownBy X none → X.cell? ⟨gt, k, none⟩ = some (.slice none 0 0)) := CK.out
        have Ga : w.grownBy (wr.alloc (Obj.cells #[.slice none 0 0] 28)).drew none := grown_trans (grown_push G _) (grown_drew _)
        have Gd : w.grownBy wr.drew none := grown_trans G (grown_drew _)
        clear hsn CK
        go_wp2_with fail
        go_region_held3 (fun w' => w'.cell? ⟨gt, k, none⟩ = some (.slice none 0 0)) (first | exact CK2.out _ G5 | exact CK2.out _ Ga | exact CK2.out _ Gd) ((refine step_append_lies _ (by rfl) (.tmp 15) (.tmp 26) 77 (by rfl) w.heap.size 28 i0 (.slice none 0 0) 1 24 Tryz.underlying77 hi hz0 hz1 hz2 (by rfl) (by decide) (.slice q k cp) k (fcells (T.take k)) (by rfl) (by exact O.alloc _) ⟨wr.heap.size, 0, none⟩ 1 1 [.slice none 0 0] (by rfl) (by rfl) (cell_one_new _ _ _) (fun x hx => by simp at hx; subst hx; rfl) (by omega) (small_len (by omega)) (by omega) (by simp; omega) (wr.heap.size + 1) (by simp) ?_; intro g5 cap5 w5 O5 gr5 hat5 hlt5; have G5 := grown_own Ga gr5 hb))
        rw [← HS.out] at O5
        clear hat5 hlt5 gr5 Ga Gd CK2 O G ck hb
        go_wp2_with fail
        go_roundw
        case rel => exact ⟨k + 1, _, _, by omega, by go_num, rfl, O5, G5⟩
        case measure => simp [intOf]; omega
      · simp only at ea en ec
        subst ea
        simp only [Option.map_some] at hsn ck CK
        have hn0 : (0 : Int) ≤ (xc : Int) := by omega
        have hn1 : (xc : Int) ≤ (xc : Int) := Int.le_refl _
        clear ec en
        have HS : Hid (fcells (T.take (k + 1)) = fcells (T.take k) ++ [.slice (some ⟨g, 0, none⟩) xc xc]) := hsn
        have CK2 : Hid (∀ X, w.grownBy X none → X.cell? ⟨gt, k, none⟩ = some (.slice (some ⟨g, 0, none⟩) xn xc)) := CK.out
        have Ga : w.grownBy (wr.alloc (Obj.cells #[.slice (some ⟨g, 0, none⟩) xc xc] 28)).drew none := grown_trans (grown_push G _) (grown_drew _)
        have Gd : w.grownBy wr.drew none := grown_trans G (grown_drew _)
        clear hsn CK
        go_wp2_with fail
        go_region_held3 (fun w' => w'.cell? ⟨gt, k, none⟩ = some (.slice (some ⟨g, 0, none⟩) xn xc)) (first | exact CK2.out _ G5 | exact CK2.out _ Ga | exact CK2.out _ Gd) ((refine step_append_lies _ (by rfl) (.tmp 15) (.tmp 26) 77 (by rfl) w.heap.size 28 i0 (.slice none 0 0) 1 24 Tryz.underlying77 hi hz0 hz1 hz2 (by rfl) (by decide) (.slice q k cp) k (fcells (T.take k)) (by rfl) (by exact O.alloc _) ⟨wr.heap.size, 0, none⟩ 1 1 [.slice (some ⟨g, 0, none⟩) xc xc] (by rfl) (by rfl) (cell_one_new _ _ _) (fun x hx => by simp at hx; subst hx; rfl) (by omega) (small_len (by omega)) (by omega) (by simp; omega) (wr.heap.size + 1) (by simp) ?_; intro g5 cap5 w5 O5 gr5 hat5 hlt5; have G5 := grown_own Ga gr5 hb))
        rw [← HS.out] at O5
        clear hat5 hlt5 gr5 Ga Gd CK2 O G ck hb
        go_wp2_with fail
        go_roundw
        case rel => exact ⟨k + 1, _, _, by omega, by go_num, rfl, O5, G5⟩
        case measure => simp [intOf]; omega
    · have ek : k = T.length := by omega
      subst ek
      rw [List.take_of_length_le (Nat.le_refl _)] at O
      obtain ⟨ga, capa, ea, hga, RA, cA⟩ := rowI_of_own O h0
      obtain ⟨rfl, rfl⟩ : q = some ⟨ga, 0, none⟩ ∧ cp = capa := by simpa using ea
      obtain ⟨wz, hwz⟩ : ∃ wz, wz = wr := ⟨_, rfl⟩
      subst hwz
      have hga2 : ga ∉ blocks T := fun h => by
        obtain ⟨x, hx, e⟩ := List.mem_filterMap.1 h
        rcases HD.out x hx with ⟨h, _⟩ | ⟨g', h, _, _, cs, h1, _⟩
        · rw [h] at e; cases e
        · rw [h] at e
          obtain rfl := Option.some.inj e
          have := block_lt h1
          omega
      have M := mkI_start HD.out G
      have HR : Hid (∀ X, Kpt (blocks T) wz X → ∀ (j : Nat) x, T[j]? = some x → X.cell? ⟨ga, j, none⟩ = some x.f) := fun X hX j x hj => hX.cell (RA j x hj) hga2
      have HL : Hid (∀ (j : Nat) x, T[j]? = some x → lim x.cap) := fun j x hj => by
        rcases HD.out x (List.mem_of_getElem? hj) with ⟨_, _, h⟩ | ⟨_, _, _, h, _⟩
        · rw [h]; exact Nat.zero_le _
        · exact h
      have HN : Hid (∀ (j : Nat) x, T[j]? = some x → x.a = none → x.cap = 0) := fun j x hj ha => by
        rcases HD.out x (List.mem_of_getElem? hj) with ⟨_, _, h⟩ | ⟨_, h, _⟩
        · exact h
        · rw [h] at ha; cases ha
      have K0 : Kpt (blocks T) wz wz := Kpt.refl _ _
      have HGz : Hid (w.grownBy wz none) := G
      clear RA cA ea O HRT hlt hk G
      go_wp2_with fail
      go_loopw [5] (fun i wq => ∃ k : Nat, k ≤ T.length ∧ i = .int .i64 k ∧ MkI wq T k 0 ∧ Kpt (blocks T) wz wq) (fun i _ => T.length - (intOf i).toNat)
      case atStart => exact ⟨0, Nat.zero_le _, rfl, M, K0⟩
      case round =>
        clear M K0
        obtain ⟨k, hk, rfl, M, KQ⟩ := hrel
        by_cases hlt : k < T.length
        · obtain ⟨x, hx⟩ : ∃ x, T[k]? = some x := ⟨_, List.getElem?_eq_getElem hlt⟩
          have hlim := HL.out k x hx
          have hnil := HN.out k x hx
          have hlt' : (k : Int) < (T.length : Int) := by omega
          have hk0 : (0 : Int) ≤ (k : Int) := by omega
          have hwk : wrap64 ((k : Int) + 1) = (k : Int) + 1 := by unfold wrap64; omega
          obtain ⟨xa, xn, xc⟩ := x
          simp only at hlim hnil
          cases xa with
          | none =>
            obtain rfl := hnil rfl
            have M2 := M.next hx (Nat.zero_le _)
            have ck : ∀ X, Kpt (blocks T) wz X → X.cell? ⟨ga, k, none⟩ = some (.slice none 0 0) := fun X hX => HR.out X hX k _ hx
            have c1 := ck wr KQ
            have HM2 : Hid (MkI wr T (k + 1) 0) := M2
            have HKQ : Hid (Kpt (blocks T) wz wr) := KQ
            obtain ⟨wx, hwx⟩ : ∃ wx, wx = wr := ⟨_, rfl⟩
            subst hwx
            clear hx M M2 KQ ck hnil hlim hk
            go_wp2_with fail
            go_loopw [6] (fun i wp => i = .int .i64 0 ∧ wp = wx) (fun _ _ => 0)
            case atStart => exact ⟨rfl, rfl⟩
            case round =>
              obtain ⟨rfl, rfl⟩ := hrel
              go_wp2_with fail
              go_roundw
              case rel => exact ⟨k + 1, hlt, by first | rfl | (rw [hwk]; rfl), HM2.out, HKQ.out⟩
              case measure => first | exact meas_next hlt | (rw [hwk]; exact meas_next hlt)
          | some g =>
            have HXK : Hid (T[k]? = some ⟨some g, xn, xc⟩) := hx
            have HLIM : Hid (lim xc) := hlim
            clear hx hnil hlim hk
            go_wp2_with fail
            go_loopw [6] (fun i wp => ∃ m : Nat, m ≤ xc ∧ i = .int .i64 m ∧ MkI wp T k m ∧ Kpt (blocks T) wz wp) (fun i _ => xc - (intOf i).toNat)
            case atStart => exact ⟨0, Nat.zero_le _, rfl, M, KQ⟩
            case round =>
              clear M KQ
              obtain ⟨m, hm, rfl, M, KP⟩ := hrel
              have ck : wr.cell? ⟨ga, k, none⟩ = some (.slice (some ⟨g, 0, none⟩) xc xc) := HR.out wr KP k _ HXK.out
              have HM : Hid (MkI wr T k m) := M
              have HKP : Hid (Kpt (blocks T) wz wr) := KP
              clear M KP
              by_cases hml : m < xc
              · have hm0 : (0 : Int) ≤ (m : Int) := by omega
                have hm1 : (m : Int) < (xc : Int) := by omega
                have hwm := HLIM.out.wrap hml
                clear hm
                go_wp2_with fail
                have S0 : S12I ga k g xc wr.drew := ck
                refine wp_region_held_drew (S := S12I ga k g xc) (by kernel_rfl) S0 (fun hHeld => ?_)
                clear hHeld
                refine wpAnyH_take (i := 0) (v := ?_) rfl (by kernel_rfl) (by kernel_rfl) (by kernel_rfl) (fun _ _ _ h => h) (Or.inl ⟨by rfl, ?_⟩) (by assumption) ?_
                rotate_left 1
                · (intro w0 hSw; go_simp; try with_reducible rfl)
                simp only [List.getElem_toArray, List.getElem_cons_zero]
                go_frame
                refine wpAnyH_take (i := 1) (v := ?_) rfl (by kernel_rfl) (by kernel_rfl) (by kernel_rfl) (fun _ _ _ h => h) (Or.inl ⟨by rfl, ?_⟩) (by assumption) ?_
                rotate_left 1
                · (intro w0 hSw; go_simp; try with_reducible rfl)
                simp only [List.getElem_toArray, List.getElem_cons_zero, List.getElem_cons_succ]
                go_frame
                refine wpAnyH_take (i := 2) (v := ?_) rfl (by kernel_rfl) (by kernel_rfl) (by kernel_rfl) (fun _ _ _ h => h) (Or.inl ⟨by rfl, ?_⟩) (by assumption) ?_
                rotate_left 1
                · (intro w0 hSw; go_simp; try with_reducible rfl)
                simp only [List.getElem_toArray, List.getElem_cons_zero, List.getElem_cons_succ]
                go_frame
                refine wpAnyH_take (i := 3) (v := ?_) rfl (by kernel_rfl) (by kernel_rfl) (by kernel_rfl) (fun _ _ _ h => h) (Or.inl ⟨by rfl, ?_⟩) (by assumption) ?_
                rotate_left 1
                · (intro w0 hSw; have hSc := S12I.c hSw; go_simp; try with_reducible rfl)
                simp only [List.getElem_toArray, List.getElem_cons_zero, List.getElem_cons_succ]
                go_frame
                refine wpAnyH_take (i := 4) (v := ?_) rfl (by kernel_rfl) (by kernel_rfl) (by kernel_rfl) (fun _ _ _ h => h) (Or.inl ⟨by rfl, ?_⟩) (by assumption) ?_
                rotate_left 1
                · (intro w0 hSw; go_simp; try with_reducible rfl)
                simp only [List.getElem_toArray, List.getElem_cons_zero, List.getElem_cons_succ]
                go_frame
                refine wpAnyH_take (i := 5) (v := ?_) rfl (by kernel_rfl) (by kernel_rfl) (by kernel_rfl) (fun _ _ _ h => h) (Or.inl ⟨by rfl, ?_⟩) (by assumption) ?_
                rotate_left 1
                · (intro w0 hSw; go_simp; try with_reducible rfl)
                simp only [List.getElem_toArray, List.getElem_cons_zero, List.getElem_cons_succ]
                go_frame
                refine wpAnyH_take (i := 6) (v := ?_) rfl (by kernel_rfl) (by kernel_rfl) (by kernel_rfl) (fun _ _ _ h => h) (Or.inl ⟨by rfl, ?_⟩) (by assumption) ?_
                rotate_left 1
                · (intro w0 hSw; go_simp; try with_reducible rfl)
                simp only [List.getElem_toArray, List.getElem_cons_zero, List.getElem_cons_succ]
                go_frame
                refine wpAnyH_ready (rs := [7]) (by kernel_rfl) (by simp) ?_
                refine AllReadyH.cons rfl (fun K hK => ?_) AllReadyH.nil
                simp only [List.getElem_toArray, List.getElem_cons_zero, List.getElem_cons_succ]
                go_simp
                go_at_call 78
                refine (markI_any _ _ _).mono ?_
                rintro e w3 ⟨rfl, g3⟩
                have g3' : wr.grownBy w3 none := grown_trans (grown_drew _) g3
                have KP3 := HKP.out.grow g3'
                have M3 := HM.out.keep g3'
                have S1 : S12I ga k g xc w3 := HR.out w3 KP3 k _ HXK.out
                refine hK.out _ _ S1 (fun hHeld2 => ?_)
                clear hK K hHeld2 g3 g3'
                (try go_frame)
                refine wpAnyH_take (i := 8) (v := ?_) rfl (by kernel_rfl) (by kernel_rfl) (by kernel_rfl) (fun _ _ _ h => h) (Or.inl ⟨by rfl, ?_⟩) (by assumption) ?_
                rotate_left 1
                · (intro w0 hSw; go_simp; try with_reducible rfl)
                simp only [List.getElem_toArray, List.getElem_cons_zero, List.getElem_cons_succ]
                go_frame
                have RM : RoomI w3 g xc := M3.room HXK.out rfl
                obtain ⟨v0, e0⟩ := RM.cell hml
                have ef := fun i => RM.free i
                refine wpAnyH_ready (rs := [9]) (by kernel_rfl) (by simp) ?_
                refine AllReadyH.cons rfl (fun K hK => ?_) AllReadyH.nil
                simp only [List.getElem_toArray, List.getElem_cons_zero, List.getElem_cons_succ]
                go_simp
                have K4 : Kpt (blocks T) wz (putI w3 g m (mkI k m)) := KP3.trans (Kpt.of_grown (putI_grown w3 g m (mkI k m))) (fun y hy => Or.inl (by
                  have : y = g := by simpa using hy
                  rw [this]
                  exact mem_blocks HXK.out rfl))
                have M4 : MkI (putI w3 g m (mkI k m)) T k (m + 1) := M3.step HDF.out HXK.out rfl hml
                have S4 : S12I ga k g xc (putI w3 g m (mkI k m)) := HR.out _ K4 k _ HXK.out
                have HK4 : Hid (Kpt (blocks T) wz (putI w3 g m (mkI k m))) := K4
                have HM4 : Hid (MkI (putI w3 g m (mkI k m)) T k (m + 1)) := M4
                clear RM e0 ef KP3 M3 S1 S0 K4 M4
                unfold putI at S4 HK4 HM4
                refine hK.out _ _ S4 (fun hHeld2 => ?_)
                clear hK K hHeld2 S4
                refine wpAnyH_done (by kernel_rfl) ?_ _
                go_wp2_with fail
                go_roundw
                case rel => exact ⟨m + 1, hml, by first | rfl | (rw [hwm]; rfl), HM4.out, HK4.out⟩
                case measure => first | exact meas_next hml | (rw [hwm]; exact meas_next hml)
              · have hml' : ¬ (m : Int) < (xc : Int) := by omega
                have HM2 : Hid (MkI wr T (k + 1) 0) := HM.out.next HXK.out (Nat.le_of_not_lt hml)
                clear hm
                go_wp2_with fail
                go_roundw
                case rel => exact ⟨k + 1, hlt, by first | rfl | (rw [hwk]; rfl), HM2.out, HKP.out⟩
                case measure => first | exact meas_next hlt | (rw [hwk]; exact meas_next hlt)
        · have ek : k = T.length := by omega
          subst ek
          obtain ⟨wy, hwy⟩ : ∃ wy, wy = wr := ⟨_, rfl⟩
          subst hwy
          have HMY : Hid (MkI wy T T.length 0) := M
          have HKY : Hid (Kpt (blocks T) wz wy) := KQ
          have HC : Hid (∀ (j : Nat) x, T[j]? = some x → wy.cell? ⟨ga, j, none⟩ = some x.f) := HR.out wy KQ
          clear HR hk hlt M KQ
          go_wp2_with fail
          go_loopw [7] (fun i wq => ∃ k : Nat, k ≤ T.length ∧ i = .int .i64 k ∧ wy.grownBy wq none) (fun i _ => T.length - (intOf i).toNat)
          case atStart => exact ⟨0, Nat.zero_le _, rfl, grown_refl _ _⟩
          case round =>
            obtain ⟨k, hk, rfl, GQ⟩ := hrel
            by_cases hlt : k < T.length
            · obtain ⟨x, hx⟩ : ∃ x, T[k]? = some x := ⟨_, List.getElem?_eq_getElem hlt⟩
              have hlim := HL.out k x hx
              have hnil := HN.out k x hx
              have hlt' : (k : Int) < (T.length : Int) := by omega
              have hk0 : (0 : Int) ≤ (k : Int) := by omega
              have hwk : wrap64 ((k : Int) + 1) = (k : Int) + 1 := by unfold wrap64; omega
              have hcy := HC.out k x hx
              obtain ⟨xa, xn, xc⟩ := x
              simp only at hlim hnil
              have HGQ : Hid (wy.grownBy wr none) := GQ
              cases xa with
              | none =>
                obtain rfl := hnil rfl
                have c1 : wr.cell? ⟨ga, k, none⟩ = some (.slice none 0 0) := GQ.cell hcy (by simp)
                obtain ⟨wx, hwx⟩ : ∃ wx, wx = wr := ⟨_, rfl⟩
                subst hwx
                clear hx hnil hlim hk hcy GQ
                go_wp2_with fail
                go_loopw [8] (fun i wp => i = .int .i64 0 ∧ wp = wx) (fun _ _ => 0)
                case atStart => exact ⟨rfl, rfl⟩
                case round =>
                  obtain ⟨rfl, rfl⟩ := hrel
                  go_wp2_with fail
                  go_roundw
                  case rel => exact ⟨k + 1, hlt, by first | rfl | (rw [hwk]; rfl), HGQ.out⟩
                  case measure => first | exact meas_next hlt | (rw [hwk]; exact meas_next hlt)
              | some g =>
                have CK : Hid (wy.cell? ⟨ga, k, none⟩ = some (.slice (some ⟨g, 0, none⟩) xc xc)) := hcy
                have RD : Hid (∀ m, m < xc → wy.cell? ⟨g, m, none⟩ = some (.int .i64 (mkI k m))) := fun m hm => HMY.out.read hx rfl hm
                have HLIM : Hid (lim xc) := hlim
                obtain ⟨wx, hwx⟩ : ∃ wx, wx = wr := ⟨_, rfl⟩
                subst hwx
                clear hx hnil hlim hk hcy GQ
                go_wp2_with fail
                go_loopw [8] (fun i wp => ∃ m : Nat, m ≤ xc ∧ i = .int .i64 m ∧ wy.grownBy wp none) (fun i _ => xc - (intOf i).toNat)
                case atStart => exact ⟨0, Nat.zero_le _, rfl, HGQ.out⟩
                case round =>
                  obtain ⟨m, hm, rfl, GP⟩ := hrel
                  have ck := GP.cell CK.out (by simp)
                  have HGP : Hid (wy.grownBy wr none) := GP
                  by_cases hml : m < xc
                  · have RDm : wr.cell? ⟨g, m, none⟩ = some (.int .i64 (mkI k m)) := GP.cell (RD.out m hml) (by simp)
                    have hm0 : (0 : Int) ≤ (m : Int) := by omega
                    have hm1 : (m : Int) < (xc : Int) := by omega
                    have hwm := HLIM.out.wrap hml
                    clear hm GP
                    go_wp2_with fail
                    have S0 : S19I ga k g xc m wr.drew := ⟨ck, (grown_drew wr).cell RDm (by simp)⟩
                    refine wp_region_held_drew (S := S19I ga k g xc m) (by kernel_rfl) S0 (fun hHeld => ?_)
                    clear hHeld
                    refine wpAnyH_take (i := 0) (v := ?_) rfl (by kernel_rfl) (by kernel_rfl) (by kernel_rfl) (fun _ _ _ h => h) (Or.inl ⟨by rfl, ?_⟩) (by assumption) ?_
                    rotate_left 1
                    · (intro w0 hSw; go_simp; try with_reducible rfl)
                    simp only [List.getElem_toArray, List.getElem_cons_zero]
                    go_frame
                    refine wpAnyH_take (i := 1) (v := ?_) rfl (by kernel_rfl) (by kernel_rfl) (by kernel_rfl) (fun _ _ _ h => h) (Or.inl ⟨by rfl, ?_⟩) (by assumption) ?_
                    rotate_left 1
                    · (intro w0 hSw; go_simp; try with_reducible rfl)
                    simp only [List.getElem_toArray, List.getElem_cons_zero, List.getElem_cons_succ]
                    go_frame
                    refine wpAnyH_take (i := 2) (v := ?_) rfl (by kernel_rfl) (by kernel_rfl) (by kernel_rfl) (fun _ _ _ h => h) (Or.inl ⟨by rfl, ?_⟩) (by assumption) ?_
                    rotate_left 1
                    · (intro w0 hSw; go_simp; try with_reducible rfl)
                    simp only [List.getElem_toArray, List.getElem_cons_zero, List.getElem_cons_succ]
                    go_frame
                    refine wpAnyH_take (i := 3) (v := ?_) rfl (by kernel_rfl) (by kernel_rfl) (by kernel_rfl) (fun _ _ _ h => h) (Or.inl ⟨by rfl, ?_⟩) (by assumption) ?_
                    rotate_left 1
                    · (intro w0 hSw; have hSc := S19I.c hSw; go_simp; try with_reducible rfl)
                    simp only [List.getElem_toArray, List.getElem_cons_zero, List.getElem_cons_succ]
                    go_frame
                    refine wpAnyH_take (i := 4) (v := ?_) rfl (by kernel_rfl) (by kernel_rfl) (by kernel_rfl) (fun _ _ _ h => h) (Or.inl ⟨by rfl, ?_⟩) (by assumption) ?_
                    rotate_left 1
                    · (intro w0 hSw; go_simp; try with_reducible rfl)
                    simp only [List.getElem_toArray, List.getElem_cons_zero, List.getElem_cons_succ]
                    go_frame
                    refine wpAnyH_take (i := 5) (v := ?_) rfl (by kernel_rfl) (by kernel_rfl) (by kernel_rfl) (fun _ _ _ h => h) (Or.inl ⟨by rfl, ?_⟩) (by assumption) ?_
                    rotate_left 1
                    · (intro w0 hSw; go_simp; try with_reducible rfl)
                    simp only [List.getElem_toArray, List.getElem_cons_zero, List.getElem_cons_succ]
                    go_frame
                    refine wpAnyH_take (i := 6) (v := ?_) rfl (by kernel_rfl) (by kernel_rfl) (by kernel_rfl) (fun _ _ _ h => h) (Or.inl ⟨by rfl, ?_⟩) (by assumption) ?_
                    rotate_left 1
                    · (intro w0 hSw; have p0 := S19I.p hSw; go_simp; try with_reducible rfl)
                    simp only [List.getElem_toArray, List.getElem_cons_zero, List.getElem_cons_succ]
                    go_frame
                    refine wpAnyH_take (i := 7) (v := ?_) rfl (by kernel_rfl) (by kernel_rfl) (by kernel_rfl) (fun _ _ _ h => h) (Or.inl ⟨by rfl, ?_⟩) (by assumption) ?_
                    rotate_left 1
                    · (intro w0 hSw; go_simp; try with_reducible rfl)
                    simp only [List.getElem_toArray, List.getElem_cons_zero, List.getElem_cons_succ]
                    go_frame
                    refine wpAnyH_take (i := 8) (v := ?_) rfl (by kernel_rfl) (by kernel_rfl) (by kernel_rfl) (fun _ _ _ h => h) (Or.inl ⟨by rfl, ?_⟩) (by assumption) ?_
                    rotate_left 1
                    · (intro w0 hSw; go_simp; try with_reducible rfl)
                    simp only [List.getElem_toArray, List.getElem_cons_zero, List.getElem_cons_succ]
                    go_frame
                    refine wpAnyH_ready (rs := [9]) (by kernel_rfl) (by simp) ?_
                    refine AllReadyH.cons rfl (fun K hK => ?_) AllReadyH.nil
                    simp only [List.getElem_toArray, List.getElem_cons_zero, List.getElem_cons_succ]
                    go_simp
                    go_at_call 78
                    refine (markI_any _ _ _).mono ?_
                    rintro e w3 ⟨rfl, g3⟩
                    have G3 : Hid (wy.grownBy w3 none) := grown_trans HGP.out (grown_trans (grown_drew _) g3)
                    have S1 : S19I ga k g xc m w3 := ⟨G3.out.cell CK.out (by simp), G3.out.cell (RD.out m hml) (by simp)⟩
                    refine hK.out _ _ S1 (fun hHeld2 => ?_)
                    clear hK K hHeld2 g3
                    (try go_frame)
                    refine wpAnyH_take (i := 10) (v := ?_) rfl (by kernel_rfl) (by kernel_rfl) (by kernel_rfl) (fun _ _ _ h => h) (Or.inl ⟨by rfl, ?_⟩) (by assumption) ?_
                    rotate_left 1
                    · (intro w0 hSw; go_simp; try with_reducible rfl)
                    simp only [List.getElem_toArray, List.getElem_cons_zero, List.getElem_cons_succ]
                    go_frame
                    refine wpAnyH_done (by kernel_rfl) ?_ _
                    clear S0 S1
                    go_wp2_with fail
                    go_roundw
                    case rel => exact ⟨m + 1, hml, by first | rfl | (rw [hwm]; rfl), G3.out⟩
                    case measure => first | exact meas_next hml | (rw [hwm]; exact meas_next hml)
                  · have hml' : ¬ (m : Int) < (xc : Int) := by omega
                    clear hm GP
                    go_wp2_with fail
                    go_roundw
                    case rel => exact ⟨k + 1, hlt, by first | rfl | (rw [hwk]; rfl), HGP.out⟩
                    case measure => first | exact meas_next hlt | (rw [hwk]; exact meas_next hlt)
            · have hlt' : ¬ (k : Int) < (T.length : Int) := by omega
              clear hk hlt
              go_wp2
              go_ret
              exact ⟨rfl, ((Kpt.of_grown HGz.out).mono (by simp)).trans (HKY.out.trans (Kpt.of_grown GQ) (by simp)) (fun _ hx => Or.inl hx)⟩
end Go.Proofs.YtknlcjhcamhfmaaGreatDoor
namespace Go.Proofs.YtknlcjhcamhfmaaGreatDoor.L
open Go.RowKit

/-- How many of the first j numbers a log takes that holds n: none when it is closed. -/
def tk : Bool → Nat → Nat → Nat
  | true, _, _ => 0
  | false, n, j => min j (256 - n)
theorem begin_any (b : Nat) (l : List Int) (sh : Bool) (w : World) (h : LogAt w b l sh) : Calls Tryz.prog 33 #[.pointer (some ⟨b, 0, none⟩)] w fun e w' => e = .returned (.int .i64 ((tk sh l.length 24 : Nat) : Int)) ∧ LogAt w' b (l ++ all24.take (tk sh l.length 24)) true ∧ w.grownBy w' (some b) := by
  cases sh
  · exact begin_open b l w h
  · refine (begin_closed b l w h).mono ?_
    rintro e w' ⟨rfl, L, g⟩
    exact ⟨rfl, by simpa [tk] using L, g⟩
/-- The document's list, cell for cell. -/
def Nums (w : World) (s : Nat) : Prop := s < w.heap.size ∧ ∀ j, j < 24 → w.cell? ⟨s, j, none⟩ = some (.int .i64 (all24.getD j 0))
theorem Nums.keep {w w' : World} {s : Nat} {r : Option Nat} (h : Nums w s) (g : w.grownBy w' r) (hr : some s ≠ r) : Nums w' s := ⟨Nat.lt_of_lt_of_le h.1 g.size, fun j hj => g.cell (h.2 j hj) hr⟩
theorem Nums.ints {w : World} {s c : Nat} (h : Nums w s) : IntsAt w (.slice (some ⟨s, 0, none⟩) 24 c) all24 := ⟨_, _, rfl, by decide, fun _ => ⟨s, 0, rfl, fun j hj => by rw [Nat.zero_add]; exact h.2 j hj⟩⟩
theorem nums_of {w : World} {base : Nat} {v : Value} (h : Own w base v all24) : ∃ s c, v = .slice (some ⟨s, 0, none⟩) 24 c ∧ base ≤ s ∧ Nums w s := by
  obtain ⟨p, cap, rfl⟩ := h.form
  have hb := h.block
  obtain ⟨p2, c2, e, _, hc⟩ := h.ints
  obtain ⟨g, off, rfl, hc⟩ := hc (by decide)
  rcases h.2 with ⟨_, h1⟩ | ⟨g', cap', cur, e', hg0, hh, hn, hm, hs, ht⟩
  · exact absurd h1 (by decide)
  · refine ⟨g', cap', e', hg0, block_lt hh, fun j hj => ?_⟩
    have h9 : (ints all24)[j]? = some (.int .i64 (all24.getD j 0)) := ints_at all24 j hj
    rw [← ht, List.getElem?_take, if_pos (by have : all24.length = 24 := rfl; omega)] at h9
    rw [block_cell hh]
    simpa using h9
theorem take24 : ∀ j, j < 24 → all24.take j ++ [all24.getD j 0] = all24.take (j + 1) := by decide
theorem len24 (n t : Nat) (h : t ≤ 24) : (upTo n ++ all24.take t).length = n + t := by
  rw [List.length_append, length_upTo, List.length_take, show all24.length = 24 from rfl]; omega
theorem tk_le (sh : Bool) (n j : Nat) : tk sh n j ≤ j := by cases sh <;> simp [tk] <;> omega
/-- Behind j of the document's numbers. -/
def BgAt (w wr : World) (b s : Nat) (sh : Bool) (n j : Nat) (v : Value) : Prop := LogAt wr b (upTo n) sh ∧ Own wr (b + 1) v (upTo n ++ all24.take (tk sh n j)) ∧ Nums wr s ∧ v.ownBlock ≠ some s ∧ w.grownBy wr none
theorem BgAt.next {w wr w7 : World} {b s n j : Nat} {p : Option Addr} {c : Nat} {v' : Value} {tmp : Obj} {x : Int} (h : BgAt w wr b s false n j (.slice p (n + j) c)) (hx : x = all24.getD j 0) (hj4 : j < 24)
    (hown : w7.ownsRow (b + 1) 3 1 v' (n + j + 1) (ints (upTo n ++ all24.take j) ++ [Value.int .i64 x])) (hg : (wr.alloc tmp).grownBy w7 (Value.slice p (n + j) c).ownBlock)
    (hlie : v'.ownBlock = (Value.slice p (n + j) c).ownBlock ∨ v'.ownBlock = some (wr.alloc tmp).heap.size) (hj : n + j < 256) (hb : w.heap.size ≤ b) : BgAt w w7 b s false n (j + 1) v' := by
  obtain ⟨L, O, N, hne, G⟩ := h
  have em : tk false n (j + 1) = j + 1 := by show min (j + 1) (256 - n) = j + 1; omega
  have O7 := own_snoc hown (by rw [len24 n j (by omega)])
  rw [List.append_assoc, hx, take24 j hj4] at O7
  have hblk := O.block
  refine ⟨(L.keep (World.grownBy_alloc wr tmp none) (by simp)).keep hg (fun e => by have := hblk b e.symm; omega), by rw [em]; exact O7, (N.keep (World.grownBy_alloc wr tmp none) (by simp)).keep hg (fun e => hne e.symm), ?_, grown_own (grown_push G tmp) hg (fun x hx => by have := hblk x hx; omega)⟩
  rcases hlie with e | e
  · rw [e]; exact hne
  · rw [e, World.size_alloc]
    have := N.1
    intro h
    simp at h
    omega
theorem okI_block {w : World} {g : Nat} (h : w.heap[g]? = some (.cells (ints all24).toArray 3 (0, 0))) : Lst.okI w ⟨some g, 24, 24⟩ := Or.inr ⟨g, rfl, Nat.le_refl _, (by unfold lim maxLen; omega : lim 24), _, h, rfl⟩
theorem diff2 {a b n m c d : Nat} (h : ¬ a = b) : Diff [⟨some a, n, c⟩, ⟨some b, m, d⟩] := fun i j x y g hi hj hx hy => by
  rcases i with _ | _ | i <;> rcases j with _ | _ | j
  · rfl
  · exfalso
    obtain rfl : (⟨some a, n, c⟩ : Lst) = x := by simpa using hi
    obtain rfl : (⟨some b, m, d⟩ : Lst) = y := by simpa using hj
    exact h ((Option.some.inj hx).trans (Option.some.inj hy).symm)
  · simp at hj
  · exfalso
    obtain rfl : (⟨some b, m, d⟩ : Lst) = x := by simpa using hi
    obtain rfl : (⟨some a, n, c⟩ : Lst) = y := by simpa using hj
    exact h ((Option.some.inj hy).trans (Option.some.inj hx).symm)
  · rfl
  · simp at hj
  · simp at hi
  · simp at hi
  · simp at hi
theorem same_self {a b : Value} {l : List Int} {w : World} (ha : IntsAt w a l) (hb : IntsAt w b l) : Calls Tryz.prog 34 #[a, b] w fun e w' => e = .returned (.bool true) ∧ w.grownBy w' none := by
  refine (same_ints _ _ l l w ha hb).mono ?_
  rintro e w' ⟨rfl, n, rfl⟩
  exact ⟨by rw [decide_eq_true rfl], grown_drewN _ _ _⟩
/-- The document's list and a told one are one list. -/
theorem same_told {a s c : Nat} {w : World} (B : w.heap[a]? = some (.cells (ints all24).toArray 3 (0, 0))) (N : Nums w s) : Calls Tryz.prog 34 #[.slice (some ⟨a, 0, none⟩) 24 24, .slice (some ⟨s, 0, none⟩) 24 c] w fun e w' => e = .returned (.bool true) ∧ w.grownBy w' none := by
  refine (same_ints _ _ all24 all24 w (IntsAt.whole B (by decide)) N.ints).mono ?_
  rintro e w' ⟨rfl, n, rfl⟩
  exact ⟨by rw [decide_eq_true rfl], grown_drewN _ _ _⟩
/-- Two told lists lie apart. -/
theorem apart_told {a b g : Nat} {w : World} (Z : w.heap[g]? = some (.cells #[.slice (some ⟨a, 0, none⟩) 24 24, .slice (some ⟨b, 0, none⟩) 24 24] 28 (0, 0))) (A : w.heap[a]? = some (.cells (ints all24).toArray 3 (0, 0))) (B : w.heap[b]? = some (.cells (ints all24).toArray 3 (0, 0))) (hab : ¬ a = b) : Calls Tryz.prog 38 #[.slice (some ⟨g, 0, none⟩) 2 2] w fun e w' => e = .returned (.bool true) ∧ Kpt [a, b] w w' :=
  apartI_any g 2 [⟨some a, 24, 24⟩, ⟨some b, 24, 24⟩] w (Nat.zero_lt_succ _) (by simp)
    (fun j x hx => by
      rcases j with _ | _ | j
      · obtain rfl : (⟨some a, 24, 24⟩ : Lst) = x := by simpa using hx
        exact block_cell Z 0
      · obtain rfl : (⟨some b, 24, 24⟩ : Lst) = x := by simpa using hx
        exact block_cell Z 1
      · simp at hx)
    (fun x hx => by
      simp only [List.mem_cons, List.not_mem_nil, or_false] at hx
      rcases hx with rfl | rfl
      · exact okI_block A
      · exact okI_block B)
    (diff2 hab)
set_option maxRecDepth 100000 in
set_option maxHeartbeats 16000000 in
theorem begins14 (many : Int) (shut : Bool) (w : World) (N : NamesAt w) : Calls Tryz.prog 7 #[.int .i64 many, .bool shut] w fun e w' => e = .returned (.bool true) ∧ w.grownBy w' none := by
  obtain ⟨i0, hi, hz0, hz1, hz2⟩ := info_parts Tryz.info3'
  have HN : Hid (NamesAt w) := N
  clear N
  go_enter Tryz.func7, Tryz.ntmps7
  go_wp2_with fail
  refine (new_any _).mono ?_
  rintro e w1 ⟨rfl, L1, G1, hs1⟩
  generalize hb : w.heap.size = b at *
  have HB : Hid (w.heap.size = b) := hb
  clear hb hs1
  go_wp2_with fail
  refine (pick_any many 260 _ (by omega) (by omega)).mono ?_
  rintro e w2 ⟨⟨r, hr, rfl⟩, rfl⟩
  go_wp2_with fail
  go_loopw [6, 7] (fun v i wr => ∃ k : Nat, k ≤ r ∧ i = .int .i64 k ∧ BegAt w wr b v (min k 256)) (fun _ i _ => r - (intOf i).toNat)
  case atStart => exact ⟨0, Nat.zero_le _, rfl, L1, Own.nil _ _, G1⟩
  case round =>
    clear L1 G1
    obtain ⟨k, hk, rfl, L, O, G⟩ := hrel
    by_cases hlt : k < r
    · have hlt' : (k : Int) < r := by omega
      by_cases h2 : k < 256
      · rw [Nat.min_eq_left (by omega)] at L O
        obtain ⟨q, cp, rfl⟩ := O.form_len (length_upTo k)
        go_wp2_with fail
        refine (note_ok b (upTo k) k _ L (by rw [length_upTo]; exact h2)).mono ?_
        rintro e w3 ⟨rfl, L3, g3⟩
        rw [upTo_succ] at L3
        have O3 := own_row (O.keep g3 (fun x hx => by cases hx; omega)) (length_upTo k)
        have B3 := O.block
        have G3 := grown_own G g3 (fun x hx => by cases hx; exact Nat.le_of_eq HB.out)
        have hb3 : b < w3.heap.size := L3.lt
        have HL3 : Hid (LogAt w3 b (upTo (k + 1)) false) := L3
        have HB3 : Hid (∀ x, (Value.slice q k cp).ownBlock = some x → b + 1 ≤ x) := B3
        have HG3 : Hid (w.grownBy w3 none) := G3
        clear L O G g3 L3 B3 G3
        rw [length_upTo]
        have hk0 : (0 : Int) ≤ k := by omega
        go_wp2_with (at_builtin; refine wpList_append_own _ rfl (.tmp 26) (.tmp 28) 28 rfl (b + 1) 3 i0 (.int .i64 0) 1 8 Tryz.underlying28 hi hz0 hz1 hz2 rfl (by decide) (.slice q k cp) k (ints (upTo k)) rfl (O3.alloc _) ⟨w3.heap.size, 0, none⟩ 1 1 [.int .i64 k] rfl rfl (cell_one_new _ _ _) (fun x hx => by simp at hx; subst hx; rfl) (by unfold maxLen; omega) (by omega) (by simp; omega) ?_; intro v' w7 hown' hgrow7 hnil7; clear hnil7; have O7 := own_snoc hown' (by rw [length_upTo]); rw [upTo_succ] at O7; obtain ⟨q', cp', rfl⟩ := O7.form_len (length_upTo (k + 1)); have L7 := (HL3.out.keep (World.grownBy_alloc w3 _ none) (by simp)).keep hgrow7 (fun e => by have := HB3.out b e.symm; omega); have G7 := grown_own (grown_push HG3.out _) hgrow7 (fun x hx => by have := HB3.out x hx; have := HB.out; omega); have H7 : Hid (BegAt w w7 b (.slice q' (k + 1) cp') (k + 1)) := ⟨L7, O7, G7⟩; clear hown' hgrow7 L7 O7 G7)
        go_roundw
        case rel => exact ⟨k + 1, by omega, by go_num, by rw [Nat.min_eq_left (by omega)]; exact H7.out⟩
        case measure => simp [intOf]; omega
      · have em : min k 256 = 256 := by omega
        have em' : min (k + 1) 256 = 256 := by omega
        rw [em] at L O
        go_wp2_with fail
        refine (note_full b (upTo 256) _ k _ L (length_upTo _)).mono ?_
        rintro e w3 ⟨rfl, rfl⟩
        go_wp2
        go_roundw
        case rel => exact ⟨k + 1, by omega, by go_num, by rw [em']; exact ⟨L, O, G⟩⟩
        case measure => simp [intOf]; omega
    · have ek : k = r := by omega
      subst ek
      have hn : min k 256 ≤ 256 := by omega
      generalize min k 256 = n at *
      obtain ⟨q, cp, rfl⟩ := O.form_len (length_upTo n)
      have hlt' : ¬ ((k : Int) < k) := by omega
      obtain ⟨wz, hz⟩ : ∃ wz, wz = wr := ⟨_, rfl⟩
      subst hz
      have HL : Hid (LogAt wz b (upTo n) false) := L
      have HO : Hid (Own wz (b + 1) (.slice q n cp) (upTo n)) := O
      have HG : Hid (w.grownBy wz none) := G
      have Hhn : Hid (n ≤ 256) := hn
      clear L O G
      cases shut
      case true =>
        go_wp2_with fail
        refine (close_log b _ _ _ HL.out).mono ?_
        rintro e X1 ⟨rfl, LC, g4⟩
        have HLC : Hid (LogAt X1 b (upTo n) true) := LC
        have HOC : Hid (Own X1 (b + 1) (.slice q n cp) (upTo n)) := HO.out.keep g4 (fun x hx => by cases hx; omega)
        have HGC : Hid (w.grownBy X1 none) := grown_own HG.out g4 (fun x hx => by cases hx; exact Nat.le_of_eq HB.out)
        clear LC g4 HL HO HG
        go_wp2_with fail
        refine (rlog_any X1).mono ?_
        rintro e X2 ⟨vn, rfl, ON, g2⟩
        obtain ⟨s, cs, rfl, hs1, NS⟩ := nums_of ON
        have HSB : Hid (some s ≠ some b) := fun e => by cases e; have := HLC.out.lt; omega
        have HM : Hid (BgAt w X2 b s true n 0 (.slice q n cp)) := ⟨HLC.out.keep g2 (by simp), by simpa [tk] using HOC.out.keep (r := none) g2 (by simp), NS, fun e => by have := own_lt HOC.out _ e; omega, grown_own (r := none) HGC.out g2 (by simp)⟩
        clear ON g2 hs1 NS HLC HOC HGC
        go_wp2_with fail
        go_loopw [6, 9, 10] (fun v c i wr => ∃ j : Nat, j ≤ 24 ∧ i = .int .i64 j ∧ c = .int .i64 ((tk true n j : Nat) : Int) ∧ BgAt w wr b s true n j v) (fun _ _ i _ => 24 - (intOf i).toNat)
        case atStart => exact ⟨0, Nat.zero_le _, rfl, by simp [tk], HM.out⟩
        case round =>
        clear HM
        obtain ⟨j, hj, rfl, rfl, M⟩ := hrel
        obtain ⟨Y, hY⟩ : ∃ Y, Y = wr := ⟨_, rfl⟩
        subst hY
        by_cases hlt : j < 24
        · have hlt2 : (j : Int) < 24 := by omega
          have hwj : wrap64 ((j : Int) + 1) = (j : Int) + 1 := by unfold wrap64; omega
          have HM : Hid (BgAt w Y b s true n (j + 1) _) := M
          clear M
          go_wp2
          go_roundw
          case rel => exact ⟨j + 1, hlt, by go_num, rfl, HM.out⟩
          case measure => simp [intOf]; omega
        · obtain rfl : j = 24 := by omega
          obtain ⟨L4, O4, N4, _, G4⟩ := M
          have CB := begin_any b (upTo n) true Y L4
          rw [length_upTo] at CB
          have hle : (upTo n ++ all24.take (tk true n 24)).length ≤ 256 := by rw [len24 n _ (tk_le _ _ _)]; simp only [tk]; omega
          obtain ⟨l, hl⟩ : ∃ l, l = upTo n ++ all24.take (tk true n 24) := ⟨_, rfl⟩
          obtain ⟨t, ht⟩ : ∃ t, t = tk true n 24 := ⟨_, rfl⟩
          rw [← hl] at O4 CB hle
          rw [← ht] at CB ⊢
          obtain ⟨p5, c5, rfl⟩ := O4.form_len rfl
          have HO4 : Hid (Own Y (b + 1) (.slice p5 l.length c5) l) := O4
          have HN4 : Hid (Nums Y s) := N4
          have HG4 : Hid (w.grownBy Y none) := G4
          have HNE : Hid (some s ≠ some b) := HSB.out
          have Hle : Hid (l.length ≤ 256) := hle
          clear L4 O4 N4 G4 hl ht hle
          simp only [Int.cast_ofNat_Int]
          go_wp2_with fail
          refine CB.mono ?_
          rintro e Y1 ⟨rfl, L5, g5⟩
          have HL5 : Hid (LogAt Y1 b l true) := L5
          have HO5 : Hid (Own Y1 (b + 1) (.slice p5 l.length c5) l) := HO4.out.keep g5 (fun x hx => by cases hx; omega)
          have HN5 : Hid (Nums Y1 s) := HN4.out.keep g5 HNE.out
          have HG5 : Hid (w.grownBy Y1 none) := grown_own HG4.out g5 (fun x hx => by cases hx; exact Nat.le_of_eq HB.out)
          clear L5 g5 CB HO4 HN4 HG4
          go_wp2_with fail
          refine (list_log b _ _ _ HL5.out).mono ?_
          rintro e Y2 ⟨rfl, B6, g6⟩
          have HL6 : Hid (LogAt Y2 b l true) := HL5.out.keep g6 (by simp)
          have HN6 : Hid (Nums Y2 s) := HN5.out.keep g6 (by simp)
          have HG6 : Hid (w.grownBy Y2 none) := grown_own (r := none) HG5.out g6 (by simp)
          have I6 : IntsAt Y2 (.slice (some ⟨Y1.heap.size, 0, none⟩) l.length l.length) l := IntsAt.whole B6 (small_maxLen (by have := Hle.out; omega))
          have W6 := (HO5.out.keep (r := none) g6 (by simp)).ints
          have CS := same_self I6 W6
          clear B6 g6 HL5 HG5 HO5 HN5 I6 W6
          generalize Y1.heap.size = s5 at *
          go_wp2_with fail
          refine CS.mono ?_
          rintro e Y3 ⟨rfl, g7⟩
          have HL7 : Hid (LogAt Y3 b l true) := HL6.out.keep g7 (by simp)
          have HN7 : Hid (Nums Y3 s) := HN6.out.keep g7 (by simp)
          have HG7 : Hid (w.grownBy Y3 none) := grown_own (r := none) HG6.out g7 (by simp)
          clear g7 HL6 HG6 HN6 CS
          go_wp2_with fail
          refine (closed_log b _ _ _ HL7.out).mono ?_
          rintro e w8 ⟨rfl, rfl⟩
          go_wp2_with fail
          refine (begin_closed b _ _ HL7.out).mono ?_
          rintro e Y4 ⟨rfl, _, g8⟩
          have HN8 : Hid (Nums Y4 s) := HN7.out.keep g8 HNE.out
          have HG8 : Hid (w.grownBy Y4 none) := grown_own HG7.out g8 (fun x hx => by cases hx; exact Nat.le_of_eq HB.out)
          clear g8 HL7 HN7 HG7
          go_wp2_with fail
          refine (begin_no none _ (Or.inl rfl)).mono ?_
          rintro e Y5 ⟨rfl, g9⟩
          have HN9 : Hid (Nums Y5 s) := HN8.out.keep g9 (by simp)
          have HG9 : Hid (w.grownBy Y5 none) := grown_own (r := none) HG8.out g9 (by simp)
          clear g9 HN8 HG8
          go_wp2_with (first | (refine wpl_build_g ?g 75 #[] ?ho #[] ?hv (.agg noCells) (run_build33' _) ?_; (case g => rfl); (case ho => rfl); (case hv => simp)) | (refine wpl_box_g ?g 75 (.tmp 82) ?ho (.agg noCells) ?hv _ (run_box43 noCells _) ?_; (case g => rfl); (case ho => rfl); (case hv => simp [Act.eval])))
          refine (begin_no _ _ (no_new _)).mono ?_
          rintro e Y6 ⟨rfl, g10⟩
          have HN10 : Hid (Nums Y6 s) := (HN9.out.keep (World.grownBy_alloc _ _ none) (by simp)).keep g10 (by simp)
          have HG10 : Hid (w.grownBy Y6 none) := grown_own (r := none) (grown_push HG9.out _) g10 (by simp)
          clear g10 HN9 HG9
          go_wp2_with fail
          refine (log_any Y6).mono ?_
          rintro e Y7 ⟨a, rfl, ha, BA, g11⟩
          have HN11 : Hid (Nums Y7 s) := HN10.out.keep g11 (by simp)
          have HG11 : Hid (w.grownBy Y7 none) := grown_own (r := none) HG10.out g11 (by simp)
          have HBA : Hid (Y7.heap[a]? = some (.cells (ints all24).toArray 3 (0, 0))) := BA
          have Hsa : Hid (s < a ∧ w.heap.size ≤ a) := ⟨Nat.lt_of_lt_of_le HN10.out.1 ha, Nat.le_trans HG10.out.size ha⟩
          clear BA g11 HN10 HG10 ha
          go_wp2_with fail
          refine (same_told HBA.out HN11.out).mono ?_
          rintro e Y8 ⟨rfl, g12⟩
          have HN12 : Hid (Nums Y8 s) := HN11.out.keep g12 (by simp)
          have HG12 : Hid (w.grownBy Y8 none) := grown_own (r := none) HG11.out g12 (by simp)
          have HBB : Hid (Y8.heap[a]? = some (.cells (ints all24).toArray 3 (0, 0))) := grown_keep g12 HBA.out (by simp)
          clear g12 HN11 HG11 HBA
          go_wp2_with fail
          refine (log_any Y8).mono ?_
          rintro e Y9 ⟨d, rfl, hd, BD, g13⟩
          have HN13 : Hid (Nums Y9 s) := HN12.out.keep g13 (by simp)
          have HG13 : Hid (w.grownBy Y9 none) := grown_own (r := none) HG12.out g13 (by simp)
          have HBC : Hid (Y9.heap[a]? = some (.cells (ints all24).toArray 3 (0, 0)) ∧ Y9.heap[d]? = some (.cells (ints all24).toArray 3 (0, 0))) := ⟨grown_keep g13 HBB.out (by simp), BD⟩
          have Had : Hid (a < d) := Nat.lt_of_lt_of_le (block_lt HBB.out) hd
          clear g13 BD HN12 HG12 HBB hd
          obtain ⟨Z, hZ⟩ : ∃ Z, Z = Y9.alloc (.cells #[.slice (some ⟨a, 0, none⟩) 24 24, .slice (some ⟨d, 0, none⟩) 24 24] 28) := ⟨_, rfl⟩
          have gz : Y9.grownBy Z none := by rw [hZ]; exact World.grownBy_alloc _ _ none
          have CA := apart_told (g := Y9.heap.size) (by rw [hZ]; exact alloc_at _ _ _) (grown_keep gz HBC.out.1 (by simp)) (grown_keep gz HBC.out.2 (by simp)) (Nat.ne_of_lt Had.out)
          have HNZ : Hid (Nums Z s) := HN13.out.keep gz (by simp)
          have HGZ : Hid (w.grownBy Z none) := grown_own (r := none) HG13.out gz (by simp)
          have HZ : Hid (Z = Y9.alloc (.cells #[.slice (some ⟨a, 0, none⟩) 24 24, .slice (some ⟨d, 0, none⟩) 24 24] 28)) := hZ
          clear hZ gz HN13 HG13 HBC
          go_wp2_with fail
          rw [← HZ.out]
          refine CA.mono ?_
          rintro e Z1 ⟨rfl, k1⟩
          have HN14 : Hid (Nums Z1 s) := ⟨Nat.lt_of_lt_of_le HNZ.out.1 k1.size, fun j hj => k1.cell (HNZ.out.2 j hj) (by have := Hsa.out; have := Had.out; simp; omega)⟩
          have HG14 : Hid (w.grownBy Z1 none) := Kpt.new HGZ.out k1 (fun x hx => by
            simp only [List.mem_cons, List.not_mem_nil, or_false] at hx
            have := Hsa.out; have := Had.out
            rcases hx with rfl | rfl <;> omega)
          clear k1 CA HNZ HGZ HZ
          go_wp2_with fail
          refine (log_any Z1).mono ?_
          rintro e Z2 ⟨f, rfl, _, BF, g15⟩
          have HN15 : Hid (Nums Z2 s) := HN14.out.keep g15 (by simp)
          have HG15 : Hid (w.grownBy Z2 none) := grown_own (r := none) HG14.out g15 (by simp)
          have CT := same_told (c := cs) BF HN15.out
          clear BF g15 HN14 HG14
          go_wp2_with fail
          refine CT.mono ?_
          rintro e Z3 ⟨rfl, g16⟩
          have HG16 : Hid (w.grownBy Z3 none) := grown_own (r := none) HG15.out g16 (by simp)
          clear g16 CT HN15 HG15
          go_wp2_with fail
          refine (lives_any Z3 (HN.out.keep HG16.out)).mono ?_
          rintro e Z4 ⟨rfl, g17⟩
          have HG17 : Hid (w.grownBy Z4 none) := grown_own (r := none) HG16.out g17 (by simp)
          clear g17 HG16
          go_wp2
          go_ret
          exact ⟨rfl, HG17.out⟩
      case false =>
        go_wp2_with fail
        obtain ⟨X1, hX1⟩ : ∃ X, X = wz := ⟨_, rfl⟩
        subst hX1
        have HLC := HL
        have HOC := HO
        have HGC := HG
        clear HL HO HG
        refine (rlog_any X1).mono ?_
        rintro e X2 ⟨vn, rfl, ON, g2⟩
        obtain ⟨s, cs, rfl, hs1, NS⟩ := nums_of ON
        have HSB : Hid (some s ≠ some b) := fun e => by cases e; have := HLC.out.lt; omega
        have HM : Hid (BgAt w X2 b s false n 0 (.slice q n cp)) := ⟨HLC.out.keep g2 (by simp), by simpa [tk] using HOC.out.keep (r := none) g2 (by simp), NS, fun e => by have := own_lt HOC.out _ e; omega, grown_own (r := none) HGC.out g2 (by simp)⟩
        clear ON g2 hs1 NS HLC HOC HGC
        go_wp2_with fail
        go_loopw [6, 9, 10] (fun v c i wr => ∃ j : Nat, j ≤ 24 ∧ i = .int .i64 j ∧ c = .int .i64 ((tk false n j : Nat) : Int) ∧ BgAt w wr b s false n j v) (fun _ _ i _ => 24 - (intOf i).toNat)
        case atStart => exact ⟨0, Nat.zero_le _, rfl, by simp [tk], HM.out⟩
        case round =>
        clear HM
        obtain ⟨j, hj, rfl, rfl, M⟩ := hrel
        obtain ⟨Y, hY⟩ : ∃ Y, Y = wr := ⟨_, rfl⟩
        subst hY
        by_cases hlt : j < 24
        · have hlt2 : (j : Int) < 24 := by omega
          have hwj : wrap64 ((j : Int) + 1) = (j : Int) + 1 := by unfold wrap64; omega
          by_cases hj256 : n + j < 256
          · have em : tk false n j = j := by show min j (256 - n) = j; omega
            have em' : tk false n (j + 1) = j + 1 := by show min (j + 1) (256 - n) = j + 1; omega
            have O3 := M.2.1
            rw [em] at O3 ⊢
            obtain ⟨p5, c5, rfl⟩ := O3.form_len (len24 n j (by omega))
            have O3 := own_row O3 (len24 n j (by omega))
            have hr256 : (n : Int) + j < 256 := by omega
            obtain ⟨x, hx⟩ : ∃ x, x = all24.getD j 0 := ⟨_, rfl⟩
            have cj : Y.cell? ⟨s, j, none⟩ = some (.int .i64 x) := by rw [hx]; exact M.2.2.1.2 j hlt
            have Hx : Hid (x = all24.getD j 0) := hx
            have hbz := M.1.lt
            have HM : Hid (BgAt w Y b s false n j (.slice p5 (n + j) c5)) := M
            clear M em hx
            go_wp2_with (at_builtin; refine wpList_append_own_at _ rfl (.tmp 47) (.tmp 52) 28 rfl (b + 1) 3 i0 (.int .i64 0) 1 8 Tryz.underlying28 hi hz0 hz1 hz2 rfl (by decide) (.slice p5 (n + j) c5) (n + j) (ints (upTo n ++ all24.take j)) rfl (O3.alloc _) ⟨Y.heap.size, 0, none⟩ 1 1 [.int .i64 x] rfl rfl (cell_one_new _ _ _) (fun x hx => by simp at hx; subst hx; rfl) (by unfold maxLen; omega) (by omega) (by simp; omega) ?_; intro v' w7 hown' hgrow7 hnil7 hlie; clear hnil7; have H7 := HM.out.next Hx.out hlt hown' hgrow7 hlie hj256 (by have := HB.out; omega); have H8 : Hid (BgAt w w7 b s false n (j + 1) v') := H7; have O8 := H7.2.1; rw [em'] at O8; obtain ⟨q', cp', rfl⟩ := O8.form_len (len24 n (j + 1) (by omega)); clear hown' hgrow7 hlie O8 H7)
            go_roundw
            case rel => exact ⟨j + 1, hlt, by go_num, by rw [em']; go_num, H8.out⟩
            case measure => simp [intOf]; omega
          · have em : tk false n j = 256 - n := by show min j (256 - n) = 256 - n; omega
            have em' : tk false n (j + 1) = 256 - n := by show min (j + 1) (256 - n) = 256 - n; omega
            have O3 := M.2.1
            rw [em] at O3
            obtain ⟨p5, c5, rfl⟩ := O3.form_len ((len24 n (256 - n) (by omega)).trans (by omega : n + (256 - n) = 256))
            have HM : Hid (BgAt w Y b s false n (j + 1) (.slice p5 256 c5)) := by
              obtain ⟨a1, a2, a3⟩ := M
              rw [em] at a2
              exact ⟨a1, by rw [em']; exact a2, a3⟩
            rw [em]
            clear M em O3
            generalize ht : (256 - n : Nat) = t at *
            clear ht
            go_wp2
            go_roundw
            case rel => exact ⟨j + 1, hlt, by go_num, by rw [em'], HM.out⟩
            case measure => simp [intOf]; omega
        · obtain rfl : j = 24 := by omega
          obtain ⟨L4, O4, N4, _, G4⟩ := M
          have CB := begin_any b (upTo n) false Y L4
          rw [length_upTo] at CB
          have hle : (upTo n ++ all24.take (tk false n 24)).length ≤ 256 := by rw [len24 n _ (tk_le _ _ _)]; simp only [tk]; omega
          obtain ⟨l, hl⟩ : ∃ l, l = upTo n ++ all24.take (tk false n 24) := ⟨_, rfl⟩
          obtain ⟨t, ht⟩ : ∃ t, t = tk false n 24 := ⟨_, rfl⟩
          rw [← hl] at O4 CB hle
          rw [← ht] at CB ⊢
          obtain ⟨p5, c5, rfl⟩ := O4.form_len rfl
          have HO4 : Hid (Own Y (b + 1) (.slice p5 l.length c5) l) := O4
          have HN4 : Hid (Nums Y s) := N4
          have HG4 : Hid (w.grownBy Y none) := G4
          have HNE : Hid (some s ≠ some b) := HSB.out
          have Hle : Hid (l.length ≤ 256) := hle
          clear L4 O4 N4 G4 hl ht hle
          simp only [Int.cast_ofNat_Int]
          go_wp2_with fail
          refine CB.mono ?_
          rintro e Y1 ⟨rfl, L5, g5⟩
          have HL5 : Hid (LogAt Y1 b l true) := L5
          have HO5 : Hid (Own Y1 (b + 1) (.slice p5 l.length c5) l) := HO4.out.keep g5 (fun x hx => by cases hx; omega)
          have HN5 : Hid (Nums Y1 s) := HN4.out.keep g5 HNE.out
          have HG5 : Hid (w.grownBy Y1 none) := grown_own HG4.out g5 (fun x hx => by cases hx; exact Nat.le_of_eq HB.out)
          clear L5 g5 CB HO4 HN4 HG4
          go_wp2_with fail
          refine (list_log b _ _ _ HL5.out).mono ?_
          rintro e Y2 ⟨rfl, B6, g6⟩
          have HL6 : Hid (LogAt Y2 b l true) := HL5.out.keep g6 (by simp)
          have HN6 : Hid (Nums Y2 s) := HN5.out.keep g6 (by simp)
          have HG6 : Hid (w.grownBy Y2 none) := grown_own (r := none) HG5.out g6 (by simp)
          have I6 : IntsAt Y2 (.slice (some ⟨Y1.heap.size, 0, none⟩) l.length l.length) l := IntsAt.whole B6 (small_maxLen (by have := Hle.out; omega))
          have W6 := (HO5.out.keep (r := none) g6 (by simp)).ints
          have CS := same_self I6 W6
          clear B6 g6 HL5 HG5 HO5 HN5 I6 W6
          generalize Y1.heap.size = s5 at *
          go_wp2_with fail
          refine CS.mono ?_
          rintro e Y3 ⟨rfl, g7⟩
          have HL7 : Hid (LogAt Y3 b l true) := HL6.out.keep g7 (by simp)
          have HN7 : Hid (Nums Y3 s) := HN6.out.keep g7 (by simp)
          have HG7 : Hid (w.grownBy Y3 none) := grown_own (r := none) HG6.out g7 (by simp)
          clear g7 HL6 HG6 HN6 CS
          go_wp2_with fail
          refine (closed_log b _ _ _ HL7.out).mono ?_
          rintro e w8 ⟨rfl, rfl⟩
          go_wp2_with fail
          refine (begin_closed b _ _ HL7.out).mono ?_
          rintro e Y4 ⟨rfl, _, g8⟩
          have HN8 : Hid (Nums Y4 s) := HN7.out.keep g8 HNE.out
          have HG8 : Hid (w.grownBy Y4 none) := grown_own HG7.out g8 (fun x hx => by cases hx; exact Nat.le_of_eq HB.out)
          clear g8 HL7 HN7 HG7
          go_wp2_with fail
          refine (begin_no none _ (Or.inl rfl)).mono ?_
          rintro e Y5 ⟨rfl, g9⟩
          have HN9 : Hid (Nums Y5 s) := HN8.out.keep g9 (by simp)
          have HG9 : Hid (w.grownBy Y5 none) := grown_own (r := none) HG8.out g9 (by simp)
          clear g9 HN8 HG8
          go_wp2_with (first | (refine wpl_build_g ?g 75 #[] ?ho #[] ?hv (.agg noCells) (run_build33' _) ?_; (case g => rfl); (case ho => rfl); (case hv => simp)) | (refine wpl_box_g ?g 75 (.tmp 82) ?ho (.agg noCells) ?hv _ (run_box43 noCells _) ?_; (case g => rfl); (case ho => rfl); (case hv => simp [Act.eval])))
          refine (begin_no _ _ (no_new _)).mono ?_
          rintro e Y6 ⟨rfl, g10⟩
          have HN10 : Hid (Nums Y6 s) := (HN9.out.keep (World.grownBy_alloc _ _ none) (by simp)).keep g10 (by simp)
          have HG10 : Hid (w.grownBy Y6 none) := grown_own (r := none) (grown_push HG9.out _) g10 (by simp)
          clear g10 HN9 HG9
          go_wp2_with fail
          refine (log_any Y6).mono ?_
          rintro e Y7 ⟨a, rfl, ha, BA, g11⟩
          have HN11 : Hid (Nums Y7 s) := HN10.out.keep g11 (by simp)
          have HG11 : Hid (w.grownBy Y7 none) := grown_own (r := none) HG10.out g11 (by simp)
          have HBA : Hid (Y7.heap[a]? = some (.cells (ints all24).toArray 3 (0, 0))) := BA
          have Hsa : Hid (s < a ∧ w.heap.size ≤ a) := ⟨Nat.lt_of_lt_of_le HN10.out.1 ha, Nat.le_trans HG10.out.size ha⟩
          clear BA g11 HN10 HG10 ha
          go_wp2_with fail
          refine (same_told HBA.out HN11.out).mono ?_
          rintro e Y8 ⟨rfl, g12⟩
          have HN12 : Hid (Nums Y8 s) := HN11.out.keep g12 (by simp)
          have HG12 : Hid (w.grownBy Y8 none) := grown_own (r := none) HG11.out g12 (by simp)
          have HBB : Hid (Y8.heap[a]? = some (.cells (ints all24).toArray 3 (0, 0))) := grown_keep g12 HBA.out (by simp)
          clear g12 HN11 HG11 HBA
          go_wp2_with fail
          refine (log_any Y8).mono ?_
          rintro e Y9 ⟨d, rfl, hd, BD, g13⟩
          have HN13 : Hid (Nums Y9 s) := HN12.out.keep g13 (by simp)
          have HG13 : Hid (w.grownBy Y9 none) := grown_own (r := none) HG12.out g13 (by simp)
          have HBC : Hid (Y9.heap[a]? = some (.cells (ints all24).toArray 3 (0, 0)) ∧ Y9.heap[d]? = some (.cells (ints all24).toArray 3 (0, 0))) := ⟨grown_keep g13 HBB.out (by simp), BD⟩
          have Had : Hid (a < d) := Nat.lt_of_lt_of_le (block_lt HBB.out) hd
          clear g13 BD HN12 HG12 HBB hd
          obtain ⟨Z, hZ⟩ : ∃ Z, Z = Y9.alloc (.cells #[.slice (some ⟨a, 0, none⟩) 24 24, .slice (some ⟨d, 0, none⟩) 24 24] 28) := ⟨_, rfl⟩
          have gz : Y9.grownBy Z none := by rw [hZ]; exact World.grownBy_alloc _ _ none
          have CA := apart_told (g := Y9.heap.size) (by rw [hZ]; exact alloc_at _ _ _) (grown_keep gz HBC.out.1 (by simp)) (grown_keep gz HBC.out.2 (by simp)) (Nat.ne_of_lt Had.out)
          have HNZ : Hid (Nums Z s) := HN13.out.keep gz (by simp)
          have HGZ : Hid (w.grownBy Z none) := grown_own (r := none) HG13.out gz (by simp)
          have HZ : Hid (Z = Y9.alloc (.cells #[.slice (some ⟨a, 0, none⟩) 24 24, .slice (some ⟨d, 0, none⟩) 24 24] 28)) := hZ
          clear hZ gz HN13 HG13 HBC
          go_wp2_with fail
          rw [← HZ.out]
          refine CA.mono ?_
          rintro e Z1 ⟨rfl, k1⟩
          have HN14 : Hid (Nums Z1 s) := ⟨Nat.lt_of_lt_of_le HNZ.out.1 k1.size, fun j hj => k1.cell (HNZ.out.2 j hj) (by have := Hsa.out; have := Had.out; simp; omega)⟩
          have HG14 : Hid (w.grownBy Z1 none) := Kpt.new HGZ.out k1 (fun x hx => by
            simp only [List.mem_cons, List.not_mem_nil, or_false] at hx
            have := Hsa.out; have := Had.out
            rcases hx with rfl | rfl <;> omega)
          clear k1 CA HNZ HGZ HZ
          go_wp2_with fail
          refine (log_any Z1).mono ?_
          rintro e Z2 ⟨f, rfl, _, BF, g15⟩
          have HN15 : Hid (Nums Z2 s) := HN14.out.keep g15 (by simp)
          have HG15 : Hid (w.grownBy Z2 none) := grown_own (r := none) HG14.out g15 (by simp)
          have CT := same_told (c := cs) BF HN15.out
          clear BF g15 HN14 HG14
          go_wp2_with fail
          refine CT.mono ?_
          rintro e Z3 ⟨rfl, g16⟩
          have HG16 : Hid (w.grownBy Z3 none) := grown_own (r := none) HG15.out g16 (by simp)
          clear g16 CT HN15 HG15
          go_wp2_with fail
          refine (lives_any Z3 (HN.out.keep HG16.out)).mono ?_
          rintro e Z4 ⟨rfl, g17⟩
          have HG17 : Hid (w.grownBy Z4 none) := grown_own (r := none) HG16.out g17 (by simp)
          clear g17 HG16
          go_wp2
          go_ret
          exact ⟨rfl, HG17.out⟩
end Go.Proofs.YtknlcjhcamhfmaaGreatDoor.L
