/-
  Draw, Under, Without, Cut of every list, of the program and of the document: the same answers.
-/
import Derived.Test.YtjjgipklhdofhaaPlW
namespace Go.Proofs.Ytjjgipklhdofhaa
open Go.RowKit

set_option maxHeartbeats 1000000 in
theorem rwithout_miss (g off cap n : Nat) (l : List Int) (x : Int) (w : World) (hC : CellsB w g off l) (hF : x ∉ l) (hn : n = l.length) (hm : Small n) : Calls Try.prog 22 #[.slice (some ⟨g, off, none⟩) n cap, .int .i64 x] w (WoPost w l x) := by
  have HC : Hid (CellsB w g off l) := hC
  have HF : Hid (NonI l x l.length) := none_of hF
  have HX : Hid (x ∉ l) := hF
  have HN : Hid (n = l.length) := hn
  clear hC hF hn
  go_enter Try.func22, Try.ntmps22
  go_wp2_with fail
  go_loopw [6] (fun i wr => ∃ m : Nat, m ≤ n ∧ i = .int .i64 m ∧ wr = w) (fun i _ => n - (intOf i).toNat)
  case atStart => exact ⟨0, Nat.zero_le _, rfl, rfl⟩
  case round =>
    obtain ⟨m, hmk, rfl, rfl⟩ := hrel
    rcases (show m = n ∨ m < n from by omega) with e | hlt
    · have hlt' : ¬ (m : Int) < (n : Int) := by omega
      clear e
      go_wp2
      go_ret2
      exact WoPost.no HX.out
    · have hlt' : (m : Int) < (n : Int) := by omega
      have hk0 : (0 : Int) ≤ (m : Int) := by omega
      obtain ⟨y, hy⟩ : ∃ y, y = l.getD m 0 := ⟨_, rfl⟩
      have D : wr.cell? ⟨g, off + m, none⟩ = some (.int .i64 y) := by rw [hy]; exact HC.out m (by have := HN.out; omega)
      have hd : ¬ (y = x) := fun e => HF.out m (by have := HN.out; omega) (by rw [← hy]; exact e)
      have hd2 : (y == x) = false := by simpa using hd
      clear hy
      go_wp2_with fail
      go_roundw
      case rel => exact ⟨m + 1, hlt, by first | rfl | (rw [hm.wrap hlt]; rfl), by first | rfl | trivial⟩
      case measure => first | exact meas_next hlt | (rw [hm.wrap hlt]; exact meas_next hlt)
set_option maxHeartbeats 1000000 in
theorem rwithout_nil (a : Option Addr) (x : Int) (w : World) : Calls Try.prog 22 #[.slice a 0 0, .int .i64 x] w (WoPost w [] x) := by
  go_enter Try.func22, Try.ntmps22
  go_wp2_with fail
  go_loopw [6] (fun i wr => i = .int .i64 0 ∧ wr = w) (fun _ _ => 0)
  case atStart => exact ⟨rfl, rfl⟩
  case round =>
    obtain ⟨rfl, rfl⟩ := hrel
    go_wp2
    go_ret2
    exact WoPost.no (by simp)
theorem rwithout_any (v : Value) (l : List Int) (x : Int) (w : World) (h : IntsB w v l) (hb : (l.length + 2) * 8 ≤ 140737488355328) : Calls Try.prog 22 #[v, .int .i64 x] w (WoPost w l x) := by
  rcases h with ⟨a, rfl, rfl⟩ | ⟨g, off, cap, rfl, hcap, hC⟩
  · exact rwithout_nil a x w
  · by_cases hx : x ∈ l
    · obtain ⟨k, hF⟩ := first_of hx
      exact rwithout_hit g off cap l x k w (cells_of hC) hcap hF hb
    · exact rwithout_miss g off cap _ l x w (cells_of hC) hx rfl (by unfold Small; omega)
/-- What Draw answers: the first number, the others in new memory, and true; or 0, nothing and false. -/
def DrPost (w : World) (l : List Int) (e : Ending) (w' : World) : Prop := ∃ u, e = .returned (.tuple #[.int .i64 (l.headD 0), u, .bool (decide (l ≠ []))]) ∧ w'.ownsRow w.heap.size 3 1 u l.tail.length (ints l.tail) ∧ w.grownBy w' none
/-- What Cut answers. -/
def cutP (l : List Int) (k : Int) : List Int × List Int × Int := if 0 ≤ k ∧ k ≤ (l.length : Int) then (l.take k.toNat, l.drop k.toNat, 0) else ([], [], 2)
def CuPost (w : World) (l : List Int) (k : Int) (e : Ending) (w' : World) : Prop := ∃ u v, e = .returned (.tuple #[u, v, .int .i64 (cutP l k).2.2]) ∧ (∃ m, w.heap.size ≤ m ∧ m ≤ w'.heap.size ∧ (∀ b, u.ownBlock = some b → b < m) ∧ w'.ownsRow w.heap.size 3 1 u (cutP l k).1.length (ints (cutP l k).1) ∧ w'.ownsRow m 3 1 v (cutP l k).2.1.length (ints (cutP l k).2.1)) ∧ w.grownBy w' none
theorem CuPost.no {w : World} {l : List Int} {k : Int} (h : ¬ (0 ≤ k ∧ k ≤ (l.length : Int))) : CuPost w l k (.returned (.tuple #[.slice none 0 0, .slice none 0 0, .int .i64 2])) w := by
  unfold CuPost cutP
  rw [if_neg h]
  exact ⟨_, _, rfl, ⟨w.heap.size, Nat.le_refl _, Nat.le_refl _, fun b hb => by simp [Value.ownBlock] at hb, World.ownsRow_nil _ _ _ _, World.ownsRow_nil _ _ _ _⟩, grown_refl _ _⟩
theorem CuPost.yes {w w' : World} {l : List Int} {k : Nat} {u v : Value} {n1 n2 : Nat} (hk : k ≤ l.length) (h : (∃ m, w.heap.size ≤ m ∧ m ≤ w'.heap.size ∧ (∀ b, u.ownBlock = some b → b < m) ∧ w'.ownsRow w.heap.size 3 1 u n1 (ints (l.take k)) ∧ w'.ownsRow m 3 1 v n2 (ints (l.drop k))) ∧ w.grownBy w' none) : CuPost w l (k : Int) (.returned (.tuple #[u, v, .int .i64 0])) w' := by
  unfold CuPost cutP
  rw [if_pos ⟨by omega, by omega⟩]
  obtain ⟨⟨m, h1, h2, h3, h4, h5⟩, hg⟩ := h
  simp only [Int.toNat_natCast]
  exact ⟨_, _, rfl, ⟨m, h1, h2, h3, by rw [own_len h4]; exact h4, by rw [own_len h5]; exact h5⟩, hg⟩
set_option maxRecDepth 100000 in
set_option maxHeartbeats 4000000 in
theorem rcut_zero (ad : Addr) (w : World) : Calls Try.prog 23 #[.slice (some ad) 0 0, .int .i64 0] w (CuPost w [] 0) := by
  have hA : ∀ W : World, IntsA W (.slice (some ad) 0 0) [] := fun W => IntsB.a (Or.inl ⟨_, rfl, rfl⟩)
  have HD : Hid (w.grownBy w.drew none) := grown_drew _
  have CC1 := rcopied_any (.slice (some ad) 0 0) [] w.drew (hA _) (by decide)
  have hsz : w.drew.heap.size = w.heap.size := rfl
  rw [hsz] at CC1
  have CC3 : Hid (∀ W, Calls Try.prog 31 #[.slice (some ad) 0 0] W fun e w' => ∃ u, e = .returned u ∧ w'.ownsRow W.heap.size 3 1 u 0 (ints []) ∧ W.grownBy w' none) := fun W => rcopied_any (.slice (some ad) 0 0) [] W (hA _) (by decide)
  clear hA hsz
  go_enter Try.func23, Try.ntmps23
  go_upto_region 3 with fail
  go_region_with (first | (go_at_call 31; refine CC1.mono ?_; clear CC1; rintro e w1 ⟨u1, rfl, o1, g1⟩; have HO1 : Hid (w1.ownsRow w.heap.size 3 1 u1 0 (ints [])) := o1; have HG1 : Hid (w.drew.grownBy w1 none) := g1; clear o1 g1) | (go_at_call 31; refine (CC3.out _).mono ?_; rintro e w2 ⟨u2, rfl, o2, g2⟩; have HO2 : Hid (w2.ownsRow w1.heap.size 3 1 u2 0 (ints [])) := o2; have HG2 : Hid (w1.grownBy w2 none) := g2; clear o2 g2))
  all_goals (go_wp2; go_ret3; exact CuPost.yes (l := []) (k := 0) (Nat.le_refl _) (cut_fin HD.out HO1.out HG1.out HO2.out HG2.out))
set_option maxRecDepth 100000 in
set_option maxHeartbeats 4000000 in
theorem rcut_nil (w : World) : Calls Try.prog 23 #[.slice none 0 0, .int .i64 0] w (CuPost w [] 0) := by
  have hA : ∀ W : World, IntsA W (.slice none 0 0) [] := fun W => IntsB.a (Or.inl ⟨_, rfl, rfl⟩)
  have HD : Hid (w.grownBy w.drew none) := grown_drew _
  have CC1 := rcopied_any (.slice none 0 0) [] w.drew (hA _) (by decide)
  have hsz : w.drew.heap.size = w.heap.size := rfl
  rw [hsz] at CC1
  have CC3 : Hid (∀ W, Calls Try.prog 31 #[.slice none 0 0] W fun e w' => ∃ u, e = .returned u ∧ w'.ownsRow W.heap.size 3 1 u 0 (ints []) ∧ W.grownBy w' none) := fun W => rcopied_any (.slice none 0 0) [] W (hA _) (by decide)
  clear hA hsz
  go_enter Try.func23, Try.ntmps23
  go_upto_region 3 with fail
  go_region_with (first | (go_at_call 31; refine CC1.mono ?_; clear CC1; rintro e w1 ⟨u1, rfl, o1, g1⟩; have HO1 : Hid (w1.ownsRow w.heap.size 3 1 u1 0 (ints [])) := o1; have HG1 : Hid (w.drew.grownBy w1 none) := g1; clear o1 g1) | (go_at_call 31; refine (CC3.out _).mono ?_; rintro e w2 ⟨u2, rfl, o2, g2⟩; have HO2 : Hid (w2.ownsRow w1.heap.size 3 1 u2 0 (ints [])) := o2; have HG2 : Hid (w1.grownBy w2 none) := g2; clear o2 g2))
  all_goals (go_wp2; go_ret3; exact CuPost.yes (l := []) (k := 0) (Nat.le_refl _) (cut_fin HD.out HO1.out HG1.out HO2.out HG2.out))
theorem rcut_any (v : Value) (l : List Int) (k : Int) (w : World) (h : IntsB w v l) (hb : (l.length + 2) * 8 ≤ 140737488355328) : Calls Try.prog 23 #[v, .int .i64 k] w (CuPost w l k) := by
  by_cases h0 : k < 0
  · obtain ⟨a, c, rfl⟩ := h.form
    refine (rcut_low a _ c k h0 w).mono ?_
    rintro e w' ⟨rfl, rfl⟩
    exact CuPost.no (by omega)
  by_cases h1 : (l.length : Int) < k
  · obtain ⟨a, c, rfl⟩ := h.form
    refine (rcut_high a _ c k h1 w).mono ?_
    rintro e w' ⟨rfl, rfl⟩
    exact CuPost.no (by omega)
  obtain ⟨m, rfl⟩ : ∃ m : Nat, k = (m : Int) := ⟨k.toNat, by omega⟩
  rcases h with ⟨a, rfl, rfl⟩ | ⟨g, off, cap, rfl, hcap, hC⟩
  · obtain rfl : m = 0 := by simp at h1; omega
    cases a with
    | none => exact rcut_nil w
    | some ad => exact rcut_zero ad w
  · refine (rcut_some g off cap m l w (cells_of hC).ints hcap (by omega) hb).mono ?_
    rintro e w' ⟨u, v, rfl, h⟩
    exact CuPost.yes (by omega) h
theorem rdraw_any (v : Value) (l : List Int) (w : World) (h : IntsB w v l) (hb : (l.length + 2) * 8 ≤ 140737488355328) : Calls Try.prog 21 #[v] w (DrPost w l) := by
  cases l with
  | nil =>
    obtain ⟨a, c, rfl⟩ := h.form
    refine (rdraw_none a c w).mono ?_
    rintro e w' ⟨rfl, rfl⟩
    exact ⟨_, rfl, World.ownsRow_nil _ _ _ _, grown_refl _ _⟩
  | cons x l =>
    rcases h with ⟨a, rfl, h⟩ | ⟨g, off, cap, rfl, hcap, hC⟩
    · simp at h
    · refine (rdraw_some g off cap x l w (cells_of hC).ints (by simpa using hcap) (by simpa using hb)).mono ?_
      rintro e w' ⟨u, rfl, h1, h2⟩
      exact ⟨u, by simp, h1, h2⟩
set_option maxRecDepth 100000 in
set_option maxHeartbeats 4000000 in
theorem pcut_zero (ad : Addr) (w : World) : Calls Try.prog 19 #[.slice (some ad) 0 0, .int .i64 0] w (CuPost w [] 0) := by
  have hA : ∀ W : World, IntsA W (.slice (some ad) 0 0) [] := fun W => IntsB.a (Or.inl ⟨_, rfl, rfl⟩)
  have HD : Hid (w.grownBy w.drew none) := grown_drew _
  have CC1 := joined_ex (.slice (some ad) 0 0) [] w.drew (hA _) (by decide)
  have hsz : w.drew.heap.size = w.heap.size := rfl
  rw [hsz] at CC1
  have CC3 : Hid (∀ W, Calls Try.prog 30 #[.slice (some ad) 0 0, .slice none 0 0] W fun e w' => ∃ u, e = .returned u ∧ w'.ownsRow W.heap.size 3 1 u 0 (ints []) ∧ W.grownBy w' none) := fun W => joined_ex (.slice (some ad) 0 0) [] W (hA _) (by decide)
  clear hA hsz
  go_enter Try.func19, Try.ntmps19
  go_upto_region 3 with fail
  go_region_with (first | (go_at_call 30; refine CC1.mono ?_; clear CC1; rintro e w1 ⟨u1, rfl, o1, g1⟩; have HO1 : Hid (w1.ownsRow w.heap.size 3 1 u1 0 (ints [])) := o1; have HG1 : Hid (w.drew.grownBy w1 none) := g1; clear o1 g1) | (go_at_call 30; refine (CC3.out _).mono ?_; rintro e w2 ⟨u2, rfl, o2, g2⟩; have HO2 : Hid (w2.ownsRow w1.heap.size 3 1 u2 0 (ints [])) := o2; have HG2 : Hid (w1.grownBy w2 none) := g2; clear o2 g2))
  all_goals (go_wp2; go_ret3; exact CuPost.yes (l := []) (k := 0) (Nat.le_refl _) (cut_fin HD.out HO1.out HG1.out HO2.out HG2.out))
set_option maxRecDepth 100000 in
set_option maxHeartbeats 4000000 in
theorem pcut_nil (w : World) : Calls Try.prog 19 #[.slice none 0 0, .int .i64 0] w (CuPost w [] 0) := by
  have hA : ∀ W : World, IntsA W (.slice none 0 0) [] := fun W => IntsB.a (Or.inl ⟨_, rfl, rfl⟩)
  have HD : Hid (w.grownBy w.drew none) := grown_drew _
  have CC1 := joined_ex (.slice none 0 0) [] w.drew (hA _) (by decide)
  have hsz : w.drew.heap.size = w.heap.size := rfl
  rw [hsz] at CC1
  have CC3 : Hid (∀ W, Calls Try.prog 30 #[.slice none 0 0, .slice none 0 0] W fun e w' => ∃ u, e = .returned u ∧ w'.ownsRow W.heap.size 3 1 u 0 (ints []) ∧ W.grownBy w' none) := fun W => joined_ex (.slice none 0 0) [] W (hA _) (by decide)
  clear hA hsz
  go_enter Try.func19, Try.ntmps19
  go_upto_region 3 with fail
  go_region_with (first | (go_at_call 30; refine CC1.mono ?_; clear CC1; rintro e w1 ⟨u1, rfl, o1, g1⟩; have HO1 : Hid (w1.ownsRow w.heap.size 3 1 u1 0 (ints [])) := o1; have HG1 : Hid (w.drew.grownBy w1 none) := g1; clear o1 g1) | (go_at_call 30; refine (CC3.out _).mono ?_; rintro e w2 ⟨u2, rfl, o2, g2⟩; have HO2 : Hid (w2.ownsRow w1.heap.size 3 1 u2 0 (ints [])) := o2; have HG2 : Hid (w1.grownBy w2 none) := g2; clear o2 g2))
  all_goals (go_wp2; go_ret3; exact CuPost.yes (l := []) (k := 0) (Nat.le_refl _) (cut_fin HD.out HO1.out HG1.out HO2.out HG2.out))
theorem pcut_any (v : Value) (l : List Int) (k : Int) (w : World) (h : IntsB w v l) (hb : (l.length + 2) * 8 ≤ 140737488355328) : Calls Try.prog 19 #[v, .int .i64 k] w (CuPost w l k) := by
  by_cases h0 : k < 0
  · obtain ⟨a, c, rfl⟩ := h.form
    refine (pcut_low a _ c k h0 w).mono ?_
    rintro e w' ⟨rfl, rfl⟩
    exact CuPost.no (by omega)
  by_cases h1 : (l.length : Int) < k
  · obtain ⟨a, c, rfl⟩ := h.form
    refine (pcut_high a _ c k h1 w).mono ?_
    rintro e w' ⟨rfl, rfl⟩
    exact CuPost.no (by omega)
  obtain ⟨m, rfl⟩ : ∃ m : Nat, k = (m : Int) := ⟨k.toNat, by omega⟩
  rcases h with ⟨a, rfl, rfl⟩ | ⟨g, off, cap, rfl, hcap, hC⟩
  · obtain rfl : m = 0 := by simp at h1; omega
    cases a with
    | none => exact pcut_nil w
    | some ad => exact pcut_zero ad w
  · refine (pcut_some g off cap m l w (cells_of hC).ints hcap (by omega) hb).mono ?_
    rintro e w' ⟨u, v, rfl, h⟩
    exact CuPost.yes (by omega) h
theorem pdraw_any (v : Value) (l : List Int) (w : World) (h : IntsB w v l) (hb : (l.length + 2) * 8 ≤ 140737488355328) : Calls Try.prog 16 #[v] w (DrPost w l) := by
  cases l with
  | nil =>
    obtain ⟨a, c, rfl⟩ := h.form
    refine (pdraw_none a c w).mono ?_
    rintro e w' ⟨rfl, rfl⟩
    exact ⟨_, rfl, World.ownsRow_nil _ _ _ _, grown_refl _ _⟩
  | cons x l =>
    rcases h with ⟨a, rfl, h⟩ | ⟨g, off, cap, rfl, hcap, hC⟩
    · simp at h
    · refine (pdraw_some g off cap x l w (cells_of hC).ints (by simpa using hcap) (by simpa using hb)).mono ?_
      rintro e w' ⟨u, rfl, h1, h2⟩
      exact ⟨u, by simp, h1, h2⟩
end Go.Proofs.Ytjjgipklhdofhaa
