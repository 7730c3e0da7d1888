/-
  The program's Deal, of every list and every two numbers.
-/
import Derived.Test.YtjjgipklhdofhaaPlH
namespace Go.Proofs.Ytjjgipklhdofhaa
open Go.RowKit

theorem Try.info22 : (Try.prog.info? 22).map (fun i => (i.zero, i.size, i.bytes)) = some (some (.slice none 0 0), 1, 24) := by kernel_rfl
def nils (k : Nat) : List Value := List.replicate k (.slice none 0 0)
theorem made_nils (H : Nat) : (madeCells (Value.slice none 0 0).cells (H * 1)).toList = nils H := by
  rw [Nat.mul_one]
  show (madeCells #[Value.slice none 0 0] H).toList = _
  apply List.ext_getElem
  · simp [size_madeCells, nils]
  · intro i h1 h2
    simp [madeCells, nils, Nat.mod_one]
theorem nils_set {vs : List Value} {H k : Nat} (v : Value) (hk : vs.length = k) (hlt : k < H) : (vs ++ nils (H - k)).set k v = (vs ++ [v]) ++ nils (H - (k + 1)) := by
  subst hk
  rw [List.set_append_right _ _ (Nat.le_refl _), Nat.sub_self]
  have : nils (H - vs.length) = .slice none 0 0 :: nils (H - (vs.length + 1)) := by
    unfold nils
    rw [show H - vs.length = (H - (vs.length + 1)) + 1 by omega, List.replicate_succ]
  rw [this]
  simp
theorem nils_at {vs : List Value} {H k : Nat} (hk : vs.length = k) (hlt : k < H) : (vs ++ nils (H - k))[k]? = some (.slice none 0 0) := by
  subst hk
  rw [List.getElem?_append_right (Nat.le_refl _), Nat.sub_self]
  unfold nils
  rw [show H - vs.length = (H - (vs.length + 1)) + 1 by omega, List.replicate_succ]
  rfl
/-- Hands dealt so far. -/
def DlAt (w wr : World) (l : List Int) (H E k : Nat) : Prop := ∃ vs : List Value, vs.length = k ∧ wr.ownsRow w.heap.size 22 1 (.slice (some ⟨w.heap.size, 0, none⟩) H H) H (vs ++ nils (H - k)) ∧ HandsAt wr w.heap.size vs ((List.range k).map (dealH l H E)) wr.heap.size ∧ w.grownBy wr none
theorem DlAt.cell {w wr : World} {l : List Int} {H E k : Nat} (h : DlAt w wr l H E k) (hk : k < H) : wr.cell? ⟨w.heap.size, k, none⟩ = some (.slice none 0 0) ∧ wr.frozen? ⟨w.heap.size, k, none⟩ = false := by
  obtain ⟨vs, hl, ho, _, _⟩ := h
  exact ⟨by rw [World.ownsRow.cellAt ho k (by omega)]; exact nils_at hl hk, World.ownsRow.frozenAt ho k⟩
theorem own_put {w : World} {base b n1 n2 k : Nat} {v x : Value} {xs ys : List Value} (h : w.ownsRow base 3 1 v n1 xs) (k2 : w.ownsRow b 22 1 (.slice (some ⟨b, 0, none⟩) n2 n2) n2 ys) : (w.setCell ⟨b, k, none⟩ x).ownsRow base 3 1 v n1 xs := World.ownsRow.kept h (grown_set w b k x) (own_unlike h k2)
theorem DlAt.next {w U U1 : World} {l : List Int} {H E k : Nat} (h : DlAt w U l H E k) (hk : k < H) (g1 : U.grownBy U1 none) (o1 : U1.ownsRow U.heap.size 3 1 (.slice (some ⟨U.heap.size, 0, none⟩) E E) E (ints (dealH l H E k))) : DlAt w (U1.setCell ⟨w.heap.size, k, none⟩ (.slice (some ⟨U.heap.size, 0, none⟩) E E)) l H E (k + 1) := by
  obtain ⟨vs, hl, ho, hh, hg⟩ := h
  have ho1 : U1.ownsRow w.heap.size 22 1 (.slice (some ⟨w.heap.size, 0, none⟩) H H) H (vs ++ nils (H - k)) := World.ownsRow.kept ho g1 (Classical.em _)
  have hst := World.ownsRow.stored ho1 k (.slice (some ⟨U.heap.size, 0, none⟩) E E)
  rw [nils_set _ hl hk] at hst
  have hsz : (U1.setCell ⟨w.heap.size, k, none⟩ (.slice (some ⟨U.heap.size, 0, none⟩) E E)).heap.size = U1.heap.size := by simp [World.setCell]
  have hlt := (World.ownsRow.lt o1 U.heap.size rfl).2
  refine ⟨vs ++ [.slice (some ⟨U.heap.size, 0, none⟩) E E], by simp [hl], hst.1, ?_, grown_own (grown_trans hg g1) hst.2 (fun x e => by cases e; exact Nat.le_refl _)⟩
  rw [← dealAll_snoc, hsz]
  refine hh.snoc (fun i u x _ _ h9 => own_put (own_keepN h9 g1) ho1) hg.size ?_ (fun a ha => ?_) g1.size
  · rw [dealH_len]
    exact own_put o1 ho1
  · simp [Value.ownBlock] at ha
    omega
theorem DlAt.full {w U : World} {l : List Int} {H E : Nat} (h : DlAt w U l H E H) : ∃ vs, U.ownsRow w.heap.size 22 1 (.slice (some ⟨w.heap.size, 0, none⟩) H H) H vs ∧ HandsAt U w.heap.size vs (dealAll l H E) U.heap.size ∧ w.grownBy U none := by
  obtain ⟨vs, hl, ho, hh, hg⟩ := h
  rw [Nat.sub_self, show nils 0 = [] from rfl, List.append_nil] at ho
  exact ⟨vs, ho, hh, hg⟩
set_option maxHeartbeats 1000000 in
theorem pdeal_no (v : Value) (l : List Int) (h e : Int) (w : World) (hI : ∃ a c, v = .slice a l.length c) (hb : (l.length + 2) * 8 ≤ 140737488355328) (hno : ¬ dealOk l.length h e) : Calls Try.prog 20 #[v, .int .i64 h, .int .i64 e] w (DePost w l h e) := by
  obtain ⟨a, c, rfl⟩ := hI
  have C := dealable_no l.length h e w hno (by omega)
  have HN : Hid (¬ dealOk l.length h e) := hno
  clear hb hno
  go_enter Try.func20, Try.ntmps20
  go_wp2_with fail
  refine C.mono ?_
  rintro r W ⟨rfl, h1⟩
  obtain rfl : w = W := h1.symm
  clear C h1
  go_wp2
  go_ret3
  exact DePost.no HN.out
set_option maxRecDepth 100000 in
set_option maxHeartbeats 4000000 in
theorem pdeal_plain (g off cap n K : Nat) (l : List Int) (H E : Nat) (w : World) (h1 : 1 ≤ H) (h2 : H ≤ 64) (h3 : E * H ≤ l.length) (hn : l.length = n) (hb : (n + 2) * 8 ≤ 140737488355328) (hK0 : K = H * E) (e1 : ¬ (cap = K)) (k1 : (K : Int) ≤ (n : Int)) (k3 : (n : Int) ≤ 17592186044416)
    (HH0 : ∀ (h : Nat) W, h < H → w.grownBy W none → Calls Try.prog 35 #[.slice (some ⟨g, off, none⟩) n cap, .int .i64 (h : Int), .int .i64 (H : Int), .int .i64 (E : Int)] W fun e w' => e = .returned (.slice (some ⟨W.heap.size, 0, none⟩) E E) ∧ w'.ownsRow W.heap.size 3 1 (.slice (some ⟨W.heap.size, 0, none⟩) E E) E (ints (dealH l H E h)) ∧ W.grownBy w' none)
    (CR0 : ∀ W, w.grownBy W none → Calls Try.prog 30 #[.slice (some ⟨g, off + K, none⟩) (n - K) (cap - K), .slice none 0 0] W fun e w' => ∃ u, e = .returned u ∧ w'.ownsRow W.heap.size 3 1 u (n - K) (ints (l.drop (H * E))) ∧ W.grownBy w' none) : Calls Try.prog 20 #[.slice (some ⟨g, off, none⟩) n cap, .int .i64 (H : Int), .int .i64 (E : Int)] w (DePost w l (H : Int) (E : Int)) := by
  obtain ⟨i0, hi, hz0, hz1, hz2⟩ := info_parts Try.info22
  have HK : Hid (K = H * E) := hK0
  clear hK0
  have HH := HH0
  have CR : Hid (∀ W, w.grownBy W none → Calls Try.prog 30 #[.slice (some ⟨g, off + K, none⟩) (n - K) (cap - K), .slice none 0 0] W fun e w' => ∃ u, e = .returned u ∧ w'.ownsRow W.heap.size 3 1 u (n - K) (ints (l.drop (H * E))) ∧ W.grownBy w' none) := CR0
  have C := dealable_yes l.length H (E : Int) w h1 h2 (by omega) (by rw [← Int.natCast_mul]; exact Int.ofNat_le.2 h3) (by omega)
  rw [hn] at C
  have HX : Hid (1 ≤ H ∧ H ≤ 64 ∧ E * H ≤ l.length) := ⟨h1, h2, h3⟩
  have Hbb : Hid (i0.bytes * H ≤ 281474976710656) := by show i0.bytes * H ≤ _; rw [hz2]; omega
  have Hbm : Hid (H ≤ maxLen) := by show H ≤ maxLen; unfold maxLen; omega
  have hH9 : (H : Int) ≤ 64 := by omega
  have hm : Small H := by unfold Small; omega
  clear h3 hn hb HH0 CR0
  have HHid : Hid (∀ (h : Nat) W, h < H → w.grownBy W none → Calls Try.prog 35 #[.slice (some ⟨g, off, none⟩) n cap, .int .i64 (h : Int), .int .i64 (H : Int), .int .i64 (E : Int)] W fun e w' => e = .returned (.slice (some ⟨W.heap.size, 0, none⟩) E E) ∧ w'.ownsRow W.heap.size 3 1 (.slice (some ⟨W.heap.size, 0, none⟩) E E) E (ints (dealH l H E h)) ∧ W.grownBy w' none) := HH
  clear HH
  go_enter Try.func20, Try.ntmps20
  go_wp2_with fail
  refine C.mono ?_
  rintro r W ⟨rfl, h9⟩
  obtain rfl : w = W := h9.symm
  clear C h9
  go_wp2_with (first | (at_make; refine wpList_make_full _ rfl _ _ 32 rfl w.heap.size 22 i0 _ 1 Try.underlying32 hi hz0 hz1 .i64 .i64 _ _ H rfl rfl rfl rfl Hbb.out Hbm.out (Nat.le_refl _) ?_; intro V o1 gv; rw [made_nils] at o1; have HV : Hid (DlAt w V l H E 0) := ⟨[], rfl, o1, HandsAt.nil _ _ _, gv⟩; clear o1 gv) | fail)
  go_loopw [21] (fun i wr => ∃ k : Nat, k ≤ H ∧ i = .int .i64 (k : Int) ∧ DlAt w wr l H E k) (fun i _ => H - (intOf i).toNat)
  case atStart => exact ⟨0, Nat.zero_le _, rfl, HV.out⟩
  case round =>
    clear HV
    obtain ⟨k, hk, rfl, O⟩ := hrel
    obtain ⟨U, hU⟩ : ∃ U, U = wr := ⟨_, rfl⟩
    subst hU
    by_cases hlt : k < H
    · have hlt' : (k : Int) < (H : Int) := by omega
      have CH := HHid.out k U hlt (by obtain ⟨_, _, _, _, h9⟩ := O; exact h9)
      have HO : Hid (DlAt w U l H E k) := O
      clear O
      go_wp2_with fail
      refine CH.mono ?_
      rintro e U1 ⟨rfl, o1, g1⟩
      have c1 : U1.cell? ⟨w.heap.size, k, none⟩ = some (.slice none 0 0) := g1.cell (HO.out.cell hlt).1 (by simp)
      have f1 : U1.frozen? ⟨w.heap.size, k, none⟩ = false := (World.frozen?_of_block (g1.block w.heap.size (World.block_lt_of_cell? _ _ (HO.out.cell hlt).1) (by simp))).trans (HO.out.cell hlt).2
      have HN : Hid (DlAt w (U1.setCell ⟨w.heap.size, k, none⟩ (.slice (some ⟨U.heap.size, 0, none⟩) E E)) l H E (k + 1)) := HO.out.next hlt g1 o1
      obtain ⟨q, hq⟩ : ∃ q, q = U.heap.size := ⟨_, rfl⟩
      rw [← hq] at HN ⊢
      clear CH o1 g1 HO hq
      go_wp2
      go_roundw
      case rel => exact ⟨k + 1, hlt, by first | rfl | (rw [hm.wrap hlt]; rfl), HN.out⟩
      case measure => first | exact meas_next hlt | (rw [hm.wrap hlt]; exact meas_next hlt)
    · have hlt' : ¬ (k : Int) < (H : Int) := by omega
      obtain rfl : k = H := by omega
      have HO : Hid (DlAt w U l k E k) := O
      have CC := CR.out U (by obtain ⟨_, _, _, _, h9⟩ := O; exact h9)
      clear O CR HHid
      have HKw : (k : Int) * (E : Int) = (K : Int) := by rw [HK.out, Int.natCast_mul]
      go_wp2_with fail
      refine CC.mono ?_
      rintro e U1 ⟨u, rfl, o1, g1⟩
      have HF : Hid (U1.ownsRow U.heap.size 3 1 u (n - K) (ints (l.drop (k * E))) ∧ U.grownBy U1 none) := ⟨o1, g1⟩
      clear o1 g1 CC
      go_wp2
      go_ret3
      obtain ⟨vs, ho, hh, hg⟩ := HO.out.full
      exact DePost.yes (E := E) HX.out.1 HX.out.2.1 HX.out.2.2 (World.ownsRow.kept ho HF.out.2 (Classical.em _)) (hh.keep HF.out.2) hg.size HF.out.2.size HF.out.1 (grown_trans hg HF.out.2)
set_option maxRecDepth 100000 in
set_option maxHeartbeats 4000000 in
theorem pdeal_full (g off n : Nat) (l : List Int) (H E : Nat) (w : World) (h1 : 1 ≤ H) (h2 : H ≤ 64) (h3 : E * H ≤ l.length) (hn : l.length = n) (hb : (n + 2) * 8 ≤ 140737488355328) (hK0 : n = H * E) (k3 : (n : Int) ≤ 17592186044416)
    (HH0 : ∀ (h : Nat) W, h < H → w.grownBy W none → Calls Try.prog 35 #[.slice (some ⟨g, off, none⟩) n n, .int .i64 (h : Int), .int .i64 (H : Int), .int .i64 (E : Int)] W fun e w' => e = .returned (.slice (some ⟨W.heap.size, 0, none⟩) E E) ∧ w'.ownsRow W.heap.size 3 1 (.slice (some ⟨W.heap.size, 0, none⟩) E E) E (ints (dealH l H E h)) ∧ W.grownBy w' none)
    (CR0 : ∀ W, w.grownBy W none → Calls Try.prog 30 #[.slice (some ⟨g, off, none⟩) 0 0, .slice none 0 0] W fun e w' => ∃ u, e = .returned u ∧ w'.ownsRow W.heap.size 3 1 u 0 (ints (l.drop (H * E))) ∧ W.grownBy w' none) : Calls Try.prog 20 #[.slice (some ⟨g, off, none⟩) n n, .int .i64 (H : Int), .int .i64 (E : Int)] w (DePost w l (H : Int) (E : Int)) := by
  obtain ⟨i0, hi, hz0, hz1, hz2⟩ := info_parts Try.info22
  have HK : Hid (n = H * E) := hK0
  clear hK0
  have HH := HH0
  have CR : Hid (∀ W, w.grownBy W none → Calls Try.prog 30 #[.slice (some ⟨g, off, none⟩) 0 0, .slice none 0 0] W fun e w' => ∃ u, e = .returned u ∧ w'.ownsRow W.heap.size 3 1 u 0 (ints (l.drop (H * E))) ∧ W.grownBy w' none) := CR0
  have C := dealable_yes l.length H (E : Int) w h1 h2 (by omega) (by rw [← Int.natCast_mul]; exact Int.ofNat_le.2 h3) (by omega)
  rw [hn] at C
  have HX : Hid (1 ≤ H ∧ H ≤ 64 ∧ E * H ≤ l.length) := ⟨h1, h2, h3⟩
  have Hbb : Hid (i0.bytes * H ≤ 281474976710656) := by show i0.bytes * H ≤ _; rw [hz2]; omega
  have Hbm : Hid (H ≤ maxLen) := by show H ≤ maxLen; unfold maxLen; omega
  have hH9 : (H : Int) ≤ 64 := by omega
  have hm : Small H := by unfold Small; omega
  clear h3 hn hb HH0 CR0
  have HHid : Hid (∀ (h : Nat) W, h < H → w.grownBy W none → Calls Try.prog 35 #[.slice (some ⟨g, off, none⟩) n n, .int .i64 (h : Int), .int .i64 (H : Int), .int .i64 (E : Int)] W fun e w' => e = .returned (.slice (some ⟨W.heap.size, 0, none⟩) E E) ∧ w'.ownsRow W.heap.size 3 1 (.slice (some ⟨W.heap.size, 0, none⟩) E E) E (ints (dealH l H E h)) ∧ W.grownBy w' none) := HH
  clear HH
  go_enter Try.func20, Try.ntmps20
  go_wp2_with fail
  refine C.mono ?_
  rintro r W ⟨rfl, h9⟩
  obtain rfl : w = W := h9.symm
  clear C h9
  go_wp2_with (first | (at_make; refine wpList_make_full _ rfl _ _ 32 rfl w.heap.size 22 i0 _ 1 Try.underlying32 hi hz0 hz1 .i64 .i64 _ _ H rfl rfl rfl rfl Hbb.out Hbm.out (Nat.le_refl _) ?_; intro V o1 gv; rw [made_nils] at o1; have HV : Hid (DlAt w V l H E 0) := ⟨[], rfl, o1, HandsAt.nil _ _ _, gv⟩; clear o1 gv) | fail)
  go_loopw [21] (fun i wr => ∃ k : Nat, k ≤ H ∧ i = .int .i64 (k : Int) ∧ DlAt w wr l H E k) (fun i _ => H - (intOf i).toNat)
  case atStart => exact ⟨0, Nat.zero_le _, rfl, HV.out⟩
  case round =>
    clear HV
    obtain ⟨k, hk, rfl, O⟩ := hrel
    obtain ⟨U, hU⟩ : ∃ U, U = wr := ⟨_, rfl⟩
    subst hU
    by_cases hlt : k < H
    · have hlt' : (k : Int) < (H : Int) := by omega
      have CH := HHid.out k U hlt (by obtain ⟨_, _, _, _, h9⟩ := O; exact h9)
      have HO : Hid (DlAt w U l H E k) := O
      clear O
      go_wp2_with fail
      refine CH.mono ?_
      rintro e U1 ⟨rfl, o1, g1⟩
      have c1 : U1.cell? ⟨w.heap.size, k, none⟩ = some (.slice none 0 0) := g1.cell (HO.out.cell hlt).1 (by simp)
      have f1 : U1.frozen? ⟨w.heap.size, k, none⟩ = false := (World.frozen?_of_block (g1.block w.heap.size (World.block_lt_of_cell? _ _ (HO.out.cell hlt).1) (by simp))).trans (HO.out.cell hlt).2
      have HN : Hid (DlAt w (U1.setCell ⟨w.heap.size, k, none⟩ (.slice (some ⟨U.heap.size, 0, none⟩) E E)) l H E (k + 1)) := HO.out.next hlt g1 o1
      obtain ⟨q, hq⟩ : ∃ q, q = U.heap.size := ⟨_, rfl⟩
      rw [← hq] at HN ⊢
      clear CH o1 g1 HO hq
      go_wp2
      go_roundw
      case rel => exact ⟨k + 1, hlt, by first | rfl | (rw [hm.wrap hlt]; rfl), HN.out⟩
      case measure => first | exact meas_next hlt | (rw [hm.wrap hlt]; exact meas_next hlt)
    · have hlt' : ¬ (k : Int) < (H : Int) := by omega
      obtain rfl : k = H := by omega
      have HO : Hid (DlAt w U l k E k) := O
      have CC := CR.out U (by obtain ⟨_, _, _, _, h9⟩ := O; exact h9)
      clear O CR HHid
      have HKw : (k : Int) * (E : Int) = (n : Int) := by rw [HK.out, Int.natCast_mul]
      go_wp2_with fail
      refine CC.mono ?_
      rintro e U1 ⟨u, rfl, o1, g1⟩
      have HF : Hid (U1.ownsRow U.heap.size 3 1 u 0 (ints (l.drop (k * E))) ∧ U.grownBy U1 none) := ⟨o1, g1⟩
      clear o1 g1 CC
      go_wp2
      go_ret3
      obtain ⟨vs, ho, hh, hg⟩ := HO.out.full
      exact DePost.yes (E := E) HX.out.1 HX.out.2.1 HX.out.2.2 (World.ownsRow.kept ho HF.out.2 (Classical.em _)) (hh.keep HF.out.2) hg.size HF.out.2.size HF.out.1 (grown_trans hg HF.out.2)
set_option maxRecDepth 100000 in
set_option maxHeartbeats 4000000 in
theorem pdeal_none (l : List Int) (H : Nat) (w : World) (h1 : 1 ≤ H) (h2 : H ≤ 64) (h3 : 0 * H ≤ l.length) (hn : l.length = 0)
    (HH0 : ∀ (h : Nat) W, h < H → w.grownBy W none → Calls Try.prog 35 #[.slice none 0 0, .int .i64 (h : Int), .int .i64 (H : Int), .int .i64 0] W fun e w' => e = .returned (.slice (some ⟨W.heap.size, 0, none⟩) 0 0) ∧ w'.ownsRow W.heap.size 3 1 (.slice (some ⟨W.heap.size, 0, none⟩) 0 0) 0 (ints (dealH l H 0 h)) ∧ W.grownBy w' none)
    (CR0 : ∀ W, w.grownBy W none → Calls Try.prog 30 #[.slice none 0 0, .slice none 0 0] W fun e w' => ∃ u, e = .returned u ∧ w'.ownsRow W.heap.size 3 1 u 0 (ints (l.drop (H * 0))) ∧ W.grownBy w' none) : Calls Try.prog 20 #[.slice none 0 0, .int .i64 (H : Int), .int .i64 0] w (DePost w l (H : Int) 0) := by
  obtain ⟨i0, hi, hz0, hz1, hz2⟩ := info_parts Try.info22
  have HH := HH0
  have CR : Hid (∀ W, w.grownBy W none → Calls Try.prog 30 #[.slice none 0 0, .slice none 0 0] W fun e w' => ∃ u, e = .returned u ∧ w'.ownsRow W.heap.size 3 1 u 0 (ints (l.drop (H * 0))) ∧ W.grownBy w' none) := CR0
  have C := dealable_yes l.length H 0 w h1 h2 (by omega) (by simp) (by omega)
  rw [hn] at C
  have HX : Hid (1 ≤ H ∧ H ≤ 64 ∧ 0 * H ≤ l.length) := ⟨h1, h2, h3⟩
  have Hbb : Hid (i0.bytes * H ≤ 281474976710656) := by show i0.bytes * H ≤ _; rw [hz2]; omega
  have Hbm : Hid (H ≤ maxLen) := by show H ≤ maxLen; unfold maxLen; omega
  have hH9 : (H : Int) ≤ 64 := by omega
  have hm : Small H := by unfold Small; omega
  clear h3 hn HH0 CR0
  have HHid : Hid (∀ (h : Nat) W, h < H → w.grownBy W none → Calls Try.prog 35 #[.slice none 0 0, .int .i64 (h : Int), .int .i64 (H : Int), .int .i64 0] W fun e w' => e = .returned (.slice (some ⟨W.heap.size, 0, none⟩) 0 0) ∧ w'.ownsRow W.heap.size 3 1 (.slice (some ⟨W.heap.size, 0, none⟩) 0 0) 0 (ints (dealH l H 0 h)) ∧ W.grownBy w' none) := HH
  clear HH
  go_enter Try.func20, Try.ntmps20
  go_wp2_with fail
  refine C.mono ?_
  rintro r W ⟨rfl, h9⟩
  obtain rfl : w = W := h9.symm
  clear C h9
  go_wp2_with (first | (at_make; refine wpList_make_full _ rfl _ _ 32 rfl w.heap.size 22 i0 _ 1 Try.underlying32 hi hz0 hz1 .i64 .i64 _ _ H rfl rfl rfl rfl Hbb.out Hbm.out (Nat.le_refl _) ?_; intro V o1 gv; rw [made_nils] at o1; have HV : Hid (DlAt w V l H 0 0) := ⟨[], rfl, o1, HandsAt.nil _ _ _, gv⟩; clear o1 gv) | fail)
  go_loopw [21] (fun i wr => ∃ k : Nat, k ≤ H ∧ i = .int .i64 (k : Int) ∧ DlAt w wr l H 0 k) (fun i _ => H - (intOf i).toNat)
  case atStart => exact ⟨0, Nat.zero_le _, rfl, HV.out⟩
  case round =>
    clear HV
    obtain ⟨k, hk, rfl, O⟩ := hrel
    obtain ⟨U, hU⟩ : ∃ U, U = wr := ⟨_, rfl⟩
    subst hU
    by_cases hlt : k < H
    · have hlt' : (k : Int) < (H : Int) := by omega
      have CH := HHid.out k U hlt (by obtain ⟨_, _, _, _, h9⟩ := O; exact h9)
      have HO : Hid (DlAt w U l H 0 k) := O
      clear O
      go_wp2_with fail
      refine CH.mono ?_
      rintro e U1 ⟨rfl, o1, g1⟩
      have c1 : U1.cell? ⟨w.heap.size, k, none⟩ = some (.slice none 0 0) := g1.cell (HO.out.cell hlt).1 (by simp)
      have f1 : U1.frozen? ⟨w.heap.size, k, none⟩ = false := (World.frozen?_of_block (g1.block w.heap.size (World.block_lt_of_cell? _ _ (HO.out.cell hlt).1) (by simp))).trans (HO.out.cell hlt).2
      have HN : Hid (DlAt w (U1.setCell ⟨w.heap.size, k, none⟩ (.slice (some ⟨U.heap.size, 0, none⟩) 0 0)) l H 0 (k + 1)) := HO.out.next hlt g1 o1
      obtain ⟨q, hq⟩ : ∃ q, q = U.heap.size := ⟨_, rfl⟩
      rw [← hq] at HN ⊢
      clear CH o1 g1 HO hq
      go_wp2
      go_roundw
      case rel => exact ⟨k + 1, hlt, by first | rfl | (rw [hm.wrap hlt]; rfl), HN.out⟩
      case measure => first | exact meas_next hlt | (rw [hm.wrap hlt]; exact meas_next hlt)
    · have hlt' : ¬ (k : Int) < (H : Int) := by omega
      obtain rfl : k = H := by omega
      have HO : Hid (DlAt w U l k 0 k) := O
      have CC := CR.out U (by obtain ⟨_, _, _, _, h9⟩ := O; exact h9)
      clear O CR HHid
      go_wp2_with fail
      refine CC.mono ?_
      rintro e U1 ⟨u, rfl, o1, g1⟩
      have HF : Hid (U1.ownsRow U.heap.size 3 1 u 0 (ints (l.drop (k * 0))) ∧ U.grownBy U1 none) := ⟨o1, g1⟩
      clear o1 g1 CC
      go_wp2
      go_ret3
      obtain ⟨vs, ho, hh, hg⟩ := HO.out.full
      exact DePost.yes (E := 0) HX.out.1 HX.out.2.1 HX.out.2.2 (World.ownsRow.kept ho HF.out.2 (Classical.em _)) (hh.keep HF.out.2) hg.size HF.out.2.size HF.out.1 (grown_trans hg HF.out.2)
set_option maxRecDepth 100000 in
set_option maxHeartbeats 4000000 in
theorem pdeal_some (ad : Addr) (l : List Int) (H : Nat) (w : World) (h1 : 1 ≤ H) (h2 : H ≤ 64) (h3 : 0 * H ≤ l.length) (hn : l.length = 0)
    (HH0 : ∀ (h : Nat) W, h < H → w.grownBy W none → Calls Try.prog 35 #[.slice (some ad) 0 0, .int .i64 (h : Int), .int .i64 (H : Int), .int .i64 0] W fun e w' => e = .returned (.slice (some ⟨W.heap.size, 0, none⟩) 0 0) ∧ w'.ownsRow W.heap.size 3 1 (.slice (some ⟨W.heap.size, 0, none⟩) 0 0) 0 (ints (dealH l H 0 h)) ∧ W.grownBy w' none)
    (CR0 : ∀ W, w.grownBy W none → Calls Try.prog 30 #[.slice (some ad) 0 0, .slice none 0 0] W fun e w' => ∃ u, e = .returned u ∧ w'.ownsRow W.heap.size 3 1 u 0 (ints (l.drop (H * 0))) ∧ W.grownBy w' none) : Calls Try.prog 20 #[.slice (some ad) 0 0, .int .i64 (H : Int), .int .i64 0] w (DePost w l (H : Int) 0) := by
  obtain ⟨i0, hi, hz0, hz1, hz2⟩ := info_parts Try.info22
  have HH := HH0
  have CR : Hid (∀ W, w.grownBy W none → Calls Try.prog 30 #[.slice (some ad) 0 0, .slice none 0 0] W fun e w' => ∃ u, e = .returned u ∧ w'.ownsRow W.heap.size 3 1 u 0 (ints (l.drop (H * 0))) ∧ W.grownBy w' none) := CR0
  have C := dealable_yes l.length H 0 w h1 h2 (by omega) (by simp) (by omega)
  rw [hn] at C
  have HX : Hid (1 ≤ H ∧ H ≤ 64 ∧ 0 * H ≤ l.length) := ⟨h1, h2, h3⟩
  have Hbb : Hid (i0.bytes * H ≤ 281474976710656) := by show i0.bytes * H ≤ _; rw [hz2]; omega
  have Hbm : Hid (H ≤ maxLen) := by show H ≤ maxLen; unfold maxLen; omega
  have hH9 : (H : Int) ≤ 64 := by omega
  have hm : Small H := by unfold Small; omega
  clear h3 hn HH0 CR0
  have HHid : Hid (∀ (h : Nat) W, h < H → w.grownBy W none → Calls Try.prog 35 #[.slice (some ad) 0 0, .int .i64 (h : Int), .int .i64 (H : Int), .int .i64 0] W fun e w' => e = .returned (.slice (some ⟨W.heap.size, 0, none⟩) 0 0) ∧ w'.ownsRow W.heap.size 3 1 (.slice (some ⟨W.heap.size, 0, none⟩) 0 0) 0 (ints (dealH l H 0 h)) ∧ W.grownBy w' none) := HH
  clear HH
  go_enter Try.func20, Try.ntmps20
  go_wp2_with fail
  refine C.mono ?_
  rintro r W ⟨rfl, h9⟩
  obtain rfl : w = W := h9.symm
  clear C h9
  go_wp2_with (first | (at_make; refine wpList_make_full _ rfl _ _ 32 rfl w.heap.size 22 i0 _ 1 Try.underlying32 hi hz0 hz1 .i64 .i64 _ _ H rfl rfl rfl rfl Hbb.out Hbm.out (Nat.le_refl _) ?_; intro V o1 gv; rw [made_nils] at o1; have HV : Hid (DlAt w V l H 0 0) := ⟨[], rfl, o1, HandsAt.nil _ _ _, gv⟩; clear o1 gv) | fail)
  go_loopw [21] (fun i wr => ∃ k : Nat, k ≤ H ∧ i = .int .i64 (k : Int) ∧ DlAt w wr l H 0 k) (fun i _ => H - (intOf i).toNat)
  case atStart => exact ⟨0, Nat.zero_le _, rfl, HV.out⟩
  case round =>
    clear HV
    obtain ⟨k, hk, rfl, O⟩ := hrel
    obtain ⟨U, hU⟩ : ∃ U, U = wr := ⟨_, rfl⟩
    subst hU
    by_cases hlt : k < H
    · have hlt' : (k : Int) < (H : Int) := by omega
      have CH := HHid.out k U hlt (by obtain ⟨_, _, _, _, h9⟩ := O; exact h9)
      have HO : Hid (DlAt w U l H 0 k) := O
      clear O
      go_wp2_with fail
      refine CH.mono ?_
      rintro e U1 ⟨rfl, o1, g1⟩
      have c1 : U1.cell? ⟨w.heap.size, k, none⟩ = some (.slice none 0 0) := g1.cell (HO.out.cell hlt).1 (by simp)
      have f1 : U1.frozen? ⟨w.heap.size, k, none⟩ = false := (World.frozen?_of_block (g1.block w.heap.size (World.block_lt_of_cell? _ _ (HO.out.cell hlt).1) (by simp))).trans (HO.out.cell hlt).2
      have HN : Hid (DlAt w (U1.setCell ⟨w.heap.size, k, none⟩ (.slice (some ⟨U.heap.size, 0, none⟩) 0 0)) l H 0 (k + 1)) := HO.out.next hlt g1 o1
      obtain ⟨q, hq⟩ : ∃ q, q = U.heap.size := ⟨_, rfl⟩
      rw [← hq] at HN ⊢
      clear CH o1 g1 HO hq
      go_wp2
      go_roundw
      case rel => exact ⟨k + 1, hlt, by first | rfl | (rw [hm.wrap hlt]; rfl), HN.out⟩
      case measure => first | exact meas_next hlt | (rw [hm.wrap hlt]; exact meas_next hlt)
    · have hlt' : ¬ (k : Int) < (H : Int) := by omega
      obtain rfl : k = H := by omega
      have HO : Hid (DlAt w U l k 0 k) := O
      have CC := CR.out U (by obtain ⟨_, _, _, _, h9⟩ := O; exact h9)
      clear O CR HHid
      go_wp2_with fail
      refine CC.mono ?_
      rintro e U1 ⟨u, rfl, o1, g1⟩
      have HF : Hid (U1.ownsRow U.heap.size 3 1 u 0 (ints (l.drop (k * 0))) ∧ U.grownBy U1 none) := ⟨o1, g1⟩
      clear o1 g1 CC
      go_wp2
      go_ret3
      obtain ⟨vs, ho, hh, hg⟩ := HO.out.full
      exact DePost.yes (E := 0) HX.out.1 HX.out.2.1 HX.out.2.2 (World.ownsRow.kept ho HF.out.2 (Classical.em _)) (hh.keep HF.out.2) hg.size HF.out.2.size HF.out.1 (grown_trans hg HF.out.2)
end Go.Proofs.Ytjjgipklhdofhaa
