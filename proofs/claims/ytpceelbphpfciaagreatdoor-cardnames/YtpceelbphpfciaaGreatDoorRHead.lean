/-
  readHead: the words of a card's text ahead of its parts, read.
-/
import Derived.Test.YtpceelbphpfciaaGreatDoorCFar2
import Derived.Test.YtpceelbphpfciaaGreatDoorRead
import Derived.Maps.RangeWalk
import Derived.Deep.CutRange
namespace Go.Proofs.YtpceelbphpfciaaGreatDoor
open Go.RowKit

def nilS : Value := .slice none 0 0
/-- What the words have made. -/
def hE (o : Option Cd) (e : Ending) : Prop := match o with
  | some d => e = .returned (.tuple #[cv d.hd (.slice none 0 0), .bool true]) ∧ d.ps = []
  | none => ∃ h, e = .returned (.tuple #[cv h (.slice none 0 0), .bool false])
theorem readH_short {l : List (List UInt8)} (h : l.length < 4) : readH l = none := by
  match l, h with
  | [], _ => rfl
  | [_], _ => rfl
  | [_, _], _ => rfl
  | [_, _, _], _ => rfl
set_option maxHeartbeats 2000000 in
set_option maxRecDepth 100000 in
theorem rhead_short (p : Option Addr) (c n : Nat) (h : n < 4) (w : World) : Calls Tryz.prog 97 #[.slice p n c] w fun e w' => e = .returned (.tuple #[cv Hd.none (.slice none 0 0), .bool false]) ∧ w.grownBy w' none := by
  have hlt : (n : Int) < 4 := by omega
  clear h
  go_enter Tryz.func97, Tryz.ntmps97
  go_wp2
  refine bodyPost_ret (v := .tuple #[.agg #[.string ⟨#[]⟩, .int .u8 0, .int .u8 0, .int .i64 0, .int .i64 0, .int .i64 0, .int .u16 0, .bool false, .slice none 0 0], .bool false]) (by simp [results, Tryz.results97, go_sem]) rfl ⟨?_, ?_⟩
  · rfl
  · exact World.grownBy_alloc _ _ _
def H02 (b : Nat) (x0 x2 : ByteArray) (w : World) : Prop := w.cell? ⟨b, 0, none⟩ = some (.string x0) ∧ w.cell? ⟨b, 2, none⟩ = some (.string x2)
/-- The card and whether all went well so far. -/
def LR (o : Option Cd) (b : Bool) (q : Nat) (w : World) : Prop := match o with
  | some d => b = true ∧ d.ps = [] ∧ CAt w q d.hd (.slice none 0 0)
  | none => b = false ∧ ∃ h, CAt w q h (.slice none 0 0)
def farO (o : Option Cd) (l : List (List UInt8)) : Option Cd := match o with
  | some c => far l c
  | none => none
theorem farO_snoc (o : Option Cd) (l : List (List UInt8)) (x : List UInt8) : farO o (l ++ [x]) = match farO o l with
    | some d => far1 x d
    | none => none := by
  cases o with
  | none => rfl
  | some c =>
    simp only [farO]
    induction l generalizing c with
    | nil =>
      simp only [List.nil_append, far]
      cases far1 x c <;> rfl
    | cons y l ih =>
      simp only [List.cons_append, far]
      cases far1 y c with
      | none => rfl
      | some d => exact ih d
theorem far1_ps {x : List UInt8} {c d : Cd} (h : far1 x c = some d) : d.ps = c.ps := by
  unfold far1 at h
  split at h
  · obtain rfl := Option.some.inj h; rfl
  · split at h
    · split at h
      · cases h
      · obtain rfl := Option.some.inj h; rfl
    · split at h
      · obtain rfl := Option.some.inj h; rfl
      · cases h
theorem hd_nil {d : Cd} (h : d.ps = []) : d.hd.with [] = d := by
  cases d
  simp only at h
  subst h
  rfl
def head0 (x0 x1 x2 x3 : List UInt8) : Option Cd := if idx suitW x1 = 0 then none else match Lib.atoiAll x3 with
  | .ok v => some { Cd.none with nm := ⟨x0.toArray⟩, su := idx suitW x1, kd := idx kindW x2, co := v }
  | _ => none
theorem readH_is (x0 x1 x2 x3 : List UInt8) (r : List (List UInt8)) : readH (x0 :: x1 :: x2 :: x3 :: r) = farO (head0 x0 x1 x2 x3) r := by
  unfold readH head0 farO
  by_cases h : idx suitW x1 = 0
  · simp [h]
  · simp only [h, if_false]
    cases Lib.atoiAll x3 <;> rfl
theorem CAt.st9 {w : World} {s : Nat} {h0 h : Hd} {v0 v : Value} (k : CAt w s h0 v0) : CAt (((((((((w.setCell ⟨s, 0, none⟩ (.string h.nm)).setCell ⟨s, 1, none⟩ (.int .u8 h.su)).setCell ⟨s, 2, none⟩ (.int .u8 h.kd)).setCell ⟨s, 3, none⟩ (.int .i64 h.co)).setCell ⟨s, 4, none⟩ (.int .i64 h.po)).setCell ⟨s, 5, none⟩ (.int .i64 h.he)).setCell ⟨s, 6, none⟩ (.int .u16 h.tr)).setCell ⟨s, 7, none⟩ (.bool h.tk)).setCell ⟨s, 8, none⟩ v) s h v := by
  have k0 : w.heap[s]? = some (.cells #[(.string h0.nm), (.int .u8 h0.su), (.int .u8 h0.kd), (.int .i64 h0.co), (.int .i64 h0.po), (.int .i64 h0.he), (.int .u16 h0.tr), (.bool h0.tk), v0] 40 (0, 0)) := k
  clear k
  obtain ⟨w1, e1⟩ : ∃ x, x = w.setCell ⟨s, 0, none⟩ (.string h.nm) := ⟨_, rfl⟩
  have k1 : w1.heap[s]? = some (.cells #[(.string h.nm), (.int .u8 h0.su), (.int .u8 h0.kd), (.int .i64 h0.co), (.int .i64 h0.po), (.int .i64 h0.he), (.int .u16 h0.tr), (.bool h0.tk), v0] 40 (0, 0)) := by rw [e1]; exact block_set k0 0 _
  rw [← e1]
  clear k0 e1
  obtain ⟨w2, e2⟩ : ∃ x, x = w1.setCell ⟨s, 1, none⟩ (.int .u8 h.su) := ⟨_, rfl⟩
  have k2 : w2.heap[s]? = some (.cells #[(.string h.nm), (.int .u8 h.su), (.int .u8 h0.kd), (.int .i64 h0.co), (.int .i64 h0.po), (.int .i64 h0.he), (.int .u16 h0.tr), (.bool h0.tk), v0] 40 (0, 0)) := by rw [e2]; exact block_set k1 1 _
  rw [← e2]
  clear k1 e2
  obtain ⟨w3, e3⟩ : ∃ x, x = w2.setCell ⟨s, 2, none⟩ (.int .u8 h.kd) := ⟨_, rfl⟩
  have k3 : w3.heap[s]? = some (.cells #[(.string h.nm), (.int .u8 h.su), (.int .u8 h.kd), (.int .i64 h0.co), (.int .i64 h0.po), (.int .i64 h0.he), (.int .u16 h0.tr), (.bool h0.tk), v0] 40 (0, 0)) := by rw [e3]; exact block_set k2 2 _
  rw [← e3]
  clear k2 e3
  obtain ⟨w4, e4⟩ : ∃ x, x = w3.setCell ⟨s, 3, none⟩ (.int .i64 h.co) := ⟨_, rfl⟩
  have k4 : w4.heap[s]? = some (.cells #[(.string h.nm), (.int .u8 h.su), (.int .u8 h.kd), (.int .i64 h.co), (.int .i64 h0.po), (.int .i64 h0.he), (.int .u16 h0.tr), (.bool h0.tk), v0] 40 (0, 0)) := by rw [e4]; exact block_set k3 3 _
  rw [← e4]
  clear k3 e4
  obtain ⟨w5, e5⟩ : ∃ x, x = w4.setCell ⟨s, 4, none⟩ (.int .i64 h.po) := ⟨_, rfl⟩
  have k5 : w5.heap[s]? = some (.cells #[(.string h.nm), (.int .u8 h.su), (.int .u8 h.kd), (.int .i64 h.co), (.int .i64 h.po), (.int .i64 h0.he), (.int .u16 h0.tr), (.bool h0.tk), v0] 40 (0, 0)) := by rw [e5]; exact block_set k4 4 _
  rw [← e5]
  clear k4 e5
  obtain ⟨w6, e6⟩ : ∃ x, x = w5.setCell ⟨s, 5, none⟩ (.int .i64 h.he) := ⟨_, rfl⟩
  have k6 : w6.heap[s]? = some (.cells #[(.string h.nm), (.int .u8 h.su), (.int .u8 h.kd), (.int .i64 h.co), (.int .i64 h.po), (.int .i64 h.he), (.int .u16 h0.tr), (.bool h0.tk), v0] 40 (0, 0)) := by rw [e6]; exact block_set k5 5 _
  rw [← e6]
  clear k5 e6
  obtain ⟨w7, e7⟩ : ∃ x, x = w6.setCell ⟨s, 6, none⟩ (.int .u16 h.tr) := ⟨_, rfl⟩
  have k7 : w7.heap[s]? = some (.cells #[(.string h.nm), (.int .u8 h.su), (.int .u8 h.kd), (.int .i64 h.co), (.int .i64 h.po), (.int .i64 h.he), (.int .u16 h.tr), (.bool h0.tk), v0] 40 (0, 0)) := by rw [e7]; exact block_set k6 6 _
  rw [← e7]
  clear k6 e7
  obtain ⟨w8, e8⟩ : ∃ x, x = w7.setCell ⟨s, 7, none⟩ (.bool h.tk) := ⟨_, rfl⟩
  have k8 : w8.heap[s]? = some (.cells #[(.string h.nm), (.int .u8 h.su), (.int .u8 h.kd), (.int .i64 h.co), (.int .i64 h.po), (.int .i64 h.he), (.int .u16 h.tr), (.bool h.tk), v0] 40 (0, 0)) := by rw [e8]; exact block_set k7 7 _
  rw [← e8]
  clear k7 e8
  obtain ⟨w9, e9⟩ : ∃ x, x = w8.setCell ⟨s, 8, none⟩ v := ⟨_, rfl⟩
  have k9 : w9.heap[s]? = some (.cells #[(.string h.nm), (.int .u8 h.su), (.int .u8 h.kd), (.int .i64 h.co), (.int .i64 h.po), (.int .i64 h.he), (.int .u16 h.tr), (.bool h.tk), v] 40 (0, 0)) := by rw [e9]; exact block_set k8 8 _
  rw [← e9]
  clear k8 e9
  exact k9
theorem CAt.keepR {w w' : World} {b : Nat} {h : Hd} {v : Value} {r : Option Nat} (k : CAt w b h v) (g : w.grownBy w' r) (hr : some b ≠ r) : CAt w' b h v := grown_keep g k hr
theorem lr_stay {o : Option Cd} {l : List (List UInt8)} {x : List UInt8} {q : Nat} {W : World} (h : LR (farO o l) false q W) : LR (farO o (l ++ [x])) false q W := by
  rw [farO_snoc]
  cases ho : farO o l with
  | none => rw [ho] at h; exact h
  | some d => rw [ho] at h; exact absurd h.1 (by simp)
theorem lr_yes {o : Option Cd} {q : Nat} {W : World} (h : LR o true q W) : ∃ d, o = some d ∧ d.ps = [] ∧ CAt W q d.hd (.slice none 0 0) := by
  cases o with
  | none => exact absurd h.1 (by simp)
  | some d => exact ⟨d, rfl, h.2.1, h.2.2⟩
theorem fE_lr {o : Option Cd} {q : Nat} {W : World} {e : Ending} (h : fE o q (.slice none 0 0) e W) (hp : ∀ d, o = some d → d.ps = []) : ∃ b, e = .returned (.bool b) ∧ LR o b q W := by
  cases o with
  | none =>
    obtain ⟨rfl, h⟩ := h
    exact ⟨false, rfl, rfl, h⟩
  | some d =>
    obtain ⟨rfl, h⟩ := h
    exact ⟨true, rfl, rfl, hp d rfl, h⟩
theorem lr_start {x0 x1 x2 x3 : ByteArray} {m : Nat} {bs bn : Bool} {y : Int} {q : Nat} {W : World} (hm : m = idx suitW x1.data.toList) (hbs : bs = !decide (m = 0)) (hr : (bn = true ∧ Lib.atoiAll x3.data.toList = .ok y) ∨ (bn = false ∧ ∀ a, Lib.atoiAll x3.data.toList ≠ .ok a)) (C : CAt W q ⟨x0, m, idx kindW x2.data.toList, y, 0, 0, 0, false⟩ (.slice none 0 0)) : LR (head0 x0.data.toList x1.data.toList x2.data.toList x3.data.toList) (bs && bn) q W := by
  unfold head0
  by_cases h : idx suitW x1.data.toList = 0
  · rw [if_pos h, hbs, hm, decide_eq_true h]
    exact ⟨rfl, _, C⟩
  · rw [if_neg h, hbs, hm, decide_eq_false h]
    rcases hr with ⟨rfl, e⟩ | ⟨rfl, e⟩
    · rw [e]
      refine ⟨rfl, rfl, ?_⟩
      rw [hm] at C
      exact C
    · split
      · rename_i v hv
        exact absurd hv (e v)
      · exact ⟨rfl, _, C⟩
theorem lr_end {o : Option Cd} {b : Bool} {q : Nat} {W : World} (h : LR o b q W) : ∃ hh, CAt W q hh (.slice none 0 0) ∧ hE o (.returned (.tuple #[cv hh (.slice none 0 0), .bool b])) := by
  cases o with
  | none =>
    obtain ⟨rfl, hh, C⟩ := h
    exact ⟨hh, C, hh, rfl⟩
  | some d =>
    obtain ⟨rfl, hp, C⟩ := h
    exact ⟨d.hd, C, rfl, hp⟩
set_option maxHeartbeats 4000000 in
set_option maxRecDepth 100000 in
theorem rhead_long (b : Nat) (x0 x1 x2 x3 : ByteArray) (r : List ByteArray) (hl : r.length ≤ 1000) (hsz : ∀ x ∈ x0 :: x1 :: x2 :: x3 :: r, x.size ≤ 600) (w : World) (L : LaidAt w) (hb : b < w.heap.size) (X : W0At w b (x0 :: x1 :: x2 :: x3 :: r)) :
    Calls Tryz.prog 97 #[.slice (some ⟨b, 0, none⟩) (r.length + 4) (r.length + 4)] w fun e w' => hE (readH (x0.data.toList :: x1.data.toList :: x2.data.toList :: x3.data.toList :: r.map (·.data.toList))) e ∧ w.grownBy w' none := by
  rw [readH_is]
  obtain ⟨hd, hhd⟩ : ∃ hd, hd = head0 x0.data.toList x1.data.toList x2.data.toList x3.data.toList := ⟨_, rfl⟩
  have HH : Hid (hd = head0 x0.data.toList x1.data.toList x2.data.toList x3.data.toList) := hhd
  rw [← hhd]
  clear hhd
  have HX : Hid (W0At w b (x0 :: x1 :: x2 :: x3 :: r)) := X
  have HL : Hid (LaidAt w) := L
  have HZ : Hid (∀ x ∈ x0 :: x1 :: x2 :: x3 :: r, x.size ≤ 600) := hsz
  obtain ⟨n, hn⟩ : ∃ n, n = r.length := ⟨_, rfl⟩
  have HN : Hid (n = r.length) := hn
  rw [← hn] at hl ⊢
  have n4 : ¬ (n : Int) + 4 < 4 := by omega
  have n1 : (1 : Int) < (n : Int) + 4 := by omega
  have n3 : (3 : Int) < (n : Int) + 4 := by omega
  have n0 : (0 : Int) < (n : Int) + 4 := by omega
  have n2 : (2 : Int) < (n : Int) + 4 := by omega
  have m4 : (4 : Int) ≤ (n : Int) + 4 := by omega
  have cw := fun (W : World) (g : w.grownBy W none) => (⟨g.cell (X 0 x0 rfl) (by simp), g.cell (X 1 x1 rfl) (by simp), g.cell (X 2 x2 rfl) (by simp), g.cell (X 3 x3 rfl) (by simp)⟩ : W.cell? ⟨b, 0, none⟩ = some (.string x0) ∧ W.cell? ⟨b, 1, none⟩ = some (.string x1) ∧ W.cell? ⟨b, 2, none⟩ = some (.string x2) ∧ W.cell? ⟨b, 3, none⟩ = some (.string x3))
  have CW : Hid (∀ W : World, w.grownBy W none → W.cell? ⟨b, 0, none⟩ = some (.string x0) ∧ W.cell? ⟨b, 1, none⟩ = some (.string x1) ∧ W.cell? ⟨b, 2, none⟩ = some (.string x2) ∧ W.cell? ⟨b, 3, none⟩ = some (.string x3)) := cw
  clear X L hsz hn cw
  obtain ⟨a0, a1, a2, a3⟩ := CW.out (w.alloc (.cells (ccs Hd.none (.slice none 0 0)) 40)) (World.grownBy_alloc _ _ none)
  have Za : CAt (w.alloc (.cells (ccs Hd.none (.slice none 0 0)) 40)) w.heap.size Hd.none (.slice none 0 0) := alloc_at w _ _
  have HZa : Hid (CAt (w.alloc (.cells (ccs Hd.none (.slice none 0 0)) 40)) w.heap.size Hd.none (.slice none 0 0)) := Za
  unfold ccs Hd.none at a0 a1 a2 a3
  clear Za
  go_enter Tryz.func97, Tryz.ntmps97
  go_wp2_with fail
  refine (sof_any x1 _ ((HL.out.keep (World.grownBy_alloc _ _ none)).su)).mono ?_
  rintro e w1 ⟨rfl, g1⟩
  rw [Lib.toList_data, (suI_idx _).1, (suI_idx _).2]
  have G1 : Hid (w.grownBy w1 none) := grown_trans (World.grownBy_alloc _ _ none) g1
  have Z1 : Hid (CAt w1 w.heap.size Hd.none (.slice none 0 0)) := HZa.out.keep g1
  clear g1 HZa a0 a1 a2 a3
  obtain ⟨a0, a1, a2, a3⟩ := CW.out w1 G1.out
  obtain ⟨m, hm⟩ : ∃ m, m = idx suitW x1.data.toList := ⟨_, rfl⟩
  obtain ⟨bs, hbs⟩ : ∃ bs, bs = !decide (idx suitW x1.data.toList = 0) := ⟨_, rfl⟩
  rw [← hbs, ← hm]
  have HM : Hid (m = idx suitW x1.data.toList ∧ bs = !decide (m = 0)) := ⟨hm, by rw [hm]; exact hbs⟩
  clear hm hbs
  go_wp2_with fail
  refine (rnum_any x3 (by have := HZ.out x3 (by simp); omega) _ (HL.out.keep G1.out)).mono ?_
  rintro e w2 ⟨he, g2⟩
  obtain ⟨y, bn, rfl, R⟩ := rn_split he
  have HR : Hid ((bn = true ∧ Lib.atoiAll x3.data.toList = .ok y) ∨ (bn = false ∧ ∀ a, Lib.atoiAll x3.data.toList ≠ .ok a)) := R
  have G2 : Hid (w.grownBy w2 none) := grown_trans G1.out g2
  have Z2 : Hid (CAt w2 w.heap.size Hd.none (.slice none 0 0)) := Z1.out.keep g2
  clear g2 he R a0 a1 a2 a3 G1 Z1
  obtain ⟨a0, a1, a2, a3⟩ := CW.out w2 G2.out
  go_upto_region 5 with fail
  go_cut [8] from 30 to 40 (fun v8 wc => ∃ q, v8 = .pointer (some ⟨q, 0, none⟩) ∧ CAt wc q ⟨x0, m, idx kindW x2.data.toList, y, 0, 0, 0, false⟩ (.slice none 0 0) ∧ CAt wc w.heap.size Hd.none (.slice none 0 0) ∧ w.heap.size < q ∧ w.grownBy wc none)
  case first =>
    have S0 : H02 b x0 x2 w2.drew := ⟨a0, a2⟩
    refine wp_region_held_drew (S := H02 b x0 x2) (by kernel_rfl) S0 (fun hHeld => ?_)
    clear hHeld
    refine wpAnyH_take (i := 0) (v := ?_) rfl (by kernel_rfl) (by kernel_rfl) (by kernel_rfl) (fun _ _ _ h => h) (Or.inl ⟨by rfl, ?_⟩) (by assumption) ?_
    rotate_left 1
    · (intro w0 hSw; go_simp; try with_reducible rfl)
    simp only [List.getElem_toArray, List.getElem_cons_zero]
    go_frame
    refine wpAnyH_take (i := 1) (v := ?_) rfl (by kernel_rfl) (by kernel_rfl) (by kernel_rfl) (fun _ _ _ h => h) (Or.inl ⟨by rfl, ?_⟩) (by assumption) ?_
    rotate_left 1
    · (intro w0 hSw; go_simp; try with_reducible rfl)
    simp only [List.getElem_toArray, List.getElem_cons_zero, List.getElem_cons_succ]
    go_frame
    refine wpAnyH_take (i := 2) (v := ?_) rfl (by kernel_rfl) (by kernel_rfl) (by kernel_rfl) (fun _ _ _ h => h) (Or.inl ⟨by rfl, ?_⟩) (by assumption) ?_
    rotate_left 1
    · (intro w0 hSw; obtain ⟨x0', x2'⟩ := hSw; go_simp; try with_reducible rfl)
    simp only [List.getElem_toArray, List.getElem_cons_zero, List.getElem_cons_succ]
    go_frame
    refine wpAnyH_take (i := 4) (v := ?_) rfl (by kernel_rfl) (by kernel_rfl) (by kernel_rfl) (fun _ _ _ h => h) (Or.inl ⟨by rfl, ?_⟩) (by assumption) ?_
    rotate_left 1
    · (intro w0 hSw; go_simp; try with_reducible rfl)
    simp only [List.getElem_toArray, List.getElem_cons_zero, List.getElem_cons_succ]
    go_frame
    refine wpAnyH_take (i := 5) (v := ?_) rfl (by kernel_rfl) (by kernel_rfl) (by kernel_rfl) (fun _ _ _ h => h) (Or.inl ⟨by rfl, ?_⟩) (by assumption) ?_
    rotate_left 1
    · (intro w0 hSw; go_simp; try with_reducible rfl)
    simp only [List.getElem_toArray, List.getElem_cons_zero, List.getElem_cons_succ]
    go_frame
    refine wpAnyH_take (i := 6) (v := ?_) rfl (by kernel_rfl) (by kernel_rfl) (by kernel_rfl) (fun _ _ _ h => h) (Or.inl ⟨by rfl, ?_⟩) (by assumption) ?_
    rotate_left 1
    · (intro w0 hSw; go_simp; try with_reducible rfl)
    simp only [List.getElem_toArray, List.getElem_cons_zero, List.getElem_cons_succ]
    go_frame
    refine wpAnyH_take (i := 7) (v := ?_) rfl (by kernel_rfl) (by kernel_rfl) (by kernel_rfl) (fun _ _ _ h => h) (Or.inl ⟨by rfl, ?_⟩) (by assumption) ?_
    rotate_left 1
    · (intro w0 hSw; obtain ⟨x0', x2'⟩ := hSw; go_simp; try with_reducible rfl)
    simp only [List.getElem_toArray, List.getElem_cons_zero, List.getElem_cons_succ]
    go_frame
    refine wpAnyH_take (i := 9) (v := ?_) rfl (by kernel_rfl) (by kernel_rfl) (by kernel_rfl) (fun _ _ _ h => h) (Or.inl ⟨by rfl, ?_⟩) (by assumption) ?_
    rotate_left 1
    · (intro w0 hSw; go_simp; try with_reducible rfl)
    simp only [List.getElem_toArray, List.getElem_cons_zero, List.getElem_cons_succ]
    go_frame
    refine wpAnyH_ready (rs := [3, 11]) (by kernel_rfl) (by simp) ?_
    refine AllReadyH.cons rfl (fun K hK => ?_) (AllReadyH.cons rfl (fun K hK => ?_) AllReadyH.nil)
    · simp only [List.getElem_toArray, List.getElem_cons_zero, List.getElem_cons_succ]
      go_simp
      go_at_call 140
      refine (clone_any x0 (by have := HZ.out x0 (by simp); omega) _).mono ?_
      rintro e w3 ⟨rfl, g3⟩
      have G3 : Hid (w.grownBy w3 none) := grown_trans (grown_trans G2.out (grown_drew _)) g3
      have Z3 : Hid (CAt w3 w.heap.size Hd.none (.slice none 0 0)) := (Z2.out.keep (grown_drew _)).keep g3
      have S1 : H02 b x0 x2 w3 := ⟨(CW.out w3 G3.out).1, (CW.out w3 G3.out).2.2.1⟩
      refine hK.out _ _ S1 (fun hHeld2 => ?_)
      clear hK K hHeld2
      (try go_frame)
      refine wpAnyH_ready (rs := [8, 11]) (by kernel_rfl) (by simp) ?_
      refine AllReadyH.cons rfl (fun K hK => ?_) (AllReadyH.cons rfl (fun K hK => ?_) AllReadyH.nil)
      · simp only [List.getElem_toArray, List.getElem_cons_zero, List.getElem_cons_succ]
        go_simp
        go_at_call 141
        refine (kindOf_any x2 _).mono ?_
        rintro e w9 ⟨rfl, h9⟩
        obtain rfl : _ = w9 := h9.symm
        refine hK.out _ _ S1 (fun hHeld2 => ?_)
        clear hK K hHeld2
        (try go_frame)
        refine wpAnyH_take (i := 10) (v := ?_) rfl (by kernel_rfl) (by kernel_rfl) (by kernel_rfl) (fun _ _ _ h => h) (Or.inl ⟨by rfl, ?_⟩) (by assumption) ?_
        rotate_left 1
        · (intro w0 hSw; go_simp; try with_reducible rfl)
        simp only [List.getElem_toArray, List.getElem_cons_zero, List.getElem_cons_succ]
        go_frame
        refine wpAnyH_ready (rs := [11]) (by kernel_rfl) (by simp) ?_
        refine AllReadyH.cons rfl (fun K hK => ?_) AllReadyH.nil
        simp only [List.getElem_toArray, List.getElem_cons_zero, List.getElem_cons_succ]
        go_simp
        have S2 : H02 b x0 x2 (w3.alloc (.cells #[.string ⟨#[]⟩, .int .u8 0, .int .u8 0, .int .i64 0, .int .i64 0, .int .i64 0, .int .u16 0, .bool false, .slice none 0 0] 40)) := ⟨(World.grownBy_alloc _ _ none).cell S1.1 (by simp), (World.grownBy_alloc _ _ none).cell S1.2 (by simp)⟩
        refine hK.out _ _ S2 (fun hHeld2 => ?_)
        clear hK K hHeld2
        (try go_frame)
        refine wpAnyH_ready (rs := [12]) (by kernel_rfl) (by simp) ?_
        refine AllReadyH.cons rfl (fun K hK => ?_) AllReadyH.nil
        simp only [List.getElem_toArray, List.getElem_cons_zero, List.getElem_cons_succ]
        go_simp
        have C4 : CAt (w3.alloc (.cells (ccs ⟨x0, m, idx kindW x2.data.toList, y, 0, 0, 0, false⟩ (.slice none 0 0)) 40)) w3.heap.size ⟨x0, m, idx kindW x2.data.toList, y, 0, 0, 0, false⟩ (.slice none 0 0) := alloc_at w3 _ _
        have Z4 : CAt (w3.alloc (.cells (ccs ⟨x0, m, idx kindW x2.data.toList, y, 0, 0, 0, false⟩ (.slice none 0 0)) 40)) w.heap.size Hd.none (.slice none 0 0) := Z3.out.keep (World.grownBy_alloc _ _ none)
        have G4 : w.grownBy (w3.alloc (.cells (ccs ⟨x0, m, idx kindW x2.data.toList, y, 0, 0, 0, false⟩ (.slice none 0 0)) 40)) none := grown_push G3.out _
        have hqs : w.heap.size < w3.heap.size := block_lt Z3.out
        have S3 : H02 b x0 x2 (w3.alloc (.cells (ccs ⟨x0, m, idx kindW x2.data.toList, y, 0, 0, 0, false⟩ (.slice none 0 0)) 40)) := ⟨(World.grownBy_alloc _ _ none).cell S1.1 (by simp), (World.grownBy_alloc _ _ none).cell S1.2 (by simp)⟩
        refine hK.out _ _ S3 (fun hHeld2 => ?_)
        clear hK K hHeld2 S3
        refine wpAnyH_done (by kernel_rfl) ?_ _
        go_wp2_with fail
        go_meet
        case rel => exact ⟨_, rfl, C4, Z4, hqs, G4⟩
      · simp only [List.getElem_toArray, List.getElem_cons_zero, List.getElem_cons_succ]
        go_simp
        have S2 : H02 b x0 x2 (w3.alloc (.cells #[.string ⟨#[]⟩, .int .u8 0, .int .u8 0, .int .i64 0, .int .i64 0, .int .i64 0, .int .u16 0, .bool false, .slice none 0 0] 40)) := ⟨(World.grownBy_alloc _ _ none).cell S1.1 (by simp), (World.grownBy_alloc _ _ none).cell S1.2 (by simp)⟩
        refine hK.out _ _ S2 (fun hHeld2 => ?_)
        clear hK K hHeld2
        (try go_frame)
        refine wpAnyH_ready (rs := [8]) (by kernel_rfl) (by simp) ?_
        refine AllReadyH.cons rfl (fun K hK => ?_) AllReadyH.nil
        simp only [List.getElem_toArray, List.getElem_cons_zero, List.getElem_cons_succ]
        go_simp
        go_at_call 141
        refine (kindOf_any x2 _).mono ?_
        rintro e w9 ⟨rfl, h9⟩
        obtain rfl : _ = w9 := h9.symm
        refine hK.out _ _ S2 (fun hHeld2 => ?_)
        clear hK K hHeld2
        (try go_frame)
        refine wpAnyH_take (i := 10) (v := ?_) rfl (by kernel_rfl) (by kernel_rfl) (by kernel_rfl) (fun _ _ _ h => h) (Or.inl ⟨by rfl, ?_⟩) (by assumption) ?_
        rotate_left 1
        · (intro w0 hSw; go_simp; try with_reducible rfl)
        simp only [List.getElem_toArray, List.getElem_cons_zero, List.getElem_cons_succ]
        go_frame
        refine wpAnyH_ready (rs := [12]) (by kernel_rfl) (by simp) ?_
        refine AllReadyH.cons rfl (fun K hK => ?_) AllReadyH.nil
        simp only [List.getElem_toArray, List.getElem_cons_zero, List.getElem_cons_succ]
        go_simp
        have C4 : CAt (w3.alloc (.cells (ccs ⟨x0, m, idx kindW x2.data.toList, y, 0, 0, 0, false⟩ (.slice none 0 0)) 40)) w3.heap.size ⟨x0, m, idx kindW x2.data.toList, y, 0, 0, 0, false⟩ (.slice none 0 0) := alloc_at w3 _ _
        have Z4 : CAt (w3.alloc (.cells (ccs ⟨x0, m, idx kindW x2.data.toList, y, 0, 0, 0, false⟩ (.slice none 0 0)) 40)) w.heap.size Hd.none (.slice none 0 0) := Z3.out.keep (World.grownBy_alloc _ _ none)
        have G4 : w.grownBy (w3.alloc (.cells (ccs ⟨x0, m, idx kindW x2.data.toList, y, 0, 0, 0, false⟩ (.slice none 0 0)) 40)) none := grown_push G3.out _
        have hqs : w.heap.size < w3.heap.size := block_lt Z3.out
        have S3 : H02 b x0 x2 (w3.alloc (.cells (ccs ⟨x0, m, idx kindW x2.data.toList, y, 0, 0, 0, false⟩ (.slice none 0 0)) 40)) := ⟨(World.grownBy_alloc _ _ none).cell S1.1 (by simp), (World.grownBy_alloc _ _ none).cell S1.2 (by simp)⟩
        refine hK.out _ _ S3 (fun hHeld2 => ?_)
        clear hK K hHeld2 S3
        refine wpAnyH_done (by kernel_rfl) ?_ _
        go_wp2_with fail
        go_meet
        case rel => exact ⟨_, rfl, C4, Z4, hqs, G4⟩
    · simp only [List.getElem_toArray, List.getElem_cons_zero, List.getElem_cons_succ]
      go_simp
      have C2 : CAt (w2.drew.alloc (.cells #[.string ⟨#[]⟩, .int .u8 0, .int .u8 0, .int .i64 0, .int .i64 0, .int .i64 0, .int .u16 0, .bool false, .slice none 0 0] 40)) w2.heap.size Hd.none (.slice none 0 0) := alloc_at w2.drew _ _
      have S2 : H02 b x0 x2 (w2.drew.alloc (.cells #[.string ⟨#[]⟩, .int .u8 0, .int .u8 0, .int .i64 0, .int .i64 0, .int .i64 0, .int .u16 0, .bool false, .slice none 0 0] 40)) := ⟨(World.grownBy_alloc _ _ none).cell S0.1 (by simp), (World.grownBy_alloc _ _ none).cell S0.2 (by simp)⟩
      have HC2 : Hid (CAt (w2.drew.alloc (.cells #[.string ⟨#[]⟩, .int .u8 0, .int .u8 0, .int .i64 0, .int .i64 0, .int .i64 0, .int .u16 0, .bool false, .slice none 0 0] 40)) w2.heap.size Hd.none (.slice none 0 0)) := C2
      clear C2
      refine hK.out _ _ S2 (fun hHeld2 => ?_)
      clear hK K hHeld2
      (try go_frame)
      refine wpAnyH_ready (rs := [3]) (by kernel_rfl) (by simp) ?_
      refine AllReadyH.cons rfl (fun K hK => ?_) AllReadyH.nil
      simp only [List.getElem_toArray, List.getElem_cons_zero, List.getElem_cons_succ]
      go_simp
      go_at_call 140
      refine (clone_any x0 (by have := HZ.out x0 (by simp); omega) _).mono ?_
      rintro e w3 ⟨rfl, g3⟩
      have G3 : Hid (w.grownBy w3 none) := grown_trans (grown_push (grown_trans G2.out (grown_drew _)) _) g3
      have Z3 : Hid (CAt w3 w.heap.size Hd.none (.slice none 0 0)) := ((Z2.out.keep (grown_drew _)).keep (World.grownBy_alloc _ _ none)).keep g3
      have C3 : CAt w3 w2.heap.size Hd.none (.slice none 0 0) := HC2.out.keep g3
      have S1 : H02 b x0 x2 w3 := ⟨(CW.out w3 G3.out).1, (CW.out w3 G3.out).2.2.1⟩
      refine hK.out _ _ S1 (fun hHeld2 => ?_)
      clear hK K hHeld2
      (try go_frame)
      refine wpAnyH_ready (rs := [8]) (by kernel_rfl) (by simp) ?_
      refine AllReadyH.cons rfl (fun K hK => ?_) AllReadyH.nil
      simp only [List.getElem_toArray, List.getElem_cons_zero, List.getElem_cons_succ]
      go_simp
      go_at_call 141
      refine (kindOf_any x2 _).mono ?_
      rintro e w9 ⟨rfl, h9⟩
      obtain rfl : _ = w9 := h9.symm
      refine hK.out _ _ S1 (fun hHeld2 => ?_)
      clear hK K hHeld2
      (try go_frame)
      refine wpAnyH_take (i := 10) (v := ?_) rfl (by kernel_rfl) (by kernel_rfl) (by kernel_rfl) (fun _ _ _ h => h) (Or.inl ⟨by rfl, ?_⟩) (by assumption) ?_
      rotate_left 1
      · (intro w0 hSw; go_simp; try with_reducible rfl)
      simp only [List.getElem_toArray, List.getElem_cons_zero, List.getElem_cons_succ]
      go_frame
      have hqs : w.heap.size < w2.heap.size := block_lt Z2.out
      have cf := fun i => C3.free i
      obtain ⟨c0, c1, c2, c3, c4, c5, c6, c7, c8⟩ := C3.cells
      simp only [Hd.none] at c0 c1 c2 c3 c4 c5 c6 c7 c8
      refine wpAnyH_ready (rs := [12]) (by kernel_rfl) (by simp) ?_
      refine AllReadyH.cons rfl (fun K hK => ?_) AllReadyH.nil
      simp only [List.getElem_toArray, List.getElem_cons_zero, List.getElem_cons_succ]
      go_simp
      have g4 := row_st9 w3 w2.heap.size (.string x0) (.int .u8 m) (.int .u8 (idx kindW x2.data.toList)) (.int .i64 y) (.int .i64 0) (.int .i64 0) (.int .u16 0) (.bool false) (.slice none 0 0)
      have C4 := CAt.st9 (h := ⟨x0, m, idx kindW x2.data.toList, y, 0, 0, 0, false⟩) (v := .slice none 0 0) C3
      have Z4 := Z3.out.keepR g4 (by simp; omega)
      have G4 := grown_own G3.out g4 (fun x e => by cases e; omega)
      have S3 : H02 b x0 x2 _ := ⟨(CW.out _ G4).1, (CW.out _ G4).2.2.1⟩
      refine hK.out _ _ S3 (fun hHeld2 => ?_)
      clear hK K hHeld2 S3
      refine wpAnyH_done (by kernel_rfl) ?_ _
      go_wp2_with fail
      go_meet
      case rel => exact ⟨_, rfl, C4, Z4, hqs, G4⟩
  case rest =>
    obtain ⟨q, rfl, C4, Z4, hqs, G4⟩ := hcut
    obtain ⟨W4, hW4⟩ : ∃ W4, W4 = wc := ⟨_, rfl⟩
    subst hW4
    have h0 : Hid (LR hd (bs && bn) q W4) := by unfold Hid; rw [HH.out]; exact lr_start HM.out.1 HM.out.2 HR.out C4
    have HZ4 : Hid (CAt W4 w.heap.size Hd.none (.slice none 0 0)) := Z4
    have HG4 : Hid (w.grownBy W4 none) := G4
    clear C4 Z4 G4 CW G2 Z2 HR HM a0 a1 a2 a3
    have hq7 : Hid (7 < q) := by have := HL.out.big; unfold Hid; omega
    go_upto_region 6 with fail
    go_cut [9] from 41 to 44 (fun v9 wx => v9 = .bool (bs && bn) ∧ wx = W4)
    case first =>
      cases bs with
      | false =>
        go_wp2_with fail
        go_meet
        case rel => exact ⟨rfl, rfl⟩
      | true =>
        go_wp2_with fail
        go_meet
        case rel => exact ⟨rfl, rfl⟩
    case rest =>
    obtain ⟨rfl, e4⟩ := hcut
    subst e4
    obtain ⟨cc, hcc⟩ : ∃ cc, cc = (bs && bn) := ⟨_, rfl⟩
    rw [← hcc] at h0 ⊢
    clear hcc
    obtain ⟨W5, hW5⟩ : ∃ W5, W5 = wc := ⟨_, rfl⟩
    subst hW5
    rcases (show n = 0 ∨ 0 < n from by omega) with rfl | hpos
    · have HE : Hid (farO hd (r.map (·.data.toList)) = hd) := by
        unfold Hid
        rw [List.eq_nil_of_length_eq_zero HN.out.symm]
        cases hd <;> rfl
      go_wp2_with fail
      go_loopw [9, 48] (fun v9 i wr => v9 = .bool cc ∧ i = .int .i64 0 ∧ wr = W5) (fun _ _ _ => 0)
      case atStart => exact ⟨rfl, rfl, rfl⟩
      case round =>
        obtain ⟨rfl, rfl, rfl⟩ := hrel
        have hx := h0.out
        obtain ⟨hh, CQ, HEnd⟩ : ∃ hh, CAt wr q hh (.slice none 0 0) ∧ hE hd (.returned (.tuple #[cv hh (.slice none 0 0), .bool cc])) := lr_end hx
        obtain ⟨c0, c1, c2, c3, c4, c5, c6, c7, c8⟩ := CQ.cells
        obtain ⟨z0, z1, z2, z3, z4, z5, z6, z7, z8⟩ := HZ4.out.cells
        have zf := fun i => HZ4.out.free i
        simp only [Hd.none] at z0 z1 z2 z3 z4 z5 z6 z7 z8
        have HEN : Hid (hE (farO hd (r.map (·.data.toList))) (.returned (.tuple #[cv hh (.slice none 0 0), .bool cc]))) := by unfold Hid; rw [HE.out]; exact HEnd
        clear hx CQ HEnd h0 HZ4
        go_wp2
        refine bodyPost_ret (v := .tuple #[cv hh (.slice none 0 0), .bool cc]) (by simp [results, Tryz.results97, go_sem, z0, z1, z2, z3, z4, z5, z6, z7, z8, cv]) rfl ⟨HEN.out, ?_⟩
        exact grown_own HG4.out (row_st9 _ w.heap.size _ _ _ _ _ _ _ _ _) (fun x e => by cases e; exact Nat.le_refl _)
    · have hnp : Hid (0 < n) := hpos
      obtain ⟨n', rfl⟩ : ∃ n', n = n' + 1 := ⟨n - 1, by omega⟩
      clear hpos
      go_wp2_with fail
      go_loopw [9, 48] (fun v9 i wr => ∃ (k : Nat) (bb : Bool), k ≤ n' + 1 ∧ i = .int .i64 k ∧ v9 = .bool bb ∧ LR (farO hd ((r.map (·.data.toList)).take k)) bb q wr ∧ CAt wr w.heap.size Hd.none (.slice none 0 0) ∧ w.grownBy wr none) (fun _ i _ => n' + 1 - (intOf i).toNat)
      case atStart => exact ⟨0, cc, Nat.zero_le _, rfl, rfl, by
        have := h0.out
        cases hd <;> exact this, HZ4.out, HG4.out⟩
      case round =>
        obtain ⟨k, bb, hk, rfl, rfl, R, Z, G⟩ := hrel
        clear h0 HZ4 HG4
        have HR : Hid (LR (farO hd ((r.map (·.data.toList)).take k)) bb q wr) := R
        have HZ4 : Hid (CAt wr w.heap.size Hd.none (.slice none 0 0)) := Z
        have HG4 : Hid (w.grownBy wr none) := G
        clear R Z G
        rcases (show k = n' + 1 ∨ k < n' + 1 from by omega) with hE' | hlt
        · have HE : Hid ((r.map (·.data.toList)).take k = r.map (·.data.toList)) := List.take_of_length_le (by rw [List.length_map, ← HN.out, hE']; exact Nat.le_refl _)
          have hkn : ¬ (k : Int) < (n' : Int) + 1 := by omega
          have HK : Hid (k = n' + 1) := hE'
          clear hE' hk
          obtain ⟨hh, CQ, HEnd⟩ := lr_end HR.out
          obtain ⟨c0, c1, c2, c3, c4, c5, c6, c7, c8⟩ := CQ.cells
          obtain ⟨z0, z1, z2, z3, z4, z5, z6, z7, z8⟩ := HZ4.out.cells
          have zf := fun i => HZ4.out.free i
          simp only [Hd.none] at z0 z1 z2 z3 z4 z5 z6 z7 z8
          have HEN : Hid (hE (farO hd (r.map (·.data.toList))) (.returned (.tuple #[cv hh (.slice none 0 0), .bool bb]))) := by unfold Hid; rw [← HE.out]; exact HEnd
          clear CQ HEnd HR HZ4
          go_wp2
          refine bodyPost_ret (v := .tuple #[cv hh (.slice none 0 0), .bool bb]) (by simp [results, Tryz.results97, go_sem, z0, z1, z2, z3, z4, z5, z6, z7, z8, cv]) rfl ⟨HEN.out, ?_⟩
          exact grown_own HG4.out (row_st9 _ w.heap.size _ _ _ _ _ _ _ _ _) (fun x e => by cases e; exact Nat.le_refl _)
        · have hlt' : (k : Int) < (n' : Int) + 1 := by omega
          have hk0 : (0 : Int) ≤ (k : Int) := by omega
          have hw : wrap64 ((k : Int) + 1) = (k : Int) + 1 := by unfold wrap64; omega
          obtain ⟨x, hx⟩ : ∃ x, r[k]? = some x := ⟨_, List.getElem?_eq_getElem (by rw [← HN.out]; exact hlt)⟩
          have ck : wr.cell? ⟨b, 4 + k, none⟩ = some (.string x) := HG4.out.cell (HX.out (4 + k) x (by rw [Nat.add_comm 4 k]; simpa using hx)) (by simp)
          have HS : Hid (x.size ≤ 600) := HZ.out x (by simp [List.mem_of_getElem? hx])
          have HT : Hid ((r.map (·.data.toList)).take (k + 1) = (r.map (·.data.toList)).take k ++ [x.data.toList]) := by
            unfold Hid
            rw [List.take_add_one, List.getElem?_map, hx]
            rfl
          clear hx
          cases bb with
          | false =>
            have HN2 : Hid (LR (farO hd ((r.map (·.data.toList)).take (k + 1))) false q wr) := by
              unfold Hid
              rw [HT.out]
              exact lr_stay HR.out
            go_wp2_with fail
            go_roundw
            case rel => exact ⟨k + 1, false, hlt, by go_num, rfl, HN2.out, HZ4.out, HG4.out⟩
            case measure => exact meas_next hlt
          | true =>
            obtain ⟨d, ed, dp, CQ⟩ := lr_yes HR.out
            have HED : Hid (farO hd ((r.map (·.data.toList)).take k) = some d ∧ d.ps = []) := ⟨ed, dp⟩
            have HCQ : Hid (CAt wr q d.hd (.slice none 0 0)) := CQ
            clear ed dp CQ HR
            go_wp2_with fail
            refine (further_any x HS.out q hq7.out d.hd _ _ (HL.out.keep HG4.out) HCQ.out).mono ?_
            rintro e w5 ⟨he, g5⟩
            rw [hd_nil HED.out.2] at he
            obtain ⟨b5, rfl, R5⟩ := fE_lr he (fun d' h' => by rw [far1_ps h', HED.out.2])
            have HN2 : Hid (LR (farO hd ((r.map (·.data.toList)).take (k + 1))) b5 q w5) := by
              unfold Hid
              rw [HT.out, farO_snoc, HED.out.1]
              exact R5
            have HZ5 : Hid (CAt w5 w.heap.size Hd.none (.slice none 0 0)) := HZ4.out.keepR g5 (by simp; omega)
            have HG5 : Hid (w.grownBy w5 none) := grown_own HG4.out g5 (fun x e => by cases e; omega)
            clear he R5 g5 ck
            go_wp2_with fail
            go_roundw
            case rel =>
              repeat apply Exists.intro
              exact ⟨⟨k + 1, b5, hlt, rfl, rfl, HN2.out, HZ5.out, HG5.out⟩, rfl⟩
            case measure => exact meas_next hlt
/-- Of any words. -/
theorem rhead_any (b : Nat) (l : List ByteArray) (hl : l.length ≤ 1000) (hsz : ∀ x ∈ l, x.size ≤ 600) (w : World) (L : LaidAt w) (hb : b < w.heap.size) (X : W0At w b l) :
    Calls Tryz.prog 97 #[.slice (some ⟨b, 0, none⟩) l.length l.length] w fun e w' => hE (readH (l.map (·.data.toList))) e ∧ w.grownBy w' none := by
  have hs : l.length < 4 → Calls Tryz.prog 97 #[.slice (some ⟨b, 0, none⟩) l.length l.length] w fun e w' => hE (readH (l.map (·.data.toList))) e ∧ w.grownBy w' none := fun h => by
    refine (rhead_short _ _ _ h w).mono ?_
    rintro e w' ⟨rfl, g⟩
    rw [readH_short (by rw [List.length_map]; exact h)]
    exact ⟨⟨_, rfl⟩, g⟩
  match l, hs, hl, hsz, X with
  | [], hs, _, _, _ => exact hs (by simp)
  | [_], hs, _, _, _ => exact hs (by simp)
  | [_, _], hs, _, _, _ => exact hs (by simp)
  | [_, _, _], hs, _, _, _ => exact hs (by simp)
  | x0 :: x1 :: x2 :: x3 :: r, _, hl, hsz, X => exact rhead_long b x0 x1 x2 x3 r (by simp only [List.length_cons] at hl; omega) hsz w L hb X
end Go.Proofs.YtpceelbphpfciaaGreatDoor
