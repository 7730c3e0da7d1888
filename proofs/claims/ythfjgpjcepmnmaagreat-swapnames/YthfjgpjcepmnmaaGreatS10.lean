/-
  The order of cards, plainly: it is strict, and two cards of unlike names stand one ahead of the other; a card laid at its place leaves a list in order.
  Card: a card is added, or refused.
-/
import Derived.Test.YthfjgpjcepmnmaaGreatS7
import Derived.Lib.MinMaxS
import Derived.Test.YthfjgpjcepmnmaaGreatS9
namespace Go.Proofs.YthfjgpjcepmnmaaGreat
open Go.RowKit

theorem bLt_eq (s t : ByteArray) : bLt s t = decide (s.data.toList < t.data.toList) := by
  unfold bLt
  rw [Go.Proofs.bytesLess_eq, Lib.toList_data, Lib.toList_data]
theorem data_inj {s t : ByteArray} (h : s.data.toList = t.data.toList) : s = t := bytes_inj (by rw [Lib.toList_data, Lib.toList_data, h])
def Ahd (a b : Hd) : Prop := a.su < b.su ∨ (a.su = b.su ∧ a.nm.data.toList < b.nm.data.toList)
theorem ord_lt (a b : Hd) : ord a b < 0 ↔ Ahd a b := by
  unfold ord orV cI cB Ahd
  rw [bLt_eq]
  by_cases h1 : a.su < b.su
  · simp [h1]
  · by_cases h2 : b.su < a.su
    · have : ¬ a.su = b.su := by omega
      simp [h1, h2, this]
    · have e : a.su = b.su := by omega
      rw [if_neg h1, if_neg h2, if_pos rfl]
      by_cases h3 : a.nm.data.toList < b.nm.data.toList
      · rw [decide_eq_true h3, if_pos rfl]
        exact ⟨fun _ => Or.inr ⟨e, h3⟩, fun _ => by decide⟩
      · rw [decide_eq_false h3, if_neg (by decide)]
        constructor
        · intro h
          split at h <;> omega
        · rintro (h | ⟨_, h⟩)
          · omega
          · exact absurd h h3
theorem Ahd.irrefl (a : Hd) : ¬ Ahd a a := by
  rintro (h | ⟨_, h⟩)
  · omega
  · exact List.lt_irrefl _ h
theorem Ahd.trans {a b c : Hd} (h : Ahd a b) (k : Ahd b c) : Ahd a c := by
  rcases h with h | ⟨h, h'⟩ <;> rcases k with k | ⟨k, k'⟩
  · exact Or.inl (by omega)
  · exact Or.inl (by omega)
  · exact Or.inl (by omega)
  · exact Or.inr ⟨by omega, List.lt_trans h' k'⟩
theorem Ahd.tri {a b : Hd} (h : ¬ a.nm = b.nm) : Ahd a b ∨ Ahd b a := by
  rcases (show a.su < b.su ∨ b.su < a.su ∨ a.su = b.su by omega) with k | k | k
  · exact Or.inl (Or.inl k)
  · exact Or.inr (Or.inl k)
  · by_cases h1 : a.nm.data.toList < b.nm.data.toList
    · exact Or.inl (Or.inr ⟨k, h1⟩)
    · refine Or.inr (Or.inr ⟨k.symm, ?_⟩)
      by_cases h2 : b.nm.data.toList < a.nm.data.toList
      · exact h2
      · exact absurd (data_inj (List.le_antisymm (List.not_lt.1 h2) (List.not_lt.1 h1))) h
def Srt (es : List Ent) : Prop := es.Pairwise fun a b => Ahd a.h b.h
def rk : List Ent → Hd → Nat
  | [], _ => 0
  | e :: r, h => if ord e.h h < 0 then rk r h + 1 else 0
theorem rk_le : ∀ (es : List Ent) (h : Hd), rk es h ≤ es.length
  | [], _ => Nat.le_refl _
  | e :: r, h => by
    have := rk_le r h
    simp only [rk, List.length_cons]
    split <;> omega
theorem rk_ahead : ∀ (es : List Ent) (h : Hd), Srt es → AheadTo es h (rk es h)
  | [], h, _, j, e, he => by simp at he
  | x :: r, h, hs, j, e, he => by
    unfold Srt at hs
    rw [List.pairwise_cons] at hs
    simp only [rk]
    cases j with
    | zero =>
      obtain rfl : x = e := by simpa using he
      split
      · simp_all
      · simp_all
    | succ j =>
      have he' : r[j]? = some e := by simpa using he
      split
      · rw [rk_ahead r h hs.2 j e he']; omega
      · rename_i hx
        have hxe := hs.1 e (List.mem_of_getElem? he')
        constructor
        · intro k
          rw [ord_lt] at hx k
          exact absurd (hxe.trans k) hx
        · intro k; omega
def ins (es : List Ent) (e : Ent) : List Ent := es.take (rk es e.h) ++ e :: es.drop (rk es e.h)
theorem ins_cons (x : Ent) (r : List Ent) (e : Ent) : ins (x :: r) e = if ord x.h e.h < 0 then x :: ins r e else e :: x :: r := by
  unfold ins
  simp only [rk]
  split <;> simp
theorem ins_mem (es : List Ent) (e x : Ent) : x ∈ ins es e ↔ x = e ∨ x ∈ es := by
  induction es with
  | nil => simp [ins]
  | cons y r ih =>
    rw [ins_cons]
    split
    · simp only [List.mem_cons, ih]
      constructor
      · rintro (h | h | h) <;> simp [h]
      · rintro (h | h | h) <;> simp [h]
    · simp
theorem ins_srt (es : List Ent) (e : Ent) (hs : Srt es) (hn : ∀ x ∈ es, ¬ x.h.nm = e.h.nm) : Srt (ins es e) := by
  induction es with
  | nil => simp [ins, Srt]
  | cons y r ih =>
    unfold Srt at hs ih ⊢
    rw [List.pairwise_cons] at hs
    rw [ins_cons]
    split
    · rename_i hy
      rw [ord_lt] at hy
      rw [List.pairwise_cons]
      refine ⟨fun x hx => ?_, ih hs.2 (fun x hx => hn x (by simp [hx]))⟩
      rcases (ins_mem r e x).1 hx with rfl | hx
      · exact hy
      · exact hs.1 x hx
    · rename_i hy
      rw [ord_lt] at hy
      have he : Ahd e.h y.h := (Ahd.tri (hn y (by simp))).resolve_left hy
      rw [List.pairwise_cons]
      refine ⟨fun x hx => ?_, by rw [List.pairwise_cons]; exact hs⟩
      rcases List.mem_cons.1 hx with rfl | hx
      · exact he
      · exact he.trans (hs.1 x hx)
theorem chkPs_all : ∀ (kd : Int) (ps : List Pt), chkPs kd ps = 0 → ∀ p ∈ ps, chk p = 0
  | kd, [], _, p, h => by simp at h
  | kd, q :: r, h, p, hp => by
    unfold chkPs at h
    by_cases h1 : chk q = 0
    · rw [if_neg (by simp [h1])] at h
      by_cases h2 : mayH kd q.wn = false
      · rw [if_pos h2] at h; omega
      · rw [if_neg h2] at h
        rcases List.mem_cons.1 hp with rfl | hp
        · exact h1
        · exact chkPs_all kd r h p hp
    · rw [if_pos h1] at h; exact absurd h h1
theorem chk_name {p : Pt} (h : chk p = 0) : p.nm.size ≤ 20 := by
  unfold chk at h
  have hn : nfit p = true := by
    cases hq : nfit p with
    | true => rfl
    | false =>
      rw [hq] at h
      split at h
      · omega
      · split at h
        · omega
        · split at h
          · omega
          · split at h
            · omega
            · simp at h
  rw [Lib.size_eq]
  unfold nfit at hn
  split at hn
  · exact (name_facts hn).2
  · have := of_decide_eq_true hn
    rw [this]; simp
theorem cchk_facts {c : Cd} (h : cchk c = 0) : c.nm.size ≤ 20 ∧ ¬ c.nm = ⟨#[]⟩ ∧ c.ps.length ≤ 4 ∧ (∀ p ∈ c.ps, p.nm.size ≤ 20) ∧ 1 ≤ c.su ∧ c.su ≤ 6 := by
  unfold cchk at h
  split at h
  · omega
  · rename_i h1
    split at h
    · omega
    · rename_i h2
      split at h
      · omega
      · split at h
        · omega
        · split at h
          · omega
          · rename_i h5
            have hn : nameOk c.nm.data.toList = true := by cases hq : nameOk c.nm.data.toList with
              | true => rfl
              | false => exact absurd hq h1
            refine ⟨by rw [Lib.size_eq]; exact (name_facts hn).2, fun e => ?_, by omega, fun p hp => chk_name (chkPs_all _ _ h p hp), by omega, by omega⟩
            rw [e] at hn
            cases hn
end Go.Proofs.YthfjgpjcepmnmaaGreat
namespace Go.Proofs.YthfjgpjcepmnmaaGreat
open Go.RowKit

def caE (p : Pl) (es : List Ent) (c : Cd) : Int := if p.shut = true then 7 else if ¬ cchk c = 0 then cchk c else if 0 ≤ pos (names es) c.nm then 5 else if es.length = 64 then 14 else 0
theorem pown_ok {w : World} {base : Nat} {v : Value} {ps : List Pt} (h : POwn w base v ps) : PsOk (fun k => base ≤ k) w v ps := by
  refine ⟨h.at, fun g o n c e hn => ?_⟩
  refine h.block g ?_
  rw [e]
  rfl
set_option maxRecDepth 100000 in
set_option maxHeartbeats 2000000 in
theorem card_yes (ok : Nat → Prop) (b : Nat) (es : List Ent) (p : Pl) (h : Hd) (v : Value) (ps : List Pt) (w : World) (hB : BkIn w b es p) (hG : Good ok w es) (hS : Srt es) (hok : ¬ ok b) (hp : PsAt w v ps) (hm : Small ps.length) : Calls Tryz.prog 59 #[.pointer (some ⟨b, 0, none⟩), cv h v] w fun e w' => ∃ u, e = .returned (.int .i64 (caE p es (h.with ps))) ∧ BkIn w' b (if caE p es (h.with ps) = 0 then ins es ⟨h, u, ps⟩ else es) p ∧ Good (fun k => ok k ∨ w.heap.size ≤ k) w' (if caE p es (h.with ps) = 0 then ins es ⟨h, u, ps⟩ else es) ∧ w.grownBy w' (some b) := by
  obtain ⟨a, c, rfl⟩ := hp.form
  obtain ⟨W1, hW1⟩ : ∃ W1, W1 = w.alloc (.cells (ccs h (.slice a ps.length c)) 54) := ⟨_, rfl⟩
  have HG1 : Hid (w.grownBy W1 none) := by rw [hW1]; exact World.grownBy_alloc _ _ none
  have HC1 : Hid (CAt W1 w.heap.size h (.slice a ps.length c)) := by rw [hW1]; exact alloc_at w _ _
  have HB1 : Hid (BkIn W1 b es p) := hB.keep HG1.out
  have HGd : Hid (Good ok W1 es) := hG.keep HG1.out
  have HP1 : Hid (PsAt W1 (.slice a ps.length c) ps) := hp.keep HG1.out
  have hbs : b < w.heap.size := by obtain ⟨j, J⟩ := hB; exact block_lt J.lies
  have HR := refusal_yes b es.length p W1 HB1.out.flags
  have HK := ccheck_any h (.slice a ps.length c) ps W1 HP1.out hm
  obtain ⟨c0, c1, c2, c3, c4, c5, c6, c7, c8⟩ := HC1.out.cells
  have KEEP : Hid (∀ W2, W1.grownBy W2 none → BkIn W2 b es p ∧ Good (fun k => ok k ∨ w.heap.size ≤ k) W2 es ∧ w.grownBy W2 (some b)) := fun W2 g => ⟨HB1.out.keep g, (HGd.out.keep g).mono (fun _ h => Or.inl h), grown_own' (grown_trans HG1.out g) (grown_refl _ _)⟩
  unfold ccs at hW1
  unfold cv at HK ⊢
  clear hB hG hp
  cases hs : p.shut with
  | true =>
    have e1 : caE p es (h.with ps) = 7 := if_pos hs
    rw [e1]
    simp only [show ¬ ((7 : Int) = 0) by decide, if_false]
    rw [hs] at HR
    clear e1
    go_enter Tryz.func59, Tryz.ntmps59
    go_upto_region 1 with fail
    rw [← hW1]
    clear hW1
    go_wp2_with (first | (go_at_call 121; refine HR.mono ?_; rintro e w1 ⟨rfl, h1⟩; obtain rfl : W1 = w1 := h1.symm) | fail)
    go_ret
    obtain ⟨k1, k2, k3⟩ := KEEP.out _ (grown_refl _ _)
    exact ⟨.nilFunc, rfl, k1, k2, k3⟩
  | false =>
    rw [hs] at HR
    by_cases hc : cchk (h.with ps) = 0
    case neg =>
      have e1 : caE p es (h.with ps) = cchk (h.with ps) := by unfold caE; rw [if_neg (by simp [hs]), if_pos hc]
      rw [e1]
      obtain ⟨q, hq⟩ : ∃ q, q = cchk (h.with ps) := ⟨_, rfl⟩
      rw [← hq] at HK hc ⊢
      simp only [hc, if_false]
      have hc' : (q != 0) = true := by simpa using hc
      clear e1 hq hc
      go_enter Tryz.func59, Tryz.ntmps59
      go_upto_region 1 with fail
      rw [← hW1]
      clear hW1
      go_wp2_with (first | (go_at_call 121; refine HR.mono ?_; rintro e w1 ⟨rfl, h1⟩; obtain rfl : W1 = w1 := h1.symm) | (go_at_call 122; refine HK.mono ?_; rintro e w2 ⟨rfl, g2⟩) | fail)
      go_ret
      obtain ⟨k1, k2, k3⟩ := KEEP.out _ g2
      exact ⟨.nilFunc, rfl, k1, k2, k3⟩
    case pos =>
      obtain ⟨f1, f2, f3, f4, f5, f6⟩ := cchk_facts hc
      have f1' : h.nm.size ≤ 281474976710656 := Nat.le_trans f1 (by omega)
      have f3' : ps.length ≤ 4 := f3
      have HN : Hid (Nmd ps) := fun x hx => Nat.le_trans (f4 x hx) (by omega)
      have HSl := HGd.out.slc
      rw [hc] at HK
      by_cases hq : 0 ≤ pos (names es) h.nm
      · have e1 : caE p es (h.with ps) = 5 := by unfold caE; rw [if_neg (by simp [hs]), if_neg (by simp [hc])]; exact if_pos hq
        rw [e1]
        simp only [show ¬ ((5 : Int) = 0) by decide, if_false]
        have hd : decide (0 ≤ pos (names es) h.nm) = true := decide_eq_true hq
        clear e1 hq f1 f2 f3 f4 f5 f6 hc
        go_enter Tryz.func59, Tryz.ntmps59
        go_upto_region 1 with fail
        rw [← hW1]
        clear hW1
        go_wp2_with (first | (go_at_call 121; refine HR.mono ?_; rintro e w1 ⟨rfl, h1⟩; obtain rfl : W1 = w1 := h1.symm) | (go_at_call 122; refine HK.mono ?_; rintro e w2 ⟨rfl, g2⟩; have d0 := (HC1.out.keep g2).cells.1) | (go_at_call 123; refine (has_yes b es p h.nm _ (HB1.out.keep g2) HSl).mono ?_; rintro e w3 ⟨rfl, g3⟩; rw [hd]) | fail)
        go_ret
        obtain ⟨k1, k2, k3⟩ := KEEP.out _ (grown_trans g2 g3)
        exact ⟨.nilFunc, rfl, k1, k2, k3⟩
      · have hd : decide (0 ≤ pos (names es) h.nm) = false := decide_eq_false hq
        have HQ : Hid (¬ 0 ≤ pos (names es) h.nm) := hq
        by_cases hl : es.length = 64
        · have e1 : caE p es (h.with ps) = 14 := by unfold caE; rw [if_neg (by simp [hs]), if_neg (by simp [hc]), if_neg (show ¬ 0 ≤ pos (names es) (h.with ps).nm from hq), if_pos hl]
          rw [e1]
          simp only [show ¬ ((14 : Int) = 0) by decide, if_false]
          clear e1 hq f1 f2 f3 f4 f5 f6 hc
          have hl' : ((es.length : Int) == 64) = true := by simp; omega
          have HL : Hid (es.length = 64) := hl
          clear hl
          go_enter Tryz.func59, Tryz.ntmps59
          go_upto_region 1 with fail
          rw [← hW1]
          clear hW1
          go_wp2_with (first | (go_at_call 121; refine HR.mono ?_; rintro e w1 ⟨rfl, h1⟩; obtain rfl : W1 = w1 := h1.symm) | (go_at_call 122; refine HK.mono ?_; rintro e w2 ⟨rfl, g2⟩; have d0 := (HC1.out.keep g2).cells.1) | (go_at_call 123; refine (has_yes b es p h.nm _ (HB1.out.keep g2) HSl).mono ?_; rintro e w3 ⟨rfl, g3⟩; rw [hd]; have n3 := (HB1.out.keep (grown_trans g2 g3)).flags.count) | fail)
          go_ret
          obtain ⟨k1, k2, k3⟩ := KEEP.out _ (grown_trans g2 g3)
          exact ⟨.nilFunc, rfl, k1, k2, k3⟩
        · have hl64 : es.length < 64 := by have := HB1.out.len; omega
          have e1 : caE p es (h.with ps) = 0 := by unfold caE; rw [if_neg (by simp [hs]), if_neg (by simp [hc]), if_neg (show ¬ 0 ≤ pos (names es) (h.with ps).nm from hq), if_neg hl]
          rw [e1]
          simp only [if_true]
          clear e1 hq f1 f2 f3 f4 f5 f6 hc
          have hl' : ((es.length : Int) == 64) = false := by simp; omega
          have HL : Hid (es.length < 64) := hl64
          have HRk : Hid (AheadTo es h (rk es h)) := rk_ahead es h hS
          have HRl : Hid (rk es h ≤ es.length) := rk_le es h
          clear hl hl64
          go_enter Tryz.func59, Tryz.ntmps59
          go_upto_region 1 with fail
          rw [← hW1]
          clear hW1
          go_wp2_with (first | (go_at_call 121; refine HR.mono ?_; rintro e w1 ⟨rfl, h1⟩; obtain rfl : W1 = w1 := h1.symm) | (go_at_call 122; refine HK.mono ?_; rintro e w2 ⟨rfl, g2⟩; have d0 := (HC1.out.keep g2).cells.1) | (go_at_call 123; refine (has_yes b es p h.nm _ (HB1.out.keep g2) HSl).mono ?_; rintro e w3 ⟨rfl, g3⟩; rw [hd]; have HG3 : Hid (W1.grownBy w3 none) := grown_trans g2 g3; have n3 := (HB1.out.keep HG3.out).flags.count; clear d0; obtain ⟨x0, x1, x2, x3, x4, x5, x6, x7, x8⟩ := (HC1.out.keep HG3.out).cells) | (go_at_call 125; refine (own_any h (.slice a ps.length c) ps _ (HP1.out.keep HG3.out) f3' f1' HN.out).mono ?_; rintro e w4 ⟨u, rfl, o4, g4⟩; have HO4 : Hid (POwn w4 w3.heap.size u ps) := o4; have HG4 : Hid (W1.grownBy w4 none) := grown_trans HG3.out g4; clear o4 x0 x1 x2 x3 x4 x5 x6 x7 x8 n3) | (go_at_call 124; refine (insert_any b es p h u ps (rk es h) _ (HB1.out.keep HG4.out) HSl (by obtain ⟨y, z, e5⟩ := HO4.out.at.form; exact ⟨_, _, _, e5⟩) HL.out HRk.out HRl.out).mono ?_; rintro e w5 ⟨⟨r, rfl⟩, J5, g5⟩) | fail)
          go_ret
          have hw3 : w.heap.size ≤ w3.heap.size := Nat.le_trans HG1.out.size HG3.out.size
          have O5 : PsOk (fun k => ok k ∨ w.heap.size ≤ k) w5 u ps := ((pown_ok HO4.out).mono (ok' := fun k => w.heap.size ≤ k) (fun k hk => Nat.le_trans hw3 hk)).keepR g5 (fun k hk e => by cases e; omega) |>.mono (fun _ h => Or.inr h)
          have G5 : Good (fun k => ok k ∨ w.heap.size ≤ k) w5 es := ((HGd.out.keep HG4.out).keepR g5 (fun k hk e => by cases e; exact hok hk)).mono (fun _ h => Or.inl h)
          refine ⟨u, rfl, J5, fun e he => ?_, grown_own' (grown_trans HG1.out HG4.out) g5⟩
          rcases (ins_mem es ⟨h, u, ps⟩ e).1 he with rfl | he
          · exact O5
          · exact G5 e he
end Go.Proofs.YthfjgpjcepmnmaaGreat
