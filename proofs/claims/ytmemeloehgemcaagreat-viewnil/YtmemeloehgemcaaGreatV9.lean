/-
  The order of cards, plainly: it is strict, and two cards of unlike names stand one ahead of the other; a card laid at its place leaves a list in order.
  Card: a card is added, or refused.
  Seal: a book is sealed, or refused.
-/
import Derived.Test.YtmemeloehgemcaaGreatV7
import Derived.Lib.MinMaxS
import Derived.Test.YtmemeloehgemcaaGreatV8
namespace Go.Proofs.YtmemeloehgemcaaGreat
open Go.RowKit

theorem bLt_eq (s t : ByteArray) : bLt s t = decide (s.data.toList < t.data.toList) := by
  unfold bLt
  rw [Go.Proofs.bytesLess_eq, Lib.toList_data, Lib.toList_data]
theorem data_inj {s t : ByteArray} (h : s.data.toList = t.data.toList) : s = t := bytes_inj (by rw [Lib.toList_data, Lib.toList_data, h])
def Ahd (a b : Hd) : Prop := a.su < b.su ∨ (a.su = b.su ∧ a.nm.data.toList < b.nm.data.toList)
theorem ord_lt (a b : Hd) : ord a b < 0 ↔ Ahd a b := by
  unfold ord orV cI cB Ahd
  rw [bLt_eq]
  by_cases h1 : a.su < b.su
  · simp [h1]
  · by_cases h2 : b.su < a.su
    · have : ¬ a.su = b.su := by omega
      simp [h1, h2, this]
    · have e : a.su = b.su := by omega
      rw [if_neg h1, if_neg h2, if_pos rfl]
      by_cases h3 : a.nm.data.toList < b.nm.data.toList
      · rw [decide_eq_true h3, if_pos rfl]
        exact ⟨fun _ => Or.inr ⟨e, h3⟩, fun _ => by decide⟩
      · rw [decide_eq_false h3, if_neg (by decide)]
        constructor
        · intro h
          split at h <;> omega
        · rintro (h | ⟨_, h⟩)
          · omega
          · exact absurd h h3
theorem Ahd.irrefl (a : Hd) : ¬ Ahd a a := by
  rintro (h | ⟨_, h⟩)
  · omega
  · exact List.lt_irrefl _ h
theorem Ahd.trans {a b c : Hd} (h : Ahd a b) (k : Ahd b c) : Ahd a c := by
  rcases h with h | ⟨h, h'⟩ <;> rcases k with k | ⟨k, k'⟩
  · exact Or.inl (by omega)
  · exact Or.inl (by omega)
  · exact Or.inl (by omega)
  · exact Or.inr ⟨by omega, List.lt_trans h' k'⟩
theorem Ahd.tri {a b : Hd} (h : ¬ a.nm = b.nm) : Ahd a b ∨ Ahd b a := by
  rcases (show a.su < b.su ∨ b.su < a.su ∨ a.su = b.su by omega) with k | k | k
  · exact Or.inl (Or.inl k)
  · exact Or.inr (Or.inl k)
  · by_cases h1 : a.nm.data.toList < b.nm.data.toList
    · exact Or.inl (Or.inr ⟨k, h1⟩)
    · refine Or.inr (Or.inr ⟨k.symm, ?_⟩)
      by_cases h2 : b.nm.data.toList < a.nm.data.toList
      · exact h2
      · exact absurd (data_inj (List.le_antisymm (List.not_lt.1 h2) (List.not_lt.1 h1))) h
def Srt (es : List Ent) : Prop := es.Pairwise fun a b => Ahd a.h b.h
/-- How many stand ahead of a card. -/
def rk : List Ent → Hd → Nat
  | [], _ => 0
  | e :: r, h => if ord e.h h < 0 then rk r h + 1 else 0
theorem rk_le : ∀ (es : List Ent) (h : Hd), rk es h ≤ es.length
  | [], _ => Nat.le_refl _
  | e :: r, h => by
    have := rk_le r h
    simp only [rk, List.length_cons]
    split <;> omega
theorem rk_ahead : ∀ (es : List Ent) (h : Hd), Srt es → AheadTo es h (rk es h)
  | [], h, _, j, e, he => by simp at he
  | x :: r, h, hs, j, e, he => by
    unfold Srt at hs
    rw [List.pairwise_cons] at hs
    simp only [rk]
    cases j with
    | zero =>
      obtain rfl : x = e := by simpa using he
      split
      · simp_all
      · simp_all
    | succ j =>
      have he' : r[j]? = some e := by simpa using he
      split
      · rw [rk_ahead r h hs.2 j e he']; omega
      · rename_i hx
        have hxe := hs.1 e (List.mem_of_getElem? he')
        constructor
        · intro k
          rw [ord_lt] at hx k
          exact absurd (hxe.trans k) hx
        · intro k; omega
def ins (es : List Ent) (e : Ent) : List Ent := es.take (rk es e.h) ++ e :: es.drop (rk es e.h)
theorem ins_cons (x : Ent) (r : List Ent) (e : Ent) : ins (x :: r) e = if ord x.h e.h < 0 then x :: ins r e else e :: x :: r := by
  unfold ins
  simp only [rk]
  split <;> simp
theorem ins_mem (es : List Ent) (e x : Ent) : x ∈ ins es e ↔ x = e ∨ x ∈ es := by
  induction es with
  | nil => simp [ins]
  | cons y r ih =>
    rw [ins_cons]
    split
    · simp only [List.mem_cons, ih]
      constructor
      · rintro (h | h | h) <;> simp [h]
      · rintro (h | h | h) <;> simp [h]
    · simp
theorem ins_srt (es : List Ent) (e : Ent) (hs : Srt es) (hn : ∀ x ∈ es, ¬ x.h.nm = e.h.nm) : Srt (ins es e) := by
  induction es with
  | nil => simp [ins, Srt]
  | cons y r ih =>
    unfold Srt at hs ih ⊢
    rw [List.pairwise_cons] at hs
    rw [ins_cons]
    split
    · rename_i hy
      rw [ord_lt] at hy
      rw [List.pairwise_cons]
      refine ⟨fun x hx => ?_, ih hs.2 (fun x hx => hn x (by simp [hx]))⟩
      rcases (ins_mem r e x).1 hx with rfl | hx
      · exact hy
      · exact hs.1 x hx
    · rename_i hy
      rw [ord_lt] at hy
      have he : Ahd e.h y.h := (Ahd.tri (hn y (by simp))).resolve_left hy
      rw [List.pairwise_cons]
      refine ⟨fun x hx => ?_, by rw [List.pairwise_cons]; exact hs⟩
      rcases List.mem_cons.1 hx with rfl | hx
      · exact he
      · exact he.trans (hs.1 x hx)
theorem ins_len (es : List Ent) (e : Ent) : (ins es e).length = es.length + 1 := by
  have := rk_le es e.h
  unfold ins
  simp
  omega
/-- Names of what may be can be copied. -/
theorem chkPs_all : ∀ (kd : Int) (ps : List Pt), chkPs kd ps = 0 → ∀ p ∈ ps, chk p = 0
  | kd, [], _, p, h => by simp at h
  | kd, q :: r, h, p, hp => by
    unfold chkPs at h
    by_cases h1 : chk q = 0
    · rw [if_neg (by simp [h1])] at h
      by_cases h2 : mayH kd q.wn = false
      · rw [if_pos h2] at h; omega
      · rw [if_neg h2] at h
        rcases List.mem_cons.1 hp with rfl | hp
        · exact h1
        · exact chkPs_all kd r h p hp
    · rw [if_pos h1] at h; exact absurd h h1
theorem chk_name {p : Pt} (h : chk p = 0) : p.nm.size ≤ 20 := by
  unfold chk at h
  have hn : nfit p = true := by
    cases hq : nfit p with
    | true => rfl
    | false =>
      rw [hq] at h
      split at h
      · omega
      · split at h
        · omega
        · split at h
          · omega
          · split at h
            · omega
            · simp at h
  rw [Lib.size_eq]
  unfold nfit at hn
  split at hn
  · exact (name_facts hn).2
  · have := of_decide_eq_true hn
    rw [this]; simp
theorem cchk_facts {c : Cd} (h : cchk c = 0) : c.nm.size ≤ 20 ∧ ¬ c.nm = ⟨#[]⟩ ∧ c.ps.length ≤ 4 ∧ (∀ p ∈ c.ps, p.nm.size ≤ 20) ∧ 1 ≤ c.su ∧ c.su ≤ 6 := by
  unfold cchk at h
  split at h
  · omega
  · rename_i h1
    split at h
    · omega
    · rename_i h2
      split at h
      · omega
      · split at h
        · omega
        · split at h
          · omega
          · rename_i h5
            have hn : nameOk c.nm.data.toList = true := by cases hq : nameOk c.nm.data.toList with
              | true => rfl
              | false => exact absurd hq h1
            refine ⟨by rw [Lib.size_eq]; exact (name_facts hn).2, fun e => ?_, by omega, fun p hp => chk_name (chkPs_all _ _ h p hp), by omega, by omega⟩
            rw [e] at hn
            cases hn
end Go.Proofs.YtmemeloehgemcaaGreat
namespace Go.Proofs.YtmemeloehgemcaaGreat
open Go.RowKit

/-- What Card tells. -/
def caE (p : Pl) (es : List Ent) (c : Cd) : Int := if p.shut = true then 7 else if ¬ cchk c = 0 then cchk c else if 0 ≤ pos (names es) c.nm then 5 else if es.length = 64 then 14 else 0
theorem pown_ok {w : World} {base : Nat} {v : Value} {ps : List Pt} (h : POwn w base v ps) : PsOk (fun k => base ≤ k) w v ps := by
  refine ⟨h.at, fun g o n c e hn => ?_⟩
  refine h.block g ?_
  rw [e]
  rfl
set_option maxRecDepth 100000 in
theorem card_no (v0 : Value) (h : Hd) (v : Value) (w : World) (hv : ∃ a n c, v = .slice a n c) (hb : NoBk w v0) : Calls Tryz.prog 41 #[v0, cv h v] w fun e w' => e = .returned (.int .i64 1) ∧ w.grownBy w' none := by
  obtain ⟨a, n, c, rfl⟩ := hv
  obtain ⟨W1, hW1⟩ : ∃ W1, W1 = w.alloc (.cells (ccs h (.slice a n c)) 88) := ⟨_, rfl⟩
  have HG1 : Hid (w.grownBy W1 none) := by rw [hW1]; exact World.grownBy_alloc _ _ none
  have H : Hid (NoBk W1 v0) := hb.keep HG1.out
  unfold ccs at hW1
  unfold cv
  clear hb
  go_enter Tryz.func41, Tryz.ntmps41
  go_upto_region 1 with fail
  rw [← hW1]
  clear hW1
  go_wp2_with (first | (go_at_call 79; refine (refusal_no _ _ H.out).mono ?_; rintro e w1 ⟨rfl, h1⟩; obtain rfl : W1 = w1 := h1.symm) | fail)
  go_ret
  exact ⟨rfl, HG1.out⟩
set_option maxRecDepth 100000 in
set_option maxHeartbeats 2000000 in
theorem card_yes (ok : Nat → Prop) (b : Nat) (es : List Ent) (p : Pl) (h : Hd) (v : Value) (ps : List Pt) (w : World) (hB : BkIn w b es p) (hG : Good ok w es) (hS : Srt es) (hok : ¬ ok b) (hp : PsAt w v ps) (hm : Small ps.length) : Calls Tryz.prog 41 #[.pointer (some ⟨b, 0, none⟩), cv h v] w fun e w' => ∃ u, e = .returned (.int .i64 (caE p es (h.with ps))) ∧ BkIn w' b (if caE p es (h.with ps) = 0 then ins es ⟨h, u, ps⟩ else es) p ∧ Good (fun k => ok k ∨ w.heap.size ≤ k) w' (if caE p es (h.with ps) = 0 then ins es ⟨h, u, ps⟩ else es) ∧ w.grownBy w' (some b) := by
  obtain ⟨a, c, rfl⟩ := hp.form
  obtain ⟨W1, hW1⟩ : ∃ W1, W1 = w.alloc (.cells (ccs h (.slice a ps.length c)) 88) := ⟨_, rfl⟩
  have HG1 : Hid (w.grownBy W1 none) := by rw [hW1]; exact World.grownBy_alloc _ _ none
  have HC1 : Hid (CAt W1 w.heap.size h (.slice a ps.length c)) := by rw [hW1]; exact alloc_at w _ _
  have HB1 : Hid (BkIn W1 b es p) := hB.keep HG1.out
  have HGd : Hid (Good ok W1 es) := hG.keep HG1.out
  have HP1 : Hid (PsAt W1 (.slice a ps.length c) ps) := hp.keep HG1.out
  have hbs : b < w.heap.size := by obtain ⟨j, J⟩ := hB; exact block_lt J.lies
  have HR := refusal_yes b es.length p W1 HB1.out.flags
  have HK := ccheck_any h (.slice a ps.length c) ps W1 HP1.out hm
  obtain ⟨c0, c1, c2, c3, c4, c5, c6, c7, c8⟩ := HC1.out.cells
  have KEEP : Hid (∀ W2, W1.grownBy W2 none → BkIn W2 b es p ∧ Good (fun k => ok k ∨ w.heap.size ≤ k) W2 es ∧ w.grownBy W2 (some b)) := fun W2 g => ⟨HB1.out.keep g, (HGd.out.keep g).mono (fun _ h => Or.inl h), grown_own' (grown_trans HG1.out g) (grown_refl _ _)⟩
  unfold ccs at hW1
  unfold cv at HK ⊢
  clear hB hG hp
  cases hs : p.shut with
  | true =>
    have e1 : caE p es (h.with ps) = 7 := if_pos hs
    rw [e1]
    simp only [show ¬ ((7 : Int) = 0) by decide, if_false]
    rw [hs] at HR
    clear e1
    go_enter Tryz.func41, Tryz.ntmps41
    go_upto_region 1 with fail
    rw [← hW1]
    clear hW1
    go_wp2_with (first | (go_at_call 79; refine HR.mono ?_; rintro e w1 ⟨rfl, h1⟩; obtain rfl : W1 = w1 := h1.symm) | fail)
    go_ret
    obtain ⟨k1, k2, k3⟩ := KEEP.out _ (grown_refl _ _)
    exact ⟨.nilFunc, rfl, k1, k2, k3⟩
  | false =>
    rw [hs] at HR
    by_cases hc : cchk (h.with ps) = 0
    case neg =>
      have e1 : caE p es (h.with ps) = cchk (h.with ps) := by unfold caE; rw [if_neg (by simp [hs]), if_pos hc]
      rw [e1]
      obtain ⟨q, hq⟩ : ∃ q, q = cchk (h.with ps) := ⟨_, rfl⟩
      rw [← hq] at HK hc ⊢
      simp only [hc, if_false]
      have hc' : (q != 0) = true := by simpa using hc
      clear e1 hq hc
      go_enter Tryz.func41, Tryz.ntmps41
      go_upto_region 1 with fail
      rw [← hW1]
      clear hW1
      go_wp2_with (first | (go_at_call 79; refine HR.mono ?_; rintro e w1 ⟨rfl, h1⟩; obtain rfl : W1 = w1 := h1.symm) | (go_at_call 80; refine HK.mono ?_; rintro e w2 ⟨rfl, g2⟩) | fail)
      go_ret
      obtain ⟨k1, k2, k3⟩ := KEEP.out _ g2
      exact ⟨.nilFunc, rfl, k1, k2, k3⟩
    case pos =>
      obtain ⟨f1, f2, f3, f4, f5, f6⟩ := cchk_facts hc
      have f1' : h.nm.size ≤ 281474976710656 := Nat.le_trans f1 (by omega)
      have f3' : ps.length ≤ 4 := f3
      have HN : Hid (Nmd ps) := fun x hx => Nat.le_trans (f4 x hx) (by omega)
      have HSl := HGd.out.slc
      rw [hc] at HK
      by_cases hq : 0 ≤ pos (names es) h.nm
      · have e1 : caE p es (h.with ps) = 5 := by unfold caE; rw [if_neg (by simp [hs]), if_neg (by simp [hc])]; exact if_pos hq
        rw [e1]
        simp only [show ¬ ((5 : Int) = 0) by decide, if_false]
        have hd : decide (0 ≤ pos (names es) h.nm) = true := decide_eq_true hq
        clear e1 hq f1 f2 f3 f4 f5 f6 hc
        go_enter Tryz.func41, Tryz.ntmps41
        go_upto_region 1 with fail
        rw [← hW1]
        clear hW1
        go_wp2_with (first | (go_at_call 79; refine HR.mono ?_; rintro e w1 ⟨rfl, h1⟩; obtain rfl : W1 = w1 := h1.symm) | (go_at_call 80; refine HK.mono ?_; rintro e w2 ⟨rfl, g2⟩; have d0 := (HC1.out.keep g2).cells.1) | (go_at_call 81; refine (has_yes b es p h.nm _ (HB1.out.keep g2) HSl).mono ?_; rintro e w3 ⟨rfl, g3⟩; rw [hd]) | fail)
        go_ret
        obtain ⟨k1, k2, k3⟩ := KEEP.out _ (grown_trans g2 g3)
        exact ⟨.nilFunc, rfl, k1, k2, k3⟩
      · have hd : decide (0 ≤ pos (names es) h.nm) = false := decide_eq_false hq
        have HQ : Hid (¬ 0 ≤ pos (names es) h.nm) := hq
        by_cases hl : es.length = 64
        · have e1 : caE p es (h.with ps) = 14 := by unfold caE; rw [if_neg (by simp [hs]), if_neg (by simp [hc]), if_neg (show ¬ 0 ≤ pos (names es) (h.with ps).nm from hq), if_pos hl]
          rw [e1]
          simp only [show ¬ ((14 : Int) = 0) by decide, if_false]
          clear e1 hq f1 f2 f3 f4 f5 f6 hc
          have hl' : ((es.length : Int) == 64) = true := by simp; omega
          have HL : Hid (es.length = 64) := hl
          clear hl
          go_enter Tryz.func41, Tryz.ntmps41
          go_upto_region 1 with fail
          rw [← hW1]
          clear hW1
          go_wp2_with (first | (go_at_call 79; refine HR.mono ?_; rintro e w1 ⟨rfl, h1⟩; obtain rfl : W1 = w1 := h1.symm) | (go_at_call 80; refine HK.mono ?_; rintro e w2 ⟨rfl, g2⟩; have d0 := (HC1.out.keep g2).cells.1) | (go_at_call 81; refine (has_yes b es p h.nm _ (HB1.out.keep g2) HSl).mono ?_; rintro e w3 ⟨rfl, g3⟩; rw [hd]; have n3 := (HB1.out.keep (grown_trans g2 g3)).flags.count) | fail)
          go_ret
          obtain ⟨k1, k2, k3⟩ := KEEP.out _ (grown_trans g2 g3)
          exact ⟨.nilFunc, rfl, k1, k2, k3⟩
        · have hl64 : es.length < 64 := by have := HB1.out.len; omega
          have e1 : caE p es (h.with ps) = 0 := by unfold caE; rw [if_neg (by simp [hs]), if_neg (by simp [hc]), if_neg (show ¬ 0 ≤ pos (names es) (h.with ps).nm from hq), if_neg hl]
          rw [e1]
          simp only [if_true]
          clear e1 hq f1 f2 f3 f4 f5 f6 hc
          have hl' : ((es.length : Int) == 64) = false := by simp; omega
          have HL : Hid (es.length < 64) := hl64
          have HRk : Hid (AheadTo es h (rk es h)) := rk_ahead es h hS
          have HRl : Hid (rk es h ≤ es.length) := rk_le es h
          clear hl hl64
          go_enter Tryz.func41, Tryz.ntmps41
          go_upto_region 1 with fail
          rw [← hW1]
          clear hW1
          go_wp2_with (first | (go_at_call 79; refine HR.mono ?_; rintro e w1 ⟨rfl, h1⟩; obtain rfl : W1 = w1 := h1.symm) | (go_at_call 80; refine HK.mono ?_; rintro e w2 ⟨rfl, g2⟩; have d0 := (HC1.out.keep g2).cells.1) | (go_at_call 81; refine (has_yes b es p h.nm _ (HB1.out.keep g2) HSl).mono ?_; rintro e w3 ⟨rfl, g3⟩; rw [hd]; have HG3 : Hid (W1.grownBy w3 none) := grown_trans g2 g3; have n3 := (HB1.out.keep HG3.out).flags.count; clear d0; obtain ⟨x0, x1, x2, x3, x4, x5, x6, x7, x8⟩ := (HC1.out.keep HG3.out).cells) | (go_at_call 83; refine (own_any h (.slice a ps.length c) ps _ (HP1.out.keep HG3.out) f3' f1' HN.out).mono ?_; rintro e w4 ⟨u, rfl, o4, g4⟩; have HO4 : Hid (POwn w4 w3.heap.size u ps) := o4; have HG4 : Hid (W1.grownBy w4 none) := grown_trans HG3.out g4; clear o4 x0 x1 x2 x3 x4 x5 x6 x7 x8 n3) | (go_at_call 82; refine (insert_any b es p h u ps (rk es h) _ (HB1.out.keep HG4.out) HSl (by obtain ⟨y, z, e5⟩ := HO4.out.at.form; exact ⟨_, _, _, e5⟩) HL.out HRk.out HRl.out).mono ?_; rintro e w5 ⟨⟨r, rfl⟩, J5, g5⟩) | fail)
          go_ret
          have hw3 : w.heap.size ≤ w3.heap.size := Nat.le_trans HG1.out.size HG3.out.size
          have O5 : PsOk (fun k => ok k ∨ w.heap.size ≤ k) w5 u ps := ((pown_ok HO4.out).mono (ok' := fun k => w.heap.size ≤ k) (fun k hk => Nat.le_trans hw3 hk)).keepR g5 (fun k hk e => by cases e; omega) |>.mono (fun _ h => Or.inr h)
          have G5 : Good (fun k => ok k ∨ w.heap.size ≤ k) w5 es := ((HGd.out.keep HG4.out).keepR g5 (fun k hk e => by cases e; exact hok hk)).mono (fun _ h => Or.inl h)
          refine ⟨u, rfl, J5, fun e he => ?_, grown_own' (grown_trans HG1.out HG4.out) g5⟩
          rcases (ins_mem es ⟨h, u, ps⟩ e).1 he with rfl | he
          · exact O5
          · exact G5 e he
end Go.Proofs.YtmemeloehgemcaaGreat
namespace Go.Proofs.YtmemeloehgemcaaGreat
open Go.RowKit

def kdAt (es : List Ent) (n : Nat) : Int := match es[n]? with
  | some e => e.h.kd
  | none => 0
def callE (es : List Ent) (p : Pt) : Int := if ¬ p.vb = 7 then 0 else if pos (names es) p.nm < 0 then 6 else if kdAt es (pos (names es) p.nm).toNat = 2 then 8 else 0
def callsE (es : List Ent) : List Pt → Int
  | [] => 0
  | p :: r => if ¬ callE es p = 0 then callE es p else callsE es r
def sealL (es : List Ent) : List Ent → Int
  | [] => 0
  | e :: r => if ¬ callsE es e.ps = 0 then callsE es e.ps else sealL es r
def sealE (p : Pl) (es : List Ent) : Int := if p.shut = true then 7 else sealL es es
def sealP (p : Pl) (es : List Ent) : Pl := if sealE p es = 0 then { p with shut := true } else p
set_option maxRecDepth 100000 in
set_option maxHeartbeats 1000000 in
theorem checkCall_any (b : Nat) (es : List Ent) (p : Pl) (x : Pt) (w : World) (hB : BkIn w b es p) (hs : Slc es) : Calls Tryz.prog 96 #[.pointer (some ⟨b, 0, none⟩), pv x] w fun e w' => e = .returned (.int .i64 (callE es x)) ∧ w.grownBy w' none := by
  obtain ⟨wn, vb, wm, ct, su, tr, mr, nm⟩ := x
  obtain ⟨W1, hW1⟩ : ∃ W1, W1 = w.alloc (.cells #[.int .u8 wn, .int .u8 vb, .int .u8 wm, .int .i64 ct, .int .u8 su, .int .u8 tr, .int .u8 mr, .string nm] 47) := ⟨_, rfl⟩
  have HG1 : Hid (w.grownBy W1 none) := by rw [hW1]; exact World.grownBy_alloc _ _ none
  have A : W1.heap[w.heap.size]? = some (.cells #[.int .u8 wn, .int .u8 vb, .int .u8 wm, .int .i64 ct, .int .u8 su, .int .u8 tr, .int .u8 mr, .string nm] 47 (0, 0)) := by rw [hW1]; exact alloc_at w _ _
  have HB1 : Hid (BkIn W1 b es p) := hB.keep HG1.out
  have a1 := block_cell A 1
  have a7 := block_cell A 7
  clear A hB
  unfold pv
  simp only
  by_cases h7 : vb = 7
  case neg =>
    have e1 : callE es ⟨wn, vb, wm, ct, su, tr, mr, nm⟩ = 0 := if_pos h7
    rw [e1]
    have h7' : (vb != 7) = true := by simpa using h7
    clear e1 h7
    go_enter Tryz.func96, Tryz.ntmps96
    go_upto_region 1 with fail
    rw [← hW1]
    clear hW1
    go_wp2
    go_ret
    exact ⟨rfl, HG1.out⟩
  case pos =>
    have e0 : callE es ⟨wn, vb, wm, ct, su, tr, mr, nm⟩ = if pos (names es) nm < 0 then 6 else if kdAt es (pos (names es) nm).toNat = 2 then 8 else 0 := if_neg (by simp [h7])
    have HP := place_yes b es p nm W1 HB1.out hs
    obtain ⟨q, hq⟩ : ∃ q, q = pos (names es) nm := ⟨_, rfl⟩
    have hq1 := pos_low (names es) nm
    rw [names_len] at hq1
    rw [← hq] at HP e0 hq1
    rw [e0]
    subst h7
    have hl := HB1.out.len
    clear hq e0
    by_cases h0 : q < 0
    · rw [if_pos h0]
      clear hq1 hl
      go_enter Tryz.func96, Tryz.ntmps96
      go_upto_region 1 with fail
      rw [← hW1]
      clear hW1
      go_wp2_with (first | (go_at_call 59; refine HP.mono ?_; rintro e w2 ⟨rfl, g2⟩) | fail)
      go_ret
      exact ⟨rfl, grown_trans HG1.out g2⟩
    · rw [if_neg h0]
      obtain ⟨n, rfl⟩ := Int.eq_ofNat_of_zero_le (show 0 ≤ q by omega)
      have hn : n < es.length := by omega
      obtain ⟨e, he⟩ : ∃ e, es[n]? = some e := ⟨_, List.getElem?_eq_getElem hn⟩
      have ek : kdAt es ((n : Int).toNat) = e.h.kd := by show kdAt es n = _; unfold kdAt; rw [he]
      rw [ek]
      have n0 : (0 : Int) ≤ (n : Int) := by omega
      have n6 : (n : Int) < 64 := by omega
      have HK : Hid (∀ W2, W1.grownBy W2 none → W2.cell? ⟨b, n * 9 + 2, none⟩ = some (.int .u8 e.h.kd)) := fun W2 g => by
        have := ((HB1.out.keep g).row n e he).c2
        rwa [Nat.zero_add] at this
      clear ek he hn hq1 hl h0
      by_cases h2 : e.h.kd = 2
      · rw [if_pos h2]
        have h2' : (e.h.kd == 2) = true := by simpa using h2
        clear h2
        go_enter Tryz.func96, Tryz.ntmps96
        go_upto_region 1 with fail
        rw [← hW1]
        clear hW1
        go_wp2_with (first | (go_at_call 59; refine HP.mono ?_; rintro e w2 ⟨rfl, g2⟩; have kk := HK.out _ g2) | fail)
        go_ret
        exact ⟨rfl, grown_trans HG1.out g2⟩
      · rw [if_neg h2]
        have h2' : (e.h.kd == 2) = false := by simpa using h2
        clear h2
        go_enter Tryz.func96, Tryz.ntmps96
        go_upto_region 1 with fail
        rw [← hW1]
        clear hW1
        go_wp2_with (first | (go_at_call 59; refine HP.mono ?_; rintro e w2 ⟨rfl, g2⟩; have kk := HK.out _ g2) | fail)
        go_ret
        exact ⟨rfl, grown_trans HG1.out g2⟩
theorem seal_no (v : Value) (w : World) (h : NoBk w v) : Calls Tryz.prog 46 #[v] w fun e w' => e = .returned (.int .i64 1) ∧ w' = w := by
  go_enter Tryz.func46, Tryz.ntmps46
  go_wp2_with (first | (go_at_call 79; refine (refusal_no _ _ h).mono ?_; rintro e w1 ⟨rfl, h1⟩; obtain rfl : w = w1 := h1.symm) | fail)
  go_ret
  exact ⟨rfl, rfl⟩
theorem BkJ.shutIt {w : World} {b : Nat} {es : List Ent} {junk : List Value} {p : Pl} (h : BkJ w b es junk p) : BkJ (w.setCell ⟨b, 577, none⟩ (.bool true)) b es junk { p with shut := true } := by
  refine ⟨?_, h.fit, h.nine, h.five⟩
  rw [block_set h.lies, List.setIfInBounds_toArray]
  congr 2
  unfold bcells plc
  have h1 := h.fit
  rw [List.set_append_right _ _ (by rw [ecells_len]; omega), List.set_append_right _ _ (by rw [ecells_len]; omega), ecells_len, show 577 - es.length * 9 - junk.length = 1 by omega]
  rfl
/-- What is left to be asked tells the answer. -/
def Left (es : List Ent) (k : Nat) (r : Int) : Prop := sealL es (es.drop k) = r
def LeftP (es : List Ent) (ps : List Pt) (j : Nat) (r : Int) : Prop := callsE es (ps.drop j) = r
theorem left_step {es : List Ent} {k : Nat} {e : Ent} {r : Int} (h : Left es k r) (he : es[k]? = some e) : (if ¬ callsE es e.ps = 0 then callsE es e.ps else sealL es (es.drop (k + 1))) = r := by
  unfold Left at h
  rw [List.drop_eq_getElem_cons (List.getElem?_eq_some_iff.1 he).1, (List.getElem?_eq_some_iff.1 he).2] at h
  exact h
theorem leftP_step {es : List Ent} {ps : List Pt} {j : Nat} {x : Pt} {r : Int} (h : LeftP es ps j r) (hx : ps[j]? = some x) : (if ¬ callE es x = 0 then callE es x else callsE es (ps.drop (j + 1))) = r := by
  unfold LeftP at h
  rw [List.drop_eq_getElem_cons (List.getElem?_eq_some_iff.1 hx).1, (List.getElem?_eq_some_iff.1 hx).2] at h
  exact h
set_option maxRecDepth 100000 in
set_option maxHeartbeats 4000000 in
theorem seal_yes (ok : Nat → Prop) (b : Nat) (es : List Ent) (p : Pl) (w : World) (hB : BkIn w b es p) (hG : Good ok w es) (hL : ∀ e ∈ es, e.ps.length ≤ 4) : Calls Tryz.prog 46 #[.pointer (some ⟨b, 0, none⟩)] w fun e w' => e = .returned (.int .i64 (sealE p es)) ∧ BkIn w' b es (sealP p es) ∧ w.grownBy w' (some b) := by
  have HB : Hid (BkIn w b es p) := hB
  have HGd : Hid (Good ok w es) := hG
  have HLl : Hid (∀ e ∈ es, e.ps.length ≤ 4) := hL
  have HSl := hG.slc
  have HR := refusal_yes b es.length p w hB.flags
  have hl64 := hB.len
  have HLi := list_yes b es.length hl64 p w hB.flags
  have hm' : Small es.length := by unfold Small; omega
  clear hB hG hL
  cases hs : p.shut with
  | true =>
    have e1 : sealE p es = 7 := if_pos hs
    have e2 : sealP p es = p := if_neg (by rw [e1]; decide)
    rw [e1, e2]
    rw [hs] at HR
    clear e1 e2
    go_enter Tryz.func46, Tryz.ntmps46
    go_wp2_with (first | (go_at_call 79; refine HR.mono ?_; rintro e w1 ⟨rfl, h1⟩; obtain rfl : w = w1 := h1.symm) | fail)
    go_ret
    exact ⟨rfl, HB.out, grown_refl _ _⟩
  | false =>
    rw [hs] at HR
    have e1 : sealE p es = sealL es es := if_neg (by simp [hs])
    obtain ⟨r, hr⟩ : ∃ r, sealL es es = r := ⟨_, rfl⟩
    have HE : Hid (sealP p es = if r = 0 then { p with shut := true } else p) := by unfold Hid sealP; rw [e1, hr]
    have H0 : Hid (Left es 0 r) := hr
    rw [e1, hr]
    clear e1 hr
    go_enter Tryz.func46, Tryz.ntmps46
    go_wp2_with (first | (go_at_call 79; refine HR.mono ?_; rintro e w1 ⟨rfl, h1⟩; obtain rfl : w = w1 := h1.symm) | (go_at_call 95; refine HLi.mono ?_; rintro e w1 ⟨rfl, g1, _⟩; have HG1 : Hid (w.grownBy w1 none) := g1; clear g1) | fail)
    go_loopw [17] (fun i wr => ∃ k : Nat, k ≤ es.length ∧ i = .int .i64 k ∧ Left es k r ∧ w.grownBy wr none) (fun i _ => es.length - (intOf i).toNat)
    case atStart => exact ⟨0, Nat.zero_le _, rfl, H0.out, HG1.out⟩
    case round =>
      obtain ⟨k, hk, rfl, R, G⟩ := hrel
      have HG : Hid (w.grownBy wr none) := G
      have HQ : Hid (Left es k r) := R
      clear G R H0 HG1
      rcases (show k = es.length ∨ k < es.length from by omega) with hke | hlt
      · have e : r = 0 := by have := HQ.out; unfold Left at this; rw [hke, List.drop_length] at this; exact this.symm
        subst e
        subst hke
        have JJ := HB.out.keep HG.out
        obtain ⟨junk, J⟩ := JJ
        have s1 := J.flags.shut
        have sf := J.free 577
        have HJ : Hid (BkJ wr b es junk p) := J
        clear J hk hl64 HQ
        go_wp2
        go_ret
        refine ⟨rfl, ?_, grown_own' HG.out (grown_set _ _ _ _)⟩
        rw [HE.out]
        simp only [if_true]
        exact ⟨junk, HJ.out.shutIt⟩
      · have hlt' : (k : Int) < (es.length : Int) := by omega
        have hk0 : (0 : Int) ≤ (k : Int) := by omega
        have hw := hm'.wrap hlt
        obtain ⟨e, he⟩ : ∃ e, es[k]? = some e := ⟨_, List.getElem?_eq_getElem hlt⟩
        have HST : Hid ((if ¬ callsE es e.ps = 0 then callsE es e.ps else sealL es (es.drop (k + 1))) = r) := left_step HQ.out he
        have PS := (HGd.out e (List.mem_of_getElem? he)).1.keep HG.out
        have hp4 := HLl.out e (List.mem_of_getElem? he)
        have D := (HB.out.keep HG.out).row k e he
        rw [Nat.zero_add] at D
        obtain ⟨hd, v, ps⟩ := e
        simp only at HST PS hp4 D
        obtain ⟨a, c, rfl⟩ := PS.form
        obtain ⟨d0, d1, d2, d3, d4, d5, d6, d7, d8⟩ := D
        obtain ⟨W2, hW2⟩ : ∃ W2, W2 = wr.alloc (.cells (ccs hd (.slice a ps.length c)) 88) := ⟨_, rfl⟩
        have HW2 : Hid (wr.grownBy W2 none) := by rw [hW2]; exact World.grownBy_alloc _ _ none
        have HC2 : Hid (CAt W2 wr.heap.size hd (.slice a ps.length c)) := by rw [hW2]; exact alloc_at wr _ _
        have HPS : Hid (PsAt W2 (.slice a ps.length c) ps) := PS.keep HW2.out
        have hmp : Small ps.length := by unfold Small; omega
        unfold ccs at hW2
        clear he PS HQ
        go_upto_region 7 with fail
        rw [← hW2]
        have z8 := HC2.out.cells.2.2.2.2.2.2.2.2
        clear hW2 d0 d1 d2 d3 d4 d5 d6 d7 d8
        obtain ⟨q, hq⟩ : ∃ q, callsE es ps = q := ⟨_, rfl⟩
        rw [hq] at HST
        have HQ0 : Hid (LeftP es ps 0 q) := hq
        clear hq
        obtain ⟨wo, ho⟩ : ∃ wo, wo = wr := ⟨_, rfl⟩
        subst ho
        go_wp2_with fail
        go_loopw [24] (fun i wr2 => ∃ j : Nat, j ≤ ps.length ∧ i = .int .i64 j ∧ LeftP es ps j q ∧ W2.grownBy wr2 none) (fun i _ => ps.length - (intOf i).toNat)
        case atStart => exact ⟨0, Nat.zero_le _, rfl, HQ0.out, grown_refl _ _⟩
        case round =>
          obtain ⟨j, hj, rfl, R2, G2⟩ := hrel
          have HG2 : Hid (W2.grownBy wr none) := G2
          have HQ2 : Hid (LeftP es ps j q) := R2
          clear R2 G2 HQ0
          have HGw : Hid (w.grownBy wr none) := grown_trans (grown_trans HG.out HW2.out) HG2.out
          rcases (show j = ps.length ∨ j < ps.length from by omega) with hje | hjt
          · have e : q = 0 := by have := HQ2.out; unfold LeftP at this; rw [hje, List.drop_length] at this; exact this.symm
            have HN : Hid (Left es (k + 1) r) := by have := HST.out; rw [e] at this; exact this
            subst hje
            clear HST HQ2 hj e hp4
            go_wp2_with fail
            go_roundw
            case rel => exact ⟨k + 1, hlt, by first | rfl | (rw [hw]; rfl), HN.out, HGw.out⟩
            case measure => first | exact meas_next hlt | (rw [hw]; exact meas_next hlt)
          · have hjt' : (j : Int) < (ps.length : Int) := by omega
            have hj0 : (0 : Int) ≤ (j : Int) := by omega
            have hwj := hmp.wrap hjt
            obtain ⟨g, o, cap2, ev, PA⟩ := HPS.out.part (by omega)
            injection ev with e1 _ e3
            subst e1
            subst e3
            obtain ⟨x, hx⟩ : ∃ x, ps[j]? = some x := ⟨_, List.getElem?_eq_getElem hjt⟩
            have HSTP : Hid ((if ¬ callE es x = 0 then callE es x else callsE es (ps.drop (j + 1))) = q) := leftP_step HQ2.out hx
            obtain ⟨p0, p1, p2, p3, p4, p5, p6, p7⟩ := (PA j x hx).keep HG2.out
            have HB3 : Hid (∀ W3, wr.grownBy W3 none → BkIn W3 b es p) := fun W3 g3 => HB.out.keep (grown_trans HGw.out g3)
            clear PA hx HQ2
            obtain ⟨x0, x1, x2, x3, x4, x5, x6, x7⟩ := x
            simp only at p0 p1 p2 p3 p4 p5 p6 p7
            obtain ⟨W3, hW3⟩ : ∃ W3, W3 = wr.alloc (.cells #[.int .u8 x0, .int .u8 x1, .int .u8 x2, .int .i64 x3, .int .u8 x4, .int .u8 x5, .int .u8 x6, .string x7] 47) := ⟨_, rfl⟩
            have HW3 : Hid (wr.grownBy W3 none) := by rw [hW3]; exact World.grownBy_alloc _ _ none
            have A3 : W3.heap[wr.heap.size]? = some (.cells #[.int .u8 x0, .int .u8 x1, .int .u8 x2, .int .i64 x3, .int .u8 x4, .int .u8 x5, .int .u8 x6, .string x7] 47 (0, 0)) := by rw [hW3]; exact alloc_at wr _ _
            have HCC := checkCall_any b es p ⟨x0, x1, x2, x3, x4, x5, x6, x7⟩ W3 (HB3.out _ HW3.out) HSl
            unfold pv at HCC
            simp only at HCC
            obtain ⟨t, ht⟩ : ∃ t, callE es ⟨x0, x1, x2, x3, x4, x5, x6, x7⟩ = t := ⟨_, rfl⟩
            rw [ht] at HCC HSTP
            clear ht
            go_upto_region 10 with fail
            rw [← hW3]
            clear hW3 p0 p1 p2 p3 p4 p5 p6 p7
            have y0 := block_cell A3 0
            have y1 := block_cell A3 1
            have y2 := block_cell A3 2
            have y3 := block_cell A3 3
            have y4 := block_cell A3 4
            have y5 := block_cell A3 5
            have y6 := block_cell A3 6
            have y7 := block_cell A3 7
            clear A3
            by_cases ht0 : t = 0
            · have HN : Hid (LeftP es ps (j + 1) q) := by have := HSTP.out; rw [if_neg (by simp [ht0])] at this; exact this
              have ht' : (t != 0) = false := by simp [ht0]
              subst ht0
              clear HSTP
              go_wp2_with (first | (go_at_call 96; refine HCC.mono ?_; rintro e w4 ⟨rfl, g4⟩; have HG4 : Hid (W2.grownBy w4 none) := grown_trans (grown_trans HG2.out HW3.out) g4) | fail)
              go_roundw
              case rel => exact ⟨j + 1, hjt, by first | rfl | (rw [hwj]; rfl), HN.out, HG4.out⟩
              case measure => first | exact meas_next hjt | (rw [hwj]; exact meas_next hjt)
            · have e1 : t = q := by have := HSTP.out; rw [if_pos ht0] at this; exact this
              have e2 : q = r := by have := HST.out; rw [if_pos (by rw [← e1]; exact ht0)] at this; exact this
              have ht' : (t != 0) = true := by simpa using ht0
              have HE' : Hid (sealP p es = p) := by have := HE.out; rw [if_neg (by rw [← e2, ← e1]; exact ht0)] at this; exact this
              have HT : Hid (t = r) := e1.trans e2
              clear HSTP HST HE e1 e2 ht0
              go_wp2_with (first | (go_at_call 96; refine HCC.mono ?_; rintro e w4 ⟨rfl, g4⟩; have HG4 : Hid (wr.grownBy w4 none) := grown_trans HW3.out g4) | fail)
              go_ret
              refine ⟨ret_int HT.out, ?_, grown_own' (grown_trans HGw.out HG4.out) (grown_refl _ _)⟩
              rw [HE'.out]
              exact HB3.out _ HG4.out
end Go.Proofs.YtmemeloehgemcaaGreat
