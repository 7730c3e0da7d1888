/-
  Deal of every list and every two numbers, of the program and of the document: the same answers.
-/
import Derived.Test.YtjjgipklhdofhaaPlRd
namespace Go.Proofs.Ytjjgipklhdofhaa
open Go.RowKit

theorem deal_nats {n : Nat} {h e : Int} (hok : dealOk n h e) : ∃ H E : Nat, h = (H : Int) ∧ e = (E : Int) ∧ 1 ≤ H ∧ H ≤ 64 ∧ E * H ≤ n := by
  obtain ⟨h1, h2, h3, h4⟩ := hok
  obtain ⟨H, rfl⟩ : ∃ H : Nat, h = (H : Int) := ⟨h.toNat, by omega⟩
  obtain ⟨E, rfl⟩ : ∃ E : Nat, e = (E : Int) := ⟨e.toNat, by omega⟩
  rw [← Int.natCast_mul] at h4
  exact ⟨H, E, rfl, rfl, by omega, by omega, Int.ofNat_le.1 h4⟩
theorem drop_zero_ints {w w' : World} {u : Value} {H : Nat} (h : w'.ownsRow w.heap.size 3 1 u 0 (ints [])) : w'.ownsRow w.heap.size 3 1 u 0 (ints (([] : List Int).drop (H * 0))) := by
  rw [List.drop_nil]
  exact h
theorem pdeal_any (v : Value) (l : List Int) (h e : Int) (w : World) (hI : IntsB w v l) (hb : (l.length + 2) * 8 ≤ 140737488355328) : Calls Try.prog 20 #[v, .int .i64 h, .int .i64 e] w (DePost w l h e) := by
  by_cases hok : dealOk l.length h e
  · obtain ⟨H, E, rfl, rfl, h1, h2, h3⟩ := deal_nats hok
    rcases hI with ⟨a, rfl, rfl⟩ | ⟨g, off, cap, rfl, hcap, hC⟩
    · obtain rfl : E = 0 := by
        rcases Nat.eq_zero_or_pos E with h9 | h9
        · exact h9
        · have := Nat.mul_pos h9 h1
          simp at h3
          omega
      have CR0 : ∀ W, w.grownBy W none → Calls Try.prog 30 #[.slice a 0 0, .slice none 0 0] W fun e w' => ∃ u, e = .returned u ∧ w'.ownsRow W.heap.size 3 1 u 0 (ints (([] : List Int).drop (H * 0))) ∧ W.grownBy w' none := fun W _ =>
        (joined_ex (.slice a 0 0) [] W (IntsB.a (Or.inl ⟨_, rfl, rfl⟩)) (by decide)).mono fun e w' ⟨u, h4, h5, h6⟩ => ⟨u, h4, drop_zero_ints h5, h6⟩
      cases a with
      | none => exact pdeal_none [] H w h1 h2 h3 rfl (fun h W _ _ => hand_zero none 0 0 [] h H W) CR0
      | some ad => exact pdeal_some ad [] H w h1 h2 h3 rfl (fun h W _ _ => hand_zero (some ad) 0 0 [] h H W) CR0
    · have hCB := cells_of hC
      have h3' : H * E ≤ l.length := by rw [Nat.mul_comm]; exact h3
      have HH0 : ∀ (h : Nat) W, h < H → w.grownBy W none → _ := fun h W hh gW => hand_plain g off cap l.length l h H E W (hCB.keep gW) rfl hh h2 h3 hb
      have ld : (l.drop (H * E)).length = l.length - H * E := List.length_drop
      have CR1 : ∀ W, w.grownBy W none → Calls Try.prog 30 #[.slice (if cap = H * E then some ⟨g, off, none⟩ else some ⟨g, off + H * E, none⟩) (l.length - H * E) (cap - H * E), .slice none 0 0] W fun e w' => ∃ u, e = .returned u ∧ w'.ownsRow W.heap.size 3 1 u (l.length - H * E) (ints (l.drop (H * E))) ∧ W.grownBy w' none := fun W gW => by
        have := joined_ex _ (l.drop (H * E)) W (ints_past (k := H * E) ((hCB.keep gW).ints (cap := cap)) h3' hcap) (by rw [ld]; omega)
        rw [ld] at this
        exact this
      by_cases e1 : cap = H * E
      · have e2 : l.length = H * E := by omega
        rw [if_pos e1] at CR1
        have e3 : l.length - H * E = 0 := by omega
        have e4 : cap - H * E = 0 := by omega
        have e5 : cap = l.length := by omega
        rw [e3, e4] at CR1
        rw [e5] at HH0 ⊢
        exact pdeal_full g off l.length l H E w h1 h2 h3 rfl hb e2 (by omega) HH0 CR1
      · rw [if_neg e1] at CR1
        exact pdeal_plain g off cap l.length (H * E) l H E w h1 h2 h3 rfl hb rfl e1 (by omega) (by omega) HH0 CR1
  · exact pdeal_no v l h e w hI.form hb hok
theorem rdeal_any (v : Value) (l : List Int) (h e : Int) (w : World) (hI : IntsB w v l) (hb : (l.length + 2) * 8 ≤ 140737488355328) : Calls Try.prog 24 #[v, .int .i64 h, .int .i64 e] w (DePost w l h e) := by
  by_cases hok : dealOk l.length h e
  · obtain ⟨H, E, rfl, rfl, h1, h2, h3⟩ := deal_nats hok
    rcases hI with ⟨a, rfl, rfl⟩ | ⟨g, off, cap, rfl, hcap, hC⟩
    · obtain rfl : E = 0 := by
        rcases Nat.eq_zero_or_pos E with h9 | h9
        · exact h9
        · have := Nat.mul_pos h9 h1
          simp at h3
          omega
      have CR0 : ∀ W, w.grownBy W none → Calls Try.prog 31 #[.slice a 0 0] W fun e w' => ∃ u, e = .returned u ∧ w'.ownsRow W.heap.size 3 1 u 0 (ints (([] : List Int).drop (H * 0))) ∧ W.grownBy w' none := fun W _ =>
        (rcopied_any (.slice a 0 0) [] W (IntsB.a (Or.inl ⟨_, rfl, rfl⟩)) (by decide)).mono fun e w' ⟨u, h4, h5, h6⟩ => ⟨u, h4, drop_zero_ints h5, h6⟩
      cases a with
      | none => exact rdeal_none [] H w h1 h2 h3 CR0
      | some ad => exact rdeal_some ad [] H w h1 h2 h3 CR0
    · have hCB := cells_of hC
      have h3' : H * E ≤ l.length := by rw [Nat.mul_comm]; exact h3
      have ld : (l.drop (H * E)).length = l.length - H * E := List.length_drop
      have CR1 : ∀ W, w.grownBy W none → Calls Try.prog 31 #[.slice (if cap = H * E then some ⟨g, off, none⟩ else some ⟨g, off + H * E, none⟩) (l.length - H * E) (cap - H * E)] W fun e w' => ∃ u, e = .returned u ∧ w'.ownsRow W.heap.size 3 1 u (l.length - H * E) (ints (l.drop (H * E))) ∧ W.grownBy w' none := fun W gW => by
        have := rcopied_any _ (l.drop (H * E)) W (ints_past (k := H * E) ((hCB.keep gW).ints (cap := cap)) h3' hcap) (by rw [ld]; omega)
        rw [ld] at this
        exact this
      by_cases e1 : cap = H * E
      · have e2 : l.length = H * E := by omega
        rw [if_pos e1] at CR1
        have e3 : l.length - H * E = 0 := by omega
        have e4 : cap - H * E = 0 := by omega
        have e5 : cap = l.length := by omega
        rw [e3, e4] at CR1
        rw [e5]
        exact rdeal_full g off l.length l H E w h1 h2 h3 rfl hb e2 (by omega) hCB CR1
      · rw [if_neg e1] at CR1
        exact rdeal_plain g off cap l.length (H * E) l H E w h1 h2 h3 rfl hb rfl e1 (by omega) (by omega) hCB CR1
  · obtain ⟨a, c, rfl⟩ := hI.form
    have key : Calls Try.prog 24 #[.slice a l.length c, .int .i64 h, .int .i64 e] w fun r w' => r = .returned (.tuple #[.slice none 0 0, .slice none 0 0, .int .i64 2]) ∧ w' = w := by
      by_cases h1 : 1 ≤ h
      · by_cases h2 : h ≤ 64
        · by_cases h3 : 0 ≤ e
          · obtain ⟨H, rfl⟩ : ∃ H : Nat, h = (H : Int) := ⟨h.toNat, by omega⟩
            exact rdeal_few a l.length c H e w (by omega) (by omega) h3 (fun h4 => hok ⟨h1, h2, h3, h4⟩) (by omega)
          · exact rdeal_less a l.length c h e w h1 h2 (by omega)
        · exact rdeal_high a l.length c h e w (by omega)
      · exact rdeal_low a l.length c h e w (by omega)
    refine key.mono ?_
    rintro r w' ⟨rfl, rfl⟩
    exact DePost.no hok
end Go.Proofs.Ytjjgipklhdofhaa
