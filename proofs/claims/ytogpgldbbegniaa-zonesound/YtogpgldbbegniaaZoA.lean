/-
  Zones: areSound.
-/
import Derived.Test.YtogpgldbbegniaaZmZ
namespace Go.Proofs.Ytogpgldbbegniaa
open Go.RowKit

theorem sound_iff {z : Zs} (hf : z.ts.length ≤ 2048) : z.Sound ↔ (1 ≤ z.nx ∧ z.nx ≤ 1099511627776) ∧ (∀ t ∈ z.ts, t.alone z.nx) ∧ StDif z.ts ∧ z.part 0 ∧ z.part 1 := by
  constructor
  · intro S
    exact ⟨⟨S.nx1, S.nx2⟩, S.each, S.stamps, ⟨S.dks 0 (Or.inl rfl), S.hds 0 (Or.inl rfl), S.hand 0 (Or.inl rfl), S.tab 0 (Or.inl rfl)⟩, ⟨S.dks 1 (Or.inr rfl), S.hds 1 (Or.inr rfl), S.hand 1 (Or.inr rfl), S.tab 1 (Or.inr rfl)⟩⟩
  · rintro ⟨⟨h1, h2⟩, h3, h4, h5, h6⟩
    refine ⟨hf, h1, h2, h3, ?_, ?_, ?_, ?_, h4⟩
    · rintro p (rfl | rfl)
      · exact h5.2.2.2
      · exact h6.2.2.2
    · rintro p (rfl | rfl)
      · exact h5.2.2.1
      · exact h6.2.2.1
    · rintro p (rfl | rfl)
      · exact h5.1
      · exact h6.1
    · rintro p (rfl | rfl)
      · exact h5.2.1
      · exact h6.2.1
def AsPost (w : World) (z : Zs) (e : Ending) (w' : World) : Prop := ∃ r : Bool, e = .returned (.bool r) ∧ (r = true ↔ z.Sound) ∧ w.grownBy w' none
theorem as_no {w w' : World} {z : Zs} (h : ¬ z.Sound) (g : w.grownBy w' none) : AsPost w z (.returned (.bool false)) w' := ⟨false, rfl, ⟨fun q => (by cases q), fun q => absurd q h⟩, g⟩
set_option maxRecDepth 100000 in
set_option maxHeartbeats 4000000 in
theorem as_low (b : Nat) (Sb : List Nat) (z : Zs) (w : World) (Z : ZAt w b Sb z) (h : z.nx < 1) : Calls Try.prog 42 #[.pointer (some ⟨b, 0, none⟩)] w (AsPost w z) := by
  have Z0 := Z
  obtain ⟨vt, d0, d1, h0, h1, Z⟩ := Z
  obtain ⟨c0, c1, c2, c3, c4, c5⟩ := Z.cell
  have HF : Hid (AsPost w z (.returned (.bool false)) w) := as_no (fun S => by have := S.nx1; omega) (grown_refl _ _)
  clear Z0 Z c0 c1 c2 c3 c4
  go_enter Try.func42, Try.ntmps42
  go_wp2
  go_ret
  exact HF.out
set_option maxRecDepth 100000 in
set_option maxHeartbeats 4000000 in
theorem as_high (b : Nat) (Sb : List Nat) (z : Zs) (w : World) (Z : ZAt w b Sb z) (h1 : ¬ z.nx < 1) (h2 : 1099511627776 < z.nx) : Calls Try.prog 42 #[.pointer (some ⟨b, 0, none⟩)] w (AsPost w z) := by
  have Z0 := Z
  obtain ⟨vt, d0, d1, h0, h1, Z⟩ := Z
  obtain ⟨c0, c1, c2, c3, c4, c5⟩ := Z.cell
  have HF : Hid (AsPost w z (.returned (.bool false)) w) := as_no (fun S => by have := S.nx2; omega) (grown_refl _ _)
  have dd : decide (z.nx > 1099511627776) = true := decide_eq_true h2
  clear Z0 Z c0 c1 c2 c3 c4
  go_enter Try.func42, Try.ntmps42
  go_wp2
  go_ret
  exact HF.out
set_option maxRecDepth 100000 in
set_option maxHeartbeats 4000000 in
theorem as_in (b : Nat) (Sb : List Nat) (z : Zs) (w : World) (Z : ZAt w b Sb z) (hf : z.ts.length ≤ 2048) (h1 : ¬ z.nx < 1) (h2 : ¬ 1099511627776 < z.nx) : Calls Try.prog 42 #[.pointer (some ⟨b, 0, none⟩)] w (AsPost w z) := by
  have Z0 := Z
  obtain ⟨vt, d0, d1, h0, h1, Z⟩ := Z
  obtain ⟨c0, c1, c2, c3, c4, c5⟩ := Z.cell
  have dd : decide (z.nx > 1099511627776) = false := decide_eq_false h2
  obtain ⟨p, cap, rfl, -, hc⟩ := Z.ts.at
  have HX : Hid (1 ≤ z.nx ∧ z.nx ≤ 1099511627776) := ⟨by omega, by omega⟩
  have HT : Hid (0 < z.ts.length → ∃ g off, p = some ⟨g, off, none⟩ ∧ ∀ (j : Nat) t, z.ts[j]? = some t → w.rangeAt g (off + j * 11) (thc t)) := hc
  have HZ : Hid (ZAt w b Sb z) := Z0
  have HC0 : Hid (w.cell? ⟨b, 0, none⟩ = some (.slice p z.ts.length cap)) := c0
  have HC5 : Hid (w.cell? ⟨b, 5, none⟩ = some (.int .i64 z.nx)) := c5
  have HTs : Hid (ThsAt w (.slice p z.ts.length cap) z.ts) := Z.ts.at
  have Hf : Hid (z.ts.length ≤ 2048) := hf
  clear Z0 Z c1 c2 c3 c4 hc hf
  go_enter Try.func42, Try.ntmps42
  go_wp2
  clear c0 c5 dd h1 h2
  go_loopw [4, 22] (fun _ i wr => ∃ k : Nat, k ≤ z.ts.length ∧ i = .int .i64 (k : Int) ∧ w.grownBy wr none ∧ ∀ (j : Nat) t, j < k → z.ts[j]? = some t → t.alone z.nx) (fun _ i _ => z.ts.length - (intOf i).toNat)
  case atStart => exact ⟨0, Nat.zero_le _, rfl, grown_refl _ _, fun j t hj => absurd hj (Nat.not_lt_zero _)⟩
  case round =>
    obtain ⟨k, hk, rfl, hg, hall⟩ := hrel
    have HG : Hid (w.grownBy wr none) := hg
    have HA : Hid (∀ (j : Nat) t, j < k → z.ts[j]? = some t → t.alone z.nx) := hall
    clear hg hall
    by_cases hlt : k < z.ts.length
    · obtain ⟨t, ht⟩ : ∃ t, z.ts[k]? = some t := ⟨_, List.getElem?_eq_getElem hlt⟩
      obtain ⟨g, off, rfl, R⟩ := HT.out (by omega)
      obtain ⟨e1, e2, e3, e4, e5, e6, e7, e8, e9, e10, e11⟩ := range_cells (rangeAt_keep (R k t ht) HG.out)
      have hlt' : (k : Int) < z.ts.length := by omega
      have hwk : wrap64 ((k : Int) + 1) = (k : Int) + 1 := by have := Hf.out; unfold wrap64; omega
      have CM := mayBe_any b t z.nx (wr.alloc (.cells #[.int .i64 t.card, .int .i64 t.owner, .int .u8 t.place, .int .i64 t.stamp, .int .i64 t.hurt, .int .i64 t.m0, .int .i64 t.m1, .int .i64 t.m2, .int .i64 t.m3, .int .i64 t.done, .bool t.fresh] 38)) ((World.grownBy_alloc _ _ none).cell (HG.out.cell HC5.out (by simp)) (by simp))
      unfold thv at CM
      have HGV : Hid (w.grownBy (wr.alloc (.cells #[.int .i64 t.card, .int .i64 t.owner, .int .u8 t.place, .int .i64 t.stamp, .int .i64 t.hurt, .int .i64 t.m0, .int .i64 t.m1, .int .i64 t.m2, .int .i64 t.m3, .int .i64 t.done, .bool t.fresh] 38)) none) := grown_push HG.out _
      have HP : Hid (k + 1 ≤ z.ts.length) := hlt
      have HMe : Hid (z.ts.length - (intOf (.int .i64 ((k : Int) + 1))).toNat < z.ts.length - (intOf (.int .i64 (k : Int))).toNat) := meas_next hlt
      have Ht : Hid (z.ts[k]? = some t) := ht
      clear R ht HT HC0 HTs HZ hk
      go_wp2_with fail
      refine CM.mono ?_
      rintro e w3 ⟨r, rfl, hr, g3⟩
      have HG3 : Hid (w.grownBy w3 none) := grown_trans HGV.out g3
      have HR : Hid (r = true ↔ t.alone z.nx) := hr
      clear hr g3 CM HGV e1 e2 e3 e4 e5 e6 e7 e8 e9 e10 e11
      cases r with
      | false =>
        have HF : Hid (AsPost w z (.returned (.bool false)) w3) := as_no (fun S => by have := HR.out.2 (S.each t (List.mem_of_getElem? Ht.out)); cases this) HG3.out
        go_wp2
        go_ret
        exact HF.out
      | true =>
        have HN : Hid (∀ (j : Nat) t, j < k + 1 → z.ts[j]? = some t → t.alone z.nx) := fun j u hj hu => by
          by_cases ej : j = k
          · subst ej
            rw [Ht.out] at hu
            cases hu
            exact HR.out.1 rfl
          · exact HA.out j u (by omega) hu
        have HI : Hid (Value.int .i64 ((k : Int) + 1) = .int .i64 ((k + 1 : Nat) : Int)) := rfl
        go_wp2
        rw [hwk]
        exact ⟨⟨k + 1, HP.out, HI.out, HG3.out, HN.out⟩, HMe.out⟩
    · have hlt' : ¬ (k : Int) < z.ts.length := by omega
      have HE : Hid (∀ t ∈ z.ts, t.alone z.nx) := fun t ht => by
        obtain ⟨j, hj, ej⟩ := List.getElem_of_mem ht
        exact HA.out j t (by omega) (by rw [List.getElem?_eq_getElem hj, ej])
      have C1 := stampsDiffer_any b _ z.ts wr (HG.out.cell HC0.out (by simp)) (HTs.out.keep HG.out) Hf.out (fun t ht => (HE.out t ht).2.1)
      have H2 : Hid (∀ w1, w.grownBy w1 none → Calls Try.prog 76 #[.pointer (some ⟨b, 0, none⟩), .int .i64 0] w1 (IsPost w1 z 0)) := fun w1 g => isSound0 b Sb z w1 (HZ.out.grow g) Hf.out
      have H3 : Hid (∀ w1, w.grownBy w1 none → Calls Try.prog 76 #[.pointer (some ⟨b, 0, none⟩), .int .i64 1] w1 (IsPost w1 z 1)) := fun w1 g => isSound1 b Sb z w1 (HZ.out.grow g) Hf.out
      clear HA HC0 HC5 HTs HZ HT hk hlt
      go_wp2_with fail
      refine C1.mono ?_
      rintro e w1 ⟨r1, rfl, k1, g1⟩
      have HG1 : Hid (w.grownBy w1 none) := grown_trans HG.out g1
      have HK1 : Hid (r1 = true ↔ StDif z.ts) := k1
      clear g1 k1 C1
      cases r1 with
      | false =>
        have HF : Hid (AsPost w z (.returned (.bool false)) w1) := as_no (fun S => by have := HK1.out.2 S.stamps; cases this) HG1.out
        go_wp2
        go_ret
        exact HF.out
      | true =>
        have HK1' : Hid (StDif z.ts) := HK1.out.1 rfl
        have C2 := H2.out w1 HG1.out
        clear HK1
        clear H2
        go_wp2_with fail
        refine C2.mono ?_
        rintro e w2 ⟨r2, rfl, k2, g2⟩
        have HG2 : Hid (w.grownBy w2 none) := grown_trans HG1.out g2
        have HK2 : Hid (r2 = true ↔ z.part 0) := k2
        clear g2 k2 C2
        cases r2 with
        | false =>
          have HF : Hid (AsPost w z (.returned (.bool false)) w2) := as_no (fun S => by have := HK2.out.2 ((sound_iff Hf.out).1 S).2.2.2.1; cases this) HG2.out
          go_wp2
          go_ret
          exact HF.out
        | true =>
          have HK2' : Hid (z.part 0) := HK2.out.1 rfl
          have C3 := H3.out w2 HG2.out
          clear HK2
          clear H3
          go_wp2_with fail
          refine C3.mono ?_
          rintro e w3 ⟨r3, rfl, k3, g3⟩
          have HF : Hid (AsPost w z (.returned (.bool r3)) w3) := ⟨r3, rfl, ⟨fun q => (sound_iff Hf.out).2 ⟨HX.out, HE.out, HK1'.out, HK2'.out, k3.1 q⟩, fun S => k3.2 ((sound_iff Hf.out).1 S).2.2.2.2⟩, grown_trans HG2.out g3⟩
          clear g3 k3 C3
          go_wp2
          go_ret
          exact HF.out
theorem areSound_any (b : Nat) (Sb : List Nat) (z : Zs) (w : World) (Z : ZAt w b Sb z) (hf : z.ts.length ≤ 2048) : Calls Try.prog 42 #[.pointer (some ⟨b, 0, none⟩)] w (AsPost w z) := by
  by_cases h1 : z.nx < 1
  · exact as_low b Sb z w Z h1
  by_cases h2 : 1099511627776 < z.nx
  · exact as_high b Sb z w Z h1 h2
  · exact as_in b Sb z w Z hf h1 h2
end Go.Proofs.Ytogpgldbbegniaa
