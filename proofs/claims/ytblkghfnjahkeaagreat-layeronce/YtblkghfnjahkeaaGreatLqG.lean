/-
  LayerOnce's gone: a list of effects without one place.
-/
import Derived.Test.YtblkghfnjahkeaaGreatR2
import Derived.Test.YtblkghfnjahkeaaGreatLpC
namespace Go.Proofs.YtblkghfnjahkeaaGreat
open Go.RowKit Go.Shelf

theorem erase_td {α : Type} : ∀ (l : List α) (p : Nat), l.eraseIdx p = l.take p ++ l.drop (p + 1)
  | [], p => by simp
  | a :: l, 0 => by simp
  | a :: l, p + 1 => by simp [erase_td l p]
theorem RecT.Own.taken {α : Type} {R : RecT α} {T : TypeId} {w : World} {base g n cap p : Nat} {l : List α} (O : R.Own T w base (.slice (some ⟨g, 0, none⟩) n cap) l) (hn : l.length = n) (hp : p ≤ n) : R.At w (.slice (some ⟨g, 0, none⟩) p cap) (l.take p) := by
  unfold RecT.Own at O
  rw [hn] at O
  have h := own_cut O hp
  rw [R.take] at h
  have h2 : R.Own T w base (.slice (some ⟨g, 0, none⟩) p cap) (l.take p) := by
    unfold RecT.Own
    rw [List.length_take, hn, Nat.min_eq_left hp]
    exact h
  exact RecT.Own.at h2
theorem RecT.Own.left {α : Type} {R : RecT α} {T : TypeId} {w : World} {base g n cap j : Nat} {l : List α} (O : R.Own T w base (.slice (some ⟨g, 0, none⟩) n cap) l) (hn : l.length = n) (h0 : 0 < n) (hj : j ≤ n) : ∃ A : Addr, (if cap = j then some (⟨g, 0, none⟩ : Addr) else some ⟨g, j * R.k, none⟩) = some A ∧ Src w (.slice (some A) (n - j) (cap - j)) (n - j) R.k (R.cs (l.drop j)) := by
  unfold RecT.Own at O
  rw [hn] at O
  obtain ⟨g', cap', e', _, _, hcap, _, hcell⟩ := own_cell O h0
  cases e'
  have hl : (R.cs (l.drop j)).length = (n - j) * R.k := by rw [R.len, List.length_drop, hn]
  by_cases h : cap = j
  · exact ⟨⟨g, 0, none⟩, by rw [if_pos h], some ⟨g, 0, none⟩, cap - j, rfl, hl, fun q => by omega⟩
  · refine ⟨⟨g, j * R.k, none⟩, by rw [if_neg h], some ⟨g, j * R.k, none⟩, cap - j, rfl, hl, fun q => ⟨_, rfl, fun t u hu => ?_⟩⟩
    have ht : t < (n - j) * R.k := by have := (List.getElem?_eq_some_iff.1 hu).1; rwa [hl] at this
    have h3 : j * R.k + (n - j) * R.k = n * R.k := by rw [← Nat.add_mul]; congr 1; omega
    rw [add_plain', (hcell (j * R.k + t) (by omega)).1, ← List.getElem?_drop, R.drop]
    exact hu
theorem own_roomL {w : World} {base e size g n cap : Nat} {xs : List Value} (h : w.ownsRow base e size (.slice (some ⟨g, 0, none⟩) n cap) n xs) (h0 : 0 < n) : n ≤ cap ∧ cap ≤ maxLen := by
  obtain ⟨g', cap', e', _, _, hcap, hm, _⟩ := own_cell h h0
  cases e'
  exact ⟨hcap, hm⟩
set_option maxRecDepth 100000 in
set_option maxHeartbeats 4000000 in
theorem gone_any (base g cap p n : Nat) (S : List Sd) (w : World) (O : sdR.Own 35 w base (.slice (some ⟨g, 0, none⟩) n cap) S) (hn : S.length = n) (hp : p < n) (hb : n ≤ 4096) : Calls Tryz.prog 19 #[.slice (some ⟨g, 0, none⟩) n cap, .int .i64 (p : Int)] w fun e w' => ∃ v', e = .returned v' ∧ sdR.Own 35 w' w.heap.size v' (S.eraseIdx p) ∧ w.grownBy w' none := by
  obtain ⟨i0, hi, hz0, hz1, hz2⟩ := info_parts Tryz.linfoD
  have hroom : n ≤ cap ∧ cap ≤ maxLen := own_roomL (xs := sdR.cs S) (by unfold RecT.Own at O; rw [hn] at O; exact O) (by omega)
  have CC := copySd_any _ _ w (O.taken hn (Nat.le_of_lt hp)) (by rw [List.length_take]; omega)
  obtain ⟨j, hj⟩ : ∃ j, j = p + 1 := ⟨_, rfl⟩
  obtain ⟨A, hA, hsrc⟩ := O.left (j := j) hn (by omega) (by omega)
  have HSrc : Hid (Src w (.slice (some A) (n - j) (cap - j)) (n - j) 10 (sdR.cs (S.drop j))) := hsrc
  have hA' : (if cap = j then some (⟨g, 0, none⟩ : Addr) else some ⟨g, j * 10, none⟩) = some A := hA
  have hw : wrap64 ((p : Int) + 1) = (j : Int) := by unfold wrap64; omega
  have hjn : j ≤ n := by omega
  have hjc : j ≤ cap := by omega
  have hpc : p ≤ cap := by omega
  have hm : cap ≤ 9223372036854775807 := by have := hroom.2; unfold maxLen at this; omega
  have l1 : (S.take p).length = p := by rw [List.length_take]; omega
  have l2 : (S.eraseIdx p).length = p + (n - j) := by rw [List.length_eraseIdx_of_lt (by omega)]; omega
  have l3 : p + (n - j) ≤ 4096 := by omega
  have l4 : p + (n - j) ≤ maxLen := by unfold maxLen; omega
  have l5 : S.take p ++ S.drop j = S.eraseIdx p := by rw [erase_td, hj]
  have HE : Hid (S.take p ++ S.drop j = S.eraseIdx p ∧ (S.take p).length = p ∧ p + (n - j) ≤ maxLen ∧ (p + (n - j)) * 56 ≤ 140737488355328 ∧ (S.eraseIdx p).length = p + (n - j)) := ⟨l5, l1, l4, by omega, l2⟩
  clear O hn hb hj hsrc hA hroom l1 l2 l3 l4 l5
  go_enter Tryz.func19, Tryz.ntmps19
  go_wp2_with fail
  refine CC.mono ?_
  rintro e2 w2 ⟨v2, rfl, o2, g2⟩
  have HS : Hid (Src w2 (.slice (some A) (n - j) (cap - j)) (n - j) 10 (sdR.cs (S.drop j))) := HSrc.out.keep g2
  have HO2 : Hid (w2.ownsRow w.heap.size 35 10 v2 p (sdR.cs (S.take p))) := by unfold RecT.Own at o2; rw [HE.out.2.1] at o2; exact o2
  have HG2 : Hid (w.grownBy w2 none) := g2
  clear CC o2 g2 HSrc
  go_wp2_with (at_builtin; refine lwpl_app (by rfl) (.tmp 10) (.tmp 14) 63 rfl w.heap.size 35 i0 _ 10 56 Tryz.underlying63 hi hz0 hz1 hz2 rfl (by decide) _ p (sdR.cs (S.take p)) rfl HO2.out _ (n - j) (sdR.cs (S.drop j)) rfl HS.out (sdR.ones _) HE.out.2.2.1 HE.out.2.2.2.1 HG2.out.size ?_; intro v3 w3 o3 g3 _; have HF : Hid (sdR.Own 35 w3 w.heap.size v3 (S.eraseIdx p) ∧ w.grownBy w3 none) := ⟨by unfold RecT.Own; rw [HE.out.2.2.2.2]; rw [← sdR.app, HE.out.1] at o3; exact o3, grown_own HG2.out g3 (fun y e => (World.ownsRow.lt HO2.out y e).1)⟩; clear o3 g3)
  go_ret
  exact ⟨_, rfl, HF.out.1, HF.out.2⟩
end Go.Proofs.YtblkghfnjahkeaaGreat
