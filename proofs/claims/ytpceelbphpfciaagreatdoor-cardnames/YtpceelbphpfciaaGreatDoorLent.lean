/-
  LentParts, SameParts, KeptParts: a list is lent with two more behind it; two lists are held against each other; a lent list is as it was.
-/
import Derived.Test.YtpceelbphpfciaaGreatDoorPs
namespace Go.Proofs.YtpceelbphpfciaaGreatDoor
open Go.RowKit

def mkP : Pt := ⟨0, 0, 0, 0, 0, 0, 0, ⟨#[109, 97, 114, 107]⟩⟩
theorem mk_cells {w : World} {g : Nat} (h : w.heap[g]? = some (.cells #[.int .u8 0, .int .u8 0, .int .u8 0, .int .i64 0, .int .u8 0, .int .u8 0, .int .u8 0, .string ⟨#[109, 97, 114, 107]⟩, .int .u8 0, .int .u8 0, .int .u8 0, .int .i64 0, .int .u8 0, .int .u8 0, .int .u8 0, .string ⟨#[109, 97, 114, 107]⟩] 29 (0, 0))) : ∀ j u, (pcells [mkP, mkP])[j]? = some u → w.cell? ((⟨g, 0, none⟩ : Addr).add j) = some u := fun j u hu => by
  rw [add_plain, Nat.zero_add, block_cell h]
  simpa [pcells, pvs, mkP] using hu
theorem own_app {w : World} {base : Nat} {v : Value} {a b : List Pt} (h : w.ownsRow base 29 8 v (a.length + b.length) (pcells a ++ pcells b)) : POwn w base v (a ++ b) := by
  unfold POwn
  rw [List.length_append, pcells_app]
  exact h
set_option maxRecDepth 100000 in
set_option maxHeartbeats 2000000 in
theorem lent_any (v : Value) (ps : List Pt) (w : World) (h : PsAt w v ps) (hb : (ps.length + 2) * 40 ≤ 140737488355328) : Calls Tryz.prog 35 #[v] w fun e w' => e = .returned (.slice (some ⟨w.heap.size, 0, none⟩) (ps.length + 2) (ps.length + 2)) ∧ POwn w' w.heap.size (.slice (some ⟨w.heap.size, 0, none⟩) (ps.length + 2) (ps.length + 2)) (ps ++ [mkP, mkP]) ∧ w.grownBy w' none := by
  obtain ⟨i0, hi, hz0, hz1, hz2⟩ := info_of Tryz.info29
  have hw : wrap64 ((ps.length : Int) + 2) = (ps.length : Int) + 2 := by unfold wrap64; omega
  have hC : Hid (((ps.length : Int) + 2) = ((ps.length + 2 : Nat) : Int)) := by unfold Hid; omega
  have hB : Hid (i0.bytes * (ps.length + 2) ≤ 281474976710656) := by unfold Hid; rw [hz2]; omega
  have hM : Hid (ps.length + 2 ≤ maxLen) := by unfold Hid maxLen; omega
  have hb : Hid ((ps.length + 2) * 40 ≤ 140737488355328) := hb
  have hb : Hid ((ps.length + 2) * 40 ≤ 140737488355328) := hb
  rcases h with ⟨rfl, rfl⟩ | ⟨ad, cap, rfl, hc, h⟩
  · go_enter Tryz.func35, Tryz.ntmps35
    go_wp2_with (first | (at_make; refine wpList_make_own _ rfl _ _ 38 rfl w.heap.size 29 i0 _ 8 Tryz.underlying38 hi hz0 hz1 .i64 .i64 _ 2 rfl rfl rfl (by rw [hz2]; decide) (by decide) (Nat.le_refl _) ?_; intro w1 o1 g1) | (at_builtin; refine wpList_append_own_none rfl (.tmp 8) (.tmp 9) 38 rfl w.heap.size 29 i0 8 Tryz.underlying38 hi _ 0 [] rfl o1 rfl ?_) | (at_builtin; refine wpList_append_fits _ rfl (.tmp 11) (.tmp 14) 38 rfl w.heap.size 29 i0 8 Tryz.underlying38 hi hz1 w.heap.size 0 2 [] rfl (o1.alloc _) ⟨w1.heap.size, 0, none⟩ 2 2 (pcells [mkP, mkP]) rfl rfl (mk_cells (alloc_at _ _ _)) (pcells_one _) (by decide) ?_; intro w3 o3 g3) | fail)
    go_ret
    have G : w.grownBy w3 none := grown_own (grown_push g1 _) g3 (fun x e => by cases e; exact Nat.le_refl _)
    exact ⟨rfl, o3, G⟩
  · have HS : Hid (∀ j u, (pcells ps)[j]? = some u → w.cell? (ad.add j) = some u) := h
    clear h hc
    go_enter Tryz.func35, Tryz.ntmps35
    go_wp2_with (first | (at_make; refine wpList_make_own _ rfl _ _ 38 rfl w.heap.size 29 i0 _ 8 Tryz.underlying38 hi hz0 hz1 .i64 .i64 _ (ps.length + 2) rfl rfl hC.out hB.out hM.out (Nat.le_refl _) ?_; intro w1 o1 g1) | (at_builtin; refine wpList_append_fits _ rfl (.tmp 8) (.tmp 9) 38 rfl w.heap.size 29 i0 8 Tryz.underlying38 hi hz1 w.heap.size 0 (ps.length + 2) [] rfl o1 ad ps.length cap (pcells ps) rfl (pcells_len ps) (fun j u hu => g1.cell (HS.out j u hu) (by simp)) (pcells_one ps) (by omega) ?_; intro w2 o2 g2; rw [Nat.zero_add, List.nil_append] at o2) | (at_builtin; refine wpList_append_fits _ rfl (.tmp 11) (.tmp 14) 38 rfl w.heap.size 29 i0 8 Tryz.underlying38 hi hz1 w.heap.size ps.length (ps.length + 2) (pcells ps) rfl (o2.alloc _) ⟨w2.heap.size, 0, none⟩ 2 2 (pcells [mkP, mkP]) rfl rfl (mk_cells (alloc_at _ _ _)) (pcells_one _) (by omega) ?_; intro w3 o3 g3) | fail)
    go_ret
    have G : w.grownBy w3 none := grown_own (grown_push (grown_own g1 g2 (fun x e => by cases e; exact Nat.le_refl _)) _) g3 (fun x e => by cases e; exact Nat.le_refl _)
    exact ⟨rfl, own_app o3, G⟩
end Go.Proofs.YtpceelbphpfciaaGreatDoor
