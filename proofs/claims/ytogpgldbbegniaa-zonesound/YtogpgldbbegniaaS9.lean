/-
  The program's Deal, of every list and every two numbers.
  The document's Deal, of every list and every two numbers.
  Deal of every list and every two numbers, of the program and of the document: the same answers.
-/
import Derived.Test.YtogpgldbbegniaaPlH
namespace Go.Proofs.Ytogpgldbbegniaa
open Go.RowKit

theorem Try.info22 : (Try.prog.info? 22).map (fun i => (i.zero, i.size, i.bytes)) = some (some (.slice none 0 0), 1, 24) := by kernel_rfl
def nils (k : Nat) : List Value := List.replicate k (.slice none 0 0)
theorem made_nils (H : Nat) : (madeCells (Value.slice none 0 0).cells (H * 1)).toList = nils H := by
  rw [Nat.mul_one]
  show (madeCells #[Value.slice none 0 0] H).toList = _
  apply List.ext_getElem
  · simp [size_madeCells, nils]
  · intro i h1 h2
    simp [madeCells, nils, Nat.mod_one]
theorem nils_set {vs : List Value} {H k : Nat} (v : Value) (hk : vs.length = k) (hlt : k < H) : (vs ++ nils (H - k)).set k v = (vs ++ [v]) ++ nils (H - (k + 1)) := by
  subst hk
  rw [List.set_append_right _ _ (Nat.le_refl _), Nat.sub_self]
  have : nils (H - vs.length) = .slice none 0 0 :: nils (H - (vs.length + 1)) := by
    unfold nils
    rw [show H - vs.length = (H - (vs.length + 1)) + 1 by omega, List.replicate_succ]
  rw [this]
  simp
theorem nils_at {vs : List Value} {H k : Nat} (hk : vs.length = k) (hlt : k < H) : (vs ++ nils (H - k))[k]? = some (.slice none 0 0) := by
  subst hk
  rw [List.getElem?_append_right (Nat.le_refl _), Nat.sub_self]
  unfold nils
  rw [show H - vs.length = (H - (vs.length + 1)) + 1 by omega, List.replicate_succ]
  rfl
/-- Hands dealt so far. -/
def DlAt (w wr : World) (l : List Int) (H E k : Nat) : Prop := ∃ vs : List Value, vs.length = k ∧ wr.ownsRow w.heap.size 22 1 (.slice (some ⟨w.heap.size, 0, none⟩) H H) H (vs ++ nils (H - k)) ∧ HandsAt wr w.heap.size vs ((List.range k).map (dealH l H E)) wr.heap.size ∧ w.grownBy wr none
theorem DlAt.cell {w wr : World} {l : List Int} {H E k : Nat} (h : DlAt w wr l H E k) (hk : k < H) : wr.cell? ⟨w.heap.size, k, none⟩ = some (.slice none 0 0) ∧ wr.frozen? ⟨w.heap.size, k, none⟩ = false := by
  obtain ⟨vs, hl, ho, _, _⟩ := h
  exact ⟨by rw [World.ownsRow.cellAt ho k (by omega)]; exact nils_at hl hk, World.ownsRow.frozenAt ho k⟩
theorem own_put {w : World} {base b n1 n2 k : Nat} {v x : Value} {xs ys : List Value} (h : w.ownsRow base 3 1 v n1 xs) (k2 : w.ownsRow b 22 1 (.slice (some ⟨b, 0, none⟩) n2 n2) n2 ys) : (w.setCell ⟨b, k, none⟩ x).ownsRow base 3 1 v n1 xs := World.ownsRow.kept h (grown_set w b k x) (own_unlike h k2)
theorem DlAt.next {w U U1 : World} {l : List Int} {H E k : Nat} (h : DlAt w U l H E k) (hk : k < H) (g1 : U.grownBy U1 none) (o1 : U1.ownsRow U.heap.size 3 1 (.slice (some ⟨U.heap.size, 0, none⟩) E E) E (ints (dealH l H E k))) : DlAt w (U1.setCell ⟨w.heap.size, k, none⟩ (.slice (some ⟨U.heap.size, 0, none⟩) E E)) l H E (k + 1) := by
  obtain ⟨vs, hl, ho, hh, hg⟩ := h
  have ho1 : U1.ownsRow w.heap.size 22 1 (.slice (some ⟨w.heap.size, 0, none⟩) H H) H (vs ++ nils (H - k)) := World.ownsRow.kept ho g1 (Classical.em _)
  have hst := World.ownsRow.stored ho1 k (.slice (some ⟨U.heap.size, 0, none⟩) E E)
  rw [nils_set _ hl hk] at hst
  have hsz : (U1.setCell ⟨w.heap.size, k, none⟩ (.slice (some ⟨U.heap.size, 0, none⟩) E E)).heap.size = U1.heap.size := by simp [World.setCell]
  have hlt := (World.ownsRow.lt o1 U.heap.size rfl).2
  refine ⟨vs ++ [.slice (some ⟨U.heap.size, 0, none⟩) E E], by simp [hl], hst.1, ?_, grown_own (grown_trans hg g1) hst.2 (fun x e => by cases e; exact Nat.le_refl _)⟩
  rw [← dealAll_snoc, hsz]
  refine hh.snoc (fun i u x _ _ h9 => own_put (own_keepN h9 g1) ho1) hg.size ?_ (fun a ha => ?_) g1.size
  · rw [dealH_len]
    exact own_put o1 ho1
  · simp [Value.ownBlock] at ha
    omega
theorem DlAt.full {w U : World} {l : List Int} {H E : Nat} (h : DlAt w U l H E H) : ∃ vs, U.ownsRow w.heap.size 22 1 (.slice (some ⟨w.heap.size, 0, none⟩) H H) H vs ∧ HandsAt U w.heap.size vs (dealAll l H E) U.heap.size ∧ w.grownBy U none := by
  obtain ⟨vs, hl, ho, hh, hg⟩ := h
  rw [Nat.sub_self, show nils 0 = [] from rfl, List.append_nil] at ho
  exact ⟨vs, ho, hh, hg⟩
end Go.Proofs.Ytogpgldbbegniaa
namespace Go.Proofs.Ytogpgldbbegniaa
open Go.RowKit

/-- Hands dealt so far, in a list that grows. -/
def DgAt (w wr : World) (l : List Int) (H E k : Nat) (u : Value) : Prop := ∃ vs : List Value, wr.ownsRow w.heap.size 22 1 u k vs ∧ HandsAt wr w.heap.size vs ((List.range k).map (dealH l H E)) wr.heap.size ∧ w.grownBy wr none
theorem own22_block {w : World} {base n : Nat} {v : Value} {xs : List Value} (h : w.ownsRow base 22 1 v n xs) : ∀ x, v.ownBlock = some x → base ≤ x := fun x hx => (World.ownsRow.lt h x hx).1
theorem own22_keep {w w' : World} {base n : Nat} {v : Value} {xs : List Value} (h : w.ownsRow base 22 1 v n xs) (g : w.grownBy w' none) : w'.ownsRow base 22 1 v n xs := World.ownsRow.kept h g (Classical.em (v.ownBlock = none))
theorem DgAt.next {w U X w7 : World} {l : List Int} {H E k : Nat} {u hv v' : Value} {vs : List Value} (ho : U.ownsRow w.heap.size 22 1 u k vs) (hh : HandsAt U w.heap.size vs ((List.range k).map (dealH l H E)) U.heap.size) (hg : w.grownBy U none) (g1 : U.grownBy X none) (o1 : X.ownsRow U.heap.size 3 1 hv E (ints (dealH l H E k))) (o7 : w7.ownsRow w.heap.size 22 1 v' (k + 1) (vs ++ [hv])) (g7 : X.grownBy w7 u.ownBlock) : DgAt w w7 l H E (k + 1) v' := by
  have hx := own22_keep ho g1
  refine ⟨vs ++ [hv], o7, ?_, grown_own (grown_trans hg g1) g7 (own22_block ho)⟩
  rw [← dealAll_snoc]
  refine hh.snoc (fun i y x _ _ h9 => World.ownsRow.kept (own_keepN h9 g1) g7 (own_unlike (own_keepN h9 g1) hx)) hg.size ?_ (fun a ha => Nat.lt_of_lt_of_le (World.ownsRow.lt o1 a ha).2 g7.size) (Nat.le_trans g1.size g7.size)
  rw [dealH_len]
  exact World.ownsRow.kept o1 g7 (own_unlike o1 hx)
theorem cell22_one (W : World) (v : Value) : ∀ j u, [v][j]? = some u → (W.alloc (.cells #[v] 22)).cell? ((⟨W.heap.size, 0, none⟩ : Addr).add j) = some u := fun j u hu => by
  rw [add_plain, Nat.zero_add, block_cell (alloc_at _ _ _)]
  simpa using hu
theorem own22_form {w : World} {base n : Nat} {v : Value} {xs : List Value} (h : w.ownsRow base 22 1 v n xs) : ∃ a c, v = .slice a n c := by
  rcases h.2 with ⟨e, h0⟩ | ⟨g, cap, cur, e, _⟩
  · exact ⟨_, _, by rw [e, h0]⟩
  · exact ⟨_, _, e⟩
end Go.Proofs.Ytogpgldbbegniaa
namespace Go.Proofs.Ytogpgldbbegniaa
open Go.RowKit

theorem deal_nats {n : Nat} {h e : Int} (hok : dealOk n h e) : ∃ H E : Nat, h = (H : Int) ∧ e = (E : Int) ∧ 1 ≤ H ∧ H ≤ 64 ∧ E * H ≤ n := by
  obtain ⟨h1, h2, h3, h4⟩ := hok
  obtain ⟨H, rfl⟩ : ∃ H : Nat, h = (H : Int) := ⟨h.toNat, by omega⟩
  obtain ⟨E, rfl⟩ : ∃ E : Nat, e = (E : Int) := ⟨e.toNat, by omega⟩
  rw [← Int.natCast_mul] at h4
  exact ⟨H, E, rfl, rfl, by omega, by omega, Int.ofNat_le.1 h4⟩
theorem drop_zero_ints {w w' : World} {u : Value} {H : Nat} (h : w'.ownsRow w.heap.size 3 1 u 0 (ints [])) : w'.ownsRow w.heap.size 3 1 u 0 (ints (([] : List Int).drop (H * 0))) := by
  rw [List.drop_nil]
  exact h
end Go.Proofs.Ytogpgldbbegniaa
