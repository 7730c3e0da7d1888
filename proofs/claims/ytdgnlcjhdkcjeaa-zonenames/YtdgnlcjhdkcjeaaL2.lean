/-
  The program's Deal, of every list and every two numbers.
  The document's Deal, of every list and every two numbers.
  Deal of every list and every two numbers, of the program and of the document: the same answers.
  Many lists of the call's own, as ApartInts takes them; the lent list, where it may be cut.
  Zones, plainly: things, decks, hands, the next stamp; when they are sound; a thing comes to a place; each call keeps them sound.
-/
import Derived.Test.YtdgnlcjhdkcjeaaL1
import Derived.WalkKit
namespace Go.Proofs.Ytdgnlcjhdkcjeaa
open Go.RowKit

theorem Try.info22 : (Try.prog.info? 26).map (fun i => (i.zero, i.size, i.bytes)) = some (some (.slice none 0 0), 1, 24) := by kernel_rfl
def nils (k : Nat) : List Value := List.replicate k (.slice none 0 0)
theorem made_nils (H : Nat) : (madeCells (Value.slice none 0 0).cells (H * 1)).toList = nils H := by
  rw [Nat.mul_one]
  show (madeCells #[Value.slice none 0 0] H).toList = _
  apply List.ext_getElem
  · simp [size_madeCells, nils]
  · intro i h1 h2
    simp [madeCells, nils, Nat.mod_one]
theorem nils_set {vs : List Value} {H k : Nat} (v : Value) (hk : vs.length = k) (hlt : k < H) : (vs ++ nils (H - k)).set k v = (vs ++ [v]) ++ nils (H - (k + 1)) := by
  subst hk
  rw [List.set_append_right _ _ (Nat.le_refl _), Nat.sub_self]
  have : nils (H - vs.length) = .slice none 0 0 :: nils (H - (vs.length + 1)) := by
    unfold nils
    rw [show H - vs.length = (H - (vs.length + 1)) + 1 by omega, List.replicate_succ]
  rw [this]
  simp
theorem nils_at {vs : List Value} {H k : Nat} (hk : vs.length = k) (hlt : k < H) : (vs ++ nils (H - k))[k]? = some (.slice none 0 0) := by
  subst hk
  rw [List.getElem?_append_right (Nat.le_refl _), Nat.sub_self]
  unfold nils
  rw [show H - vs.length = (H - (vs.length + 1)) + 1 by omega, List.replicate_succ]
  rfl
/-- Hands dealt so far. -/
def DlAt (w wr : World) (l : List Int) (H E k : Nat) : Prop := ∃ vs : List Value, vs.length = k ∧ wr.ownsRow w.heap.size 26 1 (.slice (some ⟨w.heap.size, 0, none⟩) H H) H (vs ++ nils (H - k)) ∧ HandsAt wr w.heap.size vs ((List.range k).map (dealH l H E)) wr.heap.size ∧ w.grownBy wr none
theorem DlAt.cell {w wr : World} {l : List Int} {H E k : Nat} (h : DlAt w wr l H E k) (hk : k < H) : wr.cell? ⟨w.heap.size, k, none⟩ = some (.slice none 0 0) ∧ wr.frozen? ⟨w.heap.size, k, none⟩ = false := by
  obtain ⟨vs, hl, ho, _, _⟩ := h
  exact ⟨by rw [World.ownsRow.cellAt ho k (by omega)]; exact nils_at hl hk, World.ownsRow.frozenAt ho k⟩
theorem own_put {w : World} {base b n1 n2 k : Nat} {v x : Value} {xs ys : List Value} (h : w.ownsRow base 3 1 v n1 xs) (k2 : w.ownsRow b 26 1 (.slice (some ⟨b, 0, none⟩) n2 n2) n2 ys) : (w.setCell ⟨b, k, none⟩ x).ownsRow base 3 1 v n1 xs := World.ownsRow.kept h (grown_set w b k x) (own_unlike h k2)
theorem DlAt.next {w U U1 : World} {l : List Int} {H E k : Nat} (h : DlAt w U l H E k) (hk : k < H) (g1 : U.grownBy U1 none) (o1 : U1.ownsRow U.heap.size 3 1 (.slice (some ⟨U.heap.size, 0, none⟩) E E) E (ints (dealH l H E k))) : DlAt w (U1.setCell ⟨w.heap.size, k, none⟩ (.slice (some ⟨U.heap.size, 0, none⟩) E E)) l H E (k + 1) := by
  obtain ⟨vs, hl, ho, hh, hg⟩ := h
  have ho1 : U1.ownsRow w.heap.size 26 1 (.slice (some ⟨w.heap.size, 0, none⟩) H H) H (vs ++ nils (H - k)) := World.ownsRow.kept ho g1 (Classical.em _)
  have hst := World.ownsRow.stored ho1 k (.slice (some ⟨U.heap.size, 0, none⟩) E E)
  rw [nils_set _ hl hk] at hst
  have hsz : (U1.setCell ⟨w.heap.size, k, none⟩ (.slice (some ⟨U.heap.size, 0, none⟩) E E)).heap.size = U1.heap.size := by simp [World.setCell]
  have hlt := (World.ownsRow.lt o1 U.heap.size rfl).2
  refine ⟨vs ++ [.slice (some ⟨U.heap.size, 0, none⟩) E E], by simp [hl], hst.1, ?_, grown_own (grown_trans hg g1) hst.2 (fun x e => by cases e; exact Nat.le_refl _)⟩
  rw [← dealAll_snoc, hsz]
  refine hh.snoc (fun i u x _ _ h9 => own_put (own_keepN h9 g1) ho1) hg.size ?_ (fun a ha => ?_) g1.size
  · rw [dealH_len]
    exact own_put o1 ho1
  · simp [Value.ownBlock] at ha
    omega
theorem DlAt.full {w U : World} {l : List Int} {H E : Nat} (h : DlAt w U l H E H) : ∃ vs, U.ownsRow w.heap.size 26 1 (.slice (some ⟨w.heap.size, 0, none⟩) H H) H vs ∧ HandsAt U w.heap.size vs (dealAll l H E) U.heap.size ∧ w.grownBy U none := by
  obtain ⟨vs, hl, ho, hh, hg⟩ := h
  rw [Nat.sub_self, show nils 0 = [] from rfl, List.append_nil] at ho
  exact ⟨vs, ho, hh, hg⟩
end Go.Proofs.Ytdgnlcjhdkcjeaa
namespace Go.Proofs.Ytdgnlcjhdkcjeaa
open Go.RowKit

/-- Hands dealt so far, in a list that grows. -/
def DgAt (w wr : World) (l : List Int) (H E k : Nat) (u : Value) : Prop := ∃ vs : List Value, wr.ownsRow w.heap.size 26 1 u k vs ∧ HandsAt wr w.heap.size vs ((List.range k).map (dealH l H E)) wr.heap.size ∧ w.grownBy wr none
theorem own22_block {w : World} {base n : Nat} {v : Value} {xs : List Value} (h : w.ownsRow base 26 1 v n xs) : ∀ x, v.ownBlock = some x → base ≤ x := fun x hx => (World.ownsRow.lt h x hx).1
theorem own22_keep {w w' : World} {base n : Nat} {v : Value} {xs : List Value} (h : w.ownsRow base 26 1 v n xs) (g : w.grownBy w' none) : w'.ownsRow base 26 1 v n xs := World.ownsRow.kept h g (Classical.em (v.ownBlock = none))
theorem DgAt.next {w U X w7 : World} {l : List Int} {H E k : Nat} {u hv v' : Value} {vs : List Value} (ho : U.ownsRow w.heap.size 26 1 u k vs) (hh : HandsAt U w.heap.size vs ((List.range k).map (dealH l H E)) U.heap.size) (hg : w.grownBy U none) (g1 : U.grownBy X none) (o1 : X.ownsRow U.heap.size 3 1 hv E (ints (dealH l H E k))) (o7 : w7.ownsRow w.heap.size 26 1 v' (k + 1) (vs ++ [hv])) (g7 : X.grownBy w7 u.ownBlock) : DgAt w w7 l H E (k + 1) v' := by
  have hx := own22_keep ho g1
  refine ⟨vs ++ [hv], o7, ?_, grown_own (grown_trans hg g1) g7 (own22_block ho)⟩
  rw [← dealAll_snoc]
  refine hh.snoc (fun i y x _ _ h9 => World.ownsRow.kept (own_keepN h9 g1) g7 (own_unlike (own_keepN h9 g1) hx)) hg.size ?_ (fun a ha => Nat.lt_of_lt_of_le (World.ownsRow.lt o1 a ha).2 g7.size) (Nat.le_trans g1.size g7.size)
  rw [dealH_len]
  exact World.ownsRow.kept o1 g7 (own_unlike o1 hx)
theorem cell22_one (W : World) (v : Value) : ∀ j u, [v][j]? = some u → (W.alloc (.cells #[v] 26)).cell? ((⟨W.heap.size, 0, none⟩ : Addr).add j) = some u := fun j u hu => by
  rw [add_plain, Nat.zero_add, block_cell (alloc_at _ _ _)]
  simpa using hu
theorem own22_form {w : World} {base n : Nat} {v : Value} {xs : List Value} (h : w.ownsRow base 26 1 v n xs) : ∃ a c, v = .slice a n c := by
  rcases h.2 with ⟨e, h0⟩ | ⟨g, cap, cur, e, _⟩
  · exact ⟨_, _, by rw [e, h0]⟩
  · exact ⟨_, _, e⟩
end Go.Proofs.Ytdgnlcjhdkcjeaa
namespace Go.Proofs.Ytdgnlcjhdkcjeaa
open Go.RowKit

theorem deal_nats {n : Nat} {h e : Int} (hok : dealOk n h e) : ∃ H E : Nat, h = (H : Int) ∧ e = (E : Int) ∧ 1 ≤ H ∧ H ≤ 64 ∧ E * H ≤ n := by
  obtain ⟨h1, h2, h3, h4⟩ := hok
  obtain ⟨H, rfl⟩ : ∃ H : Nat, h = (H : Int) := ⟨h.toNat, by omega⟩
  obtain ⟨E, rfl⟩ : ∃ E : Nat, e = (E : Int) := ⟨e.toNat, by omega⟩
  rw [← Int.natCast_mul] at h4
  exact ⟨H, E, rfl, rfl, by omega, by omega, Int.ofNat_le.1 h4⟩
theorem drop_zero_ints {w w' : World} {u : Value} {H : Nat} (h : w'.ownsRow w.heap.size 3 1 u 0 (ints [])) : w'.ownsRow w.heap.size 3 1 u 0 (ints (([] : List Int).drop (H * 0))) := by
  rw [List.drop_nil]
  exact h
end Go.Proofs.Ytdgnlcjhdkcjeaa
namespace Go.Proofs.Ytdgnlcjhdkcjeaa
open Go.RowKit

theorem lst_block (x : Lst) : x.v.ownBlock = x.a := by
  obtain ⟨a, n, c⟩ := x
  cases a <;> rfl
theorem lsts_of {w : World} {V : List Value} (h : ∀ v ∈ V, ∃ (lo k : Nat) (xs : List Value), w.ownsRow lo 3 1 v k xs) : ∃ T : List Lst, V = T.map Lst.v ∧ ∀ x ∈ T, x.okI w := by
  induction V with
  | nil => exact ⟨[], rfl, fun x hx => by simp at hx⟩
  | cons v V ih =>
    obtain ⟨T, e, hT⟩ := ih (fun u hu => h u (List.mem_cons_of_mem _ hu))
    obtain ⟨lo, k, xs, ho⟩ := h v List.mem_cons_self
    obtain ⟨x, ex, _, hx, _⟩ := own_lstI ho
    refine ⟨x :: T, by rw [ex, e]; rfl, fun y hy => ?_⟩
    rcases List.mem_cons.1 hy with rfl | hy
    · exact hx
    · exact hT y hy
theorem diff_apart {T : List Lst} (h : (T.map Lst.v).Pairwise fun x y => ∀ a, x.ownBlock = some a → y.ownBlock ≠ some a) : Diff T := fun i j x y g hi hj hx hy => by
  obtain ⟨li, ei⟩ := List.getElem?_eq_some_iff.1 hi
  obtain ⟨lj, ej⟩ := List.getElem?_eq_some_iff.1 hj
  rw [List.pairwise_map, List.pairwise_iff_getElem] at h
  rcases Nat.lt_trichotomy i j with c | c | c
  · exact absurd (by rw [lst_block, ej]; exact hy) (h i j li lj c g (by rw [lst_block, ei]; exact hx))
  · exact c
  · exact absurd (by rw [lst_block, ei]; exact hx) (h j i lj li c g (by rw [lst_block, ej]; exact hy))
theorem blocks_vals (T : List Lst) : blocks T = (T.map Lst.v).filterMap Value.ownBlock := by
  unfold blocks
  rw [List.filterMap_map]
  congr 1
  funext x
  exact (lst_block x).symm
/-- The lent list, as far as it was handed in, may be cut. -/
theorem lent_B {w : World} {g n : Nat} {l : List Int} (h : w.ownsRow g 3 1 (.slice (some ⟨g, 0, none⟩) (n + 2) (n + 2)) (n + 2) (ints (l ++ [-77, -77]))) (hn : l.length = n) : IntsB w (.slice (some ⟨g, 0, none⟩) n (n + 2)) l := by
  subst hn
  refine Or.inr ⟨g, 0, _, rfl, by omega, fun j u hu => ?_⟩
  have hj : j < l.length := by have := (List.getElem?_eq_some_iff.1 hu).1; rwa [length_ints] at this
  rw [Nat.zero_add, World.ownsRow.cellAt h j (by omega), ints_app, List.getElem?_append_left (by rw [length_ints]; exact hj)]
  exact hu
theorem own22_over {w w' : World} {base n f : Nat} {v : Value} {xs : List Value} (h : w.ownsRow base 26 1 v n xs) (g : w.grownBy w' (some f)) (hf : f < base) : w'.ownsRow base 26 1 v n xs := World.ownsRow.kept h g (by
  rcases h.2 with ⟨e, _⟩ | ⟨g', cap', cur, e, hb, _⟩
  · exact Or.inl (by rw [e]; rfl)
  · refine Or.inr ?_
    rw [e]
    intro h9
    simp [Value.ownBlock] at h9
    omega)
theorem HandsAt.over {w w' : World} {base m f : Nat} {vs : List Value} {hs : List (List Int)} (h : HandsAt w base vs hs m) (g : w.grownBy w' (some f)) (hf : f < base) : HandsAt w' base vs hs m :=
  ⟨h.1, fun i v l hv hl => L_keep (h.2.1 i v l hv hl) g hf, h.2.2⟩
theorem HandsAt.at {w : World} {base m i : Nat} {vs : List Value} {hs : List (List Int)} (h : HandsAt w base vs hs m) (hi : i < hs.length) : ∃ v l, vs[i]? = some v ∧ hs[i]? = some l ∧ w.ownsRow base 3 1 v l.length (ints l) := by
  have h1 : i < vs.length := by rw [h.1]; exact hi
  exact ⟨vs[i], hs[i], List.getElem?_eq_getElem h1, List.getElem?_eq_getElem hi, h.2.1 i _ _ (List.getElem?_eq_getElem h1) (List.getElem?_eq_getElem hi)⟩
theorem HandsAt.vals {w : World} {base m : Nat} {vs : List Value} {hs : List (List Int)} (h : HandsAt w base vs hs m) : ∀ v ∈ vs, ∃ (lo k : Nat) (xs : List Value), w.ownsRow lo 3 1 v k xs := fun v hv => by
  obtain ⟨i, hi, e⟩ := List.mem_iff_getElem.1 hv
  obtain ⟨u, l, h1, _, h3⟩ := h.at (i := i) (by rw [← h.1]; exact hi)
  rw [List.getElem?_eq_getElem hi, e] at h1
  cases h1
  exact ⟨_, _, _, h3⟩
theorem HandsAt.blk {w : World} {base m : Nat} {vs : List Value} {hs : List (List Int)} (h : HandsAt w base vs hs m) : ∀ v ∈ vs, ∀ b, v.ownBlock = some b → base ≤ b ∧ b < m := fun v hv b hb => by
  obtain ⟨i, hi, e⟩ := List.mem_iff_getElem.1 hv
  obtain ⟨u, l, h1, _, h3⟩ := h.at (i := i) (by rw [← h.1]; exact hi)
  rw [List.getElem?_eq_getElem hi, e] at h1
  cases h1
  exact ⟨(World.ownsRow.lt h3 b hb).1, h.2.2.2 i _ b (by rw [List.getElem?_eq_getElem hi, e]) hb⟩
theorem HandsAt.pair {w : World} {base m : Nat} {vs : List Value} {hs : List (List Int)} (h : HandsAt w base vs hs m) : vs.Pairwise fun x y => ∀ a, x.ownBlock = some a → y.ownBlock ≠ some a := by
  rw [List.pairwise_iff_getElem]
  intro i j hi hj hij a ha hb
  have := h.2.2.1 i j vs[i] vs[j] a a hij (List.getElem?_eq_getElem hi) (List.getElem?_eq_getElem hj) ha hb
  omega
/-- Values whose blocks lie in rows that rise. -/
theorem pair_in {V : List Value} (S : List (Nat × Nat)) (hl : V.length = S.length) (hb : ∀ (i : Nat) v s, V[i]? = some v → S[i]? = some s → ∀ b, v.ownBlock = some b → s.1 ≤ b ∧ b < s.2) (hs : S.Pairwise fun x y => x.2 ≤ y.1) : V.Pairwise fun x y => ∀ a, x.ownBlock = some a → y.ownBlock ≠ some a := by
  rw [List.pairwise_iff_getElem] at hs ⊢
  intro i j hi hj hij a ha hb'
  have h1 := hb i V[i] S[i] (List.getElem?_eq_getElem hi) (List.getElem?_eq_getElem (by omega)) a ha
  have h2 := hb j V[j] S[j] (List.getElem?_eq_getElem hj) (List.getElem?_eq_getElem (by omega)) a hb'
  have h3 := hs i j (by omega) (by omega) hij
  omega
end Go.Proofs.Ytdgnlcjhdkcjeaa
namespace Go.Proofs.Ytdgnlcjhdkcjeaa

/-- A thing. -/
structure Th where
  card : Int
  owner : Int
  place : Int
  stamp : Int
  hurt : Int
  m0 : Int
  m1 : Int
  m2 : Int
  m3 : Int
  done : Int
  fresh : Bool

/-- A thing at home, in a place. -/
def Th.home (t : Th) (tp : Int) : Th := ⟨t.card, t.owner, tp, 0, 0, 0, 0, 0, 0, 0, false⟩
/-- A thing that has come to the table. -/
def Th.tabled (t : Th) (nx : Int) : Th := ⟨t.card, t.owner, 4, nx, 0, 0, 0, 0, 0, 0, true⟩
def Th.off (t : Th) : Prop := t = t.home t.place
def Th.marked (t : Th) : Prop := (0 ≤ t.m0 ∧ t.m0 ≤ 99) ∧ (0 ≤ t.m1 ∧ t.m1 ≤ 99) ∧ (0 ≤ t.m2 ∧ t.m2 ≤ 99) ∧ (0 ≤ t.m3 ∧ t.m3 ≤ 99)
/-- May a thing be, by itself? -/
def Th.alone (t : Th) (nx : Int) : Prop := 1 ≤ t.card ∧ (t.owner = 0 ∨ t.owner = 1) ∧ (1 ≤ t.place ∧ t.place ≤ 5) ∧ (t.place ≠ 4 → t.off) ∧ (t.place = 4 → 1 ≤ t.stamp ∧ t.stamp < nx ∧ 0 ≤ t.hurt ∧ 0 ≤ t.done ∧ t.marked)
def Th.none : Th := ⟨0, 0, 0, 0, 0, 0, 0, 0, 0, 0, false⟩
def thAt (ts : List Th) (n : Int) : Th := ts.getD (n - 1).toNat Th.none
/-- Is there a thing of that number? -/
def there (ts : List Th) (n : Int) : Prop := 1 ≤ n ∧ n ≤ (ts.length : Int)
/-- Is n an owner's thing in a place? -/
def inn (ts : List Th) (p pl n : Int) : Prop := there ts n ∧ (thAt ts n).owner = p ∧ (thAt ts n).place = pl
def Holds (ts : List Th) (l : List Int) (p pl : Int) : Prop := l.Nodup ∧ ∀ n, n ∈ l ↔ inn ts p pl n
def onTab (p : Int) (t : Th) : Bool := decide (t.owner = p) && decide (t.place = 4)
def owned (ts : List Th) (p : Int) : Nat := ts.countP (onTab p)
structure Zs where
  ts : List Th
  dk : Int → List Int
  hd : Int → List Int
  nx : Int
structure Zs.Sound (z : Zs) : Prop where
  few : z.ts.length ≤ 2048
  nx1 : 1 ≤ z.nx
  nx2 : z.nx ≤ 1099511627776
  each : ∀ t ∈ z.ts, t.alone z.nx
  tab : ∀ p, p = 0 ∨ p = 1 → owned z.ts p ≤ 8
  hand : ∀ p, p = 0 ∨ p = 1 → (z.hd p).length ≤ 10
  dks : ∀ p, p = 0 ∨ p = 1 → Holds z.ts (z.dk p) p 1
  hds : ∀ p, p = 0 ∨ p = 1 → Holds z.ts (z.hd p) p 2
  stamps : ∀ n m, there z.ts n → there z.ts m → (thAt z.ts n).place = 4 → (thAt z.ts m).place = 4 → (thAt z.ts n).stamp = (thAt z.ts m).stamp → n = m

theorem there_at {ts : List Th} {n : Int} (h : there ts n) : ts[(n - 1).toNat]? = some (thAt ts n) := by
  have : (n - 1).toNat < ts.length := by unfold there at h; omega
  unfold thAt
  rw [List.getD_eq_getElem?_getD, List.getElem?_eq_getElem this]
  rfl
theorem there_mem {ts : List Th} {n : Int} (h : there ts n) : thAt ts n ∈ ts := List.mem_of_getElem? (there_at h)
theorem there_set {ts : List Th} {n : Int} (i : Nat) (t : Th) : there (ts.set i t) n ↔ there ts n := by unfold there; rw [List.length_set]
theorem thAt_set {ts : List Th} {n m : Int} (hn : there ts n) (hm : there ts m) (t : Th) : thAt (ts.set (n - 1).toNat t) m = if m = n then t else thAt ts m := by
  have h1 : (n - 1).toNat < ts.length := by unfold there at hn; omega
  unfold thAt
  rw [List.getD_eq_getElem?_getD, List.getElem?_set]
  unfold there at hn hm
  by_cases e : m = n
  · subst e
    rw [if_pos rfl, if_pos h1, if_pos rfl]
    rfl
  · rw [if_neg (by omega), if_neg e, List.getD_eq_getElem?_getD]
theorem alone_mono {t : Th} {a b : Int} (h : t.alone a) (hab : a ≤ b) : t.alone b := ⟨h.1, h.2.1, h.2.2.1, h.2.2.2.1, fun q => by
  obtain ⟨q1, q2, q3⟩ := h.2.2.2.2 q
  exact ⟨q1, by omega, q3⟩⟩
theorem alone_home {t : Th} {nx tp : Int} (h : t.alone nx) (h1 : 1 ≤ tp) (h2 : tp ≤ 5) (h4 : tp ≠ 4) : (t.home tp).alone nx := ⟨h.1, h.2.1, ⟨h1, h2⟩, fun _ => rfl, fun q => absurd q h4⟩
theorem alone_tabled {t : Th} {nx : Int} (h : t.alone nx) (hn : 1 ≤ nx) : (t.tabled nx).alone (nx + 1) := ⟨h.1, h.2.1, ⟨by show (1 : Int) ≤ 4; decide, by show (4 : Int) ≤ 5; decide⟩, fun q => absurd rfl q, fun _ => ⟨hn, by show nx < nx + 1; omega, Int.le_refl _, Int.le_refl _, ⟨⟨Int.le_refl _, by show (0 : Int) ≤ 99; decide⟩, ⟨Int.le_refl _, by show (0 : Int) ≤ 99; decide⟩, ⟨Int.le_refl _, by show (0 : Int) ≤ 99; decide⟩, ⟨Int.le_refl _, by show (0 : Int) ≤ 99; decide⟩⟩⟩⟩
theorem cntP_set {α : Type} (P : α → Bool) : ∀ (l : List α) (i : Nat) (y x : α), l[i]? = some y → (l.set i x).countP P + (if P y = true then 1 else 0) = l.countP P + (if P x = true then 1 else 0)
  | [], i, y, x, h => by simp at h
  | z :: l, 0, y, x, h => by
    simp at h
    subst h
    rw [List.set_cons_zero, List.countP_cons, List.countP_cons]
    omega
  | z :: l, i + 1, y, x, h => by
    have := cntP_set P l i y x (by simpa using h)
    rw [List.set_cons_succ, List.countP_cons, List.countP_cons]
    omega
theorem owned_set {ts : List Th} {n : Int} (hn : there ts n) (t : Th) (p : Int) : owned (ts.set (n - 1).toNat t) p + (if onTab p (thAt ts n) = true then 1 else 0) = owned ts p + (if onTab p t = true then 1 else 0) := cntP_set _ _ _ _ _ (there_at hn)
/-- A thing comes to a place. -/
def Zs.come (z : Zs) (n tp : Int) : Zs where
  ts := z.ts.set (n - 1).toNat (if tp = 4 then (thAt z.ts n).tabled z.nx else (thAt z.ts n).home tp)
  dk := fun p => if p = (thAt z.ts n).owner then (z.dk p).filter (· != n) ++ (if tp = 1 then [n] else []) else z.dk p
  hd := fun p => if p = (thAt z.ts n).owner then (z.hd p).filter (· != n) ++ (if tp = 2 then [n] else []) else z.hd p
  nx := if tp = 4 then z.nx + 1 else z.nx
/-- What it is then. -/
def Zs.coming (z : Zs) (n tp : Int) : Th := if tp = 4 then (thAt z.ts n).tabled z.nx else (thAt z.ts n).home tp
theorem coming_owner (z : Zs) (n tp : Int) : (z.coming n tp).owner = (thAt z.ts n).owner := by unfold Zs.coming; split <;> rfl
theorem coming_place (z : Zs) (n tp : Int) : (z.coming n tp).place = tp := by
  unfold Zs.coming
  split
  · next h => exact h.symm
  · rfl
theorem come_at {z : Zs} {n m : Int} (tp : Int) (hn : there z.ts n) (hm : there z.ts m) : thAt (z.come n tp).ts m = if m = n then z.coming n tp else thAt z.ts m := thAt_set hn hm _
theorem come_there {z : Zs} {n m tp : Int} : there (z.come n tp).ts m ↔ there z.ts m := there_set _ _
theorem inn_come {z : Zs} {n tp : Int} (hn : there z.ts n) (p pl m : Int) : inn (z.come n tp).ts p pl m ↔ there z.ts m ∧ (if m = n then (thAt z.ts n).owner = p ∧ tp = pl else (thAt z.ts m).owner = p ∧ (thAt z.ts m).place = pl) := by
  unfold inn
  rw [come_there]
  constructor
  · rintro ⟨h1, h2, h3⟩
    rw [come_at tp hn h1] at h2 h3
    refine ⟨h1, ?_⟩
    split
    · next e => rw [if_pos e] at h2 h3; rw [coming_owner] at h2; rw [coming_place] at h3; exact ⟨h2, h3⟩
    · next e => rw [if_neg e] at h2 h3; exact ⟨h2, h3⟩
  · rintro ⟨h1, h2⟩
    rw [come_at tp hn h1]
    refine ⟨h1, ?_⟩
    split
    · next e => rw [if_pos e] at h2; rw [coming_owner, coming_place]; exact h2
    · next e => rw [if_neg e] at h2; exact h2
theorem holds_come {z : Zs} {n tp : Int} (hn : there z.ts n) (p pl : Int) (l : List Int) (h : Holds z.ts l p pl) : Holds (z.come n tp).ts (if p = (thAt z.ts n).owner then l.filter (· != n) ++ (if tp = pl then [n] else []) else l) p pl := by
  by_cases hp : p = (thAt z.ts n).owner
  · rw [if_pos hp]
    constructor
    · refine List.nodup_append.2 ⟨h.1.filter _, by split <;> simp, ?_⟩
      intro a ha b hb
      split at hb
      · simp at hb ha
        omega
      · simp at hb
    · intro m
      rw [inn_come hn, List.mem_append, List.mem_filter, h.2]
      by_cases e : m = n
      · subst e
        rw [if_pos rfl]
        by_cases e2 : tp = pl
        · simp [e2, hn, hp]
        · simp [e2]
      · rw [if_neg e]
        unfold inn
        have : ¬ m ∈ (if tp = pl then [n] else []) := by split <;> simp [e]
        simp [this, e]
  · rw [if_neg hp]
    refine ⟨h.1, fun m => ?_⟩
    rw [inn_come hn, h.2]
    unfold inn
    by_cases e : m = n
    · subst e
      rw [if_pos rfl]
      constructor
      · rintro ⟨_, h1, _⟩
        exact absurd h1.symm hp
      · rintro ⟨_, h1, _⟩
        exact absurd h1.symm hp
    · rw [if_neg e]
theorem filter_lt {l : List Int} {n : Int} (h : n ∈ l) : (l.filter (· != n)).length < l.length := by
  refine Nat.lt_of_le_of_ne (List.length_filter_le _ _) (fun e => ?_)
  have := (List.length_filter_eq_length_iff.1 e) n h
  simp at this
theorem onTab_iff {p : Int} {t : Th} : onTab p t = true ↔ t.owner = p ∧ t.place = 4 := by unfold onTab; simp
/-- What lets a thing come to a place. -/
structure Zs.May (z : Zs) (n tp : Int) : Prop where
  at_ : there z.ts n
  lo : 1 ≤ tp
  hi : tp ≤ 5
  hand : tp = 2 → (thAt z.ts n).place ≠ 2 → (z.hd (thAt z.ts n).owner).length < 10
  tab : tp = 4 → (thAt z.ts n).place ≠ 4 → owned z.ts (thAt z.ts n).owner < 8
  nx : tp = 4 → z.nx < 1099511627776
theorem Zs.Sound.own {z : Zs} (S : z.Sound) {n : Int} (h : there z.ts n) : (thAt z.ts n).owner = 0 ∨ (thAt z.ts n).owner = 1 := (S.each _ (there_mem h)).2.1
theorem Zs.Sound.come {z : Zs} (S : z.Sound) {n tp : Int} (M : z.May n tp) : (z.come n tp).Sound := by
  have hn := M.at_
  have A := S.each _ (there_mem hn)
  have hown := S.own hn
  constructor
  · show (z.ts.set _ _).length ≤ _
    rw [List.length_set]
    exact S.few
  · show 1 ≤ (if tp = 4 then z.nx + 1 else z.nx)
    have := S.nx1
    split <;> omega
  · show (if tp = 4 then z.nx + 1 else z.nx) ≤ _
    have h1 := S.nx2
    split
    · next e => have := M.nx e; omega
    · exact h1
  · intro t ht
    show t.alone (if tp = 4 then z.nx + 1 else z.nx)
    rcases List.mem_or_eq_of_mem_set ht with h | h
    · refine alone_mono (S.each t h) ?_
      split <;> omega
    · rw [h]
      split
      · exact alone_tabled A S.nx1
      · next e => exact alone_home A M.lo M.hi e
  · intro p hp
    have e := owned_set hn (z.coming n tp) p
    have h8 := S.tab p hp
    show owned (z.ts.set _ (z.coming n tp)) p ≤ 8
    by_cases h4 : tp = 4
    · by_cases ho : (thAt z.ts n).owner = p
      · by_cases hq : (thAt z.ts n).place = 4
        · rw [if_pos (onTab_iff.2 ⟨ho, hq⟩)] at e
          split at e <;> omega
        · have := M.tab h4 hq
          rw [ho] at this
          split at e <;> split at e <;> omega
      · rw [if_neg (c := onTab p (z.coming n tp) = true) (fun q => ho (by rw [← coming_owner z n tp]; exact (onTab_iff.1 q).1))] at e
        omega
    · rw [if_neg (c := onTab p (z.coming n tp) = true) (fun q => h4 (by rw [← coming_place z n tp]; exact (onTab_iff.1 q).2))] at e
      omega
  · intro p hp
    show (if p = (thAt z.ts n).owner then (z.hd p).filter (· != n) ++ (if tp = 2 then [n] else []) else z.hd p).length ≤ 10
    have h10 := S.hand p hp
    split
    · next e =>
      rw [List.length_append]
      have hf := List.length_filter_le (fun x => x != n) (z.hd p)
      by_cases h2 : tp = 2
      · rw [if_pos h2]
        by_cases hq : (thAt z.ts n).place = 2
        · have := filter_lt (((S.hds p hp).2 n).2 ⟨hn, e.symm, hq⟩)
          simp only [List.length_singleton]
          omega
        · have := M.hand h2 hq
          rw [← e] at this
          simp only [List.length_singleton]
          omega
      · rw [if_neg h2]
        simp only [List.length_nil]
        omega
    · exact h10
  · intro p hp
    exact holds_come hn p 1 _ (S.dks p hp)
  · intro p hp
    exact holds_come hn p 2 _ (S.hds p hp)
  · intro a b ha hb pa pb hs
    rw [come_there] at ha hb
    rw [come_at tp hn ha] at pa hs
    rw [come_at tp hn hb] at pb hs
    by_cases ea : a = n
    · by_cases eb : b = n
      · rw [ea, eb]
      · rw [if_pos ea] at pa hs
        rw [if_neg eb] at pb hs
        rw [coming_place] at pa
        have h1 := ((S.each _ (there_mem hb)).2.2.2.2 pb).2.1
        rw [← hs] at h1
        unfold Zs.coming at h1
        rw [if_pos pa] at h1
        exact absurd h1 (Int.lt_irrefl _)
    · rw [if_neg ea] at pa hs
      by_cases eb : b = n
      · rw [if_pos eb] at pb hs
        rw [coming_place] at pb
        have h1 := ((S.each _ (there_mem ha)).2.2.2.2 pa).2.1
        rw [hs] at h1
        unfold Zs.coming at h1
        rw [if_pos pb] at h1
        exact absurd h1 (Int.lt_irrefl _)
      · rw [if_neg eb] at pb hs
        exact S.stamps a b ha hb pa pb hs
end Go.Proofs.Ytdgnlcjhdkcjeaa
