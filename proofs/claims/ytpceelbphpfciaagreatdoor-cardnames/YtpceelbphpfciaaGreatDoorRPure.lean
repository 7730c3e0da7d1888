/-
  How the document's own Parse reads a card's text, as plain functions; and that it tells what the program's tells.
-/
import Derived.Test.YtpceelbphpfciaaGreatDoorCPure
namespace Go.Proofs.YtpceelbphpfciaaGreatDoor

/-- Does the other text stand at place i? -/
def hits (s b : List UInt8) (i : Nat) : Prop := (s.drop i).take b.length = b
/-- A text cut wherever the other one stands: the piece begins at a, the walk is at i. -/
def gcutF (s b : List UInt8) : Nat → Nat → Nat → List (List UInt8)
  | 0, a, _ => [s.drop a]
  | n + 1, a, i => if i + b.length ≤ s.length then (if a ≤ i ∧ (s.drop i).take b.length = b then (s.drop a).take (i - a) :: gcutF s b n (i + b.length) (i + 1) else gcutF s b n a (i + 1)) else [s.drop a]
def gcut (s b : List UInt8) (a i : Nat) : List (List UInt8) := gcutF s b (s.length + 1 - i) a i
theorem gcut_hit {s b : List UInt8} {a i : Nat} (h : i + b.length ≤ s.length) (ha : a ≤ i) (hh : hits s b i) : gcut s b a i = (s.drop a).take (i - a) :: gcut s b (i + b.length) (i + 1) := by
  have e : s.length + 1 - i = (s.length + 1 - (i + 1)) + 1 := by omega
  unfold gcut
  rw [e, gcutF, if_pos h, if_pos (show a ≤ i ∧ (s.drop i).take b.length = b from ⟨ha, hh⟩)]
theorem gcut_miss {s b : List UInt8} {a i : Nat} (h : i + b.length ≤ s.length) (hn : ¬ (a ≤ i ∧ hits s b i)) : gcut s b a i = gcut s b a (i + 1) := by
  have e : s.length + 1 - i = (s.length + 1 - (i + 1)) + 1 := by omega
  unfold gcut
  rw [e, gcutF, if_pos h, if_neg (show ¬ (a ≤ i ∧ (s.drop i).take b.length = b) from hn)]
theorem gcut_end {s b : List UInt8} {a i : Nat} (h : ¬ i + b.length ≤ s.length) : gcut s b a i = [s.drop a] := by
  unfold gcut
  cases s.length + 1 - i with
  | zero => rfl
  | succ n => rw [gcutF, if_neg h]
theorem gcut_skip {s b : List UInt8} {a : Nat} : ∀ (k i : Nat), (∀ j, i ≤ j → j < i + k → ¬ (a ≤ j ∧ hits s b j)) → gcut s b a i = gcut s b a (i + k)
  | 0, i, _ => rfl
  | k + 1, i, h => by
    by_cases hl : i + b.length ≤ s.length
    · rw [gcut_miss hl (h i (Nat.le_refl _) (by omega)), gcut_skip k (i + 1) (fun j h1 h2 => h j (by omega) (by omega))]
      congr 1
      omega
    · rw [gcut_end hl, gcut_end (by omega)]
theorem gcut_piece {s b pre p r : List UInt8} (hs : s = pre ++ (p ++ (b ++ r))) (hb : 0 < b.length) (hn : ∀ j, j < p.length → ¬ hits (p ++ (b ++ r)) b j) : gcut s b pre.length pre.length = p :: gcut s b (pre.length + p.length + b.length) (pre.length + p.length + b.length) := by
  have hd : ∀ j, s.drop (pre.length + j) = (p ++ (b ++ r)).drop j := fun j => by rw [hs, List.drop_length_add_append]
  have hl : s.length = pre.length + p.length + b.length + r.length := by rw [hs]; simp only [List.length_append]; omega
  rw [gcut_skip p.length pre.length (fun j h1 h2 => fun hc => by
    refine hn (j - pre.length) (by omega) ?_
    have := hc.2
    unfold hits at this ⊢
    rw [← hd, show pre.length + (j - pre.length) = j by omega]
    exact this)]
  rw [gcut_hit (by omega) (by omega) (by
    unfold hits
    rw [hd, List.drop_left, List.take_left])]
  congr 1
  · have := hd 0
    rw [Nat.add_zero, List.drop_zero] at this
    rw [this, show pre.length + p.length - pre.length = p.length by omega, List.take_left]
  · rw [gcut_skip (b.length - 1) _ (fun j h1 h2 => fun hc => by omega)]
    congr 1
    omega
theorem gcut_last {s b pre p : List UInt8} (hs : s = pre ++ p) (hb : 0 < b.length) (hn : ∀ j, j < p.length → ¬ hits p b j) : gcut s b pre.length pre.length = [p] := by
  have hd : ∀ j, s.drop (pre.length + j) = p.drop j := fun j => by rw [hs, List.drop_length_add_append]
  have hl : s.length = pre.length + p.length := by rw [hs]; simp only [List.length_append]
  rw [gcut_skip p.length pre.length (fun j h1 h2 => fun hc => by
    refine hn (j - pre.length) (by omega) ?_
    have := hc.2
    unfold hits at this ⊢
    rw [← hd, show pre.length + (j - pre.length) = j by omega]
    exact this)]
  rw [gcut_end (by omega)]
  have := hd 0
  rw [Nat.add_zero, List.drop_zero] at this
  rw [this]
/-- One sign stands where it stands. -/
theorem hits_one {s : List UInt8} {m : UInt8} {j : Nat} (h : hits s [m] j) : s[j]? = some m := by
  unfold hits at h
  have e : (s.drop j)[0]? = some m := by
    cases hd : s.drop j with
    | nil => rw [hd] at h; simp at h
    | cons x r => rw [hd] at h; simp at h; simp [h]
  simpa using e
theorem miss_one {p r : List UInt8} {m : UInt8} (h : m ∉ p) : ∀ j, j < p.length → ¬ hits (p ++ r) [m] j := fun j hj hc => by
  have := hits_one hc
  rw [List.getElem?_append_left hj] at this
  exact h (List.mem_of_getElem? this)
theorem hits_bar {s : List UInt8} {j : Nat} (h : hits s barS j) : s[j + 1]? = some 124 := by
  unfold hits at h
  have e : (s.drop j)[1]? = some 124 := by
    match hd : s.drop j with
    | [] => rw [hd] at h; simp [barS] at h
    | [x] => rw [hd] at h; simp [barS] at h
    | x :: y :: r => rw [hd] at h; simp [barS] at h; simp [h.2.1]
  simpa [Nat.add_comm] using e
theorem miss_bar {p r : List UInt8} (h : (124 : UInt8) ∉ p) : ∀ j, j < p.length → ¬ hits (p ++ (barS ++ r)) barS j := fun j hj hc => by
  have := hits_bar hc
  by_cases hk : j + 1 < p.length
  · rw [List.getElem?_append_left hk] at this
    exact h (List.mem_of_getElem? this)
  · rw [List.getElem?_append_right (by omega), show j + 1 - p.length = 0 by omega] at this
    simp [barS] at this
theorem miss_bar_end {p : List UInt8} (h : (124 : UInt8) ∉ p) : ∀ j, j < p.length → ¬ hits p barS j := fun _ _ hc => h (List.mem_of_getElem? (hits_bar hc))
theorem gcut_tail : ∀ (ps : List Pt) (s pre h : List UInt8), s = pre ++ (h ++ tailT ps) → (124 : UInt8) ∉ h → (∀ p ∈ ps, chk p = 0) → gcut s barS pre.length pre.length = h :: ps.map prt
  | [], s, pre, h, hs, hh, _ => by
    rw [tailT, List.append_nil] at hs
    exact gcut_last hs (by decide) (miss_bar_end hh)
  | p :: r, s, pre, h, hs, hh, hp => by
    have e : tailT (p :: r) = barS ++ (prt p ++ tailT r) := by simp [tailT, barS]
    rw [e] at hs
    rw [gcut_piece hs (by decide) (miss_bar hh)]
    have ih := gcut_tail r s (pre ++ (h ++ barS)) (prt p) (by rw [hs]; simp) (prt_bar (may_of (hp p (by simp)))) (fun q hq => hp q (List.mem_cons_of_mem _ hq))
    have el : (pre ++ (h ++ barS)).length = pre.length + h.length + barS.length := by simp only [List.length_append]; omega
    rw [el] at ih
    rw [ih]
    rfl
theorem gcut_join : ∀ (ws : List (List UInt8)) (s pre : List UInt8), ws ≠ [] → s = pre ++ Lib.join ws [32] → (∀ w ∈ ws, (32 : UInt8) ∉ w) → gcut s [32] pre.length pre.length = ws
  | [], _, _, h, _, _ => absurd rfl h
  | [x], s, pre, _, hs, hw => by
    rw [Lib.join_one] at hs
    have := miss_one (r := []) (hw x (by simp))
    rw [List.append_nil] at this
    exact gcut_last hs (by decide) this
  | x :: y :: r, s, pre, _, hs, hw => by
    rw [join_cons2] at hs
    have e : (32 :: Lib.join (y :: r) [32] : List UInt8) = [32] ++ Lib.join (y :: r) [32] := rfl
    rw [e] at hs
    rw [gcut_piece hs (by decide) (miss_one (hw x (by simp)))]
    have ih := gcut_join (y :: r) s (pre ++ (x ++ [32])) (by simp) (by rw [hs]; simp) (fun w h => hw w (List.mem_cons_of_mem _ h))
    have el : (pre ++ (x ++ [32])).length = pre.length + x.length + ([32] : List UInt8).length := by simp only [List.length_append]; omega
    rw [el] at ih
    rw [ih]
def rpcs (s b : List UInt8) : List (List UInt8) := gcut s b 0 0
theorem rpcs_slash {p q : List UInt8} (hp : (47 : UInt8) ∉ p) (hq : (47 : UInt8) ∉ q) : rpcs (p ++ 47 :: q) [47] = [p, q] := by
  have e : (47 :: q : List UInt8) = [47] ++ q := rfl
  unfold rpcs
  rw [e]
  have h1 := gcut_piece (s := p ++ ([47] ++ q)) (b := [47]) (pre := []) (p := p) (r := q) rfl (by decide) (miss_one hp)
  have m := miss_one (r := []) hq
  rw [List.append_nil] at m
  have h2 := gcut_last (s := p ++ ([47] ++ q)) (b := [47]) (pre := p ++ [47]) (p := q) (by simp) (by decide) m
  have el : (p ++ [47] : List UInt8).length = ([] : List UInt8).length + p.length + ([47] : List UInt8).length := by simp only [List.length_append, List.length_nil]; omega
  rw [el] at h2
  rw [h2] at h1
  exact h1
theorem rpcs_none {p : List UInt8} (hp : (47 : UInt8) ∉ p) : rpcs p [47] = [p] := by
  have m := miss_one (r := []) hp
  rw [List.append_nil] at m
  exact gcut_last (s := p) (b := [47]) (pre := []) rfl (by decide) m
/-- A word's digits, three at most; 0 of others. -/
def num6 : Nat → Int → List UInt8 → Int
  | 0, n, _ => n
  | _ + 1, n, [] => n
  | k + 1, n, c :: r => if 48 ≤ c.toNat ∧ c.toNat ≤ 57 then num6 k (10 * n + (c.toNat - 48 : Nat)) r else 0
theorem num_dgl : ∀ k : Fin 100, num6 3 0 (dgl k) = (k : Nat) := by decide +kernel
theorem num_itoa {n : Int} (h : 0 ≤ n ∧ n ≤ 99) : num6 3 0 (Lib.itoa n) = n := by
  obtain ⟨k, e, hk⟩ := itoa_nat h
  rw [e, num_dgl, hk]
/-- One word ahead of the parts, at its place. -/
def rh1 (i : Nat) (w : List UInt8) (c : Cd) : Cd :=
  if i = 0 then { c with nm := ⟨w.toArray⟩ }
  else if i = 1 then { c with su := idx suitW w }
  else if i = 2 ∧ w = [117, 110, 105, 116] then { c with kd := 1 }
  else if i = 2 ∧ w = [115, 112, 101, 108, 108] then { c with kd := 2 }
  else if i = 2 ∧ w = [114, 101, 108, 105, 99] then { c with kd := 3 }
  else if i = 3 then { c with co := num6 3 0 w }
  else if i = 4 ∧ (rpcs w [47]).length = 2 then { c with po := num6 3 0 ((rpcs w [47]).getD 0 []), he := num6 3 0 ((rpcs w [47]).getD 1 []) }
  else if w = tokW then { c with tk := true }
  else if w.head? = some 43 then (if idx traitW (w.drop 1) = 0 then c else { c with tr := tWith c.tr (idx traitW (w.drop 1)) })
  else c
def rhF : Nat → List (List UInt8) → Cd → Cd
  | _, [], c => c
  | i, w :: r, c => rhF (i + 1) r (rh1 i w c)
def rhead (ws : List (List UInt8)) : Cd := rhF 0 ws Cd.none
theorem rhF_snoc : ∀ (ws : List (List UInt8)) (i : Nat) (w : List UInt8) (c : Cd), rhF i (ws ++ [w]) c = rh1 (i + ws.length) w (rhF i ws c)
  | [], _, _, _ => rfl
  | x :: r, i, w, c => by
    simp only [List.cons_append, rhF, List.length_cons]
    rw [rhF_snoc r (i + 1) w]
    congr 1
    omega
theorem rhF_app : ∀ (a b : List (List UInt8)) (i : Nat) (c : Cd), rhF i (a ++ b) c = rhF (i + a.length) b (rhF i a c)
  | [], b, i, c => rfl
  | x :: r, b, i, c => by
    simp only [List.cons_append, rhF, List.length_cons]
    rw [rhF_app r b (i + 1)]
    congr 1
    omega
theorem or_range (a b : Int) : 0 ≤ bits .or .u16 a b ∧ bits .or .u16 a b ≤ 65535 := by
  rw [bits_or]
  have := (bv a ||| bv b).isLt
  omega
def TrOk (c : Cd) : Prop := 0 ≤ c.tr ∧ c.tr ≤ 65535
theorem rh1_tr {i : Nat} {w : List UInt8} {c : Cd} (h : TrOk c) : TrOk (rh1 i w c) := by
  unfold rh1
  split
  · exact h
  split
  · exact h
  split
  · exact h
  split
  · exact h
  split
  · exact h
  split
  · exact h
  split
  · exact h
  split
  · exact h
  split
  · split
    · exact h
    · exact or_range _ _
  · exact h
theorem rhF_tr : ∀ (ws : List (List UInt8)) (i : Nat) (c : Cd), TrOk c → TrOk (rhF i ws c)
  | [], _, _, h => h
  | _ :: r, i, _, h => rhF_tr r (i + 1) _ (rh1_tr h)
theorem rh1_ps (i : Nat) (w : List UInt8) (c : Cd) : (rh1 i w c).ps = c.ps := by
  unfold rh1
  repeat' split
  all_goals rfl
theorem rhF_ps : ∀ (ws : List (List UInt8)) (i : Nat) (c : Cd), (rhF i ws c).ps = c.ps
  | [], _, _ => rfl
  | w :: r, i, c => by rw [rhF, rhF_ps r, rh1_ps]
theorem rhead_ps (ws : List (List UInt8)) : (rhead ws).ps = [] := rhF_ps ws 0 Cd.none
/-- The document's own Parse. -/
def rparse6 (s : List UInt8) : Cd × Int := if 512 < s.length then (Cd.none, 3) else match rpcs s barS with
  | [] => (Cd.none, 160)
  | h :: ts => match readPs ts [] with
    | none => (Cd.none, 160)
    | some ps => if cchk { rhead (rpcs h [32]) with ps := ps } = 0 ∧ cprt { rhead (rpcs h [32]) with ps := ps } = s then ({ rhead (rpcs h [32]) with ps := ps }, 0) else (Cd.none, 160)
theorem rh1_tok {i : Nat} (hi : 4 ≤ i) (c : Cd) : rh1 i tokW c = { c with tk := true } := by
  have e : rpcs tokW [47] = [tokW] := rpcs_none (by decide)
  unfold rh1
  rw [if_neg (by omega), if_neg (by omega), if_neg (by omega), if_neg (by omega), if_neg (by omega), if_neg (by omega), if_neg (by rw [e]; simp), if_pos rfl]
theorem trait_slash {i : Int} (h : 1 ≤ i ∧ i ≤ 8) : (47 : UInt8) ∉ (43 :: at1 traitW i : List UInt8) := by
  rcases eight_cases h with rfl | rfl | rfl | rfl | rfl | rfl | rfl | rfl <;> decide
theorem rh1_trait {i : Nat} (hi : 4 ≤ i) {t : Int} (h : 1 ≤ t ∧ t ≤ 8) (c : Cd) : rh1 i (43 :: at1 traitW t) c = { c with tr := tWith c.tr t } := by
  have e : rpcs (43 :: at1 traitW t) [47] = [43 :: at1 traitW t] := rpcs_none (trait_slash h)
  have hb := (trait_back h).1
  unfold rh1
  rw [if_neg (by omega), if_neg (by omega), if_neg (by omega), if_neg (by omega), if_neg (by omega), if_neg (by omega), if_neg (by rw [e]; simp), if_neg (by simp [tokW]), if_pos (show (43 :: at1 traitW t : List UInt8).head? = some 43 from rfl)]
  simp only [List.drop_succ_cons, List.drop_zero]
  rw [if_neg (by omega), hb]
theorem rhF_traits : ∀ (l : List Int) (i : Nat) (c : Cd), 4 ≤ i → (∀ t ∈ l, 1 ≤ t ∧ t ≤ 8) → rhF i (l.map fun t => 43 :: at1 traitW t) c = { c with tr := l.foldl tWith c.tr }
  | [], i, c, _, _ => rfl
  | t :: l, i, c, hi, h => by
    simp only [List.map_cons, rhF, rh1_trait hi (h t (by simp))]
    rw [rhF_traits l (i + 1) _ (by omega) (fun u hu => h u (List.mem_cons_of_mem _ hu))]
    rfl
theorem rh1_force {a b : Int} (ha : 0 ≤ a ∧ a ≤ 99) (hb : 0 ≤ b ∧ b ≤ 99) (c : Cd) : rh1 4 (Lib.itoa a ++ 47 :: Lib.itoa b) c = { c with po := a, he := b } := by
  obtain ⟨k, e, -⟩ := itoa_nat ha
  obtain ⟨j, f, -⟩ := itoa_nat hb
  have h : rpcs (Lib.itoa a ++ 47 :: Lib.itoa b) [47] = [Lib.itoa a, Lib.itoa b] := rpcs_slash (by rw [e]; exact (dgl_more k).2.1) (by rw [f]; exact (dgl_more j).2.1)
  unfold rh1
  rw [if_neg (by omega), if_neg (by omega), if_neg (by omega), if_neg (by omega), if_neg (by omega), if_neg (by omega), if_pos ⟨rfl, by rw [h]; rfl⟩, h]
  simp only [List.getD_cons_zero, List.getD_cons_succ, num_itoa ha, num_itoa hb]
theorem rh1_kind {i : Int} (h : 1 ≤ i ∧ i ≤ 3) (c : Cd) : rh1 2 (at1 kindW i) c = { c with kd := i } := by
  rcases (show i = 1 ∨ i = 2 ∨ i = 3 by omega) with rfl | rfl | rfl
  · unfold rh1
    rw [if_neg (by omega), if_neg (by omega), if_pos ⟨rfl, by decide⟩]
  · unfold rh1
    rw [if_neg (by omega), if_neg (by omega), if_neg (by decide), if_pos ⟨rfl, by decide⟩]
  · unfold rh1
    rw [if_neg (by omega), if_neg (by omega), if_neg (by decide), if_neg (by decide), if_pos ⟨rfl, by decide⟩]
/-- Reading undoes telling. -/
theorem rhead_back {c : Cd} (W : c.wf) (M : CMay c) : rhead (cheads c) = { c with ps := [] } := by
  have a := (suit_back M.su).1
  have b := num_itoa (n := c.co) (by have := M.co; omega)
  have hs := bits_small W.tr M.tr
  have ht : (tList c.tr).foldl tWith 0 = c.tr := by
    have := (list_back ⟨c.tr.toNat, by have := W.tr; omega⟩).1
    have e : ((c.tr.toNat : Nat) : Int) = c.tr := by have := W.tr; omega
    simpa only [e] using this
  have h0 : ∀ d : Cd, rh1 0 c.nm.data.toList d = { d with nm := c.nm } := fun d => rfl
  have h1 : ∀ d : Cd, rh1 1 (at1 suitW c.su) d = { d with su := c.su } := fun d => by
    unfold rh1
    rw [if_neg (by omega), if_pos rfl, a]
  have h3 : ∀ d : Cd, rh1 3 (Lib.itoa c.co) d = { d with co := c.co } := fun d => by
    unfold rh1
    rw [if_neg (by omega), if_neg (by omega), if_neg (by omega), if_neg (by omega), if_neg (by omega), if_pos rfl, b]
  unfold rhead
  simp only [cheads, List.cons_append, List.nil_append, rhF, h0, h1, rh1_kind M.kd, h3]
  have f1 : rhF 4 (forceW c) { Cd.none with nm := c.nm, su := c.su, kd := c.kd, co := c.co } = { Cd.none with nm := c.nm, su := c.su, kd := c.kd, co := c.co, po := c.po, he := c.he } := by
    unfold forceW
    split
    · simp only [rhF, rh1_force M.po M.he]
    · rename_i hk
      have hf := M.fo
      unfold forceOk at hf
      rw [if_neg hk] at hf
      simp only [Bool.and_eq_true, decide_eq_true_eq] at hf
      simp [rhF, hf.1, hf.2, Cd.none]
  have f2 : ∀ i, 4 ≤ i → rhF i (tokenW c) { Cd.none with nm := c.nm, su := c.su, kd := c.kd, co := c.co, po := c.po, he := c.he } = { Cd.none with nm := c.nm, su := c.su, kd := c.kd, co := c.co, po := c.po, he := c.he, tk := c.tk } := by
    intro i hi
    unfold tokenW
    cases c.tk with
    | true => simp [rhF, rh1_tok hi]
    | false => simp [rhF, Cd.none]
  rw [rhF_app, f1, rhF_app, f2 _ (by omega)]
  unfold traitsW
  rw [rhF_traits _ _ _ (by omega) (fun t h => list_mem h)]
  simp only [Cd.none, ht]
theorem rparse_prt {c : Cd} (W : c.wf) (h : cchk c = 0) : rparse6 (cprt c) = (c, 0) := by
  have M := cmay_of h
  unfold rparse6
  have e1 : rpcs (cprt c) barS = Lib.join (cheads c) [32] :: c.ps.map prt := gcut_tail c.ps (cprt c) [] _ (by rw [cprt_is]; rfl) (head_bar M) M.ps
  have e2 : rpcs (Lib.join (cheads c) [32]) [32] = cheads c := gcut_join (cheads c) _ [] (by simp [cheads]) rfl (fun w hw => (heads_facts M w hw).1)
  rw [if_neg (by have := cprt_len M; omega), e1]
  simp only
  rw [parts_back _ _ M.ps]
  simp only [List.nil_append]
  rw [e2, rhead_back W M]
  exact if_pos ⟨h, rfl⟩
theorem chk_wf {p : Pt} (h : chk p = 0) : p.wf := by
  have M := may_of h
  have h1 := M.ct
  have h2 := M.su
  have h3 := M.tr
  have h4 := M.mr
  have := M.wn
  have := M.vb
  have := M.wm
  constructor
  all_goals first | omega | (split at h1 <;> omega) | (split at h2 <;> omega) | (split at h3 <;> omega) | (split at h4 <;> omega)
theorem wf_of {c : Cd} (h : cchk c = 0) (ht : TrOk c) : c.wf := by
  have M := cmay_of h
  have := M.su
  have := M.kd
  have := M.co
  have := M.po
  have := M.he
  exact ⟨by omega, by omega, by omega, by omega, by omega, ht, fun p hp => chk_wf (M.ps p hp)⟩
theorem far1_tr {w : List UInt8} {c d : Cd} (h : far1 w c = some d) (hc : TrOk c) : TrOk d := by
  unfold far1 at h
  split at h
  · obtain rfl := Option.some.inj h; exact hc
  · split at h
    · split at h
      · cases h
      · obtain rfl := Option.some.inj h; exact or_range _ _
    · split at h
      · obtain rfl := Option.some.inj h; exact hc
      · cases h
theorem far_tr : ∀ {l : List (List UInt8)} {c d : Cd}, far l c = some d → TrOk c → TrOk d
  | [], c, d, h, hc => by obtain rfl := Option.some.inj h; exact hc
  | w :: r, c, d, h, hc => by
    simp only [far] at h
    cases h1 : far1 w c with
    | none => rw [h1] at h; cases h
    | some e =>
      rw [h1] at h
      exact far_tr h (far1_tr h1 hc)
theorem readH_tr {l : List (List UInt8)} {d : Cd} (h : readH l = some d) : TrOk d := by
  unfold readH at h
  split at h
  · split at h
    · cases h
    · split at h
      · exact far_tr h ⟨by simp [Cd.none], by simp [Cd.none]⟩
      · cases h
  · cases h
theorem cread_tr {s : List UInt8} {c : Cd} (h : cread s = some c) : TrOk c := by
  unfold cread at h
  split at h
  · cases h
  · split at h
    · cases h
    · rename_i hr
      split at h
      · cases h
      · obtain rfl := Option.some.inj h
        have := readH_tr hr
        exact ⟨this.1, this.2⟩
theorem cparse_wf {s : List UInt8} (h : (cparse s).2 = 0) : (cparse s).1.wf := by
  have k := cparse_yes h
  refine wf_of k.1 ?_
  unfold cparse at h ⊢
  split at h
  · simp at h
  · rename_i hl
    rw [if_neg hl]
    cases hr : cread s with
    | none => rw [hr] at h; simp at h
    | some q =>
      rw [hr] at h
      simp only at h ⊢
      split at h
      · rename_i hc
        rw [if_pos hc]
        exact cread_tr hr
      · simp at h
/-- What the document's own Parse tells is what the program's tells. -/
theorem parse6_same (s : List UInt8) : cparse s = rparse6 s := by
  by_cases hz : (cparse s).2 = 0
  · have h := cparse_yes hz
    have := rparse_prt (cparse_wf hz) h.1
    rw [h.2] at this
    rw [this, ← hz]
  · have hn : cparse s = (Cd.none, if 512 < s.length then 3 else 160) := by
      unfold cparse at hz ⊢
      split
      · rfl
      · rename_i hl
        rw [if_neg hl] at hz
        cases hr : cread s with
        | none => rfl
        | some q =>
          rw [hr] at hz
          simp only at hz ⊢
          split
          · rename_i hc
            rw [if_pos hc] at hz
            exact absurd rfl hz
          · rfl
    rw [hn]
    unfold rparse6
    by_cases hl : 512 < s.length
    · rw [if_pos hl, if_pos hl]
    · rw [if_neg hl, if_neg hl]
      cases hp : rpcs s barS with
      | nil => rfl
      | cons h ts =>
        simp only
        cases hr : readPs ts [] with
        | none => rfl
        | some ps =>
          simp only
          split
          · rename_i hc
            exfalso
            have k := cparse_prt (wf_of hc.1 (rhF_tr (rpcs h [32]) 0 Cd.none ⟨by simp [Cd.none], by simp [Cd.none]⟩)) hc.1
            rw [hc.2, hn] at k
            have := congrArg Prod.snd k
            simp only at this
            split at this <;> omega
          · rfl
end Go.Proofs.YtpceelbphpfciaaGreatDoor
