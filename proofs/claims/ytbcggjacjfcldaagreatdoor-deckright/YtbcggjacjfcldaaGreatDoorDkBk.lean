/-
  DeckBack, of every fill, list and text.
-/
import Derived.Test.YtbcggjacjfcldaaGreatDoorDkU
namespace Go.Proofs.YtbcggjacjfcldaaGreatDoor
open Go.RowKit

theorem runs_few : ∀ l : List Int, (runs l).length ≤ l.length
  | [] => Nat.le_refl _
  | x :: l => by
    have ih := runs_few l
    rw [runs]
    cases hr : runs l with
    | nil => simp
    | cons y R =>
      obtain ⟨y, k⟩ := y
      rw [hr] at ih
      simp only [List.length_cons] at ih ⊢
      split <;> simp only [List.length_cons] <;> omega
theorem text_len {N : List ByteArray} : ∀ R : List (Int × Nat), (∀ x ∈ R, x.2 ≤ 40 ∧ (nmb N x.1).length ≤ 20) → (textR N R).length ≤ 24 * R.length
  | [], _ => Nat.le_refl _
  | x :: R, h => by
    have ih := text_len R (fun y hy => h y (List.mem_cons_of_mem _ hy))
    have hx := h x List.mem_cons_self
    have hd := dec_two x.2 hx.1
    have e : textR N (x :: R) = (lineT x.2 (nmb N x.1) ++ [10]) ++ textR N R := rfl
    rw [e, List.length_append, List.length_append, List.length_cons]
    unfold lineT
    simp only [List.length_append, List.length_cons, List.length_nil]
    omega
theorem run_le {x : Int × Nat} : ∀ R : List (Int × Nat), x ∈ R → x.2 ≤ (listR R).length
  | [], h => by simp at h
  | y :: R, h => by
    have e : listR (y :: R) = List.replicate y.2 y.1 ++ listR R := rfl
    rw [e, List.length_append, List.length_replicate]
    rcases List.mem_cons.1 h with rfl | h
    · omega
    · have := run_le R h; omega
/-- A told text is short. -/
theorem prX_len {ok : Nat → Prop} {w : World} {b : Nat} {es : List Ent} {p : Pl} (B : Book ok w b es p) (l : List Int) : (⟨(prX p es l).toArray⟩ : ByteArray).size ≤ 960 := by
  show (prX p es l).length ≤ 960
  unfold prX
  split
  · unfold ptxt
    split
    · rename_i h
      have h40 := (pchk_all h).1
      have h1 := text_len (N := names es) (runs l) (fun x hx => ⟨by have := run_le _ hx; rw [runs_list] at this; omega, by
        unfold nmb
        rw [List.getD_eq_getElem?_getD]
        cases hn : (names es)[(x.1 - 1).toNat]? with
        | none => simp
        | some s =>
          obtain ⟨e, he, rfl⟩ := List.mem_map.1 (List.mem_of_getElem? hn)
          exact (B.nmOk e he).2⟩)
      have h2 := runs_few l
      unfold dprt
      omega
    · simp
  · simp
theorem dpar_nz {N : List ByteArray} : ∀ (f : Nat) (s : List UInt8) (i : Nat) (last : Int) (out : List Int), s.length < f → ∀ x, dpar N f s i last out = .inl x → ¬ x.1 = 0
  | 0, s, _, _, _, h => by omega
  | f + 1, s, i, last, out, h => by
    rw [dpar]
    by_cases h0 : s = []
    · rw [if_pos h0]; intro x e; cases e
    · rw [if_neg h0]
      have hs : 0 < s.length := by cases s with
        | nil => exact absurd rfl h0
        | cons c r => simp
      cases lineP (s.takeWhile (· != 10)) with
      | none => intro x e; injection e with e; subst e; simp
      | some q =>
        obtain ⟨n, nm⟩ := q
        simp only
        split
        · intro x e; injection e with e; subst e; simp
        · split
          · intro x e; injection e with e; subst e; simp
          · split
            · intro x e; injection e with e; subst e; simp
            · split
              · intro x e; injection e with e; subst e; simp
              · exact dpar_nz f _ _ _ _ (by rw [List.length_drop]; omega)
theorem pgo_nz {n : Nat} {l : List Int} : ∀ (f i : Nat), (pgo n l f i).1 = 0 → pgo n l f i = (0, 0)
  | 0, _, _ => rfl
  | f + 1, i, h => by
    rw [pgo] at h ⊢
    split
    · rename_i h1
      rw [if_pos h1] at h
      exact pgo_nz f (i + 1) h
    · rename_i h1
      rw [if_neg h1] at h
      simp at h
theorem prF_nz {p : Pl} {es : List Ent} {l : List Int} (h : (prF p es l).1 = 0) : prF p es l = (0, 0) := by
  unfold prF at h ⊢
  cases hp : p.shut with
  | false => rw [hp] at h; simp at h
  | true =>
    rw [hp] at h
    simp only [if_true] at h ⊢
    unfold pchk at h ⊢
    split
    · rename_i h1; rw [if_pos h1] at h; simp at h
    · rename_i h1; rw [if_neg h1] at h; exact pgo_nz _ _ h
theorem paD_nz {p : Pl} {es : List Ent} {s : List UInt8} {x : Int × Int} (h : paD p es s = .inl x) : ¬ x.1 = 0 := by
  unfold paD at h
  cases hp : p.shut with
  | false => rw [hp] at h; simp at h; rw [← h]; simp
  | true =>
    rw [hp] at h
    exact dpar_nz _ _ _ _ _ (Nat.lt_succ_self _) x h
/-- What is told of a list is read again. -/
theorem back_there {ok : Nat → Prop} {w : World} {b : Nat} {es : List Ent} {p : Pl} (B : Book ok w b es p) (hNd : (names es).Nodup) {l : List Int} (h : prF p es l = (0, 0)) : paD p es (prX p es l) = .inr l := by
  unfold prF at h
  unfold paD prX
  cases hp : p.shut with
  | false => rw [hp] at h; simp at h
  | true =>
    rw [hp] at h
    simp only [if_true] at h ⊢
    have hall := pchk_all h
    have hN : NmOk (names es) := ⟨fun s hs => by
      obtain ⟨e, he, rfl⟩ := List.mem_map.1 hs
      exact (B.nmOk e he).1, hNd⟩
    have hx : ptxt (names es) l = dprt (names es) l := by unfold ptxt; rw [names_len, if_pos h]
    rw [hx]
    exact deck_there hN hall.1 (fun x hx => by have := hall.2 x hx; unfold CdIn; rw [names_len]; exact this) _ (Nat.lt_succ_self _)
/-- What is read of a text is told again. -/
theorem back_again {p : Pl} {es : List Ent} {s : List UInt8} {q : List Int} (h : paD p es s = .inr q) : prF p es q = (0, 0) ∧ prX p es q = s ∧ q.length ≤ 40 := by
  unfold paD at h
  cases hp : p.shut with
  | false => rw [hp] at h; simp at h
  | true =>
    rw [hp] at h
    simp only [if_true] at h
    obtain ⟨h1, h2, h3⟩ := deck_back h
    have hk : pchk es.length q = (0, 0) := pchk_ok h2 (fun j hj => by
      have := h3 (q.getD j 0) (by simp [List.getD, hj])
      unfold CdIn at this
      rw [names_len] at this
      exact this)
    refine ⟨?_, ?_, h2⟩
    · unfold prF; rw [hp, if_pos rfl, hk]
    · unfold prX; rw [hp, if_pos rfl]; unfold ptxt; rw [names_len, if_pos hk, h1]
set_option maxHeartbeats 8000000 in
set_option maxRecDepth 100000 in
theorem dback_big1 (ca ma : Option Addr) (ck mk : Nat) (op : Bool) (cs : List Ent) (ms : List Mk) (a : Option Addr) (n c : Nat) (s : ByteArray) (w : World) (LB : LibAt w) (h1 : 80 < cs.length) : Calls Tryz.prog 5 #[.agg #[.slice ca cs.length ck, .slice ma ms.length mk, .bool op], .slice a n c, .string s] w fun e w' => e = .returned (.bool true) ∧ w.grownBy w' none := by
  obtain ⟨W1, hW1⟩ : ∃ W1, W1 = w.alloc (.cells #[.slice ca cs.length ck, .slice ma ms.length mk, .bool op] 25) := ⟨_, rfl⟩
  have HG1 : Hid (w.grownBy W1 none) := by rw [hW1]; exact World.grownBy_alloc _ _ none
  have HBx : Hid (FbAt W1 w.heap.size (.slice ca cs.length ck) (.slice ma ms.length mk) op) := by rw [hW1]; exact alloc_at w _ _
  have HAw := awake_any W1 (LB.keep HG1.out)
  have t1 : (80 : Int) < (cs.length : Int) := by omega
  clear LB h1
  obtain ⟨f0, hf0⟩ : ∃ f0, f0 = w.heap.size := ⟨_, rfl⟩
  go_enter Tryz.func5, Tryz.ntmps5
  go_upto_region 1 with fail
  rw [← hW1, ← hf0]
  rw [← hf0] at HBx
  clear hW1 hf0
  go_wp2_with fail
  refine HAw.mono ?_
  rintro e w2 ⟨rfl, g2⟩
  have HG2 : Hid (w.grownBy w2 none) := grown_trans HG1.out g2
  have HB2 : Hid (FbAt w2 f0 (.slice ca cs.length ck) (.slice ma ms.length mk) op) := HBx.out.keep g2
  have x0 := block_cell HB2.out 0
  have x1 := block_cell HB2.out 1
  have x2 := block_cell HB2.out 2
  clear HAw g2 HBx
  go_wp2_with fail
  go_ret
  exact ⟨rfl, HG2.out⟩
set_option maxHeartbeats 8000000 in
set_option maxRecDepth 100000 in
theorem dback_big2 (ca ma : Option Addr) (ck mk : Nat) (op : Bool) (cs : List Ent) (ms : List Mk) (a : Option Addr) (n c : Nat) (s : ByteArray) (w : World) (LB : LibAt w) (h1 : ¬ 80 < cs.length) (h2 : 20 < ms.length) : Calls Tryz.prog 5 #[.agg #[.slice ca cs.length ck, .slice ma ms.length mk, .bool op], .slice a n c, .string s] w fun e w' => e = .returned (.bool true) ∧ w.grownBy w' none := by
  obtain ⟨W1, hW1⟩ : ∃ W1, W1 = w.alloc (.cells #[.slice ca cs.length ck, .slice ma ms.length mk, .bool op] 25) := ⟨_, rfl⟩
  have HG1 : Hid (w.grownBy W1 none) := by rw [hW1]; exact World.grownBy_alloc _ _ none
  have HBx : Hid (FbAt W1 w.heap.size (.slice ca cs.length ck) (.slice ma ms.length mk) op) := by rw [hW1]; exact alloc_at w _ _
  have HAw := awake_any W1 (LB.keep HG1.out)
  have t1 : ¬ (80 : Int) < (cs.length : Int) := by omega
  have t2 : (20 : Int) < (ms.length : Int) := by omega
  clear LB h1 h2
  obtain ⟨f0, hf0⟩ : ∃ f0, f0 = w.heap.size := ⟨_, rfl⟩
  go_enter Tryz.func5, Tryz.ntmps5
  go_upto_region 1 with fail
  rw [← hW1, ← hf0]
  rw [← hf0] at HBx
  clear hW1 hf0
  go_wp2_with fail
  refine HAw.mono ?_
  rintro e w2 ⟨rfl, g2⟩
  have HG2 : Hid (w.grownBy w2 none) := grown_trans HG1.out g2
  have HB2 : Hid (FbAt w2 f0 (.slice ca cs.length ck) (.slice ma ms.length mk) op) := HBx.out.keep g2
  have x0 := block_cell HB2.out 0
  have x1 := block_cell HB2.out 1
  have x2 := block_cell HB2.out 2
  clear HAw g2 HBx
  go_wp2_with fail
  go_ret
  exact ⟨rfl, HG2.out⟩
set_option maxHeartbeats 8000000 in
set_option maxRecDepth 100000 in
theorem dback_big3 (ca ma : Option Addr) (ck mk : Nat) (op : Bool) (cs : List Ent) (ms : List Mk) (a : Option Addr) (n c : Nat) (s : ByteArray) (w : World) (LB : LibAt w) (h1 : ¬ 80 < cs.length) (h2 : ¬ 20 < ms.length) (h3 : 300 < n) : Calls Tryz.prog 5 #[.agg #[.slice ca cs.length ck, .slice ma ms.length mk, .bool op], .slice a n c, .string s] w fun e w' => e = .returned (.bool true) ∧ w.grownBy w' none := by
  obtain ⟨W1, hW1⟩ : ∃ W1, W1 = w.alloc (.cells #[.slice ca cs.length ck, .slice ma ms.length mk, .bool op] 25) := ⟨_, rfl⟩
  have HG1 : Hid (w.grownBy W1 none) := by rw [hW1]; exact World.grownBy_alloc _ _ none
  have HBx : Hid (FbAt W1 w.heap.size (.slice ca cs.length ck) (.slice ma ms.length mk) op) := by rw [hW1]; exact alloc_at w _ _
  have HAw := awake_any W1 (LB.keep HG1.out)
  have t1 : ¬ (80 : Int) < (cs.length : Int) := by omega
  have t2 : ¬ (20 : Int) < (ms.length : Int) := by omega
  have t3 : (300 : Int) < (n : Int) := by omega
  clear LB h1 h2 h3
  obtain ⟨f0, hf0⟩ : ∃ f0, f0 = w.heap.size := ⟨_, rfl⟩
  go_enter Tryz.func5, Tryz.ntmps5
  go_upto_region 1 with fail
  rw [← hW1, ← hf0]
  rw [← hf0] at HBx
  clear hW1 hf0
  go_wp2_with fail
  refine HAw.mono ?_
  rintro e w2 ⟨rfl, g2⟩
  have HG2 : Hid (w.grownBy w2 none) := grown_trans HG1.out g2
  have HB2 : Hid (FbAt w2 f0 (.slice ca cs.length ck) (.slice ma ms.length mk) op) := HBx.out.keep g2
  have x0 := block_cell HB2.out 0
  have x1 := block_cell HB2.out 1
  have x2 := block_cell HB2.out 2
  clear HAw g2 HBx
  go_wp2_with fail
  go_ret
  exact ⟨rfl, HG2.out⟩
set_option maxHeartbeats 8000000 in
set_option maxRecDepth 100000 in
theorem dback_big4 (ca ma : Option Addr) (ck mk : Nat) (op : Bool) (cs : List Ent) (ms : List Mk) (a : Option Addr) (n c : Nat) (s : ByteArray) (w : World) (LB : LibAt w) (h1 : ¬ 80 < cs.length) (h2 : ¬ 20 < ms.length) (h3 : ¬ 300 < n) (h4 : 3000 < s.size) : Calls Tryz.prog 5 #[.agg #[.slice ca cs.length ck, .slice ma ms.length mk, .bool op], .slice a n c, .string s] w fun e w' => e = .returned (.bool true) ∧ w.grownBy w' none := by
  obtain ⟨W1, hW1⟩ : ∃ W1, W1 = w.alloc (.cells #[.slice ca cs.length ck, .slice ma ms.length mk, .bool op] 25) := ⟨_, rfl⟩
  have HG1 : Hid (w.grownBy W1 none) := by rw [hW1]; exact World.grownBy_alloc _ _ none
  have HBx : Hid (FbAt W1 w.heap.size (.slice ca cs.length ck) (.slice ma ms.length mk) op) := by rw [hW1]; exact alloc_at w _ _
  have HAw := awake_any W1 (LB.keep HG1.out)
  have t1 : ¬ (80 : Int) < (cs.length : Int) := by omega
  have t2 : ¬ (20 : Int) < (ms.length : Int) := by omega
  have t3 : ¬ (300 : Int) < (n : Int) := by omega
  have t4 : (3000 : Int) < (s.size : Int) := by omega
  clear LB h1 h2 h3 h4
  obtain ⟨f0, hf0⟩ : ∃ f0, f0 = w.heap.size := ⟨_, rfl⟩
  go_enter Tryz.func5, Tryz.ntmps5
  go_upto_region 1 with fail
  rw [← hW1, ← hf0]
  rw [← hf0] at HBx
  clear hW1 hf0
  go_wp2_with fail
  refine HAw.mono ?_
  rintro e w2 ⟨rfl, g2⟩
  have HG2 : Hid (w.grownBy w2 none) := grown_trans HG1.out g2
  have HB2 : Hid (FbAt w2 f0 (.slice ca cs.length ck) (.slice ma ms.length mk) op) := HBx.out.keep g2
  have x0 := block_cell HB2.out 0
  have x1 := block_cell HB2.out 1
  have x2 := block_cell HB2.out 2
  clear HAw g2 HBx
  go_wp2_with fail
  go_ret
  exact ⟨rfl, HG2.out⟩
set_option maxHeartbeats 8000000 in
set_option maxRecDepth 100000 in
theorem dback_main (ca ma : Option Addr) (ck mk : Nat) (op : Bool) (cs : List Ent) (ms : List Mk) (a : Option Addr) (n c : Nat) (l : List Int) (s : ByteArray) (w : World) (F : FiA w (.slice ca cs.length ck) (.slice ma ms.length mk) cs ms) (R : Rd w a n l) (hnc : n ≤ c) (LB : LibAt w) (h1 : ¬ 80 < cs.length) (h2 : ¬ 20 < ms.length) (h3 : ¬ 300 < n) (h4 : ¬ 3000 < s.size) : Calls Tryz.prog 5 #[.agg #[.slice ca cs.length ck, .slice ma ms.length mk, .bool op], .slice a n c, .string s] w fun e w' => e = .returned (.bool true) ∧ w.grownBy w' none := by
  obtain ⟨W1, hW1⟩ : ∃ W1, W1 = w.alloc (.cells #[.slice ca cs.length ck, .slice ma ms.length mk, .bool op] 25) := ⟨_, rfl⟩
  have HG1 : Hid (w.grownBy W1 none) := by rw [hW1]; exact World.grownBy_alloc _ _ none
  have HBx : Hid (FbAt W1 w.heap.size (.slice ca cs.length ck) (.slice ma ms.length mk) op) := by rw [hW1]; exact alloc_at w _ _
  have HAw := awake_any W1 (LB.keep HG1.out)
  have t1 : ¬ (80 : Int) < (cs.length : Int) := by omega
  have t2 : ¬ (20 : Int) < (ms.length : Int) := by omega
  have t3 : ¬ (300 : Int) < (n : Int) := by omega
  have t4 : ¬ (3000 : Int) < (s.size : Int) := by omega
  have HFi : Hid (FiA w (.slice ca cs.length ck) (.slice ma ms.length mk) cs ms) := F
  have HRd : Hid (Rd w a n l ∧ n ≤ c) := ⟨R, hnc⟩
  have HLb : Hid (LibAt w) := LB
  have HLe : Hid (cs.length ≤ 80 ∧ ms.length ≤ 20 ∧ n ≤ 300 ∧ s.size ≤ 3000) := ⟨by omega, by omega, by omega, by omega⟩
  clear F R hnc LB h1 h2 h3 h4
  obtain ⟨f0, hf0⟩ : ∃ f0, f0 = w.heap.size := ⟨_, rfl⟩
  go_enter Tryz.func5, Tryz.ntmps5
  go_upto_region 1 with fail
  rw [← hW1, ← hf0]
  rw [← hf0] at HBx
  clear hW1 hf0
  go_wp2_with fail
  refine HAw.mono ?_
  rintro e w2 ⟨rfl, g2⟩
  have HG2 : Hid (w.grownBy w2 none) := grown_trans HG1.out g2
  have HB2 : Hid (FbAt w2 f0 (.slice ca cs.length ck) (.slice ma ms.length mk) op) := HBx.out.keep g2
  have x0 := block_cell HB2.out 0
  have x1 := block_cell HB2.out 1
  have x2 := block_cell HB2.out 2
  clear HAw g2 HBx
  have HBk := books_any (.slice ca cs.length ck) (.slice ma ms.length mk) op cs ms w2 (HFi.out.keep HG2.out) HLe.out.1 HLe.out.2.1
  obtain ⟨nb, hnb⟩ : ∃ nb, nb = w2.heap.size + 1 := ⟨_, rfl⟩
  rw [← hnb] at HBk
  clear hnb
  go_wp2_with fail
  refine HBk.mono ?_
  intro e w3 Q3
  obtain ⟨vv, es, fs, p, rfl, P3, hNd, g3⟩ := Q3
  have HNd : Hid ((names es).Nodup) := hNd
  clear hNd
  have HG3 : Hid (w.grownBy w3 none) := grown_trans HG2.out g3
  have HB3 : Hid (Book (okB nb) w3 nb es p) := P3.book
  have HPr := pprint_any (okB nb) nb es p a n c l w3 P3.book HRd.out.2 (HRd.out.1.keep HG3.out) (HLb.out.keep HG3.out)
  obtain ⟨X, hX⟩ : ∃ X : ByteArray, X = ⟨(prX p es l).toArray⟩ := ⟨_, rfl⟩
  have hXl : X.size ≤ 960 := by rw [hX]; exact prX_len P3.book l
  obtain ⟨e1, he1⟩ : ∃ e1, e1 = (prF p es l).1 := ⟨_, rfl⟩
  obtain ⟨e2, he2⟩ : ∃ e2, e2 = (prF p es l).2 := ⟨_, rfl⟩
  unfold fv2 at HPr
  rw [← hX, ← he1, ← he2] at HPr
  have HXd : Hid (X.data.toList = prX p es l ∧ X.size ≤ 960) := ⟨by rw [hX], hXl⟩
  have HE : Hid (prF p es l = (e1, e2)) := by show _ = _; rw [he1, he2]
  clear HBk P3 g3 hX he1 he2 x0 x1 x2 HB2 hXl
  go_wp2_with fail
  refine HPr.mono ?_
  rintro e w4 ⟨rfl, g4⟩
  obtain ⟨W5, hW5⟩ : ∃ W5, W5 = w4.alloc (.cells #[.int .i64 e1, .int .i64 e2] 34) := ⟨_, rfl⟩
  have HGW5 : Hid (w.grownBy W5 none) := by rw [hW5]; exact grown_push (grown_trans HG3.out g4) _
  have HSW5 : Hid (w4.grownBy W5 none) := by rw [hW5]; exact World.grownBy_alloc _ _ none
  have HFW5 : Hid (FAt W5 w4.heap.size e1 e2) := by rw [hW5]; exact alloc_at w4 _ _
  have HB5 : Hid (Book (okB nb) W5 nb es p) := (HB3.out.keep g4).keep HSW5.out
  clear HPr g4 HB3
  go_upto_region 6 with fail
  rw [← hW5]
  clear hW5
  obtain ⟨b5, hb5⟩ : ∃ b5, b5 = w4.heap.size := ⟨_, rfl⟩
  rw [← hb5] at HFW5 ⊢
  clear hb5
  have c0 := HFW5.out.c0
  have c1 := HFW5.out.c1
  by_cases hz : e1 = 0
  · have hz2 : e2 = 0 := by have h1 := HE.out; have h2 := prF_nz (p := p) (es := es) (l := l) (by rw [h1]; exact hz); rw [h2] at h1; exact (congrArg Prod.snd h1).symm
    subst hz
    subst hz2
    have hback := back_there HB5.out HNd.out HE.out
    have HPa := pparse_any (okB nb) nb es p X W5 HB5.out (by have := HXd.out.2; omega) (HLb.out.keep HGW5.out)
    rw [HXd.out.1, hback] at HPa
    go_wp2_with fail
    refine HPa.mono ?_
    intro e w6 Q6
    obtain ⟨a6, c6, rfl, o6, g6⟩ := Q6.any
    simp only [pf, pl] at o6 ⊢
    obtain ⟨W7, hW7⟩ : ∃ W7, W7 = w6.alloc (.cells #[.int .i64 0, .int .i64 0] 34) := ⟨_, rfl⟩
    have HG7 : Hid (w.grownBy W7 none) := by rw [hW7]; exact grown_push (grown_trans HGW5.out g6) _
    have HS7 : Hid (W5.grownBy W7 none) := by rw [hW7]; exact grown_push g6 _
    have HF7 : Hid (FAt W7 w6.heap.size 0 0) := by rw [hW7]; exact alloc_at w6 _ _
    obtain ⟨aa, cc, ev, R6, hm6, _⟩ := own_rd o6
    injection ev with ev1 _ ev3
    subst ev1
    subst ev3
    have hln : l.length = n := HRd.out.1.1.symm
    have HSm := L.same_ints (.slice a6 l.length c6) (.slice a n c) l l W7 (rd_at (R6.keep (by rw [hW7]; exact World.grownBy_alloc _ _ none)) hm6) (rd_at (HRd.out.1.keep HG7.out) hm6)
    rw [decide_eq_true rfl] at HSm
    rw [hln] at HSm ⊢
    have HHl : Hid (l.length = n) := hln
    clear Q6 o6 g6 HPa hback R6 hm6 hln c0 c1
    go_upto_region 8 with fail
    rw [← hW7]
    clear hW7
    obtain ⟨b7, hb7⟩ : ∃ b7, b7 = w6.heap.size := ⟨_, rfl⟩
    rw [← hb7] at HF7 ⊢
    clear hb7
    have c0 := HF7.out.c0
    have c1 := HF7.out.c1
    go_wp2_with fail
    refine HSm.mono ?_
    rintro e w8 ⟨rfl, k8, hw8⟩
    have HG8 : Hid (w.grownBy w8 none) := by rw [hw8]; exact grown_trans HG7.out (grown_drewN _ _ _)
    have HB8 : Hid (Book (okB nb) w8 nb es p) := by rw [hw8]; exact (HB5.out.keep HS7.out).keep (grown_drewN _ _ _)
    clear HSm hw8 HF7 c0 c1 HB5 HFW5
    have HP2 := pparse_any (okB nb) nb es p s w8 HB8.out (by have := HLe.out; omega) (HLb.out.keep HG8.out)
    obtain ⟨D, hD⟩ : ∃ D, D = paD p es s.data.toList := ⟨_, rfl⟩
    rw [← hD] at HP2
    have HD : Hid (D = paD p es s.data.toList) := hD
    clear hD
    go_wp2_with fail
    refine HP2.mono ?_
    intro e w9 Q9
    obtain ⟨a9, c9, rfl, o9, g9⟩ := Q9.any
    obtain ⟨d1, hd1⟩ : ∃ d1, d1 = (pf D).1 := ⟨_, rfl⟩
    obtain ⟨d2, hd2⟩ : ∃ d2, d2 = (pf D).2 := ⟨_, rfl⟩
    obtain ⟨m, hm⟩ : ∃ m, m = (pl D).length := ⟨_, rfl⟩
    rw [← hd1, ← hd2, ← hm]
    rw [← hm] at o9
    obtain ⟨V, hV⟩ : ∃ V, V = w9.alloc (.cells #[.int .i64 d1, .int .i64 d2] 34) := ⟨_, rfl⟩
    have HGV : Hid (w.grownBy V none) := by rw [hV]; exact grown_push (grown_trans HG8.out g9) _
    have HFV : Hid (FAt V w9.heap.size d1 d2) := by rw [hV]; exact alloc_at w9 _ _
    have HBV : Hid (Book (okB nb) V nb es p) := by rw [hV]; exact (HB8.out.keep g9).keep (World.grownBy_alloc _ _ none)
    obtain ⟨aa2, cc2, ev2, R9, _, hle9⟩ := own_rd o9
    injection ev2 with ev21 _ ev23
    subst ev21
    subst ev23
    have HR9 : Hid (Rd V a9 m (pl D) ∧ m ≤ c9) := ⟨by rw [hV]; exact R9.keep (World.grownBy_alloc _ _ none), hle9⟩
    have HM : Hid (m = (pl D).length ∧ d1 = (pf D).1 ∧ d2 = (pf D).2) := ⟨hm, hd1, hd2⟩
    clear Q9 o9 g9 HP2 HB8 R9 hle9 hm hd1 hd2
    go_upto_region 11 with fail
    rw [← hV]
    clear hV
    obtain ⟨b9, hb9⟩ : ∃ b9, b9 = w9.heap.size := ⟨_, rfl⟩
    rw [← hb9] at HFV ⊢
    clear hb9
    have c0 := HFV.out.c0
    have c1 := HFV.out.c1
    cases hDD : D with
    | inl f =>
      obtain ⟨f1, f2⟩ := f
      have hm0 : m = 0 := by rw [HM.out.1, hDD]; rfl
      have hq1 : d1 = f1 := by rw [HM.out.2.1, hDD]; rfl
      have hq2 : d2 = f2 := by rw [HM.out.2.2, hDD]; rfl
      have hnz : ¬ f1 = 0 := paD_nz (p := p) (es := es) (s := s.data.toList) (x := (f1, f2)) (by rw [← HD.out, hDD])
      have hne2 : (f1 == 0) = false := by simpa using hnz
      subst hm0
      subst hq1
      subst hq2
      clear hDD HD HM HR9
      go_wp2_with fail
      go_ret
      exact ⟨rfl, HGV.out⟩
    | inr q =>
      have hq1 : d1 = 0 := by rw [HM.out.2.1, hDD]; rfl
      have hq2 : d2 = 0 := by rw [HM.out.2.2, hDD]; rfl
      have hag := back_again (p := p) (es := es) (s := s.data.toList) (q := q) (by rw [← HD.out, hDD])
      have hql : pl D = q := by rw [hDD]; rfl
      have HRq : Hid (Rd V a9 m q ∧ m ≤ c9) := by rw [← hql]; exact HR9.out
      have HP3 := pprint_any (okB nb) nb es p a9 m c9 q V HBV.out HRq.out.2 HRq.out.1 (HLb.out.keep HGV.out)
      rw [hag.1, hag.2.1, bytes_mk] at HP3
      unfold fv2 at HP3
      simp only at HP3
      have hm40 : (m : Int) ≤ 40 := by have h1 := HM.out.1; rw [hql] at h1; have h2 := hag.2.2; omega
      subst hq1
      subst hq2
      clear hDD hag hql HD HM HR9 HRq
      go_wp2_with fail
      refine HP3.mono ?_
      rintro e wa ⟨rfl, ga⟩
      obtain ⟨V2, hV2⟩ : ∃ V2, V2 = wa.alloc (.cells #[.int .i64 0, .int .i64 0] 34) := ⟨_, rfl⟩
      have HGV2 : Hid (w.grownBy V2 none) := by rw [hV2]; exact grown_push (grown_trans HGV.out ga) _
      have HFV2 : Hid (FAt V2 wa.heap.size 0 0) := by rw [hV2]; exact alloc_at wa _ _
      clear HP3 ga c0 c1
      go_upto_region 14 with fail
      rw [← hV2]
      clear hV2
      obtain ⟨ba, hba⟩ : ∃ ba, ba = wa.heap.size := ⟨_, rfl⟩
      rw [← hba] at HFV2 ⊢
      clear hba
      have c0 := HFV2.out.c0
      have c1 := HFV2.out.c1
      have hss : (s.toList == s.toList) = true := by simp
      go_wp2_with fail
      go_ret
      exact ⟨rfl, HGV2.out⟩
  · have hne : (e1 == 0) = false := by simpa using hz
    have HG8 : Hid (w.grownBy W5 none) := HGW5.out
    have HB8 : Hid (Book (okB nb) W5 nb es p) := HB5.out
    clear HFW5 HB5
    have HP2 := pparse_any (okB nb) nb es p s W5 HB8.out (by have := HLe.out; omega) (HLb.out.keep HG8.out)
    obtain ⟨D, hD⟩ : ∃ D, D = paD p es s.data.toList := ⟨_, rfl⟩
    rw [← hD] at HP2
    have HD : Hid (D = paD p es s.data.toList) := hD
    clear hD
    go_wp2_with fail
    refine HP2.mono ?_
    intro e w9 Q9
    obtain ⟨a9, c9, rfl, o9, g9⟩ := Q9.any
    obtain ⟨d1, hd1⟩ : ∃ d1, d1 = (pf D).1 := ⟨_, rfl⟩
    obtain ⟨d2, hd2⟩ : ∃ d2, d2 = (pf D).2 := ⟨_, rfl⟩
    obtain ⟨m, hm⟩ : ∃ m, m = (pl D).length := ⟨_, rfl⟩
    rw [← hd1, ← hd2, ← hm]
    rw [← hm] at o9
    obtain ⟨V, hV⟩ : ∃ V, V = w9.alloc (.cells #[.int .i64 d1, .int .i64 d2] 34) := ⟨_, rfl⟩
    have HGV : Hid (w.grownBy V none) := by rw [hV]; exact grown_push (grown_trans HG8.out g9) _
    have HFV : Hid (FAt V w9.heap.size d1 d2) := by rw [hV]; exact alloc_at w9 _ _
    have HBV : Hid (Book (okB nb) V nb es p) := by rw [hV]; exact (HB8.out.keep g9).keep (World.grownBy_alloc _ _ none)
    obtain ⟨aa2, cc2, ev2, R9, _, hle9⟩ := own_rd o9
    injection ev2 with ev21 _ ev23
    subst ev21
    subst ev23
    have HR9 : Hid (Rd V a9 m (pl D) ∧ m ≤ c9) := ⟨by rw [hV]; exact R9.keep (World.grownBy_alloc _ _ none), hle9⟩
    have HM : Hid (m = (pl D).length ∧ d1 = (pf D).1 ∧ d2 = (pf D).2) := ⟨hm, hd1, hd2⟩
    clear Q9 o9 g9 HP2 HB8 R9 hle9 hm hd1 hd2
    go_upto_region 11 with fail
    rw [← hV]
    clear hV
    obtain ⟨b9, hb9⟩ : ∃ b9, b9 = w9.heap.size := ⟨_, rfl⟩
    rw [← hb9] at HFV ⊢
    clear hb9
    have c0 := HFV.out.c0
    have c1 := HFV.out.c1
    cases hDD : D with
    | inl f =>
      obtain ⟨f1, f2⟩ := f
      have hm0 : m = 0 := by rw [HM.out.1, hDD]; rfl
      have hq1 : d1 = f1 := by rw [HM.out.2.1, hDD]; rfl
      have hq2 : d2 = f2 := by rw [HM.out.2.2, hDD]; rfl
      have hnz : ¬ f1 = 0 := paD_nz (p := p) (es := es) (s := s.data.toList) (x := (f1, f2)) (by rw [← HD.out, hDD])
      have hne2 : (f1 == 0) = false := by simpa using hnz
      subst hm0
      subst hq1
      subst hq2
      clear hDD HD HM HR9
      go_wp2_with fail
      go_ret
      exact ⟨rfl, HGV.out⟩
    | inr q =>
      have hq1 : d1 = 0 := by rw [HM.out.2.1, hDD]; rfl
      have hq2 : d2 = 0 := by rw [HM.out.2.2, hDD]; rfl
      have hag := back_again (p := p) (es := es) (s := s.data.toList) (q := q) (by rw [← HD.out, hDD])
      have hql : pl D = q := by rw [hDD]; rfl
      have HRq : Hid (Rd V a9 m q ∧ m ≤ c9) := by rw [← hql]; exact HR9.out
      have HP3 := pprint_any (okB nb) nb es p a9 m c9 q V HBV.out HRq.out.2 HRq.out.1 (HLb.out.keep HGV.out)
      rw [hag.1, hag.2.1, bytes_mk] at HP3
      unfold fv2 at HP3
      simp only at HP3
      have hm40 : (m : Int) ≤ 40 := by have h1 := HM.out.1; rw [hql] at h1; have h2 := hag.2.2; omega
      subst hq1
      subst hq2
      clear hDD hag hql HD HM HR9 HRq
      go_wp2_with fail
      refine HP3.mono ?_
      rintro e wa ⟨rfl, ga⟩
      obtain ⟨V2, hV2⟩ : ∃ V2, V2 = wa.alloc (.cells #[.int .i64 0, .int .i64 0] 34) := ⟨_, rfl⟩
      have HGV2 : Hid (w.grownBy V2 none) := by rw [hV2]; exact grown_push (grown_trans HGV.out ga) _
      have HFV2 : Hid (FAt V2 wa.heap.size 0 0) := by rw [hV2]; exact alloc_at wa _ _
      clear HP3 ga c0 c1
      go_upto_region 14 with fail
      rw [← hV2]
      clear hV2
      obtain ⟨ba, hba⟩ : ∃ ba, ba = wa.heap.size := ⟨_, rfl⟩
      rw [← hba] at HFV2 ⊢
      clear hba
      have c0 := HFV2.out.c0
      have c1 := HFV2.out.c1
      have hss : (s.toList == s.toList) = true := by simp
      go_wp2_with fail
      go_ret
      exact ⟨rfl, HGV2.out⟩
theorem deckBack_any (vc vm : Value) (op : Bool) (cs : List Ent) (ms : List Mk) (a : Option Addr) (n c : Nat) (l : List Int) (s : ByteArray) (w : World) (F : FiA w vc vm cs ms) (O : IntsB w (.slice a n c) l) (LB : LibAt w) : Calls Tryz.prog 5 #[.agg #[vc, vm, .bool op], .slice a n c, .string s] w fun e w' => e = .returned (.bool true) ∧ w.grownBy w' none := by
  obtain ⟨ca, ck, rfl, _⟩ := F.c
  obtain ⟨ma, mk, rfl, _⟩ := F.m
  obtain ⟨R, hnc⟩ := intsB_rd O
  by_cases h1 : 80 < cs.length
  · exact dback_big1 ca ma ck mk op cs ms a n c s w LB h1
  by_cases h2 : 20 < ms.length
  · exact dback_big2 ca ma ck mk op cs ms a n c s w LB h1 h2
  by_cases h3 : 300 < n
  · exact dback_big3 ca ma ck mk op cs ms a n c s w LB h1 h2 h3
  by_cases h4 : 3000 < s.size
  · exact dback_big4 ca ma ck mk op cs ms a n c s w LB h1 h2 h3 h4
  exact dback_main ca ma ck mk op cs ms a n c l s w F R hnc LB h1 h2 h3 h4
end Go.Proofs.YtbcggjacjfcldaaGreatDoor
