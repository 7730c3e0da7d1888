/-
  deck.Print, of every book and list.
-/
import Derived.Test.YtbcggjacjfcldaaGreatDoorDkE
import Derived.Test.YtbcggjacjfcldaaGreatDoorD21
import Derived.Deep.CutRange
import Derived.Deep.CutBlock
namespace Go.Proofs.YtbcggjacjfcldaaGreatDoor
open Go.RowKit

theorem pcheck_any (ok : Nat → Prop) (b : Nat) (es : List Ent) (p : Pl) (a : Option Addr) (n c : Nat) (l : List Int) (w : World) (B : Book ok w b es p) (R : Rd w a n l) : Calls Tryz.prog 14 #[.pointer (some ⟨b, 0, none⟩), .slice a n c] w fun e w' => e = .returned (fv2 (ckF p es l)) ∧ w.grownBy w' none := by
  unfold ckF
  cases hp : p.shut with
  | false => exact pcheck_open ok b es p a n c w B hp
  | true =>
    by_cases hn : n < 12 ∨ 40 < n
    · have e : dchk es.length (tkOf es) l = (9, -1) := by unfold dchk; rw [if_pos (by rw [← R.1]; exact hn)]
      rw [if_pos rfl, e]
      exact pcheck_len ok b es p a n c w B hp hn
    · rw [if_pos rfl]
      exact pcheck_run ok b es p a n c l w B hp (by omega) (by omega) R
/-- A book's names: unlike, and each a name. -/
theorem Book.nmOk {ok : Nat → Prop} {w : World} {b : Nat} {es : List Ent} {p : Pl} (B : Book ok w b es p) : ∀ e ∈ es, nameOk e.h.nm.data.toList = true ∧ e.h.nm.size ≤ 20 := fun e he => by
  have h := B.may e he
  have h2 := (cchk_facts h).1
  refine ⟨?_, h2⟩
  cases hn : nameOk e.h.nm.data.toList with
  | true => rfl
  | false =>
    unfold cchk at h
    have : nameOk e.cd.nm.data.toList = false := hn
    rw [if_pos (by simp [this])] at h
    cases h
/-- Where Print stands: the first i numbers are told by the text T. -/
structure PrIn (N : List ByteArray) (l : List Int) (i : Nat) (T : ByteArray) : Prop where
  le : i ≤ l.length
  ok : ∀ j, j < i → nIn N.length (l.getD j 0)
  txt : T.data.toList ++ dprt N (l.drop i) = dprt N l
  sz : T.size ≤ 24 * i
theorem PrIn.start (N : List ByteArray) (l : List Int) : PrIn N l 0 ⟨#[]⟩ := ⟨Nat.zero_le _, fun j hj => by omega, rfl, Nat.le_refl _⟩
theorem PrIn.done {N : List ByteArray} {l : List Int} {T : ByteArray} (h : PrIn N l l.length T) (h40 : l.length ≤ 40) : pchk N.length l = (0, 0) ∧ ptxt N l = T.data.toList := by
  have h1 := pchk_ok h40 h.ok
  refine ⟨h1, ?_⟩
  unfold ptxt
  rw [if_pos h1, ← h.txt, List.drop_length]
  simp [dprt, runs, textR]
theorem PrIn.bad {N : List ByteArray} {l : List Int} {i : Nat} {T : ByteArray} (h : PrIn N l i T) (h40 : l.length ≤ 40) (hi : i < l.length) (hb : ¬ nIn N.length (l.getD i 0)) : pchk N.length l = (6, (i : Int)) ∧ ptxt N l = [] := by
  have h1 := pchk_at h40 hi h.ok hb
  refine ⟨h1, ?_⟩
  unfold ptxt
  rw [h1, if_neg (by simp)]
theorem dec_two : ∀ k : Nat, k ≤ 40 → (dec k).length ≤ 2 := by decide +kernel
/-- One run more. -/
theorem PrIn.next {N : List ByteArray} {l : List Int} {i k : Nat} {T z nm : ByteArray} (h : PrIn N l i T) (h40 : l.length ≤ 40) (hr : RunTo (l.drop i) 0 k) (hin : nIn N.length (l.getD i 0)) (hn : nm.data.toList = nmb N (l.getD i 0)) (hz : z.data.toList = dec k) (hns : nm.size ≤ 20) (T' : ByteArray) (hT : T'.data.toList = T.data.toList ++ (z.data.toList ++ [32] ++ nm.data.toList ++ [10])) : PrIn N l (i + k) T' := by
  have hlen : (l.drop i).length = l.length - i := List.length_drop
  have hk := hr.le
  rw [hlen] at hk
  have hi := h.le
  have h0 := hr.lt
  have hget : ∀ j, (l.drop i).getD j 0 = l.getD (i + j) 0 := fun j => by simp [List.getD]
  have hall : ∀ j, i ≤ j → j < i + k → l.getD j 0 = l.getD i 0 := fun j h1 h2 => by
    have := hr.all (j - i) (by omega) (by omega)
    rw [hget, hget] at this
    rw [show i + (j - i) = j by omega, Nat.add_zero] at this
    exact this
  have hne : i + k < l.length → l.getD (i + k) 0 ≠ l.getD i 0 := fun h1 => by
    have := hr.nxt (by rw [hlen]; omega)
    rw [hget, hget, Nat.add_zero] at this
    exact this
  refine ⟨by omega, fun j hj => ?_, ?_, ?_⟩
  · rcases (show j < i ∨ i ≤ j from by omega) with h1 | h1
    · exact h.ok j h1
    · rw [hall j h1 hj]; exact hin
  · have e := dprt_step (N := N) (l := l) (i := i) (k := i + k) (x := l.getD i 0) (by omega) (by omega) hall hne
    rw [← h.txt, e, hT, hn, hz, show i + k - i = k by omega]
    unfold lineT
    simp
  · have e : T'.size = T.size + (z.data.toList.length + 1 + nm.size + 1) := by
      have : T'.data.toList.length = T'.size := rfl
      rw [← this, hT]
      simp only [List.length_append, List.length_cons, List.length_nil]
      have h1 : T.data.toList.length = T.size := rfl
      have h2 : nm.data.toList.length = nm.size := rfl
      omega
    rw [e, hz]
    have h1 := dec_two k (by omega)
    have h2 := h.sz
    have h3 : 24 * (i + k) = 24 * i + 24 * k := Nat.mul_add _ _ _
    omega
set_option maxHeartbeats 4000000 in
set_option maxRecDepth 100000 in
theorem pprint_open (ok : Nat → Prop) (b : Nat) (es : List Ent) (p : Pl) (a : Option Addr) (n c : Nat) (w : World) (B : Book ok w b es p) (hp : p.shut = false) : Calls Tryz.prog 10 #[.pointer (some ⟨b, 0, none⟩), .slice a n c] w fun e w' => e = .returned (.tuple #[.string ⟨#[]⟩, .agg #[.int .i64 2, .int .i64 (-1)]]) ∧ w.grownBy w' none := by
  obtain ⟨W1, hW1⟩ : ∃ W1, W1 = w.alloc (.cells #[.int .i64 0, .int .i64 0] 34) := ⟨_, rfl⟩
  have HG1 : Hid (w.grownBy W1 none) := by rw [hW1]; exact World.grownBy_alloc _ _ none
  have HF1 : Hid (FAt W1 w.heap.size 0 0) := by rw [hW1]; exact alloc_at w _ _
  have HR := refusal_book ok b es p false hp W1 (B.keep HG1.out)
  clear B hp
  go_enter Tryz.func10, Tryz.ntmps10
  go_upto_region 1 with fail
  rw [← hW1]
  clear hW1
  go_wp2_with fail
  refine HR.mono ?_
  rintro e w2 ⟨rfl, g2⟩
  have HG2 : Hid (W1.grownBy w2 none) := g2
  have HN := nowhere_any 2 w2
  clear g2 HR
  go_wp2_with fail
  refine HN.mono ?_
  rintro e w3 ⟨rfl, g3⟩
  have HG3 : Hid (w.grownBy w3 none) := grown_trans HG1.out (grown_trans HG2.out g3)
  have F3 := HF1.out.keep (grown_trans HG2.out g3)
  have c0 := F3.c0
  have c1 := F3.c1
  have f0 := F3.free 0
  have f1 := F3.free 1
  clear g3 HN F3 HF1 HG1 HG2
  go_wp2
  refine bodyPost_ret (v := .tuple #[.string ⟨#[]⟩, .agg #[.int .i64 2, .int .i64 (-1)]]) (by simp [results, Tryz.results10, go_sem, c0, c1]) rfl ⟨rfl, ?_⟩
  exact ret_f2 HG3.out _ _ (Nat.le_refl _)
set_option maxHeartbeats 4000000 in
set_option maxRecDepth 100000 in
theorem pprint_len (ok : Nat → Prop) (b : Nat) (es : List Ent) (p : Pl) (a : Option Addr) (n c : Nat) (w : World) (B : Book ok w b es p) (hp : p.shut = true) (hn : 40 < n) : Calls Tryz.prog 10 #[.pointer (some ⟨b, 0, none⟩), .slice a n c] w fun e w' => e = .returned (.tuple #[.string ⟨#[]⟩, .agg #[.int .i64 9, .int .i64 (-1)]]) ∧ w.grownBy w' none := by
  obtain ⟨W1, hW1⟩ : ∃ W1, W1 = w.alloc (.cells #[.int .i64 0, .int .i64 0] 34) := ⟨_, rfl⟩
  have HG1 : Hid (w.grownBy W1 none) := by rw [hW1]; exact World.grownBy_alloc _ _ none
  have HF1 : Hid (FAt W1 w.heap.size 0 0) := by rw [hW1]; exact alloc_at w _ _
  have HR := refusal_book ok b es p true hp W1 (B.keep HG1.out)
  have HN := nowhere_any 9
  have n2 : (40 : Int) < (n : Int) := by omega
  clear B hp hn
  go_enter Tryz.func10, Tryz.ntmps10
  go_upto_region 1 with fail
  rw [← hW1]
  clear hW1
  go_wp2_with fail
  refine HR.mono ?_
  rintro e w2 ⟨rfl, g2⟩
  have HG2 : Hid (W1.grownBy w2 none) := g2
  clear g2 HR
  go_wp2_with fail
  refine (HN w2).mono ?_
  rintro e w3 ⟨rfl, g3⟩
  have HG3 : Hid (w.grownBy w3 none) := grown_trans HG1.out (grown_trans HG2.out g3)
  have F3 := HF1.out.keep (grown_trans HG2.out g3)
  have c0 := F3.c0
  have c1 := F3.c1
  have f0 := F3.free 0
  have f1 := F3.free 1
  clear g3 HN F3 HF1 HG1 HG2
  go_wp2
  refine bodyPost_ret (v := .tuple #[.string ⟨#[]⟩, .agg #[.int .i64 9, .int .i64 (-1)]]) (by simp [results, Tryz.results10, go_sem, c0, c1]) rfl ⟨rfl, ?_⟩
  exact ret_f2 HG3.out _ _ (Nat.le_refl _)
theorem bytes_data (l : List UInt8) : (⟨l.toArray⟩ : ByteArray).data.toList = l := rfl
theorem bytes_mk (s : ByteArray) : (⟨s.data.toList.toArray⟩ : ByteArray) = s := by rcases s with ⟨⟨l⟩⟩; rfl
theorem app_data (a b : ByteArray) : (a ++ b).data.toList = a.data.toList ++ b.data.toList := by simp
theorem tx_data (T z nm : ByteArray) : (T ++ (z ++ ⟨#[32]⟩ ++ nm ++ ⟨#[10]⟩)).data.toList = T.data.toList ++ (z.data.toList ++ [32] ++ nm.data.toList ++ [10]) := by
  rw [app_data, app_data, app_data, app_data]
theorem meas_add {n k q : Nat} (h : k + q ≤ n) (h0 : 0 < q) : n - (intOf (.int .i64 ((k + q : Nat) : Int))).toNat < n - (intOf (.int .i64 (k : Int))).toNat := by simp [intOf]; omega
set_option maxHeartbeats 4000000 in
set_option maxRecDepth 100000 in
theorem pprint_run (ok : Nat → Prop) (b : Nat) (es : List Ent) (p : Pl) (a : Option Addr) (n c : Nat) (l : List Int) (w : World) (B : Book ok w b es p) (hp : p.shut = true) (hn2 : n ≤ 40) (hnc : n ≤ c) (R : Rd w a n l) (L : LibAt w) : Calls Tryz.prog 10 #[.pointer (some ⟨b, 0, none⟩), .slice a n c] w fun e w' => e = .returned (.tuple #[.string ⟨(ptxt (names es) l).toArray⟩, fv2 (pchk es.length l)]) ∧ w.grownBy w' none := by
  obtain ⟨W1, hW1⟩ : ∃ W1, W1 = w.alloc (.cells #[.int .i64 0, .int .i64 0] 34) := ⟨_, rfl⟩
  have HG1 : Hid (w.grownBy W1 none) := by rw [hW1]; exact World.grownBy_alloc _ _ none
  have HF1 : Hid (FAt W1 w.heap.size 0 0) := by rw [hW1]; exact alloc_at w _ _
  have HR := refusal_book ok b es p true hp W1 (B.keep HG1.out)
  have n2 : ¬ (40 : Int) < (n : Int) := by omega
  have hcI : (n : Int) ≤ (c : Int) := by omega
  have HL : Hid (n = l.length ∧ l.length ≤ 40 ∧ n ≤ c) := ⟨R.1, by rw [← R.1]; exact hn2, hnc⟩
  have HC : Hid (Rd w a n l) := R
  have HB : Hid (Book ok w b es p) := B
  have HLb : Hid (LibAt w) := L
  have HP : Hid (p.shut = true ∧ (names es).length = es.length) := ⟨hp, names_len es⟩
  have hsm : Small n := by unfold Small; omega
  obtain ⟨D, hD⟩ : ∃ D, D = pchk es.length l := ⟨_, rfl⟩
  obtain ⟨X, hX⟩ : ∃ X : ByteArray, X = ⟨(ptxt (names es) l).toArray⟩ := ⟨_, rfl⟩
  rw [← hD, ← hX]
  have HD : Hid (D = pchk (names es).length l ∧ X = ⟨(ptxt (names es) l).toArray⟩) := ⟨by rw [names_len]; exact hD, hX⟩
  clear B hp hn2 hnc R hD hX L
  go_enter Tryz.func10, Tryz.ntmps10
  go_upto_region 1 with fail
  rw [← hW1]
  clear hW1
  go_wp2_with fail
  refine HR.mono ?_
  rintro e w2 ⟨rfl, g2⟩
  have HG3 : Hid (w.grownBy w2 none) := grown_trans HG1.out g2
  have HF3 : Hid (FAt w2 w.heap.size 0 0) := HF1.out.keep g2
  clear HR g2 HG1 HF1
  obtain ⟨r, hr⟩ : ∃ r, r = w.heap.size := ⟨_, rfl⟩
  rw [← hr] at HF3 ⊢
  have HRr : Hid (r = w.heap.size) := hr
  clear hr
  go_wp2_with fail
  go_loopw [7, 8, 9, 10, 11] (fun t i _ _ _ wr => ∃ (k : Nat) (T : ByteArray), k ≤ n ∧ i = .int .i64 (k : Int) ∧ t = .string T ∧ Hid (w.grownBy wr none ∧ FAt wr r 0 0 ∧ PrIn (names es) l k T)) (fun _ i _ _ _ _ => n - (intOf i).toNat)
  case atStart => exact ⟨0, ⟨#[]⟩, Nat.zero_le _, rfl, rfl, HG3.out, HF3.out, PrIn.start _ _⟩
  case round =>
    obtain ⟨k, T, hk, rfl, rfl, HI⟩ := hrel
    clear HG3 HF3
    rcases (show k = n ∨ k < n from by omega) with e | hlt
    · have hlt' : ¬ (k : Int) < (n : Int) := by omega
      have HX : Hid (D = (0, 0) ∧ X = T) := by
        have h1 := HI.out.2.2
        rw [e, HL.out.1] at h1
        have h2 := h1.done HL.out.2.1
        exact ⟨by rw [HD.out.1, h2.1], by rw [HD.out.2, h2.2, bytes_mk]⟩
      have c0 := HI.out.2.1.c0
      have c1 := HI.out.2.1.c1
      have f0 := HI.out.2.1.free 0
      have f1 := HI.out.2.1.free 1
      have HGo : Hid (w.grownBy wr none) := HI.out.1
      clear e HI
      go_wp2
      refine bodyPost_ret (v := .tuple #[.string T, .agg #[.int .i64 0, .int .i64 0]]) (by simp [results, Tryz.results10, go_sem, c0, c1]) rfl ⟨by rw [HX.out.1, HX.out.2]; rfl, ?_⟩
      exact ret_f2 HGo.out _ _ (by rw [HRr.out]; exact Nat.le_refl _)
    · have hlt' : (k : Int) < (n : Int) := by omega
      have hk0 : (0 : Int) ≤ (k : Int) := by omega
      have hkl : k < l.length := by have := HL.out.1; omega
      obtain ⟨gl, ol, ea, hcl⟩ := HC.out.2 (by omega)
      obtain ⟨x, hx⟩ : ∃ x, x = l.getD k 0 := ⟨_, rfl⟩
      have D0 : wr.cell? ⟨gl, ol + k, none⟩ = some (.int .i64 x) := by rw [hx]; exact HI.out.1.cell (hcl k hlt) (by simp)
      have HXk : Hid (x = l.getD k 0 ∧ k < l.length) := ⟨hx, hkl⟩
      have HRd : Hid (Rd w (some ⟨gl, ol + k, none⟩) (n - k) (l.drop k)) := ⟨by rw [List.length_drop, ← HL.out.1], fun _ => ⟨gl, ol + k, rfl, fun j hj => by
        have h1 := hcl (k + j) (by omega)
        rw [← Nat.add_assoc] at h1
        rw [h1]
        simp [List.getD]⟩⟩
      have HAt := pat_any ok b es p x wr (HB.out.keep HI.out.1)
      subst ea
      clear hx hkl hcl
      go_wp2_with fail
      refine HAt.mono ?_
      rintro e w4 ⟨h, u, er, rfl, ⟨ua, um, uc, rfl⟩, hin, g4⟩
      obtain ⟨nm, su, kd, co, po, he, tr, tk⟩ := h
      obtain ⟨W5, hW5⟩ : ∃ W5, W5 = w4.alloc (.cells (ccs ⟨nm, su, kd, co, po, he, tr, tk⟩ (.slice ua um uc)) 55) := ⟨_, rfl⟩
      have HG5 : Hid (wr.grownBy W5 none) := by rw [hW5]; exact grown_push g4 _
      have HA5 : Hid (CAt W5 w4.heap.size ⟨nm, su, kd, co, po, he, tr, tk⟩ (.slice ua um uc)) := by rw [hW5]; exact alloc_at w4 _ _
      have HI5 : Hid (w.grownBy W5 none ∧ FAt W5 r 0 0 ∧ PrIn (names es) l k T) := ⟨grown_trans HI.out.1 HG5.out, HI.out.2.1.keep HG5.out, HI.out.2.2⟩
      unfold ccs at hW5
      unfold cv
      clear g4 HAt HI HG5
      rcases hin with ⟨hno, rfl⟩ | ⟨hat, rfl, e0, he0, hh⟩
      · have HX : Hid (D = (6, (k : Int)) ∧ X = ⟨#[]⟩) := by
          have h2 := HI5.out.2.2.bad HL.out.2.1 HXk.out.2 (by rw [← HXk.out.1]; exact fun q => hno ⟨HP.out.1, q.1, by have := q.2; rw [HP.out.2] at this; exact this⟩)
          exact ⟨by rw [HD.out.1, h2.1], by rw [HD.out.2, h2.2]⟩
        have HGo : Hid (w.grownBy W5 none) := HI5.out.1
        have c0 := HI5.out.2.1.c0
        have c1 := HI5.out.2.1.c1
        have f0 := HI5.out.2.1.free 0
        have f1 := HI5.out.2.1.free 1
        clear hno HI5 HA5
        go_upto_region 10 with fail
        rw [← hW5]
        clear hW5
        go_wp2
        refine bodyPost_ret (v := .tuple #[.string ⟨#[]⟩, .agg #[.int .i64 6, .int .i64 (k : Int)]]) (by simp [results, Tryz.results10, go_sem, c0, c1]) rfl ⟨by rw [HX.out.1, HX.out.2]; rfl, ?_⟩
        exact ret_f2 HGo.out _ _ (by rw [HRr.out]; exact Nat.le_refl _)
      · have HNm : Hid (nm.data.toList = nmb (names es) (l.getD k 0) ∧ nm.size ≤ 20 ∧ nIn (names es).length (l.getD k 0)) := by
          refine ⟨?_, ?_, ?_⟩
          · unfold nmb
            rw [← HXk.out.1]
            have : (names es)[(x - 1).toNat]? = some nm := by rw [names_at he0, ← hh]
            rw [List.getD_eq_getElem?_getD, this]
            rfl
          · have := (HB.out.nmOk e0 (List.mem_of_getElem? he0)).2
            rw [← hh] at this
            exact this
          · rw [← HXk.out.1, HP.out.2]
            exact ⟨hat.2.1, hat.2.2⟩
        have HRun := run_any gl (ol + k) (n - k) (c - k) (l.drop k) W5 (HRd.out.keep HI5.out.1) (by omega) (by unfold Small; have := HL.out; omega)
        have k2 : (k : Int) ≤ (n : Int) := by omega
        have k4 : (k : Int) ≤ (c : Int) := by omega
        have e1 : ¬ (c = k) := by have := HL.out.2.2; omega
        have e2 : ¬ (k = c) := by have := HL.out.2.2; omega
        clear hat he0 hh
        go_upto_region 10 with fail
        rw [← hW5]
        clear hW5
        go_wp2_with fail
        refine HRun.mono ?_
        rintro e w6 ⟨q, rfl, hrun, g6⟩
        have hq40 : q ≤ 40 := by have h1 := hrun.le; rw [List.length_drop] at h1; have h2 := HL.out.2.1; omega
        have HRn : Hid (RunTo (l.drop k) 0 q) := hrun
        obtain ⟨z, hz⟩ : ∃ z : ByteArray, z = ⟨(dec q).toArray⟩ := ⟨_, rfl⟩
        have HIt := itoa_any (q : Int) (by omega) (by omega) w6.drew ((HLb.out.keep (grown_trans HI5.out.1 g6)).keep (grown_drewN w6 1 none)).pow
        rw [itoa_dec q (by omega), ← hz] at HIt
        have hzs : z.size ≤ 2 := by rw [hz]; exact dec_two q hq40
        have hns := HNm.out.2.1
        have hTs : T.size ≤ 960 := by have h1 := HI5.out.2.2.sz; have h2 := HL.out; omega
        have b1 : ¬ 9223372036854775807 < z.size + 1 := by omega
        have b2 : ¬ 9223372036854775807 < z.size + 1 + nm.size := by omega
        have b3 : ¬ 9223372036854775807 < z.size + 1 + nm.size + 1 := by omega
        have b4 : ¬ 9223372036854775807 < T.size + (z.size + 1 + nm.size + 1) := by omega
        have HI6 : Hid (w.grownBy w6 none ∧ FAt w6 r 0 0 ∧ PrIn (names es) l k T) := ⟨grown_trans HI5.out.1 g6, HI5.out.2.1.keep g6, HI5.out.2.2⟩
        have d0 : w6.cell? ⟨w4.heap.size, 0, none⟩ = some (.string nm) := (HA5.out.keep g6).cells.1
        have HZ : Hid (z.data.toList = dec q) := by rw [hz]; exact rfl
        have hkq : k + q ≤ n := by have h1 := hrun.le; rw [List.length_drop] at h1; have h2 := HL.out.1; omega
        have hq0 : 0 < q := hrun.lt
        have HKQ : Hid (wrap64 ((k : Int) + (q : Int)) = ((k + q : Nat) : Int) ∧ k + q ≤ n ∧ 0 < q) := ⟨by unfold wrap64; have h2 := HL.out; omega, hkq, hq0⟩
        clear hrun g6 HRun HI5 HA5 hz hzs hns hTs hq40 hkq hq0
        go_upto_region 13 with fail
        go_region_with (go_at_call 39; refine HIt.mono ?_; rintro e w7 ⟨rfl, g7⟩; have d7 : w7.cell? ⟨w4.heap.size, 0, none⟩ = some (.string nm) := g7.cell d0 (by simp); have HG7 : Hid (w6.grownBy w7 none) := grown_trans (grown_drewN w6 1 none) g7; clear g7)
        all_goals go_wp2_with fail
        all_goals (refine ⟨⟨k + q, _, HKQ.out.2.1, by rw [HKQ.out.1], rfl, grown_trans HI6.out.1 HG7.out, HI6.out.2.1.keep HG7.out, HI6.out.2.2.next HL.out.2.1 HRn.out HNm.out.2.2 HNm.out.1 HZ.out HNm.out.2.1 _ (tx_data _ _ _)⟩, ?_⟩; rw [HKQ.out.1]; exact meas_add HKQ.out.2.1 HKQ.out.2.2)
theorem pprint_any (ok : Nat → Prop) (b : Nat) (es : List Ent) (p : Pl) (a : Option Addr) (n c : Nat) (l : List Int) (w : World) (B : Book ok w b es p) (hnc : n ≤ c) (R : Rd w a n l) (L : LibAt w) : Calls Tryz.prog 10 #[.pointer (some ⟨b, 0, none⟩), .slice a n c] w fun e w' => e = .returned (.tuple #[.string ⟨(prX p es l).toArray⟩, fv2 (prF p es l)]) ∧ w.grownBy w' none := by
  unfold prX prF
  cases hp : p.shut with
  | false => exact pprint_open ok b es p a n c w B hp
  | true =>
    rw [if_pos rfl, if_pos rfl]
    by_cases hn : 40 < n
    · have e : pchk es.length l = (9, -1) := by unfold pchk; rw [if_pos (by rw [← R.1]; exact hn)]
      have e2 : ptxt (names es) l = [] := by unfold ptxt; rw [names_len, e, if_neg (by simp)]
      rw [e, e2]
      exact pprint_len ok b es p a n c w B hp hn
    · exact pprint_run ok b es p a n c l w B hp (by omega) hnc R L
end Go.Proofs.YtbcggjacjfcldaaGreatDoor
