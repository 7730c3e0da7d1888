/-
  The document's own first and Count; a book of the document's as its deck texts see it.
-/
import Derived.Test.YtbcggjacjfcldaaGreatDoorDkG
import Derived.Test.YtbcggjacjfcldaaGreatDoorE5
import Derived.Test.YtbcggjacjfcldaaGreatDoorE9
import Derived.BigQuiet
namespace Go.Proofs.YtbcggjacjfcldaaGreatDoor
open Go.RowKit

/-- A book of the document's own. -/
structure RB (ok : Nat → Prop) (w : World) (r : Nat) (v : Value) (p : Pl) (fs : List Ent) : Prop where
  rj : RJ w r v p
  rl : RL w v fs
  good : Good ok w fs
  len : fs.length ≤ 64
  par : ∀ e ∈ fs, e.ps.length ≤ 4
  nm : ∀ e ∈ fs, nameOk e.h.nm.data.toList = true ∧ e.h.nm.size ≤ 20
theorem RB.keep {ok : Nat → Prop} {w w' : World} {r : Nat} {v : Value} {p : Pl} {fs : List Ent} (h : RB ok w r v p fs) (g : w.grownBy w' none) : RB ok w' r v p fs := ⟨h.rj.keep g, h.rl.keep g, h.good.keep g, h.len, h.par, h.nm⟩
theorem hp_mem {es fs : List Ent} (h : es.map hp = fs.map hp) {e : Ent} (he : e ∈ fs) : ∃ d ∈ es, d.h = e.h ∧ d.ps = e.ps := by
  have : hp e ∈ es.map hp := by rw [h]; exact List.mem_map_of_mem he
  obtain ⟨d, hd, e1⟩ := List.mem_map.1 this
  exact ⟨d, hd, congrArg Prod.fst e1, congrArg Prod.snd e1⟩
theorem Pr.rb {ok : Nat → Prop} {w : World} {b r : Nat} {v : Value} {es fs : List Ent} {p : Pl} (P : Pr ok w b r v es fs p) : RB ok w r v p fs := ⟨P.rj, P.rl, P.good, by rw [← hp_len P.same]; exact P.book.lies.len, fun e he => by
  obtain ⟨d, hd, _, h2⟩ := hp_mem P.same he
  rw [← h2]
  exact P.book.parts d hd, fun e he => by
  obtain ⟨d, hd, h1, _⟩ := hp_mem P.same he
  rw [← h1]
  exact P.book.nmOk d hd⟩
theorem hp_tk {es fs : List Ent} (h : es.map hp = fs.map hp) : tkOf es = tkOf fs := by
  funext c
  unfold tkOf
  have e : (es.map hp)[(c - 1).toNat]? = (fs.map hp)[(c - 1).toNat]? := by rw [h]
  rw [List.getElem?_map, List.getElem?_map] at e
  cases h1 : es[(c - 1).toNat]? with
  | none =>
    cases h2 : fs[(c - 1).toNat]? with
    | none => rfl
    | some y => rw [h1, h2] at e; cases e
  | some x =>
    cases h2 : fs[(c - 1).toNat]? with
    | none => rw [h1, h2] at e; cases e
    | some y =>
      rw [h1, h2] at e
      simp only [Option.map_some, Option.some.injEq] at e
      have : x.h = y.h := congrArg Prod.fst e
      simp only [this]
theorem hp_ck {es fs : List Ent} (h : es.map hp = fs.map hp) (p : Pl) (l : List Int) : ckF p es l = ckF p fs l := by unfold ckF; rw [hp_len h, hp_tk h]
theorem hp_prF {es fs : List Ent} (h : es.map hp = fs.map hp) (p : Pl) (l : List Int) : prF p es l = prF p fs l := by unfold prF; rw [hp_len h]
theorem hp_prX {es fs : List Ent} (h : es.map hp = fs.map hp) (p : Pl) (l : List Int) : prX p es l = prX p fs l := by unfold prX; rw [hp_names h]
theorem hp_pa {es fs : List Ent} (h : es.map hp = fs.map hp) (p : Pl) (s : List UInt8) : paD p es s = paD p fs s := by unfold paD; rw [hp_names h]
theorem rpat_any (ok : Nat → Prop) (r : Nat) (v : Value) (p : Pl) (fs : List Ent) (n : Int) (w : World) (B : RB ok w r v p fs) : Calls Tryz.prog 41 #[.pointer (some ⟨r, 0, none⟩), .int .i64 n] w (AtPost p fs n w) := by
  by_cases h : atIn p fs n
  · obtain ⟨m, rfl⟩ : ∃ m : Nat, n = (m : Int) + 1 := ⟨(n - 1).toNat, by have := h.2.1; omega⟩
    have hm : m < fs.length := by have := h.2.2; omega
    refine (rat_in ok r v p fs m fs[m] w B.rj B.rl B.len B.good h.1 (List.getElem?_eq_getElem hm) (B.par _ (List.getElem_mem _))).mono ?_
    rintro e w' ⟨u, rfl, o, g⟩
    obtain ⟨a, c, hu⟩ := o.at.form
    exact ⟨_, u, 0, rfl, ⟨_, _, _, hu⟩, Or.inr ⟨h, rfl, fs[m], by rw [show ((m : Int) + 1 - 1).toNat = m by omega]; exact List.getElem?_eq_getElem hm, rfl⟩, g⟩
  · refine (rat_out r v p fs n w B.rj B.rl h).mono ?_
    rintro e w' ⟨rfl, g⟩
    exact ⟨_, _, 6, rfl, ⟨_, _, _, rfl⟩, Or.inl ⟨h, rfl⟩, g⟩
set_option maxHeartbeats 1000000 in
theorem rfirst_any (r : Nat) (v : Value) (p : Pl) (sh : Bool) (hp : p.shut = sh) (w : World) (R : RJ w r v p) : Calls Tryz.prog 40 #[.pointer (some ⟨r, 0, none⟩)] w fun e w' => e = .returned (.agg #[.int .i64 (if sh then 0 else 2), .int .i64 (if sh then 0 else -1)]) ∧ w.grownBy w' none := by
  obtain ⟨W1, hW1⟩ : ∃ W1, W1 = w.alloc (.cells #[.int .i64 0, .int .i64 0] 34) := ⟨_, rfl⟩
  have HG1 : Hid (w.grownBy W1 none) := by rw [hW1]; exact World.grownBy_alloc _ _ none
  have F1 : FAt W1 w.heap.size 0 0 := by rw [hW1]; exact alloc_at w _ _
  have c0 := F1.c0
  have c1 := F1.c1
  have f0 := F1.free 0
  have f1 := F1.free 1
  have HN := rnone_any r v p W1 (R.keep HG1.out)
  have cs := (R.keep HG1.out).shut
  rw [hp] at cs
  clear F1 R hp
  cases sh with
  | true =>
    go_enter Tryz.func40, Tryz.ntmps40
    go_upto_region 1 with fail
    rw [← hW1]
    clear hW1
    go_wp2_with fail
    refine HN.mono ?_
    rintro e w2 ⟨rfl, hw⟩
    obtain rfl : W1 = w2 := hw.symm
    clear HN
    go_wp2
    refine bodyPost_ret (v := .agg #[.int .i64 0, .int .i64 0]) (by simp [results, Tryz.results40, go_sem, c0, c1]) rfl ⟨rfl, ?_⟩
    exact ret_f2 HG1.out _ _ (Nat.le_refl _)
  | false =>
    go_enter Tryz.func40, Tryz.ntmps40
    go_upto_region 1 with fail
    rw [← hW1]
    clear hW1
    go_wp2_with fail
    refine HN.mono ?_
    rintro e w2 ⟨rfl, hw⟩
    obtain rfl : W1 = w2 := hw.symm
    clear HN
    go_wp2
    refine bodyPost_ret (v := .agg #[.int .i64 2, .int .i64 (-1)]) (by simp [results, Tryz.results40, go_sem, c0, c1]) rfl ⟨rfl, ?_⟩
    exact ret_f2 HG1.out _ _ (Nat.le_refl _)
theorem rfirst_yes (r : Nat) (v : Value) (p : Pl) (hp : p.shut = true) (w : World) (R : RJ w r v p) : Calls Tryz.prog 40 #[.pointer (some ⟨r, 0, none⟩)] w fun e w' => e = .returned (.agg #[.int .i64 0, .int .i64 0]) ∧ w.grownBy w' none := rfirst_any r v p true hp w R
theorem rfirst_no (r : Nat) (v : Value) (p : Pl) (hp : p.shut = false) (w : World) (R : RJ w r v p) : Calls Tryz.prog 40 #[.pointer (some ⟨r, 0, none⟩)] w fun e w' => e = .returned (.agg #[.int .i64 2, .int .i64 (-1)]) ∧ w.grownBy w' none := rfirst_any r v p false hp w R
set_option maxHeartbeats 1000000 in
theorem rcount_any (a : Option Addr) (n c : Nat) (l : List Int) (x : Int) (w : World) (h : Rd w a n l) (hm : Small n) : Calls Tryz.prog 17 #[.slice a n c, .int .i64 x] w fun e w' => e = .returned (.int .i64 (l.count x : Nat)) ∧ w' = w := by
  have HR : Hid (Rd w a n l) := h
  clear h
  go_enter Tryz.func17, Tryz.ntmps17
  go_wp2_with fail
  go_loopw [5, 6] (fun t i wr => wr = w ∧ ∃ k q : Nat, k ≤ n ∧ i = .int .i64 (k : Int) ∧ t = .int .i64 (q : Int) ∧ Hid (q = (l.take k).count x)) (fun _ i _ => n - (intOf i).toNat)
  case atStart => exact ⟨rfl, 0, 0, Nat.zero_le _, rfl, rfl, by show 0 = _; simp⟩
  case round =>
    obtain ⟨rfl, k, q, hk, rfl, rfl, HQ⟩ := hrel
    rcases (show k = n ∨ k < n from by omega) with e | hlt
    · have hlt' : ¬ (k : Int) < (n : Int) := by omega
      have HF : Hid ((q : Int) = ((l.count x : Nat) : Int)) := by show (q : Int) = _; rw [HQ.out, e, HR.out.1, List.take_length]
      clear e HQ
      go_wp2
      go_ret
      exact ⟨ret_int HF.out, rfl⟩
    · have hlt' : (k : Int) < (n : Int) := by omega
      have hk0 : (0 : Int) ≤ (k : Int) := by omega
      have hkl : k < l.length := by have := HR.out.1; omega
      obtain ⟨y, hy⟩ : ∃ y, y = l.getD k 0 := ⟨_, rfl⟩
      obtain ⟨g, o, ea, hc⟩ := HR.out.2 (by omega)
      have D : wr.cell? ⟨g, o + k, none⟩ = some (.int .i64 y) := by rw [hy]; exact hc k hlt
      have hq : q < n ∨ q = n := by have h1 := HQ.out; have h2 := cnt_small (l := l) (k := k) x; have h3 := HR.out.1; omega
      have HS : Hid (((l.take (k + 1)).count x) = q + (if y = x then 1 else 0)) := by show _ = _; rw [hy, HQ.out]; exact cnt_next x hkl
      subst ea
      clear hc hy HQ hkl
      by_cases hd : y = x
      · have hd2 : (y == x) = true := by simpa using hd
        have HT : Hid (q + 1 = (l.take (k + 1)).count x) := by show _ = _; rw [HS.out, if_pos hd]
        have hw : wrap64 ((q : Int) + 1) = ((q + 1 : Nat) : Int) := by unfold Small at hm; unfold wrap64; omega
        have HW : Hid (wrap64 ((q : Int) + 1) = ((q + 1 : Nat) : Int)) := hw
        clear hd HS hw hq
        go_wp2_with fail
        go_roundw
        case rel => exact ⟨by first | rfl | trivial, k + 1, q + 1, hlt, by first | rfl | (rw [hm.wrap hlt]; rfl), by first | rfl | (rw [HW.out]), HT⟩
        case measure => first | exact meas_next hlt | (rw [hm.wrap hlt]; exact meas_next hlt)
      · have hd2 : (y == x) = false := by simpa using hd
        have HT : Hid (q = (l.take (k + 1)).count x) := by show _ = _; rw [HS.out, if_neg hd]; rfl
        clear hd HS hq
        go_wp2_with fail
        go_roundw
        case rel => exact ⟨by first | rfl | trivial, k + 1, q, hlt, by first | rfl | (rw [hm.wrap hlt]; rfl), rfl, HT⟩
        case measure => first | exact meas_next hlt | (rw [hm.wrap hlt]; exact meas_next hlt)
end Go.Proofs.YtbcggjacjfcldaaGreatDoor
