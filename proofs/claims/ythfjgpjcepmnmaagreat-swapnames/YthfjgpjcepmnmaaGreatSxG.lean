/-
  Swap's laws: the calls of the closed law, one by one.
-/
import Derived.Test.YthfjgpjcepmnmaaGreatSxF
import Derived.Test.YthfjgpjcepmnmaaGreatS29
namespace Go.Proofs.YthfjgpjcepmnmaaGreat
open Go.RowKit Go.Shelf Go.Deep

theorem thc_zero : ∀ r, r < 11 → (thc ⟨0, 0, 0, 0, 0, 0, 0, 0, 0, 0, false⟩)[r]? = some ((#[.int .i64 0, .int .i64 0, .int .u8 0, .int .i64 0, .int .i64 0, .int .i64 0, .int .i64 0, .int .i64 0, .int .i64 0, .int .i64 0, .bool false] : Array Value)[r]!)
  | 0, _ => rfl
  | 1, _ => rfl
  | 2, _ => rfl
  | 3, _ => rfl
  | 4, _ => rfl
  | 5, _ => rfl
  | 6, _ => rfl
  | 7, _ => rfl
  | 8, _ => rfl
  | 9, _ => rfl
  | 10, _ => rfl
  | n + 11, h => by omega
def thZ : Th := ⟨0, 0, 0, 0, 0, 0, 0, 0, 0, 0, false⟩
theorem made_th (n : Nat) : (madeCells (Value.agg #[.int .i64 0, .int .i64 0, .int .u8 0, .int .i64 0, .int .i64 0, .int .i64 0, .int .i64 0, .int .i64 0, .int .i64 0, .int .i64 0, .bool false]).cells (n * 11)).toList = thR.cs (List.replicate n thZ) := by
  refine List.ext_getElem? fun i => ?_
  by_cases hi : i < n * 11
  · have h1 := thR.at' (l := List.replicate n thZ) (j := i / 11) (x := thZ) (by rw [List.getElem?_replicate, if_pos (by omega)]) (i % 11) (show i % 11 < 11 by omega)
    have h2 : (thR.cs (List.replicate n thZ))[i / 11 * 11 + i % 11]? = (thc thZ)[i % 11]? := h1
    rw [show i / 11 * 11 + i % 11 = i by omega, show thc thZ = thc ⟨0, 0, 0, 0, 0, 0, 0, 0, 0, 0, false⟩ from rfl, thc_zero _ (by omega)] at h2
    rw [h2]
    show ((Array.range (n * 11)).map _).toList[i]? = _
    rw [Array.toList_map, List.getElem?_map, Array.toList_range, List.getElem?_range hi]
    rfl
  · rw [List.getElem?_eq_none (by rw [Array.length_toList, size_madeCells]; omega), List.getElem?_eq_none (by rw [thR.len, List.length_replicate]; show n * 11 ≤ i; omega)]
theorem made_ownT {V : World} {base g n : Nat} (h : V.ownsRow base 100 11 (.slice (some ⟨g, 0, none⟩) n n) n (madeCells (Value.agg #[.int .i64 0, .int .i64 0, .int .u8 0, .int .i64 0, .int .i64 0, .int .i64 0, .int .i64 0, .int .i64 0, .int .i64 0, .int .i64 0, .bool false]).cells (n * 11)).toList) : thR.Own 100 V base (.slice (some ⟨g, 0, none⟩) n n) (List.replicate n thZ) := by
  unfold RecT.Own
  rw [List.length_replicate, ← made_th]
  exact h
theorem zeroB_noS (w : World) : NoBk (w.alloc (.cells Tryz.zeroCells63 63)) (.pointer (some ⟨w.heap.size, 0, none⟩)) := Or.inr ⟨_, rfl, by rw [block_cell (alloc_at w Tryz.zeroCells63 _)]; kernel_rfl⟩
theorem fe_storeS {w : World} {base g n c : Nat} {l : List Fe} {i d : Nat} {t t' : Fe} {v : Value} (O : feR.Own 65 w base (.slice (some ⟨g, 0, none⟩) n c) l) (hn : l.length = n) (ht : l[i]? = some t) (hd : d < 5) (he : (fec t).set d v = fec t') : feR.Own 65 (w.setCell ⟨g, i * 5 + d, none⟩ v) base (.slice (some ⟨g, 0, none⟩) n c) (l.set i t') ∧ w.grownBy (w.setCell ⟨g, i * 5 + d, none⟩ v) (some g) := by
  unfold RecT.Own at O ⊢
  rw [hn] at O
  obtain ⟨h1, h2⟩ := World.ownsRow.stored O (i * 5 + d) v
  have e := feR.set1 (t := t) (t' := t') (d := d) (v := v) hd he l i ht
  rw [List.length_set, hn]
  refine ⟨?_, h2⟩
  rw [← e]
  exact h1
structure SxM (w wr : World) (b S g f : Nat) (vG vR vK vH : Value) (F : List Fe) : Prop where
  bk : Book (fun k => tgOk b k ∧ k < S) wr b (sxES vG vR vK vH) exP
  th : thR.Own 100 wr S (.slice (some ⟨g, 0, none⟩) 4 4) sxT
  fe : feR.Own 65 wr S (.slice (some ⟨f, 0, none⟩) 4 4) F
  gr : w.grownBy wr none
  lie : w.heap.size ≤ b ∧ b < S
theorem SxR.now {w wr : World} {b S g f : Nat} {vG vR vK vH : Value} (h : SxR w wr b S g f vG vR vK vH) : SxM w wr b S g f vG vR vK vH sxF := ⟨h.bk, h.th, h.fe, h.gr, h.lie⟩
theorem SxM.keep {w wr w' : World} {b S g f : Nat} {vG vR vK vH : Value} {F : List Fe} (h : SxM w wr b S g f vG vR vK vH F) (k : wr.grownBy w' none) : SxM w w' b S g f vG vR vK vH F := ⟨h.bk.keep k, own_grow h.th k, own_grow h.fe k, grown_trans h.gr k, h.lie⟩
theorem SxM.inn {w wr : World} {b S g f : Nat} {vG vR vK vH : Value} {F : List Fe} (H : SxM w wr b S g f vG vR vK vH F) {vf : Value} {F' : List Fe} (A : feR.At wr vf F') (hf : F'.length ≤ 4096) : SIn wr (.pointer (some ⟨b, 0, none⟩)) (.slice (some ⟨g, 0, none⟩) 4 4) vf 0 4 sxCd sxT F' := by
  have h := SIn.of H.bk H.th.at A hf
  rw [sx_cd] at h
  exact h
def sxM2 : List Fe := [⟨0, 2, 32, 0, 0⟩, ⟨0, 2, 0, 0, 5⟩, ⟨1, 5, 0, 0, 0⟩, ⟨0, 2, 0, 0, 1⟩]
theorem SxM.mute {w wr : World} {b S g f : Nat} {vG vR vK vH : Value} (H : SxM w wr b S g f vG vR vK vH sxF) : SxM w (wr.setCell ⟨f, 2, none⟩ (.int .u16 32)) b S g f vG vR vK vH sxM2 := by
  obtain ⟨h1, h2⟩ := fe_storeS H.fe rfl (i := 0) (d := 2) (t := ⟨0, 2, 0, 0, 0⟩) (t' := ⟨0, 2, 32, 0, 0⟩) (v := .int .u16 32) rfl (by decide) rfl
  have hx := World.ownsRow.lt H.fe f rfl
  obtain ⟨l1, l2⟩ := H.lie
  have h2' : wr.grownBy (wr.setCell ⟨f, 2, none⟩ (.int .u16 32)) (some f) := h2
  exact ⟨H.bk.keepR h2' (fun q => by cases q; omega) (fun k hk q => by cases q; exact absurd hx.1 (Nat.not_le_of_lt hk.2)), own_other H.th H.fe (by decide) h2', h1, grown_own H.gr h2' (fun x e => by cases e; omega), H.lie⟩
theorem sx_rows {w' : World} {B : Nat} {v : Value} (O : DOwn w' B v sxLs) : ∃ k c, v = .slice (some ⟨k, 0, none⟩) 4 c ∧ w'.rangeAt k 0 (sdc ⟨1, 2, sxRp⟩) ∧ w'.rangeAt k 10 (sdc ⟨2, 1, sxGp⟩) ∧ w'.rangeAt k 20 (sdc ⟨3, 0, sxHp⟩) ∧ w'.rangeAt k 30 (sdc ⟨3, 1, sxHq⟩) := by
  have A := RecT.Own.at O
  rcases O with ⟨-, ⟨-, h⟩ | ⟨k, cap, cur, e, -⟩⟩
  · exact absurd h (by decide)
  · subst e
    obtain ⟨p, c2, e2, -, hA⟩ := A
    injection e2 with e3 e4 e5
    obtain ⟨k0, off, e6, hR⟩ := hA (by decide)
    rw [e6] at e3
    injection e3 with e3
    injection e3 with e7 e8 e9
    subst e7
    subst e8
    have r0 := hR 0 _ rfl
    have r1 := hR 1 _ rfl
    have r2 := hR 2 _ rfl
    have r3 := hR 3 _ rfl
    exact ⟨k, cap, rfl, r0, r1, r2, r3⟩
theorem nm_list {w wr : World} {b S g f : Nat} {vG vR vK vH : Value} (H : SxM w wr b S g f vG vR vK vH sxF) : Calls Tryz.prog 10 #[.pointer (some ⟨b, 0, none⟩), .slice (some ⟨g, 0, none⟩) 4 4, .slice (some ⟨f, 0, none⟩) 4 4] wr fun e w' => ∃ k c, e = .returned (.tuple #[.slice (some ⟨k, 0, none⟩) 4 c, .int .i64 0]) ∧ (w'.rangeAt k 0 (sdc ⟨1, 2, sxRp⟩) ∧ w'.rangeAt k 10 (sdc ⟨2, 1, sxGp⟩) ∧ w'.rangeAt k 20 (sdc ⟨3, 0, sxHp⟩) ∧ w'.rangeAt k 30 (sdc ⟨3, 1, sxHq⟩)) ∧ wr.grownBy w' none := by
  have hb := bgE_ok sx_tab (k := 1) (by decide)
  refine (slist_any _ _ _ 0 4 sxCd sxT sxF wr (H.inn H.fe.at (by decide)) ⟨_, rfl⟩).mono ?_
  rintro e w' ⟨v, rfl, O, q⟩
  rw [swT_ok hb sx_tab, sx_ls] at O
  obtain ⟨k, c, rfl, r⟩ := sx_rows O
  exact ⟨k, c, by rw [hb], r, q⟩
theorem sl_err {bv vt vf : Value} {r n : Int} {cd : Int → Hd × List Pt} {ts : List Th} {F : List Fe} {W : World} {x : Int} (I : SIn W bv vt vf r n cd ts F) (hb : ∃ a, bv = .pointer a) (hx : bgE r n cd ts F 1 = x) : Calls Tryz.prog 10 #[bv, vt, vf] W fun e w' => ∃ p m c, e = .returned (.tuple #[.slice p m c, .int .i64 x]) ∧ W.grownBy w' none := by
  refine (slist_any bv vt vf r n cd ts F W I hb).mono ?_
  rintro e w' ⟨v, rfl, O, q⟩
  obtain ⟨p, c, rfl⟩ := O.form
  exact ⟨p, _, c, by rw [hx], q⟩
theorem nm_cut {w wr : World} {b S g f : Nat} {vG vR vK vH : Value} (H : SxM w wr b S g f vG vR vK vH sxF) : Calls Tryz.prog 10 #[.pointer (some ⟨b, 0, none⟩), .slice (some ⟨g, 0, none⟩) 4 4, .slice (some ⟨f, 0, none⟩) 3 4] wr fun e w' => ∃ p m c, e = .returned (.tuple #[.slice p m c, .int .i64 2]) ∧ wr.grownBy w' none := sl_err (H.inn (H.fe.at.take 3 (by decide)) (by decide)) ⟨_, rfl⟩ (by
  have h : tabR 4 sxCd sxT (sxF.take 3) = none := by unfold tabR; rw [if_neg (by decide)]
  unfold bgE
  rw [lkE_tab h]
  rfl)
theorem nm_many {w wr V : World} {b S g f g2 n : Nat} {vG vR vK vH : Value} {F : List Fe} (H : SxM w wr b S g f vG vR vK vH F) (k : wr.grownBy V none) (o : thR.Own 100 V 0 (.slice (some ⟨g2, 0, none⟩) n n) (List.replicate n thZ)) (hn : 2048 < n) : Calls Tryz.prog 10 #[.pointer (some ⟨b, 0, none⟩), .slice (some ⟨g2, 0, none⟩) n n, .slice none 0 0] V fun e w' => ∃ p m c, e = .returned (.tuple #[.slice p m c, .int .i64 3]) ∧ V.grownBy w' none := by
  have hr : refE exP (List.replicate n thZ).length = 3 := by unfold refE; rw [List.length_replicate, if_pos hn]
  have I := SIn.of (H.bk.keep k) (RecT.Own.at o) (RecT.At.nil feR V) (by decide)
  rw [hr] at I
  exact sl_err I ⟨_, rfl⟩ (bgE_no (by decide))
theorem nm_none {V : World} {g2 n : Nat} (o : thR.Own 100 V 0 (.slice (some ⟨g2, 0, none⟩) n n) (List.replicate n thZ)) : Calls Tryz.prog 10 #[.pointer none, .slice (some ⟨g2, 0, none⟩) n n, .slice none 0 0] V fun e w' => ∃ p m c, e = .returned (.tuple #[.slice p m c, .int .i64 1]) ∧ V.grownBy w' none := sl_err (SIn.no (Or.inl rfl) (RecT.Own.at o) (RecT.At.nil feR V)) ⟨_, rfl⟩ (bgE_no (by decide))
theorem nm_zero {V : World} {z : Nat} (B : NoBk V (.pointer (some ⟨z, 0, none⟩))) : Calls Tryz.prog 13 #[.pointer (some ⟨z, 0, none⟩), .slice none 0 0, .slice none 0 0, .agg #[.int .u8 0, .int .i64 0, .int .i64 0, .int .i64 0, .bool false, .bool false]] V fun e w' => ∃ p m c, e = .returned (.tuple #[.agg #[.int .u8 0, .int .i64 0, .int .i64 0, .int .i64 0, .bool false, .bool false, .slice p m c, .int .i64 0, .int .i64 0], .int .i64 1]) ∧ V.grownBy w' none := by
  have hb : laE 1 0 (fun _ => (Hd.none, [])) [] [] Hp.none = 1 := by
    have h : bgE 1 0 (fun _ => (Hd.none, ([] : List Pt))) [] [] 1 = 1 := bgE_no (by decide)
    unfold laE
    rw [h]
    rfl
  refine (sAll_any _ _ _ 1 0 (fun _ => (Hd.none, [])) [] [] Hp.none V (SIn.no B (RecT.At.nil thR V) (RecT.At.nil feR V)) ⟨_, rfl⟩).mono ?_
  rintro e w' ⟨p, m, c, rfl, O, q⟩
  have hx : allT 1 0 (fun _ => (Hd.none, [])) [] [] Hp.none = Ss.none := by unfold allT; rw [hb, if_pos (by decide)]
  rw [hx, hb]
  exact ⟨p, m, c, rfl, q⟩
theorem sx_tab2 : tabR 4 sxCd sxT sxM2 = some sxRw := by
  unfold tabR
  rw [if_pos (by decide), show layF 4 sxCd (sxT.zip sxM2) 0 [] = some sxRw from by kernel_rfl]
  simp only [sx_sort]
  rw [if_pos (by decide)]
theorem sx_ls2 : swL sxRw sxM2 = [⟨2, 1, sxGp⟩, ⟨3, 0, sxHp⟩, ⟨3, 1, sxHq⟩] := by kernel_rfl
theorem nm_mute {w wr : World} {b S g f : Nat} {vG vR vK vH : Value} (H : SxM w wr b S g f vG vR vK vH sxM2) : Calls Tryz.prog 10 #[.pointer (some ⟨b, 0, none⟩), .slice (some ⟨g, 0, none⟩) 4 4, .slice (some ⟨f, 0, none⟩) 4 4] wr fun e w' => ∃ p c, e = .returned (.tuple #[.slice p 3 c, .int .i64 0]) ∧ wr.grownBy w' none := by
  have hb := bgE_ok sx_tab2 (k := 1) (by decide)
  refine (slist_any _ _ _ 0 4 sxCd sxT sxM2 wr (H.inn H.fe.at (by decide)) ⟨_, rfl⟩).mono ?_
  rintro e w' ⟨v, rfl, O, q⟩
  rw [swT_ok hb sx_tab2, sx_ls2] at O
  obtain ⟨p, c, rfl⟩ := O.form
  exact ⟨p, c, by rw [hb]; rfl, q⟩
end Go.Proofs.YthfjgpjcepmnmaaGreat
