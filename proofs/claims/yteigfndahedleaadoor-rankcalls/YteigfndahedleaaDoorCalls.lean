/-
  RankCalls, walked: of any number, any name, any value what the document says; asked twice; what is told is new memory.
-/
import Derived.Test.YteigfndahedleaaDoorSort
import Derived.Test.YteigfndahedleaaDoorPlace
import Derived.Test.YteigfndahedleaaDoorMore
import Derived.Test.YteigfndahedleaaDoorApartI
import Derived.Test.YteigfndahedleaaDoorApartT
namespace Go.Proofs.YteigfndahedleaaDoor
open Go.RowKit

/-- The names, in a block of their own. -/
def TxAt (w : World) (g : Nat) : Prop := w.heap[g]? = some (.cells #[.string ⟨#[108, 111, 119]⟩, .string ⟨#[115, 116, 101, 112]⟩, .string ⟨#[109, 105, 100]⟩, .string ⟨#[104, 105, 103, 104]⟩, .string ⟨#[116, 111, 112]⟩] 46 (0, 0))
/-- The order, in a block of its own. -/
def OrAt (w : World) (g : Nat) : Prop := w.heap[g]? = some (.cells (ints [0, 2, 1, 3, 4]).toArray 3 (0, 0))
theorem TxAt.keep {w w' : World} {g : Nat} (h : TxAt w g) (k : w.grownBy w' none) : TxAt w' g := grown_keep k h (by simp)
theorem OrAt.keep {w w' : World} {g : Nat} (h : OrAt w g) (k : w.grownBy w' none) : OrAt w' g := grown_keep k h (by simp)
theorem tx_or {w : World} {a b : Nat} (h : TxAt w a) (k : OrAt w b) : a ≠ b := fun e => by
  unfold TxAt at h
  unfold OrAt at k
  rw [e, k] at h
  simp at h
theorem OrAt.ints {w : World} {g : Nat} (h : OrAt w g) : IntsAt w (.slice (some ⟨g, 0, none⟩) 5 5) [0, 2, 1, 3, 4] := IntsAt.whole (l := [0, 2, 1, 3, 4]) h (small_maxLen (by simp))
theorem NamesAt.pos {w : World} (h : NamesAt w) : 0 < w.heap.size := World.block_lt_of_cell? _ _ h.1
theorem NamesAt.kept {w w' : World} {S : List Nat} (h : NamesAt w) (k : Kept S w w') (hS : 0 ∉ S) : NamesAt w' := ⟨k.cell h.1 hS, k.cell h.2.1 hS, k.cell h.2.2.1 hS, k.cell h.2.2.2.1 hS, k.cell h.2.2.2.2 hS⟩
theorem grown_kept {a b c : World} {S : List Nat} (g : a.grownBy b none) (k : Kept S b c) (hS : ∀ x, x ∈ S → a.heap.size ≤ x) : a.grownBy c none :=
  ⟨k.os.trans g.os, k.tape.trans g.tape, k.output.trans g.output, Nat.le_trans g.size k.size, fun i hi _ => (k.block i (Nat.lt_of_lt_of_le hi g.size) (fun e => by have := hS i e; omega)).trans (g.block i hi (by simp))⟩
theorem told_tx {w : World} {x y : Nat} (hx : TxAt w x) (hy : TxAt w y) : ApartT.Told (w.alloc (.cells #[.slice (some ⟨x, 0, none⟩) 5 5, .slice (some ⟨y, 0, none⟩) 5 5] 34)) (.slice (some ⟨w.heap.size, 0, none⟩) 2 2) [(x, 5), (y, 5)] := by
  have g := World.grownBy_alloc w (.cells #[.slice (some ⟨x, 0, none⟩) 5 5, .slice (some ⟨y, 0, none⟩) 5 5] 34) none
  refine ⟨⟨rfl, Or.inr ⟨w.heap.size, 2, _, rfl, Nat.zero_le _, alloc_at _ _ _, Nat.le_refl _, small_len (by omega), rfl, rfl⟩⟩, fun z hz => ?_⟩
  rcases List.mem_cons.1 hz with rfl | hz
  · exact ⟨Nat.le_refl _, _, hx.keep g, rfl⟩
  · have e : z = (y, 5) := by simpa using hz
    subst e
    exact ⟨Nat.le_refl _, _, hy.keep g, rfl⟩
theorem told_or {w : World} {x y : Nat} (hx : OrAt w x) (hy : OrAt w y) : ApartI.Told (w.alloc (.cells #[.slice (some ⟨x, 0, none⟩) 5 5, .slice (some ⟨y, 0, none⟩) 5 5] 31)) (.slice (some ⟨w.heap.size, 0, none⟩) 2 2) [(x, 5), (y, 5)] := by
  have g := World.grownBy_alloc w (.cells #[.slice (some ⟨x, 0, none⟩) 5 5, .slice (some ⟨y, 0, none⟩) 5 5] 31) none
  refine ⟨⟨rfl, Or.inr ⟨w.heap.size, 2, _, rfl, Nat.zero_le _, alloc_at _ _ _, Nat.le_refl _, small_len (by omega), rfl, rfl⟩⟩, fun z hz => ?_⟩
  rcases List.mem_cons.1 hz with rfl | hz
  · exact ⟨Nat.le_refl _, _, hx.keep g, rfl⟩
  · have e : z = (y, 5) := by simpa using hz
    subst e
    exact ⟨Nat.le_refl _, _, hy.keep g, rfl⟩
set_option maxRecDepth 100000 in
set_option maxHeartbeats 8000000 in
theorem calls_any (k : Int) (s : ByteArray) (x : Int) (w : World) (h : NamesAt w) : Calls Tryd.prog 4 #[.int .i64 k, .string s, .int .i64 x] w fun e w' => e = .returned (.bool true) ∧ w.grownBy w' none := by
  have hof := of_any k
  have hrof := rof_any k
  generalize ansV k = va at *
  generalize ansT k = vt at *
  generalize ansE k = ve at *
  have hf := find_any s
  have hrf := rfind_any s
  generalize fI s.toList = fi at *
  generalize fB s.toList = fb at *
  have hp := place_any x
  have hrp := rplace_any x
  generalize pI x = qi at *
  generalize pB x = qb at *
  have hfb : (fb == fb) = true := by simp
  have hqb : (qb == qb) = true := by simp
  go_enter Tryd.func4, Tryd.ntmps4
  go_wp2_with fail
  refine (hof _).mono ?_
  rintro e w1 ⟨rfl, g1⟩
  have N1 := h.keep g1
  go_wp2_with fail
  refine (hrof _).mono ?_
  rintro e w2 ⟨rfl, g2⟩
  have N2 := N1.keep g2
  have G2 := grown_trans g1 g2
  clear N1 g1 g2
  go_wp2_with fail
  refine (hf _ N2).mono ?_
  rintro e w3 ⟨rfl, rfl⟩
  go_wp2_with fail
  refine (hrf _).mono ?_
  rintro e w4 ⟨rfl, g4⟩
  have N4 := N2.keep g4
  have G4 := grown_trans G2 g4
  clear N2 G2 g4
  go_wp2_with fail
  refine (hp _).mono ?_
  rintro e w5 ⟨rfl, g5⟩
  have N5 := N4.keep g5
  have G5 := grown_trans G4 g5
  clear N4 G4 g5
  go_wp2_with fail
  refine (hrp _).mono ?_
  rintro e w6 ⟨rfl, rfl⟩
  clear hof hrof hf hrf hp hrp
  go_wp2_with fail
  refine (sum_any _).mono ?_
  rintro e w7 ⟨rfl, g7⟩
  have N7 := N5.keep g7
  have G7 := grown_trans G5 g7
  clear N5 G5 g7
  go_wp2_with fail
  refine (rsum_any _).mono ?_
  rintro e w8 ⟨rfl, rfl⟩
  go_wp2_with fail
  refine (lives_any _).mono ?_
  rintro e w9 ⟨rfl, g9⟩
  have N9 := N7.keep g9
  have G9 := grown_trans G7 g9
  clear N7 G7 g9
  go_wp2_with fail
  refine (rankNames_any _ N9).mono ?_
  rintro e wa ⟨rfl, X0, ga, sa⟩
  have Xa : TxAt wa w9.heap.size := X0
  have Na := N9.keep ga
  have Ga := grown_trans G9 ga
  have hn : w.heap.size ≤ w9.heap.size := G9.size
  clear X0 N9 G9 ga sa
  generalize w9.heap.size = gn at *
  go_wp2_with fail
  refine (order_any _).mono ?_
  rintro e wb ⟨go, rfl, hgo, O0, gb⟩
  have Ob : OrAt wb go := O0
  have Xb := Xa.keep gb
  have Nb := Na.keep gb
  have Gb := grown_trans Ga gb
  have ho : w.heap.size ≤ go := Nat.le_trans Ga.size hgo
  clear O0 Xa Na Ga gb hgo
  go_wp2_with fail
  refine (rnames_any _).mono ?_
  rintro e wc ⟨rfl, hwc⟩
  have gc : wb.grownBy wc none := by rw [hwc]; exact World.grownBy_alloc _ _ _
  have Rc := alloc_at wb #[.string ⟨#[108, 111, 119]⟩, .string ⟨#[115, 116, 101, 112]⟩, .string ⟨#[109, 105, 100]⟩, .string ⟨#[104, 105, 103, 104]⟩, .string ⟨#[116, 111, 112]⟩] 9
  rw [← hwc] at Rc
  have Xc := Xb.keep gc
  have Oc := Ob.keep gc
  have Nc := Nb.keep gc
  have Gc := grown_trans Gb gc
  clear hwc gc Xb Ob Nb Gb
  generalize wb.heap.size = sb at *
  go_wp2_with fail
  refine (sameTexts_any gn sb 46 9 _ Xc Rc).mono ?_
  rintro e wd ⟨rfl, gd⟩
  have Xd := Xc.keep gd
  have Od := Oc.keep gd
  have Nd := Nc.keep gd
  have Gd := grown_trans Gc gd
  clear gd Xc Oc Nc Gc Rc
  go_wp2_with fail
  refine (rorder_any _).mono ?_
  rintro e we ⟨v, rfl, Oe, ge⟩
  obtain ⟨q, cp, rfl⟩ := Oe.form (n := 5) rfl
  have Xe := Xd.keep ge
  have Re := Od.keep ge
  have Ne := Nd.keep ge
  have Ge := grown_trans Gd ge
  have He : Hid (IntsAt we (.slice q 5 cp) [0, 2, 1, 3, 4]) := Oe.ints
  clear ge Oe Xd Od Nd Gd
  go_wp2_with fail
  refine (same_ints _ _ [0, 2, 1, 3, 4] [0, 2, 1, 3, 4] _ Re.ints He.out).mono ?_
  rintro e wf ⟨rfl, nf, hwf⟩
  have gf : we.grownBy wf none := by rw [hwf]; exact grown_drewN _ _ _
  have Xf := Xe.keep gf
  have Of := Re.keep gf
  have Nf := Ne.keep gf
  have Gf := grown_trans Ge gf
  clear hwf gf Xe Re Ne Ge He
  rw [decide_eq_true rfl]
  go_wp2_with fail
  refine (rankNames_any _ Nf).mono ?_
  rintro e wg ⟨rfl, X0, gg, sg⟩
  have Yg : TxAt wg wf.heap.size := X0
  have Xg := Xf.keep gg
  have Og := Of.keep gg
  have Ng := Nf.keep gg
  have Gg := grown_trans Gf gg
  have hm : w.heap.size ≤ wf.heap.size := Gf.size
  have hnm : gn ≠ wf.heap.size := Nat.ne_of_lt (block_lt Xf)
  clear X0 Xf Of Nf Gf gg sg
  generalize wf.heap.size = gm at *
  go_wp2_with fail
  refine (order_any _).mono ?_
  rintro e wh ⟨gp, rfl, hgp, O0, gh⟩
  have Ph : OrAt wh gp := O0
  have Xh := Xg.keep gh
  have Yh := Yg.keep gh
  have Oh := Og.keep gh
  have Nh := Ng.keep gh
  have Gh := grown_trans Gg gh
  have hp : w.heap.size ≤ gp := Nat.le_trans Gg.size hgp
  have hop : go ≠ gp := Nat.ne_of_lt (Nat.lt_of_lt_of_le (block_lt Og) hgp)
  clear O0 Xg Yg Og Ng Gg gh hgp
  go_wp2_with fail
  refine (ApartT.apart_any _ [(gn, 5), (gm, 5)] _ (told_tx Xh Yh) (by simp) (by simp) (by simpa using hnm)).mono ?_
  rintro e wi ⟨rfl, ki⟩
  have ga := World.grownBy_alloc wh (.cells #[.slice (some ⟨gn, 0, none⟩) 5 5, .slice (some ⟨gm, 0, none⟩) 5 5] 34) none
  have hpos : 0 < w.heap.size := h.pos
  have Ni := (Nh.keep ga).kept ki (by simp; omega)
  have Oi : OrAt wi go := ki.keep (Oh.keep ga) (by simp [(tx_or Xh Oh).symm, (tx_or Yh Oh).symm])
  have Pi : OrAt wi gp := ki.keep (Ph.keep ga) (by simp [(tx_or Xh Ph).symm, (tx_or Yh Ph).symm])
  have Gi := grown_kept (grown_trans Gh ga) ki (fun z hz => by simp at hz; rcases hz with rfl | rfl <;> assumption)
  clear ga ki Xh Yh Oh Ph Nh Gh
  go_wp2_with fail
  refine (ApartI.apart_any _ [(go, 5), (gp, 5)] _ (told_or Oi Pi) (by simp) (by simp) (by simpa using hop)).mono ?_
  rintro e wj ⟨rfl, kj⟩
  have ga := World.grownBy_alloc wi (.cells #[.slice (some ⟨go, 0, none⟩) 5 5, .slice (some ⟨gp, 0, none⟩) 5 5] 31) none
  have Nj := (Ni.keep ga).kept kj (by simp; omega)
  have Gj := grown_kept (grown_trans Gi ga) kj (fun z hz => by simp at hz; rcases hz with rfl | rfl <;> assumption)
  clear ga kj Oi Pi Ni Gi
  go_wp2_with fail
  refine (rankNames_any _ Nj).mono ?_
  rintro e wk ⟨rfl, X0, gk, sk⟩
  have Xk : TxAt wk wj.heap.size := X0
  have Gk := grown_trans Gj gk
  clear X0 Nj Gj gk sk
  generalize wj.heap.size = gk at *
  go_wp2_with fail
  refine (rnames_any _).mono ?_
  rintro e wl ⟨rfl, hwl⟩
  have gl : wk.grownBy wl none := by rw [hwl]; exact World.grownBy_alloc _ _ _
  have Rl := alloc_at wk #[.string ⟨#[108, 111, 119]⟩, .string ⟨#[115, 116, 101, 112]⟩, .string ⟨#[109, 105, 100]⟩, .string ⟨#[104, 105, 103, 104]⟩, .string ⟨#[116, 111, 112]⟩] 9
  rw [← hwl] at Rl
  have Xl := Xk.keep gl
  have Gl := grown_trans Gk gl
  clear hwl gl Xk Gk
  generalize wk.heap.size = sl at *
  go_wp2_with fail
  refine (sameTexts_any gk sl 46 9 _ Xl Rl).mono ?_
  rintro e wm ⟨rfl, gm'⟩
  have Gm := grown_trans Gl gm'
  clear Xl Rl Gl gm'
  go_wp2_with fail
  refine (order_any _).mono ?_
  rintro e wn ⟨gz, rfl, hgz, O0, gn'⟩
  have On : OrAt wn gz := O0
  have Gn := grown_trans Gm gn'
  clear O0 Gm gn' hgz
  go_wp2_with fail
  refine (rorder_any _).mono ?_
  rintro e wo ⟨v, rfl, Oo, go'⟩
  obtain ⟨q2, cp2, rfl⟩ := Oo.form (n := 5) rfl
  have Oo2 := On.keep go'
  have Go := grown_trans Gn go'
  have Ho : Hid (IntsAt wo (.slice q2 5 cp2) [0, 2, 1, 3, 4]) := Oo.ints
  clear go' Oo On Gn
  go_wp2_with fail
  refine (same_ints _ _ [0, 2, 1, 3, 4] [0, 2, 1, 3, 4] _ Oo2.ints Ho.out).mono ?_
  rintro e wp ⟨rfl, np, hwp⟩
  have Gp : w.grownBy wp none := by rw [hwp]; exact grown_trans Go (grown_drewN _ _ _)
  clear hwp Oo2 Go Ho
  rw [decide_eq_true rfl]
  go_wp2
  go_ret
  exact ⟨rfl, Gp⟩
end Go.Proofs.YteigfndahedleaaDoor
