/-
  What the library's functions on texts and numerals do in this program: Join, Repeat, Split at a blank, Clone, Itoa, Atoi, ParseUint of eight bits. Each touches nothing that was there. Atoi and ParseUint lean on what the variables of the two errors hold, Itoa on the table of powers.
-/
import Derived.Test.YtpceelbphpfciaaGreatDoorLib
import Derived.Test.YtpceelbphpfciaaGreatDoorCheck
import Derived.Lib.IndexBytes
import Derived.Lib.AtoiErrMem
import Derived.Lib.AppendIntMem
namespace Go.Proofs.YtpceelbphpfciaaGreatDoor
open Go.RowKit

theorem below_grown {w w' : World} (h : Below w.heap.size w w') : w.grownBy w' none := ⟨h.os, h.tape, h.output, h.size, fun k hk _ => h.block k hk⟩
/-- The table of powers of ten. -/
def PowAt (w : World) : Prop := ∃ t z, w.heap[5]? = some (.cells (Lib.pow10Tab.map fun z => Value.int .u64 z).toArray t z)
theorem PowAt.keep {w w' : World} (h : PowAt w) (g : w.grownBy w' none) : PowAt w' := by
  obtain ⟨t, z, h⟩ := h
  exact ⟨t, z, grown_keep g h (by simp)⟩
/-- The two errors of strconv. -/
def ErrsAt (w : World) : Prop := (∃ te pe t z, w.heap[6]? = some (.cells #[.iface te pe] t z)) ∧ ∃ te pe t z, w.heap[7]? = some (.cells #[.iface te pe] t z)
theorem ErrsAt.keep {w w' : World} (h : ErrsAt w) (g : w.grownBy w' none) : ErrsAt w' := by
  obtain ⟨⟨te, pe, t, z, h⟩, ⟨te', pe', t', z', h'⟩⟩ := h
  exact ⟨⟨te, pe, t, z, grown_keep g h (by simp)⟩, ⟨te', pe', t', z', grown_keep g h' (by simp)⟩⟩
theorem errs_s {w : World} (h : ErrsAt w) : ∃ te pe, w.var? Tryz.prog "strconv.ErrSyntax" = some #[.iface te pe] := by
  obtain ⟨⟨te, pe, t, z, h⟩, _⟩ := h
  have hg : Tryz.prog.globalNamed "strconv.ErrSyntax" = some 6 := by kernel_rfl
  refine ⟨te, pe, ?_⟩
  unfold World.var?
  rw [hg]
  simp [h]
theorem errs_r {w : World} (h : ErrsAt w) : ∃ te pe, w.var? Tryz.prog "strconv.ErrRange" = some #[.iface te pe] := by
  obtain ⟨_, ⟨te, pe, t, z, h⟩⟩ := h
  have hg : Tryz.prog.globalNamed "strconv.ErrRange" = some 7 := by kernel_rfl
  refine ⟨te, pe, ?_⟩
  unfold World.var?
  rw [hg]
  simp [h]

theorem join_any (bk c : Nat) (xs : List ByteArray) (w : World) (hcells : ∀ (j : Nat) x, xs[j]? = some x → w.cell? ⟨bk, j, none⟩ = some (.string x)) (hbk : bk < w.heap.size) (hN : xs.length ≤ 140737488355328) (hcap : xs.length ≤ c) (hlen : (Lib.join (xs.map (·.data.toList)) [32]).length ≤ 140737488355328) :
    Calls Tryz.prog 44 #[.slice (some ⟨bk, 0, none⟩) xs.length c, .string ⟨#[32]⟩] w fun e w' => e = .returned (.string ⟨(Lib.join (xs.map (·.data.toList)) [32]).toArray⟩) ∧ w.grownBy w' none :=
  (Any.strings_Join Tryz.lays156 Tryz.Builder_Extra_156 bk 0 c xs ⟨#[32]⟩ w (fun j x h => by rw [Nat.zero_add]; exact hcells j x h) hbk hN hcap hlen).mono fun _ _ h => ⟨h.1, below_grown h.2⟩
theorem itoa_any (n : Int) (h0 : -9223372036854775808 ≤ n) (h1 : n ≤ 9223372036854775807) (w : World) (T : PowAt w) :
    Calls Tryz.prog 81 #[.int .i64 n] w fun e w' => e = .returned (.string ⟨(Lib.itoa n).toArray⟩) ∧ w.grownBy w' none := by
  refine (Any.strconv_Itoa Tryz.lays171 n h0 h1 w ?_).mono ?_
  · obtain ⟨t, z, h⟩ := T
    have hg : Tryz.prog.globalNamed "internal/strconv.uint64pow10" = some 5 := by kernel_rfl
    unfold Lib.TabIs World.var?
    rw [hg]
    simp [h]
  · rintro e w' ⟨rfl, k, os, rfl⟩
    exact ⟨rfl, below_grown (Lib.below_grow _ _ (Nat.le_refl _) _ _)⟩
set_option maxHeartbeats 1000000 in
theorem clone_any (s : ByteArray) (hs : s.size ≤ 281474976710656) (w : World) : Calls Tryz.prog 140 #[.string s] w fun e w' => e = .returned (.string s) ∧ w.grownBy w' none := by
  have c := Any.stringslite_Clone Tryz.lays316 s w hs
  change Calls Tryz.prog 163 _ _ _ at c
  go_enter Tryz.func140, Tryz.ntmps140
  go_wp2_with (go_at_call 163; refine c.mono ?_; rintro e w1 ⟨rfl, h⟩)
  go_ret
  exact ⟨rfl, below_grown h⟩
/-- How Atoi ends: the number, or an error that is none of nil. -/
def numEnd (x : Lib.NumEnd Int) (e : Ending) : Prop := match x with
  | .ok v => e = .returned (.tuple #[.int .i64 v, .nilIface])
  | _ => ∃ (v : Int) (te : TypeId) (pe : Value), e = .returned (.tuple #[.int .i64 v, .iface te pe])
theorem atoi_any (s : ByteArray) (hs : s.size ≤ 281474976710656) (w : World) (E : ErrsAt w) : Calls Tryz.prog 154 #[.string s] w fun e w' => numEnd (Lib.atoiAll s.data.toList) e ∧ w.grownBy w' none := by
  rcases h : Lib.atoiAll s.data.toList with v | _ | _
  · refine (Any.strconv_Atoi_ok Tryz.lays172 s (by omega) v h w).mono ?_
    rintro e w' ⟨rfl, hw⟩
    refine ⟨rfl, ?_⟩
    rcases hw with rfl | ⟨t, rfl⟩
    · exact grown_refl _ _
    · exact below_grown (Lib.bytesWorld_below _ _ _)
  · obtain ⟨te, pe, hv⟩ := errs_s E
    refine (Any.strconv_Atoi_syntax_var Tryz.lays172 s hs h te pe w hv).mono ?_
    rintro e w' ⟨N, rfl, _, _, hb⟩
    exact ⟨⟨_, _, _, rfl⟩, below_grown hb⟩
  · obtain ⟨te, pe, hv⟩ := errs_r E
    refine (Any.strconv_Atoi_range_var Tryz.lays172 s hs h te pe w hv).mono ?_
    rintro e w' ⟨N, rfl, _, _, hb⟩
    exact ⟨⟨_, _, _, rfl⟩, below_grown hb⟩
/-- How ParseUint ends. -/
def unumEnd (x : Lib.NumEnd Nat) (e : Ending) : Prop := match x with
  | .ok v => e = .returned (.tuple #[.int .u64 (v : Nat), .nilIface])
  | _ => ∃ (v : Int) (te : TypeId) (pe : Value), e = .returned (.tuple #[.int .u64 v, .iface te pe])
theorem puint_any (s : ByteArray) (hs : s.size ≤ 281474976710656) (w : World) (E : ErrsAt w) : Calls Tryz.prog 156 #[.string s, .int .i64 10, .int .i64 8] w fun e w' => unumEnd (Lib.parseUintB 8 s.data.toList) e ∧ w.grownBy w' none := by
  rcases h : Lib.parseUintB 8 s.data.toList with v | _ | _
  · refine (Any.strconv_ParseUint_10_at8_ok Tryz.laysPu s (by omega) v h w).mono ?_
    rintro e w' ⟨rfl, hw⟩
    refine ⟨rfl, ?_⟩
    rcases hw with rfl | rfl
    · exact grown_refl _ _
    · exact below_grown (Lib.bytesWorld_below _ _ _)
  · obtain ⟨te, pe, hv⟩ := errs_s E
    refine (Any.strconv_ParseUint_10_at8_syntax_var Tryz.laysPu s hs h te pe w hv).mono ?_
    rintro e w' ⟨N, rfl, _, _, hb⟩
    exact ⟨⟨_, _, _, rfl⟩, below_grown hb⟩
  · obtain ⟨te, pe, hv⟩ := errs_r E
    refine (Any.strconv_ParseUint_10_at8_range_var Tryz.laysPu s hs h te pe w hv).mono ?_
    rintro e w' ⟨N, rfl, _, _, hb⟩
    exact ⟨⟨_, _, _, rfl⟩, below_grown hb⟩

theorem index_hit : ∀ (l : List UInt8) (i : Nat), Lib.indexByte l 32 = i → l = l.take i ++ 32 :: l.drop (i + 1) ∧ (32 : UInt8) ∉ l.take i
  | [], i, h => by simp [Lib.indexByte] at h
  | c :: r, i, h => by
    have hge := Lib.indexByte_ge r 32
    by_cases hc : c = 32
    · subst hc
      simp [Lib.indexByte] at h
      have h0 : i = 0 := by omega
      subst h0
      simp
    · have hb : (c == 32) = false := by simpa using hc
      by_cases hr : Lib.indexByte r 32 = -1
      · simp [Lib.indexByte, hb, hr] at h
      · simp [Lib.indexByte, hb, hr] at h
        obtain ⟨j, rfl⟩ : ∃ j : Nat, i = j + 1 := ⟨i - 1, by omega⟩
        have hj := index_hit r j (by omega)
        refine ⟨?_, ?_⟩
        · simp only [List.take_succ_cons, List.drop_succ_cons, List.cons_append]
          exact congrArg (c :: ·) hj.1
        · simp only [List.take_succ_cons, List.mem_cons, not_or]
          exact ⟨fun e => hc e.symm, hj.2⟩
theorem index_miss : ∀ (l : List UInt8), Lib.indexByte l 32 = -1 → (32 : UInt8) ∉ l
  | [], _ => by simp
  | c :: r, h => by
    have hge := Lib.indexByte_ge r 32
    by_cases hc : c = 32
    · simp [Lib.indexByte, hc] at h
    · have hb : (c == 32) = false := by simpa using hc
      by_cases hr : Lib.indexByte r 32 = -1
      · intro hm
        rcases List.mem_cons.1 hm with e | e
        · exact hc e.symm
        · exact index_miss r hr e
      · simp [Lib.indexByte, hb, hr] at h
        omega
theorem split_pieces : ∀ (k : Nat) (l : List UInt8), l.count 32 = k → Lib.splitK [32] 0 k l = pieces l
  | 0, l, h => by
    rw [pieces_one l (List.count_eq_zero.1 h)]
    rfl
  | k + 1, l, h => by
    have hge := Lib.indexByte_ge l 32
    have hne : ¬ Lib.indexByte l 32 = -1 := fun e => by
      rw [List.count_eq_zero.2 (index_miss l e)] at h
      omega
    obtain ⟨i, hi⟩ : ∃ i : Nat, Lib.indexByte l 32 = i := ⟨(Lib.indexByte l 32).toNat, by omega⟩
    obtain ⟨e1, e2⟩ := index_hit l i hi
    have hx : Lib.index l [32] = i := (Lib.index_one l 32).trans hi
    have hn : ¬ (Lib.index l [32] == -1) = true := fun e => by have := beq_iff_eq.1 e; omega
    have et : (Lib.index l [32]).toNat = i := by omega
    have hc : (l.drop (i + 1)).count 32 = k := by
      have : l.count 32 = (l.take i ++ 32 :: l.drop (i + 1)).count 32 := congrArg (List.count 32) e1
      rw [List.count_append, List.count_cons_self, List.count_eq_zero.2 e2] at this
      omega
    have ih := split_pieces k (l.drop (i + 1)) hc
    have ep : pieces l = l.take i :: pieces (l.drop (i + 1)) := (congrArg pieces e1).trans (pieces_app _ _ e2)
    rw [Lib.splitK, if_neg hn, et, ep]
    simp only [Nat.add_zero, List.length_cons, List.length_nil, Nat.zero_add]
    rw [ih]
/-- The pieces of a text, as texts. -/
def wordsB (s : ByteArray) : List ByteArray := (pieces s.data.toList).map fun l => ⟨l.toArray⟩
theorem splitB_words (s : ByteArray) : Lib.splitB ⟨#[32]⟩ 0 (Lib.countB s ⟨#[32]⟩) s = wordsB s := by
  have e := Lib.splitB_data ⟨#[32]⟩ 0 (Lib.countB s ⟨#[32]⟩) s
  have hc : Lib.countB s ⟨#[32]⟩ = s.data.toList.count 32 := Lib.count_one 32 s.data.toList
  rw [hc, show (⟨#[32]⟩ : ByteArray).data.toList = [32] from rfl, split_pieces _ _ rfl] at e
  rw [hc]
  unfold wordsB
  rw [← e, List.map_map]
  refine (List.map_id _).symm.trans (List.map_congr_left fun x _ => ?_)
  rcases x with ⟨⟨l⟩⟩
  rfl
theorem Tryz.info9 : (Tryz.prog.info? 9).map (fun i => (i.zero, i.size, i.bytes)) = some (some (.string ByteArray.empty), 1, 16) := by kernel_rfl
theorem countB_words (s : ByteArray) : Lib.countB s ⟨#[32]⟩ + 1 = (wordsB s).length := by
  rw [← splitB_words, Lib.splitB_all ⟨#[32]⟩ (by decide) 0 _ s rfl]
set_option maxHeartbeats 1000000 in
theorem split_any (s : ByteArray) (hs : s.size < 4294967281) (w : World) : Calls Tryz.prog 29 #[.string s, .string ⟨#[32]⟩] w fun e w' => e = .returned (.slice (some ⟨w.heap.size, 0, none⟩) (wordsB s).length (wordsB s).length) ∧ w' = w.alloc (.cells ((wordsB s).map Value.string).toArray 9) := by
  have hle := Lib.countB_le ⟨#[32]⟩ (by decide) s.size s (Nat.le_refl _)
  have hcore := Any.strings_genSplit_core { Tryz.lays146 with } Tryz.info9 s ⟨#[32]⟩ 0 (-1) (Lib.countB s ⟨#[32]⟩ + 1) w hs (by decide) (Nat.zero_le _)
    (fun x c _ => (Any.strings_Index_one { Tryz.lays146 with } x 32 _).mono fun e w' h => ⟨by rw [h.1, ← Lib.index_one], h.2⟩)
    ((Any.strings_Count_one { Tryz.lays146 with } s 32 w).mono fun e w' h => ⟨by rw [h.1]; exact congrArg (fun n : Nat => Ending.returned (.int .i64 (n : Int))) (Lib.count_one 32 s.data.toList).symm, h.2⟩)
    (by decide) (by decide) (by rw [if_pos (by decide)]; omega)
  rw [Nat.add_sub_cancel, splitB_words, countB_words] at hcore
  rw [Lib.cellsOf_full] at hcore
  change Calls Tryz.prog 63 _ _ _ at hcore
  go_enter Tryz.func29, Tryz.ntmps29
  go_wp2_with (go_at_call 63; refine hcore.mono ?_; rintro e w' ⟨rfl, hw⟩; rw [hw])
  go_ret
  exact ⟨rfl, rfl⟩
end Go.Proofs.YtpceelbphpfciaaGreatDoor
